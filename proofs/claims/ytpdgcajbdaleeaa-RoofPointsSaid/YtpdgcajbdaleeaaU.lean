/- heightAt at every side. -/
import Derived.Test.YtpdgcajbdaleeaaT1
import Derived.Test.YtpdgcajbdaleeaaT2
import Derived.Test.YtpdgcajbdaleeaaT3
import Derived.Test.YtpdgcajbdaleeaaT4
namespace Go.Proofs.Ytpdgcajbdaleeaa
open Go.RowKit

theorem heightAt_any (f : Fac) (p : Pnt) (hf : f.ok) (hp : p.ok) (w : World) :
    Calls Try.prog 34 #[.agg #[.string f.name, .int .i64 f.side, .int .i64 f.foot, .int .i64 f.base, .int .i64 f.rise, .int .i64 f.run, .slice f.ca f.cs.length f.cc], .agg #[.int .i64 p.x, .int .i64 p.y]] w fun e w' => e = .returned (.agg #[.int .i64 (hgtN f p), .int .i64 (hgtD f p)]) ∧ Below w.heap.size w w' := by
  have h1 := hf.s1
  have h4 := hf.s4
  rcases (show f.side = 1 ∨ f.side = 2 ∨ f.side = 3 ∨ f.side = 4 by omega) with h | h | h | h
  · exact heightAt1 f p hf h hp w
  · exact heightAt2 f p hf h hp w
  · exact heightAt3 f p hf h hp w
  · exact heightAt4 f p hf h hp w
end Go.Proofs.Ytpdgcajbdaleeaa
