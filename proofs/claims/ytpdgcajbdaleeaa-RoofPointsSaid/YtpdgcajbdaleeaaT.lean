/- heightAt: the height of a face above a point. -/
import Derived.Test.YtpdgcajbdaleeaaS
namespace Go.Proofs.Ytpdgcajbdaleeaa
open Go.RowKit

/-- The numbers of a face that may be. -/
structure Fac.ok (f : Fac) : Prop where
  s1 : 1 ≤ f.side
  s4 : f.side ≤ 4
  f0 : 0 ≤ f.foot
  f1 : f.foot ≤ 10000
  b0 : 0 ≤ f.base
  b1 : f.base ≤ 10000
  r0 : 1 ≤ f.rise
  r1 : f.rise ≤ 100
  n0 : 1 ≤ f.run
  n1 : f.run ≤ 100

def hNum (f : Fac) (p : Pnt) : Int := f.base * f.run + f.rise * (ownV f.side p - ownV f.side ⟨f.foot, f.foot⟩)
/-- The height of a face above a point, in lowest terms. -/
def hgtN (f : Fac) (p : Pnt) : Int := lowN (hNum f p) f.run
def hgtD (f : Fac) (p : Pnt) : Int := lowD (hNum f p) f.run

theorem run_field0 (a b : Int) (w : World) : (Instr.field 87 (.agg #[.int .i64 a, .int .i64 b]) 0).run Try.prog w = .ok (.int .i64 a) w := by kernel_rfl
theorem run_field1 (a b : Int) (w : World) : (Instr.field 87 (.agg #[.int .i64 a, .int .i64 b]) 1).run Try.prog w = .ok (.int .i64 b) w := by kernel_rfl
theorem own1_xy (x y : Int) (hx : -1000000 ≤ x) (hx' : x ≤ 1000000) (hy : -1000000 ≤ y) (hy' : y ≤ 1000000) (w : World) : Calls Try.prog 94 #[.agg #[.int .i64 x, .int .i64 y]] w fun e w' => e = .returned (.agg #[.int .i64 (x), .int .i64 (y)]) ∧ Below w.heap.size w w' :=
  own1_any ⟨x, y⟩ ⟨hx, hx'⟩ ⟨hy, hy'⟩ w
theorem own2_xy (x y : Int) (hx : -1000000 ≤ x) (hx' : x ≤ 1000000) (hy : -1000000 ≤ y) (hy' : y ≤ 1000000) (w : World) : Calls Try.prog 95 #[.agg #[.int .i64 x, .int .i64 y]] w fun e w' => e = .returned (.agg #[.int .i64 (y), .int .i64 (-x)]) ∧ Below w.heap.size w w' :=
  own2_any ⟨x, y⟩ ⟨hx, hx'⟩ ⟨hy, hy'⟩ w
theorem own3_xy (x y : Int) (hx : -1000000 ≤ x) (hx' : x ≤ 1000000) (hy : -1000000 ≤ y) (hy' : y ≤ 1000000) (w : World) : Calls Try.prog 96 #[.agg #[.int .i64 x, .int .i64 y]] w fun e w' => e = .returned (.agg #[.int .i64 (-x), .int .i64 (-y)]) ∧ Below w.heap.size w w' :=
  own3_any ⟨x, y⟩ ⟨hx, hx'⟩ ⟨hy, hy'⟩ w
theorem own4_xy (x y : Int) (hx : -1000000 ≤ x) (hx' : x ≤ 1000000) (hy : -1000000 ≤ y) (hy' : y ≤ 1000000) (w : World) : Calls Try.prog 97 #[.agg #[.int .i64 x, .int .i64 y]] w fun e w' => e = .returned (.agg #[.int .i64 (-y), .int .i64 (x)]) ∧ Below w.heap.size w w' :=
  own4_any ⟨x, y⟩ ⟨hx, hx'⟩ ⟨hy, hy'⟩ w

end Go.Proofs.Ytpdgcajbdaleeaa
