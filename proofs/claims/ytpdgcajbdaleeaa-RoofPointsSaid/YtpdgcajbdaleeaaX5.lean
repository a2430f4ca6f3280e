/- seen at every side; whole. -/
import Derived.Test.YtpdgcajbdaleeaaX1
import Derived.Test.YtpdgcajbdaleeaaX2
import Derived.Test.YtpdgcajbdaleeaaX3
import Derived.Test.YtpdgcajbdaleeaaX4
namespace Go.Proofs.Ytpdgcajbdaleeaa
open Go.RowKit

theorem seen_any (f : Fac) (e : Edg) (h1 : 1 ≤ f.side) (h4 : f.side ≤ 4) (he : e.ok) (w : World) :
    Calls Try.prog 105 #[.agg #[.string f.name, .int .i64 f.side, .int .i64 f.foot, .int .i64 f.base, .int .i64 f.rise, .int .i64 f.run, .slice f.ca f.cs.length f.cc], .agg #[.int .i64 e.a.x, .int .i64 e.a.y, .int .i64 e.b.x, .int .i64 e.b.y]] w fun r w' => r = .returned (.agg #[.int .i64 (seenU f.side e), .int .i64 (seenV f.side e)]) ∧ Below w.heap.size w w' := by
  obtain ⟨⟨⟨a0, a1⟩, a2, a3⟩, ⟨b0, b1⟩, b2, b3⟩ := he
  obtain ⟨name, side, foot, base, rise, run, ca, cc, cs⟩ := f
  rcases (show side = 1 ∨ side = 2 ∨ side = 3 ∨ side = 4 by simp only [] at h1 h4; omega) with rfl | rfl | rfl | rfl
  · refine (seen1_any name foot base rise run ca cs.length cc _ _ _ _ a0 a1 a2 a3 b0 b1 b2 b3 w).mono ?_
    rintro r w' ⟨rfl, hb⟩
    refine ⟨?_, hb⟩
    simp only [seenU, seenV, ownU, ownV]
    simp
    try omega
  · refine (seen2_any name foot base rise run ca cs.length cc _ _ _ _ a0 a1 a2 a3 b0 b1 b2 b3 w).mono ?_
    rintro r w' ⟨rfl, hb⟩
    refine ⟨?_, hb⟩
    simp only [seenU, seenV, ownU, ownV]
    simp
    try omega
  · refine (seen3_any name foot base rise run ca cs.length cc _ _ _ _ a0 a1 a2 a3 b0 b1 b2 b3 w).mono ?_
    rintro r w' ⟨rfl, hb⟩
    refine ⟨?_, hb⟩
    simp only [seenU, seenV, ownU, ownV]
    simp
    try omega
  · refine (seen4_any name foot base rise run ca cs.length cc _ _ _ _ a0 a1 a2 a3 b0 b1 b2 b3 w).mono ?_
    rintro r w' ⟨rfl, hb⟩
    refine ⟨?_, hb⟩
    simp only [seenU, seenV, ownU, ownV]
    simp
    try omega

end Go.Proofs.Ytpdgcajbdaleeaa
