/- lives: the examples of the chapter come out. No condition. -/
import Derived.Test.YtmcmhgjlpffcnaaPT
set_option linter.unusedSimpArgs false
namespace Go.Proofs.Ytmcmhgjlpffcnaa
open Go.RowKit

set_option maxRecDepth 100000 in
set_option maxHeartbeats 8000000 in
theorem lives_any (w : World) : Calls Try.prog 14 #[] w fun e w' => e = .returned (.bool true) ∧ Below w.heap.size w w' := by
  go_enter Try.func14, Try.ntmps14
  go_wp2_with fail
  refine (example_any w).mono ?_
  rintro e w1 ⟨B, rfl, hp, hb1⟩
  have hw := ways_any ⟨5, 0, 0, some ⟨B, 0, none⟩, 4, exPcs⟩ w1 hp (by show exPcs.length ≤ _; decide) (by intro x hx; simp only [exPcs, List.mem_cons, List.not_mem_nil, or_false] at hx; rcases hx with rfl | rfl | rfl | rfl <;> decide)
  rw [(ex_ways _).1, (ex_ways _).2, show endI 0 ((21 : Nat) : Int) = 21 from rfl] at hw
  have HW := Lib.hid hw
  have HB1 := Lib.hid hb1
  clear hw hb1 hp
  go_wp2_with fail
  refine HW.out.mono ?_
  rintro e w2 ⟨rfl, hb2⟩
  have HB2 := Lib.hid (HB1.out.trans (hb2.mono HB1.out.size))
  clear hb2 HW
  go_wp2_with fail
  refine (rods_any w2).mono ?_
  rintro e w3 ⟨B3, rfl, hp, hb3⟩
  have hw := lower_any ⟨10, 1, some ⟨B3, 0, none⟩, 3, exCts⟩ w3 (ex_lower _).1 hp
  rw [(ex_lower _).2.1, (ex_lower _).2.2] at hw
  dsimp only at hw
  rw [show exCts.length = 3 from rfl, show ([2, 1, 1] : List Int).length = 3 from rfl] at hw
  have HW := Lib.hid hw
  have HB3 := Lib.hid (HB2.out.trans (hb3.mono HB2.out.size))
  clear hw hb3 hp
  go_wp2_with fail
  refine HW.out.mono ?_
  rintro e w4 ⟨B4, rfl, hB4, hin, hb4⟩
  have HB4 := Lib.hid (HB3.out.trans (hb4.mono HB3.out.size))
  have HIN := Lib.hid hin
  clear hb4 hin HW
  go_wp2_with fail
  have kl := Blk.new w4 3 #[.int .i64 2, .int .i64 1, .int .i64 1]
  have hb5 : Below w4.heap.size w4 (w4.alloc (.cells #[.int .i64 2, .int .i64 1, .int .i64 1] 3)) := (Below.refl _ _).alloc (Nat.le_refl _) _
  generalize w4.alloc (.cells #[.int .i64 2, .int .i64 1, .int .i64 1] 3) = w5 at *
  have hin2 : IsInts w5 (some ⟨w4.heap.size, 0, none⟩) 3 [2, 1, 1] := .inr ⟨_, 0, rfl, kl.lt, by decide, by decide, fun j x hj => by
    match j, hj with
    | 0, hj => cases hj; exact kl.cell 0
    | 1, hj => cases hj; exact kl.cell 1
    | 2, hj => cases hj; exact kl.cell 2
    | j + 3, hj => cases hj⟩
  refine (sameInts_any [2, 1, 1] [2, 1, 1] (some ⟨B4, 0, none⟩) (some ⟨w4.heap.size, 0, none⟩) 3 3 w5 (HIN.out.belowS hb5) hin2).mono ?_
  rintro e w6 ⟨rfl, hb6⟩
  have hf := HB4.out.trans ((hb5.mono HB4.out.size).trans (hb6.mono (Nat.le_trans HB4.out.size hb5.size)))
  rw [show decide (([2, 1, 1] : List Int) = [2, 1, 1]) = true from rfl]
  have HF := Lib.hid hf
  clear hf hb5 hb6 kl hin2
  go_wp2_with fail
  go_ret
  exact ⟨rfl, HF.out⟩
end Go.Proofs.Ytmcmhgjlpffcnaa
