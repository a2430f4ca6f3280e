/- What is required of any area: it returns, or panics with the area's first error; marks in order. No condition. -/
import Derived.Test.YtoigihmgjacbjaaDoorWN
set_option linter.unusedSimpArgs false
namespace Go.Proofs.YtoigihmgjacbjaaDoor
open Go.RowKit

def holB (h : Hol) : Bool := decide (h.a.x < h.b.x) && decide (h.a.y < h.b.y)
def areaE (l : List Pnt) (hs : List Hol) : Int :=
  if isFromB (l.length : Int) 3 12 = false then 1 else if ¬ cornE l = 0 then cornE l else if 6 < hs.length then 3 else if hs.all holB = false then 1 else 0
/-- What is required: it is so, or a panic bears the error. -/
def ReqSaid (x : Int) (w : World) (e : Ending) (w' : World) : Prop := ((x = 0 ∧ e = .returned (.tuple #[])) ∨ (x ≠ 0 ∧ e = chain x)) ∧ Below w.heap.size w w'
theorem cornE_range (l : List Pnt) : cornE l = 0 ∨ cornE l = 1 ∨ cornE l = 6 ∨ cornE l = 9 := by
  unfold cornE
  repeat' split
  all_goals simp

set_option maxRecDepth 100000 in
set_option maxHeartbeats 8000000 in
theorem requireArea_any (pa : Option Addr) (pc : Nat) (ha : Option Addr) (hc : Nat) (l : List Pnt) (hs : List Hol) (w : World) (hl : IsPts w (.slice pa l.length pc) l) (hh : IsRow4 holC w ha hc hs) :
    Calls Tryd.prog 64 #[.agg #[.slice pa l.length pc, .slice ha hs.length hc]] w (ReqSaid (areaE l hs) w) := by
  have k1 := Blk.new w 25 #[.slice pa l.length pc, .slice ha hs.length hc]
  have hb1 : Below w.heap.size w (w.alloc (.cells #[.slice pa l.length pc, .slice ha hs.length hc] 25)) := (Below.refl _ w).alloc (Nat.le_refl _) _
  have HL := Lib.hid hl
  have HH := Lib.hid hh
  have hlen := hh.len
  clear hl hh
  go_enter Tryd.func64, Tryd.ntmps64
  go_upto_region 1 with fail
  generalize (w.alloc (.cells #[.slice pa l.length pc, .slice ha hs.length hc] 25)) = w1 at *
  obtain ⟨a0, a1⟩ := (show w1.cell? ⟨w.heap.size, 0, none⟩ = some (.slice pa l.length pc) ∧ w1.cell? ⟨w.heap.size, 1, none⟩ = some (.slice ha hs.length hc) from ⟨k1.cell 0, k1.cell 1⟩)
  have l1 := k1.lt
  have HB1 := Lib.hid hb1
  have K1 := Lib.hid k1
  clear k1 hb1
  go_wp2_with fail
  refine (isFrom_any _ _ _ _).mono ?_
  rintro e w2 ⟨rfl, rfl⟩
  cases h1 : isFromB (l.length : Int) 3 12 with
  | false =>
    have HV := Lib.hid (show areaE l hs = 1 by unfold areaE; rw [if_pos h1])
    clear h1
    go_wp2_with fail
    refine (require_no 1 _).mono ?_
    rintro e w2 ⟨rfl, rfl⟩
    go_wp2_with fail
    exact ⟨rfl, .inr ⟨by rw [HV.out]; decide, by rw [HV.out]⟩, HB1.out⟩
  | true =>
  have hf : 3 ≤ l.length ∧ l.length ≤ 12 := by simp [isFromB] at h1; omega
  have H1 := Lib.hid h1
  clear h1
  go_wp2_with fail
  refine (require_yes 1 _).mono ?_
  rintro e w2 ⟨rfl, rfl⟩
  go_wp2_with fail
  refine (checkCorners_any pa l.length pc l _ (HL.out.below HB1.out) (by omega) (by omega)).mono ?_
  rintro e w2 ⟨rfl, hb⟩
  have HB2 := Lib.hid (HB1.out.trans (hb.mono HB1.out.size))
  have k2 := K1.out.belowS hb
  obtain ⟨b0, b1⟩ := (show w2.cell? ⟨w.heap.size, 0, none⟩ = some (.slice pa l.length pc) ∧ w2.cell? ⟨w.heap.size, 1, none⟩ = some (.slice ha hs.length hc) from ⟨k2.cell 0, k2.cell 1⟩)
  have l2 := k2.lt
  clear a0 a1 l1 hb k2
  by_cases hE : cornE l = 0
  rotate_left
  · have HV := Lib.hid (show areaE l hs = cornE l by unfold areaE; rw [if_neg (by rw [H1.out]; decide), if_pos hE])
    have HE := Lib.hid hE
    generalize cornE l = E at *
    clear hE
    go_wp2_with fail
    refine (raise_no E HE.out _).mono ?_
    rintro e w3 ⟨rfl, rfl⟩
    go_wp2_with fail
    exact ⟨rfl, .inr ⟨by rw [HV.out]; exact HE.out, by rw [HV.out]⟩, HB2.out⟩
  have HE := Lib.hid hE
  rw [hE]
  clear hE
  by_cases h6 : 6 < hs.length
  · have HV := Lib.hid (show areaE l hs = 3 by unfold areaE; rw [if_neg (by rw [H1.out]; decide), if_neg (by rw [HE.out]; decide), if_pos h6])
    have q : ¬ (hs.length : Int) ≤ 6 := by omega
    go_wp2_with fail
    refine (raise_ok _).mono ?_
    rintro e w3 ⟨rfl, rfl⟩
    go_wp2_with fail
    rw [show decide ((hs.length : Int) ≤ 6) = false from decide_eq_false (by omega)]
    refine (require_no 3 _).mono ?_
    rintro e w3 ⟨rfl, rfl⟩
    go_wp2_with fail
    exact ⟨rfl, .inr ⟨by rw [HV.out]; decide, by rw [HV.out]⟩, HB2.out⟩
  have q6 : (hs.length : Int) ≤ 6 := by omega
  have HV := Lib.hid (show areaE l hs = if hs.all holB = false then 1 else 0 by unfold areaE; rw [if_neg (by rw [H1.out]; decide), if_neg (by rw [HE.out]; decide), if_neg h6])
  clear h6
  go_wp2_with fail
  refine (raise_ok _).mono ?_
  rintro e w3 ⟨rfl, rfl⟩
  go_wp2_with fail
  refine (require_yes 3 _).mono ?_
  rintro e w3 ⟨rfl, rfl⟩
  go_wp2_with fail
  obtain ⟨w2, rfl⟩ : ∃ w2 : World, w2 = w3 := ⟨_, rfl⟩
  go_loopw [3, 21] (fun _ s25 wr => ∃ j : Nat, j ≤ hs.length ∧ s25 = .int .i64 j ∧ (hs.take j).all holB = true ∧ Below w2.heap.size w2 wr) (fun _ i _ => hs.length - (intOf i).toNat)
  case atStart => exact ⟨0, Nat.zero_le _, rfl, by simp, Below.refl _ _⟩
  case round =>
  obtain ⟨j, hj, rfl, hall, hb3⟩ := hrel
  obtain ⟨w3, rfl⟩ : ∃ w3 : World, w3 = wr := ⟨_, rfl⟩
  by_cases hlj : j < hs.length
  · have hlj' : (j : Int) < (hs.length : Int) := by omega
    have hjs : IntKind.i64.wrap ((j : Int) + 1) = ((j + 1 : Nat) : Int) := by rw [IntKind.wrap_i64]; omega
    have hq : hs[j]? = some hs[j] := List.getElem?_eq_getElem hlj
    obtain ⟨b, off, hea, hbl, hcap, hcx, x0, x1, x2, x3⟩ := ((HH.out.below HB2.out).below hb3).at hq
    have HA := Lib.hid (all_take_succ hs holB j _ hq)
    have HX := Lib.hid (fun h : holB hs[j] = false => show hs.all holB = false from by
      rw [List.all_eq_false]
      exact ⟨_, List.getElem_mem hlj, by simp [h]⟩)
    generalize hs[j] = h at *
    simp only [holC, List.getElem?_toArray, List.getElem?_cons_zero, List.getElem?_cons_succ] at x0 x1 x2 x3
    subst hea
    have HLJ := Lib.hid hlj
    have HALL := Lib.hid hall
    have hb4 : Below w2.heap.size w2 (w3.alloc (.cells #[.int .i64 h.a.x, .int .i64 h.a.y, .int .i64 h.b.x, .int .i64 h.b.y] 64)) := hb3.alloc hb3.size _
    have HB4 := Lib.hid hb4
    clear hq hj hlj hb3 hb4 hall
    by_cases c1 : h.a.x < h.b.x
    · by_cases c2 : h.a.y < h.b.y
      · have HT := Lib.hid (show holB h = true by simp [holB, c1, c2])
        go_wp2_with fail
        refine (require_yes 1 _).mono ?_
        rintro e w5 ⟨rfl, rfl⟩
        go_wp2_with fail
        refine ⟨⟨j + 1, by have := HLJ.out; omega, rfl, ?_, HB4.out⟩, by have := HLJ.out; simp [intOf]; omega⟩
        rw [HA.out, HALL.out, HT.out]
        rfl
      · have HT := Lib.hid (show holB h = false by simp [holB, c2])
        go_wp2_with fail
        refine (require_no 1 _).mono ?_
        rintro e w5 ⟨rfl, rfl⟩
        go_wp2_with fail
        exact ⟨rfl, .inr ⟨by rw [HV.out, if_pos (HX.out HT.out)]; decide, by rw [HV.out, if_pos (HX.out HT.out)]⟩, HB2.out.trans (HB4.out.mono HB2.out.size)⟩
    · have HT := Lib.hid (show holB h = false by simp [holB, c1])
      go_wp2_with fail
      refine (require_no 1 _).mono ?_
      rintro e w5 ⟨rfl, rfl⟩
      go_wp2_with fail
      exact ⟨rfl, .inr ⟨by rw [HV.out, if_pos (HX.out HT.out)]; decide, by rw [HV.out, if_pos (HX.out HT.out)]⟩, HB2.out.trans (HB4.out.mono HB2.out.size)⟩
  · obtain rfl : j = hs.length := by omega
    have hlj' : ¬ (hs.length : Int) < (hs.length : Int) := by omega
    rw [List.take_of_length_le (Nat.le_refl _)] at hall
    have HALL := Lib.hid hall
    have HB3 := Lib.hid (HB2.out.trans (hb3.mono HB2.out.size))
    clear hlj hj hb3 hall
    go_wp2_with fail
    go_end0
    exact ⟨.inl ⟨by rw [HV.out, if_neg (by rw [HALL.out]; decide)], rfl⟩, HB3.out⟩
end Go.Proofs.YtoigihmgjacbjaaDoor
