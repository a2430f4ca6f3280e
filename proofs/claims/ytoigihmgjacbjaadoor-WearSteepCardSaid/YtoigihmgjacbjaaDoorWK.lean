/- A skin that may be: what is required of its area, its marks' order and its thicknesses is so (these texts tell nothing of a skin that may not be). -/
import Derived.Test.YtoigihmgjacbjaaDoorWJ
import Derived.Test.YtoigihmgjacbjaaDoorWH
set_option linter.unusedSimpArgs false
namespace Go.Proofs.YtoigihmgjacbjaaDoor
open Go.RowKit

structure AreaOk (l : List Pnt) (hs : List Hol) : Prop where
  few : 3 ≤ l.length ∧ l.length ≤ 12
  corn : cornE l = 0
  holes : hs.length ≤ 6
  each : ∀ h ∈ hs, h.a.x < h.b.x ∧ h.a.y < h.b.y
theorem cornE_ok {l : List Pnt} (h : cornE l = 0) : okPts4 l := by
  unfold cornE at h
  split at h
  · omega
  · rename_i h1
    exact fun p hp => List.all_eq_true.1 (by simpa using h1) p hp

set_option maxRecDepth 100000 in
set_option maxHeartbeats 4000000 in
theorem requireArea_ok (pa : Option Addr) (pc : Nat) (ha : Option Addr) (hc : Nat) (l : List Pnt) (hs : List Hol) (w : World) (hl : IsPts w (.slice pa l.length pc) l) (hh : IsRow4 holC w ha hc hs) (hok : AreaOk l hs) :
    Calls Tryd.prog 64 #[.agg #[.slice pa l.length pc, .slice ha hs.length hc]] w fun e w' => e = .returned (.tuple #[]) ∧ Below w.heap.size w w' := by
  have k1 := Blk.new w 25 #[.slice pa l.length pc, .slice ha hs.length hc]
  have hb1 : Below w.heap.size w (w.alloc (.cells #[.slice pa l.length pc, .slice ha hs.length hc] 25)) := (Below.refl _ w).alloc (Nat.le_refl _) _
  have HL := Lib.hid hl
  have HH := Lib.hid hh
  have HOK := Lib.hid hok
  have hf := hok.few
  have hfew : isFromB (l.length : Int) 3 12 = true := by rw [isFromB]; simp; omega
  clear hl hh hok
  go_enter Tryd.func64, Tryd.ntmps64
  go_upto_region 1 with fail
  generalize (w.alloc (.cells #[.slice pa l.length pc, .slice ha hs.length hc] 25)) = w1 at *
  obtain ⟨a0, a1⟩ := (show w1.cell? ⟨w.heap.size, 0, none⟩ = some (.slice pa l.length pc) ∧ w1.cell? ⟨w.heap.size, 1, none⟩ = some (.slice ha hs.length hc) from ⟨k1.cell 0, k1.cell 1⟩)
  have l1 := k1.lt
  have HB1 := Lib.hid hb1
  have K1 := Lib.hid k1
  have HF := Lib.hid hfew
  clear k1 hb1 hfew
  go_wp2_with fail
  refine (isFrom_any _ _ _ _).mono ?_
  rintro e w2 ⟨rfl, rfl⟩
  rw [HF.out]
  go_wp2_with fail
  refine (require_yes 1 _).mono ?_
  rintro e w2 ⟨rfl, rfl⟩
  go_wp2_with fail
  refine (checkCorners_any pa l.length pc l _ (HL.out.below HB1.out) (by omega) (by omega)).mono ?_
  rintro e w2 ⟨rfl, hb⟩
  have HB2 := Lib.hid (HB1.out.trans (hb.mono HB1.out.size))
  have k2 := K1.out.belowS hb
  rw [HOK.out.corn]
  obtain ⟨b0, b1⟩ := (show w2.cell? ⟨w.heap.size, 0, none⟩ = some (.slice pa l.length pc) ∧ w2.cell? ⟨w.heap.size, 1, none⟩ = some (.slice ha hs.length hc) from ⟨k2.cell 0, k2.cell 1⟩)
  have l2 := k2.lt
  have h6 : (hs.length : Int) ≤ 6 := by have := HOK.out.holes; omega
  clear a0 a1 l1 hb k2
  go_wp2_with fail
  refine (raise_ok _).mono ?_
  rintro e w3 ⟨rfl, rfl⟩
  go_wp2_with fail
  refine (require_yes 3 _).mono ?_
  rintro e w3 ⟨rfl, rfl⟩
  go_wp2_with fail
  obtain ⟨w2, rfl⟩ : ∃ w2 : World, w2 = w3 := ⟨_, rfl⟩
  go_loopw [3, 21] (fun _ s25 wr => ∃ j : Nat, j ≤ hs.length ∧ s25 = .int .i64 j ∧ Below w2.heap.size w2 wr) (fun _ i _ => hs.length - (intOf i).toNat)
  case atStart => exact ⟨0, Nat.zero_le _, rfl, Below.refl _ _⟩
  case round =>
  obtain ⟨j, hj, rfl, hb3⟩ := hrel
  obtain ⟨w3, rfl⟩ : ∃ w3 : World, w3 = wr := ⟨_, rfl⟩
  by_cases hlj : j < hs.length
  · have hlj' : (j : Int) < (hs.length : Int) := by omega
    have hjs : IntKind.i64.wrap ((j : Int) + 1) = ((j + 1 : Nat) : Int) := by rw [IntKind.wrap_i64]; omega
    have hq : hs[j]? = some hs[j] := List.getElem?_eq_getElem hlj
    obtain ⟨b, off, hea, hbl, hcap, hcx, x0, x1, x2, x3⟩ := ((HH.out.below HB2.out).below hb3).at hq
    obtain ⟨c1, c2⟩ := HOK.out.each _ (List.getElem_mem hlj)
    generalize hs[j] = h at *
    simp only [holC, List.getElem?_toArray, List.getElem?_cons_zero, List.getElem?_cons_succ] at x0 x1 x2 x3
    subst hea
    have HLJ := Lib.hid hlj
    have hb4 : Below w2.heap.size w2 (w3.alloc (.cells #[.int .i64 h.a.x, .int .i64 h.a.y, .int .i64 h.b.x, .int .i64 h.b.y] 64)) := hb3.alloc hb3.size _
    have HB4 := Lib.hid hb4
    clear hq hj hlj hb3 hb4
    go_wp2_with fail
    refine (require_yes 1 _).mono ?_
    rintro e w5 ⟨rfl, rfl⟩
    go_wp2_with fail
    exact ⟨⟨j + 1, by have := HLJ.out; omega, rfl, HB4.out⟩, by have := HLJ.out; simp [intOf]; omega⟩
  · have hlj' : ¬ (j : Int) < (hs.length : Int) := by omega
    have HB3 := Lib.hid (HB2.out.trans (hb3.mono HB2.out.size))
    clear hlj hj hb3
    go_wp2_with fail
    go_end0
    exact ⟨rfl, HB3.out⟩

set_option maxRecDepth 100000 in
theorem areInOrder_one (ma : Option Addr) (mc n : Nat) (hn : n ≤ 1) (w : World) :
    Calls Tryd.prog 66 #[.slice ma n mc, .func (.func 67) #[] #[]] w fun e w' => e = .returned (.bool true) ∧ w' = w := by
  have q : ¬ (1 : Int) < (n : Int) := by omega
  go_enter Tryd.func66, Tryd.ntmps66
  go_wp2
  go_loopw [5] (fun s5 wr => s5 = .int .i64 1 ∧ wr = w) (fun _ _ => 0)
  case atStart => exact ⟨rfl, rfl⟩
  case round =>
  obtain ⟨rfl, rfl⟩ := hrel
  go_wp2
  go_ret
  exact ⟨rfl, rfl⟩
end Go.Proofs.YtoigihmgjacbjaaDoor
