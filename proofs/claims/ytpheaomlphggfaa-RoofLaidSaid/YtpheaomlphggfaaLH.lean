/- Lay: a face in its own measure, or the error. -/
import Derived.Test.YtpheaomlphggfaaLG
namespace Go.Proofs.Ytpheaomlphggfaa
open Go.RowKit

/-- What Lay returns. -/
def LaySaid (R : Roo) (i : Int) (w : World) (e : Ending) (w' : World) : Prop :=
  Below w.heap.size w w' ∧
    if ¬ checkE R = 0 then e = .returned (.tuple #[.agg #[.slice none 0 0, .slice none 0 0], .int .i64 (checkE R)]) else if hasB R i = false then e = .returned (.tuple #[.agg #[.slice none 0 0, .slice none 0 0], .int .i64 7]) else
      ∃ F, R.fs[i.toNat]? = some F ∧ if wideF F R.os i.toNat = true then e = .returned (.tuple #[.agg #[.slice none 0 0, .slice none 0 0], .int .i64 9]) else
        ∃ v u, e = .returned (.tuple #[.agg #[v, u], .int .i64 0]) ∧ IsPts w' v (outF F) ∧ IsBxs w' u (holF F R.os i.toNat)

theorem IsPts.set {w : World} {v : Value} {l : List Pnt} (h : IsPts w v l) {L c : Nat} {z : Value} (hL : ∀ g, v.ownBlock = some g → g ≠ L) : IsPts (w.setCell ⟨L, c, none⟩ z) v l := by
  rcases h with h | ⟨b, off, cap, rfl, hl, h1, h2, hp⟩
  · exact .inl h
  · have hne : b ≠ L := by
      cases l with
      | nil => exact hL b rfl
      | cons => exact hL b rfl
    exact .inr ⟨b, off, cap, rfl, by simpa [World.setCell] using hl, h1, h2, fun j p hj => ⟨cell_set_other (hp j p hj).1 hne, cell_set_other (hp j p hj).2 hne⟩⟩

theorem IsBxs.set {w : World} {v : Value} {l : List Box} (h : IsBxs w v l) {L c : Nat} {z : Value} (hL : ∀ g, v.ownBlock = some g → g ≠ L) : IsBxs (w.setCell ⟨L, c, none⟩ z) v l := by
  rcases h with h | ⟨g, cap, rfl, hl, h1, h2, hp⟩
  · exact .inl h
  · have hne : g ≠ L := hL g rfl
    exact .inr ⟨g, cap, rfl, by simpa [World.setCell] using hl, h1, h2, fun j p hj => ⟨cell_set_other (hp j p hj).1 hne, cell_set_other (hp j p hj).2.1 hne, cell_set_other (hp j p hj).2.2.1 hne, cell_set_other (hp j p hj).2.2.2 hne⟩⟩

set_option maxRecDepth 100000 in
set_option maxHeartbeats 4000000 in
theorem lay_any (R : Roo) (i : Int) (w : World) (hR : IsRoof w R) :
    Calls Try.prog 24 #[.agg #[.slice R.fa R.fs.length R.fc, .slice R.oa R.os.length R.oc], .int .i64 i] w (LaySaid R i w) := by
  have hlay := layFace_any R
  obtain ⟨fa, fc, fs, oa, oc, os⟩ := R
  simp only [] at hlay
  have hB : Below w.heap.size w ((w.alloc (.cells #[.slice fa fs.length fc, .slice oa os.length oc] 25)).alloc (.cells #[.slice none 0 0, .slice none 0 0] 61)) := ((Below.refl _ _).alloc (Nat.le_refl _) _).alloc (by simp) _
  have kR := (Blk.new w 25 #[.slice fa fs.length fc, .slice oa os.length oc]).alloc (.cells #[.slice none 0 0, .slice none 0 0] 61)
  have kQ := Blk.new (w.alloc (.cells #[.slice fa fs.length fc, .slice oa os.length oc] 25)) 61 #[.slice none 0 0, .slice none 0 0]
  simp only [World.size_alloc] at kQ
  have HR := Lib.hid hR
  have HLY := Lib.hid hlay
  clear hR hlay
  go_enter Try.func24, Try.ntmps24
  go_wp2_with fail
  refine (check_any ⟨fa, fc, fs, oa, oc, os⟩ _ (HR.out.below hB)).mono ?_
  rintro e w1 ⟨rfl, hb1⟩
  have hB1 := hB.trans (hb1.mono (by simp; omega))
  have kR1 := kR.belowS hb1
  have kQ1 := kQ.belowS hb1
  clear kR kQ hB hb1
  generalize hE : checkE ⟨fa, fc, fs, oa, oc, os⟩ = E
  have HE := Lib.hid hE
  clear hE
  have q0 := kQ1.cell 0
  have q1 := kQ1.cell 1
  have f0 := kQ1.frozen 0
  have f1 := kQ1.frozen 1
  have lq := kQ1.lt
  simp only [List.getElem?_toArray, List.getElem?_cons_zero, List.getElem?_cons_succ] at q0 q1
  by_cases h0 : E = 0
  · subst h0
    have hz : ((0 : Int) == 0) = true := rfl
    have c0 := kR1.cell 0
    have c1 := kR1.cell 1
    simp only [List.getElem?_toArray, List.getElem?_cons_zero, List.getElem?_cons_succ] at c0 c1
    have hl16 := (checkE_faces HE.out).1
    simp only [] at hl16
    go_wp2_with fail
    refine (hasFace_any fa oa fs.length fc os.length oc i _).mono ?_
    rintro e w2 ⟨rfl, hb2⟩
    have hB2 := hB1.trans (hb2.mono hB1.size)
    have kR2 := kR1.belowS hb2
    have kQ2 := kQ1.belowS hb2
    clear kR1 kQ1 hB1 hb2 c0 c1 q0 q1 f0 f1 lq
    have q0 := kQ2.cell 0
    have q1 := kQ2.cell 1
    have f0 := kQ2.frozen 0
    have f1 := kQ2.frozen 1
    have lq := kQ2.lt
    have c0 := kR2.cell 0
    have c1 := kR2.cell 1
    simp only [List.getElem?_toArray, List.getElem?_cons_zero, List.getElem?_cons_succ] at q0 q1 c0 c1
    cases hh : (decide (0 ≤ i) && decide (i < (fs.length : Int))) with
    | false =>
      have HH := Lib.hid hh
      clear hh
      go_wp2_with fail
      have kQ3 := (kQ2.set 0 (.slice none 0 0)).set 1 (.slice none 0 0)
      have t0 := kQ3.cell 0
      have t1 := kQ3.cell 1
      simp only [List.setIfInBounds_toArray, List.set_cons_zero, List.set_cons_succ, List.getElem?_toArray, List.getElem?_cons_zero, List.getElem?_cons_succ] at t0 t1
      refine bodyPost_ret (v := .tuple #[.agg #[.slice none 0 0, .slice none 0 0], .int .i64 7]) (by simp [results, Try.results24, go_sem, t0, t1]) rfl ⟨(hB2.setCell (by simp) _).setCell (by simp) _, ?_⟩
      rw [if_neg (by rw [HE.out]; simp), if_pos (show hasB ⟨fa, fc, fs, oa, oc, os⟩ i = false from HH.out)]
    | true =>
      have HH := Lib.hid hh
      have hh' := hh
      simp only [Bool.and_eq_true, decide_eq_true_eq] at hh'
      obtain ⟨hi0, hi1⟩ := hh'
      clear hh
      obtain ⟨k, rfl⟩ := Int.eq_ofNat_of_zero_le hi0
      have hkl : k < fs.length := by omega
      have hq : fs[k]? = some fs[k] := List.getElem?_eq_getElem hkl
      generalize fs[k] = F at *
      have HQ := Lib.hid hq
      clear hq
      go_wp2_with fail
      refine (HLY.out k F HQ.out HE.out _ (HR.out.below hB2)).mono ?_
      rintro e w3 ⟨hb3, hsaid⟩
      have hB3 := hB2.trans (hb3.mono hB2.size)
      have kQ3 := kQ2.belowS hb3
      clear kR2 kQ2 c0 c1 q0 q1 f0 f1
      have q0 := kQ3.cell 0
      have q1 := kQ3.cell 1
      have f0 := kQ3.frozen 0
      have f1 := kQ3.frozen 1
      have lq3 := kQ3.lt
      simp only [List.getElem?_toArray, List.getElem?_cons_zero, List.getElem?_cons_succ] at q0 q1
      cases hw : wideF F os k with
      | true =>
        have HW := Lib.hid hw
        rw [if_pos hw] at hsaid
        subst hsaid
        clear hw
        go_wp2_with fail
        have kQ4 := (kQ3.set 0 (.slice none 0 0)).set 1 (.slice none 0 0)
        have t0 := kQ4.cell 0
        have t1 := kQ4.cell 1
        simp only [List.setIfInBounds_toArray, List.set_cons_zero, List.set_cons_succ, List.getElem?_toArray, List.getElem?_cons_zero, List.getElem?_cons_succ] at t0 t1
        refine bodyPost_ret (v := .tuple #[.agg #[.slice none 0 0, .slice none 0 0], .int .i64 9]) (by simp [results, Try.results24, go_sem, t0, t1]) rfl ⟨(hB3.setCell (by simp) _).setCell (by simp) _, ?_⟩
        rw [if_neg (by rw [HE.out]; simp), if_neg (by rw [show hasB ⟨fa, fc, fs, oa, oc, os⟩ k = true from HH.out]; simp)]
        exact ⟨F, HQ.out, by rw [if_pos (show wideF F os ((k : Int).toNat) = true from HW.out)]⟩
      | false =>
        have HW := Lib.hid hw
        rw [if_neg (by rw [hw]; simp)] at hsaid
        obtain ⟨v, u, rfl, ⟨hv, hvb⟩, hu, hub⟩ := hsaid
        obtain ⟨va, vn, vc, rfl⟩ : ∃ va vn vc, v = .slice va vn vc := by
          rcases hv with ⟨⟨a, c, rfl⟩, _⟩ | ⟨b, off, cap, rfl, _⟩
          · exact ⟨_, _, _, rfl⟩
          · exact ⟨_, _, _, rfl⟩
        obtain ⟨ua, un, uc, rfl⟩ : ∃ ua un uc, u = .slice ua un uc := by
          rcases hu with ⟨rfl, _⟩ | ⟨b, cap, rfl, _⟩
          · exact ⟨_, _, _, rfl⟩
          · exact ⟨_, _, _, rfl⟩
        have hvn : ∀ g, Value.ownBlock (.slice va vn vc) = some g → g ≠ w.heap.size + 1 := fun g h => by have := hvb g h; omega
        have hun : ∀ g, Value.ownBlock (.slice ua un uc) = some g → g ≠ w.heap.size + 1 := fun g h => by have := hub g h; omega
        have HVN := Lib.hid hvn
        have HUN := Lib.hid hun
        clear hvb hub hvn hun
        have HV := Lib.hid hv
        have HU := Lib.hid hu
        clear hw hv hu
        go_wp2_with fail
        have kQ4 := (kQ3.set 0 (.slice va vn vc)).set 1 (.slice ua un uc)
        have t0 := kQ4.cell 0
        have t1 := kQ4.cell 1
        simp only [List.setIfInBounds_toArray, List.set_cons_zero, List.set_cons_succ, List.getElem?_toArray, List.getElem?_cons_zero, List.getElem?_cons_succ] at t0 t1
        refine bodyPost_ret (v := .tuple #[.agg #[.slice va vn vc, .slice ua un uc], .int .i64 0]) (by simp [results, Try.results24, go_sem, t0, t1]) rfl ⟨(hB3.setCell (by simp) _).setCell (by simp) _, ?_⟩
        rw [if_neg (by rw [HE.out]; simp), if_neg (by rw [show hasB ⟨fa, fc, fs, oa, oc, os⟩ k = true from HH.out]; simp)]
        refine ⟨F, HQ.out, ?_⟩
        rw [if_neg (by rw [show wideF F os ((k : Int).toNat) = false from HW.out]; simp)]
        exact ⟨_, _, rfl, (HV.out.set HVN.out).set HVN.out, (HU.out.set HUN.out).set HUN.out⟩
  · have hz : (E == 0) = false := by simp [h0]
    have hz' : (E != 0) = true := by simp [h0]
    have H0 := Lib.hid h0
    clear h0
    go_wp2_with fail
    have kQ3 := (kQ1.set 0 (.slice none 0 0)).set 1 (.slice none 0 0)
    have t0 := kQ3.cell 0
    have t1 := kQ3.cell 1
    simp only [List.setIfInBounds_toArray, List.set_cons_zero, List.set_cons_succ, List.getElem?_toArray, List.getElem?_cons_zero, List.getElem?_cons_succ] at t0 t1
    refine bodyPost_ret (v := .tuple #[.agg #[.slice none 0 0, .slice none 0 0], .int .i64 E]) (by simp [results, Try.results24, go_sem, t0, t1]) rfl ⟨(hB1.setCell (by simp) _).setCell (by simp) _, ?_⟩
    rw [if_pos (by rw [HE.out]; exact H0.out), HE.out]
end Go.Proofs.Ytpheaomlphggfaa
