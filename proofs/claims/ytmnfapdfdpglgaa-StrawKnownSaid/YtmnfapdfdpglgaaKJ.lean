/- A chore makes few parts more. -/
import Derived.Test.YtmnfapdfdpglgaaKI
set_option linter.unusedSimpArgs false
namespace Go.Proofs.Ytmnfapdfdpglgaa
open Go.RowKit

def Few (S : Sto) (r : Int × Sto) : Prop := r.1 = 0 → tot r.2 ≤ tot S + 3
theorem few_no {S : Sto} {x : Int} (hx : x ≠ 0) (T : Sto) : Few S (x, T) := fun h => absurd h hx
theorem cutT_le (n : Int) (l : List Prt) : (cutT n l).length ≤ l.length := cutT_len l n
theorem heap_at {F : Frm} {S : Sto} (hE : storeE F S = 0) {nm : ByteArray} (h : ¬ idxH S.heaps nm < 0) : ∃ x, S.heaps[(idxH S.heaps nm).toNat]? = some x ∧ hepAt S nm = x ∧ (∀ p ∈ x.parts, 1 ≤ p.loads) ∧ 0 ≤ loadsM x.parts := by
  obtain ⟨i, x, hi, _, hx, _⟩ := idxH_at (Int.not_lt.1 h)
  have hb := heapB_parts ((store_ok hE).2.2.2.2 x (List.mem_of_getElem? hx))
  exact ⟨x, by rw [hi]; simpa using hx, hepAt_of hi hx, fun p hp => (hb p hp).2.1, (loadsM_bd hb).1⟩
theorem few_year (S : Sto) : Few S (yearD S) := by
  unfold yearD
  split
  · intro _; exact Nat.le_add_right (tot S) 3
  · exact few_no (by decide) _
theorem few_cut (F : Frm) (S : Sto) (a : Chr) : Few S (cutD F S a) := by
  unfold cutD
  repeat' split
  all_goals first
    | exact few_no (by decide) _
    | (intro _; simp only [tot, ptot_append, ptot, List.length_cons, List.length_nil]; omega)
theorem few_dry {F : Frm} {S : Sto} (hE : storeE F S = 0) (a : Chr) : Few S (dryD S a) := by
  unfold dryD
  split
  · exact few_no (by decide) _
  next h0 =>
  obtain ⟨x, hx, hh, _, _⟩ := heap_at hE h0
  rw [hh]
  repeat' split
  all_goals first
    | exact few_no (by decide) _
    | (intro _
       have h1 := ptot_set S.heaps _ x { x with wlo := moistM (x.wlo - 20 * a.days + 5 * a.rlo), whi := moistM (x.whi - 10 * a.days + 15 * a.rhi) } hx
       simp only [tot] at h1 ⊢
       omega)
theorem few_comb {F : Frm} {S : Sto} (hE : storeE F S = 0) (a : Chr) : Few S (combD F S a) := by
  unfold combD
  split
  · exact few_no (by decide) _
  next h0 =>
  obtain ⟨x, hx, hh, hp, _⟩ := heap_at hE h0
  rw [hh]
  split
  · exact few_no (by decide) _
  split
  · exact few_no (by decide) _
  next h2 =>
  have h3 := (isFromB_iff.1 (by simpa using h2)).1
  intro _
  have hil := (List.getElem?_eq_some_iff.1 hx).1
  have h1 := ptot_set S.heaps _ x { x with stage := 2 } hx
  have h4 := ptot_move (l := S.heaps.set (idxH S.heaps a.name).toNat { x with stage := 2 }) (i := (idxH S.heaps a.name).toNat) (x := { x with stage := 2 }) (n := a.loads) (by simp [hil]) hp h3
  have h5 := putL_le S.waste (cutT a.loads x.parts)
  simp only [tot] at h1 h4 h5 ⊢
  omega
theorem few_join {F : Frm} {S : Sto} (hE : storeE F S = 0) (a : Chr) : Few S (joinD S a) := by
  unfold joinD
  split
  · exact few_no (by decide) _
  next h0 =>
  split
  · exact few_no (by decide) _
  next h1 =>
  split
  · exact few_no (by decide) _
  next h2 =>
  obtain ⟨x, hx, hh, _, _⟩ := heap_at hE h0
  obtain ⟨y, hy, hk, _, _⟩ := heap_at hE h1
  rw [hh, hk]
  split
  · exact few_no (by decide) _
  intro _
  have h3 := ptot_set S.heaps _ x { x with parts := putL x.parts y.parts, wlo := min x.wlo y.wlo, whi := max x.whi y.whi } hx
  have hne : (idxH S.heaps a.name).toNat ≠ (idxH S.heaps a.other).toNat := by omega
  have h4 := ptot_erase (S.heaps.set (idxH S.heaps a.name).toNat { x with parts := putL x.parts y.parts, wlo := min x.wlo y.wlo, whi := max x.whi y.whi }) (idxH S.heaps a.other).toNat y (by rw [List.getElem?_set_ne hne]; exact hy)
  have h5 := putL_le x.parts y.parts
  simp only [tot] at h3 h4 h5 ⊢
  omega
theorem few_bind {F : Frm} {S : Sto} (hE : storeE F S = 0) (a : Chr) : Few S (bindD F S a) := by
  unfold bindD
  split
  · exact few_no (by decide) _
  next h0 =>
  obtain ⟨x, hx, hh, hp, hl⟩ := heap_at hE h0
  rw [hh]
  split
  · exact few_no (by decide) _
  split
  · exact few_no (by decide) _
  split
  · exact few_no (by decide) _
  split
  · exact few_no (by decide) _
  next h4 =>
  have h5 := (isFromB_iff.1 (by simpa using h4)).1
  split
  · exact few_no (by decide) _
  split
  · exact few_no (by decide) _
  intro _
  have hr := (rem_of hl h5).2.2
  have h6 := ptot_move (n := loadsM x.parts - loadsM x.parts % a.per) hx hp (by omega)
  simp only [tot, ptot_append, ptot] at h6 ⊢
  omega
theorem few_use {F : Frm} {S : Sto} (hE : storeE F S = 0) (a : Chr) : Few S (useD S a) := by
  unfold useD
  split
  · exact few_no (by decide) _
  next h0 =>
  obtain ⟨x, hx, hh, hp, hl⟩ := heap_at hE h0
  rw [hh]
  split
  · exact few_no (by decide) _
  next h1 =>
  split
  · exact few_no (by decide) _
  next h2 =>
  have h3 := (isFromB_iff.1 (by simpa using h2)).1
  have hb := (store_ok hE).2.2.2.2 x (List.mem_of_getElem? hx)
  have hper : 1 ≤ x.per := by
    simp only [heapB, Bool.and_eq_true] at hb
    have h9 := hb.2.2.2.2.2.2.2
    rw [if_pos (by omega)] at h9
    simp only [Bool.and_eq_true] at h9
    exact (isFromB_iff.1 h9.1).1
  intro _
  have h4 := ptot_move (n := a.loads * x.per) hx hp (Int.mul_nonneg (by omega) (by omega))
  have h5 := putL_le S.used (cutT (a.loads * x.per) x.parts)
  simp only [tot] at h4 h5 ⊢
  omega
theorem few_rot {F : Frm} {S : Sto} (hE : storeE F S = 0) (a : Chr) : Few S (rotD F S a) := by
  unfold rotD
  split
  · exact few_no (by decide) _
  next h0 =>
  obtain ⟨x, hx, hh, hp, hl⟩ := heap_at hE h0
  rw [hh]
  split
  · exact few_no (by decide) _
  intro _
  have h4 := ptot_move (n := loadsM x.parts) hx hp hl
  have h5 := putL_le S.waste (cutT (loadsM x.parts) x.parts)
  simp only [tot] at h4 h5 ⊢
  omega
theorem few_do (F : Frm) (S : Sto) (a : Chr) : Few S (doD F S a) := by
  by_cases hE : storeE F S = 0
  · rw [doD_step hE]
    unfold stepD
    split
    · exact few_no (by decide) _
    · unfold choreD
      repeat' split
      · exact few_year S
      · exact few_cut F S a
      · exact few_dry hE a
      · exact few_comb hE a
      · exact few_join hE a
      · exact few_bind hE a
      · exact few_use hE a
      · exact few_rot hE a
  · rw [doD_err hE]
    exact few_no hE _
theorem same_tot {S T : Sto} (h : SameSto S T) : tot S = tot T := by
  unfold tot
  rw [h.used, h.waste]
  congr 1
  have key : ∀ {l m : List Hep}, sameH l m → ptot l = ptot m := fun {l m} h => by
    induction l generalizing m with
    | nil => cases m with
      | nil => rfl
      | cons _ _ => have := h.1; simp at this
    | cons x l ih => cases m with
      | nil => have := h.1; simp at this
      | cons y m =>
        obtain ⟨h1, h2⟩ := sameH_cons h
        simp only [ptot, h1.parts, ih h2]
  exact key h.sameH
end Go.Proofs.Ytmnfapdfdpglgaa
