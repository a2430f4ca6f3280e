/- What a chore gives, uses and wastes: mathematics. -/
import Derived.Test.YtghepojnimlafaaKZQ
namespace Go.Proofs.Ytghepojnimlafaa
open Go.RowKit

/-- What a chore turns of a field's ledger. -/
structure Moves (S T : Sto) (a : Chr) : Prop where
  given : ∀ k : Nat, givenAt T.given k = givenAt S.given k + (if a.kind = 2 ∧ a.plot = (k : Int) then a.loads else 0)
  used : ∀ k : Int, ofM k S.used ≤ ofM k T.used
  waste : ∀ k : Int, ofM k S.waste ≤ ofM k T.waste
theorem ofM_nonneg {l : List Prt} (h : ∀ p ∈ l, 1 ≤ p.loads) (k : Int) : 0 ≤ ofM k l := by
  cases l with
  | nil => exact Int.le_refl _
  | cons p l => exact (le_of h p (by simp)).2 k
theorem put_more (l m : List Prt) (h : ∀ p ∈ m, 1 ≤ p.loads) (k : Int) : ofM k l ≤ ofM k (putL l m) := by
  rw [ofM_put]
  have := ofM_nonneg h k
  omega
theorem cut_ones {n : Int} {l : List Prt} : ∀ p ∈ cutT n l, 1 ≤ p.loads := fun p hp => (cutT_from p hp).1
theorem moves_still {S T : Sto} {a : Chr} (ha : a.kind ≠ 2) (h1 : T.given = S.given) (h2 : T.used = S.used) (h3 : T.waste = S.waste) : Moves S T a :=
  ⟨fun k => by rw [h1, if_neg (fun h => ha h.1)]; omega, fun k => by rw [h2]; exact Int.le_refl _, fun k => by rw [h3]; exact Int.le_refl _⟩
theorem moves_cut {F : Frm} {S : Sto} {a : Chr} (hk : a.kind = 2) (hlen : S.given.length = F.ps.length) (h : (cutD F S a).1 = 0) : Moves S (cutD F S a).2 a := by
  unfold cutD at h ⊢
  split at h
  · cases h
  next h0 =>
  rw [if_neg h0]
  have h0 := isFromB_iff.1 (Bool.not_eq_false _ ▸ h0)
  split at h
  · cases h
  next h1 =>
  rw [if_neg h1]
  split at h
  · cases h
  next h2 =>
  rw [if_neg h2]
  split at h
  · cases h
  next h3 =>
  rw [if_neg h3]
  split at h
  · cases h
  next h4 =>
  rw [if_neg h4]
  split at h
  · cases h
  next h5 =>
  rw [if_neg h5]
  refine ⟨fun k => ?_, fun _ => Int.le_refl _, fun _ => Int.le_refl _⟩
  show givenAt (S.given.set a.plot.toNat (intAt S.given a.plot.toNat + a.loads)) k = _
  unfold givenAt intAt
  by_cases hkp : a.plot = (k : Int)
  · rw [if_pos ⟨hk, hkp⟩]
    have e : a.plot.toNat = k := by omega
    rw [e, List.getElem?_set_self (by omega)]
    simp
  · rw [if_neg (fun h => hkp h.2), List.getElem?_set_ne (by omega)]
    omega
theorem moves_do {F : Frm} {S : Sto} {a : Chr} (hE : storeE F S = 0) (h : (doD F S a).1 = 0) : Moves S (doD F S a).2 a := by
  rw [doD_step hE] at h ⊢
  unfold stepD at h ⊢
  split at h
  · cases h
  next h0 =>
  rw [if_neg h0]
  unfold choreD at h ⊢
  by_cases k1 : a.kind = 1
  · rw [if_pos k1] at h ⊢
    unfold yearD at h ⊢
    split at h
    · next h1 => rw [if_pos h1]; exact moves_still (by omega) rfl rfl rfl
    · cases h
  rw [if_neg k1] at h ⊢
  by_cases k2 : a.kind = 2
  · rw [if_pos k2] at h ⊢
    exact moves_cut k2 (goodS_of hE).len h
  rw [if_neg k2] at h ⊢
  by_cases k3 : a.kind = 3
  · rw [if_pos k3] at h ⊢
    unfold dryD at h ⊢
    repeat' (split at h; · cases h)
    rename_i h1 h2 h3
    rw [if_neg h1, if_neg h2, if_neg h3]
    exact moves_still k2 rfl rfl rfl
  rw [if_neg k3] at h ⊢
  by_cases k4 : a.kind = 4
  · rw [if_pos k4] at h ⊢
    unfold combD at h ⊢
    repeat' (split at h; · cases h)
    rename_i h1 h2 h3
    rw [if_neg h1, if_neg h2, if_neg h3]
    exact ⟨fun k => by rw [if_neg (fun h => k2 h.1)]; simp, fun k => Int.le_refl _, fun k => put_more _ _ cut_ones k⟩
  rw [if_neg k4] at h ⊢
  by_cases k5 : a.kind = 5
  · rw [if_pos k5] at h ⊢
    unfold joinD at h ⊢
    repeat' (split at h; · cases h)
    rename_i h1 h2 h3 h4
    rw [if_neg h1, if_neg h2, if_neg h3, if_neg h4]
    exact moves_still k2 rfl rfl rfl
  rw [if_neg k5] at h ⊢
  by_cases k6 : a.kind = 6
  · rw [if_pos k6] at h ⊢
    unfold bindD at h ⊢
    repeat' (split at h; · cases h)
    rename_i h1 h2 h3 h4 h5 h6 h7
    rw [if_neg h1, if_neg h2, if_neg h3, if_neg h4, if_neg h5, if_neg h6, if_neg h7]
    exact moves_still k2 rfl rfl rfl
  rw [if_neg k6] at h ⊢
  by_cases k7 : a.kind = 7
  · rw [if_pos k7] at h ⊢
    unfold useD at h ⊢
    repeat' (split at h; · cases h)
    rename_i h1 h2 h3
    rw [if_neg h1, if_neg h2, if_neg h3]
    exact ⟨fun k => by rw [if_neg (fun h => k2 h.1)]; simp, fun k => put_more _ _ cut_ones k, fun k => Int.le_refl _⟩
  rw [if_neg k7] at h ⊢
  unfold rotD at h ⊢
  repeat' (split at h; · cases h)
  rename_i h1 h2
  rw [if_neg h1, if_neg h2]
  exact ⟨fun k => by rw [if_neg (fun h => k2 h.1)]; simp, fun k => Int.le_refl _, fun k => put_more _ _ cut_ones k⟩
end Go.Proofs.Ytghepojnimlafaa
