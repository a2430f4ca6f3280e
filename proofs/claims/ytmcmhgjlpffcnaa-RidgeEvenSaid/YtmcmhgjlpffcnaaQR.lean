/- Mathematics of rows and their numbers: the row with a number, the number of a row, which row is next. No condition but that the pieces may be. -/
import Derived.Test.YtmcmhgjlpffcnaaQO
set_option linter.unusedSimpArgs false
namespace Go.Proofs.Ytmcmhgjlpffcnaa
open Go.RowKit

/-! ### Choosing by number -/
def pickN {α : Type} (f : α → Nat) : List α → Nat → Option (α × Nat)
  | [], _ => none
  | y :: l, k => if k < f y then some (y, k) else pickN f l (k - f y)
theorem pickN_at {α : Type} (f : α → Nat) (y : α) (rest : List α) : ∀ (pre : List α) (k : Nat), (pre.map f).sum ≤ k → k - (pre.map f).sum < f y → pickN f (pre ++ y :: rest) k = some (y, k - (pre.map f).sum)
  | [], k, _, h2 => by
    simp only [List.map_nil, List.sum_nil, Nat.sub_zero] at h2
    simp [pickN, h2]
  | z :: pre, k, h1, h2 => by
    simp only [List.map_cons, List.sum_cons] at h1 h2
    rw [List.cons_append, pickN, if_neg (by omega), pickN_at f y rest pre (k - f z) (by omega) (by rw [Nat.sub_sub]; exact h2)]
    simp only [List.map_cons, List.sum_cons, Nat.sub_sub]
theorem pickN_lt {α : Type} (f : α → Nat) : ∀ (l : List α) (k : Nat), k < (l.map f).sum → ∃ pre y rest, l = pre ++ y :: rest ∧ (pre.map f).sum ≤ k ∧ k - (pre.map f).sum < f y
  | [], k, h => by simp at h
  | z :: l, k, h => by
    by_cases h1 : k < f z
    · exact ⟨[], z, l, rfl, by simp, by simpa using h1⟩
    · simp only [List.map_cons, List.sum_cons] at h
      obtain ⟨pre, y, rest, e, h2, h3⟩ := pickN_lt f l (k - f z) (by omega)
      refine ⟨z :: pre, y, rest, by rw [e]; rfl, ?_, ?_⟩
      · simp only [List.map_cons, List.sum_cons]; omega
      · simp only [List.map_cons, List.sum_cons]; rw [← Nat.sub_sub]; exact h3

/-! ### The pieces that may come next, by their numbers -/
theorem nx_split {g : Gp} {ps : List Pce} {y : Nx g ps} : ∀ (j : Nat) (pre rest : List (Nx g ps)), j ≤ ps.length → nxTo g ps j = pre ++ y :: rest → pre = nxTo g ps y.1.1 := by
  intro j
  induction j with
  | zero => intro pre rest _ h; rw [nxTo_zero] at h; simp at h
  | succ j ih =>
    intro pre rest hj h
    by_cases ht : takB g (ps.get ⟨j, hj⟩) = true
    · rw [nxTo_yes hj ht] at h
      rcases List.eq_nil_or_concat rest with rfl | ⟨r, z, rfl⟩
      · obtain ⟨h1, h2⟩ := List.append_inj' h rfl
        have e : (⟨⟨j, hj⟩, ht⟩ : Nx g ps) = y := by simpa using h2
        rw [← e]
        exact h1.symm
      · refine ih pre r (by omega) ?_
        rw [List.concat_eq_append, ← List.cons_append, ← List.append_assoc] at h
        exact (List.append_inj' h rfl).1
    · rw [nxTo_no hj ht] at h
      exact ih pre rest (by omega) h
theorem nxTo_pre {g : Gp} {ps : List Pce} (d : Nat) : ∀ j, j + d ≤ ps.length → ∃ rest, nxTo g ps (j + d) = nxTo g ps j ++ rest := by
  induction d with
  | zero => intro j _; exact ⟨[], by simp⟩
  | succ d ih =>
    intro j hj
    obtain ⟨r, hr⟩ := ih j (by omega)
    have hl : j + d < ps.length := by omega
    by_cases ht : takB g (ps.get ⟨j + d, hl⟩) = true
    · exact ⟨r ++ [⟨⟨j + d, hl⟩, ht⟩], by rw [← Nat.add_assoc, nxTo_yes hl ht, hr, List.append_assoc]⟩
    · exact ⟨r, by rw [← Nat.add_assoc, nxTo_no hl ht, hr]⟩
theorem nxTo_at {g : Gp} {ps : List Pce} (y : Nx g ps) : nxTo g ps (y.1.1 + 1) = nxTo g ps y.1.1 ++ [y] := nxTo_yes y.1.2 y.2
theorem nxL_at {g : Gp} {ps : List Pce} (y : Nx g ps) : ∃ rest, nxL g ps = nxTo g ps y.1.1 ++ y :: rest := by
  obtain ⟨r, hr⟩ := nxTo_pre (g := g) (ps := ps) (ps.length - (y.1.1 + 1)) (y.1.1 + 1) (by have := y.1.2; omega)
  refine ⟨r, ?_⟩
  have e : y.1.1 + 1 + (ps.length - (y.1.1 + 1)) = ps.length := by have := y.1.2; omega
  rw [e, nxTo_at, List.append_assoc] at hr
  exact hr
def preN (ps : List Pce) (en : Nat) {g : Gp} (y : Nx g ps) : Nat := sumN ps en g (nxTo g ps y.1.1)
theorem preN_lt {ps : List Pce} {en : Nat} {g : Gp} {y z : Nx g ps} (h : y.1.1 < z.1.1) : preN ps en y + wy ps en (nxB g ps y) ≤ preN ps en z := by
  obtain ⟨r, hr⟩ := nxTo_pre (g := g) (ps := ps) (z.1.1 - (y.1.1 + 1)) (y.1.1 + 1) (by have := z.1.2; omega)
  rw [show y.1.1 + 1 + (z.1.1 - (y.1.1 + 1)) = z.1.1 by omega, nxTo_at] at hr
  unfold preN
  rw [hr]
  simp only [sumN, List.map_append, List.sum_append, List.map_cons, List.map_nil, List.sum_cons, List.sum_nil]
  omega

/-! ### The row with a number -/
def nthF (ps : List Pce) (en : Nat) : Nat → Gp → Nat → List Int
  | 0, _, _ => []
  | m + 1, g, k => if g.n = 0 then [] else match pickN (fun y => wy ps en (nxB g ps y)) (nxL g ps) k with | some (y, k') => (y.1.1 : Int) :: nthF ps en m (nxB g ps y) k' | none => []
def nthG (ps : List Pce) (en : Nat) (g : Gp) (k : Nat) : List Int := nthF ps en g.n g k
def nthR (R : Rdg) (k : Nat) : List Int := nthG R.ps R.en.toNat R.top k
theorem nthF_eq {ps : List Pce} (hps : ∀ x ∈ ps, x.ok) (en : Nat) : ∀ (m m' : Nat) (g : Gp) (k : Nat), g.n ≤ m → g.n ≤ m' → nthF ps en m g k = nthF ps en m' g k := by
  intro m
  induction m with
  | zero =>
    intro m' g k h _
    cases m' with
    | zero => rfl
    | succ m' => simp only [nthF]; rw [if_pos (by omega)]
  | succ m ih =>
    intro m' g k h h'
    cases m' with
    | zero => simp only [nthF]; rw [if_pos (by omega)]
    | succ m' =>
      simp only [nthF]
      by_cases h0 : g.n = 0
      · rw [if_pos h0, if_pos h0]
      · rw [if_neg h0, if_neg h0]
        split
        · rename_i y k' _
          have hl : (nxB g ps y).n < g.n := behG_lt (hps _ (List.get_mem _ _)) y.2
          rw [ih m' (nxB g ps y) k' (by omega) (by omega)]
        · rfl
theorem nth_none (ps : List Pce) (en : Nat) {g : Gp} (k : Nat) (h : g.n = 0) : nthG ps en g k = [] := by unfold nthG; rw [h]; rfl
theorem nth_pick {ps : List Pce} (hps : ∀ x ∈ ps, x.ok) (en : Nat) {g : Gp} {k : Nat} (h0 : g.n ≠ 0) (y : Nx g ps) (h1 : preN ps en y ≤ k) (h2 : k - preN ps en y < wy ps en (nxB g ps y)) :
    nthG ps en g k = (y.1.1 : Int) :: nthG ps en (nxB g ps y) (k - preN ps en y) := by
  have hl : (nxB g ps y).n < g.n := behG_lt (hps _ (List.get_mem _ _)) y.2
  obtain ⟨rest, hr⟩ := nxL_at y
  unfold nthG
  obtain ⟨m, hm⟩ : ∃ m, g.n = m + 1 := ⟨g.n - 1, by omega⟩
  rw [hm, nthF, if_neg h0, hr, pickN_at (fun y => wy ps en (nxB g ps y)) y rest _ k h1 h2]
  show (y.1.1 : Int) :: nthF ps en m (nxB g ps y) (k - preN ps en y) = _
  rw [nthF_eq hps en m (nxB g ps y).n _ _ (by omega) (Nat.le_refl _)]
theorem wy_sum {ps : List Pce} (hps : ∀ x ∈ ps, x.ok) (en : Nat) {g : Gp} (h0 : g.n ≠ 0) : wy ps en g = sumN ps en g (nxL g ps) := by
  rw [wy_nx hps en g, baseW, if_neg (fun h => h0 h.1), Nat.zero_add]
theorem nth_ex {ps : List Pce} (hps : ∀ x ∈ ps, x.ok) (en : Nat) {g : Gp} {k : Nat} (h0 : g.n ≠ 0) (hk : k < wy ps en g) : ∃ y : Nx g ps, preN ps en y ≤ k ∧ k - preN ps en y < wy ps en (nxB g ps y) := by
  rw [wy_sum hps en h0] at hk
  obtain ⟨pre, y, rest, e, h1, h2⟩ := pickN_lt _ _ _ hk
  have hp := nx_split ps.length pre rest (Nat.le_refl _) e
  subst hp
  exact ⟨y, h1, h2⟩
theorem wy_end {ps : List Pce} (hps : ∀ x ∈ ps, x.ok) (en : Nat) {g : Gp} (h0 : g.n = 0) : wy ps en g = if g.p = en then 1 else 0 := by
  rw [wy_step hps en g, sum_zero (fun x hx => by
    rw [if_neg]
    intro ht
    have := behG_lt (hps x hx) ht
    omega)]
  simp only [baseW, h0, true_and, Nat.add_zero]
theorem nth_run {ps : List Pce} (hps : ∀ x ∈ ps, x.ok) (en : Nat) : ∀ (m : Nat) (g : Gp) (k : Nat), g.n ≤ m → k < wy ps en g → runG ps g (nthG ps en g k) = some ⟨0, en⟩ := by
  intro m
  induction m with
  | zero =>
    intro g k hm hk
    have h0 : g.n = 0 := by omega
    rw [nth_none ps en k h0]
    rw [wy_end hps en h0] at hk
    split at hk
    · rename_i hp
      obtain ⟨n, p⟩ := g
      simp only at h0 hp
      subst h0
      subst hp
      rfl
    · omega
  | succ m ih =>
    intro g k hm hk
    by_cases h0 : g.n = 0
    · exact ih g k (by omega) hk
    · obtain ⟨y, h1, h2⟩ := nth_ex hps en h0 hk
      have hl : (nxB g ps y).n < g.n := behG_lt (hps _ (List.get_mem _ _)) y.2
      rw [nth_pick hps en h0 y h1 h2, runG, List.foldlM_cons]
      have hs : stepG ps g (y.1.1 : Int) = some (nxB g ps y) := stepG_of (List.getElem?_eq_getElem y.1.2) y.2
      rw [hs]
      exact ih _ _ (by omega) h2

/-! ### The number of a row -/
def rankF (ps : List Pce) (en : Nat) : Gp → List Int → Nat
  | _, [] => 0
  | g, n :: row => sumN ps en g (nxTo g ps n.toNat) + (match ps[n.toNat]? with | some x => rankF ps en (behG g x) row | none => 0)
def rankR (R : Rdg) (row : List Int) : Nat := rankF R.ps R.en.toNat R.top row
theorem rank_nth {ps : List Pce} (hps : ∀ x ∈ ps, x.ok) (en : Nat) : ∀ (m : Nat) (g : Gp) (k : Nat), g.n ≤ m → k < wy ps en g → rankF ps en g (nthG ps en g k) = k := by
  intro m
  induction m with
  | zero =>
    intro g k hm hk
    have h0 : g.n = 0 := by omega
    rw [nth_none ps en k h0]
    rw [wy_end hps en h0] at hk
    show 0 = k
    split at hk <;> omega
  | succ m ih =>
    intro g k hm hk
    by_cases h0 : g.n = 0
    · exact ih g k (by omega) hk
    · obtain ⟨y, h1, h2⟩ := nth_ex hps en h0 hk
      have hl : (nxB g ps y).n < g.n := behG_lt (hps _ (List.get_mem _ _)) y.2
      rw [nth_pick hps en h0 y h1 h2]
      simp only [rankF, Int.toNat_natCast, List.getElem?_eq_getElem y.1.2]
      have := ih (nxB g ps y) (k - preN ps en y) (by omega) h2
      show preN ps en y + rankF ps en (nxB g ps y) _ = k
      rw [this]
      omega

/-! ### Which row is next -/
theorem nth_before {ps : List Pce} (hps : ∀ x ∈ ps, x.ok) (en : Nat) : ∀ (m : Nat) (g : Gp) (k : Nat), g.n ≤ m → k + 1 < wy ps en g → beforeB (nthG ps en g k) (nthG ps en g (k + 1)) = true := by
  intro m
  induction m with
  | zero =>
    intro g k hm hk
    have h0 : g.n = 0 := by omega
    rw [wy_end hps en h0] at hk
    split at hk <;> omega
  | succ m ih =>
    intro g k hm hk
    by_cases h0 : g.n = 0
    · exact ih g k (by omega) hk
    · obtain ⟨y, h1, h2⟩ := nth_ex hps en h0 (show k < wy ps en g by omega)
      obtain ⟨z, h3, h4⟩ := nth_ex hps en h0 hk
      have hl : (nxB g ps y).n < g.n := behG_lt (hps _ (List.get_mem _ _)) y.2
      rw [nth_pick hps en h0 y h1 h2, nth_pick hps en h0 z h3 h4]
      simp only [beforeB]
      by_cases e : y.1.1 = z.1.1
      · obtain rfl : y = z := Subtype.ext (Fin.ext e)
        rw [if_pos rfl, show k + 1 - preN ps en y = (k - preN ps en y) + 1 by omega]
        exact ih _ _ (by omega) (by omega)
      · rw [if_neg (by omega)]
        refine decide_eq_true ?_
        rcases Nat.lt_or_gt_of_ne e with h5 | h5
        · omega
        · have := preN_lt (ps := ps) (en := en) h5
          omega
theorem nth_wd {ps : List Pce} (hps : ∀ x ∈ ps, x.ok) : ∀ (row : List Int) (g h : Gp), runG ps g row = some h → row.length + h.n ≤ g.n := by
  intro row
  induction row with
  | nil =>
    intro g h e
    obtain rfl : g = h := by simpa [runG] using e
    simp
  | cons a row ih =>
    intro g h e
    rw [runG, List.foldlM_cons] at e
    cases hs : stepG ps g a with
    | none => rw [hs] at e; cases e
    | some g2 =>
      rw [hs] at e
      obtain ⟨x, _, hx, ht, rfl⟩ := stepG_some hs
      have := ih _ _ (show runG ps (behG g x) row = some h from e)
      have := behG_lt (hps x (List.mem_of_getElem? hx)) ht
      rw [List.length_cons]
      omega
end Go.Proofs.Ytmcmhgjlpffcnaa
