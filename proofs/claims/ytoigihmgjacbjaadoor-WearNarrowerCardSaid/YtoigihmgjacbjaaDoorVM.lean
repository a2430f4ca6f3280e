/- Mathematics of probes: a mark put into its place among marks in order, or joined with the one that is there; in whichever order two are put in, the list is the same. No condition. -/
import Derived.Test.YtoigihmgjacbjaaDoorVF
set_option linter.unusedSimpArgs false
namespace Go.Proofs.YtoigihmgjacbjaaDoor
open Go.RowKit

/-! ### The order of points -/
theorem pcmp_neg {p q : Pnt} : pcmp p q < 0 ↔ p.y < q.y ∨ (p.y = q.y ∧ p.x < q.x) := by
  unfold pcmp orM sgn
  split <;> (try split) <;> (try split) <;> (try split) <;> (try split) <;> omega
theorem pcmp_zero {p q : Pnt} : pcmp p q = 0 ↔ p = q := by
  obtain ⟨a, b⟩ := p
  obtain ⟨c, d⟩ := q
  simp only [Pnt.mk.injEq]
  unfold pcmp orM sgn
  simp only
  split <;> (try split) <;> (try split) <;> (try split) <;> (try split) <;> omega
def plt (p q : Pnt) : Prop := p.y < q.y ∨ (p.y = q.y ∧ p.x < q.x)
theorem plt_iff {p q : Pnt} : pcmp p q < 0 ↔ plt p q := pcmp_neg
instance (p q : Pnt) : Decidable (plt p q) := by unfold plt; infer_instance
theorem plt_trans {p q r : Pnt} (h : plt p q) (k : plt q r) : plt p r := by unfold plt at *; omega
theorem plt_irrefl (p : Pnt) : ¬ plt p p := by unfold plt; omega
theorem plt_asymm {p q : Pnt} (h : plt p q) : ¬ plt q p := by unfold plt at *; omega
theorem plt_tri (p q : Pnt) : plt p q ∨ p = q ∨ plt q p := by
  obtain ⟨a, b⟩ := p
  obtain ⟨c, d⟩ := q
  simp only [plt, Pnt.mk.injEq]
  omega

/-! ### What two spans have in common -/
theorem com_comm (a b : Spn) : comM a b = comM b a := by
  unfold comM
  rw [Int.max_comm, Int.min_comm]
theorem com_nothing' (b : Spn) : comM b nothingS = nothingS := by rw [com_comm, com_nothing]
def comC (l h : Int) : Spn := if h < l then nothingS else ⟨l, h⟩
theorem com_c (a b : Spn) : comM a b = comC (max a.lo b.lo) (min a.hi b.hi) := rfl
theorem com_c2 (a b c : Spn) : comM (comM a b) c = comC (max (max a.lo b.lo) c.lo) (min (min a.hi b.hi) c.hi) := by
  by_cases h : min a.hi b.hi < max a.lo b.lo
  · have e : comM a b = nothingS := by unfold comM; rw [if_pos h]
    rw [e, com_nothing]
    unfold comC
    rw [if_pos (by omega)]
  · have e : comM a b = ⟨max a.lo b.lo, min a.hi b.hi⟩ := by unfold comM; rw [if_neg h]
    rw [e]
    rfl
theorem com_assoc (a b c : Spn) : comM (comM a b) c = comM a (comM b c) := by
  rw [com_c2, com_comm a (comM b c), com_c2]
  congr 1 <;> omega
theorem com_right (a b c : Spn) : comM (comM a b) c = comM (comM a c) b := by rw [com_assoc, com_comm b c, ← com_assoc]
theorem com_self2 (a b : Spn) : comM (comM a b) b = comM a b := by
  rw [com_c2]
  show comC _ _ = comC _ _
  congr 1 <;> omega

/-! ### A mark put in -/
def insK (x : Mrk) : List Mrk → List Mrk
  | [] => [x]
  | m :: t => if plt m.at_ x.at_ then m :: insK x t else if m.at_ = x.at_ then ⟨m.at_, comM m.th x.th⟩ :: t else x :: m :: t
theorem insK_comm (x y : Mrk) : ∀ l : List Mrk, insK y (insK x l) = insK x (insK y l)
  | [] => by
    rcases plt_tri x.at_ y.at_ with h | h | h
    · have h2 : ¬ plt y.at_ x.at_ := plt_asymm h
      have h3 : y.at_ ≠ x.at_ := fun e => plt_irrefl _ (e ▸ h)
      simp [insK, h, h2, h3]
    · have h1 : ¬ plt x.at_ y.at_ := by rw [h]; exact plt_irrefl _
      have h2 : ¬ plt y.at_ x.at_ := by rw [h]; exact plt_irrefl _
      simp only [insK, if_neg h1, if_neg h2, if_pos h, if_pos h.symm, List.cons.injEq, and_true, Mrk.mk.injEq]
      exact ⟨h, com_comm _ _⟩
    · have h2 : ¬ plt x.at_ y.at_ := plt_asymm h
      have h3 : x.at_ ≠ y.at_ := fun e => plt_irrefl _ (e ▸ h)
      simp [insK, h, h2, h3]
  | m :: t => by
    rcases plt_tri m.at_ x.at_ with hx | hx | hx
    · rcases plt_tri m.at_ y.at_ with hy | hy | hy
      · simp only [insK, if_pos hx, if_pos hy, insK_comm x y t]
      · have h1 : ¬ plt m.at_ y.at_ := by rw [hy]; exact plt_irrefl _
        simp only [insK, if_pos hx, if_neg h1, if_pos hy]
      · have h1 : ¬ plt m.at_ y.at_ := plt_asymm hy
        have h2 : m.at_ ≠ y.at_ := fun e => plt_irrefl m.at_ (e ▸ hy)
        have h3 : plt y.at_ x.at_ := plt_trans hy hx
        simp only [insK, if_pos hx, if_neg h1, if_neg h2, if_pos h3]
    · have hx0 : ¬ plt m.at_ x.at_ := by rw [hx]; exact plt_irrefl _
      rcases plt_tri m.at_ y.at_ with hy | hy | hy
      · simp only [insK, if_neg hx0, if_pos hx, if_pos hy]
      · have h1 : ¬ plt m.at_ y.at_ := by rw [hy]; exact plt_irrefl _
        simp only [insK, if_neg hx0, if_pos hx, if_neg h1, if_pos hy, com_right m.th x.th y.th]
      · have h1 : ¬ plt m.at_ y.at_ := plt_asymm hy
        have h2 : m.at_ ≠ y.at_ := fun e => plt_irrefl m.at_ (e ▸ hy)
        have h3 : plt y.at_ x.at_ := hx ▸ hy
        simp only [insK, if_neg hx0, if_pos hx, if_neg h1, if_neg h2, if_pos h3]
    · have hx0 : ¬ plt m.at_ x.at_ := plt_asymm hx
      have hx1 : m.at_ ≠ x.at_ := fun e => plt_irrefl m.at_ (e ▸ hx)
      rcases plt_tri x.at_ y.at_ with hy | hy | hy
      · rcases plt_tri m.at_ y.at_ with k | k | k
        · simp only [insK, if_neg hx0, if_neg hx1, if_pos hy, if_pos k]
        · have h1 : ¬ plt m.at_ y.at_ := by rw [k]; exact plt_irrefl _
          simp only [insK, if_neg hx0, if_neg hx1, if_pos hy, if_neg h1, if_pos k]
        · have h1 : ¬ plt m.at_ y.at_ := plt_asymm k
          have h2 : m.at_ ≠ y.at_ := fun e => plt_irrefl m.at_ (e ▸ k)
          have h3 : ¬ plt y.at_ x.at_ := plt_asymm hy
          have h4 : y.at_ ≠ x.at_ := fun e => plt_irrefl _ (e ▸ hy)
          simp only [insK, if_neg hx0, if_neg hx1, if_pos hy, if_neg h1, if_neg h2, if_neg h3, if_neg h4]
      · have k : plt y.at_ m.at_ := hy ▸ hx
        have h1 : ¬ plt m.at_ y.at_ := plt_asymm k
        have h2 : m.at_ ≠ y.at_ := fun e => plt_irrefl m.at_ (e ▸ k)
        have h3 : ¬ plt x.at_ y.at_ := by rw [hy]; exact plt_irrefl _
        have h4 : ¬ plt y.at_ x.at_ := by rw [hy]; exact plt_irrefl _
        simp only [insK, if_neg hx0, if_neg hx1, if_neg h1, if_neg h2, if_neg h3, if_neg h4, if_pos hy, if_pos hy.symm, List.cons.injEq, and_true, Mrk.mk.injEq]
        exact ⟨hy, com_comm _ _⟩
      · have k : plt y.at_ m.at_ := plt_trans hy hx
        have h1 : ¬ plt m.at_ y.at_ := plt_asymm k
        have h2 : m.at_ ≠ y.at_ := fun e => plt_irrefl m.at_ (e ▸ k)
        have h3 : ¬ plt x.at_ y.at_ := plt_asymm hy
        have h4 : x.at_ ≠ y.at_ := fun e => plt_irrefl _ (e ▸ hy)
        simp only [insK, if_neg hx0, if_neg hx1, if_neg h1, if_neg h2, if_neg h3, if_neg h4, if_pos hy]
theorem insK_twice (x : Mrk) (h : comM x.th x.th = x.th) : ∀ l : List Mrk, insK x (insK x l) = insK x l
  | [] => by simp only [insK, if_neg (plt_irrefl _), if_true, h]
  | m :: t => by
    rcases plt_tri m.at_ x.at_ with hx | hx | hx
    · simp only [insK, if_pos hx, insK_twice x h t]
    · have hx0 : ¬ plt m.at_ x.at_ := by rw [hx]; exact plt_irrefl _
      simp only [insK, if_neg hx0, if_pos hx, com_self2]
    · have hx0 : ¬ plt m.at_ x.at_ := plt_asymm hx
      have hx1 : m.at_ ≠ x.at_ := fun e => plt_irrefl m.at_ (e ▸ hx)
      simp only [insK, if_neg hx0, if_neg hx1, if_neg (plt_irrefl _), if_true, h]
/-- The mark is put in at the first place whose mark is not ahead of it. -/
theorem insK_at (x : Mrk) : ∀ (l : List Mrk) (i : Nat), i ≤ l.length → (∀ j m, l[j]? = some m → j < i → plt m.at_ x.at_) → (∀ m, l[i]? = some m → ¬ plt m.at_ x.at_) →
    insK x l = if (l[i]?.map (·.at_)) = some x.at_ then l.set i ⟨x.at_, comM ((l[i]?.map (·.th)).getD ⟨0, 0⟩) x.th⟩ else l.take i ++ x :: l.drop i
  | [], i, hi, _, _ => by
    obtain rfl : i = 0 := by simpa using hi
    simp [insK]
  | m :: t, 0, _, _, h2 => by
    have h3 := h2 m rfl
    by_cases hm : m.at_ = x.at_
    · simp only [insK, if_neg h3, if_pos hm, List.getElem?_cons_zero, Option.map_some, Option.getD_some, List.set_cons_zero]
      rw [if_pos (by rw [hm]), hm]
    · simp [insK, h3, hm]
  | m :: t, i + 1, hi, h1, h2 => by
    have h3 := h1 0 m rfl (by omega)
    have ih := insK_at x t i (by simpa using hi) (fun j y hj hji => h1 (j + 1) y (by simpa using hj) (by omega)) (fun y hy => h2 y (by simpa using hy))
    simp only [insK, if_pos h3, ih, List.getElem?_cons_succ, List.set_cons_succ, List.take_succ_cons, List.drop_succ_cons]
    split <;> rfl
theorem insK_len (x : Mrk) : ∀ l : List Mrk, l.length ≤ (insK x l).length ∧ (insK x l).length ≤ l.length + 1
  | [] => by simp [insK]
  | m :: t => by
    have := insK_len x t
    simp only [insK]
    split
    · simp only [List.length_cons]; omega
    · split <;> simp
theorem insK_mem (x : Mrk) : ∀ (l : List Mrk) (y : Mrk), y ∈ insK x l → y ∈ l ∨ y = x ∨ ∃ m ∈ l, m.at_ = x.at_ ∧ y = ⟨x.at_, comM m.th x.th⟩
  | [], y, h => by
    simp only [insK, List.mem_singleton] at h
    exact .inr (.inl h)
  | m :: t, y, h => by
    simp only [insK] at h
    split at h
    · rcases List.mem_cons.1 h with rfl | h
      · exact .inl (by simp)
      · rcases insK_mem x t y h with h | h | ⟨n, hn, h⟩
        · exact .inl (by simp [h])
        · exact .inr (.inl h)
        · exact .inr (.inr ⟨n, by simp [hn], h⟩)
    · split at h
      · rename_i hm
        rcases List.mem_cons.1 h with rfl | h
        · exact .inr (.inr ⟨m, by simp, hm, by rw [hm]⟩)
        · exact .inl (by simp [h])
      · rcases List.mem_cons.1 h with rfl | h
        · exact .inr (.inl rfl)
        · exact .inl h
/-- What was there is there, or is narrower; and the mark that was put in is there, or a narrower one. -/
theorem insK_old (x : Mrk) : ∀ (l : List Mrk) (m : Mrk), m ∈ l → m ∈ insK x l ∨ (m.at_ = x.at_ ∧ (⟨x.at_, comM m.th x.th⟩ : Mrk) ∈ insK x l)
  | [], m, h => by cases h
  | y :: t, m, h => by
    simp only [insK]
    rcases List.mem_cons.1 h with rfl | h
    · split
      · exact .inl (by simp)
      · split
        · rename_i hm
          exact .inr ⟨hm, by rw [hm]; simp⟩
        · exact .inl (by simp)
    · split
      · rcases insK_old x t m h with k | ⟨k1, k2⟩
        · exact .inl (by simp [k])
        · exact .inr ⟨k1, by simp [k2]⟩
      · split
        · exact .inl (by simp [h])
        · exact .inl (by simp [h])
theorem insK_new (x : Mrk) : ∀ l : List Mrk, x ∈ insK x l ∨ ∃ m ∈ l, m.at_ = x.at_ ∧ (⟨x.at_, comM m.th x.th⟩ : Mrk) ∈ insK x l
  | [] => .inl (by simp [insK])
  | y :: t => by
    simp only [insK]
    split
    · rcases insK_new x t with k | ⟨m, k1, k2, k3⟩
      · exact .inl (by simp [k])
      · exact .inr ⟨m, by simp [k1], k2, by simp [k3]⟩
    · split
      · rename_i hm
        exact .inr ⟨y, by simp, hm, by rw [hm]; simp⟩
      · exact .inl (by simp)
theorem ordB_cons {m : Mrk} {l : List Mrk} : ordB (m :: l) = true ↔ (∀ n, l[0]? = some n → plt m.at_ n.at_) ∧ ordB l = true := by
  cases l with
  | nil => simp [ordB]
  | cons a t => simp [ordB, plt_iff]
theorem insK_ord (x : Mrk) : ∀ l : List Mrk, ordB l = true → ordB (insK x l) = true
  | [], _ => by simp [insK, ordB]
  | m :: t, h => by
    have h1 := ordB_cons.1 h
    simp only [insK]
    split
    · rename_i hm
      refine ordB_cons.2 ⟨fun n hn => ?_, insK_ord x t h1.2⟩
      cases t with
      | nil =>
        obtain rfl : x = n := by simpa [insK] using hn
        exact hm
      | cons a t =>
        simp only [insK] at hn
        have := h1.1 a rfl
        split at hn
        · obtain rfl : a = n := by simpa using hn
          exact this
        · split at hn
          · obtain rfl : (⟨a.at_, comM a.th x.th⟩ : Mrk) = n := by simpa using hn
            exact this
          · obtain rfl : x = n := by simpa using hn
            exact hm
    · rename_i hm
      split
      · exact ordB_cons.2 ⟨h1.1, h1.2⟩
      · rename_i hne
        refine ordB_cons.2 ⟨fun n hn => ?_, h⟩
        obtain rfl : m = n := by simpa using hn
        rcases plt_tri m.at_ x.at_ with k | k | k
        · exact absurd k hm
        · exact absurd k hne
        · exact k
end Go.Proofs.YtoigihmgjacbjaaDoor
