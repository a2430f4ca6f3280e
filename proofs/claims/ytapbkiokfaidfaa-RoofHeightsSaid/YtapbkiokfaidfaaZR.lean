/- What a roof that may be says of points: a face that holds a point within holds it alone; an opening's face holds what is in the opening within. -/
import Derived.Test.YtapbkiokfaidfaaW
import Derived.Test.YtapbkiokfaidfaaY
import Derived.Test.YtapbkiokfaidfaaZH
namespace Go.Proofs.Ytapbkiokfaidfaa
open Go.RowKit

theorem checkE_parts {R : Roo} (h : checkE R = 0) : facesE R.fs = 0 ∧ opensE R.os R.fs = 0 ∧ togetherE R.fs = 0 := by
  unfold checkE at h
  split at h
  · omega
  split at h
  · rename_i h2
    exact absurd h h2
  rename_i h2
  split at h
  · omega
  split at h
  · rename_i h3
    exact absurd h h3
  rename_i h3
  exact ⟨Classical.not_not.1 h2, Classical.not_not.1 h3, h⟩

theorem facesE_outline {fs : List Fac} (h : facesE fs = 0) {i : Nat} {f : Fac} (hf : fs[i]? = some f) : outlineE f.cs = 0 := by
  have hi := (List.getElem?_eq_some_iff.1 hf).1
  have := firstNZ_all h i hi
  rw [hf] at this
  exact faceE_pts this

theorem coveredL_comm (a b : List Pnt) : coveredL a b = coveredL b a := by unfold coveredL; rw [Bool.and_comm]

theorem togetherE_parts {fs : List Fac} (h : togetherE fs = 0) : coverF fs = false ∧ overF fs = false := by
  unfold togetherE at h
  split at h
  · omega
  split at h
  · omega
  rename_i h1 h2
  exact ⟨by simpa using h1, by simpa using h2⟩

theorem uncovered {fs : List Fac} (h : togetherE fs = 0) {i j : Nat} {f g : Fac} (hf : fs[i]? = some f) (hg : fs[j]? = some g) (hne : i ≠ j) : coveredL f.cs g.cs = false := by
  have h1 := (togetherE_parts h).1
  rw [Bool.eq_false_iff]
  intro hc
  rcases Nat.lt_or_gt_of_ne hne with hlt | hlt
  · rw [coveredL_comm] at hc
    have := pairF_true (P := coveredL) hg hf hlt hc
    exact absurd (this.symm.trans h1) (by simp)
  · have := pairF_true (P := coveredL) hf hg hlt hc
    exact absurd (this.symm.trans h1) (by simp)

/-- A point within a face is on no other one. -/
theorem within_alone {R : Roo} {p : Pnt} (h : checkE R = 0) {i j : Nat} {f g : Fac} (hf : R.fs[i]? = some f) (hg : R.fs[j]? = some g) (hw : withinL f.cs p = true) (ho : onL g.cs p = true) : i = j := by
  obtain ⟨h1, _, h3⟩ := checkE_parts h
  rcases Nat.decEq i j with hne | he
  · have := parted_apart (facesE_outline h1 hf) (facesE_outline h1 hg) (uncovered h3 hf hg hne) hw
    rw [this] at ho
    cases ho
  · exact he

theorem onL_of_within {l : List Pnt} {p : Pnt} (h : withinL l p = true) : onL l p = true :=
  onL_iff.2 fun k hk => by have := withinL_iff.1 h k hk; omega

theorem opensE_at {os : List Opn} {fs : List Fac} (h : opensE os fs = 0) {i : Nat} {o : Opn} (ho : os[i]? = some o) : ∃ f, 0 ≤ o.face ∧ fs[o.face.toNat]? = some f ∧ ∀ q ∈ opnPts o, withinO f.cs q = true := by
  have hi := (List.getElem?_eq_some_iff.1 ho).1
  have := firstNZ_all h i hi
  rw [ho] at this
  simp only [] at this
  unfold openE at this
  split at this
  · omega
  split at this
  · omega
  split at this
  · omega
  rename_i hfr
  split at this
  · omega
  split at this
  · omega
  split at this
  · omega
  rename_i f hf
  split at this
  · omega
  rename_i hw
  refine ⟨f, ?_, hf, ?_⟩
  · simp [isFromB] at hfr
    exact hfr.1
  · have := (Bool.not_eq_false _).mp hw
    rw [List.all_eq_true] at this
    exact this

def wiF (fs : List Fac) (p : Pnt) (n : Nat) : Bool := match fs[n]? with | some f => withinL f.cs p | none => false
/-- The last of the first n faces that hold a point within, or -1. -/
def insI (fs : List Fac) (p : Pnt) : Nat → Int
  | 0 => -1
  | n + 1 => if wiF fs p n = true then (n : Int) else insI fs p n

theorem insI_lt (fs : List Fac) (p : Pnt) (n : Nat) : -1 ≤ insI fs p n ∧ insI fs p n < n := by
  induction n with
  | zero => exact ⟨by show (-1 : Int) ≤ -1; omega, by show (-1 : Int) < 0; omega⟩
  | succ n ih =>
    unfold insI
    split
    · constructor <;> omega
    · constructor <;> omega
theorem insI_within {fs : List Fac} {p : Pnt} {n : Nat} (h : 0 ≤ insI fs p n) : ∃ i f, insI fs p n = (i : Nat) ∧ i < n ∧ fs[i]? = some f ∧ withinL f.cs p = true := by
  induction n with
  | zero => exact absurd h (by show ¬ (0 : Int) ≤ -1; omega)
  | succ n ih =>
    unfold insI at h ⊢
    split at h
    · rename_i hw
      rw [if_pos hw]
      unfold wiF at hw
      cases hf : fs[n]? with
      | none => rw [hf] at hw; cases hw
      | some f => rw [hf] at hw; exact ⟨n, f, rfl, by omega, hf, hw⟩
    · rename_i hw
      rw [if_neg hw]
      obtain ⟨i, f, h1, h2, h3, h4⟩ := ih h
      exact ⟨i, f, h1, by omega, h3, h4⟩
theorem insI_of {fs : List Fac} {p : Pnt} {n k : Nat} {f : Fac} (hk : k < n) (hf : fs[k]? = some f) (hw : withinL f.cs p = true) (hu : ∀ i g, fs[i]? = some g → withinL g.cs p = true → i = k) : insI fs p n = k := by
  induction n with
  | zero => omega
  | succ n ih =>
    unfold insI
    by_cases hkn : k = n
    · subst hkn
      have : wiF fs p k = true := by unfold wiF; rw [hf]; exact hw
      rw [if_pos this]
    · rw [if_neg, ih (by omega)]
      intro hx
      unfold wiF at hx
      cases hg : fs[n]? with
      | none => rw [hg] at hx; cases hx
      | some g => rw [hg] at hx; exact hkn (hu n g hg hx).symm

/-! ### The list of faces that a point is on -/
theorem whereL_split (fs : List Fac) (p : Pnt) {j n : Nat} (h : j ≤ n) : whereL fs p n = whereL fs p j ++ (List.range' j (n - j)).filter (onF fs p) := by
  unfold whereL
  rw [← List.filter_append]
  congr 1
  rw [List.range_eq_range', List.range_eq_range', show n = j + (n - j) by omega, ← List.range'_append (s := 0) (m := j) (n := n - j) (step := 1)]
  simp

theorem whereL_next {fs : List Fac} {p : Pnt} {j n : Nat} (h : j < n) (ho : onF fs p j = true) : (whereL fs p n)[(whereL fs p j).length]? = some j := by
  rw [whereL_split fs p (Nat.le_of_lt h), List.getElem?_append_right (Nat.le_refl _), Nat.sub_self, show n - j = (n - j - 1) + 1 by omega, List.range'_succ, List.filter_cons, if_pos ho]
  rfl
theorem whereL_other {fs : List Fac} {p : Pnt} {j n : Nat} (ho : onF fs p j = false) : (whereL fs p n)[(whereL fs p j).length]? ≠ some j := by
  intro hx
  have hm : j ∈ whereL fs p n := List.mem_of_getElem? hx
  unfold whereL at hm
  rw [List.mem_filter, ho] at hm
  exact absurd hm.2 (by simp)

theorem whereL_one {R : Roo} {p : Pnt} (h : checkE R = 0) (hi : 0 ≤ insI R.fs p R.fs.length) : (whereL R.fs p R.fs.length).length = 1 := by
  obtain ⟨i, f, _, h2, h3, h4⟩ := insI_within hi
  have key : ∀ k, k < R.fs.length → (onF R.fs p k = true ↔ k = i) := by
    intro k hk
    have hg : R.fs[k]? = some R.fs[k] := List.getElem?_eq_getElem hk
    constructor
    · intro ho
      unfold onF at ho
      rw [hg] at ho
      exact (within_alone h h3 hg h4 ho).symm
    · rintro rfl
      unfold onF
      rw [h3]
      exact onL_of_within h4
  have e : whereL R.fs p R.fs.length = (List.range R.fs.length).filter (fun k => k == i) := by
    unfold whereL
    refine List.filter_congr fun k hk => ?_
    have := key k (by simpa using hk)
    rw [Bool.eq_iff_iff, this, beq_iff_eq]
  rw [e]
  rw [List.filter_beq, List.length_replicate, List.count_range]
  simp [h2]

/-- The opening that a point is in is of the face that holds the point within. -/
theorem openAt_face {R : Roo} {p : Pnt} (h : checkE R = 0) {k : Nat} (hk : openAtI R.os p = k) : ∃ o, R.os[k]? = some o ∧ o.face = insI R.fs p R.fs.length := by
  unfold openAtI at hk
  cases hf : R.os.findIdx? (inOpn p) with
  | none => rw [hf] at hk; simp at hk
  | some m =>
    rw [hf] at hk
    simp only [Int.natCast_inj] at hk
    subst hk
    obtain ⟨hm, hin, _⟩ := List.findIdx?_eq_some_iff_getElem.1 hf
    have ho : R.os[m]? = some R.os[m] := List.getElem?_eq_getElem hm
    obtain ⟨f, h0, hfa, hall⟩ := opensE_at (checkE_parts h).2.1 ho
    refine ⟨_, ho, ?_⟩
    have hw := open_within hall hin
    have hlt := (List.getElem?_eq_some_iff.1 hfa).1
    have := insI_of (n := R.fs.length) hlt hfa hw (fun i g hg hgw => within_alone h hg hfa hgw (onL_of_within hw))
    rw [this]
    omega
theorem openAtI_lt (os : List Opn) (p : Pnt) : -1 ≤ openAtI os p ∧ openAtI os p < os.length ∨ openAtI os p = -1 := by
  unfold openAtI
  cases hf : os.findIdx? (inOpn p) with
  | none => exact .inr rfl
  | some m =>
    obtain ⟨hm, _, _⟩ := List.findIdx?_eq_some_iff_getElem.1 hf
    exact .inl ⟨by simp only []; omega, by simp only []; omega⟩
end Go.Proofs.Ytapbkiokfaidfaa
