/- Plane geometry over whole numbers: a convex outline lies on one side of a line as soon as its corners do; so a point within a face is on no other one, and a point in an opening is within its face. -/
import Derived.Test.YtapbkiokfaidfaaW
namespace Go.Proofs.Ytapbkiokfaidfaa
open Go.RowKit

def crs (a b c d : Int) : Int := a * d - b * c

theorem crs_mid {A B x1 y1 x2 y2 x3 y3 : Int} (h1 : A * x1 + B * y1 < 0) (h2 : A * x2 + B * y2 < 0) (h3 : A * x3 + B * y3 < 0)
    (h12 : 0 ≤ crs x1 y1 x2 y2) (h23 : 0 ≤ crs x2 y2 x3 y3) : 0 ≤ crs x1 y1 x3 y3 := by
  have e : (A * x2 + B * y2) * crs x1 y1 x3 y3 = (A * x1 + B * y1) * crs x2 y2 x3 y3 + (A * x3 + B * y3) * crs x1 y1 x2 y2 := by unfold crs; grind
  generalize A * x1 + B * y1 = f1 at *
  generalize A * x2 + B * y2 = f2 at *
  generalize A * x3 + B * y3 = f3 at *
  generalize crs x1 y1 x2 y2 = c12 at *
  generalize crs x2 y2 x3 y3 = c23 at *
  generalize crs x1 y1 x3 y3 = c13 at *
  by_cases h : 0 ≤ c13
  · exact h
  · have t1 := Int.mul_pos_of_neg_of_neg h2 (show c13 < 0 by omega)
    have t2 := Int.mul_nonneg (show 0 ≤ -f1 by omega) h23
    have t3 := Int.mul_nonneg (show 0 ≤ -f3 by omega) h12
    rw [Int.neg_mul] at t2 t3
    omega

theorem crs_anti (a b c d : Int) : crs c d a b = - crs a b c d := by unfold crs; grind

theorem crs_zero {A B x0 y0 x1 y1 x2 y2 : Int} (h0 : A * x0 + B * y0 < 0) (h1 : crs x0 y0 x1 y1 = 0) (h2 : crs x0 y0 x2 y2 = 0) : crs x1 y1 x2 y2 = 0 := by
  have e : (A * x0 + B * y0) * crs x1 y1 x2 y2 = (A * x1 + B * y1) * crs x0 y0 x2 y2 - (A * x2 + B * y2) * crs x0 y0 x1 y1 := by unfold crs; grind
  rw [h1, h2, Int.mul_zero, Int.mul_zero] at e
  rcases Int.mul_eq_zero.1 (e.trans (by omega)) with h | h
  · omega
  · exact h

/-- Directions in an open half plane, each to the left of the one ahead of it, all around: they are one direction. -/
theorem cyc {n : Nat} {X Y : Nat → Int} {A B : Int} (hn : 0 < n) (hf : ∀ j, j < n → A * X j + B * Y j < 0) (hc : ∀ k, k < n → 0 ≤ crs (X k) (Y k) (X ((k + 1) % n)) (Y ((k + 1) % n))) :
    ∀ i j, i < n → j < n → crs (X i) (Y i) (X j) (Y j) = 0 := by
  have up : ∀ k, k < n → 0 ≤ crs (X 0) (Y 0) (X k) (Y k) := by
    intro k
    induction k with
    | zero => intro _; unfold crs; rw [Int.mul_comm]; omega
    | succ k ih =>
      intro hk
      have := hc k (by omega)
      rw [Nat.mod_eq_of_lt hk] at this
      exact crs_mid (hf 0 hn) (hf k (by omega)) (hf (k + 1) hk) (ih (by omega)) this
  have dn : ∀ m k, k + m + 1 = n → 0 ≤ crs (X k) (Y k) (X 0) (Y 0) := by
    intro m
    induction m with
    | zero =>
      intro k hk
      have := hc k (by omega)
      rw [show k + 1 = n by omega, Nat.mod_self] at this
      exact this
    | succ m ih =>
      intro k hk
      have := hc k (by omega)
      rw [Nat.mod_eq_of_lt (by omega)] at this
      exact crs_mid (hf k (by omega)) (hf (k + 1) (by omega)) (hf 0 hn) this (ih (k + 1) (by omega))
  have z : ∀ k, k < n → crs (X 0) (Y 0) (X k) (Y k) = 0 := by
    intro k hk
    have h1 := up k hk
    have h2 := dn (n - 1 - k) k (by omega)
    rw [crs_anti] at h2
    omega
  intro i j hi hj
  exact crs_zero (hf 0 hn) (z i hi) (z j hj)

/-- A linear form with a number. -/
def lin (A B C : Int) (p : Pnt) : Int := A * p.x + B * p.y + C
theorem side_lin (e : Edg) (p : Pnt) : e.side p = lin (-(e.b.y - e.a.y)) (e.b.x - e.a.x) ((e.b.y - e.a.y) * e.a.x - (e.b.x - e.a.x) * e.a.y) p := by unfold Edg.side lin; grind

def crn (l : List Pnt) (k : Nat) : Pnt := l[k]?.getD ⟨0, 0⟩
theorem edgN_crn (l : List Pnt) (k : Nat) : edgN l k = ⟨crn l k, crn l ((k + 1) % l.length)⟩ := rfl
theorem crn_mem {l : List Pnt} {k : Nat} (h : k < l.length) : crn l k ∈ l := by
  unfold crn
  rw [List.getElem?_eq_getElem h]
  exact List.getElem_mem h
theorem mem_crn {l : List Pnt} {q : Pnt} (h : q ∈ l) : ∃ k, k < l.length ∧ q = crn l k := by
  obtain ⟨k, hk, rfl⟩ := List.getElem_of_mem h
  exact ⟨k, hk, by unfold crn; rw [List.getElem?_eq_getElem hk]; rfl⟩

/-- Not all corners of a convex outline are on one line. -/
theorem convex_not_flat {l : List Pnt} (h : convexL l = true) : 0 < l.length ∧ ¬ (∀ k, k < l.length → ∀ j, j < l.length → (edgN l k).side (crn l j) = 0) := by
  unfold convexL at h
  simp only [Bool.and_eq_true, Bool.not_eq_true'] at h
  have h2 := h.2
  refine ⟨?_, fun hf => ?_⟩
  · rcases Nat.eq_zero_or_pos l.length with h0 | h0
    · rw [h0] at h2
      simp at h2
    · exact h0
  · have : ((List.range l.length).all fun k => flatAll l (edgN l k)) = true := by
      rw [List.all_eq_true]
      intro k hk
      unfold flatAll
      rw [List.all_eq_true]
      intro q hq
      obtain ⟨j, hj, rfl⟩ := mem_crn hq
      simpa using hf k (by simpa using hk) j hj
    rw [this] at h2
    cases h2

theorem onL_iff {l : List Pnt} {p : Pnt} : onL l p = true ↔ ∀ k, k < l.length → 0 ≤ (edgN l k).side p := by simp [onL]
theorem withinL_iff {l : List Pnt} {p : Pnt} : withinL l p = true ↔ ∀ k, k < l.length → 0 < (edgN l k).side p := by simp [withinL]

/-- A point on a convex outline is where a line has all its corners. -/
theorem on_below {l : List Pnt} {p : Pnt} {A B C : Int} (h : convexL l = true) (hp : onL l p = true) (hc : ∀ q ∈ l, lin A B C q ≤ 0) : lin A B C p ≤ 0 := by
  obtain ⟨hn, hnf⟩ := convex_not_flat h
  rw [onL_iff] at hp
  by_cases hgt : lin A B C p ≤ 0
  · exact hgt
  · exfalso
    have hz := cyc (n := l.length) (X := fun k => (crn l k).x - p.x) (Y := fun k => (crn l k).y - p.y) (A := A) (B := B) hn
      (fun j hj => by
        have := hc _ (crn_mem hj)
        unfold lin at this hgt
        have e : A * ((crn l j).x - p.x) + B * ((crn l j).y - p.y) = (A * (crn l j).x + B * (crn l j).y + C) - (A * p.x + B * p.y + C) := by grind
        rw [e]
        omega)
      (fun k hk => by
        have := hp k hk
        rw [edgN_crn] at this
        unfold Edg.side at this
        unfold crs
        grind)
    refine hnf fun k hk j hj => ?_
    have hk' : (k + 1) % l.length < l.length := Nat.mod_lt _ hn
    have a1 := hz k ((k + 1) % l.length) hk hk'
    have a2 := hz k j hk hj
    have a3 := hz ((k + 1) % l.length) j hk' hj
    rw [edgN_crn]
    unfold Edg.side
    unfold crs at a1 a2 a3
    generalize (k + 1) % l.length = k' at *
    simp only [] at a1 a2 a3 ⊢
    grind

theorem sq_nonneg (a : Int) : 0 ≤ a * a := by
  rcases Int.le_total 0 a with t | t
  · exact Int.mul_nonneg t t
  · exact Int.mul_nonneg_of_nonpos_of_nonpos t t

/-- A point within a convex outline is strictly where a line has all its corners. -/
theorem within_below {l : List Pnt} {p : Pnt} {A B C : Int} (hok : okPts l) (h : convexL l = true) (hp : withinL l p = true) (hA : -10000 ≤ A) (hA' : A ≤ 10000) (hB : -10000 ≤ B) (hB' : B ≤ 10000) (hAB : ¬ (A = 0 ∧ B = 0)) (hc : ∀ q ∈ l, lin A B C q ≤ 0) : lin A B C p < 0 := by
  obtain ⟨hn, hnf⟩ := convex_not_flat h
  rw [withinL_iff] at hp
  by_cases hgt : lin A B C p < 0
  · exact hgt
  · exfalso
    have hg : 0 < A * A + B * B := by
      have h1 := sq_nonneg A
      have h2 := sq_nonneg B
      rcases Int.lt_or_eq_of_le h1 with t | t
      · omega
      · rcases Int.lt_or_eq_of_le h2 with u | u
        · omega
        · exact (hAB ⟨by rcases Int.mul_eq_zero.1 t.symm with h | h <;> exact h, by rcases Int.mul_eq_zero.1 u.symm with h | h <;> exact h⟩).elim
    have hpos : ∀ k, k < l.length → 0 < crs (300000000 * ((crn l k).x - p.x) - A) (300000000 * ((crn l k).y - p.y) - B) (300000000 * ((crn l ((k + 1) % l.length)).x - p.x) - A) (300000000 * ((crn l ((k + 1) % l.length)).y - p.y) - B) := by
      intro k hk
      have hs := hp k hk
      have hk' : (k + 1) % l.length < l.length := Nat.mod_lt _ hn
      obtain ⟨⟨u1, u2⟩, u3, u4⟩ := hok _ (crn_mem hk)
      obtain ⟨⟨v1, v2⟩, v3, v4⟩ := hok _ (crn_mem hk')
      rw [edgN_crn] at hs
      generalize (k + 1) % l.length = k' at *
      unfold Edg.side at hs
      simp only [] at hs
      have m1 := mul_bd4 (a := A) (b := (crn l k').y - (crn l k).y) (by omega) (by omega) (by omega) (by omega)
      have m2 := mul_bd4 (a := B) (b := (crn l k').x - (crn l k).x) (by omega) (by omega) (by omega) (by omega)
      have e : crs (300000000 * ((crn l k).x - p.x) - A) (300000000 * ((crn l k).y - p.y) - B) (300000000 * ((crn l k').x - p.x) - A) (300000000 * ((crn l k').y - p.y) - B) =
          300000000 * (300000000 * (((crn l k').x - (crn l k).x) * (p.y - (crn l k).y) - ((crn l k').y - (crn l k).y) * (p.x - (crn l k).x)) - (A * ((crn l k').y - (crn l k).y) - B * ((crn l k').x - (crn l k).x))) := by unfold crs; grind
      rw [e]
      omega
    have hz := cyc (n := l.length) (X := fun k => 300000000 * ((crn l k).x - p.x) - A) (Y := fun k => 300000000 * ((crn l k).y - p.y) - B) (A := A) (B := B) hn
      (fun j hj => by
        have := hc _ (crn_mem hj)
        unfold lin at this hgt
        have e : A * (300000000 * ((crn l j).x - p.x) - A) + B * (300000000 * ((crn l j).y - p.y) - B) = 300000000 * ((A * (crn l j).x + B * (crn l j).y + C) - (A * p.x + B * p.y + C)) - (A * A + B * B) := by grind
        rw [e]
        omega)
      (fun k hk => Int.le_of_lt (hpos k hk))
    have := hz 0 ((0 + 1) % l.length) hn (Nat.mod_lt _ hn)
    have := hpos 0 hn
    omega

/-! ### Faces that may be -/
theorem edgN_ne {l : List Pnt} (h3 : 3 ≤ l.length) (ht : twiceP l = false) {k : Nat} (hk : k < l.length) : (edgN l k).a ≠ (edgN l k).b := by
  have hd : ∀ i, i < l.length → ∀ j, j < i → crn l i ≠ crn l j := by
    intro i hi j hj he
    have hm : decide (l[i]?.getD ⟨0, 0⟩ ∈ l.take i) = true := by
      rw [decide_eq_true_eq]
      show crn l i ∈ l.take i
      rw [he]
      have hj' : j < (l.take i).length := by rw [List.length_take]; omega
      have : (l.take i)[j] = crn l j := by
        rw [List.getElem_take]
        unfold crn
        rw [List.getElem?_eq_getElem (by omega)]
        rfl
      rw [← this]
      exact List.getElem_mem hj'
    have : twiceP l = true := by
      unfold twiceP
      rw [List.any_eq_true]
      exact ⟨i, by simpa using hi, hm⟩
    rw [this] at ht
    cases ht
  rw [edgN_crn]
  show crn l k ≠ crn l ((k + 1) % l.length)
  by_cases h : k + 1 < l.length
  · rw [Nat.mod_eq_of_lt h]
    exact fun e => hd (k + 1) h k (by omega) e.symm
  · rw [show k + 1 = l.length by omega, Nat.mod_self]
    exact hd k hk 0 (by omega)

/-- A point within a face is on no face that it is parted from. -/
theorem parted_apart {a b : List Pnt} {p : Pnt} (ha : outlineE a = 0) (hb : outlineE b = 0) (hc : coveredL a b = false) (hw : withinL a p = true) : onL b p = false := by
  obtain ⟨a3, a12, aok, atw, acv⟩ := outline_ok ha
  obtain ⟨b3, b12, bok, btw, bcv⟩ := outline_ok hb
  cases ho : onL b p with
  | false => rfl
  | true =>
    exfalso
    have key : ∀ {x y : List Pnt}, partedL x y = true → ∃ k, k < x.length ∧ ∀ q ∈ y, (edgN x k).side q ≤ 0 := by
      intro x y h
      unfold partedL at h
      simp only [Bool.not_eq_true'] at h
      obtain ⟨k, hk, hl⟩ := List.all_eq_false.1 h
      refine ⟨k, by simpa using hk, fun q hq => ?_⟩
      have : leftAny y (edgN x k) = false := by simpa using hl
      unfold leftAny at this
      have := List.any_eq_false.1 this q hq
      simpa using this
    have hor : partedL a b = true ∨ partedL b a = true := by
      unfold coveredL at hc
      cases h1 : partedL a b <;> cases h2 : partedL b a <;> simp_all
    rcases hor with h | h
    · obtain ⟨k, hk, hl⟩ := key h
      have h1 := withinL_iff.1 hw k hk
      rw [side_lin] at h1
      have h2 := on_below bcv ho (fun q hq => by have := hl q hq; rw [side_lin] at this; exact this)
      omega
    · obtain ⟨k, hk, hl⟩ := key h
      have h1 := onL_iff.1 ho k hk
      rw [side_lin] at h1
      have hk' : (k + 1) % b.length < b.length := Nat.mod_lt _ (by omega)
      obtain ⟨⟨u1, u2⟩, u3, u4⟩ := bok _ (crn_mem hk)
      obtain ⟨⟨v1, v2⟩, v3, v4⟩ := bok _ (crn_mem hk')
      have hne := edgN_ne b3 btw hk
      rw [edgN_crn] at hne
      have h2 := within_below aok acv hw (A := -((edgN b k).b.y - (edgN b k).a.y)) (B := (edgN b k).b.x - (edgN b k).a.x) (C := ((edgN b k).b.y - (edgN b k).a.y) * (edgN b k).a.x - ((edgN b k).b.x - (edgN b k).a.x) * (edgN b k).a.y)
        (by rw [edgN_crn]; show -10000 ≤ -((crn b ((k + 1) % b.length)).y - (crn b k).y); omega) (by rw [edgN_crn]; show -((crn b ((k + 1) % b.length)).y - (crn b k).y) ≤ 10000; omega)
        (by rw [edgN_crn]; show -10000 ≤ (crn b ((k + 1) % b.length)).x - (crn b k).x; omega) (by rw [edgN_crn]; show (crn b ((k + 1) % b.length)).x - (crn b k).x ≤ 10000; omega)
        (by
          rintro ⟨g1, g2⟩
          rw [edgN_crn] at g1 g2
          refine hne ?_
          show crn b k = crn b ((k + 1) % b.length)
          generalize crn b k = P at *
          generalize crn b ((k + 1) % b.length) = Q at *
          obtain ⟨px, py⟩ := P
          obtain ⟨qx, qy⟩ := Q
          simp only [] at g1 g2
          congr 1 <;> omega)
        (fun q hq => by have := hl q hq; rw [side_lin] at this; exact this)
      omega

/-- A linear form that is above 0 at a box's four corners is so in the box. -/
theorem lin_box {A B C x y lx ly hx hy : Int} (h1 : 0 < lin A B C ⟨lx, ly⟩) (h2 : 0 < lin A B C ⟨hx, ly⟩) (h3 : 0 < lin A B C ⟨hx, hy⟩) (h4 : 0 < lin A B C ⟨lx, hy⟩) (k1 : lx < x) (k2 : x < hx) (k3 : ly < y) (k4 : y < hy) : 0 < lin A B C ⟨x, y⟩ := by
  unfold lin at *
  simp only [] at *
  have mx : A * lx ≤ A * x ∨ A * hx ≤ A * x := by
    rcases Int.le_total 0 A with t | t
    · exact .inl (Int.mul_le_mul_of_nonneg_left (by omega) t)
    · exact .inr (Int.mul_le_mul_of_nonpos_left t (by omega))
  have my : B * ly ≤ B * y ∨ B * hy ≤ B * y := by
    rcases Int.le_total 0 B with t | t
    · exact .inl (Int.mul_le_mul_of_nonneg_left (by omega) t)
    · exact .inr (Int.mul_le_mul_of_nonpos_left t (by omega))
  omega

/-- A point in an opening that is within an outline is within the outline. -/
theorem open_within {l : List Pnt} {o : Opn} {p : Pnt} (h : ∀ q ∈ opnPts o, withinO l q = true) (hi : inOpn p o = true) : withinL l p = true := by
  rw [withinL_iff]
  intro k hk
  simp only [inOpn, Bool.and_eq_true, decide_eq_true_eq] at hi
  obtain ⟨k1, k2, k3, k4⟩ := hi
  have c : ∀ q ∈ opnPts o, 0 < (edgN l k).side q := fun q hq => by
    have := h q hq
    unfold withinO at this
    exact withinL_iff.1 (by simpa using (Bool.and_eq_true _ _ ▸ this).2) k hk
  simp only [opnPts, List.mem_cons, List.not_mem_nil, or_false, forall_eq_or_imp, forall_eq] at c
  obtain ⟨c1, c2, c3, c4⟩ := c
  rw [side_lin] at c1 c2 c3 c4 ⊢
  exact lin_box c1 c2 c3 c4 k1 k2 k3 k4
end Go.Proofs.Ytapbkiokfaidfaa
