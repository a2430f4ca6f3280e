/- Mathematics of bounds: cones around marks; none of a skin that may be cuts off another; they differ by at most so much as the distance allows. -/
import Derived.Test.YtoigihmgjacbjaaDoorWW
set_option linter.unusedSimpArgs false
namespace Go.Proofs.YtoigihmgjacbjaaDoor
open Go.RowKit

def loF (st : Int) (p : Pnt) : Int → List Mrk → Int
  | a, [] => a
  | a, m :: t => loF st p (max a (m.th.lo - st * distM m.at_ p)) t
def hiF (st : Int) (p : Pnt) : Int → List Mrk → Int
  | a, [] => a
  | a, m :: t => hiF st p (min a (m.th.hi + st * distM m.at_ p)) t
theorem loF_le (st : Int) (p : Pnt) (x : Int) : ∀ (t : List Mrk) (a : Int), loF st p a t ≤ x ↔ a ≤ x ∧ ∀ m ∈ t, m.th.lo - st * distM m.at_ p ≤ x
  | [], a => by simp [loF]
  | m :: t, a => by
    simp only [loF, loF_le st p x t, List.forall_mem_cons, Int.max_le]
    exact ⟨fun ⟨⟨h1, h2⟩, h3⟩ => ⟨h1, h2, h3⟩, fun ⟨h1, h2, h3⟩ => ⟨⟨h1, h2⟩, h3⟩⟩
theorem le_hiF (st : Int) (p : Pnt) (x : Int) : ∀ (t : List Mrk) (a : Int), x ≤ hiF st p a t ↔ x ≤ a ∧ ∀ m ∈ t, x ≤ m.th.hi + st * distM m.at_ p
  | [], a => by simp [hiF]
  | m :: t, a => by
    simp only [hiF, le_hiF st p x t, List.forall_mem_cons, Int.le_min]
    exact ⟨fun ⟨⟨h1, h2⟩, h3⟩ => ⟨h1, h2, h3⟩, fun ⟨h1, h2, h3⟩ => ⟨⟨h1, h2⟩, h3⟩⟩
theorem loF_is (st : Int) (p : Pnt) : ∀ (t : List Mrk) (a : Int), loF st p a t = a ∨ ∃ m ∈ t, loF st p a t = m.th.lo - st * distM m.at_ p
  | [], a => .inl rfl
  | m :: t, a => by
    simp only [loF]
    rcases loF_is st p t (max a (m.th.lo - st * distM m.at_ p)) with h | ⟨n, hn, h⟩
    · rw [h]
      rcases Int.le_total a (m.th.lo - st * distM m.at_ p) with k | k
      · exact .inr ⟨m, by simp, by omega⟩
      · exact .inl (by omega)
    · exact .inr ⟨n, by simp [hn], h⟩
theorem hiF_is (st : Int) (p : Pnt) : ∀ (t : List Mrk) (a : Int), hiF st p a t = a ∨ ∃ m ∈ t, hiF st p a t = m.th.hi + st * distM m.at_ p
  | [], a => .inl rfl
  | m :: t, a => by
    simp only [hiF]
    rcases hiF_is st p t (min a (m.th.hi + st * distM m.at_ p)) with h | ⟨n, hn, h⟩
    · rw [h]
      rcases Int.le_total a (m.th.hi + st * distM m.at_ p) with k | k
      · exact .inl (by omega)
      · exact .inr ⟨m, by simp, by omega⟩
    · exact .inr ⟨n, by simp [hn], h⟩
theorem com_nothing (b : Spn) : comM nothingS b = nothingS := by
  unfold comM
  rw [if_pos]
  simp only [nothingS]
  omega
theorem bound_nothing (st : Int) (p : Pnt) : ∀ ms : List Mrk, boundF st nothingS p ms = nothingS
  | [] => rfl
  | m :: t => by
    show boundF st (comM nothingS _) p t = nothingS
    rw [com_nothing]
    exact bound_nothing st p t
theorem bound_is (st : Int) (p : Pnt) : ∀ (ms : List Mrk) (th : Spn), th.lo ≤ th.hi →
    (boundF st th p ms = nothingS ∧ hiF st p th.hi ms < loF st p th.lo ms) ∨ (boundF st th p ms = ⟨loF st p th.lo ms, hiF st p th.hi ms⟩ ∧ loF st p th.lo ms ≤ hiF st p th.hi ms)
  | [], th, h => .inr ⟨rfl, h⟩
  | m :: t, th, h => by
    have hb : boundF st th p (m :: t) = boundF st (comM th (widM m.th (st * distM m.at_ p))) p t := rfl
    rw [hb]
    simp only [loF, hiF]
    have e1 : (widM m.th (st * distM m.at_ p)).lo = m.th.lo - st * distM m.at_ p := rfl
    have e2 : (widM m.th (st * distM m.at_ p)).hi = m.th.hi + st * distM m.at_ p := rfl
    by_cases hc : min th.hi (m.th.hi + st * distM m.at_ p) < max th.lo (m.th.lo - st * distM m.at_ p)
    · have : comM th (widM m.th (st * distM m.at_ p)) = nothingS := by unfold comM; rw [e1, e2, if_pos hc]
      rw [this]
      refine .inl ⟨bound_nothing st p t, ?_⟩
      have k1 := ((loF_le st p _ t (max th.lo (m.th.lo - st * distM m.at_ p))).1 (Int.le_refl _)).1
      have k2 := ((le_hiF st p _ t (min th.hi (m.th.hi + st * distM m.at_ p))).1 (Int.le_refl _)).1
      omega
    · have : comM th (widM m.th (st * distM m.at_ p)) = ⟨max th.lo (m.th.lo - st * distM m.at_ p), min th.hi (m.th.hi + st * distM m.at_ p)⟩ := by unfold comM; rw [e1, e2, if_neg hc]
      rw [this]
      exact bound_is st p t _ (by show max th.lo _ ≤ min th.hi _; omega)
theorem dist_self (p : Pnt) : distM p p = 0 := by unfold distM; omega
theorem dist_comm (p q : Pnt) : distM p q = distM q p := by unfold distM; omega
theorem dist_tri (p q r : Pnt) : distM p r ≤ distM p q + distM q r := by unfold distM; omega
theorem dist_pos (p q : Pnt) : 0 ≤ distM p q := by unfold distM; omega
theorem st_tri {st : Int} (h : 0 ≤ st) (p q r : Pnt) : st * distM p r ≤ st * distM p q + st * distM q r := by
  rw [← Int.mul_add]
  exact Int.mul_le_mul_of_nonneg_left (dist_tri p q r) h
/-- **The bounds of any point of a skin that may be**: the greatest of what begins, the least of what ends; there are some. -/
theorem bound_good {S : Skn} (h : SkinGood S) (p : Pnt) : boundM S p = ⟨loF S.steep p S.th.lo S.ms, hiF S.steep p S.th.hi S.ms⟩ ∧ loF S.steep p S.th.lo S.ms ≤ hiF S.steep p S.th.hi S.ms := by
  have hth := isSpanB_iff.1 h.th
  have hst := h.steep
  have hmk : ∀ m ∈ S.ms, loF S.steep m.at_ S.th.lo S.ms ≤ hiF S.steep m.at_ S.th.hi S.ms := fun m hm => by
    rcases bound_is S.steep m.at_ S.ms S.th hth.2.1 with ⟨h1, _⟩ | ⟨_, h2⟩
    · have := h.thick
      rw [thickE_no hm h1] at this
      omega
    · exact h2
  have hself : ∀ m ∈ S.ms, m.th.lo ≤ loF S.steep m.at_ S.th.lo S.ms ∧ hiF S.steep m.at_ S.th.hi S.ms ≤ m.th.hi := fun m hm => by
    have k1 := ((loF_le S.steep m.at_ _ S.ms S.th.lo).1 (Int.le_refl _)).2 m hm
    have k2 := ((le_hiF S.steep m.at_ _ S.ms S.th.hi).1 (Int.le_refl _)).2 m hm
    rw [dist_self, Int.mul_zero] at k1 k2
    omega
  have key : loF S.steep p S.th.lo S.ms ≤ hiF S.steep p S.th.hi S.ms := by
    rcases loF_is S.steep p S.ms S.th.lo with e1 | ⟨m, hm, e1⟩
    · rcases hiF_is S.steep p S.ms S.th.hi with e2 | ⟨n, hn, e2⟩
      · rw [e1, e2]; exact hth.2.1
      · have k1 := ((loF_le S.steep n.at_ _ S.ms S.th.lo).1 (Int.le_refl _)).1
        have k2 := hmk n hn
        have k3 := (hself n hn).2
        have k4 := Int.mul_nonneg hst.1 (dist_pos n.at_ p)
        omega
    · have k1 := (hself m hm).1
      have k2 := hmk m hm
      rcases hiF_is S.steep p S.ms S.th.hi with e2 | ⟨n, hn, e2⟩
      · have k3 := ((le_hiF S.steep m.at_ _ S.ms S.th.hi).1 (Int.le_refl _)).1
        have k4 := Int.mul_nonneg hst.1 (dist_pos m.at_ p)
        omega
      · have k3 := ((le_hiF S.steep m.at_ _ S.ms S.th.hi).1 (Int.le_refl _)).2 n hn
        have k4 := st_tri hst.1 n.at_ p m.at_
        rw [dist_comm p m.at_] at k4
        omega
  rcases bound_is S.steep p S.ms S.th hth.2.1 with ⟨_, h2⟩ | h2
  · omega
  · exact h2
theorem bound_range {S : Skn} (h : SkinGood S) (p : Pnt) : 0 ≤ (boundM S p).lo ∧ (boundM S p).lo ≤ (boundM S p).hi ∧ (boundM S p).hi ≤ 2000 := by
  obtain ⟨e, k⟩ := bound_good h p
  have hth := isSpanB_iff.1 h.th
  have k1 := ((loF_le S.steep p _ S.ms S.th.lo).1 (Int.le_refl _)).1
  have k2 := ((le_hiF S.steep p _ S.ms S.th.hi).1 (Int.le_refl _)).1
  rw [e]
  simp only
  omega
theorem bound_lip {S : Skn} (h : SkinGood S) (p q : Pnt) : (boundM S p).lo - (boundM S q).lo ≤ S.steep * distM p q ∧ (boundM S q).hi - (boundM S p).hi ≤ S.steep * distM p q := by
  rw [(bound_good h p).1, (bound_good h q).1]
  simp only
  have hst := h.steep
  have k0 := Int.mul_nonneg hst.1 (dist_pos p q)
  constructor
  · have : loF S.steep p S.th.lo S.ms ≤ loF S.steep q S.th.lo S.ms + S.steep * distM p q := by
      have kq := (loF_le S.steep q _ S.ms S.th.lo).1 (Int.le_refl _)
      refine (loF_le S.steep p _ S.ms S.th.lo).2 ⟨by have := kq.1; omega, fun m hm => ?_⟩
      have k1 := kq.2 m hm
      have k2 := st_tri hst.1 m.at_ p q
      omega
    omega
  · have : hiF S.steep q S.th.hi S.ms - S.steep * distM p q ≤ hiF S.steep p S.th.hi S.ms := by
      have kq := (le_hiF S.steep q _ S.ms S.th.hi).1 (Int.le_refl _)
      refine (le_hiF S.steep p _ S.ms S.th.hi).2 ⟨by have := kq.1; omega, fun m hm => ?_⟩
      have k1 := kq.2 m hm
      have k2 := st_tri hst.1 m.at_ p q
      omega
    omega
theorem bound_mark {S : Skn} (h : SkinGood S) {m : Mrk} (hm : m ∈ S.ms) : m.th.lo ≤ (boundM S m.at_).lo ∧ (boundM S m.at_).hi ≤ m.th.hi := by
  rw [(bound_good h m.at_).1]
  simp only
  have k1 := ((loF_le S.steep m.at_ _ S.ms S.th.lo).1 (Int.le_refl _)).2 m hm
  have k2 := ((le_hiF S.steep m.at_ _ S.ms S.th.hi).1 (Int.le_refl _)).2 m hm
  rw [dist_self, Int.mul_zero] at k1 k2
  omega
end Go.Proofs.YtoigihmgjacbjaaDoor
