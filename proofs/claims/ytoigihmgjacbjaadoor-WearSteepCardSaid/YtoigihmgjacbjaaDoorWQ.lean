/- WearFlatter's mathematics and walk. No condition but the package's variable. -/
import Derived.Test.YtoigihmgjacbjaaDoorWP
set_option linter.unusedSimpArgs false
namespace Go.Proofs.YtoigihmgjacbjaaDoor
open Go.RowKit

theorem cancel_right {a b r : Int} (hr : 0 < r) (h : a * r ≤ b * r) : a ≤ b := Int.le_of_mul_le_mul_right h hr
theorem floor_mono {A1 A2 r1 r2 : Int} (h1 : 0 < r1) (h2 : 0 < r2) (h : A1 * r2 ≤ A2 * r1) : A1 / (200 * r1) ≤ A2 / (200 * r2) := by
  have e := Int.ediv_mul_le A1 (b := 200 * r1) (by omega)
  refine Int.le_ediv_of_mul_le (by omega) ?_
  refine cancel_right h1 ?_
  have e2 := Int.mul_le_mul_of_nonneg_right e (Int.le_of_lt h2)
  have e3 : A1 / (200 * r1) * (200 * r1) * r2 = A1 / (200 * r1) * (200 * r2) * r1 := by
    simp only [Int.mul_assoc]
    congr 2
    exact Int.mul_comm _ _
  omega
theorem ceil_mono {C1 C2 r1 r2 : Int} (h1 : 0 < r1) (h2 : 0 < r2) (h : C1 * r2 ≤ C2 * r1) : (C1 + 20000 * r1 - 1) / (20000 * r1) ≤ (C2 + 20000 * r2 - 1) / (20000 * r2) := by
  have e := Int.lt_ediv_add_one_mul_self (C2 + 20000 * r2 - 1) (b := 20000 * r2) (by omega)
  generalize (C2 + 20000 * r2 - 1) / (20000 * r2) = Q at *
  rw [Int.add_mul, Int.one_mul] at e
  have e1 : C2 ≤ Q * (20000 * r2) := by omega
  have e2 := Int.mul_le_mul_of_nonneg_right e1 (Int.le_of_lt h1)
  have e3 : Q * (20000 * r2) * r1 = Q * (20000 * r1) * r2 := by
    simp only [Int.mul_assoc]
    congr 2
    exact Int.mul_comm _ _
  have e4 : C1 ≤ Q * (20000 * r1) := cancel_right h2 (by omega)
  have e5 : (C1 + 20000 * r1 - 1) / (20000 * r1) < Q + 1 := Int.ediv_lt_of_lt_mul (by omega) (by rw [Int.add_mul, Int.one_mul]; omega)
  omega
structure Fce where
  c : Spn
  r : Int
  n : Int
  s : Int
  m : Int
theorem rate_mono {c : Spn} {r1 n1 s1 m1 r2 n2 s2 m2 : Int} (h1 : rateOkB c r1 n1 s1 m1 = true) (h2 : rateOkB c r2 n2 s2 m2 = true) (hn : n1 * r2 ≤ n2 * r1) (hs : s1 ≤ s2) (hm : m1 ≤ m2) :
    (rateM c r1 n1 s1 m1).lo ≤ (rateM c r2 n2 s2 m2).lo ∧ (rateM c r1 n1 s1 m1).hi ≤ (rateM c r2 n2 s2 m2).hi := by
  obtain ⟨⟨c1, c2, c3⟩, ⟨a1, a2⟩, ⟨a3, a4⟩, ⟨a5, a6⟩, a7, a8⟩ := rateOkB_iff.1 h1
  obtain ⟨_, ⟨b1, b2⟩, ⟨b3, b4⟩, ⟨b5, b6⟩, b7, b8⟩ := rateOkB_iff.1 h2
  have p1 : 0 ≤ (100 + s1) * (r1 + n1) := Int.mul_nonneg (by omega) (by omega)
  have p2 : 0 ≤ (100 + s2) * (r2 + n2) := Int.mul_nonneg (by omega) (by omega)
  have k : (r1 + n1) * r2 ≤ (r2 + n2) * r1 := by
    rw [Int.add_mul, Int.add_mul, Int.mul_comm r2 r1]
    omega
  have kw : (100 + s1) * (r1 + n1) * r2 ≤ (100 + s2) * (r2 + n2) * r1 := by
    rw [Int.mul_assoc, Int.mul_assoc]
    exact Int.mul_le_mul (by omega) k (Int.mul_nonneg (by omega) (by omega)) (by omega)
  simp only [rateM]
  generalize (100 + s1) * (r1 + n1) = W1 at *
  generalize (100 + s2) * (r2 + n2) = W2 at *
  have q1 : 0 ≤ c.lo * W1 := Int.mul_nonneg c1 p1
  have q2 : 0 ≤ c.lo * W2 := Int.mul_nonneg c1 p2
  have q3 : 0 ≤ c.hi * W1 := Int.mul_nonneg (by omega) p1
  have q4 : 0 ≤ c.hi * W2 := Int.mul_nonneg (by omega) p2
  have q5 : 0 ≤ c.hi * W1 * (100 + m1) := Int.mul_nonneg q3 (by omega)
  have q6 : 0 ≤ c.hi * W2 * (100 + m2) := Int.mul_nonneg q4 (by omega)
  rw [Int.tdiv_eq_ediv_of_nonneg q1, Int.tdiv_eq_ediv_of_nonneg q2, Int.tdiv_eq_ediv_of_nonneg (by omega), Int.tdiv_eq_ediv_of_nonneg (by omega)]
  constructor
  · refine floor_mono (by omega) (by omega) ?_
    rw [Int.mul_assoc, Int.mul_assoc]
    exact Int.mul_le_mul_of_nonneg_left kw c1
  · refine ceil_mono (by omega) (by omega) ?_
    have e1 : c.hi * W1 * (100 + m1) * r2 = c.hi * (W1 * r2) * (100 + m1) := by
      simp only [Int.mul_assoc]
      congr 2
      exact Int.mul_comm _ _
    have e2 : c.hi * W2 * (100 + m2) * r1 = c.hi * (W2 * r1) * (100 + m2) := by
      simp only [Int.mul_assoc]
      congr 2
      exact Int.mul_comm _ _
    rw [e1, e2]
    exact Int.mul_le_mul (Int.mul_le_mul_of_nonneg_left kw (by omega)) (by omega) (by omega) (Int.mul_nonneg (by omega) (Int.mul_nonneg p2 (by omega)))
theorem rate_flat {c : Spn} {r n s m : Int} (h : rateOkB c r n s m = true) : rateR c r r 0 0 = c ∧ rateE c r r 0 0 = 0 := by
  obtain ⟨⟨c1, c2, c3⟩, ⟨a1, a2⟩, _⟩ := rateOkB_iff.1 h
  have h2 : rateOkB c r r 0 0 = true := rateOkB_iff.2 ⟨⟨c1, c2, c3⟩, ⟨a1, a2⟩, ⟨a1, a2⟩, by omega, by omega⟩
  refine ⟨?_, by unfold rateE; rw [if_pos h2]⟩
  unfold rateR
  rw [if_pos h2]
  have e1 : c.lo * ((100 + 0) * (r + r)) = c.lo * (200 * r) := by congr 1; omega
  have e2 : c.hi * ((100 + 0) * (r + r)) * (100 + 0) + 20000 * r - 1 = c.hi * (20000 * r) + (20000 * r - 1) := by
    have : c.hi * ((100 + 0) * (r + r)) * (100 + 0) = c.hi * (20000 * r) := by
      rw [Int.mul_assoc]
      congr 1
      omega
    omega
  have p : 0 ≤ c.hi * (20000 * r) := Int.mul_nonneg (by omega) (by omega)
  obtain ⟨lo, hi⟩ := c
  simp only [rateM] at *
  rw [e1, e2, Int.mul_tdiv_cancel _ (by omega), Int.tdiv_eq_ediv_of_nonneg (by omega), Int.add_comm (hi * (20000 * r)), Int.add_mul_ediv_right _ _ (by omega), Int.ediv_eq_zero_of_lt (by omega) (by omega), Int.zero_add]
theorem rate_span {c : Spn} {r n s m : Int} (h : rateOkB c r n s m = true) : (rateM c r n s m).lo ≤ (rateM c r n s m).hi := by
  obtain ⟨⟨c1, c2, c3⟩, ⟨a1, a2⟩, ⟨a3, a4⟩, ⟨a5, a6⟩, a7, a8⟩ := rateOkB_iff.1 h
  have p1 : 0 ≤ (100 + s) * (r + n) := Int.mul_nonneg (by omega) (by omega)
  simp only [rateM]
  generalize (100 + s) * (r + n) = W at *
  have q1 : 0 ≤ c.lo * W := Int.mul_nonneg c1 p1
  have q3 : 0 ≤ c.hi * W := Int.mul_nonneg (by omega) p1
  have q5 : 0 ≤ c.hi * W * (100 + m) := Int.mul_nonneg q3 (by omega)
  have q6 : c.lo * W ≤ c.hi * W := Int.mul_le_mul_of_nonneg_right c2 p1
  have q7 : c.hi * W * 100 ≤ c.hi * W * (100 + m) := Int.mul_le_mul_of_nonneg_left (by omega) q3
  rw [Int.tdiv_eq_ediv_of_nonneg q1, Int.tdiv_eq_ediv_of_nonneg (by omega)]
  have e := Int.ediv_mul_le (c.lo * W) (b := 200 * r) (by omega)
  refine Int.le_ediv_of_mul_le (by omega) ?_
  have e3 : c.lo * W / (200 * r) * (20000 * r) = c.lo * W / (200 * r) * (200 * r) * 100 := by
    rw [Int.mul_assoc]
    congr 1
    omega
  omega

end Go.Proofs.YtoigihmgjacbjaaDoor
