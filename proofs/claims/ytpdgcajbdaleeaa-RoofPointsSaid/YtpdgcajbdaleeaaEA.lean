/- Leaf functions of the specification of roofs: In, Name, up, minus, cross, dot, planned. No condition but the bounds of what is given. -/
import Derived.Test.YtpdgcajbdaleeaaEB
import Derived.Test.YtpdgcajbdaleeaaS
import Derived.BigQuiet
import Derived.Deep.DeepCutAuto
import Derived.Deep.CutRange
set_option linter.unusedSimpArgs false
namespace Go.Proofs.Ytpdgcajbdaleeaa
open Go.RowKit

theorem isFromB_iff {n lo hi : Int} : isFromB n lo hi = true ↔ lo ≤ n ∧ n ≤ hi := by simp [isFromB]
theorem refIn1_any (n lo hi : Int) (w : World) :
    Calls Try.prog 36 #[.int .i64 n, .int .i64 lo, .int .i64 hi] w fun e w' => e = .returned (.bool (isFromB n lo hi)) ∧ w = w' := by
  by_cases h : lo ≤ n
  all_goals by_cases h2 : n ≤ hi
  all_goals
    go_enter Try.func36, Try.ntmps36
    go_wp2
    all_goals go_ret
    all_goals refine ⟨?_, rfl⟩
    all_goals simp [isFromB, h, h2]
theorem bad_name {s : ByteArray} {k : Nat} (hk : k < s.size) (h : badB k (byteAt s k) = true) : nameB s = false := by
  unfold nameB
  rw [Bool.and_eq_false_iff]
  right
  rw [Bool.eq_false_iff]
  intro h2
  have := List.all_eq_true.1 h2 k (by simpa using hk)
  rw [h] at this
  cases this
theorem byte_at {s : ByteArray} {k : Nat} (hk : k < s.size) : byteAt s k = (s[k].toNat : Int) := by
  unfold byteAt
  rw [Array.getElem?_eq_getElem (by simpa using hk)]
  rfl

set_option maxRecDepth 100000 in
set_option maxHeartbeats 2000000 in
theorem refName_any (s : ByteArray) (w : World) (hs : s.size ≤ maxLen) : Calls Try.prog 98 #[.string s] w fun e w' => e = .returned (.bool (nameB s)) ∧ w = w' := by
  unfold maxLen at hs
  go_enter Try.func98, Try.ntmps98
  go_wp2_with fail
  refine (refIn1_any _ _ _ _).mono ?_
  rintro e w' ⟨rfl, rfl⟩
  cases h1 : isFromB (s.size : Int) 1 16 with
  | false =>
    have hv : nameB s = false := by
      simp [isFromB] at h1
      simp [nameB]
      omega
    have HV := Lib.hid hv
    clear hv h1
    go_wp2_with fail
    go_ret
    exact ⟨by rw [HV.out]; rfl, rfl⟩
  | true =>
  obtain ⟨h2, h3⟩ := isFromB_iff.1 h1
  have hz : 0 < s.size := by omega
  have hb0 := byte_at hz
  by_cases ha : (s[0].toNat : Int) < 97
  · have hv : nameB s = false := bad_name hz (by rw [hb0]; simp [badB, letterB]; omega)
    have HV := Lib.hid hv
    have q1 : decide ((s[0].toNat : Int) < 97) = true := decide_eq_true ha
    have q2 : decide (s[0].toNat < 97) = true := decide_eq_true (by omega)
    clear hv h1 hb0 ha
    go_wp2_with fail
    go_ret
    exact ⟨by rw [HV.out]; rfl, rfl⟩
  by_cases hc : (122 : Int) < (s[0].toNat : Int)
  · have hv : nameB s = false := bad_name hz (by rw [hb0]; simp [badB, letterB]; omega)
    have HV := Lib.hid hv
    clear hv h1 hb0
    go_wp2_with fail
    go_ret
    exact ⟨by rw [HV.out]; rfl, rfl⟩
  have hl0 : badB 0 (byteAt s 0) = false := by rw [hb0]; simp [badB, letterB]; omega
  have HL0 := Lib.hid hl0
  clear h1 hl0 hb0
  go_wp2_with fail
  go_loop [3, 4] (fun i _ => ∃ k : Nat, k ≤ s.size ∧ i = .int .i64 k ∧ ∀ j, j < k → badB j (byteAt s j) = false) (fun i _ => s.size - (intOf i).toNat)
  case atStart => exact ⟨0, Nat.zero_le _, rfl, fun j h => by omega⟩
  case round =>
    obtain ⟨k, hk, rfl, hall⟩ := hrel
    have HA := Lib.hid hall
    clear hall
    by_cases hlt : k < s.size
    · have hbk := byte_at hlt
      have hk0 : (0 : Int) ≤ (k : Int) := Int.natCast_nonneg _
      have hk1 : (k : Int) < (s.size : Int) := by omega
      go_upto_region 7 with fail
      have hu : (0 : Int) ≤ (s[k].toNat : Int) := Int.natCast_nonneg _
      generalize (s[k].toNat : Int) = c at *
      have HB := Lib.hid hbk
      clear hbk
      rcases (show (97 ≤ c ∧ c ≤ 122) ∨ (48 ≤ c ∧ c ≤ 57) ∨ c = 45 ∨ (c < 48 ∧ c ≠ 45) ∨ (57 < c ∧ c < 97) ∨ 122 < c by omega) with ⟨y1, y2⟩ | ⟨y1, y2⟩ | y1 | ⟨y1, y2⟩ | ⟨y1, y2⟩ | y1
      · have hbad : badB k (byteAt s k) = false := by rw [HB.out]; simp [badB, letterB, y1, y2]
        have HBAD := Lib.hid hbad
        have z1 : ¬ c < 97 := by omega
        have z2 : ¬ 122 < c := by omega
        clear hbad
        go_wp2_with fail
        refine ⟨⟨k + 1, by omega, by simp, fun j hj => ?_⟩, by simp [intOf]; omega⟩
        by_cases hjk : j = k
        · subst hjk; exact HBAD.out
        · exact HA.out j (by omega)
      · have hbad : badB k (byteAt s k) = false := by rw [HB.out]; have hk9 : k ≠ 0 := (fun e => by subst e; have := HL0.out; rw [HB.out] at this; simp [badB, letterB] at this; omega); simp [badB, digitB, y1, y2, hk9]
        have HBAD := Lib.hid hbad
        have z1 : c < 97 := by omega
        have z3 : ¬ c < 48 := by omega
        have z4 : ¬ 57 < c := by omega
        clear hbad
        go_wp2_with fail
        refine ⟨⟨k + 1, by omega, by simp, fun j hj => ?_⟩, by simp [intOf]; omega⟩
        by_cases hjk : j = k
        · subst hjk; exact HBAD.out
        · exact HA.out j (by omega)
      · have hbad : badB k (byteAt s k) = false := by rw [HB.out]; have hk9 : k ≠ 0 := (fun e => by subst e; have := HL0.out; rw [HB.out] at this; simp [badB, letterB] at this; omega); simp [badB, y1, hk9]
        have HBAD := Lib.hid hbad
        have z1 : c < 97 := by omega
        have z3 : c < 48 := by omega
        have z5 : (c != 45) = false := by simp [y1]
        clear hbad
        go_wp2_with fail
        refine ⟨⟨k + 1, by omega, by simp, fun j hj => ?_⟩, by simp [intOf]; omega⟩
        by_cases hjk : j = k
        · subst hjk; exact HBAD.out
        · exact HA.out j (by omega)
      · have hbad : nameB s = false := bad_name hlt (by rw [HB.out]; simp only [badB, letterB, digitB]; rw [Bool.and_eq_true]; refine ⟨by simp; omega, ?_⟩; rw [Bool.or_eq_true]; right; rw [Bool.and_eq_true]; exact ⟨by simp; omega, by simp; omega⟩)
        have HBAD := Lib.hid hbad
        have z1 : c < 97 := by omega
        have z3 : c < 48 := by omega
        have z5 : (c != 45) = true := by simp; omega
        clear hbad
        go_wp2_with fail
        go_ret
        exact ⟨by rw [HBAD.out]; rfl, rfl⟩
      · have hbad : nameB s = false := bad_name hlt (by rw [HB.out]; simp only [badB, letterB, digitB]; rw [Bool.and_eq_true]; refine ⟨by simp; omega, ?_⟩; rw [Bool.or_eq_true]; right; rw [Bool.and_eq_true]; exact ⟨by simp; omega, by simp; omega⟩)
        have HBAD := Lib.hid hbad
        have z3 : ¬ c < 48 := by omega
        have z5 : (c != 45) = true := by simp; omega
        clear hbad
        go_wp2_with fail
        go_ret
        exact ⟨by rw [HBAD.out]; rfl, rfl⟩
      · have hbad : nameB s = false := bad_name hlt (by rw [HB.out]; simp only [badB, letterB, digitB]; rw [Bool.and_eq_true]; refine ⟨by simp; omega, ?_⟩; rw [Bool.or_eq_true]; right; rw [Bool.and_eq_true]; exact ⟨by simp; omega, by simp; omega⟩)
        have HBAD := Lib.hid hbad
        have z1 : ¬ c < 97 := by omega
        have z3 : ¬ c < 48 := by omega
        have z4 : 57 < c := by omega
        have z5 : (c != 45) = true := by simp; omega
        clear hbad
        go_wp2_with fail
        go_ret
        exact ⟨by rw [HBAD.out]; rfl, rfl⟩
    · obtain rfl : k = s.size := by omega
      have hv : nameB s = true := by
        unfold nameB
        rw [Bool.and_eq_true, Bool.and_eq_true]
        refine ⟨⟨decide_eq_true (by omega), decide_eq_true (by omega)⟩, List.all_eq_true.2 fun j hj => ?_⟩
        rw [HA.out j (by simpa using hj)]
        rfl
      have HV := Lib.hid hv
      clear hv
      go_wp2_with fail
      go_ret
      exact ⟨by rw [HV.out]; rfl, rfl⟩


/-- Small enough for products. -/
def Pnt.sm (p : Pnt) : Prop := (-20000 ≤ p.x ∧ p.x ≤ 20000) ∧ -20000 ≤ p.y ∧ p.y ≤ 20000
theorem Pnt.ok.sm {p : Pnt} (h : p.ok) : p.sm := by
  obtain ⟨⟨h1, h2⟩, h3, h4⟩ := h
  exact ⟨by omega, by omega⟩
def subP (p q : Pnt) : Pnt := ⟨p.x - q.x, p.y - q.y⟩
theorem subP_sm {p q : Pnt} (hp : p.ok) (hq : q.ok) : (subP p q).sm := by
  obtain ⟨⟨h1, h2⟩, h3, h4⟩ := hp
  obtain ⟨⟨h5, h6⟩, h7, h8⟩ := hq
  exact ⟨by simp only [subP]; omega, by simp only [subP]; omega⟩
theorem mul_bd5 {a b : Int} (ha : -20000 ≤ a) (ha' : a ≤ 20000) (hb : -20000 ≤ b) (hb' : b ≤ 20000) : -400000000 ≤ a * b ∧ a * b ≤ 400000000 := by
  have := mul_bd ha ha' hb hb'
  omega
theorem refMinus_any (p q : Pnt) (w : World) (hp : p.ok) (hq : q.ok) :
    Calls Try.prog 101 #[.agg #[.int .i64 p.x, .int .i64 p.y], .agg #[.int .i64 q.x, .int .i64 q.y]] w fun e w' => e = .returned (.agg #[.int .i64 (subP p q).x, .int .i64 (subP p q).y]) ∧ Below w.heap.size w w' := by
  obtain ⟨px, py⟩ := p
  obtain ⟨qx, qy⟩ := q
  simp only [Pnt.ok] at hp hq
  simp only [subP]
  go_enter Try.func101, Try.ntmps101
  go_wp2
  exact bodyPost_ret (v := .agg #[.int .i64 (px - qx), .int .i64 (py - qy)]) (by simp [results, Try.results101, go_sem]) rfl ⟨rfl, (((Below.refl _ _).alloc (Nat.le_refl _) _).alloc (by simp) _).alloc (by simp; omega) _⟩
theorem refCross_any (a b : Pnt) (w : World) (ha : a.sm) (hb : b.sm) :
    Calls Try.prog 73 #[.agg #[.int .i64 a.x, .int .i64 a.y], .agg #[.int .i64 b.x, .int .i64 b.y]] w fun e w' => e = .returned (.int .i64 (crossP a b)) ∧ Below w.heap.size w w' := by
  obtain ⟨ax, ay⟩ := a
  obtain ⟨bx, by'⟩ := b
  simp only [Pnt.sm] at ha hb
  obtain ⟨⟨h1, h2⟩, h3, h4⟩ := ha
  obtain ⟨⟨h5, h6⟩, h7, h8⟩ := hb
  have b1 := mul_bd5 h1 h2 h7 h8
  have b2 := mul_bd5 h3 h4 h5 h6
  simp only [crossP]
  go_enter Try.func73, Try.ntmps73
  go_wp2
  go_ret
  exact ⟨rfl, ((Below.refl _ _).alloc (Nat.le_refl _) _).alloc (by simp) _⟩
theorem refDot_any (a b : Pnt) (w : World) (ha : a.sm) (hb : b.sm) :
    Calls Try.prog 66 #[.agg #[.int .i64 a.x, .int .i64 a.y], .agg #[.int .i64 b.x, .int .i64 b.y]] w fun e w' => e = .returned (.int .i64 (dotP a b)) ∧ Below w.heap.size w w' := by
  obtain ⟨ax, ay⟩ := a
  obtain ⟨bx, by'⟩ := b
  simp only [Pnt.sm] at ha hb
  obtain ⟨⟨h1, h2⟩, h3, h4⟩ := ha
  obtain ⟨⟨h5, h6⟩, h7, h8⟩ := hb
  have b1 := mul_bd5 h1 h2 h5 h6
  have b2 := mul_bd5 h3 h4 h7 h8
  simp only [dotP]
  go_enter Try.func66, Try.ntmps66
  go_wp2
  go_ret
  exact ⟨rfl, ((Below.refl _ _).alloc (Nat.le_refl _) _).alloc (by simp) _⟩
theorem refPlanned_any (p : Pnt) (w : World) :
    Calls Try.prog 37 #[.agg #[.int .i64 p.x, .int .i64 p.y]] w fun e w' => e = .returned (.bool p.okB) ∧ Below w.heap.size w w' := by
  obtain ⟨px, py⟩ := p
  go_enter Try.func37, Try.ntmps37
  go_wp2_with fail
  refine (refIn1_any _ _ _ _).mono ?_
  rintro e w' ⟨rfl, rfl⟩
  cases h1 : isFromB px 0 10000 with
  | false =>
    have HV := Lib.hid (show (Pnt.mk px py).okB = false by simp [Pnt.okB, inPlanB, h1])
    clear h1
    go_wp2_with fail
    go_ret
    exact ⟨by rw [HV.out]; rfl, (Below.refl _ _).alloc (Nat.le_refl _) _⟩
  | true =>
    have HV := Lib.hid (show (Pnt.mk px py).okB = isFromB py 0 10000 by simp [Pnt.okB, inPlanB, h1])
    clear h1
    go_wp2_with fail
    refine (refIn1_any _ _ _ _).mono ?_
    rintro e w' ⟨rfl, rfl⟩
    go_wp2_with fail
    go_ret
    exact ⟨by rw [HV.out]; rfl, (Below.refl _ _).alloc (Nat.le_refl _) _⟩
/-- The direction in which a face rises. -/
def upP (s : Int) : Pnt := if s = 1 then ⟨0, 1⟩ else if s = 2 then ⟨-1, 0⟩ else if s = 3 then ⟨0, -1⟩ else ⟨1, 0⟩
theorem upP_sm (s : Int) : (upP s).sm := by
  unfold upP Pnt.sm
  split
  · decide
  split
  · decide
  split
  · decide
  · decide
theorem refUp_any (s : Int) (w : World) :
    Calls Try.prog 65 #[.int .i64 s] w fun e w' => e = .returned (.agg #[.int .i64 (upP s).x, .int .i64 (upP s).y]) ∧ Below w.heap.size w w' := by
  by_cases h1 : s = 1
  · have HV := Lib.hid (show upP s = ⟨0, 1⟩ by unfold upP; rw [if_pos h1])
    subst h1
    go_enter Try.func65, Try.ntmps65
    go_wp2
    rw [HV.out]
    exact bodyPost_ret (v := .agg #[.int .i64 0, .int .i64 1]) (by simp [results, Try.results65, go_sem]) rfl ⟨rfl, (Below.refl _ _).alloc (Nat.le_refl _) _⟩
  by_cases h2 : s = 2
  · have HV := Lib.hid (show upP s = ⟨-1, 0⟩ by unfold upP; rw [if_neg h1, if_pos h2])
    subst h2
    go_enter Try.func65, Try.ntmps65
    go_wp2
    rw [HV.out]
    exact bodyPost_ret (v := .agg #[.int .i64 (-1), .int .i64 0]) (by simp [results, Try.results65, go_sem]) rfl ⟨rfl, (Below.refl _ _).alloc (Nat.le_refl _) _⟩
  by_cases h3 : s = 3
  · have HV := Lib.hid (show upP s = ⟨0, -1⟩ by unfold upP; rw [if_neg h1, if_neg h2, if_pos h3])
    subst h3
    go_enter Try.func65, Try.ntmps65
    go_wp2
    rw [HV.out]
    exact bodyPost_ret (v := .agg #[.int .i64 0, .int .i64 (-1)]) (by simp [results, Try.results65, go_sem]) rfl ⟨rfl, (Below.refl _ _).alloc (Nat.le_refl _) _⟩
  have HV := Lib.hid (show upP s = ⟨1, 0⟩ by unfold upP; rw [if_neg h1, if_neg h2, if_neg h3])
  go_enter Try.func65, Try.ntmps65
  go_wp2
  rw [HV.out]
  exact bodyPost_ret (v := .agg #[.int .i64 1, .int .i64 0]) (by simp [results, Try.results65, go_sem]) rfl ⟨rfl, (Below.refl _ _).alloc (Nat.le_refl _) _⟩
end Go.Proofs.Ytpdgcajbdaleeaa
