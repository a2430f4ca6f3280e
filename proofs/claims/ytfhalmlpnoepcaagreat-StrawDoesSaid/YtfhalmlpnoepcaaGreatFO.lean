/- The specification's Check of a farm: the first error is the same. -/
import Derived.Test.YtfhalmlpnoepcaaGreatFB
import Derived.Deep.DeepCutAuto
import Derived.Deep.CutRange
namespace Go.Proofs.YtfhalmlpnoepcaaGreat
open Go.RowKit

theorem refIn1_any (n lo hi : Int) (w : World) :
    Calls Tryz.prog 94 #[.int .i64 n, .int .i64 lo, .int .i64 hi] w fun e w' => e = .returned (.bool (isFromB n lo hi)) ∧ w = w' := by
  by_cases h : lo ≤ n
  all_goals by_cases h2 : n ≤ hi
  all_goals
    go_enter Tryz.func94, Tryz.ntmps94
    go_wp2
    all_goals go_ret
    all_goals refine ⟨?_, rfl⟩
    all_goals simp [isFromB, h, h2]
theorem refIn_any (n lo hi : Int) (w : World) :
    Calls Tryz.prog 43 #[.int .i64 n, .int .i64 lo, .int .i64 hi] w fun e w' => e = .returned (.bool (isFromB n lo hi)) ∧ w = w' := by
  by_cases h : lo ≤ n
  all_goals by_cases h2 : n ≤ hi
  all_goals
    go_enter Tryz.func43, Tryz.ntmps43
    go_wp2
    all_goals go_ret
    all_goals refine ⟨?_, rfl⟩
    all_goals simp [isFromB, h, h2]
theorem refCrop_any (n : Int) (w : World) :
    Calls Tryz.prog 70 #[.int .i64 n] w fun e w' => e = .returned (.bool (isFromB n 1 3)) ∧ w = w' := by
  by_cases h : 1 ≤ n
  all_goals by_cases h2 : n ≤ 3
  all_goals
    go_enter Tryz.func70, Tryz.ntmps70
    go_wp2
    all_goals go_ret
    all_goals refine ⟨?_, rfl⟩
    all_goals simp [isFromB, h, h2]
theorem refSpan_any (a b lo hi : Int) (w : World) :
    Calls Tryz.prog 44 #[.agg #[.int .i64 a, .int .i64 b], .int .i64 lo, .int .i64 hi] w fun e w' => e = .returned (.bool (isSpanB a b lo hi)) ∧ Below w.heap.size w w' := by
  by_cases h : lo ≤ a
  all_goals by_cases h1 : a ≤ b
  all_goals by_cases h2 : b ≤ hi
  all_goals
    go_enter Tryz.func44, Tryz.ntmps44
    go_wp2_with fail
    all_goals go_ret
    all_goals refine ⟨?_, (Below.refl _ _).alloc (Nat.le_refl _) _⟩
    all_goals simp [isSpanB, h, h1, h2]

theorem bad_name {s : ByteArray} {k : Nat} (hk : k < s.size) (h : badB k (byteAt s k) = true) : nameB s = false := by
  unfold nameB
  rw [Bool.and_eq_false_iff]
  right
  rw [Bool.eq_false_iff]
  intro h2
  have := List.all_eq_true.1 h2 k (by simpa using hk)
  rw [h] at this
  cases this
theorem byte_at {s : ByteArray} {k : Nat} (hk : k < s.size) : byteAt s k = (s[k].toNat : Int) := by
  unfold byteAt
  rw [Array.getElem?_eq_getElem (by simpa using hk)]
  rfl

set_option maxRecDepth 100000 in
set_option maxHeartbeats 2000000 in
theorem refName_any (s : ByteArray) (w : World) (hs : s.size ≤ maxLen) : Calls Tryz.prog 69 #[.string s] w fun e w' => e = .returned (.bool (nameB s)) ∧ w = w' := by
  unfold maxLen at hs
  go_enter Tryz.func69, Tryz.ntmps69
  go_wp2_with fail
  refine (refIn1_any _ _ _ _).mono ?_
  rintro e w' ⟨rfl, rfl⟩
  cases h1 : isFromB (s.size : Int) 1 16 with
  | false =>
    have hv : nameB s = false := by
      simp [isFromB] at h1
      simp [nameB]
      omega
    have HV := Lib.hid hv
    clear hv h1
    go_wp2_with fail
    go_ret
    exact ⟨by rw [HV.out]; rfl, rfl⟩
  | true =>
  obtain ⟨h2, h3⟩ := isFromB_iff.1 h1
  have hz : 0 < s.size := by omega
  have hb0 := byte_at hz
  by_cases ha : (s[0].toNat : Int) < 97
  · have hv : nameB s = false := bad_name hz (by rw [hb0]; simp [badB, letterB]; omega)
    have HV := Lib.hid hv
    have q1 : decide ((s[0].toNat : Int) < 97) = true := decide_eq_true ha
    have q2 : decide (s[0].toNat < 97) = true := decide_eq_true (by omega)
    clear hv h1 hb0 ha
    go_wp2_with fail
    go_ret
    exact ⟨by rw [HV.out]; rfl, rfl⟩
  by_cases hc : (122 : Int) < (s[0].toNat : Int)
  · have hv : nameB s = false := bad_name hz (by rw [hb0]; simp [badB, letterB]; omega)
    have HV := Lib.hid hv
    clear hv h1 hb0
    go_wp2_with fail
    go_ret
    exact ⟨by rw [HV.out]; rfl, rfl⟩
  have hl0 : badB 0 (byteAt s 0) = false := by rw [hb0]; simp [badB, letterB]; omega
  have HL0 := Lib.hid hl0
  clear h1 hl0 hb0
  go_wp2_with fail
  go_loop [3, 4] (fun i _ => ∃ k : Nat, k ≤ s.size ∧ i = .int .i64 k ∧ ∀ j, j < k → badB j (byteAt s j) = false) (fun i _ => s.size - (intOf i).toNat)
  case atStart => exact ⟨0, Nat.zero_le _, rfl, fun j h => by omega⟩
  case round =>
    obtain ⟨k, hk, rfl, hall⟩ := hrel
    have HA := Lib.hid hall
    clear hall
    by_cases hlt : k < s.size
    · have hbk := byte_at hlt
      have hk0 : (0 : Int) ≤ (k : Int) := Int.natCast_nonneg _
      have hk1 : (k : Int) < (s.size : Int) := by omega
      go_upto_region 7 with fail
      have hu : (0 : Int) ≤ (s[k].toNat : Int) := Int.natCast_nonneg _
      generalize (s[k].toNat : Int) = c at *
      have HB := Lib.hid hbk
      clear hbk
      rcases (show (97 ≤ c ∧ c ≤ 122) ∨ (48 ≤ c ∧ c ≤ 57) ∨ c = 45 ∨ (c < 48 ∧ c ≠ 45) ∨ (57 < c ∧ c < 97) ∨ 122 < c by omega) with ⟨y1, y2⟩ | ⟨y1, y2⟩ | y1 | ⟨y1, y2⟩ | ⟨y1, y2⟩ | y1
      · have hbad : badB k (byteAt s k) = false := by rw [HB.out]; simp [badB, letterB, y1, y2]
        have HBAD := Lib.hid hbad
        have z1 : ¬ c < 97 := by omega
        have z2 : ¬ 122 < c := by omega
        clear hbad
        go_wp2_with fail
        refine ⟨⟨k + 1, by omega, by simp, fun j hj => ?_⟩, by simp [intOf]; omega⟩
        by_cases hjk : j = k
        · subst hjk; exact HBAD.out
        · exact HA.out j (by omega)
      · have hbad : badB k (byteAt s k) = false := by rw [HB.out]; have hk9 : k ≠ 0 := (fun e => by subst e; have := HL0.out; rw [HB.out] at this; simp [badB, letterB] at this; omega); simp [badB, digitB, y1, y2, hk9]
        have HBAD := Lib.hid hbad
        have z1 : c < 97 := by omega
        have z3 : ¬ c < 48 := by omega
        have z4 : ¬ 57 < c := by omega
        clear hbad
        go_wp2_with fail
        refine ⟨⟨k + 1, by omega, by simp, fun j hj => ?_⟩, by simp [intOf]; omega⟩
        by_cases hjk : j = k
        · subst hjk; exact HBAD.out
        · exact HA.out j (by omega)
      · have hbad : badB k (byteAt s k) = false := by rw [HB.out]; have hk9 : k ≠ 0 := (fun e => by subst e; have := HL0.out; rw [HB.out] at this; simp [badB, letterB] at this; omega); simp [badB, y1, hk9]
        have HBAD := Lib.hid hbad
        have z1 : c < 97 := by omega
        have z3 : c < 48 := by omega
        have z5 : (c != 45) = false := by simp [y1]
        clear hbad
        go_wp2_with fail
        refine ⟨⟨k + 1, by omega, by simp, fun j hj => ?_⟩, by simp [intOf]; omega⟩
        by_cases hjk : j = k
        · subst hjk; exact HBAD.out
        · exact HA.out j (by omega)
      · have hbad : nameB s = false := bad_name hlt (by rw [HB.out]; simp only [badB, letterB, digitB]; rw [Bool.and_eq_true]; refine ⟨by simp; omega, ?_⟩; rw [Bool.or_eq_true]; right; rw [Bool.and_eq_true]; exact ⟨by simp; omega, by simp; omega⟩)
        have HBAD := Lib.hid hbad
        have z1 : c < 97 := by omega
        have z3 : c < 48 := by omega
        have z5 : (c != 45) = true := by simp; omega
        clear hbad
        go_wp2_with fail
        go_ret
        exact ⟨by rw [HBAD.out]; rfl, rfl⟩
      · have hbad : nameB s = false := bad_name hlt (by rw [HB.out]; simp only [badB, letterB, digitB]; rw [Bool.and_eq_true]; refine ⟨by simp; omega, ?_⟩; rw [Bool.or_eq_true]; right; rw [Bool.and_eq_true]; exact ⟨by simp; omega, by simp; omega⟩)
        have HBAD := Lib.hid hbad
        have z3 : ¬ c < 48 := by omega
        have z5 : (c != 45) = true := by simp; omega
        clear hbad
        go_wp2_with fail
        go_ret
        exact ⟨by rw [HBAD.out]; rfl, rfl⟩
      · have hbad : nameB s = false := bad_name hlt (by rw [HB.out]; simp only [badB, letterB, digitB]; rw [Bool.and_eq_true]; refine ⟨by simp; omega, ?_⟩; rw [Bool.or_eq_true]; right; rw [Bool.and_eq_true]; exact ⟨by simp; omega, by simp; omega⟩)
        have HBAD := Lib.hid hbad
        have z1 : ¬ c < 97 := by omega
        have z3 : ¬ c < 48 := by omega
        have z4 : 57 < c := by omega
        have z5 : (c != 45) = true := by simp; omega
        clear hbad
        go_wp2_with fail
        go_ret
        exact ⟨by rw [HBAD.out]; rfl, rfl⟩
    · obtain rfl : k = s.size := by omega
      have hv : nameB s = true := by
        unfold nameB
        rw [Bool.and_eq_true, Bool.and_eq_true]
        refine ⟨⟨decide_eq_true (by omega), decide_eq_true (by omega)⟩, List.all_eq_true.2 fun j hj => ?_⟩
        rw [HA.out j (by simpa using hj)]
        rfl
      have HV := Lib.hid hv
      clear hv
      go_wp2_with fail
      go_ret
      exact ⟨by rw [HV.out]; rfl, rfl⟩
end Go.Proofs.YtfhalmlpnoepcaaGreat
