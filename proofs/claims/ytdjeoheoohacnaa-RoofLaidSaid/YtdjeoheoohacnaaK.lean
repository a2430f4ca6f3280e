/- Names. -/
import Derived.Test.YtdjeoheoohacnaaJ
namespace Go.Proofs.Ytdjeoheoohacnaa
open Go.RowKit

def letterB (c : Int) : Bool := decide (97 ≤ c) && decide (c ≤ 122)
def digitB (c : Int) : Bool := decide (48 ≤ c) && decide (c ≤ 57)
/-- A letter that may not stand at place i of a name. -/
def badB (i : Nat) (c : Int) : Bool := !letterB c && (decide (i = 0) || (!digitB c && !(c == 45)))
def byteAt (s : ByteArray) (i : Nat) : Int := ((s.data[i]?.getD 0).toNat : Int)
def nameB (s : ByteArray) : Bool := decide (1 ≤ s.size) && decide (s.size ≤ 16) && (List.range s.size).all fun i => !badB i (byteAt s i)

theorem letter_any (c : Int) (w : World) : Calls Try.prog 89 #[.int .u8 c] w fun e w' => e = .returned (.bool (letterB c)) ∧ w = w' := by
  by_cases h : 97 ≤ c
  all_goals by_cases h2 : c ≤ 122
  all_goals
    go_enter Try.func89, Try.ntmps89
    go_wp2
    all_goals go_ret
    all_goals refine ⟨?_, rfl⟩
    all_goals simp [letterB, h, h2]
theorem digit_any (c : Int) (w : World) : Calls Try.prog 90 #[.int .u8 c] w fun e w' => e = .returned (.bool (digitB c)) ∧ w = w' := by
  by_cases h : 48 ≤ c
  all_goals by_cases h2 : c ≤ 57
  all_goals
    go_enter Try.func90, Try.ntmps90
    go_wp2
    all_goals go_ret
    all_goals refine ⟨?_, rfl⟩
    all_goals simp [digitB, h, h2]

set_option maxRecDepth 100000 in
set_option maxHeartbeats 1000000 in
theorem isName_any (s : ByteArray) (w : World) (hs : s.size ≤ maxLen) : Calls Try.prog 55 #[.string s] w fun e w' => e = .returned (.bool (nameB s)) ∧ w = w' := by
  unfold maxLen at hs
  by_cases h1 : s.size < 1
  · have hv : nameB s = false := by simp [nameB]; omega
    have HV := Lib.hid hv
    clear hv
    go_enter Try.func55, Try.ntmps55
    go_wp2_with fail
    go_ret
    exact ⟨by rw [HV.out]; rfl, rfl⟩
  · by_cases h2 : 16 < s.size
    · have hv : nameB s = false := by simp [nameB]; omega
      have HV := Lib.hid hv
      clear hv
      go_enter Try.func55, Try.ntmps55
      go_wp2_with fail
      go_ret
      exact ⟨by rw [HV.out]; rfl, rfl⟩
    · go_enter Try.func55, Try.ntmps55
      go_wp2_with fail
      go_loop [3, 4, 15] (fun _ _ i => ∃ k : Nat, k ≤ s.size ∧ i = .int .i64 k ∧ ∀ j, j < k → badB j (byteAt s j) = false) (fun _ _ i => s.size - (intOf i).toNat)
      case atStart => exact ⟨0, Nat.zero_le _, rfl, fun j h => by omega⟩
      case round =>
        obtain ⟨k, hk, rfl, hall⟩ := hrel
        by_cases hlt : k < s.size
        · have hbk : byteAt s k = (s[k].toNat : Int) := by
            unfold byteAt
            rw [Array.getElem?_eq_getElem (by simpa using hlt)]
            rfl
          have hc0 : (0 : Int) ≤ (s[k].toNat : Int) := Int.natCast_nonneg _
          have HA := Lib.hid hall
          have HB := Lib.hid hbk
          clear hall hbk
          by_cases hl : letterB (s[k].toNat : Int) = true
          · have hbad : badB k (byteAt s k) = false := by rw [HB.out]; simp [badB, hl]
            have HBAD := Lib.hid hbad
            clear hbad
            go_wp2_with (go_at_call 89; refine (letter_any _ _).mono ?_; rintro e w' ⟨rfl, rfl⟩)
            refine ⟨⟨k + 1, by omega, by simp, fun j hj => ?_⟩, by simp [intOf]; omega⟩
            by_cases hjk : j = k
            · subst hjk; exact HBAD.out
            · exact HA.out j (by omega)
          · have hl' : letterB (s[k].toNat : Int) = false := by simpa using hl
            clear hl
            by_cases h0 : k = 0
            · have hbad : nameB s = false := by
                unfold nameB
                rw [Bool.and_eq_false_iff]
                right
                rw [Bool.eq_false_iff]
                intro h
                have := List.all_eq_true.1 h k (by simpa using hlt)
                rw [HB.out] at this
                rw [badB, hl', decide_eq_true h0] at this
                simp at this
              have HBAD := Lib.hid hbad
              clear hbad
              have hk0 : ((k : Int) == 0) = true := by simp [h0]
              clear h0
              go_wp2_with (go_at_call 89; refine (letter_any _ _).mono ?_; rintro e w' ⟨rfl, rfl⟩)
              go_ret
              exact ⟨by rw [HBAD.out]; rfl, rfl⟩
            · have hk0 : ((k : Int) == 0) = false := by simp [h0]
              have H0 := Lib.hid h0
              clear h0
              by_cases hd : digitB (s[k].toNat : Int) = true
              · have hbad : badB k (byteAt s k) = false := by rw [HB.out]; simp [badB, hd, H0.out]
                have HBAD := Lib.hid hbad
                clear hbad
                go_wp2_with (first | (go_at_call 89; refine (letter_any _ _).mono ?_; rintro e w' ⟨rfl, rfl⟩) | (go_at_call 90; refine (digit_any _ _).mono ?_; rintro e w' ⟨rfl, rfl⟩))
                refine ⟨⟨k + 1, by omega, by simp, fun j hj => ?_⟩, by simp [intOf]; omega⟩
                by_cases hjk : j = k
                · subst hjk; exact HBAD.out
                · exact HA.out j (by omega)
              · have hd' : digitB (s[k].toNat : Int) = false := by simpa using hd
                clear hd
                by_cases h45 : (s[k].toNat : Int) = 45
                · have hbad : badB k (byteAt s k) = false := by rw [HB.out, h45]; simp [badB, H0.out]
                  have hq : ((s[k].toNat : Int) == 45) = true := by simpa using h45
                  have hq' : ((s[k].toNat : Int) != 45) = false := by simpa using h45
                  have HBAD := Lib.hid hbad
                  clear hbad h45
                  go_wp2_with (first | (go_at_call 89; refine (letter_any _ _).mono ?_; rintro e w' ⟨rfl, rfl⟩) | (go_at_call 90; refine (digit_any _ _).mono ?_; rintro e w' ⟨rfl, rfl⟩))
                  refine ⟨⟨k + 1, by omega, by simp, fun j hj => ?_⟩, by simp [intOf]; omega⟩
                  by_cases hjk : j = k
                  · subst hjk; exact HBAD.out
                  · exact HA.out j (by omega)
                · have hbad : nameB s = false := by
                    unfold nameB
                    rw [Bool.and_eq_false_iff]
                    right
                    rw [Bool.eq_false_iff]
                    intro h
                    have := List.all_eq_true.1 h k (by simpa using hlt)
                    rw [HB.out] at this
                    simp [badB, hl', hd', h45] at this
                  have hq : ((s[k].toNat : Int) == 45) = false := by simpa using h45
                  have hq' : ((s[k].toNat : Int) != 45) = true := by simpa using h45
                  have HBAD := Lib.hid hbad
                  clear hbad h45
                  go_wp2_with (first | (go_at_call 89; refine (letter_any _ _).mono ?_; rintro e w' ⟨rfl, rfl⟩) | (go_at_call 90; refine (digit_any _ _).mono ?_; rintro e w' ⟨rfl, rfl⟩))
                  go_ret
                  exact ⟨by rw [HBAD.out]; rfl, rfl⟩
        · obtain rfl : k = s.size := by omega
          have hv : nameB s = true := by
            unfold nameB
            rw [Bool.and_eq_true, Bool.and_eq_true]
            refine ⟨⟨decide_eq_true (by omega), decide_eq_true (by omega)⟩, List.all_eq_true.2 fun j hj => ?_⟩
            rw [hall j (by simpa using hj)]
            rfl
          have HV := Lib.hid hv
          clear hv hall
          go_wp2
          go_ret
          exact ⟨by rw [HV.out]; rfl, rfl⟩
end Go.Proofs.Ytdjeoheoohacnaa
