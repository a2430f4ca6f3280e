/- Long: whether a list of chores is more than statements look at. -/
import Derived.Test.YtghepojnimlafaaQKR
namespace Go.Proofs.Ytghepojnimlafaa
open Go.RowKit

def LongSaid (l : List Chr) (e : Ending) : Prop := ∃ b, e = .returned (.bool b) ∧ (b = false → l.length ≤ 40 ∨ 200 < l.length)

set_option maxRecDepth 100000 in
set_option maxHeartbeats 8000000 in
theorem long_any (a : Option Addr) (c : Nat) (l : List Chr) (w : World) (hL : IsChrs w a c l) :
    Calls Try.prog 5 #[.slice a l.length c] w fun e w' => LongSaid l e ∧ Below w.heap.size w w' := by
  have hlen := hL.len
  have HL := Lib.hid hL
  clear hL
  go_enter Try.func5, Try.ntmps5
  go_wp2_with fail
  go_loopw [3, 4] (fun s i wr => ∃ (j : Nat) (n : Int), j ≤ l.length ∧ j ≤ 301 ∧ i = .int .i64 j ∧ s = .int .i64 n ∧ Below w.heap.size w wr) (fun _ i _ => l.length - (intOf i).toNat)
  case atStart => exact ⟨0, 0, Nat.zero_le _, Nat.zero_le _, rfl, rfl, Below.refl _ w⟩
  case round =>
    obtain ⟨j, n, hj, hj3, rfl, rfl, hB⟩ := hrel
    have hj0 : (0 : Int) ≤ (j : Int) := Int.natCast_nonneg _
    by_cases hlj : j < l.length ∧ j ≤ 300
    · have hq : l[j]? = some l[j] := List.getElem?_eq_getElem hlj.1
      obtain ⟨b, off, hea, hblt, hcap, hcx, ⟨c0, c1, c2, c3, c4, c5, c6, c7, c8⟩, hn1, hn2⟩ := (HL.out.belowS hB).at hq
      subst hea
      generalize l[j] = x at *
      unfold maxLen at hn1 hn2
      have hj1 : (j : Int) < (l.length : Int) := by omega
      have hj4 : (j : Int) ≤ 300 := by omega
      clear hq
      go_upto_region 5 with fail
      go_quiet (fail)
      have hB2 : ∀ k, Below w.heap.size w (wr.drewN k) := fun k => hB.trans (below_drewN' _ _ _)
      go_wp2_with fail
      exact ⟨⟨j + 1, _, by omega, by omega, by simp, rfl, hB2 _⟩, by simp [intOf]; omega⟩
    · by_cases q1 : 40 < l.length
      · have p1 : (40 : Int) < (l.length : Int) := by omega
        by_cases q2 : l.length ≤ 200
        · have p2 : (l.length : Int) ≤ 200 := by omega
          have e : j = l.length := by omega
          subst e
          go_wp2_with fail
          all_goals go_ret
          all_goals exact ⟨⟨_, rfl, fun h => by first | (cases h; done) | omega⟩, hB⟩
        · have p2 : ¬ (l.length : Int) ≤ 200 := by omega
          by_cases q3 : j < l.length
          · have q5 : (j : Int) < (l.length : Int) := by omega
            have q6 : ¬ (j : Int) ≤ 300 := by omega
            have p3 : (300 : Int) < (l.length : Int) := by omega
            go_wp2_with fail
            all_goals go_ret
            all_goals exact ⟨⟨_, rfl, fun _ => by omega⟩, hB⟩
          · have e : j = l.length := by omega
            subst e
            by_cases q7 : 300 < l.length
            · have p3 : (300 : Int) < (l.length : Int) := by omega
              go_wp2_with fail
              all_goals go_ret
              all_goals exact ⟨⟨_, rfl, fun _ => by omega⟩, hB⟩
            · have p3 : ¬ (300 : Int) < (l.length : Int) := by omega
              go_wp2_with fail
              all_goals go_ret
              all_goals exact ⟨⟨_, rfl, fun _ => by omega⟩, hB⟩
      · have p1 : ¬ (40 : Int) < (l.length : Int) := by omega
        have p3 : ¬ (300 : Int) < (l.length : Int) := by omega
        have e : j = l.length := by omega
        subst e
        go_wp2_with fail
        all_goals go_ret
        all_goals exact ⟨⟨_, rfl, fun _ => by omega⟩, hB⟩
end Go.Proofs.Ytghepojnimlafaa
