/- before: whether a list is ahead of another one. No condition. -/
import Derived.Test.YtmcmhgjlpffcnaaQE
set_option linter.unusedSimpArgs false
namespace Go.Proofs.Ytmcmhgjlpffcnaa
open Go.RowKit

def beforeB : List Int → List Int → Bool
  | [], [] => false
  | [], _ :: _ => true
  | _ :: _, [] => false
  | a :: l, b :: m => if a = b then beforeB l m else decide (a < b)
theorem before_drop : ∀ (j : Nat) (la lb : List Int), j ≤ la.length → la.take j = lb.take j → beforeB la lb = beforeB (la.drop j) (lb.drop j)
  | 0, la, lb, _, _ => by simp
  | j + 1, [], lb, h, _ => by simp at h
  | j + 1, a :: l, [], _, h => by simp at h
  | j + 1, a :: l, b :: m, hl, h => by
    simp only [List.take_succ_cons, List.cons.injEq] at h
    simp only [beforeB, h.1, if_true, List.drop_succ_cons]
    exact before_drop j l m (by simpa using hl) h.2

set_option maxRecDepth 100000 in
set_option maxHeartbeats 4000000 in
theorem before_any (la lb : List Int) (a b : Option Addr) (ca cb : Nat) (w : World) (ha : IsInts w a ca la) (hb : IsInts w b cb lb) :
    Calls Try.prog 38 #[.slice a la.length ca, .slice b lb.length cb] w fun e w' => e = .returned (.bool (beforeB la lb)) ∧ Below w.heap.size w w' := by
  have hla := ints_le ha
  have hlb := ints_le hb
  have HA := Lib.hid ha
  have HB := Lib.hid hb
  clear ha hb
  go_enter Try.func38, Try.ntmps38
  go_wp2_with fail
  go_loopw [5] (fun i wr => ∃ j : Nat, j ≤ la.length ∧ j ≤ lb.length ∧ i = .int .i64 j ∧ la.take j = lb.take j ∧ Below w.heap.size w wr) (fun i _ => la.length - (intOf i).toNat)
  case atStart => exact ⟨0, Nat.zero_le _, Nat.zero_le _, rfl, by simp, Below.refl _ _⟩
  case round =>
    obtain ⟨j, hj, hjb, rfl, ht, g2⟩ := hrel
    have HT := Lib.hid ht
    have HG := Lib.hid g2
    have hbd := before_drop j la lb hj ht
    have hj0 : (0 : Int) ≤ (j : Int) := Int.natCast_nonneg _
    by_cases hl : j < la.length ∧ j < lb.length
    · obtain ⟨hlj, hlj2⟩ := hl
      have hqa : la[j]? = some la[j] := List.getElem?_eq_getElem hlj
      have hqb : lb[j]? = some lb[j] := List.getElem?_eq_getElem hlj2
      obtain ⟨b1, off1, e1, hb1, h11, h12, hp1⟩ := (HA.out.belowS g2).at hqa
      obtain ⟨b2, off2, e2, hb2, h21, h22, hp2⟩ := (HB.out.belowS g2).at hqb
      have c1 : wr.cell? ⟨b1, off1 + j * 1, none⟩ = some (.int .i64 la[j]) := hp1
      have c2 : wr.cell? ⟨b2, off2 + j * 1, none⟩ = some (.int .i64 lb[j]) := hp2
      rw [Nat.mul_one] at c1 c2
      have hta : la.take (j + 1) = la.take j ++ [la[j]] := by rw [List.take_add_one, hqa]; rfl
      have htb : lb.take (j + 1) = lb.take j ++ [lb[j]] := by rw [List.take_add_one, hqb]; rfl
      rw [List.drop_eq_getElem_cons hlj, List.drop_eq_getElem_cons hlj2, beforeB] at hbd
      generalize la[j] = x at *
      generalize lb[j] = y at *
      subst e1
      subst e2
      have hj1 : (j : Int) < (la.length : Int) := by omega
      have hj2 : (j : Int) < (lb.length : Int) := by omega
      have HH := Lib.hid (And.intro hta (And.intro htb hbd))
      clear ht g2 hp1 hp2 hta htb hbd hqa hqb
      by_cases hxy : x = y
      · subst hxy
        have HTS := Lib.hid (show la.take (j + 1) = lb.take (j + 1) by rw [HH.out.1, HH.out.2.1, HT.out])
        go_wp2_with fail
        go_region
        all_goals (go_wp2_with fail)
        all_goals exact ⟨⟨j + 1, by omega, by omega, by simp, HTS.out, HG.out.drew⟩, by simp [intOf]; omega⟩
      · have HN := Lib.hid (show beforeB la lb = decide (x < y) by rw [HH.out.2.2, if_neg hxy])
        go_wp2_with fail
        go_region
        all_goals (go_wp2_with fail)
        all_goals go_region
        all_goals (go_wp2_with fail)
        all_goals go_ret
        all_goals exact ⟨by rw [HN.out]; rfl, HG.out.drew.drew⟩
    · by_cases h1 : (j : Int) < (la.length : Int)
      · have h2 : ¬ (j : Int) < (lb.length : Int) := by omega
        have hd : lb.drop j = [] := List.drop_eq_nil_of_le (by omega)
        have hv : beforeB la lb = false := by
          rw [hbd, hd, List.drop_eq_getElem_cons (show j < la.length by omega), beforeB]
        have hll : ¬ (la.length : Int) < (lb.length : Int) := by omega
        have HV := Lib.hid hv
        clear ht g2 hbd hd hv
        go_wp2_with fail
        go_ret
        exact ⟨by rw [HV.out]; rfl, HG.out⟩
      · have hd : la.drop j = [] := List.drop_eq_nil_of_le (by omega)
        by_cases h2 : (la.length : Int) < (lb.length : Int)
        · have hv : beforeB la lb = true := by
            rw [hbd, hd, List.drop_eq_getElem_cons (show j < lb.length by omega), beforeB]
          have HV := Lib.hid hv
          clear ht g2 hbd hd hv
          go_wp2_with fail
          go_ret
          exact ⟨by rw [HV.out]; rfl, HG.out⟩
        · have hd2 : lb.drop j = [] := List.drop_eq_nil_of_le (by omega)
          have hv : beforeB la lb = false := by
            rw [hbd, hd, hd2, beforeB]
          have HV := Lib.hid hv
          clear ht g2 hbd hd hd2 hv
          go_wp2_with fail
          go_ret
          exact ⟨by rw [HV.out]; rfl, HG.out⟩
end Go.Proofs.Ytmcmhgjlpffcnaa
