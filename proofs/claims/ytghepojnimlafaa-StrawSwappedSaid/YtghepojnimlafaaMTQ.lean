/- Fields numbered backwards: the ledger, and what a choice costs. -/
import Derived.Test.YtghepojnimlafaaMSQ
import Derived.Test.YtghepojnimlafaaMLQ
import Derived.Test.YtghepojnimlafaaQFH
namespace Go.Proofs.Ytghepojnimlafaa
open Go.RowKit

/-- The ledger of a store that is told backwards. -/
theorem cnt_rev {F : Frm} {S : Sto} (hE : storeE F S = 0) {k : Nat} (hk : k < F.ps.length) :
    givenAt (revS F.ps.length S).given (F.ps.length - 1 - k) = givenAt S.given k ∧ ofM ((F.ps.length - 1 - k : Nat) : Int) (revS F.ps.length S).used = ofM k S.used ∧
      leftM ((F.ps.length - 1 - k : Nat) : Int) (revS F.ps.length S).heaps = leftM k S.heaps ∧ ofM ((F.ps.length - 1 - k : Nat) : Int) (revS F.ps.length S).waste = ofM k S.waste := by
  have g := goodS_of hE
  have e : (F.ps.length : Int) - 1 - ((F.ps.length - 1 - k : Nat) : Int) = (k : Int) := by omega
  refine ⟨?_, ?_, ?_, ?_⟩
  · show givenAt S.given.reverse _ = _
    rw [given_rev (by rw [g.len]; omega), g.len]
    congr 1
    omega
  · show ofM _ (S.used.map (revP F.ps.length)) = _
    rw [ofM_rev, e]
  · show leftM _ (S.heaps.map (revH F.ps.length)) = _
    rw [leftM_rev, e]
  · show ofM _ (S.waste.map (revP F.ps.length)) = _
    rw [ofM_rev, e]

theorem add_add_comm (c : Sur) (p q : Plt) : (c.add p).add q = (c.add q).add p := by
  unfold Sur.add
  by_cases h1 : p.crop = 1 <;> by_cases h3 : q.crop = 1 <;> by_cases h2 : p.crop = 2 <;> by_cases h4 : q.crop = 2 <;> simp [h1, h2, h3, h4, Int.add_assoc, Int.add_comm, Int.add_left_comm]
theorem sure_fold (PS : List Plt) (p : Plt) : ∀ (t : List Nat) (c : Sur), t.foldl (fun c i => c.add (pltAt PS i)) (c.add p) = (t.foldl (fun c i => c.add (pltAt PS i)) c).add p
  | [], _ => rfl
  | i :: t, c => by
    simp only [List.foldl_cons]
    rw [add_add_comm, sure_fold PS p t]
theorem cost_fold (PS : List Plt) (x : Int) : ∀ (t : List Nat) (c : Int), t.foldl (fun c i => c + (pltAt PS i).cost) (c + x) = t.foldl (fun c i => c + (pltAt PS i).cost) c + x
  | [], _ => rfl
  | i :: t, c => by
    simp only [List.foldl_cons]
    rw [show c + x + (pltAt PS i).cost = c + (pltAt PS i).cost + x by omega, cost_fold PS x t]
def revI (n : Nat) (t : List Nat) : List Nat := (t.map fun i => n - 1 - i).reverse
theorem revI_cons (n i : Nat) (t : List Nat) : revI n (i :: t) = revI n t ++ [n - 1 - i] := by simp [revI]
theorem plt_rev {PS : List Plt} {i : Nat} (h : i < PS.length) : pltAt PS.reverse (PS.length - 1 - i) = pltAt PS i := by
  unfold pltAt
  rw [List.getElem?_reverse (by omega)]
  congr 2
  omega
theorem sums_rev {PS : List Plt} : ∀ {t : List Nat}, (∀ i ∈ t, i < PS.length) → sureOf PS.reverse (revI PS.length t) = sureOf PS t ∧ costOf PS.reverse (revI PS.length t) = costOf PS t
  | [], _ => ⟨rfl, rfl⟩
  | i :: t, h => by
    obtain ⟨h1, h2⟩ := sums_rev (t := t) fun j hj => h j (by simp [hj])
    have hi := plt_rev (h i (by simp))
    rw [revI_cons, sureOf_snoc, costOf_snoc, h1, h2, hi]
    constructor
    · show (sureOf PS t).add (pltAt PS i) = t.foldl (fun c i => c.add (pltAt PS i)) (Sur.none.add (pltAt PS i))
      rw [sure_fold]
      rfl
    · show costOf PS t + (pltAt PS i).cost = t.foldl (fun c i => c + (pltAt PS i).cost) (0 + (pltAt PS i).cost)
      rw [cost_fold]
      rfl
theorem ext_is : ∀ (ps : List Plt) (i : Nat) (l : List Nat), Ext ps i l → ∃ P : Nat → Bool, l = (List.range' i ps.length).filter P
  | [], _, l, h => ⟨fun _ => true, h⟩
  | p :: ps, i, l, h => by
    rcases h with h | ⟨t, rfl, h⟩
    · obtain ⟨P, rfl⟩ := ext_is ps (i + 1) l h
      refine ⟨fun k => if k = i then false else P k, ?_⟩
      rw [List.length_cons, List.range'_succ, List.filter_cons, if_neg (by simp)]
      refine List.filter_congr fun k hk => ?_
      rw [if_neg (by have := List.mem_range'_1.1 hk; omega)]
    · obtain ⟨P, rfl⟩ := ext_is ps (i + 1) t h
      refine ⟨fun k => if k = i then true else P k, ?_⟩
      rw [List.length_cons, List.range'_succ, List.filter_cons, if_pos (by simp)]
      congr 1
      refine List.filter_congr fun k hk => ?_
      rw [if_neg (by have := List.mem_range'_1.1 hk; omega)]
theorem ext_rev {PS : List Plt} {t : List Nat} (h : Ext PS 0 t) : Ext PS.reverse 0 (revI PS.length t) ∧ ∀ i ∈ t, i < PS.length := by
  obtain ⟨P, rfl⟩ := ext_is PS 0 t h
  refine ⟨?_, fun i hi => by have := List.mem_range'_1.1 (List.mem_filter.1 hi).1; omega⟩
  have e1 : (List.range' 0 PS.length).map (fun i => PS.length - 1 - i) = (List.range' 0 PS.length).reverse := by
    rw [List.reverse_range', ← List.range_eq_range']
    refine List.map_congr_left fun k hk => ?_
    omega
  have e2 : ((List.range' 0 PS.length).filter P).map (fun i => PS.length - 1 - i) = ((List.range' 0 PS.length).filter fun i => P (PS.length - 1 - i)).reverse := by
    rw [← List.filter_reverse, ← e1, List.filter_map]
    congr 1
    refine List.filter_congr fun k hk => ?_
    have := List.mem_range'_1.1 hk
    show P k = P (PS.length - 1 - (PS.length - 1 - k))
    congr 1
    omega
  have e3 : revI PS.length ((List.range' 0 PS.length).filter P) = (List.range' 0 PS.length).filter fun i => P (PS.length - 1 - i) := by
    unfold revI
    rw [e2, List.reverse_reverse]
  rw [e3]
  have := ext_filter (fun i => P (PS.length - 1 - i)) PS.reverse 0
  rwa [List.length_reverse] at this
theorem choose_half {PS : List Plt} {n : Ned} (h : (chooseM PS n).found = true) : (chooseM PS.reverse n).found = true ∧ (chooseM PS.reverse n).least ≤ (chooseM PS n).least := by
  obtain ⟨k1, k2, k3⟩ := choose_sound PS n h
  obtain ⟨r1, r2⟩ := ext_rev k1
  obtain ⟨s1, s2⟩ := sums_rev r2
  have := choose_enough r1 (by rw [s1]; exact k3)
  exact ⟨this.1, by rw [k2, ← s2]; exact this.2⟩
/-- **A need costs as much with the fields in another order.** -/
theorem choose_rev (PS : List Plt) (n : Ned) : (chooseM PS.reverse n).found = (chooseM PS n).found ∧ (chooseM PS.reverse n).least = (chooseM PS n).least := by
  have h1 := @choose_half PS n
  have h2 := @choose_half PS.reverse n
  rw [List.reverse_reverse] at h2
  cases hf : (chooseM PS n).found with
  | true =>
    obtain ⟨a1, a2⟩ := h1 hf
    obtain ⟨_, b2⟩ := h2 a1
    exact ⟨a1, Int.le_antisymm a2 b2⟩
  | false =>
    have hg : (chooseM PS.reverse n).found = false := by
      cases hg : (chooseM PS.reverse n).found with
      | false => rfl
      | true => rw [(h2 hg).1] at hf; cases hf
    exact ⟨hg, by rw [(choose_blank PS n hf).2, (choose_blank PS.reverse n hg).2]⟩
end Go.Proofs.Ytghepojnimlafaa
