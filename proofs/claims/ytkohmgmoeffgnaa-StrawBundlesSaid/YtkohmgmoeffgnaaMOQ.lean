/- The bundles of a heap are together its parts: mathematics. -/
import Derived.Test.YtkohmgmoeffgnaaMGQ
import Derived.Test.YtkohmgmoeffgnaaJBQ
namespace Go.Proofs.Ytkohmgmoeffgnaa
open Go.RowKit

theorem put_ap : ∀ {l u : List Prt}, ap (lastP u) l → putL u l = u ++ l
  | [], u, _ => by simp [put_nil]
  | p :: l, u, h => by
    rw [put_cons, push_apart h.1, put_ap (by rw [lastP_snoc]; exact h.2)]
    simp
theorem find_at {ps : List Plt} {l : List Hep} (g : GoodH ps l) {k : Nat} {x : Hep} (hx : l[k]? = some x) : l.find? (fun h => strB h.name x.name) = some x := by
  obtain ⟨hk, hxe⟩ := List.getElem?_eq_some_iff.1 hx
  refine List.find?_eq_some_iff_getElem.2 ⟨by simp [strB], k, hk, hxe, fun j hj => ?_⟩
  have := g.apart j k l[j] x (List.getElem?_eq_getElem (by omega)) hx hj
  simp only [this]
  decide
/-- What a bound heap has, and what each of its bundles is. -/
theorem bundle_math {F : Frm} {S : Sto} (hE : storeE F S = 0) {i : Nat} {x : Hep} (hx : S.heaps[i]? = some x) :
    (x.stage ≠ 3 → bunM F S x.name 0 = (8, [])) ∧
    (x.stage = 3 → (1 ≤ x.per ∧ x.per ≤ 100) ∧ loadsM x.parts % x.per = 0 ∧ 1 ≤ loadsM x.parts / x.per ∧ (loadsM x.parts / x.per) * x.per = loadsM x.parts ∧
      bunM F S x.name (loadsM x.parts / x.per) = (1, []) ∧
      (∀ k : Int, 0 ≤ k → k < loadsM x.parts / x.per → bunM F S x.name k = (0, cutT x.per (cutR (k * x.per) x.parts)) ∧ loadsM (cutT x.per (cutR (k * x.per) x.parts)) = x.per ∧
        putL (cutT (k * x.per) x.parts) (cutT x.per (cutR (k * x.per) x.parts)) = cutT ((k + 1) * x.per) x.parts) ∧
      cutT (0 * x.per) x.parts = [] ∧ cutT ((loadsM x.parts / x.per) * x.per) x.parts = x.parts) := by
  have g := goodS_of hE
  have hb := g.heaps.each x (List.mem_of_getElem? hx)
  have hp := ok1 (heapB_parts hb)
  have hbm : ∀ k, bunM F S x.name k = if x.stage = 3 then (if isFromB k 0 (loadsM x.parts / x.per - 1) = true then (0, cutT x.per (cutR (k * x.per) x.parts)) else (1, [])) else (8, []) := fun k => by
    unfold bunM
    rw [if_pos hE, find_at g.heaps hx]
  refine ⟨fun h3 => by rw [hbm, if_neg h3], fun h3 => ?_⟩
  obtain ⟨_, _, _, _, hne, hpb, _, h9⟩ := heapB_iff.1 hb
  rw [if_pos h3] at h9
  obtain ⟨hper, hmod⟩ := h9
  have hper := isFromB_iff.1 hper
  have hap := partsB_ap hpb
  have hdm := Int.emod_add_mul_ediv (loadsM x.parts) x.per
  rw [hmod] at hdm
  have hcomm : x.per * (loadsM x.parts / x.per) = (loadsM x.parts / x.per) * x.per := Int.mul_comm _ _
  have hqn : (loadsM x.parts / x.per) * x.per = loadsM x.parts := by omega
  have hpos : 1 ≤ loadsM x.parts := by
    cases hparts : x.parts with
    | nil => exact absurd hparts hne
    | cons p l =>
      have h1 := hp p (by rw [hparts]; simp)
      have h2 := loads_pos (l := l) (fun q hq => hp q (by rw [hparts]; simp [hq]))
      simp only [loadsM]
      omega
  have hq1 : 1 ≤ loadsM x.parts / x.per := by
    have h0 : 0 ≤ loadsM x.parts / x.per := Int.ediv_nonneg (by omega) (by omega)
    by_cases h : loadsM x.parts / x.per = 0
    · rw [h] at hqn; omega
    · omega
  have hap2 : ∀ n : Int, 0 ≤ n → putL [] (cutT n x.parts) = cutT n x.parts := fun n hn => by
    rw [put_ap (u := []) (ap_cutT hp hn hap)]
    rfl
  refine ⟨hper, hmod, hq1, hqn, ?_, fun k hk0 hk1 => ?_, ?_, ?_⟩
  · rw [hbm, if_pos h3, if_neg]
    simp [isFromB]
    omega
  · have hkp : 0 ≤ k * x.per := Int.mul_nonneg hk0 (by omega)
    have hk2 : (k + 1) * x.per ≤ loadsM x.parts := by
      have := Int.mul_le_mul_of_nonneg_right (show k + 1 ≤ loadsM x.parts / x.per by omega) (show 0 ≤ x.per by omega)
      omega
    have hadd : (k + 1) * x.per = k * x.per + x.per := by rw [Int.add_mul, Int.one_mul]
    refine ⟨by rw [hbm, if_pos h3, if_pos (isFromB_iff.2 ⟨hk0, by omega⟩)], ?_, ?_⟩
    · have h1 := (loadsM_cut hp hkp).2.1
      have h2 := (loadsM_cut (l := cutR (k * x.per) x.parts) (cutR_pos hp hkp) (n := x.per) (by omega)).1
      rw [h2, h1]
      omega
    · have h1 := (cut_twice hp [] (n := k * x.per) (m := x.per) hkp (by omega)).1
      rw [hap2 _ (by omega), hap2 _ hkp] at h1
      rw [hadd]
      exact h1.symm
  · rw [Int.zero_mul]
    exact cutT_zero hp
  · rw [hqn]
    exact cutT_all hp (Int.le_refl _)
end Go.Proofs.Ytkohmgmoeffgnaa
