/- The specification's left, total. -/
import Derived.Test.YtfhalmlpnoepcaaGreatGH
import Derived.Test.YtfhalmlpnoepcaaGreatGE
namespace Go.Proofs.YtfhalmlpnoepcaaGreat
open Go.RowKit

theorem heapsM_bd {n : Nat} {l : List Hep} (h : ∀ x ∈ l, ∀ p ∈ x.parts, p.ok n) (hl : ∀ x ∈ l, x.parts.length ≤ 1000) : 0 ≤ heapsM l ∧ heapsM l ≤ 100000000 * l.length := by
  induction l with
  | nil => simp [heapsM]
  | cons x l ih =>
    have h1 := loadsM_bd (h x (by simp))
    have h2 := hl x (by simp)
    obtain ⟨h3, h4⟩ := ih (fun q hq => h q (by simp [hq])) (fun q hq => hl q (by simp [hq]))
    simp only [heapsM, List.length_cons]
    push_cast
    omega
theorem ok_takeH {n : Nat} {l : List Hep} (h : ∀ x ∈ l, ∀ p ∈ x.parts, p.ok n) (j : Nat) : ∀ x ∈ l.take j, ∀ p ∈ x.parts, p.ok n := fun x hx => h x (List.mem_of_mem_take hx)
theorem len_takeH {l : List Hep} (h : ∀ x ∈ l, x.parts.length ≤ 1000) (j : Nat) : ∀ x ∈ l.take j, x.parts.length ≤ 1000 := fun x hx => h x (List.mem_of_mem_take hx)

set_option maxRecDepth 100000 in
set_option maxHeartbeats 4000000 in
theorem refLeft_any (n : Nat) (S : Sto) (i : Nat) (w : World) (hS : IsHeps w S.ha S.hc S.heaps) (hhk : ∀ h ∈ S.heaps, ∀ p ∈ h.parts, p.ok n) (hhp : ∀ h ∈ S.heaps, h.parts.length ≤ 1000) (hhl : S.heaps.length ≤ 1000) (hi : i ≤ 1000) :
    Calls Tryz.prog 74 #[stoV S, .int .i64 i] w fun e w' => e = .returned (.int .i64 (leftM i S.heaps)) ∧ Below w.heap.size w w' := by
  have hll := hS.len
  unfold stoV
  generalize hga : S.ha = sha at *
  have HS := Lib.hid hS
  have HHK := Lib.hid hhk
  have HHP := Lib.hid hhp
  clear hS hhk hhp
  have kB := Blk.new w 29 #[.int .i64 S.year, .slice S.la S.last.length S.lc, .slice S.ga S.given.length S.gc, .slice sha S.heaps.length S.hc, .slice S.ua S.used.length S.uc, .slice S.wa S.waste.length S.wc]
  have hB : Below w.heap.size w (w.alloc (.cells #[.int .i64 S.year, .slice S.la S.last.length S.lc, .slice S.ga S.given.length S.gc, .slice sha S.heaps.length S.hc, .slice S.ua S.used.length S.uc, .slice S.wa S.waste.length S.wc] 29)) := (Below.refl _ w).alloc (by simp) _
  go_enter Tryz.func74, Tryz.ntmps74
  go_upto_region 2 with fail
  generalize (w.alloc (.cells #[.int .i64 S.year, .slice S.la S.last.length S.lc, .slice S.ga S.given.length S.gc, .slice sha S.heaps.length S.hc, .slice S.ua S.used.length S.uc, .slice S.wa S.waste.length S.wc] 29)) = w1 at *
  go_wp2_with fail
  go_loopw [6, 5] (fun k s wr => ∃ (j : Nat) (v : Int), j ≤ S.heaps.length ∧ k = .int .i64 j ∧ s = .int .i64 v ∧ leftM i (S.heaps.take j) = v ∧ wr = w1) (fun k _ _ => S.heaps.length - (intOf k).toNat)
  case atStart => exact ⟨0, 0, Nat.zero_le _, rfl, rfl, rfl, rfl⟩
  case round =>
    obtain ⟨j, v, hj, rfl, rfl, hv, rfl⟩ := hrel
    have d3 := kB.cell 3
    have lB := kB.lt
    simp only [List.getElem?_toArray, List.getElem?_cons_zero, List.getElem?_cons_succ] at d3
    have HV := Lib.hid hv
    by_cases hlj : j < S.heaps.length
    · have hq : S.heaps[j]? = some S.heaps[j] := List.getElem?_eq_getElem hlj
      have hbd := leftM_bd i (ok_takeH HHK.out j) (len_takeH HHP.out j)
      rw [take_len_of hj, hv] at hbd
      have hsn : leftM i (S.heaps.take (j + 1)) = v + ofM i S.heaps[j].parts := by rw [take_snoc' hq, leftM_append, hv]; simp [leftM]
      have hob := ofM_bd i (HHK.out _ (List.getElem_mem hlj))
      have hpl := HHP.out _ (List.getElem_mem hlj)
      have hok := HHK.out _ (List.getElem_mem hlj)
      obtain ⟨b, off, hea, hblt, hcap, hcx, ⟨c0, c1, c2, c3, c4, c5, c6⟩, hpp, _⟩ := (HS.out.belowS hB).at hq
      subst hea
      generalize S.heaps[j] = h at *
      obtain ⟨y1, y2⟩ := hob
      obtain ⟨y3, y4⟩ := hbd
      have HSN := Lib.hid hsn
      have HOK := Lib.hid hok
      have HPP := Lib.hid hpp
      have hj0 : (0 : Int) ≤ (j : Int) := Int.natCast_nonneg _
      have hj1 : (j : Int) < (S.heaps.length : Int) := by omega
      clear hq hsn hv hok hpp
      go_wp2_with fail
      refine (refOf_any n h.pa h.pc h.parts i _ HPP.out HOK.out hpl hi).mono ?_
      rintro e w2 ⟨rfl, rfl⟩
      go_wp2_with fail
      exact ⟨⟨j + 1, v + ofM i h.parts, by omega, by simp, rfl, HSN.out, trivial⟩, by simp [intOf]; omega⟩
    · obtain rfl : j = S.heaps.length := by omega
      rw [List.take_length] at hv
      go_wp2_with fail
      go_ret
      exact ⟨by rw [hv]; rfl, hB⟩

set_option maxRecDepth 100000 in
set_option maxHeartbeats 4000000 in
theorem refTotal_any (n : Nat) (S : Sto) (w : World) (hS : IsStore w S) (hhk : ∀ h ∈ S.heaps, ∀ p ∈ h.parts, p.ok n) (huk : ∀ p ∈ S.used, p.ok n) (hwk : ∀ p ∈ S.waste, p.ok n) (hfit : S.fit) :
    Calls Tryz.prog 73 #[stoV S] w fun e w' => e = .returned (.int .i64 (loadsM S.used + loadsM S.waste + heapsM S.heaps)) ∧ Below w.heap.size w w' := by
  obtain ⟨hul, hwl, hhl, hhp⟩ := hfit
  have hll := hS.heaps.len
  unfold stoV
  have hsh := hS.heaps
  have HST := Lib.hid hS
  have hub := loadsM_bd huk
  have hwb := loadsM_bd hwk
  generalize hga : S.ha = sha at *
  have HS := Lib.hid hsh
  have HHK := Lib.hid hhk
  have HHP := Lib.hid hhp
  have HUK := Lib.hid huk
  have HWK := Lib.hid hwk
  clear hS hsh hhk hhp huk hwk
  have kB := Blk.new w 29 #[.int .i64 S.year, .slice S.la S.last.length S.lc, .slice S.ga S.given.length S.gc, .slice sha S.heaps.length S.hc, .slice S.ua S.used.length S.uc, .slice S.wa S.waste.length S.wc]
  have hB : Below w.heap.size w (w.alloc (.cells #[.int .i64 S.year, .slice S.la S.last.length S.lc, .slice S.ga S.given.length S.gc, .slice sha S.heaps.length S.hc, .slice S.ua S.used.length S.uc, .slice S.wa S.waste.length S.wc] 29)) := (Below.refl _ w).alloc (by simp) _
  go_enter Tryz.func73, Tryz.ntmps73
  go_upto_region 1 with fail
  generalize (w.alloc (.cells #[.int .i64 S.year, .slice S.la S.last.length S.lc, .slice S.ga S.given.length S.gc, .slice sha S.heaps.length S.hc, .slice S.ua S.used.length S.uc, .slice S.wa S.waste.length S.wc] 29)) = w1 at *
  have d3 := kB.cell 3
  have d4 := kB.cell 4
  have d5 := kB.cell 5
  have lB := kB.lt
  simp only [List.getElem?_toArray, List.getElem?_cons_zero, List.getElem?_cons_succ] at d3 d4 d5
  have hc1 : ∀ n', Calls Tryz.prog 46 #[.slice S.ua S.used.length S.uc] (w1.drewN n') fun e w' => e = .returned (.int .i64 (loadsM S.used)) ∧ w' = w1.drewN n' := fun n' => (refLoads_any n _ _ _ _ ((HST.out.below hB).used.belowS (below_drewN' _ _ _)) HUK.out hul).mono fun _ _ ⟨a, b⟩ => ⟨a, b.symm⟩
  have hc2 : ∀ n', Calls Tryz.prog 46 #[.slice S.wa S.waste.length S.wc] (w1.drewN n') fun e w' => e = .returned (.int .i64 (loadsM S.waste)) ∧ w' = w1.drewN n' := fun n' => (refLoads_any n _ _ _ _ ((HST.out.below hB).waste.belowS (below_drewN' _ _ _)) HWK.out hwl).mono fun _ _ ⟨a, b⟩ => ⟨a, b.symm⟩
  have HC1 := Lib.hid hc1
  have HC2 := Lib.hid hc2
  clear hc1 hc2
  have hu1 : loadsM S.used ≤ 100000000 := by omega
  have hu2 : loadsM S.waste ≤ 100000000 := by omega
  obtain ⟨hu3, _⟩ := hub
  obtain ⟨hu4, _⟩ := hwb
  generalize hgu : loadsM S.used = U at *
  generalize hgw : loadsM S.waste = Z at *
  go_quiet (first | (go_at_call 46; with_reducible refine Calls.quiet_of_same (HC1.out _)) | (go_at_call 46; with_reducible refine Calls.quiet_of_same (HC2.out _)))
  have hB2 : Below w.heap.size w (w1.drewN nq) := hB.trans (below_drewN' _ _ _)
  have kB2 := kB.belowS (below_drewN' w1.heap.size w1 nq)
  generalize w1.drewN nq = w2 at *
  clear d3 d4 d5 lB
  go_wp2_with fail
  go_loopw [4, 3] (fun k s wr => ∃ (j : Nat) (v : Int), j ≤ S.heaps.length ∧ k = .int .i64 j ∧ s = .int .i64 v ∧ v = U + Z + heapsM (S.heaps.take j) ∧ wr = w2) (fun k _ _ => S.heaps.length - (intOf k).toNat)
  case atStart => exact ⟨0, _, Nat.zero_le _, rfl, rfl, by simp [heapsM], rfl⟩
  case round =>
    obtain ⟨j, v, hj, rfl, rfl, hv, rfl⟩ := hrel
    have d3 := kB2.cell 3
    have lB := kB2.lt
    simp only [List.getElem?_toArray, List.getElem?_cons_zero, List.getElem?_cons_succ] at d3
    have HV := Lib.hid hv
    by_cases hlj : j < S.heaps.length
    · have hq : S.heaps[j]? = some S.heaps[j] := List.getElem?_eq_getElem hlj
      have hbd := heapsM_bd (ok_takeH HHK.out j) (len_takeH HHP.out j)
      rw [take_len_of hj] at hbd
      have hsn : U + Z + heapsM (S.heaps.take (j + 1)) = v + loadsM S.heaps[j].parts := by rw [take_snoc' hq, heapsM_append, hv]; simp only [heapsM]; omega
      have hob := loadsM_bd (HHK.out _ (List.getElem_mem hlj))
      have hpl := HHP.out _ (List.getElem_mem hlj)
      have hok := HHK.out _ (List.getElem_mem hlj)
      obtain ⟨b, off, hea, hblt, hcap, hcx, ⟨c0, c1, c2, c3, c4, c5, c6⟩, hpp, _⟩ := (HS.out.belowS hB2).at hq
      subst hea
      generalize S.heaps[j] = h at *
      obtain ⟨y1, y2⟩ := hob
      obtain ⟨y3, y4⟩ := hbd
      have y5 : 0 ≤ v := by omega
      have y6 : v ≤ 1000000000000 := by omega
      have HSN := Lib.hid hsn
      have HOK := Lib.hid hok
      have HPP := Lib.hid hpp
      have hj0 : (0 : Int) ≤ (j : Int) := Int.natCast_nonneg _
      have hj1 : (j : Int) < (S.heaps.length : Int) := by omega
      clear hq hsn hv hok hpp y3 y4
      go_wp2_with fail
      refine (refLoads_any n h.pa h.pc h.parts _ HPP.out HOK.out hpl).mono ?_
      rintro e w3 ⟨rfl, rfl⟩
      go_wp2_with fail
      exact ⟨⟨j + 1, v + loadsM h.parts, by omega, by simp, rfl, HSN.out.symm, trivial⟩, by simp [intOf]; omega⟩
    · obtain rfl : j = S.heaps.length := by omega
      rw [List.take_length] at hv
      go_wp2_with fail
      go_ret
      exact ⟨by rw [hgu, hgw, ← hv]; rfl, hB2⟩
end Go.Proofs.YtfhalmlpnoepcaaGreat
