/- All loads of a store (straw). -/
import Derived.Test.YtfhalmlpnoepcaaGreatGN
import Derived.Test.YtfhalmlpnoepcaaGreatGO
namespace Go.Proofs.YtfhalmlpnoepcaaGreat
open Go.RowKit

set_option maxRecDepth 100000 in
set_option maxHeartbeats 4000000 in
theorem allLoads_any (n : Nat) (S : Sto) (w : World) (hS : IsStore w S) (hhk : ∀ h ∈ S.heaps, ∀ p ∈ h.parts, p.ok n) (huk : ∀ p ∈ S.used, p.ok n) (hwk : ∀ p ∈ S.waste, p.ok n) (hfit : S.fit) :
    Calls Tryz.prog 85 #[stoV S] w fun e w' => e = .returned (.int .i64 (loadsM S.used + loadsM S.waste + heapsM S.heaps)) ∧ Below w.heap.size w w' := by
  obtain ⟨hul, hwl, hhl, hhp⟩ := hfit
  have hll := hS.heaps.len
  unfold stoV
  have hsh := hS.heaps
  have HST := Lib.hid hS
  have hub := loadsM_bd huk
  have hwb := loadsM_bd hwk
  generalize hga : S.ha = sha at *
  have HS := Lib.hid hsh
  have HHK := Lib.hid hhk
  have HHP := Lib.hid hhp
  have HUK := Lib.hid huk
  have HWK := Lib.hid hwk
  clear hS hsh hhk hhp huk hwk
  have kB := Blk.new w 29 #[.int .i64 S.year, .slice S.la S.last.length S.lc, .slice S.ga S.given.length S.gc, .slice sha S.heaps.length S.hc, .slice S.ua S.used.length S.uc, .slice S.wa S.waste.length S.wc]
  have hB : Below w.heap.size w (w.alloc (.cells #[.int .i64 S.year, .slice S.la S.last.length S.lc, .slice S.ga S.given.length S.gc, .slice sha S.heaps.length S.hc, .slice S.ua S.used.length S.uc, .slice S.wa S.waste.length S.wc] 29)) := (Below.refl _ w).alloc (by simp) _
  go_enter Tryz.func85, Tryz.ntmps85
  go_upto_region 1 with fail
  generalize (w.alloc (.cells #[.int .i64 S.year, .slice S.la S.last.length S.lc, .slice S.ga S.given.length S.gc, .slice sha S.heaps.length S.hc, .slice S.ua S.used.length S.uc, .slice S.wa S.waste.length S.wc] 29)) = w1 at *
  have d4 : w1.cell? ⟨w.heap.size, 4, none⟩ = some (.slice S.ua S.used.length S.uc) := kB.cell 4
  have d5 : w1.cell? ⟨w.heap.size, 5, none⟩ = some (.slice S.wa S.waste.length S.wc) := kB.cell 5
  have lB := kB.lt
  have HB := Lib.hid hB
  have KB := Lib.hid kB
  have hc1 : ∀ w', Below w1.heap.size w1 w' → Calls Tryz.prog 89 #[.slice S.ua S.used.length S.uc] w' fun e w'' => e = .returned (.int .i64 (loadsM S.used)) ∧ Below w'.heap.size w' w'' := fun w' h => loadsOf_any n _ _ _ _ ((HST.out.below (HB.out.trans (h.mono HB.out.size))).used) HUK.out hul
  have hc2 : ∀ w', Below w1.heap.size w1 w' → Calls Tryz.prog 89 #[.slice S.wa S.waste.length S.wc] w' fun e w'' => e = .returned (.int .i64 (loadsM S.waste)) ∧ Below w'.heap.size w' w'' := fun w' h => loadsOf_any n _ _ _ _ ((HST.out.below (HB.out.trans (h.mono HB.out.size))).waste) HWK.out hwl
  have hstep : ∀ w', Below w1.heap.size w1 w' → Below w1.heap.size w1 w' ∧ (w'.cell? ⟨w.heap.size, 4, none⟩ = some (.slice S.ua S.used.length S.uc) ∧ w'.cell? ⟨w.heap.size, 5, none⟩ = some (.slice S.wa S.waste.length S.wc)) := fun w' h => ⟨h, (h.cell (p := ⟨w.heap.size, 4, none⟩) lB).trans d4, (h.cell (p := ⟨w.heap.size, 5, none⟩) lB).trans d5⟩
  have HC1 := Lib.hid hc1
  have HC2 := Lib.hid hc2
  have HSTEP := Lib.hid hstep
  have hu1 : loadsM S.used ≤ 100000000 := by omega
  have hu2 : loadsM S.waste ≤ 100000000 := by omega
  obtain ⟨hu3, _⟩ := hub
  obtain ⟨hu4, _⟩ := hwb
  clear hc1 hc2 hstep d4 d5 kB hB
  generalize hgu : loadsM S.used = U at *
  generalize hgw : loadsM S.waste = Z at *
  have hwr : IntKind.i64.wrap (U + Z) = U + Z := IntWalk.i64_in _ (by omega)
  go_cut [3] from 6 to 13 (fun s3 wx => s3 = .int .i64 (U + Z) ∧ Below w1.heap.size w1 wx)
  case first =>
    go_region_held3 (fun w' => Below w1.heap.size w1 w' ∧ (w'.cell? ⟨w.heap.size, 4, none⟩ = some (.slice S.ua S.used.length S.uc) ∧ w'.cell? ⟨w.heap.size, 5, none⟩ = some (.slice S.wa S.waste.length S.wc)))
      ((refine HSTEP.out _ ?_; repeat (first | (with_reducible exact Below.refl _ _) | (with_reducible refine bel_drew ?_) | (with_reducible refine bel_call ?_ hb5) | (with_reducible exact And.left (by with_reducible assumption)))))
      (first
        | (go_at_call 89; (with_reducible refine (HC1.out _ (And.left (by with_reducible assumption))).mono ?_); rintro r w3 ⟨rfl, hb5⟩)
        | (go_at_call 89; (with_reducible refine (HC2.out _ (And.left (by with_reducible assumption))).mono ?_); rintro r w3 ⟨rfl, hb5⟩))
    all_goals
      go_wp2_with fail
      go_meet
      exact ⟨rfl, And.left (by with_reducible assumption)⟩
  case rest =>
  obtain ⟨rfl, hcx⟩ := hcut
  have HB2 := Lib.hid (HB.out.trans (hcx.mono HB.out.size))
  have KB2 := Lib.hid (KB.out.belowS hcx)
  clear hcx lB
  obtain ⟨w2, rfl⟩ : ∃ w2 : World, w2 = wc := ⟨_, rfl⟩
  have d3 : w2.cell? ⟨w.heap.size, 3, none⟩ = some (.slice sha S.heaps.length S.hc) := KB2.out.cell 3
  have lB := KB2.out.lt
  go_wp2_with fail
  clear d3 lB
  go_loopw [16, 3] (fun k s wr => ∃ (j : Nat) (v : Int), j ≤ S.heaps.length ∧ k = .int .i64 j ∧ s = .int .i64 v ∧ v = U + Z + heapsM (S.heaps.take j) ∧ Below w2.heap.size w2 wr) (fun k _ _ => S.heaps.length - (intOf k).toNat)
  case atStart => exact ⟨0, _, Nat.zero_le _, rfl, rfl, by simp [heapsM], Below.refl _ _⟩
  case round =>
    obtain ⟨j, v, hj, rfl, rfl, hv, hb⟩ := hrel
    have HV := Lib.hid hv
    have HB3 := Lib.hid (HB2.out.trans (hb.mono HB2.out.size))
    by_cases hlj : j < S.heaps.length
    · have hq : S.heaps[j]? = some S.heaps[j] := List.getElem?_eq_getElem hlj
      have hbd := heapsM_bd (ok_takeH HHK.out j) (len_takeH HHP.out j)
      rw [take_len_of hj] at hbd
      have hsn : U + Z + heapsM (S.heaps.take (j + 1)) = v + loadsM S.heaps[j].parts := by rw [take_snoc' hq, heapsM_append, hv]; simp only [heapsM]; omega
      have hob := loadsM_bd (HHK.out _ (List.getElem_mem hlj))
      have hpl := HHP.out _ (List.getElem_mem hlj)
      have hok := HHK.out _ (List.getElem_mem hlj)
      obtain ⟨b, off, hea, hblt, hcap, hcx, ⟨c0, c1, c2, c3, c4, c5, c6⟩, hpp, _⟩ := (HS.out.belowS HB3.out).at hq
      subst hea
      generalize S.heaps[j] = h at *
      obtain ⟨y1, y2⟩ := hob
      obtain ⟨y3, y4⟩ := hbd
      have y5 : 0 ≤ v := by omega
      have y6 : v ≤ 1000000000000 := by omega
      have HSN := Lib.hid hsn
      have HOK := Lib.hid hok
      have hj0 : (0 : Int) ≤ (j : Int) := Int.natCast_nonneg _
      have hj1 : (j : Int) < (S.heaps.length : Int) := by omega
      have kH := Blk.new wr 53 #[.string h.name, .int .i64 h.crop, .int .i64 h.stage, .slice h.pa h.parts.length h.pc, .int .i64 h.per, .int .i64 h.wlo, .int .i64 h.whi]
      have hb1 : Below wr.heap.size wr (wr.alloc (.cells #[.string h.name, .int .i64 h.crop, .int .i64 h.stage, .slice h.pa h.parts.length h.pc, .int .i64 h.per, .int .i64 h.wlo, .int .i64 h.whi] 53)) := (Below.refl _ wr).alloc (Nat.le_refl _) _
      have HPP := Lib.hid (hpp.belowS hb1)
      clear hq hsn hv hok hpp y3 y4
      go_upto_region 5 with fail
      generalize wr.alloc (.cells #[.string h.name, .int .i64 h.crop, .int .i64 h.stage, .slice h.pa h.parts.length h.pc, .int .i64 h.per, .int .i64 h.wlo, .int .i64 h.whi] 53) = w4 at *
      have e3 : w4.cell? ⟨wr.heap.size, 3, none⟩ = some (.slice h.pa h.parts.length h.pc) := kH.cell 3
      have lH := kH.lt
      have HB4 := Lib.hid (hb.trans (hb1.mono hb.size))
      clear c0 c1 c2 c3 c4 c5 c6 hb1 hb hblt kH
      go_wp2_with fail
      refine (loadsOf_any n h.pa h.pc h.parts _ HPP.out HOK.out hpl).mono ?_
      rintro e w5 ⟨rfl, hb5⟩
      go_wp2_with fail
      exact ⟨⟨j + 1, v + loadsM h.parts, by omega, by simp, rfl, HSN.out.symm, HB4.out.trans (hb5.mono HB4.out.size)⟩, by simp [intOf]; omega⟩
    · obtain rfl : j = S.heaps.length := by omega
      rw [List.take_length] at hv
      go_wp2_with fail
      go_ret
      exact ⟨by rw [hv, hgu, hgw]; rfl, HB3.out⟩

end Go.Proofs.YtfhalmlpnoepcaaGreat
