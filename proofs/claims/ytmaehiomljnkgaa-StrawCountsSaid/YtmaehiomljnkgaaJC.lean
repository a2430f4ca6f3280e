/- A bundle (thatchref02). -/
import Derived.Test.YtmaehiomljnkgaaJB
import Derived.Test.YtmaehiomljnkgaaJA
namespace Go.Proofs.Ytmaehiomljnkgaa
open Go.RowKit

theorem bunM_none {F : Frm} {S : Sto} {nm : ByteArray} {k : Int} (h : storeE F S = 0) (h2 : S.heaps.find? (fun h => strB h.name nm) = none) : bunM F S nm k = (7, []) := by
  unfold bunM
  rw [if_pos h, h2]
theorem bunM_some {F : Frm} {S : Sto} {nm : ByteArray} {k : Int} {x : Hep} (h : storeE F S = 0) (h2 : S.heaps.find? (fun h => strB h.name nm) = some x) :
    bunM F S nm k = (if x.stage = 3 then (if isFromB k 0 (loadsM x.parts / x.per - 1) = true then (0, cutT x.per (cutR (k * x.per) x.parts)) else (1, [])) else (8, [])) := by
  unfold bunM
  rw [if_pos h, h2]

set_option maxRecDepth 100000 in
set_option maxHeartbeats 4000000 in
theorem refBundle_any (F : Frm) (S : Sto) (nm : ByteArray) (k : Int) (w : World) (hF : IsFarm w F) (hS : IsStore w S) (hfit : S.fit) :
    Calls Try.prog 11 #[.agg #[.slice F.pa F.ps.length F.pc, .int .i64 F.dry], stoV S, .string nm, .int .i64 k] w (BunSaid F S nm k w) := by
  have hcs := refCheckStore_any F S
  have hhl := hS.heaps.len
  have hat := fun w => refAt_any S nm w
  unfold stoV at hcs hat ⊢
  have HF := Lib.hid hF
  have HS := Lib.hid hS
  have hsh := hS.heaps
  generalize hgb : S.ha = sha at *
  have HSH := Lib.hid hsh
  have HCS := Lib.hid hcs
  have HAT := Lib.hid hat
  clear hF hS hsh hgb hcs hat
  have kB := (Blk.new w 24 (frmC F)).alloc (.cells #[.int .i64 S.year, .slice S.la S.last.length S.lc, .slice S.ga S.given.length S.gc, .slice sha S.heaps.length S.hc, .slice S.ua S.used.length S.uc, .slice S.wa S.waste.length S.wc] 29)
  have kD := Blk.new (w.alloc (.cells (frmC F) 24)) 29 #[.int .i64 S.year, .slice S.la S.last.length S.lc, .slice S.ga S.given.length S.gc, .slice sha S.heaps.length S.hc, .slice S.ua S.used.length S.uc, .slice S.wa S.waste.length S.wc]
  have hB : Below w.heap.size w ((w.alloc (.cells (frmC F) 24)).alloc (.cells #[.int .i64 S.year, .slice S.la S.last.length S.lc, .slice S.ga S.given.length S.gc, .slice sha S.heaps.length S.hc, .slice S.ua S.used.length S.uc, .slice S.wa S.waste.length S.wc] 29)) := ((Below.refl _ w).alloc (by simp) _).alloc (by simp) _
  simp only [World.size_alloc] at kD
  unfold frmC at kB kD hB
  go_enter Try.func11, Try.ntmps11
  go_upto_region 1 with fail
  generalize ((w.alloc (.cells #[.slice F.pa F.ps.length F.pc, .int .i64 F.dry] 24)).alloc (.cells #[.int .i64 S.year, .slice S.la S.last.length S.lc, .slice S.ga S.given.length S.gc, .slice sha S.heaps.length S.hc, .slice S.ua S.used.length S.uc, .slice S.wa S.waste.length S.wc] 29)) = w1 at *
  have lF0 := kB.lt
  have lS0 := kD.lt
  obtain ⟨f0, f1⟩ := frm_cells kB
  have d0 := kD.cell 0
  have d1 := kD.cell 1
  have d2 := kD.cell 2
  have d3 := kD.cell 3
  have d4 := kD.cell 4
  have d5 := kD.cell 5
  have HB0 := Lib.hid hB
  have KD0 := Lib.hid kD
  clear kB kD hB
  go_wp2_with fail
  refine (HCS.out _ (HF.out.below HB0.out) (HS.out.below HB0.out) hfit).mono ?_
  rintro e w2 ⟨rfl, hb⟩
  have HB1 := Lib.hid (HB0.out.trans (hb.mono HB0.out.size))
  have KD1 := Lib.hid (KD0.out.belowS hb)
  clear d0 d1 d2 d3 d4 d5 f0 f1 lF0 lS0 hb
  obtain ⟨v2, rfl⟩ : ∃ v2 : World, v2 = w2 := ⟨_, rfl⟩
  by_cases hE : storeE F S = 0
  · obtain ⟨hn, hgl, hup, hwp, hhp⟩ := store_ok hE
    clear hgl hup hwp
    have HE := Lib.hid hE
    have HH := Lib.hid hhp
    have HFI := Lib.hid hfit
    have z1 : ((0 : Int) == 0) = true := rfl
    rw [hE]
    clear hE hhp hfit
    have lS1 := KD1.out.lt
    have d0 := KD1.out.cell 0
    have d1 := KD1.out.cell 1
    have d2 := KD1.out.cell 2
    have d3 := KD1.out.cell 3
    have d4 := KD1.out.cell 4
    have d5 := KD1.out.cell 5
    go_wp2_with fail
    refine (HAT.out _ (HSH.out.belowS HB1.out)).mono ?_
    rintro e w3 ⟨rfl, hb⟩
    have HB2 := Lib.hid (HB1.out.trans (hb.mono HB1.out.size))
    have KD2 := Lib.hid (KD1.out.belowS hb)
    clear lS1 d0 d1 d2 d3 d4 d5 hb
    rcases idxH_cases nm S.heaps with ⟨h1, h2⟩ | ⟨j, h, h1, h2, h3⟩
    · have HV := Lib.hid (bunM_none (k := k) HE.out h2)
      rw [h1]
      clear h1 h2
      go_wp2_with fail
      exact bodyPost_ret (v := .tuple #[.slice none 0 0, .int .i64 7]) (by simp [results, Try.results11, go_sem]) rfl (BunSaid.nil HV.out HB2.out)
    · have hbm : bunM F S nm k = (if h.stage = 3 then (if isFromB k 0 (loadsM h.parts / h.per - 1) = true then (0, cutT h.per (cutR (k * h.per) h.parts)) else (1, [])) else (8, [])) := bunM_some HE.out h3
      have HBH := Lib.hid hbm
      have hjl : j < S.heaps.length := (List.getElem?_eq_some_iff.1 h2).1
      have hmem := List.mem_of_getElem? h2
      have HHB := Lib.hid (HH.out h hmem)
      have hpl := HFI.out.parts h hmem
      rw [h1]
      obtain ⟨b, off, hea, hblt, hcap, hcx, ⟨c0, c1, c2, c3, c4, c5, c6⟩, hpp, _⟩ := (HSH.out.belowS HB2.out).at h2
      subst hea
      have HPP := Lib.hid hpp
      have hj0 : (0 : Int) ≤ (j : Int) := Int.natCast_nonneg _
      have hj1 : (j : Int) < (S.heaps.length : Int) := by omega
      have lS2 := KD2.out.lt
      have d3 : w3.cell? ⟨w.heap.size + 1, 3, none⟩ = some (.slice (some ⟨b, off, none⟩) S.heaps.length S.hc) := KD2.out.cell 3
      have kH := Blk.new w3 57 #[.string h.name, .int .i64 h.crop, .int .i64 h.stage, .slice h.pa h.parts.length h.pc, .int .i64 h.per, .int .i64 h.wlo, .int .i64 h.whi]
      have hb1 : Below w3.heap.size w3 (w3.alloc (.cells #[.string h.name, .int .i64 h.crop, .int .i64 h.stage, .slice h.pa h.parts.length h.pc, .int .i64 h.per, .int .i64 h.wlo, .int .i64 h.whi] 57)) := (Below.refl _ w3).alloc (Nat.le_refl _) _
      clear h1 h2 h3 hbm hmem hpp HH
      go_upto_region 8 with fail
      generalize w3.alloc (.cells #[.string h.name, .int .i64 h.crop, .int .i64 h.stage, .slice h.pa h.parts.length h.pc, .int .i64 h.per, .int .i64 h.wlo, .int .i64 h.whi] 57) = w4 at *
      have HB4 := Lib.hid (HB2.out.trans (hb1.mono HB2.out.size))
      have KH := Lib.hid kH
      have HPH := Lib.hid (HPP.out.belowS hb1)
      clear c0 c1 c2 c3 c4 c5 c6 d3 lS2 hb1 kH hblt
      have lH := KH.out.lt
      obtain ⟨e0, e1, e2, e3, e4, e5, e6⟩ := hep_cells KH.out
      by_cases h8 : h.stage = 3
      · have hpok := heapB_parts HHB.out
        have hbd := loadsM_bd hpok
        have hcond := HHB.out
        simp only [heapB, Bool.and_eq_true, if_pos h8] at hcond
        obtain ⟨_, _, _, _, _, hpb, _, hper, _⟩ := hcond
        have hper2 := isFromB_iff.1 hper
        obtain ⟨hp1, hp2⟩ := hper2
        have hv1 : loadsM h.parts ≤ 100000000 := by omega
        obtain ⟨htd, ⟨hq0, hq1⟩, hkk⟩ := bun_nums (k := k) hbd.1 hv1 ⟨hp1, hp2⟩
        have HOK := Lib.hid hpok
        have HAP := Lib.hid (partsB_ap hpb)
        have q8 : (h.stage == 3) = true := by simp [h8]
        have q8' : (h.stage != 3) = false := by simp [h8]
        have hbm2 : bunM F S nm k = (if isFromB k 0 (loadsM h.parts / h.per - 1) = true then (0, cutT h.per (cutR (k * h.per) h.parts)) else (1, [])) := by rw [HBH.out, if_pos h8]
        have HB3 := Lib.hid hbm2
        have HKK := Lib.hid hkk
        have hp0 : ¬ h.per = 0 := by omega
        have hp0' : (h.per == 0) = false := by simp [hp0]
        obtain ⟨hv0, _⟩ := hbd
        have hlo : ∀ n, Calls Try.prog 30 #[.slice h.pa h.parts.length h.pc] (w4.drewN n) fun e w' => e = .returned (.int .i64 (loadsM h.parts)) ∧ w' = w4.drewN n := fun n => (refLoads_any F.ps.length h.pa h.pc h.parts _ (HPH.out.belowS (below_drewN' _ _ _)) HOK.out hpl).mono fun _ _ ⟨a, b⟩ => ⟨a, b.symm⟩
        clear h8 hbm2 hkk hpok hpb hper
        go_upto_region 10 with fail
        generalize hgq : loadsM h.parts / h.per = q at *
        generalize hgv : loadsM h.parts = v at *
        have HLO := Lib.hid hlo
        have hwq : IntKind.i64.wrap q = q := IntWalk.i64_in _ (by omega)
        have hwq1 : IntKind.i64.wrap (q - 1) = q - 1 := IntWalk.i64_in _ (by omega)
        clear hgq hgv hlo
        cases h9 : isFromB k 0 (q - 1) with
        | false =>
          have HV := Lib.hid (show bunM F S nm k = (1, []) by rw [HB3.out, if_neg (by rw [h9]; simp)])
          have H9 := Lib.hid h9
          clear h9
          go_quiet (first | (go_at_call 29; with_reducible refine Calls.quiet_of_same (refIn_is H9.out _)) | (go_at_call 30; refine Calls.quiet_of_same (HLO.out _)))
          go_wp2_with fail
          exact bodyPost_ret (v := .tuple #[.slice none 0 0, .int .i64 1]) (by simp [results, Try.results11, go_sem]) rfl (BunSaid.nil HV.out (HB4.out.trans (below_drewN' _ _ _)))
        | true =>
          have HV := Lib.hid (show bunM F S nm k = (0, cutT h.per (cutR (k * h.per) h.parts)) by rw [HB3.out, if_pos h9])
          obtain ⟨hk0, hk1, hk2⟩ := HKK.out h9
          have hwk : IntKind.i64.wrap (k * h.per) = k * h.per := IntWalk.i64_in _ (by omega)
          have H9 := Lib.hid h9
          clear h9
          have hok1 : ∀ p ∈ cutR (k * h.per) h.parts, p.ok F.ps.length := cutR_ok HOK.out hk1
          have hl1 := cutR_len h.parts (k * h.per)
          have HOK1 := Lib.hid hok1
          go_quiet (first | (go_at_call 29; with_reducible refine Calls.quiet_of_same (refIn_is H9.out _)) | (go_at_call 30; refine Calls.quiet_of_same (HLO.out _)))
          generalize hnq : w4.drewN _ = w5 at *
          have hb5 : Below w4.heap.size w4 w5 := by rw [← hnq]; exact below_drewN' _ _ _
          have KH5 := Lib.hid (KH.out.belowS hb5)
          have HB5 := Lib.hid (HB4.out.trans (hb5.mono HB4.out.size))
          have HP5 := Lib.hid (HPH.out.belowS hb5)
          have lH5 := KH5.out.lt
          clear e0 e1 e2 e3 e4 e5 e6 hb5 hnq
          obtain ⟨e0, e1, e2, e3, e4, e5, e6⟩ := hep_cells KH5.out
          go_wp2_with fail
          refine (refCut_any h.pa h.pc h.parts (k * h.per) _ HP5.out (fun p hp => (HOK.out p hp).2) hpl hk1 (by omega)).mono ?_
          rintro e w6 ⟨⟨a1, c1, a2, c2, rfl, hA, hB⟩, hb6⟩
          have KH6 := Lib.hid (KH5.out.belowS hb6)
          have HB6 := Lib.hid (HB5.out.trans (hb6.mono HB5.out.size))
          have HP6 := Lib.hid hB
          have lH6 := KH6.out.lt
          clear e0 e1 e2 e3 e4 e5 e6 hb6 hA hB lH5
          generalize hg1 : cutT (k * h.per) h.parts = T1 at *
          generalize hg2 : cutR (k * h.per) h.parts = R1 at *
          clear hg1 hg2
          obtain ⟨e0, e1, e2, e3, e4, e5, e6⟩ := hep_cells KH6.out
          go_wp2_with fail
          refine (refCut_any a2 c2 R1 h.per _ HP6.out (fun p hp => (HOK1.out p hp).2) (by omega) (by omega) (by omega)).mono ?_
          rintro e w7 ⟨⟨a3, c3, a4, c4, rfl, hA, hB⟩, hb7⟩
          have HP7 := Lib.hid hA
          have HB7 := Lib.hid (HB6.out.trans (hb7.mono HB6.out.size))
          clear hA hB hb7
          go_wp2_with fail
          exact bodyPost_ret (v := .tuple #[.slice a3 (cutT h.per R1).length c3, .int .i64 0]) (by simp [results, Try.results11, go_sem]) rfl ⟨⟨a3, c3, by rw [HV.out], by rw [HV.out]; exact HP7.out⟩, HB7.out⟩
      · have HV := Lib.hid (show bunM F S nm k = (8, []) by rw [HBH.out, if_neg h8])
        have q8 : (h.stage == 3) = false := by simp [h8]
        have q8' : (h.stage != 3) = true := by simp [h8]
        clear h8
        go_wp2_with fail
        exact bodyPost_ret (v := .tuple #[.slice none 0 0, .int .i64 8]) (by simp [results, Try.results11, go_sem]) rfl (BunSaid.nil HV.out HB4.out)
  · have HE := Lib.hid hE
    have HV := Lib.hid (show bunM F S nm k = (storeE F S, []) by rw [bunM, if_neg hE])
    have hne : (storeE F S == 0) = false := by simpa using hE
    generalize hg : storeE F S = v at *
    go_wp2_with fail
    exact bodyPost_ret (v := .tuple #[.slice none 0 0, .int .i64 v]) (by simp [results, Try.results11, go_sem]) rfl (BunSaid.nil (by have := HV.out; first | exact this | (rw [hg] at this; exact this)) HB1.out)

end Go.Proofs.Ytmaehiomljnkgaa
