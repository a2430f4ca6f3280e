/- thatchref06.Even. No condition but the bounds of what is given. -/
import Derived.Test.YtmcmhgjlpffcnaaRI
set_option linter.unusedSimpArgs false
namespace Go.Proofs.Ytmcmhgjlpffcnaa
open Go.RowKit

set_option maxRecDepth 100000 in
set_option maxHeartbeats 16000000 in
theorem refEven_any (R : Rdg) (w : World) (hR : IsRdg w R) (hbig : R.ps.length ≤ 1000000000) :
    Calls Try.prog 25 #[.agg #[.int .i64 R.len, .int .i64 R.st, .int .i64 R.en, .slice R.pa R.ps.length R.pc]] w fun e w' => e = .returned (.tuple #[.int .i64 (endI (waysE R) (evenN R : Int)), .int .i64 (waysE R)]) ∧ Below w.heap.size w w' := by
  have k1 := Blk.new w 24 #[.int .i64 R.len, .int .i64 R.st, .int .i64 R.en, .slice R.pa R.ps.length R.pc]
  have hb1 : Below w.heap.size w (w.alloc (.cells #[.int .i64 R.len, .int .i64 R.st, .int .i64 R.en, .slice R.pa R.ps.length R.pc] 24)) := (Below.refl _ w).alloc (Nat.le_refl _) _
  have HR := Lib.hid hR
  clear hR
  go_enter Try.func25, Try.ntmps25
  go_upto_region 1 with fail
  generalize w.alloc (.cells #[.int .i64 R.len, .int .i64 R.st, .int .i64 R.en, .slice R.pa R.ps.length R.pc] 24) = w1 at *
  have K1 := Lib.hid k1
  have HB1 := Lib.hid hb1
  obtain ⟨r0, r1, r2, r3⟩ := rdg_cells (R := R) k1
  have hlr := k1.lt
  clear k1 hb1
  go_wp2_with fail
  refine (refCounted_any R _ (HR.out.belowS HB1.out) hbig).mono ?_
  rintro e w2 ⟨h, hb2⟩
  have K2 := Lib.hid (K1.out.belowS hb2)
  have HB2 := Lib.hid (HB1.out.trans (hb2.mono HB1.out.size))
  clear r0 r1 r2 r3 hlr hb2
  obtain ⟨r0, r1, r2, r3⟩ := rdg_cells (R := R) K2.out
  have hlr := K2.out.lt
  rcases h with ⟨hE, Bt, rfl, -, -⟩ | ⟨hE, rfl⟩
  rotate_left
  · have HE := Lib.hid hE
    have q : (waysE R != 0) = true := by simpa using hE
    have hv : endI (waysE R) (evenN R : Int) = 0 := by unfold endI; rw [if_neg hE]
    have HV := Lib.hid hv
    obtain ⟨eR, hRR⟩ : ∃ eR, waysE R = eR := ⟨_, rfl⟩
    have HRR := Lib.hid hRR
    rw [hRR] at q ⊢
    clear hE hv hRR
    go_wp2_with fail
    exact bodyPost_ret (v := .tuple #[.int .i64 0, .int .i64 eR]) (by simp [results, Try.results25, go_sem]) rfl ⟨by rw [HV.out, HRR.out], HB2.out⟩
  have hro := rdgE_ridge (waysE_zero hE).1
  have HEE := Lib.hid hE
  have HRO := Lib.hid hro
  have HROW := Lib.hid HR.out.row
  have HTS := Lib.hid (show R.len = (R.top.n : Int) by have := hro.1; simp only [Rdg.top]; omega)
  have htn := hro.top.1
  have hps10 := hro.2.2.2.1
  clear hE hro
  by_cases hs : R.st = R.en
  rotate_left
  · have q : (R.st != R.en) = true := by simpa using hs
    have HV := Lib.hid (show evenN R = 0 by unfold evenN; rw [if_neg hs])
    clear hs
    go_wp2_with fail
    exact bodyPost_ret (v := .tuple #[.int .i64 0, .int .i64 0]) (by simp [results, Try.results25, go_sem]) rfl ⟨by rw [HEE.out, HV.out]; rfl, HB2.out⟩
  have q : (R.st != R.en) = false := by simpa using hs
  have HS := Lib.hid hs
  have HV := Lib.hid (show evenN R = sumTo (midN R) 10 + sumTo (sideN R) R.ps.length by unfold evenN; rw [if_pos hs])
  have HMI := Lib.hid (show ∀ p, midN R p ≤ MW from mid_le HEE.out hs)
  have HSI := Lib.hid (show ∀ i, sideN R i ≤ MW from sideN_le HEE.out hs)
  clear hs
  go_upto_region 3 with fail
  go_loopw [6, 7] (fun s6 s7 wv => ∃ p : Nat, p ≤ 10 ∧ s7 = .int .i64 p ∧ s6 = .int .i64 (sumTo (midN R) p : Nat) ∧ Blk wv w.heap.size #[.int .i64 R.len, .int .i64 R.st, .int .i64 R.en, .slice R.pa R.ps.length R.pc] 24 ∧ Below w.heap.size w wv) (fun _ s7 _ => 10 - (intOf s7).toNat)
  case atStart => exact ⟨0, Nat.zero_le _, rfl, rfl, K2.out, HB2.out⟩
  case round =>
    obtain ⟨p, hp, rfl, rfl, hk, hb⟩ := hrel
    have HKA := Lib.hid hk
    have HBA := Lib.hid hb
    obtain ⟨wp, rfl⟩ : ∃ wp : World, wp = wr := ⟨_, rfl⟩
    clear r0 r1 r2 r3 hlr
    obtain ⟨r0, r1, r2, r3⟩ := rdg_cells (R := R) hk
    have hlr := hk.lt
    have em := tmod_two R.top.n
    have em' : R.len.tmod 2 = ((R.top.n % 2 : Nat) : Int) := by rw [HTS.out]; exact em
    have hp0 : (0 : Int) ≤ (p : Int) := Int.natCast_nonneg _
    obtain ⟨bb, hbb⟩ : ∃ bb : Bool, decide (p < 10 ∧ R.top.n % 2 = 0) = bb := ⟨_, rfl⟩
    have HBB := Lib.hid hbb
    clear hbb em
    go_upto_region 6 with fail
    go_cut [32] from 25 to 33 (fun s32 wz => s32 = .bool bb ∧ wz = wp)
    case first =>
      by_cases hp10 : p < 10
      · have hpi : (p : Int) ≤ 9 := by omega
        by_cases h2 : R.top.n % 2 = 0
        · have HG := Lib.hid (show bb = true by rw [← HBB.out]; exact decide_eq_true ⟨hp10, h2⟩)
          rw [h2] at em'
          clear h2 hp10
          go_wp2_with fail
          go_meet
          exact ⟨by rw [HG.out], rfl⟩
        · have h21 : R.top.n % 2 = 1 := by omega
          have HG := Lib.hid (show bb = false by rw [← HBB.out]; exact decide_eq_false (fun h => h2 h.2))
          rw [h21] at em'
          clear h2 h21 hp10
          go_wp2_with fail
          go_meet
          exact ⟨by rw [HG.out], rfl⟩
      · have hpi : ¬ (p : Int) ≤ 9 := by omega
        have HG := Lib.hid (show bb = false by rw [← HBB.out]; exact decide_eq_false (fun h => hp10 h.1))
        clear hp10
        go_wp2_with fail
        go_meet
        exact ⟨by rw [HG.out], rfl⟩
    case rest =>
    obtain ⟨rfl, hwz⟩ := hcut
    obtain ⟨wp, rfl⟩ : ∃ w0 : World, w0 = wc := ⟨_, rfl⟩
    subst hwz
    cases bb with
    | false =>
      have HS0 := Lib.hid (show sumTo (midN R) p = sumTo (midN R) 10 by
        have h1 := of_decide_eq_false HBB.out
        by_cases h2 : R.top.n % 2 = 0
        · rw [show p = 10 by omega]
        · rw [mid_odd h2 p, mid_odd h2 10])
      obtain ⟨S0, hS0⟩ : ∃ S0 : Nat, sumTo (midN R) p = S0 := ⟨_, rfl⟩
      rw [hS0] at HS0 ⊢
      have hS0M : S0 ≤ MW * 10 := by rw [HS0.out]; exact sumTo_le HMI.out 10
      have hi' : True := trivial
      clear hk hb hS0 em'
      go_wp2_with fail
      go_loopw [6, 8] (fun s6 s8 wv => ∃ i : Nat, i ≤ R.ps.length ∧ s8 = .int .i64 i ∧ s6 = .int .i64 ((S0 + sumTo (sideN R) i : Nat) : Int) ∧ Blk wv w.heap.size #[.int .i64 R.len, .int .i64 R.st, .int .i64 R.en, .slice R.pa R.ps.length R.pc] 24 ∧ Below w.heap.size w wv) (fun _ s8 _ => R.ps.length - (intOf s8).toNat)
      case atStart => exact ⟨0, Nat.zero_le _, rfl, rfl, HKA.out, HBA.out⟩
      case round =>
        clear r0 r1 r2 r3 hlr
        obtain ⟨i, hi, rfl, rfl, hk, hb⟩ := hrel
        have HK := Lib.hid hk
        have HB := Lib.hid hb
        obtain ⟨wo, rfl⟩ : ∃ wo : World, wo = wr := ⟨_, rfl⟩
        have hi0 : (0 : Int) ≤ (i : Int) := Int.natCast_nonneg _
        have hsle := sumTo_le HSI.out i
        have hsl2 : MW * i ≤ MW * 10 := Nat.mul_le_mul_left _ (by omega)
        obtain ⟨r0, r1, r2, r3⟩ := rdg_cells (R := R) hk
        have hlr := hk.lt
        by_cases hil : i < R.ps.length
        rotate_left
        · obtain rfl : i = R.ps.length := by omega
          have hjj : ¬ (R.ps.length : Int) < (R.ps.length : Int) := by omega
          have HFI := Lib.hid (show S0 + sumTo (sideN R) R.ps.length = evenN R by rw [HV.out, HS0.out])
          rw [HFI.out]
          clear hk hb hil hi hsle hsl2
          go_wp2_with fail
          exact bodyPost_ret (v := .tuple #[.int .i64 (evenN R : Int), .int .i64 0]) (by simp [results, Try.results25, go_sem]) rfl ⟨by rw [HEE.out]; rfl, HB.out⟩
        have hq : R.ps[i]? = some R.ps[i] := List.getElem?_eq_getElem hil
        obtain ⟨b, off, e, hbl, hc1, hc2, hp⟩ := (HROW.out.belowS hb).at hq
        have hxo := HRO.out.2.2.2.2 _ (List.mem_of_getElem? hq)
        have hsn : sideN R i = if sideC R i R.ps[i] then wy R.ps R.ps[i].lf.toNat ⟨(R.top.n - R.ps[i].wd.toNat) / 2, R.top.p⟩ else 0 := by unfold sideN; rw [hq]
        generalize R.ps[i] = x at *
        obtain ⟨p0, p1, p2, p3, p4⟩ := hp
        have HQ := Lib.hid hq
        have HSN := Lib.hid hsn
        obtain ⟨⟨w1', w2'⟩, ⟨l1', l2'⟩, -⟩ := hxo
        have hi1 : (i : Int) < (R.ps.length : Int) := by omega
        obtain ⟨q0, hq'⟩ : ∃ q0, S0 + sumTo (sideN R) i = q0 := ⟨_, rfl⟩
        have hqM : q0 ≤ MW * 20 := by omega
        have HQQ := Lib.hid (show S0 + sumTo (sideN R) (i + 1) = q0 + sideN R i by rw [sumTo, ← Nat.add_assoc, hq'])
        rw [hq']
        have HE := Lib.hid e
        rw [e] at r3
        clear hk hb hq hsn e hq' hsle hsl2 hi'
        go_upto_region 13 with fail
        have kX := Blk.new wo 54 #[.string x.name, .int .i64 x.wd, .int .i64 x.lf, .int .i64 x.rt, .int .i64 x.mr]
        have hbx : Below wo.heap.size wo (wo.alloc (.cells #[.string x.name, .int .i64 x.wd, .int .i64 x.lf, .int .i64 x.rt, .int .i64 x.mr] 54)) := (Below.refl _ _).alloc (Nat.le_refl _) _
        obtain ⟨Bx, hBx⟩ : ∃ Bx, wo.heap.size = Bx := ⟨_, rfl⟩
        have HKX := Lib.hid (HK.out.belowS hbx)
        have HBX := Lib.hid (HB.out.trans (hbx.mono HB.out.size))
        clear r0 r1 r2 r3 hlr p0 p1 p2 p3 p4 hbl
        rw [hBx] at kX ⊢
        generalize wo.alloc (.cells #[.string x.name, .int .i64 x.wd, .int .i64 x.lf, .int .i64 x.rt, .int .i64 x.mr] 54) = wx at *
        obtain ⟨r0, r1, r2, r3⟩ := rdg_cells (R := R) HKX.out
        have hlr := HKX.out.lt
        obtain ⟨x0, x1, x2, x3, x4⟩ := pce_cells (x := x) kX
        have lX := kX.lt
        clear kX hbx hBx
        have hlen0 : (0 : Int) ≤ R.len ∧ R.len ≤ 2000 := HRO.out.1
        obtain ⟨hlen1, hlen2⟩ := hlen0
        obtain ⟨cc, hcc⟩ : ∃ cc : Bool, decide (sideC R i x) = cc := ⟨_, rfl⟩
        have HCC := Lib.hid hcc
        clear hcc
        go_cut [74] from 55 to 75 (fun s74 wz => s74 = .bool cc ∧ wz = wx)
        case first =>
          by_cases t1 : x.mr = (i : Int)
          rotate_left
          · have z : (x.mr == (i : Int)) = false := by simpa using t1
            have HF := Lib.hid (show cc = false by rw [← HCC.out]; exact decide_eq_false (fun h => t1 h.1))
            clear t1
            go_wp2_with fail
            go_meet
            exact ⟨by rw [HF.out], rfl⟩
          have T1 := Lib.hid t1
          have z1 : (x.mr == (i : Int)) = true := by simpa using t1
          clear t1
          by_cases t2 : x.wd ≤ R.len
          rotate_left
          · have HF := Lib.hid (show cc = false by rw [← HCC.out]; exact decide_eq_false (fun h => t2 h.2.1))
            go_wp2_with fail
            go_meet
            exact ⟨by rw [HF.out], rfl⟩
          obtain ⟨d, hd⟩ : ∃ d : Nat, R.len - x.wd = (d : Int) := ⟨(R.len - x.wd).toNat, by omega⟩
          have esb : IntKind.i64.wrap (R.len - x.wd) = (d : Int) := by rw [IntKind.wrap_i64]; omega
          have em3 := tmod_two d
          have hdd : R.top.n - x.wd.toNat = d := by have := HTS.out; omega
          have HF := Lib.hid (show cc = decide (d % 2 = 0) by rw [← HCC.out]; refine decide_eq_decide.2 ?_; unfold sideC; rw [hdd]; exact ⟨fun h => h.2.2, fun h => ⟨T1.out, t2, h⟩⟩)
          clear hd hdd
          by_cases t3 : d % 2 = 0
          · have HG := Lib.hid (show cc = true by rw [HF.out, t3]; rfl)
            rw [t3] at em3
            go_wp2_with fail
            go_meet
            exact ⟨by rw [HG.out], rfl⟩
          · have t31 : d % 2 = 1 := by omega
            have HG := Lib.hid (show cc = false by rw [HF.out, t31]; rfl)
            rw [t31] at em3
            go_wp2_with fail
            go_meet
            exact ⟨by rw [HG.out], rfl⟩
        case rest =>
          obtain ⟨rfl, rfl⟩ := hcut
          cases cc with
          | false =>
            have HF := Lib.hid (show S0 + sumTo (sideN R) (i + 1) = q0 by rw [HQQ.out, HSN.out, if_neg (of_decide_eq_false HCC.out)]; rfl)
            go_wp2_with fail
            exact ⟨⟨i + 1, by omega, by simp, by rw [HF.out], HKX.out, HBX.out⟩, by simp [intOf]; omega⟩
          | true =>
            have hc : sideC R i x := of_decide_eq_true HCC.out
            have hb2 := side_one HEE.out HS.out HQ.out hc
            have t2 : x.wd ≤ R.len := hc.2.1
            obtain ⟨d, hd⟩ : ∃ d : Nat, R.len - x.wd = (d : Int) := ⟨(R.len - x.wd).toNat, by omega⟩
            have hdd : R.top.n - x.wd.toNat = d := by have := HTS.out; omega
            have hd2 : d ≤ 2000 := by omega
            rw [hdd] at hb2
            have HF := Lib.hid (show S0 + sumTo (sideN R) (i + 1) = q0 + wy R.ps x.lf.toNat ⟨d / 2, R.top.p⟩ by rw [HQQ.out, HSN.out, if_pos hc, hdd])
            obtain ⟨lf, hlf⟩ : ∃ lf : Nat, x.lf = (lf : Int) := ⟨x.lf.toNat, by omega⟩
            rw [hlf, Int.toNat_natCast] at hb2 HF
            rw [hlf] at x2
            have HHA := Lib.hid (fun W (h : Below w.heap.size w W) => refHalves_any R (d / 2) lf W HRO.out (by omega) (by omega) (HROW.out.belowS h) hb2)
            have esb : IntKind.i64.wrap (R.len - x.wd) = (d : Int) := by rw [IntKind.wrap_i64]; omega
            obtain ⟨dh, hdh⟩ : ∃ dh, d / 2 = dh := ⟨_, rfl⟩
            have e1 : (d : Int).tdiv 2 = (dh : Int) := by rw [Int.tdiv_eq_ediv_of_nonneg (by omega)]; omega
            have e2 : (d : Int) / 2 = (dh : Int) := by omega
            have e3 : wrap64 ((d : Int).tdiv 2) = (dh : Int) := by rw [e1, ← hdh]; have := wrap_half d (by omega); rwa [show (d : Int) / 2 = ((d / 2 : Nat) : Int) by omega] at this
            have HE1 := Lib.hid e1
            have HE2 := Lib.hid e2
            have HE3 := Lib.hid e3
            have HE4 := Lib.hid (wrap_half d (by omega))
            rw [hdh] at HHA hb2 HF HE4
            obtain ⟨m, hm⟩ : ∃ m, wy R.ps lf ⟨dh, R.top.p⟩ = m := ⟨_, rfl⟩
            simp only [hm] at HHA
            rw [hm] at HF hb2
            have ea : IntKind.i64.wrap ((q0 : Int) + (m : Int)) = ((q0 + m : Nat) : Int) := by
              unfold MW at *
              rw [IntKind.wrap_i64]
              omega
            clear hc hm hdd hb2 hdh hd e1 e2 e3
            go_wp2_with fail
            rw [HE2.out]
            refine (HHA.out _ HBX.out).mono ?_
            rintro e w9 ⟨rfl, hb9⟩
            have HK9 := Lib.hid (HKX.out.belowS hb9)
            have HB9 := Lib.hid (HBX.out.trans (hb9.mono HBX.out.size))
            clear hb9 r0 r1 r2 r3 hlr x0 x1 x2 x3 x4 lX HHA
            go_wp2_with fail
            exact ⟨⟨i + 1, by omega, by simp, by rw [HF.out]; simp, HK9.out, HB9.out⟩, by simp [intOf]; omega⟩
    | true =>
    have h2 : R.top.n % 2 = 0 := (of_decide_eq_true HBB.out).2
    have hp10 : p < 10 := (of_decide_eq_true HBB.out).1
    have HH2 := Lib.hid h2
    have hpi : (p : Int) ≤ 9 := by omega
    have hml := HMI.out p
    have hsl := sumTo_le HMI.out p
    have hsl2 : MW * p ≤ MW * 10 := Nat.mul_le_mul_left _ (by omega)
    have hmv : midN R p = wy R.ps p ⟨R.top.n / 2, R.top.p⟩ := by rw [midN, if_pos HH2.out]
    have hcall := refHalves_any R (R.top.n / 2) p wp HRO.out (by omega) (by omega) (HROW.out.belowS hb) (by rw [← hmv]; exact hml)
    rw [← hmv] at hcall
    obtain ⟨nh, hnh⟩ : ∃ nh, R.top.n / 2 = nh := ⟨_, rfl⟩
    rw [hnh] at hcall
    have HCALL := Lib.hid hcall
    have HSS := Lib.hid (show sumTo (midN R) (p + 1) = sumTo (midN R) p + midN R p from rfl)
    obtain ⟨m, hm⟩ : ∃ m, midN R p = m := ⟨_, rfl⟩
    obtain ⟨q0, hq⟩ : ∃ q0, sumTo (midN R) p = q0 := ⟨_, rfl⟩
    rw [hm] at HCALL HSS hml
    rw [hq] at HSS hsl ⊢
    have ea : IntKind.i64.wrap ((q0 : Int) + (m : Int)) = ((q0 + m : Nat) : Int) := by
      unfold MW at *
      rw [IntKind.wrap_i64]
      omega
    have ed2 : wrap64 (R.len.tdiv 2) = (nh : Int) := by rw [HTS.out, Int.tdiv_eq_ediv_of_nonneg (by omega), ← hnh]; exact wrap_half _ htn
    have ed4 : wrap64 (R.len / 2) = (nh : Int) := by rw [HTS.out, ← hnh]; exact wrap_half _ htn
    have ed5 : wrap64 ((R.top.n : Int) / 2) = (nh : Int) := by rw [← hnh]; exact wrap_half _ htn
    have HED2 := Lib.hid ed2
    have HED4 := Lib.hid ed4
    have HED5 := Lib.hid ed5
    have HED6 := Lib.hid (show R.len / 2 = (nh : Int) by rw [HTS.out, ← hnh]; omega)
    clear ed2 ed4 ed5 hnh hk hb hcall hm hq hmv hml hsl hsl2 h2
    go_wp2_with fail
    try rw [← HTS.out]
    (first | rw [HED2.out] | rw [HED4.out] | rw [HED6.out])
    refine HCALL.out.mono ?_
    rintro e w9 ⟨rfl, hb9⟩
    have HK9 := Lib.hid (HKA.out.belowS hb9)
    have HB9 := Lib.hid (HBA.out.trans (hb9.mono HBA.out.size))
    clear hb9 r0 r1 r2 r3 hlr HCALL
    go_wp2_with fail
    exact ⟨⟨p + 1, by omega, by simp, by rw [HSS.out]; simp, HK9.out, HB9.out⟩, by simp [intOf]; omega⟩
end Go.Proofs.Ytmcmhgjlpffcnaa
