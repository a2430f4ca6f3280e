/- RidgeEven's walk. No condition. -/
import Derived.Test.YtmcmhgjlpffcnaaRL
import Derived.Test.YtmcmhgjlpffcnaaRI
set_option linter.unusedSimpArgs false
namespace Go.Proofs.Ytmcmhgjlpffcnaa
open Go.RowKit

/-! ### A row looked at from both ends -/
def evT (ps : List Pce) (L : List Int) : Nat → Bool
  | 0 => true
  | i + 1 => evT ps L i && (mirI ps (L.getD i 0) == L.getD (L.length - 1 - i) 0)
theorem evT_iff (ps : List Pce) (L : List Int) : ∀ n, evT ps L n = true ↔ ∀ i, i < n → mirI ps (L.getD i 0) = L.getD (L.length - 1 - i) 0
  | 0 => by simp [evT]
  | n + 1 => by
    rw [evT, Bool.and_eq_true, evT_iff ps L n, beq_iff_eq]
    constructor
    · rintro ⟨h1, h2⟩ i hi
      by_cases e : i = n
      · subst e; exact h2
      · exact h1 i (by omega)
    · intro h
      exact ⟨fun i hi => h i (by omega), h n (by omega)⟩
theorem evT_evB (ps : List Pce) (L : List Int) : evT ps L L.length = evB ps L := by
  rw [Bool.eq_iff_iff, evT_iff, evB, decide_eq_true_eq]
  constructor
  · intro h
    refine List.ext_getElem (by simp) fun i h1 h2 => ?_
    simp only [List.length_map] at h1
    have h3 := h i h1
    rw [List.getD_eq_getElem?_getD, List.getD_eq_getElem?_getD, List.getElem?_eq_getElem h1, List.getElem?_eq_getElem (show L.length - 1 - i < L.length by omega)] at h3
    simp only [List.getElem_map, List.getElem_reverse]
    exact h3
  · intro h i hi
    have h3 : (L.map (mirI ps))[i]? = L.reverse[i]? := by rw [h]
    rw [List.getElem?_map, List.getElem?_reverse hi, List.getElem?_eq_getElem hi, List.getElem?_eq_getElem (show L.length - 1 - i < L.length by omega)] at h3
    rw [List.getD_eq_getElem?_getD, List.getD_eq_getElem?_getD, List.getElem?_eq_getElem hi, List.getElem?_eq_getElem (show L.length - 1 - i < L.length by omega)]
    simpa using h3
theorem evT_step {ps : List Pce} {L : List Int} {i : Nat} {p q : Int} {x : Pce} (hp : L[i]? = some p) (hq : L[L.length - 1 - i]? = some q) (hx : ps[p.toNat]? = some x) : evT ps L (i + 1) = (evT ps L i && (x.mr == q)) := by
  rw [evT, List.getD_eq_getElem?_getD, List.getD_eq_getElem?_getD, hp, hq]
  simp only [Option.getD_some, mirI, hx]
theorem sumTo_evK (R : Rdg) : ∀ n, sumTo (evK R) n ≤ n
  | 0 => Nat.le_refl _
  | n + 1 => by
    have h1 := sumTo_evK R n
    have h2 : evK R n ≤ 1 := by unfold evK; split <;> omega
    rw [sumTo]
    omega

set_option maxRecDepth 100000 in
set_option maxHeartbeats 16000000 in
theorem evenLaw_any (R : Rdg) (w : World) (hR : IsRdg w R) :
    Calls Try.prog 10 #[.agg #[.int .i64 R.len, .int .i64 R.st, .int .i64 R.en, .slice R.pa R.ps.length R.pc]] w fun e w' => e = .returned (.bool true) ∧ Below w.heap.size w w' := by
  have k1 := Blk.new w 24 #[.int .i64 R.len, .int .i64 R.st, .int .i64 R.en, .slice R.pa R.ps.length R.pc]
  have hb1 : Below w.heap.size w (w.alloc (.cells #[.int .i64 R.len, .int .i64 R.st, .int .i64 R.en, .slice R.pa R.ps.length R.pc] 24)) := (Below.refl _ w).alloc (Nat.le_refl _) _
  have HR := Lib.hid hR
  clear hR
  go_enter Try.func10, Try.ntmps10
  go_upto_region 1 with fail
  generalize w.alloc (.cells #[.int .i64 R.len, .int .i64 R.st, .int .i64 R.en, .slice R.pa R.ps.length R.pc] 24) = w1 at *
  have K1 := Lib.hid k1
  have HB1 := Lib.hid hb1
  obtain ⟨r0, r1, r2, r3⟩ := rdg_cells (R := R) k1
  have hlr := k1.lt
  clear k1 hb1
  go_wp2_with fail
  refine (great_any R _ (HR.out.belowS HB1.out)).mono ?_
  rintro e w2 ⟨b, rfl, hb, hb2⟩
  have K2 := Lib.hid (K1.out.belowS hb2)
  have HB2 := Lib.hid (HB1.out.trans (hb2.mono HB1.out.size))
  clear r0 r1 r2 r3 hlr hb2
  obtain ⟨r0, r1, r2, r3⟩ := rdg_cells (R := R) K2.out
  have hlr := K2.out.lt
  cases b with
  | true =>
    clear hb
    go_wp2_with fail
    refine (lives_any _).mono ?_
    rintro e w9 ⟨rfl, hb9⟩
    have HB9 := Lib.hid (HB2.out.trans (hb9.mono HB2.out.size))
    clear hb9
    go_wp2_with fail
    go_ret
    exact ⟨rfl, HB9.out⟩
  | false =>
    obtain ⟨hps, -⟩ := hb rfl
    clear hb
    go_wp2_with fail
    refine (ways_any R w2 (HR.out.belowS HB2.out).row (by omega) HR.out.names).mono ?_
    rintro e w3 ⟨rfl, hb3⟩
    have K3 := Lib.hid (K2.out.belowS hb3)
    have HB3 := Lib.hid (HB2.out.trans (hb3.mono HB2.out.size))
    clear r0 r1 r2 r3 hlr hb3
    by_cases hE : waysE R = 0
    rotate_left
    · obtain ⟨wV, hwV⟩ : ∃ wV, endI (waysE R) (waysN R : Int) = wV := ⟨_, rfl⟩
      obtain ⟨wE, hwE⟩ : ∃ wE, waysE R = wE := ⟨_, rfl⟩
      rw [hwV, hwE]
      rw [hwE] at hE
      have q : (wE != 0) = true := by simpa using hE
      clear hwV hwE hE
      go_wp2_with fail
      refine (lives_any _).mono ?_
      rintro e w9 ⟨rfl, hb9⟩
      have HB9 := Lib.hid (HB3.out.trans (hb9.mono HB3.out.size))
      clear hb9
      go_wp2_with fail
      go_ret
      exact ⟨rfl, HB9.out⟩
    have HRDG := Lib.hid (waysE_zero hE).1
    have HRO := Lib.hid (rdgE_ridge (waysE_zero hE).1)
    have HNTH := Lib.hid (fun (k : Nat) (hk : k < waysN R) (W : World) (hb : Below w.heap.size w W) => nthOk_any R k W (HR.out.belowS hb) (by omega) ⟨hE, hk⟩)
    have HEVE := Lib.hid (fun (W : World) (hb : Below w.heap.size w W) => evenPub_any R W (HR.out.belowS hb).row (by omega) HR.out.names)
    have HFIT := Lib.hid (fun (k : Nat) (hk : k < waysN R) => (HasRow.fits ⟨hE, hk⟩ : fitsB R (nthR R k) = true))
    have HCNT := Lib.hid (even_count (waysE_zero hE).1)
    rw [hE] at HEVE ⊢
    simp only [show ∀ v, endI 0 v = v from fun _ => rfl] at HEVE ⊢
    obtain ⟨N, hN⟩ : ∃ N, waysN R = N := ⟨_, rfl⟩
    rw [hN] at HNTH HFIT HCNT ⊢
    clear hE hN
    by_cases h200 : N ≤ 200
    rotate_left
    · have q : (200 : Int) < (N : Int) := by omega
      clear h200
      go_wp2_with fail
      refine (lives_any _).mono ?_
      rintro e w9 ⟨rfl, hb9⟩
      have HB9 := Lib.hid (HB3.out.trans (hb9.mono HB3.out.size))
      clear hb9
      go_wp2_with fail
      go_ret
      exact ⟨rfl, HB9.out⟩
    have q : ¬ (200 : Int) < (N : Int) := by omega
    go_wp2_with fail
    go_loopw [5, 6, 7, 8, 9, 10, 11, 12] (fun s5 s6 _ _ _ _ _ _ wv => ∃ k : Nat, k ≤ N ∧ s6 = .int .i64 k ∧ s5 = .int .i64 ((sumTo (evK R) k : Nat) : Int) ∧ Blk wv w.heap.size #[.int .i64 R.len, .int .i64 R.st, .int .i64 R.en, .slice R.pa R.ps.length R.pc] 24 ∧ Below w.heap.size w wv) (fun _ s6 _ _ _ _ _ _ _ => N - (intOf s6).toNat)
    case atStart => exact ⟨0, Nat.zero_le _, rfl, rfl, K3.out, HB3.out⟩
    case round =>
      obtain ⟨k, hk, rfl, rfl, hkb, hb⟩ := hrel
      have KO := Lib.hid hkb
      have HBO := Lib.hid hb
      obtain ⟨wo, rfl⟩ : ∃ wo : World, wo = wr := ⟨_, rfl⟩
      have hk0 : (0 : Int) ≤ (k : Int) := Int.natCast_nonneg _
      have hsl := sumTo_evK R k
      obtain ⟨r0, r1, r2, r3⟩ := rdg_cells (R := R) KO.out
      have hlr := KO.out.lt
      by_cases hkn : k < N
      rotate_left
      · obtain rfl : k = N := by omega
        have g0 : ¬ (k : Int) < (k : Int) := by omega
        have HEV := Lib.hid (HEVE.out wo HBO.out)
        rw [HCNT.out]
        obtain ⟨M, hM⟩ : ∃ M, evenN R = M := ⟨_, rfl⟩
        rw [hM] at HEV ⊢
        have qm : ((M : Int) == (M : Int)) = true := by simp
        clear hM hkb hb hsl hkn hk HEVE HNTH
        go_wp2_with fail
        refine HEV.out.mono ?_
        rintro e w4 ⟨rfl, hb4⟩
        have HB4 := Lib.hid (HBO.out.trans (hb4.mono HBO.out.size))
        clear r0 r1 r2 r3 hlr hb4 HEV
        go_wp2_with fail
        refine (lives_any _).mono ?_
        rintro e w9 ⟨rfl, hb9⟩
        have HB9 := Lib.hid (HB4.out.trans (hb9.mono HB4.out.size))
        clear hb9
        go_wp2_with fail
        go_ret
        exact ⟨rfl, HB9.out⟩
      have hki : (k : Int) < (N : Int) := by omega
      have HCALL := Lib.hid (HNTH.out k hkn wo HBO.out)
      have hfit := HFIT.out k hkn
      have HINR := Lib.hid (fits_in hfit)
      have hwd := nth_wd HRO.out.2.2.2.2 _ _ _ (fitsB_iff.1 hfit)
      have hT := HRO.out.top.1
      have hll : (nthR R k).length ≤ 2000 := by omega
      have HSS := Lib.hid (show sumTo (evK R) (k + 1) = sumTo (evK R) k + evK R k from rfl)
      have HEK := Lib.hid (show evK R k = if evB R.ps (nthR R k) = true then 1 else 0 from rfl)
      obtain ⟨L, hL⟩ : ∃ L, nthR R k = L := ⟨_, rfl⟩
      rw [hL] at HCALL HINR HEK hll
      obtain ⟨S, hS⟩ : ∃ S, sumTo (evK R) k = S := ⟨_, rfl⟩
      rw [hS] at HSS hsl ⊢
      clear hfit hwd hT hL hS hkb hb
      go_wp2_with fail
      refine HCALL.out.mono ?_
      rintro e w4 ⟨a4, c4, rfl, hi4, hb4⟩
      have K4 := Lib.hid (KO.out.belowS hb4)
      have HB4 := Lib.hid (HBO.out.trans (hb4.mono HBO.out.size))
      have HI4 := Lib.hid hi4
      clear r0 r1 r2 r3 hlr hb4 hi4 HCALL
      go_wp2_with fail
      go_loopw [9, 10, 11, 12] (fun s9 s10 _ _ wv => ∃ i : Nat, i ≤ L.length ∧ s10 = .int .i64 i ∧ s9 = .bool (evT R.ps L i) ∧ Below w4.heap.size w4 wv) (fun _ s10 _ _ _ => L.length - (intOf s10).toNat)
      case atStart => exact ⟨0, Nat.zero_le _, rfl, rfl, Below.refl _ _⟩
      case round =>
        obtain ⟨i, hi, rfl, rfl, hbi⟩ := hrel
        have HBI := Lib.hid hbi
        obtain ⟨wi, rfl⟩ : ∃ wi : World, wi = wr := ⟨_, rfl⟩
        have hi0 : (0 : Int) ≤ (i : Int) := Int.natCast_nonneg _
        by_cases hil : i < L.length
        rotate_left
        · obtain rfl : i = L.length := by omega
          have g0 : ¬ (L.length : Int) < (L.length : Int) := by omega
          rw [evT_evB]
          have ew : IntKind.i64.wrap ((S : Int) + 1) = ((S + 1 : Nat) : Int) := by rw [IntKind.wrap_i64]; omega
          have ek : IntKind.i64.wrap ((k : Int) + 1) = ((k + 1 : Nat) : Int) := by rw [IntKind.wrap_i64]; omega
          have KZ := Lib.hid (K4.out.belowS hbi)
          have HBZ := Lib.hid (HB4.out.trans (hbi.mono HB4.out.size))
          clear hbi hil hi
          cases hev : evB R.ps L with
          | true =>
            have HF := Lib.hid (show sumTo (evK R) (k + 1) = S + 1 by rw [HSS.out, HEK.out, if_pos hev])
            clear hev
            go_wp2_with fail
            exact ⟨⟨k + 1, by omega, by simp, by rw [HF.out]; simp, KZ.out, HBZ.out⟩, by simp [intOf]; omega⟩
          | false =>
            have HF := Lib.hid (show sumTo (evK R) (k + 1) = S by rw [HSS.out, HEK.out, hev]; rfl)
            clear hev
            go_wp2_with fail
            exact ⟨⟨k + 1, by omega, by simp, by rw [HF.out], KZ.out, HBZ.out⟩, by simp [intOf]; omega⟩
        have hii : (i : Int) < (L.length : Int) := by omega
        have hqa : L[i]? = some L[i] := List.getElem?_eq_getElem hil
        have hil2 : L.length - 1 - i < L.length := by omega
        have hqb : L[L.length - 1 - i]? = some L[L.length - 1 - i] := List.getElem?_eq_getElem hil2
        obtain ⟨b1, off1, e1, hb1, h11, h12, hp1⟩ := (HI4.out.belowS hbi).at hqa
        obtain ⟨b2, off2, e2, hb2, h21, h22, hp2⟩ := (HI4.out.belowS hbi).at hqb
        subst e1
        simp only [Option.some.injEq, Addr.mk.injEq, and_true] at e2
        obtain ⟨rfl, rfl⟩ := e2
        have c1 : wi.cell? ⟨b1, off1 + i * 1, none⟩ = some (.int .i64 L[i]) := hp1
        have c2 : wi.cell? ⟨b1, off1 + (L.length - 1 - i) * 1, none⟩ = some (.int .i64 L[L.length - 1 - i]) := hp2
        rw [Nat.mul_one] at c1 c2
        have hin := HINR.out _ (List.mem_of_getElem? hqa)
        have hin2 := HINR.out _ (List.mem_of_getElem? hqb)
        obtain ⟨jj, hjj⟩ : ∃ jj : Nat, L.length - 1 - i = jj := ⟨_, rfl⟩
        have e3 : IntKind.i64.wrap (IntKind.i64.wrap ((L.length : Int) - 1) - (i : Int)) = (jj : Int) := by
          rw [show IntKind.i64.wrap ((L.length : Int) - 1) = (L.length : Int) - 1 by rw [IntKind.wrap_i64]; omega, IntKind.wrap_i64]
          omega
        have e3b : IntKind.i64.wrap ((L.length : Int) - 1) = (L.length : Int) - 1 := by rw [IntKind.wrap_i64]; omega
        have e3c : IntKind.i64.wrap ((L.length : Int) - 1 - (i : Int)) = (jj : Int) := by rw [IntKind.wrap_i64]; omega
        have hj1 : (jj : Int) < (L.length : Int) := by omega
        have hj0 : (0 : Int) ≤ (jj : Int) := Int.natCast_nonneg _
        have hjc : (jj : Int) < (c4 : Int) := by omega
        have hic : (i : Int) < (c4 : Int) := by omega
        obtain ⟨pn, hpn⟩ : ∃ pn : Nat, L[i] = (pn : Int) := ⟨L[i].toNat, by omega⟩
        have hpl : pn < R.ps.length := by omega
        have hxq : R.ps[pn]? = some R.ps[pn] := List.getElem?_eq_getElem hpl
        have hstep := evT_step (ps := R.ps) hqa hqb (by rw [hpn, Int.toNat_natCast]; exact hxq)
        have HBW := Lib.hid (HB4.out.trans (hbi.mono HB4.out.size))
        obtain ⟨b5, off5, e5, hb5, h51, h52, hp5⟩ := (HR.out.belowS HBW.out).row.at hxq
        have p4 : wi.cell? ⟨b5, off5 + pn * 5 + 4, none⟩ = some (.int .i64 R.ps[pn].mr) := hp5.2.2.2.2
        rw [hpn] at c1
        simp only [hjj] at c2 hstep
        obtain ⟨qv, hqv⟩ : ∃ qv, L[jj]'(by omega) = qv := ⟨_, rfl⟩
        have c2' : wi.cell? ⟨b1, off1 + jj, none⟩ = some (.int .i64 qv) := by rw [← hqv]; exact c2
        have hstep' : evT R.ps L (i + 1) = (evT R.ps L i && (R.ps[pn].mr == qv)) := by rw [← hqv]; exact hstep
        have HST := Lib.hid hstep'
        obtain ⟨mr, hmr⟩ : ∃ mr, R.ps[pn].mr = mr := ⟨_, rfl⟩
        rw [hmr] at p4 HST
        obtain ⟨bb, hbb⟩ : ∃ bb, evT R.ps L i = bb := ⟨_, rfl⟩
        rw [hbb] at HST ⊢
        have KI := Lib.hid (K4.out.belowS hbi)
        have ei : IntKind.i64.wrap ((i : Int) + 1) = ((i + 1 : Nat) : Int) := by rw [IntKind.wrap_i64]; omega
        have hp0 : (0 : Int) ≤ (pn : Int) := Int.natCast_nonneg _
        have hpp : (pn : Int) < (R.ps.length : Int) := by omega
        obtain ⟨r0, r1, r2, r3⟩ := rdg_cells (R := R) KI.out
        have hlr := KI.out.lt
        rw [e5] at r3
        clear hp1 hp2 c2 hqa hqb hin hin2 hpn hxq hstep hstep' hp5 hqv hmr hbb hbi e5 hjj hll h11 h21 h51 h52
        have HF := Lib.hid (show evT R.ps L (i + 1) = (bb && (mr == qv)) from HST.out)
        cases bb with
        | false =>
          go_upto_region 17 with fail
          go_region
          all_goals (go_wp2_with fail)
          all_goals exact ⟨⟨i + 1, by omega, by simp, by rw [HF.out]; rfl, HBI.out.drew⟩, by simp [intOf]; omega⟩
        | true =>
          go_upto_region 17 with fail
          go_region
          all_goals (go_wp2_with fail)
          all_goals exact ⟨⟨i + 1, by omega, by simp, by rw [HF.out]; rfl, HBI.out.drew⟩, by simp [intOf]; omega⟩
end Go.Proofs.Ytmcmhgjlpffcnaa
