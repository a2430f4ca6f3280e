/- Bound and Lower of the specification. No condition but the bounds of what is given. -/
import Derived.Test.YtmcmhgjlpffcnaaRP
import Derived.Test.YtmcmhgjlpffcnaaRQ
import Derived.Test.YtmcmhgjlpffcnaaRU
set_option linter.unusedSimpArgs false
namespace Go.Proofs.Ytmcmhgjlpffcnaa
open Go.RowKit

set_option maxRecDepth 100000 in
set_option maxHeartbeats 16000000 in
theorem refBoundPub_any (r : Rds) (sa : Option Addr) (c : Nat) (ws : List Int) (w : World) (hrow : IsCts w r.ca r.cc r.cs) (hbig : r.cs.length ≤ 1000000000) (hws : IsInts w sa c ws) :
    Calls Try.prog 32 #[.agg #[.int .i64 r.stock, .int .i64 r.kerf, .slice r.ca r.cs.length r.cc], .slice sa ws.length c] w fun e w' => e = .returned (.tuple #[.int .i64 (endI (boundE r ws) (boundV r ws)), .int .i64 (boundE r ws)]) ∧ Below w.heap.size w w' := by
  have k1 := Blk.new w 43 #[.int .i64 r.stock, .int .i64 r.kerf, .slice r.ca r.cs.length r.cc]
  have hb1 : Below w.heap.size w (w.alloc (.cells #[.int .i64 r.stock, .int .i64 r.kerf, .slice r.ca r.cs.length r.cc] 43)) := (Below.refl _ w).alloc (Nat.le_refl _) _
  have hll := ints_le hws
  have HROW := Lib.hid hrow
  have HWS := Lib.hid hws
  clear hrow hws
  go_enter Try.func32, Try.ntmps32
  go_upto_region 1 with fail
  generalize w.alloc (.cells #[.int .i64 r.stock, .int .i64 r.kerf, .slice r.ca r.cs.length r.cc] 43) = w1 at *
  have K1 := Lib.hid k1
  have HB1 := Lib.hid hb1
  obtain ⟨r0, r1, r2⟩ := rds_cells (r := r) k1
  have hlr := k1.lt
  clear k1 hb1
  go_wp2_with fail
  refine (refCheckRods_any r _ (HROW.out.belowS HB1.out) hbig).mono ?_
  rintro e w2 ⟨rfl, hb2⟩
  have K2 := Lib.hid (K1.out.belowS hb2)
  have HB2 := Lib.hid (HB1.out.trans (hb2.mono HB1.out.size))
  clear r0 r1 r2 hlr hb2
  obtain ⟨r0, r1, r2⟩ := rds_cells (r := r) K2.out
  have hlr := K2.out.lt
  by_cases hE : rodsE r = 0
  rotate_left
  · have q : (rodsE r != 0) = true := by simpa using hE
    have HV := Lib.hid (show boundE r ws = rodsE r by unfold boundE; rw [if_pos hE])
    have HZ := Lib.hid (show endI (rodsE r) (boundV r ws) = 0 by unfold endI; rw [if_neg hE])
    obtain ⟨eR, hR⟩ : ∃ eR, rodsE r = eR := ⟨_, rfl⟩
    rw [hR] at HV HZ q ⊢
    clear hR hE
    go_wp2_with fail
    exact bodyPost_ret (v := .tuple #[.int .i64 0, .int .i64 eR]) (by simp [results, Try.results32, go_sem]) rfl ⟨by rw [HV.out, HZ.out], HB2.out⟩
  have HR := Lib.hid (rodsE_ok hE)
  have HE := Lib.hid hE
  rw [hE]
  clear hE
  by_cases hq : ws.length = r.cs.length
  rotate_left
  · have z : ((ws.length : Int) != (r.cs.length : Int)) = true := by
      rw [bne_iff_ne]
      omega
    have HV := Lib.hid (show boundE r ws = 1 by unfold boundE; rw [if_neg (by rw [HE.out]; simp), if_pos (by simp [weightsB, hq])])
    clear hq
    go_wp2_with fail
    exact bodyPost_ret (v := .tuple #[.int .i64 0, .int .i64 1]) (by simp [results, Try.results32, go_sem]) rfl ⟨by rw [HV.out]; rfl, HB2.out⟩
  have z : ((ws.length : Int) != (r.cs.length : Int)) = false := by
    rw [bne_eq_false_iff_eq]
    omega
  have HQ := Lib.hid hq
  clear hq
  go_wp2_with fail
  clear z
  obtain ⟨wl, rfl⟩ : ∃ wl : World, wl = w2 := ⟨_, rfl⟩
  go_loopw [7] (fun s7 wr => ∃ i : Nat, i ≤ ws.length ∧ s7 = .int .i64 i ∧ (∀ x ∈ ws.take i, isFromB x 0 1000000 = true) ∧ Below wl.heap.size wl wr) (fun s7 _ => ws.length - (intOf s7).toNat)
  case atStart => exact ⟨0, Nat.zero_le _, rfl, by simp, Below.refl _ _⟩
  case round =>
    clear r0 r1 r2 hlr
    obtain ⟨i, hi, rfl, hno, hb⟩ := hrel
    have HB := Lib.hid hb
    have HNO := Lib.hid hno
    have HBW := Lib.hid (HB2.out.trans (hb.mono HB2.out.size))
    obtain ⟨wo, rfl⟩ : ∃ wo : World, wo = wr := ⟨_, rfl⟩
    have hi0 : (0 : Int) ≤ (i : Int) := Int.natCast_nonneg _
    by_cases hil : i < ws.length
    · have hi1 : (i : Int) < (ws.length : Int) := by omega
      have hq : ws[i]? = some ws[i] := List.getElem?_eq_getElem hil
      have htk : ws.take (i + 1) = ws.take i ++ [ws[i]] := by rw [List.take_add_one, hq]; rfl
      obtain ⟨b, off, e, hbl, hc1, hc2, hp⟩ := (HWS.out.belowS HBW.out).at hq
      have c0 : wo.cell? ⟨b, off + i * 1, none⟩ = some (.int .i64 ws[i]) := hp
      rw [Nat.mul_one] at c0
      have hmem := List.mem_of_getElem? hq
      generalize ws[i] = x at *
      have HT := Lib.hid htk
      have HMEM := Lib.hid hmem
      subst e
      clear hno hb hq htk hp hmem
      go_wp2_with fail
      refine (refIn_any _ _ _ _).mono ?_
      rintro e w' ⟨rfl, rfl⟩
      cases h3 : isFromB x 0 1000000 with
      | false =>
        have HV := Lib.hid (show boundE r ws = 1 by
          have h4 : (ws.any fun n => !isFromB n 0 1000000) = true := List.any_eq_true.2 ⟨x, HMEM.out, by simp [h3]⟩
          unfold boundE
          rw [if_neg (by rw [HE.out]; simp), if_pos (by simp [weightsB, h4])])
        clear h3
        go_wp2_with fail
        exact bodyPost_ret (v := .tuple #[.int .i64 0, .int .i64 1]) (by simp [results, Try.results32, go_sem]) rfl ⟨by rw [HV.out]; rfl, HBW.out⟩
      | true =>
        have H3 := Lib.hid h3
        clear h3
        go_wp2_with fail
        refine ⟨⟨i + 1, by omega, by simp, ?_, HB.out⟩, by simp [intOf]; omega⟩
        rw [HT.out]
        intro y hy
        rcases List.mem_append.1 hy with hy | hy
        · exact HNO.out y hy
        · rw [List.mem_singleton.1 hy]; exact H3.out
    · obtain rfl : i = ws.length := by omega
      have hjj : ¬ (ws.length : Int) < (ws.length : Int) := by omega
      rw [List.take_of_length_le (Nat.le_refl _)] at hno
      have hwb : weightsB r ws = true := by
        unfold weightsB
        rw [HQ.out, decide_eq_true rfl, Bool.true_and, Bool.not_eq_true', List.any_eq_false]
        intro x hx
        rw [hno x hx]
        simp
      have HV := Lib.hid (show boundE r ws = 0 by unfold boundE; rw [if_neg (by rw [HE.out]; simp), if_neg (by rw [hwb]; simp)])
      have hbv := refBound_any r ws sa c wo HR.out (HROW.out.belowS HBW.out) (HWS.out.belowS HBW.out) HQ.out (weightsB_heft hwb).2
      obtain ⟨V, hV⟩ : ∃ V, boundV r ws = V := ⟨_, rfl⟩
      rw [hV] at hbv
      have HVV := Lib.hid hV
      have HBV := Lib.hid hbv
      obtain ⟨r0, r1, r2⟩ := rds_cells (r := r) (K2.out.belowS hb)
      have hlr := (K2.out.belowS hb).lt
      clear hno hb hil hi hwb hbv hV
      go_wp2_with fail
      refine HBV.out.mono ?_
      rintro e w4 ⟨rfl, hb4⟩
      have HB4 := Lib.hid (HBW.out.trans (hb4.mono HBW.out.size))
      clear r0 r1 r2 hlr hb4 HBV
      go_wp2_with fail
      exact bodyPost_ret (v := .tuple #[.int .i64 V, .int .i64 0]) (by simp [results, Try.results32, go_sem]) rfl ⟨by rw [HV.out, HVV.out]; rfl, HB4.out⟩

/-! ### The greatest bound of the folds -/
theorem bound_nn {r : Rds} (hr : r.ok) {ws : List Int} (hw : heftB ws) (hl : ws.length ≤ 8) : 0 ≤ boundV r ws := by
  unfold boundV
  split
  · exact Int.le_refl _
  · rename_i h
    have h1 := held_pos hr hw hl h
    have h2 : 0 ≤ weighM ws (wantL r.cs) := (weighTo_bd (patB_want hr) hw ws.length).1
    exact Int.ediv_nonneg (by omega) (by omega)
def lowS (r : Rds) (k : Nat) : Int := if k = 0 then -1 else boundV r (foldL r (bestTo r (k - 1) : Nat))
def lowL (r : Rds) (k : Nat) : List Int := if k = 0 then [] else foldL r (bestTo r (k - 1) : Nat)
theorem low_step {r : Rds} (hr : r.ok) (k : Nat) (hk : k < 20) :
    (lowS r k < boundV r (foldL r ((k : Int) + 1)) → lowS r (k + 1) = boundV r (foldL r ((k : Int) + 1)) ∧ lowL r (k + 1) = foldL r ((k : Int) + 1)) ∧ (¬ lowS r k < boundV r (foldL r ((k : Int) + 1)) → lowS r (k + 1) = lowS r k ∧ lowL r (k + 1) = lowL r k) := by
  have hnn : 0 ≤ boundV r (foldL r ((k : Int) + 1)) := bound_nn hr (fold_heft hr (by omega) (by omega)) (by rw [fold_len]; exact hr.len)
  cases k with
  | zero =>
    refine ⟨fun _ => ⟨rfl, rfl⟩, fun h => absurd ?_ h⟩
    show (-1 : Int) < _
    omega
  | succ k =>
    have e : ((k + 1 : Nat) : Int) + 1 = ((k + 2 : Nat) : Int) := by omega
    rw [e] at *
    have h1 : lowS r (k + 1) = boundV r (foldL r (bestTo r k : Nat)) := rfl
    have h2 : lowS r (k + 1 + 1) = boundV r (foldL r (bestTo r (k + 1) : Nat)) := rfl
    have h3 : lowL r (k + 1) = foldL r (bestTo r k : Nat) := rfl
    have h4 : lowL r (k + 1 + 1) = foldL r (bestTo r (k + 1) : Nat) := rfl
    rw [h1, h2, h3, h4, bestTo]
    constructor
    · intro h
      rw [if_pos h]
      exact ⟨rfl, rfl⟩
    · intro h
      rw [if_neg h]
      exact ⟨rfl, rfl⟩
theorem fold_take {r : Rds} {k : Int} {i : Nat} {x : Cut} (h : r.cs[i]? = some x) : (foldL r k).take (i + 1) = (foldL r k).take i ++ [foldX r k x] := by
  rw [List.take_add_one]
  simp [foldL, h]
/-- The memory of a round of Lower: the row of weights that is made. -/
structure FMem (wl : World) (a : Option Addr) (c : Nat) (l : List Int) (W : World) : Prop where
  below : Below wl.heap.size wl W
  own : W.ownsRow wl.heap.size 3 1 (.slice a l.length c) l.length (l.flatMap cellsI)

set_option maxRecDepth 100000 in
set_option maxHeartbeats 16000000 in
theorem refLowerPub_any (r : Rds) (w : World) (hrow : IsCts w r.ca r.cc r.cs) (hbig : r.cs.length ≤ 1000000000) :
    Calls Try.prog 36 #[.agg #[.int .i64 r.stock, .int .i64 r.kerf, .slice r.ca r.cs.length r.cc]] w (LowSaid r w) := by
  have k1 := Blk.new w 43 #[.int .i64 r.stock, .int .i64 r.kerf, .slice r.ca r.cs.length r.cc]
  have hb1 : Below w.heap.size w (w.alloc (.cells #[.int .i64 r.stock, .int .i64 r.kerf, .slice r.ca r.cs.length r.cc] 43)) := (Below.refl _ w).alloc (Nat.le_refl _) _
  have HROW := Lib.hid hrow
  clear hrow
  obtain ⟨i0, hi, hz0, hz1, hz2⟩ := info_int
  go_enter Try.func36, Try.ntmps36
  go_upto_region 1 with fail
  generalize w.alloc (.cells #[.int .i64 r.stock, .int .i64 r.kerf, .slice r.ca r.cs.length r.cc] 43) = w1 at *
  have K1 := Lib.hid k1
  have HB1 := Lib.hid hb1
  obtain ⟨r0, r1, r2⟩ := rds_cells (r := r) k1
  have hlr := k1.lt
  clear k1 hb1
  go_wp2_with fail
  refine (refCheckRods_any r _ (HROW.out.belowS HB1.out) hbig).mono ?_
  rintro e w2 ⟨rfl, hb2⟩
  have K2 := Lib.hid (K1.out.belowS hb2)
  have HB2 := Lib.hid (HB1.out.trans (hb2.mono HB1.out.size))
  clear r0 r1 r2 hlr hb2
  obtain ⟨r0, r1, r2⟩ := rds_cells (r := r) K2.out
  have hlr := K2.out.lt
  by_cases hE : rodsE r = 0
  rotate_left
  · have q : (rodsE r != 0) = true := by simpa using hE
    have HV := Lib.hid (show lowV r = 0 ∧ lowW r = [] by unfold lowV lowW endI; rw [if_neg hE, if_neg hE]; exact ⟨rfl, rfl⟩)
    obtain ⟨eR, hR⟩ : ∃ eR, rodsE r = eR := ⟨_, rfl⟩
    have HRR := Lib.hid hR
    rw [hR] at q ⊢
    clear hR hE
    go_wp2_with fail
    refine bodyPost_ret (v := .tuple #[.int .i64 0, .slice none 0 0, .int .i64 eR]) (by simp [results, Try.results36, go_sem]) rfl ?_
    exact ⟨none, 0, by rw [HV.out.1, HV.out.2, HRR.out]; rfl, by rw [HV.out.2]; exact .inl rfl, HB2.out⟩
  have HR := Lib.hid (rodsE_ok hE)
  have HE := Lib.hid hE
  have hl8 := HR.out.len
  have hkf := HR.out.kerf
  have hst := HR.out.stock
  obtain ⟨hkf1, hkf2⟩ := hkf
  obtain ⟨hst1, hst2⟩ := hst
  rw [hE]
  clear hE
  go_wp2_with fail
  obtain ⟨wl, rfl⟩ : ∃ wl : World, wl = w2 := ⟨_, rfl⟩
  go_loopw [6, 7, 8, 9, 10, 11] (fun s6 s7 s8 _ _ _ wv => ∃ (k : Nat) (a : Option Addr) (c : Nat), k ≤ 20 ∧ s8 = .int .i64 ((k : Int) + 1) ∧ s6 = .int .i64 (lowS r k) ∧ s7 = .slice a (lowL r k).length c ∧ IsInts wv a c (lowL r k) ∧ Below wl.heap.size wl wv) (fun _ _ s8 _ _ _ _ => 21 - (intOf s8).toNat)
  case atStart => exact ⟨0, none, 0, by omega, rfl, rfl, rfl, .inl rfl, Below.refl _ _⟩
  case round =>
    clear r0 r1 r2 hlr
    obtain ⟨k, aw, cw, hk, rfl, rfl, rfl, hiw, hb⟩ := hrel
    have HB := Lib.hid hb
    have HIW := Lib.hid hiw
    have HBW := Lib.hid (HB2.out.trans (hb.mono HB2.out.size))
    have KO := Lib.hid (K2.out.belowS hb)
    obtain ⟨wo, rfl⟩ : ∃ wo : World, wo = wr := ⟨_, rfl⟩
    have hk0 : (0 : Int) ≤ (k : Int) := Int.natCast_nonneg _
    by_cases hk20 : k < 20
    rotate_left
    · obtain rfl : k = 20 := by omega
      have HS := Lib.hid (show lowS r 20 = lowerV r ∧ lowL r 20 = lowerW r from ⟨rfl, rfl⟩)
      rw [HS.out.1, HS.out.2]
      have HZ := Lib.hid (show lowV r = lowerV r ∧ lowW r = lowerW r by unfold lowV lowW endI; rw [if_pos HE.out, if_pos HE.out]; exact ⟨rfl, rfl⟩)
      rw [HS.out.2] at hiw
      have HIZ := Lib.hid hiw
      obtain ⟨V, hV⟩ : ∃ V, lowerV r = V := ⟨_, rfl⟩
      obtain ⟨L, hL⟩ : ∃ L, lowerW r = L := ⟨_, rfl⟩
      rw [hV, hL] at HZ
      rw [hL] at HIZ
      rw [hV, hL]
      clear hiw hb hk20 hk hV hL HIW HS
      go_wp2_with fail
      refine bodyPost_ret (v := .tuple #[.int .i64 V, .slice aw L.length cw, .int .i64 0]) (by simp [results, Try.results36, go_sem]) rfl ?_
      exact ⟨aw, cw, by rw [HZ.out.1, HZ.out.2, HE.out], by rw [HZ.out.2]; exact HIZ.out, HBW.out⟩
    have hk20' : (k : Int) + 1 ≤ 20 := by omega
    have HSTEP := Lib.hid (low_step HR.out k hk20)
    have HHEFT := Lib.hid (fold_heft HR.out (k := (k : Int) + 1) (by omega) (by omega))
    have HFLN := Lib.hid (fold_len r ((k : Int) + 1))
    obtain ⟨S0, hS0⟩ : ∃ S0, lowS r k = S0 := ⟨_, rfl⟩
    obtain ⟨L0, hL0⟩ : ∃ L0, lowL r k = L0 := ⟨_, rfl⟩
    rw [hS0, hL0] at HSTEP
    rw [hL0] at HIW
    rw [hS0, hL0]
    obtain ⟨kk, hkk⟩ : ∃ kk : Int, (k : Int) + 1 = kk := ⟨_, rfl⟩
    have HKK := Lib.hid hkk
    rw [hkk] at HSTEP HHEFT HFLN hk20' ⊢
    have hkk1 : 1 ≤ kk := by omega
    clear hiw hb hS0 hL0 hkk
    go_wp2_with fail
    go_loopw [9, 10] (fun s9 s10 wv => ∃ (i : Nat) (a : Option Addr) (c : Nat), i ≤ r.cs.length ∧ s10 = .int .i64 i ∧ s9 = .slice a ((foldL r kk).take i).length c ∧ FMem wo a c ((foldL r kk).take i) wv) (fun _ s10 _ => r.cs.length - (intOf s10).toNat)
    case atStart => exact ⟨0, none, 0, Nat.zero_le _, rfl, by simp, Below.refl _ _, by rw [List.take_zero]; exact World.ownsRow_nil _ _ _ _⟩
    case round =>
      obtain ⟨i, a, c, hi', rfl, rfl, hD⟩ := hrel
      have HD := Lib.hid hD
      obtain ⟨wi, rfl⟩ : ∃ wi : World, wi = wr := ⟨_, rfl⟩
      have hi0 : (0 : Int) ≤ (i : Int) := Int.natCast_nonneg _
      have KI := Lib.hid (KO.out.belowS hD.below)
      obtain ⟨r0, r1, r2⟩ := rds_cells (r := r) KI.out
      have hlr := KI.out.lt
      have HBI := Lib.hid (HBW.out.trans (hD.below.mono HBW.out.size))
      by_cases hil : i < r.cs.length
      rotate_left
      · obtain rfl : i = r.cs.length := by omega
        have hjj : ¬ (r.cs.length : Int) < (r.cs.length : Int) := by omega
        have hown := isInts_own hD.own
        rw [List.take_of_length_le (by rw [HFLN.out]; exact Nat.le_refl _)] at hown ⊢
        have HOWN := Lib.hid hown
        have HCALL := Lib.hid (refBound_any r (foldL r kk) a c wi HR.out (HROW.out.belowS HBI.out) hown HFLN.out HHEFT.out)
        have HIWI := Lib.hid (HIW.out.belowS hD.below)
        have HBZ := Lib.hid (HB.out.trans (hD.below.mono HB.out.size))
        obtain ⟨V, hV⟩ : ∃ V, boundV r (foldL r kk) = V := ⟨_, rfl⟩
        rw [hV] at HCALL HSTEP
        obtain ⟨F, hF⟩ : ∃ F, foldL r kk = F := ⟨_, rfl⟩
        rw [hF] at HCALL HSTEP HOWN ⊢
        clear hD hown hil hi' hV hF
        go_wp2_with fail
        refine HCALL.out.mono ?_
        rintro e w4 ⟨rfl, hb4⟩
        have HB4 := Lib.hid (HBZ.out.trans (hb4.mono HBZ.out.size))
        have HO4 := Lib.hid (HOWN.out.belowS hb4)
        have HI4 := Lib.hid (HIWI.out.belowS hb4)
        have ew : IntKind.i64.wrap (kk + 1) = kk + 1 := by rw [IntKind.wrap_i64]; omega
        clear r0 r1 r2 hlr hb4 HCALL
        by_cases hlt : S0 < V
        · have HF := Lib.hid (HSTEP.out.1 hlt)
          go_wp2_with fail
          exact ⟨⟨k + 1, a, c, by omega, by rw [← HKK.out]; simp, by rw [HF.out.1], by rw [HF.out.2], by rw [HF.out.2]; exact HO4.out, HB4.out⟩, by simp [intOf]; omega⟩
        · have HF := Lib.hid (HSTEP.out.2 (by omega))
          go_wp2_with fail
          exact ⟨⟨k + 1, aw, cw, by omega, by rw [← HKK.out]; simp, by rw [HF.out.1], by rw [HF.out.2], by rw [HF.out.2]; exact HI4.out, HB4.out⟩, by simp [intOf]; omega⟩
      have hi1 : (i : Int) < (r.cs.length : Int) := by omega
      have hq : r.cs[i]? = some r.cs[i] := List.getElem?_eq_getElem hil
      obtain ⟨b2, off2, e2, hbl2, hc1, hc2, hp⟩ := (HROW.out.belowS HBI.out).at hq
      have HT := Lib.hid (fold_take (k := kk) hq)
      have hxo := (HR.out.cuts _ (List.mem_of_getElem? hq)).1
      have hll : ((foldL r kk).take i).length ≤ 8 := by rw [List.length_take]; omega
      generalize r.cs[i] = x at *
      obtain ⟨d0, d1⟩ := hp
      obtain ⟨hx1, hx2⟩ := hxo
      have hm0 : 0 ≤ kk * (x.ln + r.kerf) := Int.mul_nonneg (by omega) (by omega)
      have hm1 : kk * (x.ln + r.kerf) ≤ 20 * 200000 := Int.mul_le_mul hk20' (by omega) (by omega) (by omega)
      have f1 : IntKind.i64.wrap (x.ln + r.kerf) = x.ln + r.kerf := by rw [IntKind.wrap_i64]; omega
      have f2 : IntKind.i64.wrap (kk * (x.ln + r.kerf)) = kk * (x.ln + r.kerf) := by rw [IntKind.wrap_i64]; omega
      have f3 : IntKind.i64.wrap (r.stock + r.kerf) = r.stock + r.kerf := by rw [IntKind.wrap_i64]; omega
      have f4 : (kk * (x.ln + r.kerf)).tdiv (r.stock + r.kerf) = foldX r kk x := Int.tdiv_eq_ediv_of_nonneg hm0
      have hfb := foldX_bd HR.out (k := kk) (by omega) hk20' (List.mem_of_getElem? hq)
      have f5 : IntKind.i64.wrap (foldX r kk x) = foldX r kk x := by rw [IntKind.wrap_i64]; omega
      have f6 : ¬ r.stock + r.kerf = 0 := by omega
      obtain ⟨fx, hfx⟩ : ∃ fx, foldX r kk x = fx := ⟨_, rfl⟩
      rw [hfx] at HT f4 f5
      obtain ⟨L, hL⟩ : ∃ L, (foldL r kk).take i = L := ⟨_, rfl⟩
      rw [hL] at HT HD hll ⊢
      have HE2 := Lib.hid e2
      rw [e2] at r2
      have hbl := And.intro hlr hbl2
      have hn5 : L.length + 1 ≤ maxLen := by unfold maxLen; omega
      have hszq : wo.heap.size ≤ wi.heap.size := HD.out.below.size
      have HLT := Lib.hid (show w.heap.size < wo.heap.size ∧ b2 < wo.heap.size from ⟨KO.out.lt, by
        obtain ⟨b3, off3, e3, hbl3, -⟩ := (HROW.out.belowS HBW.out).at hq
        rw [HE2.out] at e3
        cases e3
        exact hbl3⟩)
      clear hD hq hfb hfx hL hm0 hm1 d1 e2
      go_upto_region 13 with fail
      have hx : (fun w' : World => ((w'.cell? ⟨w.heap.size, 0, none⟩ = some (.int .i64 r.stock) ∧ w'.cell? ⟨w.heap.size, 1, none⟩ = some (.int .i64 r.kerf)) ∧ w'.cell? ⟨w.heap.size, 2, none⟩ = some (.slice (some ⟨b2, off2, none⟩) r.cs.length r.cc)) ∧ w'.cell? ⟨b2, off2 + i * 2, none⟩ = some (.int .i64 x.ln)) wi.drew := ⟨⟨⟨r0, r1⟩, r2⟩, d0⟩
      refine wp_region_E 20 (fun w' => ((w'.cell? ⟨w.heap.size, 0, none⟩ = some (.int .i64 r.stock) ∧ w'.cell? ⟨w.heap.size, 1, none⟩ = some (.int .i64 r.kerf)) ∧ w'.cell? ⟨w.heap.size, 2, none⟩ = some (.slice (some ⟨b2, off2, none⟩) r.cs.length r.cc)) ∧ w'.cell? ⟨b2, off2 + i * 2, none⟩ = some (.int .i64 x.ln)) (by kernel_rfl) ?_
      refine E_take (i := 0) (oi := _) (v := ?v1) rfl (by kernel_rfl) (by kernel_rfl) (by kernel_rfl) (by kernel_rfl) (fun _ _ _ h => h) hx (Or.inl ⟨by rfl, ?y1⟩) ?r1
      case y1 => (intro w' hSw; (try dsimp only at hSw); go_simp; try with_reducible rfl)
      try simp only [Act.put, List.getElem_toArray, List.getElem_cons_zero, List.getElem_cons_succ, List.setIfInBounds_toArray, List.set_cons_zero, List.set_cons_succ]
      refine E_take (i := 1) (oi := _) (v := ?v2) rfl (by kernel_rfl) (by kernel_rfl) (by kernel_rfl) (by kernel_rfl) (fun _ _ _ h => h) hx (Or.inl ⟨by rfl, ?y2⟩) ?r2
      case y2 => (intro w' hSw; (try dsimp only at hSw); go_simp; try with_reducible rfl)
      try simp only [Act.put, List.getElem_toArray, List.getElem_cons_zero, List.getElem_cons_succ, List.setIfInBounds_toArray, List.set_cons_zero, List.set_cons_succ]
      refine E_take (i := 2) (oi := _) (v := ?v3) rfl (by kernel_rfl) (by kernel_rfl) (by kernel_rfl) (by kernel_rfl) (fun _ _ _ h => h) hx (Or.inl ⟨by rfl, ?y3⟩) ?r3
      case y3 => (intro w' hSw; (try dsimp only at hSw); go_simp; try with_reducible rfl)
      try simp only [Act.put, List.getElem_toArray, List.getElem_cons_zero, List.getElem_cons_succ, List.setIfInBounds_toArray, List.set_cons_zero, List.set_cons_succ]
      refine E_take (i := 3) (oi := _) (v := ?v4) rfl (by kernel_rfl) (by kernel_rfl) (by kernel_rfl) (by kernel_rfl) (fun _ _ _ h => h) hx (Or.inl ⟨by rfl, ?y4⟩) ?r4
      case y4 => (intro w' hSw; (try dsimp only at hSw); go_simp; try with_reducible rfl)
      try simp only [Act.put, List.getElem_toArray, List.getElem_cons_zero, List.getElem_cons_succ, List.setIfInBounds_toArray, List.set_cons_zero, List.set_cons_succ]
      refine E_take (i := 4) (oi := _) (v := ?v5) rfl (by kernel_rfl) (by kernel_rfl) (by kernel_rfl) (by kernel_rfl) (fun _ _ _ h => h) hx (Or.inl ⟨by rfl, ?y5⟩) ?r5
      case y5 => (intro w' hSw; (try dsimp only at hSw); go_simp; try with_reducible rfl)
      try simp only [Act.put, List.getElem_toArray, List.getElem_cons_zero, List.getElem_cons_succ, List.setIfInBounds_toArray, List.set_cons_zero, List.set_cons_succ]
      refine E_take (i := 5) (oi := _) (v := ?v6) rfl (by kernel_rfl) (by kernel_rfl) (by kernel_rfl) (by kernel_rfl) (fun _ _ _ h => h) hx (Or.inl ⟨by rfl, ?y6⟩) ?r6
      case y6 => (intro w' hSw; (try dsimp only at hSw); go_simp; try with_reducible rfl)
      try simp only [Act.put, List.getElem_toArray, List.getElem_cons_zero, List.getElem_cons_succ, List.setIfInBounds_toArray, List.set_cons_zero, List.set_cons_succ]
      refine E_take (i := 6) (oi := _) (v := ?v7) rfl (by kernel_rfl) (by kernel_rfl) (by kernel_rfl) (by kernel_rfl) (fun _ _ _ h => h) hx (Or.inl ⟨by rfl, ?y7⟩) ?r7
      case y7 => (intro w' hSw; (try dsimp only at hSw); go_simp; try with_reducible rfl)
      try simp only [Act.put, List.getElem_toArray, List.getElem_cons_zero, List.getElem_cons_succ, List.setIfInBounds_toArray, List.set_cons_zero, List.set_cons_succ]
      refine E_take (i := 7) (oi := _) (v := ?v8) rfl (by kernel_rfl) (by kernel_rfl) (by kernel_rfl) (by kernel_rfl) (fun _ _ _ h => h) hx (Or.inl ⟨by rfl, ?y8⟩) ?r8
      case y8 => (intro w' hSw; (try dsimp only at hSw); go_simp; try with_reducible rfl)
      try simp only [Act.put, List.getElem_toArray, List.getElem_cons_zero, List.getElem_cons_succ, List.setIfInBounds_toArray, List.set_cons_zero, List.set_cons_succ]
      refine E_take (i := 8) (oi := _) (v := ?v9) rfl (by kernel_rfl) (by kernel_rfl) (by kernel_rfl) (by kernel_rfl) (fun _ _ _ h => h) hx (Or.inl ⟨by rfl, ?y9⟩) ?r9
      case y9 => (intro w' hSw; (try dsimp only at hSw); go_simp; try with_reducible rfl)
      try simp only [Act.put, List.getElem_toArray, List.getElem_cons_zero, List.getElem_cons_succ, List.setIfInBounds_toArray, List.set_cons_zero, List.set_cons_succ]
      refine E_take (i := 9) (oi := _) (v := ?v10) rfl (by kernel_rfl) (by kernel_rfl) (by kernel_rfl) (by kernel_rfl) (fun _ _ _ h => h) hx (Or.inl ⟨by rfl, ?y10⟩) ?r10
      case y10 => (intro w' hSw; (try dsimp only at hSw); go_simp; try with_reducible rfl)
      try simp only [Act.put, List.getElem_toArray, List.getElem_cons_zero, List.getElem_cons_succ, List.setIfInBounds_toArray, List.set_cons_zero, List.set_cons_succ]
      refine E_take (i := 10) (oi := _) (v := ?v11) rfl (by kernel_rfl) (by kernel_rfl) (by kernel_rfl) (by kernel_rfl) (fun _ _ _ h => h) hx (Or.inl ⟨by rfl, ?y11⟩) ?r11
      case y11 => (intro w' hSw; (try dsimp only at hSw); go_simp; try with_reducible rfl)
      try simp only [Act.put, List.getElem_toArray, List.getElem_cons_zero, List.getElem_cons_succ, List.setIfInBounds_toArray, List.set_cons_zero, List.set_cons_succ]
      refine E_take (i := 11) (oi := _) (v := ?v12) rfl (by kernel_rfl) (by kernel_rfl) (by kernel_rfl) (by kernel_rfl) (fun _ _ _ h => h) hx (Or.inl ⟨by rfl, ?y12⟩) ?r12
      case y12 => (intro w' hSw; (try dsimp only at hSw); go_simp; try with_reducible rfl)
      try simp only [Act.put, List.getElem_toArray, List.getElem_cons_zero, List.getElem_cons_succ, List.setIfInBounds_toArray, List.set_cons_zero, List.set_cons_succ]
      refine E_take (i := 12) (oi := _) (v := ?v13) rfl (by kernel_rfl) (by kernel_rfl) (by kernel_rfl) (by kernel_rfl) (fun _ _ _ h => h) hx (Or.inl ⟨by rfl, ?y13⟩) ?r13
      case y13 => (intro w' hSw; (try dsimp only at hSw); go_simp; try with_reducible rfl)
      try simp only [Act.put, List.getElem_toArray, List.getElem_cons_zero, List.getElem_cons_succ, List.setIfInBounds_toArray, List.set_cons_zero, List.set_cons_succ]
      refine E_take (i := 13) (oi := _) (v := ?v14) rfl (by kernel_rfl) (by kernel_rfl) (by kernel_rfl) (by kernel_rfl) (fun _ _ _ h => h) hx (Or.inl ⟨by rfl, ?y14⟩) ?r14
      case y14 => (intro w' hSw; (try dsimp only at hSw); go_simp; try with_reducible rfl)
      try simp only [Act.put, List.getElem_toArray, List.getElem_cons_zero, List.getElem_cons_succ, List.setIfInBounds_toArray, List.set_cons_zero, List.set_cons_succ]
      refine E_take (i := 14) (oi := _) (v := ?v15) rfl (by kernel_rfl) (by kernel_rfl) (by kernel_rfl) (by kernel_rfl) (fun _ _ _ h => h) hx (Or.inl ⟨by rfl, ?y15⟩) ?r15
      case y15 => (intro w' hSw; (try dsimp only at hSw); go_simp; try with_reducible rfl)
      try simp only [Act.put, List.getElem_toArray, List.getElem_cons_zero, List.getElem_cons_succ, List.setIfInBounds_toArray, List.set_cons_zero, List.set_cons_succ]
      refine E_take (i := 15) (oi := _) (v := ?v16) rfl (by kernel_rfl) (by kernel_rfl) (by kernel_rfl) (by kernel_rfl) (fun _ _ _ h => h) hx (Or.inl ⟨by rfl, ?y16⟩) ?r16
      case y16 => (intro w' hSw; (try dsimp only at hSw); go_simp; try with_reducible rfl)
      try simp only [Act.put, List.getElem_toArray, List.getElem_cons_zero, List.getElem_cons_succ, List.setIfInBounds_toArray, List.set_cons_zero, List.set_cons_succ]
      refine E_take (i := 16) (oi := _) (v := ?v17) rfl (by kernel_rfl) (by kernel_rfl) (by kernel_rfl) (by kernel_rfl) (fun _ _ _ h => h) hx (Or.inl ⟨by rfl, ?y17⟩) ?r17
      case y17 => (intro w' hSw; (try dsimp only at hSw); go_simp; try with_reducible rfl)
      try simp only [Act.put, List.getElem_toArray, List.getElem_cons_zero, List.getElem_cons_succ, List.setIfInBounds_toArray, List.set_cons_zero, List.set_cons_succ]
      refine E_take (i := 17) (oi := _) (v := ?v18) rfl (by kernel_rfl) (by kernel_rfl) (by kernel_rfl) (by kernel_rfl) (fun _ _ _ h => h) hx (Or.inl ⟨by rfl, ?y18⟩) ?r18
      case y18 => (intro w' hSw; (try dsimp only at hSw); go_simp; try with_reducible rfl)
      try simp only [Act.put, List.getElem_toArray, List.getElem_cons_zero, List.getElem_cons_succ, List.setIfInBounds_toArray, List.set_cons_zero, List.set_cons_succ]
      have hrow : ∀ q : Nat, q < wo.heap.size ∨ wi.heap.size ≤ q → some q ≠ (Value.slice a L.length c).ownBlock := fun q hq he => by
        obtain ⟨h1, h2, -⟩ := own_lt HD.out.own he.symm
        omega
      have al := ((Below.refl wi.heap.size wi).drew).alloc (Nat.le_refl _) (.cells #[.int .i64 fx] 3)
      have hy : (fun w' : World => ((w'.cell? ⟨w.heap.size, 0, none⟩ = some (.int .i64 r.stock) ∧ w'.cell? ⟨w.heap.size, 1, none⟩ = some (.int .i64 r.kerf)) ∧ w'.cell? ⟨w.heap.size, 2, none⟩ = some (.slice (some ⟨b2, off2, none⟩) r.cs.length r.cc)) ∧ w'.cell? ⟨b2, off2 + i * 2, none⟩ = some (.int .i64 x.ln)) (wi.drew.alloc (.cells #[.int .i64 fx] 3)) := ⟨⟨⟨(al.cell (p := ⟨w.heap.size, 0, none⟩) hlr).trans r0, (al.cell (p := ⟨w.heap.size, 1, none⟩) hlr).trans r1⟩, (al.cell (p := ⟨w.heap.size, 2, none⟩) hlr).trans r2⟩, (al.cell (p := ⟨b2, off2 + i * 2, none⟩) hbl2).trans d0⟩
      have HY := Lib.hid hy
      clear hy al
      refine E_step (i := 18) (o := _) (by kernel_rfl) rfl (fun K hK => ?_)
      go_simp
      refine hK.out _ _ (fun _ => HY.out) ?_
      clear hK K
      try simp only [Act.put, List.getElem_toArray, List.getElem_cons_zero, List.getElem_cons_succ, List.setIfInBounds_toArray, List.set_cons_zero, List.set_cons_succ]
      refine E_step (i := 19) (o := _) (by kernel_rfl) rfl (fun K hK => ?_)
      refine step_append_lies _ (by rfl) _ _ _ (by rfl) wo.heap.size 3 i0 _ 1 8 Try.underlying25 hi hz0 hz1 hz2 rfl (by omega) _ L.length (L.flatMap cellsI) (by rfl) ((own_below HD.out.own (Below.refl _ _).drew).alloc _)
        ⟨wi.heap.size, 0, none⟩ 1 1 [.int .i64 fx] (by rfl) (by rfl) (World.news_of_block (cs := #[.int .i64 fx]) (t := 3) (fr := (0, 0)) (World.alloc_heap_new wi.drew _)) (by simp [Value.oneCell'])
        (by omega) hn5 (by omega) (by simp; omega) (wi.heap.size + 1) (by simp) ?_
      intro gg cap w9 hown9 hgrow hat hlt9
      have hfar : ∀ q, q < wo.heap.size → some q ≠ (Value.slice a L.length c).ownBlock := fun q hq => hrow q (.inl hq)
      have hy := HY.out
      have hS9 : (fun w' : World => ((w'.cell? ⟨w.heap.size, 0, none⟩ = some (.int .i64 r.stock) ∧ w'.cell? ⟨w.heap.size, 1, none⟩ = some (.int .i64 r.kerf)) ∧ w'.cell? ⟨w.heap.size, 2, none⟩ = some (.slice (some ⟨b2, off2, none⟩) r.cs.length r.cc)) ∧ w'.cell? ⟨b2, off2 + i * 2, none⟩ = some (.int .i64 x.ln)) w9 := ⟨⟨⟨(hgrow.cell_far ⟨w.heap.size, 0, none⟩ (by simp; omega) (hfar _ HLT.out.1)).trans hy.1.1.1, (hgrow.cell_far ⟨w.heap.size, 1, none⟩ (by simp; omega) (hfar _ HLT.out.1)).trans hy.1.1.2⟩, (hgrow.cell_far ⟨w.heap.size, 2, none⟩ (by simp; omega) (hfar _ HLT.out.1)).trans hy.1.2⟩, (hgrow.cell_far ⟨b2, off2 + i * 2, none⟩ (by simp; omega) (hfar _ HLT.out.2)).trans hy.2⟩
      refine hK.out _ _ (fun _ => hS9) ?_
      clear hK K
      try simp only [Act.put, List.getElem_toArray, List.getElem_cons_zero, List.getElem_cons_succ, List.setIfInBounds_toArray, List.set_cons_zero, List.set_cons_succ]
      refine E_step (i := 20) (o := _) (by kernel_rfl) rfl (fun K hK => ?_)
      go_simp
      refine hK.out _ _ (fun h => absurd rfl h) ?_
      clear hK K
      try simp only [Act.put, List.getElem_toArray, List.getElem_cons_zero, List.getElem_cons_succ, List.setIfInBounds_toArray, List.set_cons_zero, List.set_cons_succ]
      refine E_done (by kernel_rfl) ?_ _
      have HB9 := Lib.hid ((HD.out.below.drew.alloc HD.out.below.size (.cells #[.int .i64 fx] 3)).grown hgrow (by simp; omega) (fun q e => by have := (own_lt HD.out.own e).1; omega))
      have HW9 := Lib.hid hown9
      clear hx hy hS9 hown9 hgrow hat hlt9 r0 r1 r2 d0 hlr hbl2 hbl hrow hfar
      go_wp2_with fail
      refine ⟨⟨i + 1, some ⟨gg, 0, none⟩, cap, by omega, by simp, by rw [HT.out, List.length_append]; rfl, HB9.out, ?_⟩, by simp [intOf]; omega⟩
      rw [HT.out, List.length_append, List.flatMap_append]
      exact HW9.out
end Go.Proofs.Ytmcmhgjlpffcnaa
