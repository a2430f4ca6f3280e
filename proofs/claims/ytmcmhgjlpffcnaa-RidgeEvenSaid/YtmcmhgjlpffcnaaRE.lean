/- RidgeNths' walk. No condition. -/
import Derived.Test.YtmcmhgjlpffcnaaRD
set_option linter.unusedSimpArgs false
namespace Go.Proofs.Ytmcmhgjlpffcnaa
open Go.RowKit

set_option maxRecDepth 100000 in
set_option maxHeartbeats 16000000 in
theorem nthsLaw_any (R : Rdg) (k : Int) (sa : Option Addr) (c : Nat) (row : List Int) (w : World) (hR : IsRdg w R) (hns : IsInts w sa c row) :
    Calls Try.prog 5 #[.agg #[.int .i64 R.len, .int .i64 R.st, .int .i64 R.en, .slice R.pa R.ps.length R.pc], .int .i64 k, .slice sa row.length c] w fun e w' => e = .returned (.bool true) ∧ Below w.heap.size w w' := by
  have k1 := Blk.new w 24 #[.int .i64 R.len, .int .i64 R.st, .int .i64 R.en, .slice R.pa R.ps.length R.pc]
  have hb1 : Below w.heap.size w (w.alloc (.cells #[.int .i64 R.len, .int .i64 R.st, .int .i64 R.en, .slice R.pa R.ps.length R.pc] 24)) := (Below.refl _ w).alloc (Nat.le_refl _) _
  have hrl := ints_le hns
  have HR := Lib.hid hR
  have HNS := Lib.hid hns
  clear hR hns
  go_enter Try.func5, Try.ntmps5
  go_upto_region 1 with fail
  generalize w.alloc (.cells #[.int .i64 R.len, .int .i64 R.st, .int .i64 R.en, .slice R.pa R.ps.length R.pc] 24) = w1 at *
  have K1 := Lib.hid k1
  have HB1 := Lib.hid hb1
  obtain ⟨r0, r1, r2, r3⟩ := rdg_cells (R := R) k1
  have hlr := k1.lt
  clear k1 hb1
  go_wp2_with fail
  refine (great_any R _ (HR.out.belowS HB1.out)).mono ?_
  rintro e w2 ⟨b, rfl, hb, hb2⟩
  have K2 := Lib.hid (K1.out.belowS hb2)
  have HB2 := Lib.hid (HB1.out.trans (hb2.mono HB1.out.size))
  clear r0 r1 r2 r3 hlr hb2
  obtain ⟨r0, r1, r2, r3⟩ := rdg_cells (R := R) K2.out
  have hlr := K2.out.lt
  cases b with
  | true =>
    clear hb
    go_wp2_with fail
    refine (lives_any _).mono ?_
    rintro e w9 ⟨rfl, hb9⟩
    have HB9 := Lib.hid (HB2.out.trans (hb9.mono HB2.out.size))
    clear hb9
    go_wp2_with fail
    go_ret
    exact ⟨rfl, HB9.out⟩
  | false =>
    obtain ⟨hps, -⟩ := hb rfl
    clear hb
    by_cases hl : row.length ≤ 400
    rotate_left
    · have hl' : (400 : Int) < (row.length : Int) := by omega
      clear hl
      go_wp2_with fail
      refine (lives_any _).mono ?_
      rintro e w9 ⟨rfl, hb9⟩
      have HB9 := Lib.hid (HB2.out.trans (hb9.mono HB2.out.size))
      clear hb9
      go_wp2_with fail
      go_ret
      exact ⟨rfl, HB9.out⟩
    have hl' : ¬ (400 : Int) < (row.length : Int) := by omega
    have HNT := Lib.hid (fun W (hb : Below w.heap.size w W) => nthPub_any R k W (HR.out.belowS hb).row (by omega) HR.out.names)
    have HRN := Lib.hid (fun W (hb : Below w.heap.size w W) => refNth_any R k W (HR.out.belowS hb) (by omega))
    have HRA := Lib.hid (fun W (hb : Below w.heap.size w W) => rankPub_any R sa c row W (HR.out.belowS hb).row (by omega) HR.out.names (HNS.out.belowS hb))
    have HRR := Lib.hid (fun W (hb : Below w.heap.size w W) => refRank_any R sa c row W (HR.out.belowS hb) (by omega) (HNS.out.belowS hb))
    obtain ⟨nE, hnE⟩ : ∃ nE, nthE R k = nE := ⟨_, rfl⟩
    obtain ⟨L0, hnL⟩ : ∃ L0, nthR R k.toNat = L0 := ⟨_, rfl⟩
    obtain ⟨rE, hrE⟩ : ∃ rE, rankE R row = rE := ⟨_, rfl⟩
    obtain ⟨rV, hrV⟩ : ∃ rV, endI rE (rankR R row : Int) = rV := ⟨_, rfl⟩
    simp only [hnE, hnL] at HNT HRN
    simp only [hrE, hrV] at HRA HRR
    have qn : (nE != nE) = false := by simp
    have qr : (rE == rE) = true := by simp
    have qv : (rV == rV) = true := by simp
    clear hnE hnL hrE hrV
    go_wp2_with fail
    refine (HNT.out w2 HB2.out).mono ?_
    rintro e w3 ⟨a3, c3, rfl, hi3, hb3⟩
    have K3 := Lib.hid (K2.out.belowS hb3)
    have HB3 := Lib.hid (HB2.out.trans (hb3.mono HB2.out.size))
    have HI3 := Lib.hid hi3
    generalize hnl : endL nE L0 = nL at *
    have HNL := Lib.hid hnl
    clear r0 r1 r2 r3 hlr hb3 hi3 HNT hnl
    obtain ⟨r0, r1, r2, r3⟩ := rdg_cells (R := R) K3.out
    have hlr := K3.out.lt
    go_wp2_with fail
    refine (HRN.out w3 HB3.out).mono ?_
    rintro e w4 ⟨a4, c4, rfl, hi4, hb4⟩
    rw [HNL.out] at hi4 ⊢
    have K4 := Lib.hid (K3.out.belowS hb4)
    have HB4 := Lib.hid (HB3.out.trans (hb4.mono HB3.out.size))
    have HS := Lib.hid (sameInts_any nL nL a3 a4 c3 c4 w4 (HI3.out.belowS hb4) hi4)
    have hll : decide (nL = nL) = true := by simp
    clear r0 r1 r2 r3 hlr hb4 hi4 HRN
    go_wp2_with fail
    refine HS.out.mono ?_
    rintro e w5 ⟨rfl, hb5⟩
    rw [hll]
    have K5 := Lib.hid (K4.out.belowS hb5)
    have HB5 := Lib.hid (HB4.out.trans (hb5.mono HB4.out.size))
    clear hb5 HS hll
    obtain ⟨r0, r1, r2, r3⟩ := rdg_cells (R := R) K5.out
    have hlr := K5.out.lt
    go_wp2_with fail
    refine (HRA.out w5 HB5.out).mono ?_
    rintro e w6 ⟨rfl, hb6⟩
    have K6 := Lib.hid (K5.out.belowS hb6)
    have HB6 := Lib.hid (HB5.out.trans (hb6.mono HB5.out.size))
    clear r0 r1 r2 r3 hlr hb6 HRA
    obtain ⟨r0, r1, r2, r3⟩ := rdg_cells (R := R) K6.out
    have hlr := K6.out.lt
    go_wp2_with fail
    refine (HRR.out w6 HB6.out).mono ?_
    rintro e w7 ⟨rfl, hb7⟩
    have HB7 := Lib.hid (HB6.out.trans (hb7.mono HB6.out.size))
    clear r0 r1 r2 r3 hlr hb7 HRR
    go_wp2_with fail
    refine (lives_any _).mono ?_
    rintro e w9 ⟨rfl, hb9⟩
    have HB9 := Lib.hid (HB7.out.trans (hb9.mono HB7.out.size))
    clear hb9
    go_wp2_with fail
    go_ret
    exact ⟨rfl, HB9.out⟩
end Go.Proofs.Ytmcmhgjlpffcnaa
