/- RidgeWays' walk. No condition. -/
import Derived.Test.YtmcmhgjlpffcnaaRJ
set_option linter.unusedSimpArgs false
namespace Go.Proofs.Ytmcmhgjlpffcnaa
open Go.RowKit

set_option maxRecDepth 100000 in
set_option maxHeartbeats 16000000 in
theorem waysLaw_any
    (R : Rdg) (w : World) (hR : IsRdg w R) :
    Calls Try.prog 4 #[.agg #[.int .i64 R.len, .int .i64 R.st, .int .i64 R.en, .slice R.pa R.ps.length R.pc]] w fun e w' => e = .returned (.bool true) ∧ Below w.heap.size w w' := by
  have k1 := Blk.new w 24 #[.int .i64 R.len, .int .i64 R.st, .int .i64 R.en, .slice R.pa R.ps.length R.pc]
  have hb1 : Below w.heap.size w (w.alloc (.cells #[.int .i64 R.len, .int .i64 R.st, .int .i64 R.en, .slice R.pa R.ps.length R.pc] 24)) := (Below.refl _ w).alloc (Nat.le_refl _) _
  have HR := Lib.hid hR
  clear hR
  go_enter Try.func4, Try.ntmps4
  go_upto_region 1 with fail
  generalize w.alloc (.cells #[.int .i64 R.len, .int .i64 R.st, .int .i64 R.en, .slice R.pa R.ps.length R.pc] 24) = w1 at *
  have K1 := Lib.hid k1
  have HB1 := Lib.hid hb1
  obtain ⟨r0, r1, r2, r3⟩ := rdg_cells (R := R) k1
  have hlr := k1.lt
  clear k1 hb1
  go_wp2_with fail
  refine (great_any R _ (HR.out.belowS HB1.out)).mono ?_
  rintro e w2 ⟨b, rfl, hb, hb2⟩
  have K2 := Lib.hid (K1.out.belowS hb2)
  have HB2 := Lib.hid (HB1.out.trans (hb2.mono HB1.out.size))
  clear r0 r1 r2 r3 hlr hb2
  obtain ⟨r0, r1, r2, r3⟩ := rdg_cells (R := R) K2.out
  have hlr := K2.out.lt
  cases b with
  | true =>
    clear hb
    go_wp2_with fail
    refine (lives_any _).mono ?_
    rintro e w9 ⟨rfl, hb9⟩
    have HB9 := Lib.hid (HB2.out.trans (hb9.mono HB2.out.size))
    clear hb9
    go_wp2_with fail
    go_ret
    exact ⟨rfl, HB9.out⟩
  | false =>
    obtain ⟨hps, -⟩ := hb rfl
    clear hb
    have HA1 := Lib.hid (fun W (hb : Below w.heap.size w W) => ways_any R W (HR.out.belowS hb).row (by omega) HR.out.names)
    have HA2 := Lib.hid (fun W (hb : Below w.heap.size w W) => refWays_any R W (HR.out.belowS hb) (by omega))
    have HA3 := Lib.hid (fun W (hb : Below w.heap.size w W) => evenPub_any R W (HR.out.belowS hb).row (by omega) HR.out.names)
    have HA4 := Lib.hid (fun W (hb : Below w.heap.size w W) => refEven_any R W (HR.out.belowS hb) (by omega))
    obtain ⟨wE, hwE⟩ : ∃ wE, waysE R = wE := ⟨_, rfl⟩
    simp only [hwE] at HA1 HA2 HA3 HA4
    obtain ⟨wV, hwV⟩ : ∃ wV, endI wE (waysN R : Int) = wV := ⟨_, rfl⟩
    obtain ⟨eV, heV⟩ : ∃ eV, endI wE (evenN R : Int) = eV := ⟨_, rfl⟩
    simp only [hwV] at HA1 HA2
    simp only [heV] at HA3 HA4
    have q1 : (wV != wV) = false := by simp
    have q2 : (wE != wE) = false := by simp
    have q3 : (eV == eV) = true := by simp
    have q4 : (wE == wE) = true := by simp
    clear hwE hwV heV
    go_wp2_with fail
    refine (HA1.out w2 HB2.out).mono ?_
    rintro e w3 ⟨rfl, hb3⟩
    have K3 := Lib.hid (K2.out.belowS hb3)
    have HB3 := Lib.hid (HB2.out.trans (hb3.mono HB2.out.size))
    clear r0 r1 r2 r3 hlr hb3 HA1
    obtain ⟨r0, r1, r2, r3⟩ := rdg_cells (R := R) K3.out
    have hlr := K3.out.lt
    go_wp2_with fail
    refine (HA2.out w3 HB3.out).mono ?_
    rintro e w4 ⟨rfl, hb4⟩
    have K4 := Lib.hid (K3.out.belowS hb4)
    have HB4 := Lib.hid (HB3.out.trans (hb4.mono HB3.out.size))
    clear r0 r1 r2 r3 hlr hb4 HA2
    obtain ⟨r0, r1, r2, r3⟩ := rdg_cells (R := R) K4.out
    have hlr := K4.out.lt
    go_wp2_with fail
    refine (HA3.out w4 HB4.out).mono ?_
    rintro e w5 ⟨rfl, hb5⟩
    have K5 := Lib.hid (K4.out.belowS hb5)
    have HB5 := Lib.hid (HB4.out.trans (hb5.mono HB4.out.size))
    clear r0 r1 r2 r3 hlr hb5 HA3
    obtain ⟨r0, r1, r2, r3⟩ := rdg_cells (R := R) K5.out
    have hlr := K5.out.lt
    go_wp2_with fail
    refine (HA4.out w5 HB5.out).mono ?_
    rintro e w6 ⟨rfl, hb6⟩
    have HB6 := Lib.hid (HB5.out.trans (hb6.mono HB5.out.size))
    clear r0 r1 r2 r3 hlr hb6 HA4
    go_wp2_with fail
    refine (lives_any _).mono ?_
    rintro e w9 ⟨rfl, hb9⟩
    have HB9 := Lib.hid (HB6.out.trans (hb9.mono HB6.out.size))
    clear hb9
    go_wp2_with fail
    go_ret
    exact ⟨rfl, HB9.out⟩
end Go.Proofs.Ytmcmhgjlpffcnaa
