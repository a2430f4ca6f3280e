/- Fits: whether a row fits a ridge, or the ridge's first error. No condition but that lengths are below 2^63. -/
import Derived.Test.YtmcmhgjlpffcnaaQC
set_option linter.unusedSimpArgs false
namespace Go.Proofs.Ytmcmhgjlpffcnaa
open Go.RowKit

def fitsV (R : Rdg) (row : List Int) : Bool := if rdgE R = 0 then fitsB R row else false
set_option maxRecDepth 100000 in
set_option maxHeartbeats 8000000 in
theorem fitsPub_any (R : Rdg) (sa : Option Addr) (c : Nat) (row : List Int) (w : World) (hR : IsRdg w R) (hbig : R.ps.length ≤ 1000000000) (hns : IsInts w sa c row) :
    Calls Try.prog 15 #[.agg #[.int .i64 R.len, .int .i64 R.st, .int .i64 R.en, .slice R.pa R.ps.length R.pc], .slice sa row.length c] w fun e w' => e = .returned (.tuple #[.bool (fitsV R row), .int .i64 (rdgE R)]) ∧ Below w.heap.size w w' := by
  have k1 := Blk.new w 24 #[.int .i64 R.len, .int .i64 R.st, .int .i64 R.en, .slice R.pa R.ps.length R.pc]
  have hb1 : Below w.heap.size w (w.alloc (.cells #[.int .i64 R.len, .int .i64 R.st, .int .i64 R.en, .slice R.pa R.ps.length R.pc] 24)) := (Below.refl _ w).alloc (Nat.le_refl _) _
  have HR := Lib.hid hR
  have HNS := Lib.hid hns
  clear hR hns
  go_enter Try.func15, Try.ntmps15
  go_upto_region 1 with fail
  generalize w.alloc (.cells #[.int .i64 R.len, .int .i64 R.st, .int .i64 R.en, .slice R.pa R.ps.length R.pc] 24) = w1 at *
  have K1 := Lib.hid k1
  have HB1 := Lib.hid hb1
  obtain ⟨r0, r1, r2, r3⟩ := rdg_cells (R := R) k1
  have hl1 := k1.lt
  clear k1 hb1
  go_wp2_with fail
  refine (check_any R _ (HR.out.belowS HB1.out).row hbig HR.out.names).mono ?_
  rintro e w2 ⟨rfl, hb2⟩
  have K2 := Lib.hid (K1.out.belowS hb2)
  have HB2 := Lib.hid (HB1.out.trans (hb2.mono HB1.out.size))
  clear r0 r1 r2 r3 hl1 hb2
  by_cases hE : rdgE R = 0
  rotate_left
  · have hv : fitsV R row = false := by unfold fitsV; rw [if_neg hE]
    have HV := Lib.hid hv
    clear hv
    obtain ⟨eR, he⟩ : ∃ eR, rdgE R = eR := ⟨_, rfl⟩
    have HE := Lib.hid he
    rw [he] at hE ⊢
    clear he
    go_wp2_with fail
    exact bodyPost_ret (v := .tuple #[.bool false, .int .i64 eR]) (by simp [results, Try.results15, go_sem]) rfl ⟨by rw [HV.out, HE.out], HB2.out⟩
  · have hv : fitsV R row = fitsB R row := by unfold fitsV; rw [if_pos hE]
    have HV := Lib.hid (And.intro hv (rdgE_ridge hE))
    have HE := Lib.hid hE
    rw [hE]
    clear hv hE
    obtain ⟨r0, r1, r2, r3⟩ := rdg_cells (R := R) K2.out
    have hl1 := K2.out.lt
    go_wp2_with fail
    refine (fits_any R sa c row _ HV.out.2 (HR.out.belowS HB2.out).row (HNS.out.belowS HB2.out)).mono ?_
    rintro e w3 ⟨rfl, hb3⟩
    have HB3 := Lib.hid (HB2.out.trans (hb3.mono HB2.out.size))
    clear r0 r1 r2 r3 hl1 hb3
    go_wp2_with fail
    exact bodyPost_ret (v := .tuple #[.bool (fitsB R row), .int .i64 0]) (by simp [results, Try.results15, go_sem]) rfl ⟨by rw [HV.out.1, HE.out], HB3.out⟩
end Go.Proofs.Ytmcmhgjlpffcnaa
