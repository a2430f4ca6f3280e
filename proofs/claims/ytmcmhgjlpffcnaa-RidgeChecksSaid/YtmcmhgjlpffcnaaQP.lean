/- RidgeChecks' walk. No condition. -/
import Derived.Test.YtmcmhgjlpffcnaaQO
set_option linter.unusedSimpArgs false
namespace Go.Proofs.Ytmcmhgjlpffcnaa
open Go.RowKit

set_option maxRecDepth 100000 in
set_option maxHeartbeats 16000000 in
theorem checksLaw_any (R : Rdg) (sa : Option Addr) (c : Nat) (row : List Int) (w : World) (hR : IsRdg w R) (hns : IsInts w sa c row) :
    Calls Try.prog 3 #[.agg #[.int .i64 R.len, .int .i64 R.st, .int .i64 R.en, .slice R.pa R.ps.length R.pc], .slice sa row.length c] w fun e w' => e = .returned (.bool true) ∧ Below w.heap.size w w' := by
  have k1 := Blk.new w 24 #[.int .i64 R.len, .int .i64 R.st, .int .i64 R.en, .slice R.pa R.ps.length R.pc]
  have hb1 : Below w.heap.size w (w.alloc (.cells #[.int .i64 R.len, .int .i64 R.st, .int .i64 R.en, .slice R.pa R.ps.length R.pc] 24)) := (Below.refl _ w).alloc (Nat.le_refl _) _
  have hrl := ints_le hns
  have HR := Lib.hid hR
  have HNS := Lib.hid hns
  clear hR hns
  go_enter Try.func3, Try.ntmps3
  go_upto_region 1 with fail
  generalize w.alloc (.cells #[.int .i64 R.len, .int .i64 R.st, .int .i64 R.en, .slice R.pa R.ps.length R.pc] 24) = w1 at *
  have K1 := Lib.hid k1
  have HB1 := Lib.hid hb1
  obtain ⟨r0, r1, r2, r3⟩ := rdg_cells (R := R) k1
  have hlr := k1.lt
  clear k1 hb1
  go_wp2_with fail
  refine (great_any R _ (HR.out.belowS HB1.out)).mono ?_
  rintro e w2 ⟨b, rfl, hb, hb2⟩
  have K2 := Lib.hid (K1.out.belowS hb2)
  have HB2 := Lib.hid (HB1.out.trans (hb2.mono HB1.out.size))
  clear r0 r1 r2 r3 hlr hb2
  obtain ⟨r0, r1, r2, r3⟩ := rdg_cells (R := R) K2.out
  have hlr := K2.out.lt
  cases b with
  | true =>
    clear hb
    go_wp2_with fail
    refine (lives_any _).mono ?_
    rintro e w9 ⟨rfl, hb9⟩
    have HB9 := Lib.hid (HB2.out.trans (hb9.mono HB2.out.size))
    clear hb9
    go_wp2_with fail
    go_ret
    exact ⟨rfl, HB9.out⟩
  | false =>
    obtain ⟨hps, -⟩ := hb rfl
    clear hb
    by_cases hl : row.length ≤ 400
    rotate_left
    · have hl' : (400 : Int) < (row.length : Int) := by omega
      clear hl
      go_wp2_with fail
      refine (lives_any _).mono ?_
      rintro e w9 ⟨rfl, hb9⟩
      have HB9 := Lib.hid (HB2.out.trans (hb9.mono HB2.out.size))
      clear hb9
      go_wp2_with fail
      go_ret
      exact ⟨rfl, HB9.out⟩
    have hl' : ¬ (400 : Int) < (row.length : Int) := by omega
    go_wp2_with fail
    refine (fitsPub_any R sa c row _ (HR.out.belowS HB2.out) (by omega) (HNS.out.belowS HB2.out)).mono ?_
    rintro e w3 ⟨rfl, hb3⟩
    have K3 := Lib.hid (K2.out.belowS hb3)
    have HB3 := Lib.hid (HB2.out.trans (hb3.mono HB2.out.size))
    have hf3 := refFitsPub_any R sa c row w3 (HR.out.belowS HB3.out) (by omega) (HNS.out.belowS HB3.out)
    have HC := Lib.hid (fun W (hb : Below w.heap.size w W) => check_any R W (HR.out.belowS hb).row (by omega) HR.out.names)
    have HD := Lib.hid (fun W (hb : Below w.heap.size w W) => refCheck_any R W (HR.out.belowS hb).row (by omega) HR.out.names)
    have HN := Lib.hid (fun W (hb : Below w.heap.size w W) => needsPub_any R sa c row W (HR.out.belowS hb) (by omega) (HNS.out.belowS hb))
    have HM := Lib.hid (fun W (hb : Below w.heap.size w W) => refNeeds_any R sa c row W (HR.out.belowS hb) (by omega) (HNS.out.belowS hb))
    obtain ⟨fb, hfb⟩ : ∃ fb, fitsV R row = fb := ⟨_, rfl⟩
    obtain ⟨eR, heR⟩ : ∃ eR, rdgE R = eR := ⟨_, rfl⟩
    simp only [heR] at HC HD
    rw [hfb, heR] at hf3 ⊢
    have HF3 := Lib.hid hf3
    have hff : (fb != fb) = false := by cases fb <;> rfl
    have hee : (eR != eR) = false := by simp
    clear r0 r1 r2 r3 hlr hb3 hf3 hfb heR
    obtain ⟨r0, r1, r2, r3⟩ := rdg_cells (R := R) K3.out
    have hlr := K3.out.lt
    go_wp2_with fail
    refine HF3.out.mono ?_
    rintro e w4 ⟨rfl, hb4⟩
    have K4 := Lib.hid (K3.out.belowS hb4)
    have HB4 := Lib.hid (HB3.out.trans (hb4.mono HB3.out.size))
    clear r0 r1 r2 r3 hlr hb4 HF3
    obtain ⟨r0, r1, r2, r3⟩ := rdg_cells (R := R) K4.out
    have hlr := K4.out.lt
    go_upto_region 5 with fail
    refine wp_region_E 15 (fun w' => w'.cell? ⟨w.heap.size, 0, none⟩ = some (.int .i64 R.len) ∧ w'.cell? ⟨w.heap.size, 1, none⟩ = some (.int .i64 R.st) ∧ w'.cell? ⟨w.heap.size, 2, none⟩ = some (.int .i64 R.en) ∧ w'.cell? ⟨w.heap.size, 3, none⟩ = some (.slice R.pa R.ps.length R.pc)) (by kernel_rfl) ?_
    have hx : (fun w' : World => w'.cell? ⟨w.heap.size, 0, none⟩ = some (.int .i64 R.len) ∧ w'.cell? ⟨w.heap.size, 1, none⟩ = some (.int .i64 R.st) ∧ w'.cell? ⟨w.heap.size, 2, none⟩ = some (.int .i64 R.en) ∧ w'.cell? ⟨w.heap.size, 3, none⟩ = some (.slice R.pa R.ps.length R.pc)) w4.drew := ⟨r0, r1, r2, r3⟩
    refine E_takeR (i := 0) (oi := _) (v := ?v1) rfl (by kernel_rfl) (by kernel_rfl) (by kernel_rfl) (by decide) (fun _ _ _ h => h) hx (Or.inl ⟨by rfl, ?y1⟩) ?r1
    case y1 => (intro w' hSw; (try dsimp only at hSw); go_simp; try with_reducible rfl)
    try simp only [Act.put, List.getElem_toArray, List.getElem_cons_zero, List.getElem_cons_succ, List.setIfInBounds_toArray, List.set_cons_zero, List.set_cons_succ]
    refine E_takeR (i := 2) (oi := _) (v := ?v2) rfl (by kernel_rfl) (by kernel_rfl) (by kernel_rfl) (by decide) (fun _ _ _ h => h) hx (Or.inl ⟨by rfl, ?y2⟩) ?r2
    case y2 => (intro w' hSw; (try dsimp only at hSw); go_simp; try with_reducible rfl)
    try simp only [Act.put, List.getElem_toArray, List.getElem_cons_zero, List.getElem_cons_succ, List.setIfInBounds_toArray, List.set_cons_zero, List.set_cons_succ]
    refine E_step (i := 1) (o := _) (by kernel_rfl) rfl (fun K hK => ?_)
    go_simp
    refine (HC.out w4.drew HB4.out.drew).mono ?_
    rintro e w5 ⟨rfl, hb5⟩
    dsimp only
    have K5 := Lib.hid ((K4.out.belowS (Below.refl _ _).drew).belowS hb5)
    have HB5 := Lib.hid (HB4.out.drew.trans (hb5.mono HB4.out.drew.size))
    have hx5 : (fun w' : World => w'.cell? ⟨w.heap.size, 0, none⟩ = some (.int .i64 R.len) ∧ w'.cell? ⟨w.heap.size, 1, none⟩ = some (.int .i64 R.st) ∧ w'.cell? ⟨w.heap.size, 2, none⟩ = some (.int .i64 R.en) ∧ w'.cell? ⟨w.heap.size, 3, none⟩ = some (.slice R.pa R.ps.length R.pc)) w5 := rdg_cells (R := R) K5.out
    refine hK.out _ _ (fun h => hx5) ?_
    clear hK K
    try simp only [Act.put, List.getElem_toArray, List.getElem_cons_zero, List.getElem_cons_succ, List.setIfInBounds_toArray, List.set_cons_zero, List.set_cons_succ]
    refine E_step (i := 3) (o := _) (by kernel_rfl) rfl (fun K hK => ?_)
    go_simp
    refine (HD.out w5 HB5.out).mono ?_
    rintro e w6 ⟨rfl, hb6⟩
    dsimp only
    have K6 := Lib.hid (K5.out.belowS hb6)
    have HB6 := Lib.hid (HB5.out.trans (hb6.mono HB5.out.size))
    have hx6 : (fun w' : World => w'.cell? ⟨w.heap.size, 0, none⟩ = some (.int .i64 R.len) ∧ w'.cell? ⟨w.heap.size, 1, none⟩ = some (.int .i64 R.st) ∧ w'.cell? ⟨w.heap.size, 2, none⟩ = some (.int .i64 R.en) ∧ w'.cell? ⟨w.heap.size, 3, none⟩ = some (.slice R.pa R.ps.length R.pc)) w6 := rdg_cells (R := R) K6.out
    refine hK.out _ _ (fun h => hx6) ?_
    clear hK K hx hx5 hb5 hb6
    try simp only [Act.put, List.getElem_toArray, List.getElem_cons_zero, List.getElem_cons_succ, List.setIfInBounds_toArray, List.set_cons_zero, List.set_cons_succ]
    refine E_step (i := 4) (o := _) (by kernel_rfl) rfl (fun K hK => ?_)
    go_simp
    refine hK.out _ _ (fun h => hx6) ?_
    clear hK K
    try simp only [Act.put, List.getElem_toArray, List.getElem_cons_zero, List.getElem_cons_succ, List.setIfInBounds_toArray, List.set_cons_zero, List.set_cons_succ]
    try rw [hee]
    refine E_step (i := 5) (o := _) (by kernel_rfl) rfl (fun K hK => ?_)
    go_simp
    refine hK.out _ _ (fun h => hx6) ?_
    clear hK K
    try simp only [Act.put, List.getElem_toArray, List.getElem_cons_zero, List.getElem_cons_succ, List.setIfInBounds_toArray, List.set_cons_zero, List.set_cons_succ]
    refine E_takeR (i := 6) (oi := _) (v := ?v3) rfl (by kernel_rfl) (by kernel_rfl) (by kernel_rfl) (by decide) (fun _ _ _ h => h) hx6 (Or.inl ⟨by rfl, ?y3⟩) ?r3
    case y3 => (intro w' hSw; (try dsimp only at hSw); go_simp; try with_reducible rfl)
    try simp only [Act.put, List.getElem_toArray, List.getElem_cons_zero, List.getElem_cons_succ, List.setIfInBounds_toArray, List.set_cons_zero, List.set_cons_succ]
    refine E_takeR (i := 7) (oi := _) (v := ?v4) rfl (by kernel_rfl) (by kernel_rfl) (by kernel_rfl) (by decide) (fun _ _ _ h => h) hx6 (Or.inl ⟨by rfl, ?y4⟩) ?r4
    case y4 => (intro w' hSw; (try dsimp only at hSw); go_simp; try with_reducible rfl)
    try simp only [Act.put, List.getElem_toArray, List.getElem_cons_zero, List.getElem_cons_succ, List.setIfInBounds_toArray, List.set_cons_zero, List.set_cons_succ]
    refine E_step (i := 8) (o := _) (by kernel_rfl) rfl (fun K hK => ?_)
    go_simp
    refine hK.out _ _ (fun h => hx6) ?_
    clear hK K
    try simp only [Act.put, List.getElem_toArray, List.getElem_cons_zero, List.getElem_cons_succ, List.setIfInBounds_toArray, List.set_cons_zero, List.set_cons_succ]
    try rw [hff]
    refine E_step (i := 9) (o := _) (by kernel_rfl) rfl (fun K hK => ?_)
    go_simp
    refine hK.out _ _ (fun h => hx6) ?_
    clear hK K
    try simp only [Act.put, List.getElem_toArray, List.getElem_cons_zero, List.getElem_cons_succ, List.setIfInBounds_toArray, List.set_cons_zero, List.set_cons_succ]
    refine E_step (i := 10) (o := _) (by kernel_rfl) rfl (fun K hK => ?_)
    go_simp
    refine hK.out _ _ (fun h => hx6) ?_
    clear hK K
    try simp only [Act.put, List.getElem_toArray, List.getElem_cons_zero, List.getElem_cons_succ, List.setIfInBounds_toArray, List.set_cons_zero, List.set_cons_succ]
    refine E_takeR (i := 11) (oi := _) (v := ?v5) rfl (by kernel_rfl) (by kernel_rfl) (by kernel_rfl) (by decide) (fun _ _ _ h => h) hx6 (Or.inl ⟨by rfl, ?y5⟩) ?r5
    case y5 => (intro w' hSw; (try dsimp only at hSw); go_simp; try with_reducible rfl)
    try simp only [Act.put, List.getElem_toArray, List.getElem_cons_zero, List.getElem_cons_succ, List.setIfInBounds_toArray, List.set_cons_zero, List.set_cons_succ]
    refine E_takeR (i := 12) (oi := _) (v := ?v6) rfl (by kernel_rfl) (by kernel_rfl) (by kernel_rfl) (by decide) (fun _ _ _ h => h) hx6 (Or.inl ⟨by rfl, ?y6⟩) ?r6
    case y6 => (intro w' hSw; (try dsimp only at hSw); go_simp; try with_reducible rfl)
    try simp only [Act.put, List.getElem_toArray, List.getElem_cons_zero, List.getElem_cons_succ, List.setIfInBounds_toArray, List.set_cons_zero, List.set_cons_succ]
    refine E_step (i := 13) (o := _) (by kernel_rfl) rfl (fun K hK => ?_)
    go_simp
    refine hK.out _ _ (fun h => hx6) ?_
    clear hK K
    try simp only [Act.put, List.getElem_toArray, List.getElem_cons_zero, List.getElem_cons_succ, List.setIfInBounds_toArray, List.set_cons_zero, List.set_cons_succ]
    try rw [hee]
    refine E_step (i := 14) (o := _) (by kernel_rfl) rfl (fun K hK => ?_)
    go_simp
    refine hK.out _ _ (fun h => hx6) ?_
    clear hK K
    try simp only [Act.put, List.getElem_toArray, List.getElem_cons_zero, List.getElem_cons_succ, List.setIfInBounds_toArray, List.set_cons_zero, List.set_cons_succ]
    refine E_done (by kernel_rfl) ?_ _
    obtain ⟨r0, r1, r2, r3⟩ := hx6
    have hlr := K6.out.lt
    clear hee hff
    go_wp2_with fail
    refine (HN.out w6 HB6.out).mono ?_
    rintro e w7 ⟨a7, c7, rfl, hi7, hb7⟩
    have K7 := Lib.hid (K6.out.belowS hb7)
    have HB7 := Lib.hid (HB6.out.trans (hb7.mono HB6.out.size))
    have HI7 := Lib.hid hi7
    clear r0 r1 r2 r3 hlr hb7 hi7
    obtain ⟨r0, r1, r2, r3⟩ := rdg_cells (R := R) K7.out
    have hlr := K7.out.lt
    go_wp2_with fail
    refine (HM.out w7 HB7.out).mono ?_
    rintro e w8 ⟨a8, c8, rfl, hi8, hb8⟩
    have HB8 := Lib.hid (HB7.out.trans (hb8.mono HB7.out.size))
    have HS := Lib.hid (sameInts_any (needV R row) (needV R row) a7 a8 c7 c8 w8 (HI7.out.belowS hb8) hi8)
    obtain ⟨nE, hnE⟩ : ∃ nE, needE R row = nE := ⟨_, rfl⟩
    obtain ⟨nL, hnL⟩ : ∃ nL, needV R row = nL := ⟨_, rfl⟩
    rw [hnE]
    rw [hnL] at HS ⊢
    have hne : (nE == nE) = true := by simp
    clear r0 r1 r2 r3 hlr hb8 hi8 hnE hnL
    go_wp2_with fail
    refine HS.out.mono ?_
    rintro e w10 ⟨rfl, hb10⟩
    have HB10 := Lib.hid (HB8.out.trans (hb10.mono HB8.out.size))
    have hll : decide (nL = nL) = true := by simp
    clear hb10 HS
    go_wp2_with fail
    refine (lives_any _).mono ?_
    rintro e w9 ⟨rfl, hb9⟩
    have HB9 := Lib.hid (HB10.out.trans (hb9.mono HB10.out.size))
    clear hb9
    go_wp2_with fail
    go_ret
    exact ⟨rfl, HB9.out⟩
end Go.Proofs.Ytmcmhgjlpffcnaa
