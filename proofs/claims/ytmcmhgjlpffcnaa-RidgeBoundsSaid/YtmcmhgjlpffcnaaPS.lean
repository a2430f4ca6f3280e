/- The weights of a fold, the greatest bound of the folds, and Lower. No condition but the limits of rods that may be. -/
import Derived.Test.YtmcmhgjlpffcnaaPR
import Derived.Deep.OwnRows
set_option linter.unusedSimpArgs false
namespace Go.Proofs.Ytmcmhgjlpffcnaa
open Go.RowKit

/-! ### The weights of a fold -/
def foldX (r : Rds) (k : Int) (x : Cut) : Int := k * (x.ln + r.kerf) / (r.stock + r.kerf)
def foldL (r : Rds) (k : Int) : List Int := r.cs.map (foldX r k)
def foldArr (r : Rds) (k : Int) (j : Nat) : Array Value := ((List.range r.cs.length).map fun i => Value.int .i64 (if i < j then ent (foldL r k) i else 0)).toArray
theorem foldArr_get {r : Rds} {k : Int} {j i : Nat} (h : i < r.cs.length) : (foldArr r k j)[i]? = some (.int .i64 (if i < j then ent (foldL r k) i else 0)) := by
  simp [foldArr, List.getElem?_range h]
theorem foldArr_none {r : Rds} {k : Int} {j i : Nat} (h : r.cs.length ≤ i) : (foldArr r k j)[i]? = none := by
  simp [foldArr, h]
theorem foldArr_zero (r : Rds) (k : Int) : madeCells #[.int .i64 0] r.cs.length = foldArr r k 0 := by
  apply Array.ext_getElem?
  intro i
  by_cases h : i < r.cs.length
  · rw [foldArr_get h]
    simp [madeCells, h, Nat.mod_one]
  · rw [foldArr_none (by omega)]
    simp [madeCells]
    omega
theorem foldArr_succ {r : Rds} {k : Int} {j : Nat} (h : j < r.cs.length) : (foldArr r k j).setIfInBounds j (.int .i64 (ent (foldL r k) j)) = foldArr r k (j + 1) := by
  have hs : (foldArr r k j).size = r.cs.length := by simp [foldArr]
  apply Array.ext_getElem?
  intro i
  rw [Array.getElem?_setIfInBounds]
  by_cases hi : i < r.cs.length
  · rw [foldArr_get hi, foldArr_get hi]
    by_cases e : j = i
    · subst e
      rw [if_pos rfl, if_pos (by rw [hs]; exact hi), if_pos (by omega)]
    · rw [if_neg e]
      by_cases h2 : i < j
      · rw [if_pos h2, if_pos (by omega)]
      · rw [if_neg h2, if_neg (by omega)]
  · rw [foldArr_none (by omega), foldArr_none (by omega), if_neg (by omega)]
theorem fold_len (r : Rds) (k : Int) : (foldL r k).length = r.cs.length := by simp [foldL]
theorem fold_ent {r : Rds} {k : Int} {j : Nat} {x : Cut} (h : r.cs[j]? = some x) : ent (foldL r k) j = foldX r k x := by
  simp [ent, foldL, h]
theorem foldX_bd {r : Rds} (hr : r.ok) {k : Int} (h0 : 0 ≤ k) (h1 : k ≤ 20) {x : Cut} (hx : x ∈ r.cs) : 0 ≤ foldX r k x ∧ foldX r k x ≤ 20 := by
  have h2 := hr.cuts x hx
  have h3 := hr.kerf
  have h4 := hr.stock
  have h5 : 0 ≤ k * (x.ln + r.kerf) := Int.mul_nonneg h0 (by omega)
  have h6 : k * (x.ln + r.kerf) ≤ 20 * (r.stock + r.kerf) := Int.mul_le_mul h1 (by omega) (by omega) (by omega)
  exact ⟨Int.ediv_nonneg h5 (by omega), Int.ediv_le_of_le_mul (by omega) h6⟩
theorem fold_heft {r : Rds} (hr : r.ok) {k : Int} (h0 : 0 ≤ k) (h1 : k ≤ 20) : heftB (foldL r k) := fun i => by
  rcases hx : r.cs[i]? with _ | x
  · have : ent (foldL r k) i = 0 := by simp [ent, foldL, hx]
    omega
  · rw [fold_ent hx]
    have := foldX_bd hr h0 h1 (List.mem_of_getElem? hx)
    omega

set_option maxRecDepth 100000 in
set_option maxHeartbeats 8000000 in
theorem fold_any (r : Rds) (k : Int) (w : World) (hr : r.ok) (hk0 : 0 ≤ k) (hk1 : k ≤ 20) (hrow : IsCts w r.ca r.cc r.cs) :
    Calls Try.prog 96 #[.agg #[.int .i64 r.stock, .int .i64 r.kerf, .slice r.ca r.cs.length r.cc], .int .i64 k] w fun e w' => ∃ B, e = .returned (.slice (some ⟨B, 0, none⟩) (foldL r k).length r.cs.length) ∧ w.heap.size ≤ B ∧ IsInts w' (some ⟨B, 0, none⟩) r.cs.length (foldL r k) ∧ Below w.heap.size w w' := by
  have hl8 := hr.len
  have hmk := run_make_row' (P := Try.prog) 25 3 (.int .i64 0) 8 (by kernel_rfl) (by kernel_rfl) rfl .i64 .i64 r.cs.length (by omega) (by omega)
  have k1 := (Blk.new w 43 #[.int .i64 r.stock, .int .i64 r.kerf, .slice r.ca r.cs.length r.cc]).alloc (.cells (madeCells #[.int .i64 0] r.cs.length) 3)
  have k2 := Blk.new (w.alloc (.cells #[.int .i64 r.stock, .int .i64 r.kerf, .slice r.ca r.cs.length r.cc] 43)) 3 (madeCells #[.int .i64 0] r.cs.length)
  have hb1 : Below w.heap.size w ((w.alloc (.cells #[.int .i64 r.stock, .int .i64 r.kerf, .slice r.ca r.cs.length r.cc] 43)).alloc (.cells (madeCells #[.int .i64 0] r.cs.length) 3)) := ((Below.refl _ w).alloc (Nat.le_refl _) _).alloc (by simp) _
  rw [World.size_alloc] at k2
  have HR := Lib.hid hr
  have HROW := Lib.hid hrow
  have hkf := hr.kerf
  have hst := hr.stock
  clear hr hrow
  obtain ⟨hkf1, hkf2⟩ := hkf
  obtain ⟨hst1, hst2⟩ := hst
  have r1a := (rds_cells (r := r) (Blk.new w 43 #[.int .i64 r.stock, .int .i64 r.kerf, .slice r.ca r.cs.length r.cc]))
  obtain ⟨r0, r1, r2⟩ := r1a
  go_enter Try.func96, Try.ntmps96
  go_upto_region 2 with fail
  clear r0 r1 r2 hmk
  generalize ((w.alloc (.cells #[.int .i64 r.stock, .int .i64 r.kerf, .slice r.ca r.cs.length r.cc] 43)).alloc (.cells (madeCells #[.int .i64 0] r.cs.length) 3)) = w1 at *
  rw [foldArr_zero r k] at k2
  have K1 := Lib.hid k1
  have K2 := Lib.hid k2
  have HB1 := Lib.hid hb1
  obtain ⟨r0, r1, r2⟩ := rds_cells (r := r) k1
  have hlr := k1.lt
  clear k1 k2 hb1
  go_wp2_with fail
  go_loopw [15, 6, 7] (fun i _ _ wr => ∃ j : Nat, j ≤ r.cs.length ∧ i = .int .i64 j ∧ Blk wr (w.heap.size + 1) (foldArr r k j) 3 ∧ Blk wr w.heap.size #[.int .i64 r.stock, .int .i64 r.kerf, .slice r.ca r.cs.length r.cc] 43 ∧ Below w.heap.size w wr) (fun i _ _ _ => r.cs.length - (intOf i).toNat)
  case atStart => exact ⟨0, Nat.zero_le _, rfl, K2.out, K1.out, HB1.out⟩
  case round =>
    obtain ⟨j, hj, rfl, hk, hkr, g2⟩ := hrel
    have HK := Lib.hid hk
    have HKR := Lib.hid hkr
    have HBW := Lib.hid g2
    clear r0 r1 r2 hlr
    by_cases hlj : j < r.cs.length
    · have hq : r.cs[j]? = some r.cs[j] := List.getElem?_eq_getElem hlj
      obtain ⟨b, off, e, hbl, hc1, hc2, hp⟩ := (HROW.out.belowS g2).at hq
      have hst := foldArr_succ (k := k) hlj
      rw [fold_ent hq] at hst
      have hfb := foldX_bd HR.out hk0 hk1 (List.mem_of_getElem? hq)
      have hxo := (HR.out.cuts _ (List.mem_of_getElem? hq)).1
      generalize r.cs[j] = x at *
      obtain ⟨c0, c1⟩ := hp
      rw [e]
      obtain ⟨hx1, hx2⟩ := hxo
      have hj0 : (0 : Int) ≤ (j : Int) := Int.natCast_nonneg _
      have hj1 : (j : Int) < (r.cs.length : Int) := by omega
      have hkc := hk.cell j
      rw [foldArr_get hlj, if_neg (by omega)] at hkc
      have hkz := hk.frozen j
      have hkl := hk.lt
      obtain ⟨r0, r1, r2⟩ := rds_cells (r := r) hkr
      have hlr := hkr.lt
      have hm0 : 0 ≤ k * (x.ln + r.kerf) := Int.mul_nonneg hk0 (by omega)
      have hm1 : k * (x.ln + r.kerf) ≤ 20 * 200000 := Int.mul_le_mul hk1 (by omega) (by omega) (by omega)
      have e1 : IntKind.i64.wrap (k * (x.ln + r.kerf)) = k * (x.ln + r.kerf) := by rw [IntKind.wrap_i64]; omega
      have e2 : (k * (x.ln + r.kerf)).tdiv (r.stock + r.kerf) = foldX r k x := Int.tdiv_eq_ediv_of_nonneg hm0
      have HST := Lib.hid hst
      have HE := Lib.hid e
      clear hk hkr g2 e hq hst
      go_wp2_with fail
      rw [← HE.out]
      have kf := HK.out.set j (.int .i64 (foldX r k x))
      rw [HST.out] at kf
      have kr := HKR.out.other (B' := w.heap.size + 1) (i := j) (by omega) (.int .i64 (foldX r k x))
      have hbf : Below w.heap.size w (wr.setCell ⟨w.heap.size + 1, j, none⟩ (.int .i64 (foldX r k x))) := HBW.out.setCell (by show w.heap.size ≤ w.heap.size + 1; omega) _
      generalize wr.setCell ⟨w.heap.size + 1, j, none⟩ (.int .i64 (foldX r k x)) = wq at *
      exact ⟨⟨j + 1, by omega, by simp, kf.alloc _, kr.alloc _, hbf.alloc hbf.size _⟩, by simp [intOf]; omega⟩
    · obtain rfl : j = r.cs.length := by omega
      go_wp2_with fail
      go_ret
      have hrw : IsInts wr (some ⟨w.heap.size + 1, 0, none⟩) r.cs.length (foldL r k) := by
        refine .inr ⟨_, 0, rfl, hk.lt, by rw [fold_len]; exact Nat.le_refl _, by omega, fun i x hi => ?_⟩
        have hi2 : i < r.cs.length := by
          have := (List.getElem?_eq_some_iff.1 hi).1
          rwa [fold_len] at this
        have hc := hk.cell i
        rw [foldArr_get hi2, if_pos hi2, show ent (foldL r k) i = x by simp [ent, hi]] at hc
        simpa [IntAt] using hc
      exact ⟨_, by rw [fold_len]; rfl, by omega, hrw, g2⟩

/-! ### The greatest bound of the folds -/
def bestTo (r : Rds) : Nat → Nat
  | 0 => 1
  | n + 1 => if boundV r (foldL r (bestTo r n : Nat)) < boundV r (foldL r (n + 2 : Nat)) then n + 2 else bestTo r n
theorem bestTo_bd (r : Rds) : ∀ n, 1 ≤ bestTo r n ∧ bestTo r n ≤ n + 1
  | 0 => ⟨Nat.le_refl _, Nat.le_refl _⟩
  | n + 1 => by
    have := bestTo_bd r n
    simp only [bestTo]
    split <;> omega
/-- The fold with the greatest bound, the first of them. -/
def bestK (r : Rds) : Nat := bestTo r 19
def lowerV (r : Rds) : Int := boundV r (foldL r (bestK r : Nat))
def lowerW (r : Rds) : List Int := foldL r (bestK r : Nat)

set_option maxRecDepth 100000 in
set_option maxHeartbeats 8000000 in
theorem greatest_any (r : Rds) (w : World) (hr : r.ok) (hrow : IsCts w r.ca r.cc r.cs) :
    Calls Try.prog 70 #[.agg #[.int .i64 r.stock, .int .i64 r.kerf, .slice r.ca r.cs.length r.cc]] w fun e w' => ∃ B, e = .returned (.tuple #[.int .i64 (lowerV r), .slice (some ⟨B, 0, none⟩) (lowerW r).length r.cs.length]) ∧ w.heap.size ≤ B ∧ IsInts w' (some ⟨B, 0, none⟩) r.cs.length (lowerW r) ∧ Below w.heap.size w w' := by
  have hl8 := hr.len
  have HR := Lib.hid hr
  have HROW := Lib.hid hrow
  clear hr hrow
  have k1 := Blk.new w 43 #[.int .i64 r.stock, .int .i64 r.kerf, .slice r.ca r.cs.length r.cc]
  have hb1 : Below w.heap.size w (w.alloc (.cells #[.int .i64 r.stock, .int .i64 r.kerf, .slice r.ca r.cs.length r.cc] 43)) := (Below.refl _ w).alloc (Nat.le_refl _) _
  go_enter Try.func70, Try.ntmps70
  go_upto_region 1 with fail
  generalize w.alloc (.cells #[.int .i64 r.stock, .int .i64 r.kerf, .slice r.ca r.cs.length r.cc] 43) = w1 at *
  have K1 := Lib.hid k1
  have HB1 := Lib.hid hb1
  obtain ⟨r0, r1, r2⟩ := rds_cells (r := r) k1
  have hlr := k1.lt
  clear k1 hb1
  go_wp2_with fail
  refine (fold_any r 1 _ HR.out (by omega) (by omega) (HROW.out.belowS HB1.out)).mono ?_
  rintro e w2 ⟨B, rfl, hB, hin, hb2⟩
  have HIN := Lib.hid hin
  have K2 := Lib.hid (K1.out.belowS hb2)
  have HB2 := Lib.hid (HB1.out.trans (hb2.mono HB1.out.size))
  clear r0 r1 r2 hlr hb2 hin
  obtain ⟨r0, r1, r2⟩ := rds_cells (r := r) K2.out
  have hlr := K2.out.lt
  go_wp2_with fail
  refine (bound_any r (foldL r 1) _ _ _ HR.out (HROW.out.belowS HB2.out) HIN.out (by rw [fold_len]; omega) (fold_heft HR.out (by omega) (by omega))).mono ?_
  rintro e w3 ⟨rfl, hb3⟩
  have HIN3 := Lib.hid (HIN.out.belowS hb3)
  have K3 := Lib.hid (K2.out.belowS hb3)
  have HB3 := Lib.hid (HB2.out.trans (hb3.mono HB2.out.size))
  have hB2 : w.heap.size ≤ B := Nat.le_trans HB1.out.size hB
  clear r0 r1 r2 hlr hb3 hB
  go_wp2_with fail
  go_loopw [2, 3, 4, 5, 6] (fun m s i _ _ wr => ∃ (j c : Nat), j ≤ 19 ∧ i = .int .i64 ((j : Int) + 2) ∧ c = bestTo r j ∧ m = .int .i64 (boundV r (foldL r (c : Nat))) ∧ ∃ B', w.heap.size ≤ B' ∧ s = .slice (some ⟨B', 0, none⟩) (foldL r (c : Nat)).length r.cs.length ∧ IsInts wr (some ⟨B', 0, none⟩) r.cs.length (foldL r (c : Nat)) ∧ Blk wr w.heap.size #[.int .i64 r.stock, .int .i64 r.kerf, .slice r.ca r.cs.length r.cc] 43 ∧ Below w.heap.size w wr) (fun _ _ i _ _ _ => 22 - (intOf i).toNat)
  case atStart => exact ⟨0, 1, by omega, rfl, rfl, rfl, B, hB2, rfl, HIN3.out, K3.out, HB3.out⟩
  case round =>
    obtain ⟨j, c, hj, rfl, hc, rfl, B', hBB, rfl, hin, hk, g2⟩ := hrel
    have HC := Lib.hid hc
    have HI := Lib.hid hin
    have HK := Lib.hid hk
    have HG := Lib.hid g2
    have hbc := bestTo_bd r j
    rw [← hc] at hbc
    have hl := hk.lt
    obtain ⟨r0, r1, r2⟩ := rds_cells (r := r) hk
    have hjn : (0 : Int) ≤ (j : Int) := Int.natCast_nonneg _
    obtain ⟨mo, hmo⟩ : ∃ mo, boundV r (foldL r (c : Nat)) = mo := ⟨_, rfl⟩
    rw [hmo]
    have HMO := Lib.hid hmo
    clear hc hin g2 hk hmo
    by_cases hj2 : j ≤ 18
    · have hj3 : (j : Int) + 2 ≤ 20 := by omega
      go_wp2_with fail
      refine (fold_any r ((j : Int) + 2) _ HR.out (by omega) (by omega) (HROW.out.belowS HG.out)).mono ?_
      rintro e w5 ⟨B2, rfl, hB2, hin2, hb5⟩
      have HI2 := Lib.hid hin2
      have HI := Lib.hid (HI.out.belowS hb5)
      have HK := Lib.hid (HK.out.belowS hb5)
      have hBB2 := Nat.le_trans HG.out.size hB2
      have HG := Lib.hid (HG.out.trans (hb5.mono HG.out.size))
      clear r0 r1 r2 hl hb5 hin2 hB2
      obtain ⟨r0, r1, r2⟩ := rds_cells (r := r) HK.out
      have hl := HK.out.lt
      go_wp2_with fail
      refine (bound_any r (foldL r ((j : Int) + 2)) _ _ _ HR.out (HROW.out.belowS HG.out) HI2.out (by rw [fold_len]; omega) (fold_heft HR.out (by omega) (by omega))).mono ?_
      rintro e w6 ⟨rfl, hb6⟩
      have HI2 := Lib.hid (HI2.out.belowS hb6)
      have HI := Lib.hid (HI.out.belowS hb6)
      have HK := Lib.hid (HK.out.belowS hb6)
      have HG := Lib.hid (HG.out.trans (hb6.mono HG.out.size))
      have hst : bestTo r (j + 1) = if boundV r (foldL r (bestTo r j : Nat)) < boundV r (foldL r (j + 2 : Nat)) then j + 2 else bestTo r j := rfl
      rw [← HC.out, HMO.out, show ((j + 2 : Nat) : Int) = (j : Int) + 2 by omega] at hst
      obtain ⟨no, hno⟩ : ∃ no, boundV r (foldL r ((j : Int) + 2)) = no := ⟨_, rfl⟩
      rw [hno] at hst ⊢
      have HNO := Lib.hid hno
      have HST := Lib.hid hst
      clear r0 r1 r2 hl hb6 hno hst
      by_cases hgt : mo < no
      · go_wp2_with fail
        exact ⟨⟨j + 1, j + 2, by omega, by simp; omega, by rw [HST.out, if_pos hgt], by rw [show ((j + 2 : Nat) : Int) = (j : Int) + 2 by omega, HNO.out], B2, hBB2, by rw [show ((j + 2 : Nat) : Int) = (j : Int) + 2 by omega], by rw [show ((j + 2 : Nat) : Int) = (j : Int) + 2 by omega]; exact HI2.out, HK.out, HG.out⟩, by simp [intOf]; omega⟩
      · go_wp2_with fail
        exact ⟨⟨j + 1, c, by omega, by simp; omega, by rw [HST.out, if_neg (by omega)], by rw [HMO.out], B', hBB, rfl, HI.out, HK.out, HG.out⟩, by simp [intOf]; omega⟩
    · obtain rfl : j = 19 := by omega
      go_wp2_with fail
      refine bodyPost_ret (v := .tuple #[.int .i64 mo, .slice (some ⟨B', 0, none⟩) (foldL r (c : Nat)).length r.cs.length]) (by simp [results, Try.results70, go_sem]) rfl ?_
      refine ⟨B', ?_, hBB, by rw [show lowerW r = foldL r (c : Nat) by rw [lowerW, bestK, ← HC.out]]; exact HI.out, HG.out⟩
      rw [show lowerW r = foldL r (c : Nat) by rw [lowerW, bestK, ← HC.out], show lowerV r = mo by rw [lowerV, bestK, ← HC.out, HMO.out]]

set_option maxRecDepth 100000 in
set_option maxHeartbeats 8000000 in
theorem lower_any (r : Rds) (w : World) (hE : rodsE r = 0) (hrow : IsCts w r.ca r.cc r.cs) :
    Calls Try.prog 35 #[.agg #[.int .i64 r.stock, .int .i64 r.kerf, .slice r.ca r.cs.length r.cc]] w fun e w' => ∃ B, e = .returned (.tuple #[.int .i64 (lowerV r), .slice (some ⟨B, 0, none⟩) (lowerW r).length r.cs.length, .int .i64 0]) ∧ w.heap.size ≤ B ∧ IsInts w' (some ⟨B, 0, none⟩) r.cs.length (lowerW r) ∧ Below w.heap.size w w' := by
  have hr := rodsE_ok hE
  have hl8 := hr.len
  have HR := Lib.hid hr
  have HROW := Lib.hid hrow
  have HE := Lib.hid hE
  clear hr hrow hE
  have k1 := Blk.new w 43 #[.int .i64 r.stock, .int .i64 r.kerf, .slice r.ca r.cs.length r.cc]
  have hb1 : Below w.heap.size w (w.alloc (.cells #[.int .i64 r.stock, .int .i64 r.kerf, .slice r.ca r.cs.length r.cc] 43)) := (Below.refl _ w).alloc (Nat.le_refl _) _
  go_enter Try.func35, Try.ntmps35
  go_upto_region 1 with fail
  generalize w.alloc (.cells #[.int .i64 r.stock, .int .i64 r.kerf, .slice r.ca r.cs.length r.cc] 43) = w1 at *
  have K1 := Lib.hid k1
  have HB1 := Lib.hid hb1
  obtain ⟨r0, r1, r2⟩ := rds_cells (r := r) k1
  have hlr := k1.lt
  clear k1 hb1
  go_wp2_with fail
  refine (checkRods_any r _ (HROW.out.belowS HB1.out) (by omega)).mono ?_
  rintro e w2 ⟨rfl, hb2⟩
  have K2 := Lib.hid (K1.out.belowS hb2)
  have HB2 := Lib.hid (HB1.out.trans (hb2.mono HB1.out.size))
  clear r0 r1 r2 hlr hb2
  obtain ⟨r0, r1, r2⟩ := rds_cells (r := r) K2.out
  have hlr := K2.out.lt
  rw [HE.out]
  go_wp2_with fail
  refine (greatest_any r _ HR.out (HROW.out.belowS HB2.out)).mono ?_
  rintro e w3 ⟨B, rfl, hB, hin, hb3⟩
  have HF := Lib.hid (And.intro (Nat.le_trans HB2.out.size hB) (And.intro hin (HB2.out.trans (hb3.mono HB2.out.size))))
  clear r0 r1 r2 hlr hb3 hin hB
  go_wp2_with fail
  refine bodyPost_ret (v := .tuple #[.int .i64 (lowerV r), .slice (some ⟨B, 0, none⟩) (lowerW r).length r.cs.length, .int .i64 0]) (by simp [results, Try.results35, go_sem]) rfl ?_
  exact ⟨B, rfl, HF.out⟩
end Go.Proofs.Ytmcmhgjlpffcnaa
