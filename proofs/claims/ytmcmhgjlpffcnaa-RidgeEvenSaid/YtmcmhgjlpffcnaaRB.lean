/- The specification's counted and Ways. No condition but the bounds of what is given. -/
import Derived.Test.YtmcmhgjlpffcnaaRA
import Derived.BigQuiet
set_option linter.unusedSimpArgs false
namespace Go.Proofs.Ytmcmhgjlpffcnaa
open Go.RowKit

theorem capN_le {v : Nat} (h : v ≤ MW) : capN v = (v : Int) := by unfold capN; omega
theorem capN_gt {v : Nat} (h : MW < v) : (1000000000000000 : Int) < capN v := by unfold capN; unfold MW at *; omega
/-- The table of the whole ridge at a gap of it. -/
theorem tab_whole {ps : List Pce} {en n : Nat} {g : Gp} (hg : g.p < 10) (hn : g.n ≤ n) : tabF ps en (n + 1) 0 (g.n * 10 + g.p) = capN (wy ps en g) := by
  rw [tab_at g.n g.p hg, if_pos (by omega)]
/-- What counted returns. -/
def CountedSaid (R : Rdg) (w : World) (e : Ending) (w' : World) : Prop :=
  ((waysE R = 0 ∧ ∃ B, e = .returned (.tuple #[.slice (some ⟨B, 0, none⟩) (R.top.n + 1) (R.top.n + 1), .int .i64 0]) ∧ w.heap.size ≤ B ∧ TabR w' B ((R.top.n + 1) * 10) (tabF R.ps R.en.toNat (R.top.n + 1) 0)) ∨ (waysE R ≠ 0 ∧ e = .returned (.tuple #[.slice none 0 0, .int .i64 (waysE R)]))) ∧ Below w.heap.size w w'

set_option maxRecDepth 100000 in
set_option maxHeartbeats 8000000 in
theorem refCounted_any (R : Rdg) (w : World) (hR : IsRdg w R) (hbig : R.ps.length ≤ 1000000000) :
    Calls Try.prog 54 #[.agg #[.int .i64 R.len, .int .i64 R.st, .int .i64 R.en, .slice R.pa R.ps.length R.pc]] w (CountedSaid R w) := by
  have k1 := Blk.new w 24 #[.int .i64 R.len, .int .i64 R.st, .int .i64 R.en, .slice R.pa R.ps.length R.pc]
  have hb1 : Below w.heap.size w (w.alloc (.cells #[.int .i64 R.len, .int .i64 R.st, .int .i64 R.en, .slice R.pa R.ps.length R.pc] 24)) := (Below.refl _ w).alloc (Nat.le_refl _) _
  have HR := Lib.hid hR
  clear hR
  go_enter Try.func54, Try.ntmps54
  go_upto_region 1 with fail
  generalize w.alloc (.cells #[.int .i64 R.len, .int .i64 R.st, .int .i64 R.en, .slice R.pa R.ps.length R.pc] 24) = w1 at *
  have K1 := Lib.hid k1
  have HB1 := Lib.hid hb1
  obtain ⟨r0, r1, r2, r3⟩ := rdg_cells (R := R) k1
  have hlr := k1.lt
  clear k1 hb1
  go_wp2_with fail
  refine (refCheck_any R _ (HR.out.belowS HB1.out).row hbig HR.out.names).mono ?_
  rintro e w2 ⟨rfl, hb2⟩
  have K2 := Lib.hid (K1.out.belowS hb2)
  have HB2 := Lib.hid (HB1.out.trans (hb2.mono HB1.out.size))
  clear r0 r1 r2 r3 hlr hb2
  by_cases hE : rdgE R = 0
  rotate_left
  · have HV := Lib.hid (show waysE R = rdgE R by unfold waysE; rw [if_pos hE])
    have HE := Lib.hid hE
    have q : (rdgE R != 0) = true := by simpa using hE
    obtain ⟨eR, hRR⟩ : ∃ eR, rdgE R = eR := ⟨_, rfl⟩
    rw [hRR] at HV HE q ⊢
    clear hE hRR
    go_wp2_with fail
    exact bodyPost_ret (v := .tuple #[.slice none 0 0, .int .i64 eR]) (by simp [results, Try.results54, go_sem]) rfl ⟨.inr ⟨by rw [HV.out]; exact HE.out, by rw [HV.out]⟩, HB2.out⟩
  have hro := rdgE_ridge hE
  have hts : R.len = (R.top.n : Int) ∧ R.st = (R.top.p : Int) := by
    obtain ⟨⟨h1, h2⟩, ⟨h3, h4⟩, -⟩ := hro
    simp only [Rdg.top]
    omega
  have HRO := Lib.hid hro
  have HE := Lib.hid hE
  have HTS := Lib.hid hts
  rw [hE]
  clear hE hro hts
  obtain ⟨r0, r1, r2, r3⟩ := rdg_cells (R := R) K2.out
  have hlr := K2.out.lt
  go_wp2_with fail
  refine (refTable_any R _ HRO.out (HR.out.belowS HB2.out).row).mono ?_
  rintro e w3 ⟨B, rfl, hB, hT, hb3⟩
  have K3 := Lib.hid (K2.out.belowS hb3)
  have HB3 := Lib.hid (HB2.out.trans (hb3.mono HB2.out.size))
  have HT := Lib.hid hT
  have HBB := Lib.hid (Nat.le_trans HB2.out.size hB)
  clear r0 r1 r2 r3 hlr hb3 hB
  obtain ⟨r0, r1, r2, r3⟩ := rdg_cells (R := R) K3.out
  rw [HTS.out.1] at r0
  rw [HTS.out.2] at r1
  have hlr := K3.out.lt
  have ht9 := HRO.out.top
  obtain ⟨ht9a, ht9b⟩ := ht9
  have tc := hT.cell (i := R.top.n * 10 + R.top.p) (by omega)
  rw [tab_whole (g := R.top) (by omega) (Nat.le_refl _)] at tc
  have tl := hT.lt
  have i1 : (R.top.n : Int) < (R.top.n : Int) + 1 := by omega
  have i2 : (R.top.p : Int) < 10 := by omega
  have i3 : (0 : Int) ≤ (R.top.n : Int) := Int.natCast_nonneg _
  have i4 : (0 : Int) ≤ (R.top.p : Int) := Int.natCast_nonneg _
  have hw : waysE R = if MW < waysN R then 3 else 0 := by unfold waysE; rw [if_neg (by rw [HE.out]; simp)]
  have HW := Lib.hid hw
  clear hT hw
  by_cases hM : MW < waysN R
  · have hq : (1000000000000000 : Int) < capN (wy R.ps R.en.toNat R.top) := capN_gt hM
    have HV := Lib.hid (show waysE R = 3 by rw [HW.out, if_pos hM])
    have hd : decide ((1000000000000000 : Int) < capN (wy R.ps R.en.toNat R.top)) = true := decide_eq_true hq
    generalize capN (wy R.ps R.en.toNat R.top) = cv at *
    clear hM
    go_upto_region 5 with fail
    go_quiet (fail)
    go_wp2_with fail
    exact bodyPost_ret (v := .tuple #[.slice none 0 0, .int .i64 3]) (by simp [results, Try.results54, go_sem]) rfl ⟨.inr ⟨by rw [HV.out]; decide, by rw [HV.out]⟩, HB3.out.trans ((below_dn _ _ _).mono HB3.out.size)⟩
  · have hq : ¬ (1000000000000000 : Int) < capN (wy R.ps R.en.toNat R.top) := by
      rw [capN_le (show wy R.ps R.en.toNat R.top ≤ MW from Nat.le_of_not_lt hM)]
      have : wy R.ps R.en.toNat R.top ≤ MW := Nat.le_of_not_lt hM
      unfold MW at this
      omega
    have HV := Lib.hid (show waysE R = 0 by rw [HW.out, if_neg hM])
    have hd : decide ((1000000000000000 : Int) < capN (wy R.ps R.en.toNat R.top)) = false := decide_eq_false hq
    generalize capN (wy R.ps R.en.toNat R.top) = cv at *
    clear hM
    go_upto_region 5 with fail
    go_quiet (fail)
    go_wp2_with fail
    exact bodyPost_ret (v := .tuple #[.slice (some ⟨B, 0, none⟩) (R.top.n + 1) (R.top.n + 1), .int .i64 0]) (by simp [results, Try.results54, go_sem]) rfl ⟨.inl ⟨HV.out, B, rfl, HBB.out, HT.out.belowS (below_dn _ _ _)⟩, HB3.out.trans ((below_dn _ _ _).mono HB3.out.size)⟩

set_option maxRecDepth 100000 in
set_option maxHeartbeats 8000000 in
theorem refWays_any (R : Rdg) (w : World) (hR : IsRdg w R) (hbig : R.ps.length ≤ 1000000000) :
    Calls Try.prog 23 #[.agg #[.int .i64 R.len, .int .i64 R.st, .int .i64 R.en, .slice R.pa R.ps.length R.pc]] w fun e w' => e = .returned (.tuple #[.int .i64 (endI (waysE R) (waysN R : Int)), .int .i64 (waysE R)]) ∧ Below w.heap.size w w' := by
  have k1 := Blk.new w 24 #[.int .i64 R.len, .int .i64 R.st, .int .i64 R.en, .slice R.pa R.ps.length R.pc]
  have hb1 : Below w.heap.size w (w.alloc (.cells #[.int .i64 R.len, .int .i64 R.st, .int .i64 R.en, .slice R.pa R.ps.length R.pc] 24)) := (Below.refl _ w).alloc (Nat.le_refl _) _
  have HR := Lib.hid hR
  clear hR
  go_enter Try.func23, Try.ntmps23
  go_upto_region 1 with fail
  generalize w.alloc (.cells #[.int .i64 R.len, .int .i64 R.st, .int .i64 R.en, .slice R.pa R.ps.length R.pc] 24) = w1 at *
  have K1 := Lib.hid k1
  have HB1 := Lib.hid hb1
  obtain ⟨r0, r1, r2, r3⟩ := rdg_cells (R := R) k1
  have hlr := k1.lt
  clear k1 hb1
  go_wp2_with fail
  refine (refCounted_any R _ (HR.out.belowS HB1.out) hbig).mono ?_
  rintro e w2 ⟨h, hb2⟩
  have K2 := Lib.hid (K1.out.belowS hb2)
  have HB2 := Lib.hid (HB1.out.trans (hb2.mono HB1.out.size))
  clear r0 r1 r2 r3 hlr hb2
  rcases h with ⟨hE, B, rfl, hB, hT⟩ | ⟨hE, rfl⟩
  rotate_left
  · have HE := Lib.hid hE
    have q : (waysE R != 0) = true := by simpa using hE
    have hv : endI (waysE R) (waysN R : Int) = 0 := by unfold endI; rw [if_neg hE]
    have HV := Lib.hid hv
    obtain ⟨eR, hRR⟩ : ∃ eR, waysE R = eR := ⟨_, rfl⟩
    have HRR := Lib.hid hRR
    rw [hRR] at q ⊢
    clear hE hv hRR
    go_wp2_with fail
    exact bodyPost_ret (v := .tuple #[.int .i64 0, .int .i64 eR]) (by simp [results, Try.results23, go_sem]) rfl ⟨by rw [HV.out, HRR.out], HB2.out⟩
  have hro := rdgE_ridge (waysE_zero hE).1
  have hM := (waysE_zero hE).2
  have hts : R.len = (R.top.n : Int) ∧ R.st = (R.top.p : Int) := by
    obtain ⟨⟨h1, h2⟩, ⟨h3, h4⟩, -⟩ := hro
    simp only [Rdg.top]
    omega
  have ht9 := hro.top
  obtain ⟨ht9a, ht9b⟩ := ht9
  obtain ⟨r0, r1, r2, r3⟩ := rdg_cells (R := R) K2.out
  rw [hts.1] at r0
  rw [hts.2] at r1
  have hlr := K2.out.lt
  have tc := hT.cell (i := R.top.n * 10 + R.top.p) (by omega)
  rw [tab_whole (g := R.top) (by omega) (Nat.le_refl _), capN_le (show wy R.ps R.en.toNat R.top ≤ MW from hM)] at tc
  have tl := hT.lt
  have i1 : (R.top.n : Int) < (R.top.n : Int) + 1 := by omega
  have i2 : (R.top.p : Int) < 10 := by omega
  have i3 : (0 : Int) ≤ (R.top.n : Int) := Int.natCast_nonneg _
  have i4 : (0 : Int) ≤ (R.top.p : Int) := Int.natCast_nonneg _
  have HV := Lib.hid (show endI (waysE R) (waysN R : Int) = (wy R.ps R.en.toNat R.top : Int) by unfold endI; rw [if_pos hE]; rfl)
  have HE := Lib.hid hE
  generalize wy R.ps R.en.toNat R.top = cv at *
  clear hT hE hM hro hts hB
  go_upto_region 4 with fail
  go_quiet (fail)
  go_wp2_with fail
  exact bodyPost_ret (v := .tuple #[.int .i64 (cv : Int), .int .i64 0]) (by simp [results, Try.results23, go_sem]) rfl ⟨by rw [HV.out, HE.out], HB2.out.trans ((below_dn _ _ _).mono HB2.out.size)⟩
end Go.Proofs.Ytmcmhgjlpffcnaa
