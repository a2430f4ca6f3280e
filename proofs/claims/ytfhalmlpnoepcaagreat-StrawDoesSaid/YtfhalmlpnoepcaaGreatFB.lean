/- checkPlot and Check: the first error of a farm. -/
import Derived.Test.YtfhalmlpnoepcaaGreatFA
namespace Go.Proofs.YtfhalmlpnoepcaaGreat
open Go.RowKit

def plotE (p : Plt) (ahead : List Plt) : Int :=
  if nameB p.name = false then 5 else if decide (0 ≤ idxP ahead p) = true then 6 else
    if isFromB p.crop 1 3 = false then 1 else if isFromB p.size 1 100 = false then 1 else if isSpanB p.ylo p.yhi 0 1000 = false then 1 else if isFromB p.rest 1 100 = false then 1 else if isSpanB p.wlo p.whi 0 1000 = false then 1 else if isFromB p.cost 0 1000000 = false then 1 else 0
theorem plotE_ok {p : Plt} {l : List Plt} (h : plotE p l = 0) : isFromB p.crop 1 3 = true ∧ isFromB p.size 1 100 = true ∧ isSpanB p.ylo p.yhi 0 1000 = true ∧ isFromB p.rest 1 100 = true ∧ isSpanB p.wlo p.whi 0 1000 = true ∧ isFromB p.cost 0 1000000 = true := by
  unfold plotE at h
  (repeat' split at h) <;> first | omega | simp_all

theorem plt_cells {W : World} {B : Nat} {o : Plt} {t : TypeId} (h : Blk W B (pltC o) t) : PltAt W B 0 o := ⟨h.cell 0, h.cell 1, h.cell 2, h.cell 3, h.cell 4, h.cell 5, h.cell 6, h.cell 7, h.cell 8⟩

set_option maxRecDepth 100000 in
set_option maxHeartbeats 4000000 in
theorem checkPlot_any (p : Plt) (sa : Option Addr) (la ca : Nat) (l : List Plt) (w : World) (hname : p.name.size ≤ maxLen) (hs : IsPlts w (.slice sa la ca) l) (hl : l.length ≤ 100000) :
    Calls Tryz.prog 53 #[.agg #[.string p.name, .int .i64 p.crop, .int .i64 p.size, .int .i64 p.ylo, .int .i64 p.yhi, .int .i64 p.rest, .int .i64 p.wlo, .int .i64 p.whi, .int .i64 p.cost], .slice sa la ca] w
      fun e w' => e = .returned (.int .i64 (plotE p l)) ∧ Below w.heap.size w w' := by
  have hB : Below w.heap.size w (w.alloc (.cells (pltC p) 50)) := (Below.refl _ _).alloc (Nat.le_refl _) _
  have hbk : Blk (w.alloc (.cells (pltC p) 50)) w.heap.size (pltC p) 50 := Blk.new _ _ _
  have HS := Lib.hid hs
  clear hs
  go_enter Tryz.func53, Tryz.ntmps53
  go_wp2_with fail
  refine (isName_any p.name _ hname).mono ?_
  rintro e w1 ⟨rfl, rfl⟩
  cases hn : nameB p.name with
  | false =>
    have hv : plotE p l = 5 := by simp [plotE, hn]
    have HV := Lib.hid hv
    clear hv
    go_wp2_with fail
    go_ret
    exact ⟨by rw [HV.out]; rfl, hB⟩
  | true =>
  have HN := Lib.hid hn
  go_wp2_with fail
  refine (containsP_any sa la ca w.heap.size l p _ (HS.out.below hB) hl hbk).mono ?_
  rintro e w1 ⟨rfl, hb1⟩
  have hb2 := hB.trans (hb1.mono (by simp))
  have hbk1 := hbk.belowS hb1
  obtain ⟨c0, c1, c2, c3, c4, c5, c6, c7, c8⟩ := plt_cells hbk1
  simp only [Nat.zero_add] at c1 c2 c3 c4 c5 c6 c7 c8
  have hltB := hbk1.lt
  have HBK := Lib.hid hbk1
  clear hb1 hbk hbk1
  generalize hidx : decide (0 ≤ idxP l p) = x
  have HX := Lib.hid hidx
  clear hidx hn
  cases x with
  | true =>
    have hv : plotE p l = 6 := by rw [plotE, if_neg (by rw [HN.out]; simp), if_pos HX.out]
    have HV := Lib.hid hv
    clear hv
    go_wp2_with fail
    go_ret
    exact ⟨by rw [HV.out]; rfl, hb2⟩
  | false =>
  go_wp2_with fail
  refine (isCrop_any p.crop _).mono ?_
  rintro e w3 ⟨rfl, rfl⟩
  cases h3 : isFromB p.crop 1 3 with
  | false =>
    have hv : plotE p l = 1 := by rw [plotE, if_neg (by rw [HN.out]; simp), if_neg (by rw [HX.out]; simp), if_pos h3]
    have HV := Lib.hid hv
    clear hv
    go_wp2_with fail
    go_ret
    exact ⟨by rw [HV.out]; rfl, hb2⟩
  | true =>
  have HCR := Lib.hid h3
  clear h3
  go_wp2_with fail
  refine (isFrom_any p.size 1 100 _).mono ?_
  rintro e w4 ⟨rfl, rfl⟩
  cases h4 : isFromB p.size 1 100 with
  | false =>
    have hv : plotE p l = 1 := by rw [plotE, if_neg (by rw [HN.out]; simp), if_neg (by rw [HX.out]; simp), if_neg (by rw [HCR.out]; simp), if_pos h4]
    have HV := Lib.hid hv
    clear hv
    go_wp2_with fail
    go_ret
    exact ⟨by rw [HV.out]; rfl, hb2⟩
  | true =>
  have HSZ := Lib.hid h4
  clear h4
  go_wp2_with fail
  refine (isSpan_any p.ylo p.yhi 0 1000 _).mono ?_
  rintro e w5 ⟨rfl, hb5'⟩
  have hb5 := hb2.trans (hb5'.mono (by have := hb2.size; omega))
  have HB5 := Lib.hid (HBK.out.belowS hb5')
  clear c0 c1 c2 c3 c4 c5 c6 c7 c8 hb5' hltB
  obtain ⟨c0, c1, c2, c3, c4, c5, c6, c7, c8⟩ := plt_cells HB5.out
  simp only [Nat.zero_add] at c1 c2 c3 c4 c5 c6 c7 c8
  have hltB := HB5.out.lt
  cases h5 : isSpanB p.ylo p.yhi 0 1000 with
  | false =>
    have hv : plotE p l = 1 := by rw [plotE, if_neg (by rw [HN.out]; simp), if_neg (by rw [HX.out]; simp), if_neg (by rw [HCR.out]; simp), if_neg (by rw [HSZ.out]; simp), if_pos h5]
    have HV := Lib.hid hv
    clear hv
    go_wp2_with fail
    go_ret
    exact ⟨by rw [HV.out]; rfl, hb5⟩
  | true =>
  have HYI := Lib.hid h5
  clear h5
  go_wp2_with fail
  refine (isFrom_any p.rest 1 100 _).mono ?_
  rintro e w6 ⟨rfl, rfl⟩
  cases h6 : isFromB p.rest 1 100 with
  | false =>
    have hv : plotE p l = 1 := by rw [plotE, if_neg (by rw [HN.out]; simp), if_neg (by rw [HX.out]; simp), if_neg (by rw [HCR.out]; simp), if_neg (by rw [HSZ.out]; simp), if_neg (by rw [HYI.out]; simp), if_pos h6]
    have HV := Lib.hid hv
    clear hv
    go_wp2_with fail
    go_ret
    exact ⟨by rw [HV.out]; rfl, hb5⟩
  | true =>
  have HRE := Lib.hid h6
  clear h6
  go_wp2_with fail
  refine (isSpan_any p.wlo p.whi 0 1000 _).mono ?_
  rintro e w7 ⟨rfl, hb7'⟩
  have hb7 := hb5.trans (hb7'.mono (by have := hb5.size; omega))
  have HB7 := Lib.hid (HB5.out.belowS hb7')
  clear c0 c1 c2 c3 c4 c5 c6 c7 c8 hb7' hltB
  obtain ⟨c0, c1, c2, c3, c4, c5, c6, c7, c8⟩ := plt_cells HB7.out
  simp only [Nat.zero_add] at c1 c2 c3 c4 c5 c6 c7 c8
  have hltB := HB7.out.lt
  cases h7 : isSpanB p.wlo p.whi 0 1000 with
  | false =>
    have hv : plotE p l = 1 := by rw [plotE, if_neg (by rw [HN.out]; simp), if_neg (by rw [HX.out]; simp), if_neg (by rw [HCR.out]; simp), if_neg (by rw [HSZ.out]; simp), if_neg (by rw [HYI.out]; simp), if_neg (by rw [HRE.out]; simp), if_pos h7]
    have HV := Lib.hid hv
    clear hv
    go_wp2_with fail
    go_ret
    exact ⟨by rw [HV.out]; rfl, hb7⟩
  | true =>
  have HWE := Lib.hid h7
  clear h7
  go_wp2_with fail
  refine (isFrom_any p.cost 0 1000000 _).mono ?_
  rintro e w8 ⟨rfl, rfl⟩
  cases h8 : isFromB p.cost 0 1000000 with
  | false =>
    have hv : plotE p l = 1 := by rw [plotE, if_neg (by rw [HN.out]; simp), if_neg (by rw [HX.out]; simp), if_neg (by rw [HCR.out]; simp), if_neg (by rw [HSZ.out]; simp), if_neg (by rw [HYI.out]; simp), if_neg (by rw [HRE.out]; simp), if_neg (by rw [HWE.out]; simp), if_pos h8]
    have HV := Lib.hid hv
    clear hv
    go_wp2_with fail
    go_ret
    exact ⟨by rw [HV.out]; rfl, hb7⟩
  | true =>
  have HCO := Lib.hid h8
  clear h8
  have hv : plotE p l = 0 := by rw [plotE, if_neg (by rw [HN.out]; simp), if_neg (by rw [HX.out]; simp), if_neg (by rw [HCR.out]; simp), if_neg (by rw [HSZ.out]; simp), if_neg (by rw [HYI.out]; simp), if_neg (by rw [HRE.out]; simp), if_neg (by rw [HWE.out]; simp), if_neg (by rw [HCO.out]; simp)]
  have HV := Lib.hid hv
  clear hv
  go_wp2_with fail
  go_ret
  exact ⟨by rw [HV.out]; rfl, hb7⟩

/-- The first of n numbers that is not 0, or 0. -/
def firstNZ (g : Nat → Int) (n : Nat) : Int := match (List.range n).find? (fun i => !(g i == 0)) with | some i => g i | none => 0
theorem firstNZ_zero {g : Nat → Int} {n : Nat} (h : ∀ i, i < n → g i = 0) : firstNZ g n = 0 := by
  unfold firstNZ
  have : (List.range n).find? (fun i => !(g i == 0)) = none := by
    rw [List.find?_eq_none]
    intro i hi
    simp [h i (by simpa using hi)]
  rw [this]
theorem firstNZ_at {g : Nat → Int} {n j : Nat} (hj : j < n) (h : ∀ i, i < j → g i = 0) (hz : g j ≠ 0) : firstNZ g n = g j := by
  unfold firstNZ
  have : (List.range n).find? (fun i => !(g i == 0)) = some j := by
    rw [List.find?_range_eq_some]
    refine ⟨by simp [hz], by simpa using hj, fun i hi => by simp [h i hi]⟩
  rw [this]
theorem firstNZ_all {g : Nat → Int} {n : Nat} (h : firstNZ g n = 0) : ∀ i, i < n → g i = 0 := by
  intro i hi
  unfold firstNZ at h
  cases hf : (List.range n).find? (fun i => !(g i == 0)) with
  | none =>
    rw [List.find?_eq_none] at hf
    simpa using hf i (by simpa using hi)
  | some k =>
    rw [hf] at h
    have := List.find?_some hf
    simp [show g k = 0 from h] at this

/-- A farm in memory. -/
structure Frm where
  pa : Option Addr
  pc : Nat
  ps : List Plt
  dry : Int
abbrev frmV (F : Frm) : Value := .agg #[.slice F.pa F.ps.length F.pc, .int .i64 F.dry]
abbrev frmC (F : Frm) : Array Value := #[.slice F.pa F.ps.length F.pc, .int .i64 F.dry]
def IsFarm (w : World) (F : Frm) : Prop := IsPlts w (.slice F.pa F.ps.length F.pc) F.ps
theorem IsFarm.below {w w' : World} {F : Frm} (h : IsFarm w F) (hb : Below w.heap.size w w') : IsFarm w' F := IsPlts.below h hb
theorem IsFarm.len {w : World} {F : Frm} (h : IsFarm w F) : F.ps.length ≤ 9223372036854775807 := by
  rcases h with ⟨_, h⟩ | ⟨_, _, _, _, _, h3, h4, _⟩
  · rw [h]; simp
  · omega
def plotsE (ps : List Plt) : Int := firstNZ (fun i => match ps[i]? with | some p => plotE p (ps.take i) | none => 0) ps.length
def checkE (F : Frm) : Int := if 12 < F.ps.length then 3 else if ¬ plotsE F.ps = 0 then plotsE F.ps else if isFromB F.dry 0 1000 = false then 1 else 0
/-- What a field is that may be. -/
def Plt.ok (p : Plt) : Prop := (1 ≤ p.crop ∧ p.crop ≤ 3) ∧ (1 ≤ p.size ∧ p.size ≤ 100) ∧ (0 ≤ p.ylo ∧ p.ylo ≤ 1000) ∧ 0 ≤ p.cost ∧ p.cost ≤ 1000000
theorem checkE_ok {F : Frm} (h : checkE F = 0) : F.ps.length ≤ 12 ∧ ∀ p ∈ F.ps, p.ok := by
  unfold checkE at h
  split at h
  · cases h
  next h1 =>
    split at h
    · next h2 => exact absurd h h2
    next h2 =>
      refine ⟨by omega, fun p hp => ?_⟩
      obtain ⟨i, hi, rfl⟩ := List.getElem_of_mem hp
      have := firstNZ_all (show firstNZ _ _ = 0 from Decidable.of_not_not h2) i hi
      rw [List.getElem?_eq_getElem hi] at this
      obtain ⟨k1, k2, k3, k4, k5, k6⟩ := plotE_ok this
      rw [isFromB_iff] at k1 k2 k6
      rw [isSpanB_iff] at k3
      exact ⟨k1, k2, ⟨k3.1, by omega⟩, k6⟩


abbrev HeldP (W : World) (B : Nat) (f : Plt) (D : Nat) (u v : Value) (w : World) : Prop := Below W.heap.size W w ∧
  ((w.cell? ⟨B, 0, none⟩ = some (.string f.name) ∧ w.cell? ⟨B, 1, none⟩ = some (.int .i64 f.crop) ∧ w.cell? ⟨B, 2, none⟩ = some (.int .i64 f.size) ∧ w.cell? ⟨B, 3, none⟩ = some (.int .i64 f.ylo) ∧ w.cell? ⟨B, 4, none⟩ = some (.int .i64 f.yhi) ∧ w.cell? ⟨B, 5, none⟩ = some (.int .i64 f.rest) ∧ w.cell? ⟨B, 6, none⟩ = some (.int .i64 f.wlo) ∧ w.cell? ⟨B, 7, none⟩ = some (.int .i64 f.whi) ∧ w.cell? ⟨B, 8, none⟩ = some (.int .i64 f.cost)) ∧
    (w.cell? ⟨D, 0, none⟩ = some u ∧ w.cell? ⟨D, 1, none⟩ = some v))
theorem HeldP.step {W w w' : World} {B D : Nat} {f : Plt} {u v : Value} (h : HeldP W B f D u v w) (hB : B < W.heap.size) (hD : D < W.heap.size) (hb : Below w.heap.size w w') : HeldP W B f D u v w' := by
  have hs := h.1.size
  have c : ∀ b i, b < W.heap.size → w'.cell? ⟨b, i, none⟩ = w.cell? ⟨b, i, none⟩ := fun b i hb' => hb.cell (p := ⟨b, i, none⟩) (Nat.lt_of_lt_of_le hb' hs)
  obtain ⟨h0, ⟨a0, a1, a2, a3, a4, a5, a6, a7, a8⟩, d0, d1⟩ := h
  exact ⟨h0.trans (hb.mono hs), ⟨(c _ _ hB).trans a0, (c _ _ hB).trans a1, (c _ _ hB).trans a2, (c _ _ hB).trans a3, (c _ _ hB).trans a4, (c _ _ hB).trans a5, (c _ _ hB).trans a6, (c _ _ hB).trans a7, (c _ _ hB).trans a8⟩, (c _ _ hD).trans d0, (c _ _ hD).trans d1⟩

set_option maxRecDepth 100000 in
set_option maxHeartbeats 8000000 in
theorem check_any (R : Frm) (w : World) (hR : IsFarm w R) :
    Calls Tryz.prog 27 #[.agg #[.slice R.pa R.ps.length R.pc, .int .i64 R.dry]] w fun e w' => e = .returned (.int .i64 (checkE R)) ∧ Below w.heap.size w w' := by
  have hlf := hR.len
  obtain ⟨fa, fc, fs, dry⟩ := R
  simp only [] at hlf
  by_cases h12 : 12 < fs.length
  · have hv : checkE ⟨fa, fc, fs, dry⟩ = 3 := by simp [checkE, h12]
    have HV := Lib.hid hv
    clear hv
    go_enter Tryz.func27, Tryz.ntmps27
    go_wp2_with fail
    go_ret
    exact ⟨by rw [HV.out]; rfl, (Below.refl _ _).alloc (Nat.le_refl _) _⟩
  have hbR : Blk (w.alloc (.cells #[.slice fa fs.length fc, .int .i64 dry] 24)) w.heap.size #[.slice fa fs.length fc, .int .i64 dry] 24 := Blk.new _ _ _
  have hB : Below w.heap.size w (w.alloc (.cells #[.slice fa fs.length fc, .int .i64 dry] 24)) := (Below.refl _ _).alloc (Nat.le_refl _) _
  have HR := Lib.hid hR
  clear hR
  go_enter Tryz.func27, Tryz.ntmps27
  go_wp2_with fail
  go_loopw [13, 3, 4, 5] (fun i _ _ _ wr => ∃ j : Nat, j ≤ fs.length ∧ i = .int .i64 j ∧ (∀ k, k < j → (match fs[k]? with | some f => plotE f (fs.take k) | none => 0) = 0) ∧ Blk wr w.heap.size #[.slice fa fs.length fc, .int .i64 dry] 24 ∧ Below w.heap.size w wr) (fun i _ _ _ _ => fs.length - (intOf i).toNat)
  case atStart => exact ⟨0, Nat.zero_le _, rfl, fun k h => by omega, hbR, hB⟩
  case round =>
    obtain ⟨j, hj, rfl, hno, g1, g2⟩ := hrel
    have HNO := Lib.hid hno
    have hRr := HR.out.below g2
    clear hno
    by_cases hlj : j < fs.length
    · rcases hRr with ⟨_, hn⟩ | ⟨b, off, c, h1, h2, h3, h4, h5⟩
      · simp only [] at hn
        rw [hn] at hlj
        simp at hlj
      have hq : fs[j]? = some fs[j] := List.getElem?_eq_getElem hlj
      obtain ⟨⟨d0, d1, d2, d3, d4, d5, d6, d7, d8⟩, hfin⟩ := h5 j _ hq
      have hpre := IsPlts.pre (Nat.le_of_lt hlj) h2 h3 h4 h5
      obtain ⟨rfl, _, rfl⟩ := slice_inj h1
      simp only [] at d0 d1 d2 d3 d4 d5 d6 d7 d8 hfin h3
      generalize fs[j] = F at *
      have HQ := Lib.hid hq
      clear hq h1 h5
      have hj0 : (0 : Int) ≤ (j : Int) := Int.natCast_nonneg _
      have hj1 : (j : Int) ≤ (fs.length : Int) := by omega
      have hj2 : (j : Int) ≤ (fc : Int) := by omega
      have hbF : Blk (wr.alloc (.cells (pltC F) 50)) wr.heap.size (pltC F) 50 := Blk.new _ _ _
      have hbR2 := g1.alloc (.cells (pltC F) 50)
      have hlt1 := g1.lt
      have hb0 : Below wr.heap.size wr (wr.alloc (.cells (pltC F) 50)) := (Below.refl _ wr).alloc (Nat.le_refl _) _
      have hx : HeldP (wr.alloc (.cells (pltC F) 50)) wr.heap.size F w.heap.size (.slice (some ⟨b, off, none⟩) fs.length fc) (.int .i64 dry) (wr.alloc (.cells (pltC F) 50)).drew :=
        ⟨(Below.refl _ _).drew, ⟨hbF.cell 0, hbF.cell 1, hbF.cell 2, hbF.cell 3, hbF.cell 4, hbF.cell 5, hbF.cell 6, hbF.cell 7, hbF.cell 8⟩, hbR2.cell 0, hbR2.cell 1⟩
      have hB1 : wr.heap.size < (wr.alloc (.cells (pltC F) 50)).heap.size := by simp
      have hB2 : w.heap.size < (wr.alloc (.cells (pltC F) 50)).heap.size := by simp; omega
      have hp1 : IsPlts (wr.alloc (.cells (pltC F) 50)).drew (.slice (some ⟨b, off, none⟩) j fc) (fs.take j) := hpre.below hb0.drew
      have hl1 : (fs.take j).length ≤ 100000 := by rw [List.length_take]; omega
      have c0 := g1.cell 0
      simp only [List.getElem?_toArray, List.getElem?_cons_zero] at c0
      clear hbF hbR2
      unfold pltC at hx hp1 hB1 hB2 hb0
      go_wp2_with fail
      go_region_held3 (fun w' => Below (wr.alloc (.cells #[.string F.name, .int .i64 F.crop, .int .i64 F.size, .int .i64 F.ylo, .int .i64 F.yhi, .int .i64 F.rest, .int .i64 F.wlo, .int .i64 F.whi, .int .i64 F.cost] 50)).heap.size (wr.alloc (.cells #[.string F.name, .int .i64 F.crop, .int .i64 F.size, .int .i64 F.ylo, .int .i64 F.yhi, .int .i64 F.rest, .int .i64 F.wlo, .int .i64 F.whi, .int .i64 F.cost] 50)) w' ∧
          ((w'.cell? ⟨wr.heap.size, 0, none⟩ = some (.string F.name) ∧ w'.cell? ⟨wr.heap.size, 1, none⟩ = some (.int .i64 F.crop) ∧ w'.cell? ⟨wr.heap.size, 2, none⟩ = some (.int .i64 F.size) ∧ w'.cell? ⟨wr.heap.size, 3, none⟩ = some (.int .i64 F.ylo) ∧ w'.cell? ⟨wr.heap.size, 4, none⟩ = some (.int .i64 F.yhi) ∧ w'.cell? ⟨wr.heap.size, 5, none⟩ = some (.int .i64 F.rest) ∧ w'.cell? ⟨wr.heap.size, 6, none⟩ = some (.int .i64 F.wlo) ∧ w'.cell? ⟨wr.heap.size, 7, none⟩ = some (.int .i64 F.whi) ∧ w'.cell? ⟨wr.heap.size, 8, none⟩ = some (.int .i64 F.cost)) ∧
            (w'.cell? ⟨w.heap.size, 0, none⟩ = some (.slice (some ⟨b, off, none⟩) fs.length fc) ∧ w'.cell? ⟨w.heap.size, 1, none⟩ = some (.int .i64 dry))))
        (first | (with_reducible exact hx) | (with_reducible refine HeldP.step ?_ hB1 hB2 hb3; with_reducible assumption))
        (first | (go_at_call 53; (with_reducible refine (checkPlot_any F (some ⟨b, off, none⟩) j fc (fs.take j) _ hfin hp1 hl1).mono ?_); rintro r w3 ⟨rfl, hb3⟩))
      have hb7 := g2.trans ((hb0.drew.trans (hb3.mono (by simp))).mono g2.size)
      have g7 := g1.belowS (hb0.drew.trans (hb3.mono (by simp)))
      generalize hge : plotE F (fs.take j) = E
      have HGE := Lib.hid hge
      clear hge hx hp1 hb3 hb0
      by_cases hE : E = 0
      · have hz1 : (E == 0) = true := by simp [hE]
        have hz2 : (E != 0) = false := by simp [hE]
        have HE := Lib.hid hE
        clear hE
        go_wp2_with fail
        refine ⟨⟨j + 1, by omega, by simp, ?_, g7, hb7⟩, by simp [intOf]; omega⟩
        intro k hk
        by_cases hkj : k = j
        · subst hkj
          rw [HQ.out]
          exact HGE.out.trans HE.out
        · exact HNO.out k (by omega)
      · have hz1 : (E == 0) = false := by simp [hE]
        have hz2 : (E != 0) = true := by simp [hE]
        have hfe : plotsE fs = E := by
          have := firstNZ_at (g := fun i => match fs[i]? with | some f => plotE f (fs.take i) | none => 0) hlj (fun i hi => HNO.out i hi) (by simp only [HQ.out]; rw [HGE.out]; exact hE)
          simp only [HQ.out] at this
          exact this.trans HGE.out
        have hv : checkE ⟨some ⟨b, off, none⟩, fc, fs, dry⟩ = E := by
          show (if 12 < fs.length then _ else _) = E
          rw [if_neg (by omega), if_pos (by rw [hfe]; exact hE), hfe]
        have HV := Lib.hid hv
        clear hv hfe hE
        go_wp2_with fail
        go_ret
        exact ⟨by rw [HV.out]; rfl, hb7⟩
    · obtain rfl : j = fs.length := by omega
      have hfe : plotsE fs = 0 := firstNZ_zero (fun i hi => HNO.out i hi)
      have HFE := Lib.hid hfe
      clear hfe HNO hRr
      have c1 := g1.cell 1
      simp only [List.getElem?_toArray, List.getElem?_cons_zero, List.getElem?_cons_succ] at c1
      go_wp2_with fail
      refine (isFrom_any dry 0 1000 _).mono ?_
      rintro e w2 ⟨rfl, rfl⟩
      have hv : checkE ⟨fa, fc, fs, dry⟩ = if isFromB dry 0 1000 = false then 1 else 0 := by
        show (if 12 < fs.length then _ else _) = _
        rw [if_neg (by omega), if_neg (by rw [HFE.out]; simp)]
      have HV := Lib.hid hv
      clear hv
      cases hd : isFromB dry 0 1000 with
      | false =>
        have HD := Lib.hid hd
        clear hd
        go_wp2_with fail
        go_ret
        exact ⟨by rw [HV.out, if_pos HD.out]; rfl, g2⟩
      | true =>
        have HD := Lib.hid hd
        clear hd
        go_wp2_with fail
        go_ret
        exact ⟨by rw [HV.out, if_neg (by rw [HD.out]; simp)]; rfl, g2⟩
end Go.Proofs.YtfhalmlpnoepcaaGreat
