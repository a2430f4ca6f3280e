/- Check: the first error of a roof. -/
import Derived.Test.YtpdgcajbdaleeaaQ
namespace Go.Proofs.Ytpdgcajbdaleeaa
open Go.RowKit

structure Roo where
  fa : Option Addr
  fc : Nat
  fs : List Fac
  oa : Option Addr
  oc : Nat
  os : List Opn
def IsRoof (w : World) (R : Roo) : Prop := IsFacs w (.slice R.fa R.fs.length R.fc) R.fs ∧ IsOpns w (.slice R.oa R.os.length R.oc) R.os
theorem IsRoof.below {w w' : World} {R : Roo} (h : IsRoof w R) (hb : Below w.heap.size w w') : IsRoof w' R := ⟨h.1.below hb, h.2.below hb⟩

/-- The first of n numbers that is not 0, or 0. -/
def firstNZ (g : Nat → Int) (n : Nat) : Int := match (List.range n).find? (fun i => !(g i == 0)) with | some i => g i | none => 0
theorem firstNZ_zero {g : Nat → Int} {n : Nat} (h : ∀ i, i < n → g i = 0) : firstNZ g n = 0 := by
  unfold firstNZ
  have : (List.range n).find? (fun i => !(g i == 0)) = none := by
    rw [List.find?_eq_none]
    intro i hi
    simp [h i (by simpa using hi)]
  rw [this]
theorem firstNZ_at {g : Nat → Int} {n j : Nat} (hj : j < n) (h : ∀ i, i < j → g i = 0) (hz : g j ≠ 0) : firstNZ g n = g j := by
  unfold firstNZ
  have : (List.range n).find? (fun i => !(g i == 0)) = some j := by
    rw [List.find?_range_eq_some]
    refine ⟨by simp [hz], by simpa using hj, fun i hi => by simp [h i hi]⟩
  rw [this]
theorem firstNZ_all {g : Nat → Int} {n : Nat} (h : firstNZ g n = 0) : ∀ i, i < n → g i = 0 := by
  intro i hi
  unfold firstNZ at h
  cases hf : (List.range n).find? (fun i => !(g i == 0)) with
  | none =>
    rw [List.find?_eq_none] at hf
    simpa using hf i (by simpa using hi)
  | some k =>
    rw [hf] at h
    have := List.find?_some hf
    simp [show g k = 0 from h] at this

def facesE (fs : List Fac) : Int := firstNZ (fun i => match fs[i]? with | some f => faceE f (fs.take i) | none => 0) fs.length
def opensE (os : List Opn) (fs : List Fac) : Int := firstNZ (fun i => match os[i]? with | some o => openE o (os.take i) fs | none => 0) os.length
def checkE (R : Roo) : Int :=
  if 16 < R.fs.length then 3 else if ¬ facesE R.fs = 0 then facesE R.fs else if 12 < R.os.length then 3 else if ¬ opensE R.os R.fs = 0 then opensE R.os R.fs else togetherE R.fs

theorem faceE_pts {f : Fac} {l : List Fac} (h : faceE f l = 0) : outlineE f.cs = 0 := by
  unfold faceE at h
  (repeat' split at h) <;> first | omega | exact h

theorem facesE_pts {fs : List Fac} (h : facesE fs = 0) : ∀ f ∈ fs, okPts f.cs ∧ f.cs.length ≤ 1000 := by
  intro f hf
  obtain ⟨i, hi, rfl⟩ := List.getElem_of_mem hf
  have := firstNZ_all h i hi
  rw [List.getElem?_eq_getElem hi] at this
  obtain ⟨h1, h2, h3, _⟩ := outline_ok (faceE_pts this)
  exact ⟨h3, by omega⟩

/-- The cells of a face's box and of a roof's box. -/
abbrev HeldF (W : World) (B : Nat) (f : Fac) (D : Nat) (u v : Value) (w : World) : Prop := Below W.heap.size W w ∧
  ((w.cell? ⟨B, 0, none⟩ = some (.string f.name) ∧ w.cell? ⟨B, 1, none⟩ = some (.int .i64 f.side) ∧ w.cell? ⟨B, 2, none⟩ = some (.int .i64 f.foot) ∧ w.cell? ⟨B, 3, none⟩ = some (.int .i64 f.base) ∧
    w.cell? ⟨B, 4, none⟩ = some (.int .i64 f.rise) ∧ w.cell? ⟨B, 5, none⟩ = some (.int .i64 f.run) ∧ w.cell? ⟨B, 6, none⟩ = some (.slice f.ca f.cs.length f.cc)) ∧
    (w.cell? ⟨D, 0, none⟩ = some u ∧ w.cell? ⟨D, 1, none⟩ = some v))
theorem HeldF.step {W w w' : World} {B D : Nat} {f : Fac} {u v : Value} (h : HeldF W B f D u v w) (hB : B < W.heap.size) (hD : D < W.heap.size) (hb : Below w.heap.size w w') : HeldF W B f D u v w' := by
  have hs := h.1.size
  have c : ∀ b i, b < W.heap.size → w'.cell? ⟨b, i, none⟩ = w.cell? ⟨b, i, none⟩ := fun b i hb' => hb.cell (p := ⟨b, i, none⟩) (Nat.lt_of_lt_of_le hb' hs)
  obtain ⟨h0, ⟨a0, a1, a2, a3, a4, a5, a6⟩, d0, d1⟩ := h
  exact ⟨h0.trans (hb.mono hs), ⟨(c _ _ hB).trans a0, (c _ _ hB).trans a1, (c _ _ hB).trans a2, (c _ _ hB).trans a3, (c _ _ hB).trans a4, (c _ _ hB).trans a5, (c _ _ hB).trans a6⟩, (c _ _ hD).trans d0, (c _ _ hD).trans d1⟩
abbrev HeldO (W : World) (B : Nat) (f : Opn) (D : Nat) (u v : Value) (w : World) : Prop := Below W.heap.size W w ∧
  ((w.cell? ⟨B, 0, none⟩ = some (.string f.name) ∧ w.cell? ⟨B, 1, none⟩ = some (.int .i64 f.face) ∧ w.cell? ⟨B, 2, none⟩ = some (.int .i64 f.lo.x) ∧ w.cell? ⟨B, 3, none⟩ = some (.int .i64 f.lo.y) ∧
    w.cell? ⟨B, 4, none⟩ = some (.int .i64 f.hi.x) ∧ w.cell? ⟨B, 5, none⟩ = some (.int .i64 f.hi.y)) ∧
    (w.cell? ⟨D, 0, none⟩ = some u ∧ w.cell? ⟨D, 1, none⟩ = some v))
theorem HeldO.step {W w w' : World} {B D : Nat} {f : Opn} {u v : Value} (h : HeldO W B f D u v w) (hB : B < W.heap.size) (hD : D < W.heap.size) (hb : Below w.heap.size w w') : HeldO W B f D u v w' := by
  have hs := h.1.size
  have c : ∀ b i, b < W.heap.size → w'.cell? ⟨b, i, none⟩ = w.cell? ⟨b, i, none⟩ := fun b i hb' => hb.cell (p := ⟨b, i, none⟩) (Nat.lt_of_lt_of_le hb' hs)
  obtain ⟨h0, ⟨a0, a1, a2, a3, a4, a5⟩, d0, d1⟩ := h
  exact ⟨h0.trans (hb.mono hs), ⟨(c _ _ hB).trans a0, (c _ _ hB).trans a1, (c _ _ hB).trans a2, (c _ _ hB).trans a3, (c _ _ hB).trans a4, (c _ _ hB).trans a5⟩, (c _ _ hD).trans d0, (c _ _ hD).trans d1⟩

/-- The first faces of a list. -/
theorem IsFacs.pre {w : World} {b off cap : Nat} {l : List Fac} {i : Nat} (hi : i ≤ l.length) (h2 : b < w.heap.size) (h3 : l.length ≤ cap) (h4 : cap ≤ 9223372036854775807) (h5 : ∀ j f, l[j]? = some f → FacAt w b (off + j * 7) f ∧ FacIn w f) :
    IsFacs w (.slice (some ⟨b, off, none⟩) i cap) (l.take i) := by
  refine .inr ⟨b, off, cap, ?_, h2, ?_, h4, ?_⟩
  · rw [List.length_take, Nat.min_eq_left hi]
  · rw [List.length_take]; omega
  · intro j f hj
    rw [List.getElem?_take] at hj
    split at hj
    · exact h5 j f hj
    · cases hj
theorem IsOpns.pre {w : World} {b off cap : Nat} {l : List Opn} {i : Nat} (hi : i ≤ l.length) (h2 : b < w.heap.size) (h3 : l.length ≤ cap) (h4 : cap ≤ 9223372036854775807) (h5 : ∀ j f, l[j]? = some f → OpnAt w b (off + j * 6) f ∧ f.name.size ≤ maxLen) :
    IsOpns w (.slice (some ⟨b, off, none⟩) i cap) (l.take i) := by
  refine .inr ⟨b, off, cap, ?_, h2, ?_, h4, ?_⟩
  · rw [List.length_take, Nat.min_eq_left hi]
  · rw [List.length_take]; omega
  · intro j f hj
    rw [List.getElem?_take] at hj
    split at hj
    · exact h5 j f hj
    · cases hj

set_option maxRecDepth 100000 in
set_option maxHeartbeats 8000000 in
theorem check_any (R : Roo) (w : World) (hR : IsRoof w R) :
    Calls Try.prog 23 #[.agg #[.slice R.fa R.fs.length R.fc, .slice R.oa R.os.length R.oc]] w fun e w' => e = .returned (.int .i64 (checkE R)) ∧ Below w.heap.size w w' := by
  have hlf : R.fs.length ≤ 9223372036854775807 := by
    rcases hR.1 with ⟨_, h⟩ | ⟨_, _, _, _, _, h3, h4, _⟩
    · rw [h]; simp
    · omega
  have hlo : R.os.length ≤ 9223372036854775807 := by
    rcases hR.2 with ⟨_, h⟩ | ⟨_, _, _, _, _, h3, h4, _⟩
    · rw [h]; simp
    · omega
  obtain ⟨fa, fc, fs, oa, oc, os⟩ := R
  simp only [] at hlf hlo
  by_cases h16 : 16 < fs.length
  · have hv : checkE ⟨fa, fc, fs, oa, oc, os⟩ = 3 := by simp [checkE, h16]
    have HV := Lib.hid hv
    clear hv
    go_enter Try.func23, Try.ntmps23
    go_wp2_with fail
    go_ret
    exact ⟨by rw [HV.out]; rfl, (Below.refl _ _).alloc (Nat.le_refl _) _⟩
  have hbR : Blk (w.alloc (.cells #[.slice fa fs.length fc, .slice oa os.length oc] 25)) w.heap.size #[.slice fa fs.length fc, .slice oa os.length oc] 25 := Blk.new _ _ _
  have hB : Below w.heap.size w (w.alloc (.cells #[.slice fa fs.length fc, .slice oa os.length oc] 25)) := (Below.refl _ _).alloc (Nat.le_refl _) _
  have HR := Lib.hid hR
  clear hR
  go_enter Try.func23, Try.ntmps23
  go_wp2_with fail
  go_loopw [16, 3, 4, 5] (fun i _ _ _ wr => ∃ j : Nat, j ≤ fs.length ∧ i = .int .i64 j ∧ (∀ k, k < j → (match fs[k]? with | some f => faceE f (fs.take k) | none => 0) = 0) ∧ Blk wr w.heap.size #[.slice fa fs.length fc, .slice oa os.length oc] 25 ∧ Below w.heap.size w wr) (fun i _ _ _ _ => fs.length - (intOf i).toNat)
  case atStart => exact ⟨0, Nat.zero_le _, rfl, fun k h => by omega, hbR, hB⟩
  case round =>
    obtain ⟨j, hj, rfl, hno, g1, g2⟩ := hrel
    have HNO := Lib.hid hno
    have hRr := HR.out.below g2
    clear hno
    by_cases hlj : j < fs.length
    · rcases hRr.1 with ⟨_, hn⟩ | ⟨b, off, c, h1, h2, h3, h4, h5⟩
      · simp only [] at hn
        rw [hn] at hlj
        simp at hlj
      have hq : fs[j]? = some fs[j] := List.getElem?_eq_getElem hlj
      obtain ⟨⟨d0, d1, d2, d3, d4, d5, d6⟩, hfin⟩ := h5 j _ hq
      have hpre := IsFacs.pre (Nat.le_of_lt hlj) h2 h3 h4 h5
      obtain ⟨rfl, _, rfl⟩ := slice_inj h1
      simp only [] at d0 d1 d2 d3 d4 d5 d6 hfin h3
      generalize fs[j] = F at *
      have HQ := Lib.hid hq
      clear hq h1 h5 hRr
      have hj0 : (0 : Int) ≤ (j : Int) := Int.natCast_nonneg _
      have hj1 : (j : Int) ≤ (fs.length : Int) := by omega
      have hj2 : (j : Int) ≤ (fc : Int) := by omega
      have hbF : Blk (wr.alloc (.cells (facC F) 72)) wr.heap.size (facC F) 72 := Blk.new _ _ _
      have hbR2 := g1.alloc (.cells (facC F) 72)
      have hlt1 := g1.lt
      have hb0 : Below wr.heap.size wr (wr.alloc (.cells (facC F) 72)) := (Below.refl _ wr).alloc (Nat.le_refl _) _
      have hx : HeldF (wr.alloc (.cells (facC F) 72)) wr.heap.size F w.heap.size (.slice (some ⟨b, off, none⟩) fs.length fc) (.slice oa os.length oc) (wr.alloc (.cells (facC F) 72)).drew :=
        ⟨(Below.refl _ _).drew, ⟨hbF.cell 0, hbF.cell 1, hbF.cell 2, hbF.cell 3, hbF.cell 4, hbF.cell 5, hbF.cell 6⟩, hbR2.cell 0, hbR2.cell 1⟩
      have hB1 : wr.heap.size < (wr.alloc (.cells (facC F) 72)).heap.size := by simp
      have hB2 : w.heap.size < (wr.alloc (.cells (facC F) 72)).heap.size := by simp; omega
      have hp1 : IsFacs (wr.alloc (.cells (facC F) 72)).drew (.slice (some ⟨b, off, none⟩) j fc) (fs.take j) := hpre.below hb0.drew
      have hf1 : FacIn (wr.alloc (.cells (facC F) 72)).drew F := hfin.below hb0.drew
      have hl1 : (fs.take j).length ≤ 100000 := by rw [List.length_take]; omega
      have c0 := g1.cell 0
      simp only [List.getElem?_toArray, List.getElem?_cons_zero] at c0
      clear hbF hbR2
      unfold facC at hx hp1 hf1 hB1 hB2 hb0
      go_wp2_with fail
      go_region_held3 (fun w' => Below (wr.alloc (.cells #[.string F.name, .int .i64 F.side, .int .i64 F.foot, .int .i64 F.base, .int .i64 F.rise, .int .i64 F.run, .slice F.ca F.cs.length F.cc] 72)).heap.size (wr.alloc (.cells #[.string F.name, .int .i64 F.side, .int .i64 F.foot, .int .i64 F.base, .int .i64 F.rise, .int .i64 F.run, .slice F.ca F.cs.length F.cc] 72)) w' ∧
          ((w'.cell? ⟨wr.heap.size, 0, none⟩ = some (.string F.name) ∧ w'.cell? ⟨wr.heap.size, 1, none⟩ = some (.int .i64 F.side) ∧ w'.cell? ⟨wr.heap.size, 2, none⟩ = some (.int .i64 F.foot) ∧ w'.cell? ⟨wr.heap.size, 3, none⟩ = some (.int .i64 F.base) ∧
            w'.cell? ⟨wr.heap.size, 4, none⟩ = some (.int .i64 F.rise) ∧ w'.cell? ⟨wr.heap.size, 5, none⟩ = some (.int .i64 F.run) ∧ w'.cell? ⟨wr.heap.size, 6, none⟩ = some (.slice F.ca F.cs.length F.cc)) ∧
            (w'.cell? ⟨w.heap.size, 0, none⟩ = some (.slice (some ⟨b, off, none⟩) fs.length fc) ∧ w'.cell? ⟨w.heap.size, 1, none⟩ = some (.slice oa os.length oc))))
        (first | (with_reducible exact hx) | (with_reducible refine HeldF.step ?_ hB1 hB2 hb3; with_reducible assumption))
        (first | (go_at_call 48; (with_reducible refine (checkFace_any F (some ⟨b, off, none⟩) j fc (fs.take j) _ hf1 hp1 hl1).mono ?_); rintro r w3 ⟨rfl, hb3⟩))
      have hb7 := g2.trans ((hb0.drew.trans (hb3.mono (by simp))).mono g2.size)
      have g7 := g1.belowS (hb0.drew.trans (hb3.mono (by simp)))
      generalize hge : faceE F (fs.take j) = E
      have HGE := Lib.hid hge
      clear hge hx hp1 hf1 hb3 hb0
      by_cases hE : E = 0
      · have hz1 : (E == 0) = true := by simp [hE]
        have hz2 : (E != 0) = false := by simp [hE]
        have HE := Lib.hid hE
        clear hE
        go_wp2_with fail
        refine ⟨⟨j + 1, by omega, by simp, ?_, g7, hb7⟩, by simp [intOf]; omega⟩
        intro k hk
        by_cases hkj : k = j
        · subst hkj
          rw [HQ.out]
          exact HGE.out.trans HE.out
        · exact HNO.out k (by omega)
      · have hz1 : (E == 0) = false := by simp [hE]
        have hz2 : (E != 0) = true := by simp [hE]
        have hfe : facesE fs = E := by
          have := firstNZ_at (g := fun i => match fs[i]? with | some f => faceE f (fs.take i) | none => 0) hlj (fun i hi => HNO.out i hi) (by simp only [HQ.out]; rw [HGE.out]; exact hE)
          simp only [HQ.out] at this
          exact this.trans HGE.out
        have hv : checkE ⟨some ⟨b, off, none⟩, fc, fs, oa, oc, os⟩ = E := by
          show (if 16 < fs.length then _ else _) = E
          rw [if_neg (by omega), if_pos (by rw [hfe]; exact hE), hfe]
        have HV := Lib.hid hv
        clear hv hfe hE
        go_wp2_with fail
        go_ret
        exact ⟨by rw [HV.out]; rfl, hb7⟩
    · obtain rfl : j = fs.length := by omega
      have hfe : facesE fs = 0 := firstNZ_zero (fun i hi => HNO.out i hi)
      have hpts := facesE_pts hfe
      have HFE := Lib.hid hfe
      have HPT := Lib.hid hpts
      clear hfe hpts HNO
      have c1 := g1.cell 1
      simp only [List.getElem?_toArray, List.getElem?_cons_zero, List.getElem?_cons_succ] at c1
      by_cases h12 : 12 < os.length
      · have hv : checkE ⟨fa, fc, fs, oa, oc, os⟩ = 3 := by
          show (if 16 < fs.length then _ else _) = (3 : Int)
          rw [if_neg (by omega), if_neg (by rw [HFE.out]; simp), if_pos h12]
        have HV := Lib.hid hv
        clear hv
        go_wp2_with fail
        go_ret
        exact ⟨by rw [HV.out]; rfl, g2⟩
      go_wp2_with fail
      obtain ⟨wq, rfl⟩ : ∃ wq : World, wq = wr := ⟨_, rfl⟩
      go_loopw [38, 6, 7, 8] (fun i _ _ _ wr => ∃ j : Nat, j ≤ os.length ∧ i = .int .i64 j ∧ (∀ k, k < j → (match os[k]? with | some f => openE f (os.take k) fs | none => 0) = 0) ∧ Blk wr w.heap.size #[.slice fa fs.length fc, .slice oa os.length oc] 25 ∧ Below w.heap.size w wr) (fun i _ _ _ _ => os.length - (intOf i).toNat)
      case atStart => exact ⟨0, Nat.zero_le _, rfl, fun k h => by omega, g1, g2⟩
      case round =>
        clear c1 g1 g2 hRr
        obtain ⟨j, hj, rfl, hno, g1, g2⟩ := hrel
        have HNO := Lib.hid hno
        have hRr := HR.out.below g2
        clear hno
        by_cases hlj : j < os.length
        · rcases hRr.2 with ⟨_, hn⟩ | ⟨b, off, c, h1, h2, h3, h4, h5⟩
          · simp only [] at hn
            rw [hn] at hlj
            simp at hlj
          have hq : os[j]? = some os[j] := List.getElem?_eq_getElem hlj
          obtain ⟨⟨d0, d1, d2, d3, d4, d5⟩, hnm⟩ := h5 j _ hq
          have hpre := IsOpns.pre (Nat.le_of_lt hlj) h2 h3 h4 h5
          obtain ⟨rfl, _, rfl⟩ := slice_inj h1
          simp only [] at d0 d1 d2 d3 d4 d5 hnm h3
          have hff := hRr.1
          simp only [] at hff
          generalize os[j] = F at *
          have HQ := Lib.hid hq
          clear hq h1 h5 hRr
          have hj0 : (0 : Int) ≤ (j : Int) := Int.natCast_nonneg _
          have hj1 : (j : Int) ≤ (os.length : Int) := by omega
          have hj2 : (j : Int) ≤ (oc : Int) := by omega
          have hbF : Blk (wr.alloc (.cells (opnC F) 76)) wr.heap.size (opnC F) 76 := Blk.new _ _ _
          have hbR2 := g1.alloc (.cells (opnC F) 76)
          have hlt1 := g1.lt
          have hb0 : Below wr.heap.size wr (wr.alloc (.cells (opnC F) 76)) := (Below.refl _ wr).alloc (Nat.le_refl _) _
          have hx : HeldO (wr.alloc (.cells (opnC F) 76)) wr.heap.size F w.heap.size (.slice fa fs.length fc) (.slice (some ⟨b, off, none⟩) os.length oc) (wr.alloc (.cells (opnC F) 76)).drew :=
            ⟨(Below.refl _ _).drew, ⟨hbF.cell 0, hbF.cell 1, hbF.cell 2, hbF.cell 3, hbF.cell 4, hbF.cell 5⟩, hbR2.cell 0, hbR2.cell 1⟩
          have hB1 : wr.heap.size < (wr.alloc (.cells (opnC F) 76)).heap.size := by simp
          have hB2 : w.heap.size < (wr.alloc (.cells (opnC F) 76)).heap.size := by simp; omega
          have hp1 : IsOpns (wr.alloc (.cells (opnC F) 76)).drew (.slice (some ⟨b, off, none⟩) j oc) (os.take j) := hpre.below hb0.drew
          have hf1 : IsFacs (wr.alloc (.cells (opnC F) 76)).drew (.slice fa fs.length fc) fs := hff.below hb0.drew
          have hl1 : (os.take j).length ≤ 100000 := by rw [List.length_take]; omega
          have hl2 : fs.length ≤ 100000 := by omega
          have hpt := HPT.out
          have c1 := g1.cell 1
          simp only [List.getElem?_toArray, List.getElem?_cons_zero, List.getElem?_cons_succ] at c1
          clear hbF hbR2
          unfold opnC at hx hp1 hf1 hB1 hB2 hb0
          have HPT2 := Lib.hid hpt
          clear hpt
          go_wp2_with fail
          have hpt := HPT2.out
          go_region_held3 (fun w' => Below (wr.alloc (.cells #[.string F.name, .int .i64 F.face, .int .i64 F.lo.x, .int .i64 F.lo.y, .int .i64 F.hi.x, .int .i64 F.hi.y] 76)).heap.size (wr.alloc (.cells #[.string F.name, .int .i64 F.face, .int .i64 F.lo.x, .int .i64 F.lo.y, .int .i64 F.hi.x, .int .i64 F.hi.y] 76)) w' ∧
              ((w'.cell? ⟨wr.heap.size, 0, none⟩ = some (.string F.name) ∧ w'.cell? ⟨wr.heap.size, 1, none⟩ = some (.int .i64 F.face) ∧ w'.cell? ⟨wr.heap.size, 2, none⟩ = some (.int .i64 F.lo.x) ∧ w'.cell? ⟨wr.heap.size, 3, none⟩ = some (.int .i64 F.lo.y) ∧
                w'.cell? ⟨wr.heap.size, 4, none⟩ = some (.int .i64 F.hi.x) ∧ w'.cell? ⟨wr.heap.size, 5, none⟩ = some (.int .i64 F.hi.y)) ∧
                (w'.cell? ⟨w.heap.size, 0, none⟩ = some (.slice fa fs.length fc) ∧ w'.cell? ⟨w.heap.size, 1, none⟩ = some (.slice (some ⟨b, off, none⟩) os.length oc))))
            (first | (with_reducible exact hx) | (with_reducible refine HeldO.step ?_ hB1 hB2 hb3; with_reducible assumption))
            (first | (go_at_call 49; (with_reducible refine (checkOpen_any F (some ⟨b, off, none⟩) fa j oc fs.length fc (os.take j) fs _ hnm hp1 hl1 hf1 hl2 hpt).mono ?_); rintro r w3 ⟨rfl, hb3⟩))
          clear hpt
          have hb7 := g2.trans ((hb0.drew.trans (hb3.mono (by simp))).mono g2.size)
          have g7 := g1.belowS (hb0.drew.trans (hb3.mono (by simp)))
          generalize hge : openE F (os.take j) fs = E
          have HGE := Lib.hid hge
          clear hge hx hp1 hf1 hb3 hb0
          by_cases hE : E = 0
          · have hz1 : (E == 0) = true := by simp [hE]
            have hz2 : (E != 0) = false := by simp [hE]
            have HE := Lib.hid hE
            clear hE
            go_wp2_with fail
            refine ⟨⟨j + 1, by omega, by simp, ?_, g7, hb7⟩, by simp [intOf]; omega⟩
            intro k hk
            by_cases hkj : k = j
            · subst hkj
              rw [HQ.out]
              exact HGE.out.trans HE.out
            · exact HNO.out k (by omega)
          · have hz1 : (E == 0) = false := by simp [hE]
            have hz2 : (E != 0) = true := by simp [hE]
            have hfe : opensE os fs = E := by
              have := firstNZ_at (g := fun i => match os[i]? with | some o => openE o (os.take i) fs | none => 0) hlj (fun i hi => HNO.out i hi) (by simp only [HQ.out]; rw [HGE.out]; exact hE)
              simp only [HQ.out] at this
              exact this.trans HGE.out
            have hv : checkE ⟨fa, fc, fs, some ⟨b, off, none⟩, oc, os⟩ = E := by
              show (if 16 < fs.length then _ else _) = E
              rw [if_neg (by omega), if_neg (by rw [HFE.out]; simp), if_neg (by omega), if_pos (by rw [hfe]; exact hE), hfe]
            have HV := Lib.hid hv
            clear hv hfe hE
            go_wp2_with fail
            go_ret
            exact ⟨by rw [HV.out]; rfl, hb7⟩
        · obtain rfl : j = os.length := by omega
          have hoe : opensE os fs = 0 := firstNZ_zero (fun i hi => HNO.out i hi)
          have hv : checkE ⟨fa, fc, fs, oa, oc, os⟩ = togetherE fs := by
            show (if 16 < fs.length then _ else _) = _
            rw [if_neg (by omega), if_neg (by rw [HFE.out]; simp), if_neg (by omega), if_neg (by rw [hoe]; simp)]
          have HV := Lib.hid hv
          have c0 := g1.cell 0
          have hff := hRr.1
          simp only [List.getElem?_toArray, List.getElem?_cons_zero] at c0 hff
          have hl2 : fs.length ≤ 100000 := by omega
          clear hv hoe HNO
          go_wp2_with fail
          refine (checkTogether_any fa fs.length fc fs _ hff hl2 HPT.out).mono ?_
          rintro e w5 ⟨rfl, hb5⟩
          go_wp2_with fail
          go_ret
          exact ⟨by rw [HV.out]; rfl, g2.trans (hb5.mono g2.size)⟩
end Go.Proofs.Ytpdgcajbdaleeaa
