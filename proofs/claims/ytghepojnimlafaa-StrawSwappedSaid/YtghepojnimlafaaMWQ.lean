/- New: its two rows are new blocks. No condition. (genMW.py makes it out of XGI.tpl) -/
import Derived.Test.YtghepojnimlafaaQFC
namespace Go.Proofs.Ytghepojnimlafaa
open Go.RowKit

/-- What New returns, with the rows as blocks at or above the base. -/
def NewOwn (F : Frm) (base : Nat) (e : Ending) (w' : World) : Prop := (¬ checkE F = 0 ∧ e = .returned (.tuple #[.agg #[.int .i64 0, .slice none 0 0, .slice none 0 0, .slice none 0 0, .slice none 0 0, .slice none 0 0], .int .i64 (checkE F)])) ∨
  (checkE F = 0 ∧ ∃ K1 K2, e = .returned (.tuple #[.agg #[.int .i64 0, .slice (some ⟨K1, 0, none⟩) F.ps.length F.ps.length, .slice (some ⟨K2, 0, none⟩) F.ps.length F.ps.length, .slice none 0 0, .slice none 0 0, .slice none 0 0], .int .i64 0]) ∧
    base ≤ K1 ∧ base ≤ K2 ∧ Blk w' K1 (rowI F.ps.length (fun k => if k < F.ps.length then -1 else 0)) 3 ∧ Blk w' K2 (rowI F.ps.length (fun _ => 0)) 3)
theorem nums_last {w : World} {B n : Nat} (k : Blk w B (rowI n (fun k => if k < n then -1 else 0)) 3) (hn : n ≤ 9223372036854775807) : IsNums w (some ⟨B, 0, none⟩) n (List.replicate n (-1)) := by
  have hr : (List.range n).map (fun k => if k < n then (-1 : Int) else 0) = List.replicate n (-1) := by
    apply List.ext_getElem?
    intro i
    by_cases hi : i < n
    · simp [hi]
    · simp [hi]
  rw [← hr]
  exact isNums_row k (Nat.le_refl _) (by omega)
theorem nums_given {w : World} {B n : Nat} (k : Blk w B (rowI n (fun _ => 0)) 3) (hn : n ≤ 9223372036854775807) : IsNums w (some ⟨B, 0, none⟩) n (List.replicate n 0) := by
  have hr : (List.range n).map (fun _ => (0 : Int)) = List.replicate n 0 := by
    apply List.ext_getElem?
    intro i
    by_cases hi : i < n
    · simp [hi]
    · simp [hi]
  rw [← hr]
  exact isNums_row k (Nat.le_refl _) (by omega)

set_option maxRecDepth 100000 in
set_option maxHeartbeats 8000000 in
theorem new_own (F : Frm) (w : World) (hF : IsFarm w F) :
    Calls Try.prog 8 #[.agg #[.slice F.pa F.ps.length F.pc, .int .i64 F.dry]] w
      fun e w' => NewOwn F w.heap.size e w' ∧ Below w.heap.size w w' := by
  obtain ⟨i0, hi, hz0, hz1, hz2⟩ := info_parts info_int'
  have HF := Lib.hid hF
  clear hF
  have kF := (Blk.new w 24 (frmC F)).alloc (.cells #[.int .i64 0, .slice none 0 0, .slice none 0 0, .slice none 0 0, .slice none 0 0, .slice none 0 0] 45)
  have kR := Blk.new (w.alloc (.cells (frmC F) 24)) 45 #[.int .i64 0, .slice none 0 0, .slice none 0 0, .slice none 0 0, .slice none 0 0, .slice none 0 0]
  have hB : Below w.heap.size w ((w.alloc (.cells (frmC F) 24)).alloc (.cells #[.int .i64 0, .slice none 0 0, .slice none 0 0, .slice none 0 0, .slice none 0 0, .slice none 0 0] 45)) := ((Below.refl _ w).alloc (by simp) _).alloc (by simp) _
  simp only [World.size_alloc] at kR
  unfold frmC at kF kR hB
  go_enter Try.func8, Try.ntmps8
  go_upto_region 1 with fail
  generalize ((w.alloc (.cells #[.slice F.pa F.ps.length F.pc, .int .i64 F.dry] 24)).alloc (.cells #[.int .i64 0, .slice none 0 0, .slice none 0 0, .slice none 0 0, .slice none 0 0, .slice none 0 0] 45)) = w1 at *
  have hltF := kF.lt
  obtain ⟨f0, f1⟩ := frm_cells kF
  go_wp2_with fail
  refine (check_any F _ (HF.out.below hB)).mono ?_
  rintro e w2 ⟨rfl, hb⟩
  have hB1 := hB.trans (hb.mono hB.size)
  have kF1 := kF.belowS hb
  have kR1 := kR.belowS hb
  clear f0 f1 hltF hb kF kR hB
  by_cases hE : checkE F = 0
  · obtain ⟨hn, _⟩ := checkE_ok hE
    have hmk := fun w => run_make (P := Try.prog) w 41 3 i0 (.int .i64 0) Try.underlying41 hi hz0 .i64 .i64 (F.ps.length : Int) (F.ps.length : Int) (by omega) (by omega) (by rw [hz2]; omega) (by omega)
    simp only [Int.toNat_natCast, hz1, rowI_made] at hmk
    have HE := Lib.hid hE
    rw [hE]
    have z1 : ((0 : Int) == 0) = true := rfl
    have lF := kF1.lt
    obtain ⟨f0, f1⟩ := frm_cells kF1
    clear hE
    go_upto_region 4 with fail
    go_cut [5] from 13 to 22 (fun s5 wx => ∃ K1 K2 D, s5 = .pointer (some ⟨D, 0, none⟩) ∧ Blk wx K1 (rowI F.ps.length (fun _ => 0)) 3 ∧ Blk wx K2 (rowI F.ps.length (fun _ => 0)) 3 ∧
      Blk wx D #[.int .i64 0, .slice (some ⟨K1, 0, none⟩) F.ps.length F.ps.length, .slice (some ⟨K2, 0, none⟩) F.ps.length F.ps.length, .slice none 0 0, .slice none 0 0, .slice none 0 0] 45 ∧ (K1 ≠ K2 ∧ K1 ≠ D ∧ K2 ≠ D) ∧ (w2.heap.size ≤ K1 ∧ w2.heap.size ≤ K2 ∧ w2.heap.size ≤ D) ∧ Below w2.heap.size w2 wx)
    case first =>
      have hstep : ∀ w', Below w2.heap.size w2 w' → Below w2.heap.size w2 w' ∧ (w'.cell? ⟨w.heap.size, 0, none⟩ = some (.slice F.pa F.ps.length F.pc) ∧ w'.cell? ⟨w.heap.size, 1, none⟩ = some (.int .i64 F.dry)) := fun w' h => ⟨h, (h.cell (p := ⟨w.heap.size, 0, none⟩) lF).trans f0, (h.cell (p := ⟨w.heap.size, 1, none⟩) lF).trans f1⟩
      have HSTEP := Lib.hid hstep
      clear hstep f0 f1
      go_region_held3 (fun w' => Below w2.heap.size w2 w' ∧ (w'.cell? ⟨w.heap.size, 0, none⟩ = some (.slice F.pa F.ps.length F.pc) ∧ w'.cell? ⟨w.heap.size, 1, none⟩ = some (.int .i64 F.dry)))
        ((refine HSTEP.out _ ?_; repeat (first | (with_reducible exact Below.refl _ _) | (with_reducible refine bel_alloc ?_ _) | (with_reducible refine bel_drew ?_))))
        (rw [hmk])
      all_goals
        go_wp2_with fail
        go_meet
        apply cut3
        case hD => first | exact blk3_0 _ _ _ _ _ | exact blk3_1 _ _ _ _ _ | exact blk3_2 _ _ _ _ _
        case h1 => first | exact blk3_0 _ _ _ _ _ | exact blk3_1 _ _ _ _ _ | exact blk3_2 _ _ _ _ _
        case h2 => first | exact blk3_0 _ _ _ _ _ | exact blk3_1 _ _ _ _ _ | exact blk3_2 _ _ _ _ _
        case hn => exact ⟨by omega, by omega, by omega⟩
        case hb => exact ⟨by omega, by omega, by omega⟩
        case hl => exact bel3 _ _ _ _
    case rest =>
      obtain ⟨K1, K2, D, rfl, k1, k2, kD, ⟨n12, n1D, n2D⟩, ⟨b1, b2, bD⟩, hcb⟩ := hcut
      have kR2 := kR1.belowS hcb
      have hB2 := hB1.trans (hcb.mono hB1.size)
      have hw2 := hB1.size
      have hR2 : w.heap.size + 1 < w2.heap.size := kR1.lt
      obtain ⟨w4, rfl⟩ : ∃ w4 : World, w4 = wc := ⟨_, rfl⟩
      have d1 := kD.cell 1
      have lD := kD.lt
      simp only [List.getElem?_toArray, List.getElem?_cons_zero, List.getElem?_cons_succ] at d1
      clear f0 f1 lF kF1 kR1
      go_wp2_with fail
      go_loopw [25, 6] (fun i _ wr => ∃ j : Nat, j ≤ F.ps.length ∧ i = .int .i64 j ∧ Blk wr K1 (rowI F.ps.length (fun k => if k < j then -1 else 0)) 3 ∧ Blk wr K2 (rowI F.ps.length (fun _ => 0)) 3 ∧
        Blk wr D #[.int .i64 0, .slice (some ⟨K1, 0, none⟩) F.ps.length F.ps.length, .slice (some ⟨K2, 0, none⟩) F.ps.length F.ps.length, .slice none 0 0, .slice none 0 0, .slice none 0 0] 45 ∧
        Blk wr (w.heap.size + 1) #[.int .i64 0, .slice none 0 0, .slice none 0 0, .slice none 0 0, .slice none 0 0, .slice none 0 0] 45 ∧ Below w.heap.size w wr) (fun i _ _ => F.ps.length - (intOf i).toNat)
      case atStart => exact ⟨0, Nat.zero_le _, rfl, k1, k2, kD, kR2, hB2⟩
      case round =>
        obtain ⟨j, hj, rfl, g1, g2, gD, gR, gb⟩ := hrel
        clear k1 k2 kD kR2 d1 lD
        have d1 := gD.cell 1
        have lD := gD.lt
        have lR := gR.lt
        simp only [List.getElem?_toArray, List.getElem?_cons_zero, List.getElem?_cons_succ] at d1
        by_cases hlj : j < F.ps.length
        · have hj0 : (0 : Int) ≤ (j : Int) := Int.natCast_nonneg _
          have hj1 : (j : Int) < (F.ps.length : Int) := by omega
          have a2 := (g1.cell j).trans (rowI_at hlj)
          have a3 := g1.frozen j
          have l1 := g1.lt
          go_wp2_with fail
          refine ⟨⟨j + 1, by omega, by simp, ?_, g2.other (Ne.symm n12) _, gD.other (Ne.symm n1D) _, gR.other (by omega) _, gb.setCell (p := ⟨K1, j, none⟩) (by show w.heap.size ≤ K1; exact Nat.le_trans hw2 b1) _⟩, by simp [intOf]; omega⟩
          have := g1.set j (.int .i64 (-1))
          rw [rowI_set] at this
          have hfx : (fun k => if k = j then (-1 : Int) else if k < j then -1 else 0) = fun k => if k < j + 1 then -1 else 0 := by
            funext k
            by_cases h : k = j
            · rw [if_pos h, if_pos (by omega)]
            · rw [if_neg h]
              by_cases h2 : k < j
              · rw [if_pos h2, if_pos (by omega)]
              · rw [if_neg h2, if_neg (by omega)]
          rw [hfx] at this
          exact this
        · obtain rfl : j = F.ps.length := by omega
          have d0 := gD.cell 0
          have d2 := gD.cell 2
          have d3 := gD.cell 3
          have d4 := gD.cell 4
          have d5 := gD.cell 5
          have r0 := gR.cell 0
          have r1 := gR.cell 1
          have r2 := gR.cell 2
          have r3 := gR.cell 3
          have r4 := gR.cell 4
          have r5 := gR.cell 5
          have t0 := gR.frozen 0
          have t1 := gR.frozen 1
          have t2 := gR.frozen 2
          have t3 := gR.frozen 3
          have t4 := gR.frozen 4
          have t5 := gR.frozen 5
          simp only [List.getElem?_toArray, List.getElem?_cons_zero, List.getElem?_cons_succ] at d0 d2 d3 d4 d5 r0 r1 r2 r3 r4 r5
          go_wp2_with fail
          have e1 : Blk ((((((wr.setCell ⟨w.heap.size + 1, 0, none⟩ (.int .i64 0)).setCell ⟨w.heap.size + 1, 1, none⟩ (.slice (some ⟨K1, 0, none⟩) F.ps.length F.ps.length)).setCell ⟨w.heap.size + 1, 2, none⟩ (.slice (some ⟨K2, 0, none⟩) F.ps.length F.ps.length)).setCell ⟨w.heap.size + 1, 3, none⟩ (.slice none 0 0)).setCell ⟨w.heap.size + 1, 4, none⟩ (.slice none 0 0)).setCell ⟨w.heap.size + 1, 5, none⟩ (.slice none 0 0)) (w.heap.size + 1) #[.int .i64 0, .slice (some ⟨K1, 0, none⟩) F.ps.length F.ps.length, .slice (some ⟨K2, 0, none⟩) F.ps.length F.ps.length, .slice none 0 0, .slice none 0 0, .slice none 0 0] 45 := ((((((gR.set 0 (.int .i64 0)).set 1 (.slice (some ⟨K1, 0, none⟩) F.ps.length F.ps.length)).set 2 (.slice (some ⟨K2, 0, none⟩) F.ps.length F.ps.length)).set 3 (.slice none 0 0)).set 4 (.slice none 0 0)).set 5 (.slice none 0 0))
          have e2 := ((((((g1.other (B := K1) (B' := w.heap.size + 1) (i := 0) (by omega) (.int .i64 0)).other (B := K1) (B' := w.heap.size + 1) (i := 1) (by omega) (.slice (some ⟨K1, 0, none⟩) F.ps.length F.ps.length)).other (B := K1) (B' := w.heap.size + 1) (i := 2) (by omega) (.slice (some ⟨K2, 0, none⟩) F.ps.length F.ps.length)).other (B := K1) (B' := w.heap.size + 1) (i := 3) (by omega) (.slice none 0 0)).other (B := K1) (B' := w.heap.size + 1) (i := 4) (by omega) (.slice none 0 0)).other (B := K1) (B' := w.heap.size + 1) (i := 5) (by omega) (.slice none 0 0))
          have e3 := ((((((g2.other (B := K2) (B' := w.heap.size + 1) (i := 0) (by omega) (.int .i64 0)).other (B := K2) (B' := w.heap.size + 1) (i := 1) (by omega) (.slice (some ⟨K1, 0, none⟩) F.ps.length F.ps.length)).other (B := K2) (B' := w.heap.size + 1) (i := 2) (by omega) (.slice (some ⟨K2, 0, none⟩) F.ps.length F.ps.length)).other (B := K2) (B' := w.heap.size + 1) (i := 3) (by omega) (.slice none 0 0)).other (B := K2) (B' := w.heap.size + 1) (i := 4) (by omega) (.slice none 0 0)).other (B := K2) (B' := w.heap.size + 1) (i := 5) (by omega) (.slice none 0 0))
          have e4 := ((((((gb.setCell (p := ⟨w.heap.size + 1, 0, none⟩) (Nat.le_succ _) (.int .i64 0)).setCell (p := ⟨w.heap.size + 1, 1, none⟩) (Nat.le_succ _) (.slice (some ⟨K1, 0, none⟩) F.ps.length F.ps.length)).setCell (p := ⟨w.heap.size + 1, 2, none⟩) (Nat.le_succ _) (.slice (some ⟨K2, 0, none⟩) F.ps.length F.ps.length)).setCell (p := ⟨w.heap.size + 1, 3, none⟩) (Nat.le_succ _) (.slice none 0 0)).setCell (p := ⟨w.heap.size + 1, 4, none⟩) (Nat.le_succ _) (.slice none 0 0)).setCell (p := ⟨w.heap.size + 1, 5, none⟩) (Nat.le_succ _) (.slice none 0 0))
          generalize ((((((wr.setCell ⟨w.heap.size + 1, 0, none⟩ (.int .i64 0)).setCell ⟨w.heap.size + 1, 1, none⟩ (.slice (some ⟨K1, 0, none⟩) F.ps.length F.ps.length)).setCell ⟨w.heap.size + 1, 2, none⟩ (.slice (some ⟨K2, 0, none⟩) F.ps.length F.ps.length)).setCell ⟨w.heap.size + 1, 3, none⟩ (.slice none 0 0)).setCell ⟨w.heap.size + 1, 4, none⟩ (.slice none 0 0)).setCell ⟨w.heap.size + 1, 5, none⟩ (.slice none 0 0)) = W at *
          have x0 := e1.cell 0
          have x1 := e1.cell 1
          have x2 := e1.cell 2
          have x3 := e1.cell 3
          have x4 := e1.cell 4
          have x5 := e1.cell 5
          simp only [List.getElem?_toArray, List.getElem?_cons_zero, List.getElem?_cons_succ] at x0 x1 x2 x3 x4 x5
          refine bodyPost_ret (v := .tuple #[.agg #[.int .i64 0, .slice (some ⟨K1, 0, none⟩) F.ps.length F.ps.length, .slice (some ⟨K2, 0, none⟩) F.ps.length F.ps.length, .slice none 0 0, .slice none 0 0, .slice none 0 0], .int .i64 0]) (by simp [results, Try.results8, go_sem, x0, x1, x2, x3, x4, x5]) rfl ⟨.inr ⟨HE.out, K1, K2, rfl, by omega, by omega, e2, e3⟩, e4⟩
  · have z1 : (checkE F == 0) = false := by simp [hE]
    have z2 : (checkE F != 0) = true := by simp [hE]
    generalize hge : checkE F = E at *
    have HGE := Lib.hid hge
    clear hge
    have r0 := kR1.cell 0
    have r1 := kR1.cell 1
    have r2 := kR1.cell 2
    have r3 := kR1.cell 3
    have r4 := kR1.cell 4
    have r5 := kR1.cell 5
    have t0 := kR1.frozen 0
    have t1 := kR1.frozen 1
    have t2 := kR1.frozen 2
    have t3 := kR1.frozen 3
    have t4 := kR1.frozen 4
    have t5 := kR1.frozen 5
    have lR := kR1.lt
    simp only [List.getElem?_toArray, List.getElem?_cons_zero, List.getElem?_cons_succ] at r0 r1 r2 r3 r4 r5
    go_wp2_with fail
    have e1 : Blk ((((((w2.setCell ⟨w.heap.size + 1, 0, none⟩ (.int .i64 0)).setCell ⟨w.heap.size + 1, 1, none⟩ (.slice none 0 0)).setCell ⟨w.heap.size + 1, 2, none⟩ (.slice none 0 0)).setCell ⟨w.heap.size + 1, 3, none⟩ (.slice none 0 0)).setCell ⟨w.heap.size + 1, 4, none⟩ (.slice none 0 0)).setCell ⟨w.heap.size + 1, 5, none⟩ (.slice none 0 0)) (w.heap.size + 1) #[.int .i64 0, .slice none 0 0, .slice none 0 0, .slice none 0 0, .slice none 0 0, .slice none 0 0] 45 := ((((((kR1.set 0 (.int .i64 0)).set 1 (.slice none 0 0)).set 2 (.slice none 0 0)).set 3 (.slice none 0 0)).set 4 (.slice none 0 0)).set 5 (.slice none 0 0))
    have e4 := ((((((hB1.setCell (p := ⟨w.heap.size + 1, 0, none⟩) (Nat.le_succ _) (.int .i64 0)).setCell (p := ⟨w.heap.size + 1, 1, none⟩) (Nat.le_succ _) (.slice none 0 0)).setCell (p := ⟨w.heap.size + 1, 2, none⟩) (Nat.le_succ _) (.slice none 0 0)).setCell (p := ⟨w.heap.size + 1, 3, none⟩) (Nat.le_succ _) (.slice none 0 0)).setCell (p := ⟨w.heap.size + 1, 4, none⟩) (Nat.le_succ _) (.slice none 0 0)).setCell (p := ⟨w.heap.size + 1, 5, none⟩) (Nat.le_succ _) (.slice none 0 0))
    generalize ((((((w2.setCell ⟨w.heap.size + 1, 0, none⟩ (.int .i64 0)).setCell ⟨w.heap.size + 1, 1, none⟩ (.slice none 0 0)).setCell ⟨w.heap.size + 1, 2, none⟩ (.slice none 0 0)).setCell ⟨w.heap.size + 1, 3, none⟩ (.slice none 0 0)).setCell ⟨w.heap.size + 1, 4, none⟩ (.slice none 0 0)).setCell ⟨w.heap.size + 1, 5, none⟩ (.slice none 0 0)) = W at *
    have x0 := e1.cell 0
    have x1 := e1.cell 1
    have x2 := e1.cell 2
    have x3 := e1.cell 3
    have x4 := e1.cell 4
    have x5 := e1.cell 5
    simp only [List.getElem?_toArray, List.getElem?_cons_zero, List.getElem?_cons_succ] at x0 x1 x2 x3 x4 x5
    exact bodyPost_ret (v := .tuple #[.agg #[.int .i64 0, .slice none 0 0, .slice none 0 0, .slice none 0 0, .slice none 0 0, .slice none 0 0], .int .i64 E]) (by simp [results, Try.results8, go_sem, x0, x1, x2, x3, x4, x5]) rfl ⟨.inl ⟨by rw [HGE.out]; exact hE, by rw [HGE.out]⟩, e4⟩
end Go.Proofs.Ytghepojnimlafaa
