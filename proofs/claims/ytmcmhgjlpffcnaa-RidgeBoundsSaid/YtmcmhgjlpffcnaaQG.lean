/- swapped: a ridge with its ends swapped. No condition. -/
import Derived.Test.YtmcmhgjlpffcnaaQF
set_option linter.unusedSimpArgs false
namespace Go.Proofs.Ytmcmhgjlpffcnaa
open Go.RowKit

def swapR (R : Rdg) : Rdg := ⟨R.len, R.en, R.st, R.pa, R.pc, R.ps⟩
set_option maxRecDepth 100000 in
set_option maxHeartbeats 4000000 in
theorem swapped_any (R : Rdg) (w : World) : Calls Try.prog 39 #[.agg #[.int .i64 R.len, .int .i64 R.st, .int .i64 R.en, .slice R.pa R.ps.length R.pc]] w fun e w' => e = .returned (.agg #[.int .i64 R.len, .int .i64 R.en, .int .i64 R.st, .slice R.pa R.ps.length R.pc]) ∧ Below w.heap.size w w' := by
  have k1 := (Blk.new w 24 #[.int .i64 R.len, .int .i64 R.st, .int .i64 R.en, .slice R.pa R.ps.length R.pc]).alloc (.cells #[.int .i64 0, .int .i64 0, .int .i64 0, .slice none 0 0] 24)
  have k2 := Blk.new (w.alloc (.cells #[.int .i64 R.len, .int .i64 R.st, .int .i64 R.en, .slice R.pa R.ps.length R.pc] 24)) 24 #[.int .i64 0, .int .i64 0, .int .i64 0, .slice none 0 0]
  have hb1 : Below w.heap.size w ((w.alloc (.cells #[.int .i64 R.len, .int .i64 R.st, .int .i64 R.en, .slice R.pa R.ps.length R.pc] 24)).alloc (.cells #[.int .i64 0, .int .i64 0, .int .i64 0, .slice none 0 0] 24)) := ((Below.refl _ w).alloc (Nat.le_refl _) _).alloc (by simp) _
  rw [World.size_alloc] at k2
  go_enter Try.func39, Try.ntmps39
  go_upto_region 1 with fail
  generalize ((w.alloc (.cells #[.int .i64 R.len, .int .i64 R.st, .int .i64 R.en, .slice R.pa R.ps.length R.pc] 24)).alloc (.cells #[.int .i64 0, .int .i64 0, .int .i64 0, .slice none 0 0] 24)) = w1 at *
  have K1 := Lib.hid k1
  have K2 := Lib.hid k2
  have HB1 := Lib.hid hb1
  obtain ⟨r0, r1, r2, r3⟩ := rdg_cells (R := R) k1
  have z1 := k1.frozen 1
  have z2 := k1.frozen 2
  have hl := k1.lt
  clear k1 k2 hb1
  go_upto_region 2 with fail
  have kf := (K1.out.set 1 (.int .i64 R.en)).set 2 (.int .i64 R.st)
  simp only [List.setIfInBounds_toArray, List.set_cons_zero, List.set_cons_succ] at kf
  have kz := (K2.out.other (B' := w.heap.size) (i := 1) (by omega) (.int .i64 R.en)).other (B' := w.heap.size) (i := 2) (by omega) (.int .i64 R.st)
  have hb2 := (HB1.out.setCell (p := ⟨w.heap.size, 1, none⟩) (by simp) (.int .i64 R.en)).setCell (p := ⟨w.heap.size, 2, none⟩) (by simp) (.int .i64 R.st)
  generalize (w1.setCell ⟨w.heap.size, 1, none⟩ (.int .i64 R.en)).setCell ⟨w.heap.size, 2, none⟩ (.int .i64 R.st) = w2 at *
  clear r0 r1 r2 r3 z1 z2 hl
  obtain ⟨r0, r1, r2, r3⟩ := rdg_cells (R := swapR R) kf
  simp only [swapR] at r0 r1 r2 r3
  have hl := kf.lt
  obtain ⟨y0, y1, y2, y3⟩ := (show w2.cell? ⟨w.heap.size + 1, 0, none⟩ = some (.int .i64 0) ∧ w2.cell? ⟨w.heap.size + 1, 1, none⟩ = some (.int .i64 0) ∧ w2.cell? ⟨w.heap.size + 1, 2, none⟩ = some (.int .i64 0) ∧ w2.cell? ⟨w.heap.size + 1, 3, none⟩ = some (.slice none 0 0) from ⟨kz.cell 0, kz.cell 1, kz.cell 2, kz.cell 3⟩)
  have f0 := kz.frozen 0
  have f1 := kz.frozen 1
  have f2 := kz.frozen 2
  have f3 := kz.frozen 3
  have lz := kz.lt
  have KZ := Lib.hid kz
  have HB2 := Lib.hid hb2
  clear kf kz hb2
  go_wp2_with fail
  have kf := (((KZ.out.set 0 (.int .i64 R.len)).set 1 (.int .i64 R.en)).set 2 (.int .i64 R.st)).set 3 (.slice R.pa R.ps.length R.pc)
  simp only [List.setIfInBounds_toArray, List.set_cons_zero, List.set_cons_succ] at kf
  have hbf := (((HB2.out.setCell (p := ⟨w.heap.size + 1, 0, none⟩) (by simp) (.int .i64 R.len)).setCell (p := ⟨w.heap.size + 1, 1, none⟩) (by simp) (.int .i64 R.en)).setCell (p := ⟨w.heap.size + 1, 2, none⟩) (by simp) (.int .i64 R.st)).setCell (p := ⟨w.heap.size + 1, 3, none⟩) (by simp) (.slice R.pa R.ps.length R.pc)
  generalize (((w2.setCell ⟨w.heap.size + 1, 0, none⟩ (.int .i64 R.len)).setCell ⟨w.heap.size + 1, 1, none⟩ (.int .i64 R.en)).setCell ⟨w.heap.size + 1, 2, none⟩ (.int .i64 R.st)).setCell ⟨w.heap.size + 1, 3, none⟩ (.slice R.pa R.ps.length R.pc) = w3 at *
  obtain ⟨c0, c1, c2, c3⟩ := rdg_cells (R := swapR R) kf
  simp only [swapR] at c0 c1 c2 c3
  exact bodyPost_ret (v := .agg #[.int .i64 R.len, .int .i64 R.en, .int .i64 R.st, .slice R.pa R.ps.length R.pc]) (by simp [results, Try.results39, go_sem, c0, c1, c2, c3]) rfl ⟨rfl, hbf⟩
end Go.Proofs.Ytmcmhgjlpffcnaa
