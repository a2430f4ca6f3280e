/- Great, the farm of the examples, given: what fields cost, and whether they are enough. -/
import Derived.Test.YtmnfapdfdpglgaaFB
namespace Go.Proofs.Ytmnfapdfdpglgaa
open Go.RowKit

def SomeBool (e : Ending) : Prop := ∃ b, e = .returned (.bool b)
set_option maxRecDepth 100000 in
set_option maxHeartbeats 4000000 in
theorem great_any (R : Frm) (w : World) (hR : IsFarm w R) :
    Calls Try.prog 12 #[.agg #[.slice R.pa R.ps.length R.pc, .int .i64 R.dry]] w fun e w' => SomeBool e ∧ Below w.heap.size w w' := by
  have hlf := hR.len
  obtain ⟨fa, fc, fs, dry⟩ := R
  simp only [] at hlf
  have kR : Blk (w.alloc (.cells #[.slice fa fs.length fc, .int .i64 dry] 24)) w.heap.size #[.slice fa fs.length fc, .int .i64 dry] 24 := Blk.new _ _ _
  have hB : Below w.heap.size w (w.alloc (.cells #[.slice fa fs.length fc, .int .i64 dry] 24)) := (Below.refl _ _).alloc (Nat.le_refl _) _
  have HR := Lib.hid hR
  clear hR
  go_enter Try.func12, Try.ntmps12
  go_wp2_with fail
  go_loopw [3, 4] (fun s i wr => ∃ (j : Nat) (n : Int), j ≤ fs.length ∧ j ≤ 31 ∧ i = .int .i64 j ∧ s = .int .i64 n ∧ Blk wr w.heap.size #[.slice fa fs.length fc, .int .i64 dry] 24 ∧ Below w.heap.size w wr) (fun _ i _ => fs.length - (intOf i).toNat)
  case atStart => exact ⟨0, 0, Nat.zero_le _, Nat.zero_le _, rfl, rfl, kR, hB⟩
  case round =>
    obtain ⟨j, n, hj, hj31, rfl, rfl, g1, g2⟩ := hrel
    have hRr := HR.out.below g2
    have c0 := g1.cell 0
    simp only [List.getElem?_toArray, List.getElem?_cons_zero] at c0
    by_cases hlj : j < fs.length
    · by_cases h30 : j ≤ 30
      · rcases hRr with ⟨_, hn⟩ | ⟨b, off, c, h1, h2, h3, h4, h5⟩
        · simp only [] at hn
          rw [hn] at hlj
          simp at hlj
        have hq : fs[j]? = some fs[j] := List.getElem?_eq_getElem hlj
        obtain ⟨⟨d0, d1, d2, d3, d4, d5, d6, d7, d8⟩, hnm⟩ := h5 j _ hq
        obtain ⟨rfl, _, rfl⟩ := slice_inj h1
        simp only [] at d0 d1 d2 d3 d4 d5 d6 d7 d8 h3 hnm
        generalize fs[j] = F at *
        clear hq h1 h5 d1 d2 d3 d4 d5 d6 d7 d8
        unfold maxLen at hnm
        have hj0 : (0 : Int) ≤ (j : Int) := Int.natCast_nonneg _
        have hj1 : (j : Int) < (fs.length : Int) := by omega
        have hj2 : (j : Int) ≤ 30 := by omega
        go_wp2_with fail
        refine ⟨⟨j + 1, _, by omega, by omega, by simp, rfl, g1, g2⟩, by simp [intOf]; omega⟩
      · have hj1 : (j : Int) < (fs.length : Int) := by omega
        have hj2 : ¬ (j : Int) ≤ 30 := by omega
        clear hRr
        go_wp2_with fail
        all_goals go_ret
        all_goals exact ⟨⟨_, rfl⟩, g2⟩
    · obtain rfl : j = fs.length := by omega
      clear hRr
      go_wp2_with fail
      all_goals go_ret
      all_goals exact ⟨⟨_, rfl⟩, g2⟩

def fenP : Plt := ⟨⟨#[102, 101, 110]⟩, 1, 4, 10, 12, 2, 200, 300, 50⟩
def hillP : Plt := ⟨⟨#[104, 105, 108, 108]⟩, 2, 2, 5, 9, 1, 100, 140, 20⟩
/-- The farm of the examples, in memory from block n on. -/
def farmF (n : Nat) : Frm := ⟨some ⟨n + 1, 0, none⟩, 2, [fenP, hillP], 150⟩

set_option maxRecDepth 100000 in
set_option maxHeartbeats 4000000 in
theorem farm_any (w : World) : Calls Try.prog 22 #[] w fun e w' => e = .returned (.agg #[.slice (some ⟨w.heap.size + 1, 0, none⟩) 2 2, .int .i64 150]) ∧ IsFarm w' (farmF w.heap.size) ∧ Below w.heap.size w w' := by
  have k0 := (Blk.new w 24 #[.slice (some ⟨w.heap.size + 1, 0, none⟩) 2 2, .int .i64 150]).alloc (.cells #[.string ⟨#[102, 101, 110]⟩, .int .i64 1, .int .i64 4, .int .i64 10, .int .i64 12, .int .i64 2, .int .i64 200, .int .i64 300, .int .i64 50, .string ⟨#[104, 105, 108, 108]⟩, .int .i64 2, .int .i64 2, .int .i64 5, .int .i64 9, .int .i64 1, .int .i64 100, .int .i64 140, .int .i64 20] 80)
  have k1 := Blk.new (w.alloc (.cells #[.slice (some ⟨w.heap.size + 1, 0, none⟩) 2 2, .int .i64 150] 24)) 80 #[.string ⟨#[102, 101, 110]⟩, .int .i64 1, .int .i64 4, .int .i64 10, .int .i64 12, .int .i64 2, .int .i64 200, .int .i64 300, .int .i64 50, .string ⟨#[104, 105, 108, 108]⟩, .int .i64 2, .int .i64 2, .int .i64 5, .int .i64 9, .int .i64 1, .int .i64 100, .int .i64 140, .int .i64 20]
  have hB : Below w.heap.size w ((w.alloc (.cells #[.slice (some ⟨w.heap.size + 1, 0, none⟩) 2 2, .int .i64 150] 24)).alloc (.cells #[.string ⟨#[102, 101, 110]⟩, .int .i64 1, .int .i64 4, .int .i64 10, .int .i64 12, .int .i64 2, .int .i64 200, .int .i64 300, .int .i64 50, .string ⟨#[104, 105, 108, 108]⟩, .int .i64 2, .int .i64 2, .int .i64 5, .int .i64 9, .int .i64 1, .int .i64 100, .int .i64 140, .int .i64 20] 80)) := ((Below.refl _ w).alloc (by simp) _).alloc (by simp) _
  simp only [World.size_alloc] at k1
  go_enter Try.func22, Try.ntmps22
  go_wp2_with fail
  generalize ((w.alloc (.cells #[.slice (some ⟨w.heap.size + 1, 0, none⟩) 2 2, .int .i64 150] 24)).alloc (.cells #[.string ⟨#[102, 101, 110]⟩, .int .i64 1, .int .i64 4, .int .i64 10, .int .i64 12, .int .i64 2, .int .i64 200, .int .i64 300, .int .i64 50, .string ⟨#[104, 105, 108, 108]⟩, .int .i64 2, .int .i64 2, .int .i64 5, .int .i64 9, .int .i64 1, .int .i64 100, .int .i64 140, .int .i64 20] 80)) = W at *
  have t0 := k0.cell 0
  have t1 := k0.cell 1
  simp only [List.getElem?_toArray, List.getElem?_cons_zero, List.getElem?_cons_succ] at t0 t1
  refine bodyPost_ret (v := .agg #[.slice (some ⟨w.heap.size + 1, 0, none⟩) 2 2, .int .i64 150]) (by simp [results, Try.results22, go_sem, t0, t1]) rfl ⟨rfl, ?_, hB⟩
  refine .inr ⟨w.heap.size + 1, 0, 2, rfl, k1.lt, Nat.le_refl _, by decide, fun j p hj => ?_⟩
  match j, hj with
  | 0, hj => cases hj; exact ⟨⟨k1.cell 0, k1.cell 1, k1.cell 2, k1.cell 3, k1.cell 4, k1.cell 5, k1.cell 6, k1.cell 7, k1.cell 8⟩, by decide⟩
  | 1, hj => cases hj; exact ⟨⟨k1.cell 9, k1.cell 10, k1.cell 11, k1.cell 12, k1.cell 13, k1.cell 14, k1.cell 15, k1.cell 16, k1.cell 17⟩, by decide⟩
end Go.Proofs.Ytmnfapdfdpglgaa
