/- The law's own small functions: less, leans, ends, Great. -/
import Derived.Test.YtapbkiokfaidfaaR
import Derived.Deep.RegionHeld3
namespace Go.Proofs.Ytapbkiokfaidfaa
open Go.RowKit

theorem less_any (px py qx qy : Int) (h1 : 0 ≤ px) (h2 : px ≤ 10000) (h3 : 0 ≤ py) (h4 : py ≤ 10000) (h5 : 0 ≤ qx) (h6 : qx ≤ 10000) (h7 : 0 ≤ qy) (h8 : qy ≤ 10000) (w : World) :
    Calls Try.prog 14 #[.agg #[.int .i64 px, .int .i64 py], .agg #[.int .i64 qx, .int .i64 qy]] w fun e w' => e = .returned (.agg #[.int .i64 (px - qx), .int .i64 (py - qy)]) ∧ Below w.heap.size w w' := by
  go_enter Try.func14, Try.ntmps14
  go_wp2
  exact bodyPost_ret (v := .agg #[.int .i64 (px - qx), .int .i64 (py - qy)]) (by simp [results, Try.results14, go_sem]) rfl ⟨rfl, (((Below.refl _ _).alloc (Nat.le_refl _) _).alloc (by simp) _).alloc (by simp; omega) _⟩

theorem leans_any (ax ay bx by' : Int) (h1 : -10000 ≤ ax) (h2 : ax ≤ 10000) (h3 : -10000 ≤ ay) (h4 : ay ≤ 10000) (h5 : -10000 ≤ bx) (h6 : bx ≤ 10000) (h7 : -10000 ≤ by') (h8 : by' ≤ 10000) (w : World) :
    Calls Try.prog 13 #[.agg #[.int .i64 ax, .int .i64 ay], .agg #[.int .i64 bx, .int .i64 by']] w fun e w' => e = .returned (.int .i64 (ax * by' - ay * bx)) ∧ Below w.heap.size w w' := by
  have b1 := mul_bd4 (a := ax) (b := by') (by omega) (by omega) (by omega) (by omega)
  have b2 := mul_bd4 (a := ay) (b := bx) (by omega) (by omega) (by omega) (by omega)
  go_enter Try.func13, Try.ntmps13
  go_wp2
  go_ret
  exact ⟨rfl, ((Below.refl _ _).alloc (Nat.le_refl _) _).alloc (by simp) _⟩

/-- The cells that 'ends' reads. -/
abbrev HeldN (W : World) (B b i j : Nat) (s x y u v : Value) (w' : World) : Prop := Below (B + 1) W w' ∧
  (w'.cell? ⟨B, 6, none⟩ = some s ∧ w'.cell? ⟨b, i, none⟩ = some x ∧ w'.cell? ⟨b, i + 1, none⟩ = some y ∧ w'.cell? ⟨b, j, none⟩ = some u ∧ w'.cell? ⟨b, j + 1, none⟩ = some v)
theorem HeldN.step {W w w' : World} {B b i j : Nat} {s x y u v : Value} (h : HeldN W B b i j s x y u v w) (lb : b < B + 1) (hb : Below (B + 1) w w') : HeldN W B b i j s x y u v w' := by
  have c : ∀ d k, d < B + 1 → w'.cell? ⟨d, k, none⟩ = w.cell? ⟨d, k, none⟩ := fun d k hd => hb.cell (p := ⟨d, k, none⟩) hd
  obtain ⟨h0, h1, h2, h3, h4, h5⟩ := h
  exact ⟨h0.trans hb, (c _ _ (by omega)).trans h1, (c _ _ lb).trans h2, (c _ _ lb).trans h3, (c _ _ lb).trans h4, (c _ _ lb).trans h5⟩
theorem below_two (n : Nat) (w : World) (D : Nat) (u v : Value) (h : n ≤ D) : Below n w ((w.setCell ⟨D, 0, none⟩ u).setCell ⟨D, 1, none⟩ v) := ((Below.refl _ _).setCell h _).setCell h _

theorem below_twod (n : Nat) (w : World) (D : Nat) (u v : Value) (h : n ≤ D) : Below n w.drew ((w.setCell ⟨D, 0, none⟩ u).setCell ⟨D, 1, none⟩ v).drew := below_two n w.drew D u v h

set_option maxRecDepth 100000 in
set_option maxHeartbeats 2000000 in
theorem ends_any (f : Fac) (k : Nat) (w : World) (hf : IsPts w (.slice f.ca f.cs.length f.cc) f.cs) (hk : k < f.cs.length) (hl : f.cs.length ≤ 1000) :
    Calls Try.prog 12 #[.agg #[.string f.name, .int .i64 f.side, .int .i64 f.foot, .int .i64 f.base, .int .i64 f.rise, .int .i64 f.run, .slice f.ca f.cs.length f.cc], .int .i64 k] w fun e w' =>
      e = .returned (.tuple #[.agg #[.int .i64 (edgN f.cs k).a.x, .int .i64 (edgN f.cs k).a.y], .agg #[.int .i64 (edgN f.cs k).b.x, .int .i64 (edgN f.cs k).b.y]]) ∧ Below w.heap.size w w' := by
  rcases hf with ⟨_, hn⟩ | ⟨b, off, c, h1, h2, h3, h4, h5⟩
  · rw [hn] at hk
    simp at hk
  obtain ⟨name, side, foot, base, rise, run, ca, cc, cs⟩ := f
  simp only [] at h1 h3 h5 hk hl ⊢
  obtain ⟨rfl, _, rfl⟩ := slice_inj h1
  clear h1
  have hk2 : (k + 1) % cs.length < cs.length := Nat.mod_lt _ (by omega)
  have e1 : cs[k]? = some (edgN cs k).a := by simp [edgN, hk]
  have e2 : cs[(k + 1) % cs.length]? = some (edgN cs k).b := by simp [edgN, hk2]
  have hmod2 : ((k : Int) + 1) % (cs.length : Int) = (((k + 1) % cs.length : Nat) : Int) := by push_cast; rfl
  obtain ⟨p0, p1⟩ := h5 _ _ e1
  obtain ⟨q0, q1⟩ := h5 _ _ e2
  generalize (k + 1) % cs.length = m at *
  generalize edgN cs k = E at *
  obtain ⟨⟨ax, ay⟩, bx, by'⟩ := E
  simp only [] at p0 p1 q0 q1 ⊢
  clear h5 e1 e2
  generalize cs.length = n at *
  clear cs
  have hB : Below w.heap.size w (((w.alloc (.cells #[.string name, .int .i64 side, .int .i64 foot, .int .i64 base, .int .i64 rise, .int .i64 run, .slice (some ⟨b, off, none⟩) n cc] 37)).alloc (.cells #[.int .i64 0, .int .i64 0] 27)).alloc (.cells #[.int .i64 0, .int .i64 0] 27)) := (((Below.refl _ _).alloc (Nat.le_refl _) _).alloc (by simp) _).alloc (by simp; omega) _
  have kF := ((Blk.new w 37 #[.string name, .int .i64 side, .int .i64 foot, .int .i64 base, .int .i64 rise, .int .i64 run, .slice (some ⟨b, off, none⟩) n cc]).alloc (.cells #[.int .i64 0, .int .i64 0] 27)).alloc (.cells #[.int .i64 0, .int .i64 0] 27)
  have kG := (Blk.new (w.alloc (.cells #[.string name, .int .i64 side, .int .i64 foot, .int .i64 base, .int .i64 rise, .int .i64 run, .slice (some ⟨b, off, none⟩) n cc] 37)) 27 #[.int .i64 0, .int .i64 0]).alloc (.cells #[.int .i64 0, .int .i64 0] 27)
  have kH := Blk.new ((w.alloc (.cells #[.string name, .int .i64 side, .int .i64 foot, .int .i64 base, .int .i64 rise, .int .i64 run, .slice (some ⟨b, off, none⟩) n cc] 37)).alloc (.cells #[.int .i64 0, .int .i64 0] 27)) 27 #[.int .i64 0, .int .i64 0]
  simp only [World.size_alloc] at kG kH
  have hk0 : (0 : Int) ≤ (k : Int) := by omega
  have hk1 : (k : Int) < (n : Int) := by omega
  have H2 := Lib.hid hmod2
  clear hmod2
  go_enter Try.func12, Try.ntmps12
  go_wp2_with fail
  generalize hW : (((w.alloc (.cells #[.string name, .int .i64 side, .int .i64 foot, .int .i64 base, .int .i64 rise, .int .i64 run, .slice (some ⟨b, off, none⟩) n cc] 37)).alloc (.cells #[.int .i64 0, .int .i64 0] 27)).alloc (.cells #[.int .i64 0, .int .i64 0] 27)) = W at *
  have HW := Lib.hid hW
  clear hW
  have hx : HeldN W w.heap.size b (off + k * 2) (off + m * 2) (.slice (some ⟨b, off, none⟩) n cc) (.int .i64 ax) (.int .i64 ay) (.int .i64 bx) (.int .i64 by') W.drew :=
    ⟨(Below.refl _ _).drew, kF.cell 6, (hB.cell (p := ⟨b, _, none⟩) h2).trans p0, (hB.cell (p := ⟨b, _, none⟩) h2).trans p1, (hB.cell (p := ⟨b, _, none⟩) h2).trans q0, (hB.cell (p := ⟨b, _, none⟩) h2).trans q1⟩
  have l0 : w.heap.size < W.heap.size := kF.lt
  have l1 := kG.lt
  have l2 := kH.lt
  have lb : b < w.heap.size + 1 := by omega
  have f1 := kG.frozen 0
  have f2 := kG.frozen 1
  have f3 := kH.frozen 0
  have f4 := kH.frozen 1
  have g1 := kG.cell 0
  have g2 := kG.cell 1
  have g3 := kH.cell 0
  have g4 := kH.cell 1
  simp only [List.getElem?_toArray, List.getElem?_cons_zero, List.getElem?_cons_succ] at g1 g2 g3 g4
  have n0 : (m : Int) < (n : Int) := by omega
  have n1 : (0 : Int) ≤ (m : Int) := by omega
  have hmod2 := H2.out
  have htm : ((k : Int) + 1).tmod (n : Int) = (m : Int) := by rw [Int.tmod_eq_emod_of_nonneg (by omega)]; exact hmod2
  have hz : ((n : Int) == 0) = false := by simp; omega
  have hz1 : ¬ (n : Int) = 0 := by omega
  have hz2 : ¬ n = 0 := by omega
  have hw1 : IntKind.i64.wrap ((k : Int) + 1) = (k : Int) + 1 := IntWalk.i64_in _ (by omega)
  have hcl : (0 : Int) < (n : Int) := by omega
  clear p0 p1 q0 q1
  go_region_held3 (fun w' => Below (w.heap.size + 1) W w' ∧ (w'.cell? ⟨w.heap.size, 6, none⟩ = some (.slice (some ⟨b, off, none⟩) n cc) ∧ w'.cell? ⟨b, off + k * 2, none⟩ = some (.int .i64 ax) ∧ w'.cell? ⟨b, off + k * 2 + 1, none⟩ = some (.int .i64 ay) ∧
      w'.cell? ⟨b, off + m * 2, none⟩ = some (.int .i64 bx) ∧ w'.cell? ⟨b, off + m * 2 + 1, none⟩ = some (.int .i64 by')))
    (first | (with_reducible exact hx) | (with_reducible refine HeldN.step ?_ lb (below_twod _ _ _ _ _ (by omega)); with_reducible assumption))
    (first | fail)
  have kG1 := (((kG.set 0 (.int .i64 ax)).set 1 (.int .i64 ay)).other (B' := w.heap.size + 1 + 1) (by omega) (i := 0) (.int .i64 bx)).other (B' := w.heap.size + 1 + 1) (by omega) (i := 1) (.int .i64 by')
  have kH1 := (((kH.other (B' := w.heap.size + 1) (by omega) (i := 0) (.int .i64 ax)).other (B' := w.heap.size + 1) (by omega) (i := 1) (.int .i64 ay)).set 0 (.int .i64 bx)).set 1 (.int .i64 by')
  have hB2 := ((((hB.setCell (p := ⟨w.heap.size + 1, 0, none⟩) (by simp) (.int .i64 ax)).setCell (p := ⟨w.heap.size + 1, 1, none⟩) (by simp) (.int .i64 ay)).setCell (p := ⟨w.heap.size + 1 + 1, 0, none⟩) (by simp; omega) (.int .i64 bx)).setCell (p := ⟨w.heap.size + 1 + 1, 1, none⟩) (by simp; omega) (.int .i64 by')).drew
  have t0 := kG1.cell 0
  have t1 := kG1.cell 1
  have t2 := kH1.cell 0
  have t3 := kH1.cell 1
  simp only [List.setIfInBounds_toArray, List.set_cons_zero, List.set_cons_succ, List.getElem?_toArray, List.getElem?_cons_zero, List.getElem?_cons_succ] at t0 t1 t2 t3
  go_wp2_with fail
  exact bodyPost_ret (v := .tuple #[.agg #[.int .i64 ax, .int .i64 ay], .agg #[.int .i64 bx, .int .i64 by']]) (by simp [results, Try.results12, go_sem, t0, t1, t2, t3]) rfl ⟨rfl, hB2⟩
end Go.Proofs.Ytapbkiokfaidfaa
