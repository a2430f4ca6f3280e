/- seen, at side 2. -/
import Derived.Test.YtpdgcajbdaleeaaX
namespace Go.Proofs.Ytpdgcajbdaleeaa
open Go.RowKit

set_option maxRecDepth 100000 in
set_option maxHeartbeats 8000000 in
theorem seen2_any (name : ByteArray) (foot base rise run : Int) (ca : Option Addr) (cl cc : Nat) (fx fy tx ty : Int)
    (a0 : 0 ≤ fx) (a1 : fx ≤ 10000) (a2 : 0 ≤ fy) (a3 : fy ≤ 10000) (b0 : 0 ≤ tx) (b1 : tx ≤ 10000) (b2 : 0 ≤ ty) (b3 : ty ≤ 10000) (w : World) :
    Calls Try.prog 105 #[.agg #[.string name, .int .i64 2, .int .i64 foot, .int .i64 base, .int .i64 rise, .int .i64 run, .slice ca cl cc], .agg #[.int .i64 fx, .int .i64 fy, .int .i64 tx, .int .i64 ty]] w fun e w' => e = .returned (.agg #[.int .i64 (ty - fy), .int .i64 (-tx + fx)]) ∧ Below w.heap.size w w' := by
  have kE := (Blk.new (w.alloc (.cells #[.string name, .int .i64 2, .int .i64 foot, .int .i64 base, .int .i64 rise, .int .i64 run, .slice ca cl cc] 72)) 122 #[.int .i64 fx, .int .i64 fy, .int .i64 tx, .int .i64 ty]).alloc (.cells #[.int .i64 0, .int .i64 0] 87)
  have kR := Blk.new ((w.alloc (.cells #[.string name, .int .i64 2, .int .i64 foot, .int .i64 base, .int .i64 rise, .int .i64 run, .slice ca cl cc] 72)).alloc (.cells #[.int .i64 fx, .int .i64 fy, .int .i64 tx, .int .i64 ty] 122)) 87 #[.int .i64 0, .int .i64 0]
  have hB : Below w.heap.size w (((w.alloc (.cells #[.string name, .int .i64 2, .int .i64 foot, .int .i64 base, .int .i64 rise, .int .i64 run, .slice ca cl cc] 72)).alloc (.cells #[.int .i64 fx, .int .i64 fy, .int .i64 tx, .int .i64 ty] 122)).alloc (.cells #[.int .i64 0, .int .i64 0] 87)) := (((Below.refl _ _).alloc (Nat.le_refl _) _).alloc (by simp) _).alloc (by simp; omega) _
  simp only [World.size_alloc] at kE kR
  have hsz : (((w.alloc (.cells #[.string name, .int .i64 2, .int .i64 foot, .int .i64 base, .int .i64 rise, .int .i64 run, .slice ca cl cc] 72)).alloc (.cells #[.int .i64 fx, .int .i64 fy, .int .i64 tx, .int .i64 ty] 122)).alloc (.cells #[.int .i64 0, .int .i64 0] 87)).heap.size = w.heap.size + 3 := by simp
  have HSZ := Lib.hid hsz
  clear hsz
  go_enter Try.func105, Try.ntmps105
  go_wp2_with fail
  refine (ownMeasure2_any _).mono ?_
  rintro e w1 ⟨rfl, hb1⟩
  have kE1 : Blk w1.drew (w.heap.size + 1) #[.int .i64 fx, .int .i64 fy, .int .i64 tx, .int .i64 ty] 122 := kE.belowS hb1.drew
  have kR1 : Blk w1.drew (w.heap.size + 1 + 1) #[.int .i64 0, .int .i64 0] 87 := kR.belowS hb1.drew
  have hB1 : Below w.heap.size w w1.drew := (hB.trans (hb1.mono (by rw [HSZ.out]; omega))).drew
  have hS1 : w.heap.size + 3 ≤ w1.drew.heap.size := by have := hb1.size; rw [HSZ.out] at this; exact this
  clear kE kR hB hb1 HSZ
  go_wp2_with fail
  have g0 : ∀ w', Below w1.drew.heap.size w1.drew w' → Blk w' (w.heap.size + 1) #[.int .i64 fx, .int .i64 fy, .int .i64 tx, .int .i64 ty] 122 := fun w' hb => kE1.belowS hb
  refine wp_region_held_drew (S := fun w' => Below w1.drew.heap.size w1.drew w') (by kernel_rfl) (Below.refl _ _) (fun hS => ?_)
  generalize w1.drew = w2 at *
  change wpAnyH _ _ _ _ _ _ _ (seenA _ _ _ _ _ _ _ _ _ undef undef undef undef undef undef undef undef undef undef) _
  refine wpAnyH_take (i := 0) (v := .func (.func 95) #[] #[]) rfl (by kernel_rfl) (by kernel_rfl) (by kernel_rfl) (fun _ _ _ h => h) (Or.inl ⟨by rfl, fun wx hx => rfl⟩) hS ?_
  change wpAnyH _ _ _ _ _ _ _ (seenA _ _ _ _ _ _ _ _ _ undef undef _ undef undef undef undef undef undef undef) _
  refine wpAnyH_take (i := 1) (v := .pointer (some ⟨w.heap.size + 1, 0, none⟩)) rfl (by kernel_rfl) (by kernel_rfl) (by kernel_rfl) (fun _ _ _ h => h) (Or.inl ⟨by rfl, fun wx hx => rfl⟩) hS ?_
  change wpAnyH _ _ _ _ _ _ _ (seenA _ _ _ _ _ _ _ _ _ undef undef _ _ undef undef undef undef undef undef) _
  refine wpAnyH_take (i := 2) (v := .agg #[.int .i64 fx, .int .i64 fy]) rfl (by kernel_rfl) (by kernel_rfl) (by kernel_rfl) (fun _ _ _ h => h) (Or.inl ⟨by rfl, fun wx hx => ?_⟩) hS ?_
  · have c0 := (g0 wx hx).cell 0
    have c1 := (g0 wx hx).cell 1
    simp only [List.getElem?_toArray, List.getElem?_cons_zero, List.getElem?_cons_succ] at c0 c1
    unfold seenA
    go_simp
  change wpAnyH _ _ _ _ _ _ _ (seenA _ _ _ _ _ _ _ _ _ undef undef _ _ _ undef undef undef undef undef) _
  refine wpAnyH_take (i := 4) (v := .func (.func 95) #[] #[]) rfl (by kernel_rfl) (by kernel_rfl) (by kernel_rfl) (fun _ _ _ h => h) (Or.inl ⟨by rfl, fun wx hx => rfl⟩) hS ?_
  change wpAnyH _ _ _ _ _ _ _ (seenA _ _ _ _ _ _ _ _ _ undef undef _ _ _ undef _ undef undef undef) _
  refine wpAnyH_take (i := 5) (v := .pointer (some ⟨w.heap.size + 1, 2, none⟩)) rfl (by kernel_rfl) (by kernel_rfl) (by kernel_rfl) (fun _ _ _ h => h) (Or.inl ⟨by rfl, fun wx hx => rfl⟩) hS ?_
  change wpAnyH _ _ _ _ _ _ _ (seenA _ _ _ _ _ _ _ _ _ undef undef _ _ _ undef _ _ undef undef) _
  refine wpAnyH_take (i := 6) (v := .agg #[.int .i64 tx, .int .i64 ty]) rfl (by kernel_rfl) (by kernel_rfl) (by kernel_rfl) (fun _ _ _ h => h) (Or.inl ⟨by rfl, fun wx hx => ?_⟩) hS ?_
  · have c0 := (g0 wx hx).cell 2
    have c1 := (g0 wx hx).cell 3
    simp only [List.getElem?_toArray, List.getElem?_cons_zero, List.getElem?_cons_succ] at c0 c1
    unfold seenA
    go_simp
  change wpAnyH _ _ _ _ _ _ (List.toArray [true, true, true, false, true, true, true, false, false, false, false, false]) (seenA _ _ _ _ _ _ _ _ _ undef undef _ _ _ undef _ _ _ undef) _
  refine wpAnyH_states (fun s : StS => List.toArray [true, true, true, s.c1, true, true, true, s.c2, s.p1.isSome, s.p2.isSome, false, false])
    (fun s => seenA _ _ _ _ _ (.func (.func 95) #[] #[]) _ _ _ (ptrO s.p1) (ptrO s.p2) (.func (.func 95) #[] #[]) _ (.agg #[.int .i64 fx, .int .i64 fy]) (valB s.c1 (.agg #[.int .i64 (fy), .int .i64 (-fx)])) (.func (.func 95) #[] #[]) _ (.agg #[.int .i64 tx, .int .i64 ty]) (valB s.c2 (.agg #[.int .i64 (ty), .int .i64 (-tx)])))
    (fun s w' => s.holds w2 87 #[.int .i64 0, .int .i64 0] w') StS.mu StS.rd ?hrd (fun s w' h => h.below) ?hstep 6 ⟨false, false, none, none⟩ w2 rfl ⟨Below.refl _ _, fun A e => (by cases e), fun A e => (by cases e), fun A B e => (by cases e)⟩
  case hrd =>
    rintro ⟨c1, c2, p1, p2⟩
    cases c1 <;> cases c2 <;> cases p1 <;> cases p2 <;> kernel_rfl
  case hstep =>
    rintro ⟨c1, c2, p1, p2⟩ w' hI
    by_cases hfin : c1 = true ∧ (c2 = true ∧ (p1.isSome = true ∧ p2.isSome = true))
    · obtain ⟨rfl, rfl, h1, h2⟩ := hfin
      left
      obtain ⟨A, rfl⟩ := Option.isSome_iff_exists.1 h1
      obtain ⟨B, rfl⟩ := Option.isSome_iff_exists.1 h2
      clear h1 h2
      obtain ⟨lA, kA⟩ := hI.one A rfl
      obtain ⟨lB, kB⟩ := hI.two B rfl
      have hne := hI.far A B rfl rfl
      have hb := hI.below
      have kR2 := kR1.belowS hb
      have hlR := kR1.lt
      have lA2 := kA.lt
      have lB2 := kB.lt
      clear hI g0 kE1 kR1
      change wpAnyH _ _ _ _ _ 2 (List.toArray [true, true, true, true, true, true, true, true, true, true, false, false]) (seenA _ _ _ _ _ _ _ _ _ (.pointer (some ⟨A, 0, none⟩)) (.pointer (some ⟨B, 0, none⟩)) _ _ _ (.agg #[.int .i64 (fy), .int .i64 (-fx)]) _ _ _ (.agg #[.int .i64 (ty), .int .i64 (-tx)])) _
      refine wpAnyH_ready (rs := [10]) (by kernel_rfl) (by simp) ?_
      refine AllReadyH.cons rfl (fun K hK => ?_) AllReadyH.nil
      have f0 := kA.frozen 0
      have f1 := kA.frozen 1
      have c0 := kA.cell 0
      have c1 := kA.cell 1
      simp only [List.getElem?_toArray, List.getElem?_cons_zero, List.getElem?_cons_succ] at c0 c1
      unfold seenA
      go_simp
      refine hK.out _ _ (hb.trans (((Below.refl _ _).setCell lA _).setCell lA _)) (fun hH1 => ?_)
      have kA1 := (kA.set 0 (.int .i64 (fy))).set 1 (.int .i64 (-fx))
      have kB1 := (kB.other (Ne.symm hne) (i := 0) (.int .i64 (fy))).other (Ne.symm hne) (i := 1) (.int .i64 (-fx))
      have kR3 := (kR2.other (B' := A) (by omega) (i := 0) (.int .i64 (fy))).other (B' := A) (by omega) (i := 1) (.int .i64 (-fx))
      simp only [List.setIfInBounds_toArray, List.set_cons_zero, List.set_cons_succ] at kA1
      generalize (w'.setCell ⟨A, 0, none⟩ (.int .i64 (fy))).setCell ⟨A, 1, none⟩ (.int .i64 (-fx)) = w4 at *
      clear kA kB kR2 f0 f1 c0 c1 hK K
      refine wpAnyH_ready (rs := [11]) (by kernel_rfl) (by simp) ?_
      refine AllReadyH.cons rfl (fun K hK => ?_) AllReadyH.nil
      have f0 := kB1.frozen 0
      have f1 := kB1.frozen 1
      have c0 := kB1.cell 0
      have c1 := kB1.cell 1
      simp only [List.getElem?_toArray, List.getElem?_cons_zero, List.getElem?_cons_succ] at c0 c1
      go_simp
      refine hK.out _ _ (hH1.trans (((Below.refl _ _).setCell lB _).setCell lB _)) (fun hH2 => ?_)
      have kB2 := (kB1.set 0 (.int .i64 (ty))).set 1 (.int .i64 (-tx))
      have kA2 := (kA1.other hne (i := 0) (.int .i64 (ty))).other hne (i := 1) (.int .i64 (-tx))
      have kR4 := (kR3.other (B' := B) (by omega) (i := 0) (.int .i64 (ty))).other (B' := B) (by omega) (i := 1) (.int .i64 (-tx))
      simp only [List.setIfInBounds_toArray, List.set_cons_zero, List.set_cons_succ] at kB2
      generalize (w4.setCell ⟨B, 0, none⟩ (.int .i64 (ty))).setCell ⟨B, 1, none⟩ (.int .i64 (-tx)) = w5 at *
      clear kA1 kB1 kR3 f0 f1 c0 c1 hK K
      refine wpAnyH_done (by kernel_rfl) ?_ _
      have a0 := kA2.cell 0
      have a1 := kA2.cell 1
      have b0 := kB2.cell 0
      have b1 := kB2.cell 1
      have r0 := kR4.cell 0
      have r1 := kR4.cell 1
      have f0 := kR4.frozen 0
      have f1 := kR4.frozen 1
      have l5 := kR4.lt
      simp only [List.getElem?_toArray, List.getElem?_cons_zero, List.getElem?_cons_succ] at a0 a1 b0 b1 r0 r1
      go_wp2_with fail
      generalize ty - fy = u
      generalize -tx + fx = v
      have kE := (kR4.set 0 (.int .i64 u)).set 1 (.int .i64 v)
      have t0 := kE.cell 0
      have t1 := kE.cell 1
      simp only [List.setIfInBounds_toArray, List.set_cons_zero, List.set_cons_succ, List.getElem?_toArray, List.getElem?_cons_zero, List.getElem?_cons_succ] at t0 t1
      refine bodyPost_ret (v := .agg #[.int .i64 u, .int .i64 v]) (by simp [results, Try.results105, go_sem, t0, t1]) rfl ⟨rfl, ?_⟩
      exact ((hB1.trans (hH2.mono (by omega))).setCell (p := ⟨w.heap.size + 1 + 1, 0, none⟩) (by simp; omega) _).setCell (p := ⟨w.heap.size + 1 + 1, 1, none⟩) (by simp; omega) _
    · right
      refine ⟨StS.rd_ne hfin, by simp only [StS.mu]; omega, fun i hi => ?_⟩
      · have hi' := StS.rd_mem hfin hi
        simp only [] at hi'
        rcases hi' with ⟨rfl, rfl⟩ | ⟨rfl, rfl⟩ | ⟨rfl, rfl⟩ | ⟨rfl, rfl⟩
        · refine wpOp_step rfl (fun K' hK => ?_)
          unfold seenA
          go_simp
          refine (own2_xy fx fy (by omega) (by omega) (by omega) (by omega) _).mono ?_
          rintro r w3 ⟨rfl, hb3⟩
          exact hK _ _ ⟨⟨true, c2, p1, p2⟩, rfl, rfl, by simp only [StS.mu]; simp; omega, hI.call hb3 rfl rfl⟩
        · refine wpOp_step rfl (fun K' hK => ?_)
          unfold seenA
          go_simp
          refine (own2_xy tx ty (by omega) (by omega) (by omega) (by omega) _).mono ?_
          rintro r w3 ⟨rfl, hb3⟩
          exact hK _ _ ⟨⟨c1, true, p1, p2⟩, rfl, rfl, by simp only [StS.mu]; simp; omega, hI.call hb3 rfl rfl⟩
        · refine wpOp_step rfl (fun K' hK => ?_)
          unfold seenA
          go_simp
          exact hK _ _ ⟨⟨c1, c2, some w'.heap.size, p2⟩, rfl, rfl, by simp only [StS.mu]; simp; omega, hI.new1⟩
        · refine wpOp_step rfl (fun K' hK => ?_)
          unfold seenA
          go_simp
          exact hK _ _ ⟨⟨c1, c2, p1, some w'.heap.size⟩, rfl, rfl, by simp only [StS.mu]; simp; omega, hI.new2⟩
end Go.Proofs.Ytpdgcajbdaleeaa
