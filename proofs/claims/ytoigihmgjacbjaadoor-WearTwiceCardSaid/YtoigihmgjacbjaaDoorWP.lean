/- Rate as it is called; the example; lives. No condition but the package's variable. -/
import Derived.Test.YtoigihmgjacbjaaDoorWO
set_option linter.unusedSimpArgs false
namespace Go.Proofs.YtoigihmgjacbjaaDoor
open Go.RowKit

set_option maxRecDepth 100000 in
set_option maxHeartbeats 4000000 in
theorem wearRate_any (c : Spn) (r n s m : Int) (w : World) :
    Calls Tryd.prog 28 #[.agg #[.int .i64 c.lo, .int .i64 c.hi], .int .i64 r, .int .i64 n, .int .i64 s, .int .i64 m] w fun e w' => e = .returned (.tuple #[.agg #[.int .i64 (rateR c r n s m).lo, .int .i64 (rateR c r n s m).hi], .int .i64 (rateE c r n s m)]) ∧ Below w.heap.size w w' := by
  have k1 := (Blk.new w 69 #[.int .i64 c.lo, .int .i64 c.hi]).alloc (.cells #[.int .i64 0, .int .i64 0] 27)
  have k2 := Blk.new (w.alloc (.cells #[.int .i64 c.lo, .int .i64 c.hi] 69)) 27 #[.int .i64 0, .int .i64 0]
  rw [World.size_alloc] at k2
  have hb1 : Below w.heap.size w ((w.alloc (.cells #[.int .i64 c.lo, .int .i64 c.hi] 69)).alloc (.cells #[.int .i64 0, .int .i64 0] 27)) := ((Below.refl _ w).alloc (Nat.le_refl _) _).alloc (by simp) _
  go_enter Tryd.func28, Tryd.ntmps28
  go_upto_region 1 with fail
  generalize ((w.alloc (.cells #[.int .i64 c.lo, .int .i64 c.hi] 69)).alloc (.cells #[.int .i64 0, .int .i64 0] 27)) = w1 at *
  have K1 := Lib.hid k1
  have K2 := Lib.hid k2
  have HB1 := Lib.hid hb1
  obtain ⟨a0, a1⟩ := (show w1.cell? ⟨w.heap.size, 0, none⟩ = some (.int .i64 c.lo) ∧ w1.cell? ⟨w.heap.size, 1, none⟩ = some (.int .i64 c.hi) from ⟨k1.cell 0, k1.cell 1⟩)
  have l1 := k1.lt
  clear k1 k2 hb1
  go_cut [34] from 12 to 33 (fun t wx => t = .bool (!rateOkB c r n s m) ∧ Below w1.heap.size w1 wx)
  case first =>
    go_wp2_with fail
    refine (isClimate_any c _).mono ?_
    rintro e w2 ⟨rfl, hb⟩
    have HB := Lib.hid hb
    clear hb a0 a1 l1
    cases h1 : isSpanB c 0 10000 with
    | false =>
      go_wp2_with fail
      go_meet
      exact ⟨by simp [rateOkB, h1], HB.out⟩
    | true =>
    go_wp2_with fail
    refine (isPitch_any r _).mono ?_
    rintro e w3 ⟨rfl, rfl⟩
    cases h2 : isFromB r 1 100 with
    | false =>
      go_wp2_with fail
      go_meet
      exact ⟨by simp [rateOkB, h2], HB.out⟩
    | true =>
    go_wp2_with fail
    refine (isPitch_any n _).mono ?_
    rintro e w3 ⟨rfl, rfl⟩
    cases h3 : isFromB n 1 100 with
    | false =>
      go_wp2_with fail
      go_meet
      exact ⟨by simp [rateOkB, h3], HB.out⟩
    | true =>
    go_wp2_with fail
    refine (isPercent_any s _).mono ?_
    rintro e w3 ⟨rfl, rfl⟩
    cases h4 : isFromB s 0 100 with
    | false =>
      go_wp2_with fail
      go_meet
      exact ⟨by simp [rateOkB, h4], HB.out⟩
    | true =>
    go_wp2_with fail
    refine (isPercent_any m _).mono ?_
    rintro e w3 ⟨rfl, rfl⟩
    cases h5 : isFromB m 0 100 with
    | false =>
      go_wp2_with fail
      go_meet
      exact ⟨by simp [rateOkB, h5], HB.out⟩
    | true =>
      go_wp2_with fail
      go_meet
      exact ⟨by simp [rateOkB, h1, h2, h3, h4, h5], HB.out⟩
  case rest =>
  obtain ⟨rfl, hb⟩ := hcut
  obtain ⟨w2, rfl⟩ : ∃ w2 : World, w2 = wc := ⟨_, rfl⟩
  have K12 := Lib.hid (K1.out.belowS hb)
  have K22 := Lib.hid (K2.out.belowS hb)
  have HB2 := Lib.hid (HB1.out.trans (hb.mono HB1.out.size))
  clear a0 a1 l1 hb
  obtain ⟨bb, hbb⟩ : ∃ bb, rateOkB c r n s m = bb := ⟨_, rfl⟩
  have HOK := Lib.hid hbb
  rw [hbb]
  clear hbb
  cases bb with
  | true =>
    have HV := Lib.hid (show rateR c r n s m = rateM c r n s m ∧ rateE c r n s m = 0 from ⟨by unfold rateR; rw [if_pos HOK.out], by unfold rateE; rw [if_pos HOK.out]⟩)
    obtain ⟨a0, a1⟩ := (show w2.cell? ⟨w.heap.size, 0, none⟩ = some (.int .i64 c.lo) ∧ w2.cell? ⟨w.heap.size, 1, none⟩ = some (.int .i64 c.hi) from ⟨K12.out.cell 0, K12.out.cell 1⟩)
    have l1 := K12.out.lt
    go_wp2_with fail
    refine (rate_any c r n s m HOK.out _).mono ?_
    rintro e w3 ⟨rfl, hb⟩
    have K23 := Lib.hid (K22.out.belowS hb)
    have HB3 := Lib.hid (HB2.out.trans (hb.mono HB2.out.size))
    obtain ⟨U, hU⟩ : ∃ U, rateM c r n s m = U := ⟨_, rfl⟩
    rw [hU] at HV ⊢
    clear a0 a1 l1 hb hU
    obtain ⟨b0, b1⟩ := spn_cells (s := ⟨0, 0⟩) K23.out
    have z0 := K23.out.frozen 0
    have z1 := K23.out.frozen 1
    have l2 := K23.out.lt
    go_wp2_with fail
    have kf : Blk ((w3.setCell ⟨w.heap.size + 1, 0, none⟩ (.int .i64 U.lo)).setCell ⟨w.heap.size + 1, 1, none⟩ (.int .i64 U.hi)) (w.heap.size + 1) #[.int .i64 U.lo, .int .i64 U.hi] 27 := ((K23.out.set 0 (.int .i64 U.lo)).set 1 (.int .i64 U.hi))
    have ht : Turn (fun k => k = w.heap.size + 1) w3 ((w3.setCell ⟨w.heap.size + 1, 0, none⟩ (.int .i64 U.lo)).setCell ⟨w.heap.size + 1, 1, none⟩ (.int .i64 U.hi)) := (((Turn.of_below (X := fun k => k = w.heap.size + 1) (Below.refl _ w3)).setCell (B := w.heap.size + 1) rfl 0 (.int .i64 U.lo)).setCell (B := w.heap.size + 1) rfl 1 (.int .i64 U.hi))
    generalize ((w3.setCell ⟨w.heap.size + 1, 0, none⟩ (.int .i64 U.lo)).setCell ⟨w.heap.size + 1, 1, none⟩ (.int .i64 U.hi)) = wf at *
    clear b0 b1 z0 z1 l2
    obtain ⟨g0, g1⟩ := spn_cells kf
    exact bodyPost_ret (v := .tuple #[.agg #[.int .i64 U.lo, .int .i64 U.hi], .int .i64 0]) (by simp [results, Tryd.results28, go_sem, g0, g1]) rfl ⟨by rw [HV.out.1, HV.out.2], HB3.out.trans (ht.below HB3.out.size (fun k e => by rw [show k = w.heap.size + 1 from e]; omega))⟩
  | false =>
    have HV := Lib.hid (show rateR c r n s m = ⟨0, 0⟩ ∧ rateE c r n s m = 1 from ⟨by unfold rateR; rw [if_neg (by rw [HOK.out]; decide)], by unfold rateE; rw [if_neg (by rw [HOK.out]; decide)]⟩)
    obtain ⟨b0, b1⟩ := spn_cells (s := ⟨0, 0⟩) K22.out
    have z0 := K22.out.frozen 0
    have z1 := K22.out.frozen 1
    have l2 := K22.out.lt
    go_wp2_with fail
    have kf : Blk ((w2.setCell ⟨w.heap.size + 1, 0, none⟩ (.int .i64 0)).setCell ⟨w.heap.size + 1, 1, none⟩ (.int .i64 0)) (w.heap.size + 1) #[.int .i64 0, .int .i64 0] 27 := ((K22.out.set 0 (.int .i64 0)).set 1 (.int .i64 0))
    have ht : Turn (fun k => k = w.heap.size + 1) w2 ((w2.setCell ⟨w.heap.size + 1, 0, none⟩ (.int .i64 0)).setCell ⟨w.heap.size + 1, 1, none⟩ (.int .i64 0)) := (((Turn.of_below (X := fun k => k = w.heap.size + 1) (Below.refl _ w2)).setCell (B := w.heap.size + 1) rfl 0 (.int .i64 0)).setCell (B := w.heap.size + 1) rfl 1 (.int .i64 0))
    generalize ((w2.setCell ⟨w.heap.size + 1, 0, none⟩ (.int .i64 0)).setCell ⟨w.heap.size + 1, 1, none⟩ (.int .i64 0)) = wf at *
    clear b0 b1 z0 z1 l2
    obtain ⟨g0, g1⟩ := spn_cells (s := ⟨0, 0⟩) kf
    exact bodyPost_ret (v := .tuple #[.agg #[.int .i64 0, .int .i64 0], .int .i64 1]) (by simp [results, Tryd.results28, go_sem, g0, g1]) rfl ⟨by rw [HV.out.1, HV.out.2], HB2.out.trans (ht.below HB2.out.size (fun k e => by rw [show k = w.heap.size + 1 from e]; omega))⟩

/-- The skin of the chapter's examples, in blocks behind n. -/
def exS (n : Nat) : Skn := ⟨some ⟨n + 1, 0, none⟩, 4, [⟨0, 0⟩, ⟨20, 0⟩, ⟨20, 10⟩, ⟨0, 10⟩], some ⟨n + 1 + 1, 0, none⟩, 1, [⟨⟨5, 2⟩, ⟨9, 6⟩⟩], 2, ⟨100, 300⟩, some ⟨n + 1 + 1 + 1, 0, none⟩, 1, [⟨⟨0, 0⟩, ⟨180, 200⟩⟩]⟩
theorem ex_ok (n : Nat) : SkinOk (exS n) := by
  refine ⟨⟨by simp [exS], by kernel_rfl, by simp [exS], ?_⟩, by simp [exS], by kernel_rfl, by simp [exS], ?_, ?_, ?_⟩
  · intro h hh
    simp only [exS, List.mem_singleton] at hh
    subst hh
    exact ⟨by decide, by decide⟩
  · intro h hh
    simp only [exS, List.mem_singleton] at hh
    subst hh
    exact ⟨by decide, by decide⟩
  · intro h hh
    simp only [exS, List.mem_singleton] at hh
    subst hh
    kernel_rfl
  · intro h hh
    simp only [exS, List.mem_singleton] at hh
    subst hh
    have e : boundM (exS n) ⟨0, 0⟩ = ⟨180, 200⟩ := by kernel_rfl
    rw [e]
    decide
theorem ex_point (n : Nat) : inAreaM (exS n).pts (exS n).hs ⟨20, 10⟩ = true := by kernel_rfl
theorem ex_bound (n : Nat) : boundM (exS n) ⟨20, 10⟩ = ⟨120, 260⟩ := by kernel_rfl
set_option maxRecDepth 100000 in
set_option maxHeartbeats 4000000 in
theorem example_any (w : World) :
    Calls Tryd.prog 27 #[] w fun e w' => e = .returned (.agg #[.slice (some ⟨w.heap.size + 1, 0, none⟩) 4 4, .slice (some ⟨w.heap.size + 1 + 1, 0, none⟩) 1 1, .int .i64 2, .int .i64 100, .int .i64 300, .slice (some ⟨w.heap.size + 1 + 1 + 1, 0, none⟩) 1 1]) ∧ IsSkn w' (exS w.heap.size) ∧ Below w.heap.size w w' := by
  have k0 : Blk ((((w.alloc (.cells #[.slice (some ⟨w.heap.size + 1, 0, none⟩) 4 4, .slice (some ⟨w.heap.size + 1 + 1, 0, none⟩) 1 1, .int .i64 2, .int .i64 100, .int .i64 300, .slice (some ⟨w.heap.size + 1 + 1 + 1, 0, none⟩) 1 1] 30)).alloc (.cells #[.int .i64 0, .int .i64 0, .int .i64 20, .int .i64 0, .int .i64 20, .int .i64 10, .int .i64 0, .int .i64 10] 45)).alloc (.cells #[.int .i64 5, .int .i64 2, .int .i64 9, .int .i64 6] 64)).alloc (.cells #[.int .i64 0, .int .i64 0, .int .i64 180, .int .i64 200] 61)) w.heap.size #[.slice (some ⟨w.heap.size + 1, 0, none⟩) 4 4, .slice (some ⟨w.heap.size + 1 + 1, 0, none⟩) 1 1, .int .i64 2, .int .i64 100, .int .i64 300, .slice (some ⟨w.heap.size + 1 + 1 + 1, 0, none⟩) 1 1] 30 := (((Blk.new w _ _).alloc _).alloc _).alloc _
  have k1 : Blk ((((w.alloc (.cells #[.slice (some ⟨w.heap.size + 1, 0, none⟩) 4 4, .slice (some ⟨w.heap.size + 1 + 1, 0, none⟩) 1 1, .int .i64 2, .int .i64 100, .int .i64 300, .slice (some ⟨w.heap.size + 1 + 1 + 1, 0, none⟩) 1 1] 30)).alloc (.cells #[.int .i64 0, .int .i64 0, .int .i64 20, .int .i64 0, .int .i64 20, .int .i64 10, .int .i64 0, .int .i64 10] 45)).alloc (.cells #[.int .i64 5, .int .i64 2, .int .i64 9, .int .i64 6] 64)).alloc (.cells #[.int .i64 0, .int .i64 0, .int .i64 180, .int .i64 200] 61)) (w.heap.size + 1) #[.int .i64 0, .int .i64 0, .int .i64 20, .int .i64 0, .int .i64 20, .int .i64 10, .int .i64 0, .int .i64 10] 45 := by
    have := ((Blk.new (w.alloc (.cells #[.slice (some ⟨w.heap.size + 1, 0, none⟩) 4 4, .slice (some ⟨w.heap.size + 1 + 1, 0, none⟩) 1 1, .int .i64 2, .int .i64 100, .int .i64 300, .slice (some ⟨w.heap.size + 1 + 1 + 1, 0, none⟩) 1 1] 30)) 45 #[.int .i64 0, .int .i64 0, .int .i64 20, .int .i64 0, .int .i64 20, .int .i64 10, .int .i64 0, .int .i64 10]).alloc (.cells #[.int .i64 5, .int .i64 2, .int .i64 9, .int .i64 6] 64)).alloc (.cells #[.int .i64 0, .int .i64 0, .int .i64 180, .int .i64 200] 61)
    rwa [World.size_alloc] at this
  have k2 : Blk ((((w.alloc (.cells #[.slice (some ⟨w.heap.size + 1, 0, none⟩) 4 4, .slice (some ⟨w.heap.size + 1 + 1, 0, none⟩) 1 1, .int .i64 2, .int .i64 100, .int .i64 300, .slice (some ⟨w.heap.size + 1 + 1 + 1, 0, none⟩) 1 1] 30)).alloc (.cells #[.int .i64 0, .int .i64 0, .int .i64 20, .int .i64 0, .int .i64 20, .int .i64 10, .int .i64 0, .int .i64 10] 45)).alloc (.cells #[.int .i64 5, .int .i64 2, .int .i64 9, .int .i64 6] 64)).alloc (.cells #[.int .i64 0, .int .i64 0, .int .i64 180, .int .i64 200] 61)) (w.heap.size + 1 + 1) #[.int .i64 5, .int .i64 2, .int .i64 9, .int .i64 6] 64 := by
    have := (Blk.new ((w.alloc (.cells #[.slice (some ⟨w.heap.size + 1, 0, none⟩) 4 4, .slice (some ⟨w.heap.size + 1 + 1, 0, none⟩) 1 1, .int .i64 2, .int .i64 100, .int .i64 300, .slice (some ⟨w.heap.size + 1 + 1 + 1, 0, none⟩) 1 1] 30)).alloc (.cells #[.int .i64 0, .int .i64 0, .int .i64 20, .int .i64 0, .int .i64 20, .int .i64 10, .int .i64 0, .int .i64 10] 45)) 64 #[.int .i64 5, .int .i64 2, .int .i64 9, .int .i64 6]).alloc (.cells #[.int .i64 0, .int .i64 0, .int .i64 180, .int .i64 200] 61)
    rwa [World.size_alloc, World.size_alloc] at this
  have k3 : Blk ((((w.alloc (.cells #[.slice (some ⟨w.heap.size + 1, 0, none⟩) 4 4, .slice (some ⟨w.heap.size + 1 + 1, 0, none⟩) 1 1, .int .i64 2, .int .i64 100, .int .i64 300, .slice (some ⟨w.heap.size + 1 + 1 + 1, 0, none⟩) 1 1] 30)).alloc (.cells #[.int .i64 0, .int .i64 0, .int .i64 20, .int .i64 0, .int .i64 20, .int .i64 10, .int .i64 0, .int .i64 10] 45)).alloc (.cells #[.int .i64 5, .int .i64 2, .int .i64 9, .int .i64 6] 64)).alloc (.cells #[.int .i64 0, .int .i64 0, .int .i64 180, .int .i64 200] 61)) (w.heap.size + 1 + 1 + 1) #[.int .i64 0, .int .i64 0, .int .i64 180, .int .i64 200] 61 := by
    have := Blk.new (((w.alloc (.cells #[.slice (some ⟨w.heap.size + 1, 0, none⟩) 4 4, .slice (some ⟨w.heap.size + 1 + 1, 0, none⟩) 1 1, .int .i64 2, .int .i64 100, .int .i64 300, .slice (some ⟨w.heap.size + 1 + 1 + 1, 0, none⟩) 1 1] 30)).alloc (.cells #[.int .i64 0, .int .i64 0, .int .i64 20, .int .i64 0, .int .i64 20, .int .i64 10, .int .i64 0, .int .i64 10] 45)).alloc (.cells #[.int .i64 5, .int .i64 2, .int .i64 9, .int .i64 6] 64)) 61 #[.int .i64 0, .int .i64 0, .int .i64 180, .int .i64 200]
    rwa [World.size_alloc, World.size_alloc, World.size_alloc] at this
  have hb : Below w.heap.size w ((((w.alloc (.cells #[.slice (some ⟨w.heap.size + 1, 0, none⟩) 4 4, .slice (some ⟨w.heap.size + 1 + 1, 0, none⟩) 1 1, .int .i64 2, .int .i64 100, .int .i64 300, .slice (some ⟨w.heap.size + 1 + 1 + 1, 0, none⟩) 1 1] 30)).alloc (.cells #[.int .i64 0, .int .i64 0, .int .i64 20, .int .i64 0, .int .i64 20, .int .i64 10, .int .i64 0, .int .i64 10] 45)).alloc (.cells #[.int .i64 5, .int .i64 2, .int .i64 9, .int .i64 6] 64)).alloc (.cells #[.int .i64 0, .int .i64 0, .int .i64 180, .int .i64 200] 61)) := ((((Below.refl _ w).alloc (Nat.le_refl _) _).alloc (by simp) _).alloc (by simp; omega) _).alloc (by simp; omega) _
  have K0 := Lib.hid k0
  have K1 := Lib.hid k1
  have K2 := Lib.hid k2
  have K3 := Lib.hid k3
  have HB := Lib.hid hb
  clear k0 k1 k2 k3 hb
  go_enter Tryd.func27, Tryd.ntmps27
  go_wp2_with fail
  generalize ((((w.alloc (.cells #[.slice (some ⟨w.heap.size + 1, 0, none⟩) 4 4, .slice (some ⟨w.heap.size + 1 + 1, 0, none⟩) 1 1, .int .i64 2, .int .i64 100, .int .i64 300, .slice (some ⟨w.heap.size + 1 + 1 + 1, 0, none⟩) 1 1] 30)).alloc (.cells #[.int .i64 0, .int .i64 0, .int .i64 20, .int .i64 0, .int .i64 20, .int .i64 10, .int .i64 0, .int .i64 10] 45)).alloc (.cells #[.int .i64 5, .int .i64 2, .int .i64 9, .int .i64 6] 64)).alloc (.cells #[.int .i64 0, .int .i64 0, .int .i64 180, .int .i64 200] 61)) = wf at *
  obtain ⟨g0, g1, g2, g3, g4, g5⟩ := (show wf.cell? ⟨w.heap.size, 0, none⟩ = some (.slice (some ⟨w.heap.size + 1, 0, none⟩) 4 4) ∧ wf.cell? ⟨w.heap.size, 1, none⟩ = some (.slice (some ⟨w.heap.size + 1 + 1, 0, none⟩) 1 1) ∧ wf.cell? ⟨w.heap.size, 2, none⟩ = some (.int .i64 2) ∧ wf.cell? ⟨w.heap.size, 3, none⟩ = some (.int .i64 100) ∧ wf.cell? ⟨w.heap.size, 4, none⟩ = some (.int .i64 300) ∧ wf.cell? ⟨w.heap.size, 5, none⟩ = some (.slice (some ⟨w.heap.size + 1 + 1 + 1, 0, none⟩) 1 1) from ⟨K0.out.cell 0, K0.out.cell 1, K0.out.cell 2, K0.out.cell 3, K0.out.cell 4, K0.out.cell 5⟩)
  have hS : IsSkn wf (exS w.heap.size) := by
    refine ⟨.inr ⟨w.heap.size + 1, 0, 4, rfl, K1.out.lt, by simp [exS], by decide, fun j p hj => ?_⟩, .inr ⟨w.heap.size + 1 + 1, 0, rfl, K2.out.lt, by simp [exS], by simp [exS], fun j x hj i hi => ?_⟩, .inr ⟨w.heap.size + 1 + 1 + 1, 0, rfl, K3.out.lt, by simp [exS], by simp [exS], fun j x hj i hi => ?_⟩⟩
    · match j, hj with
      | 0, hj => cases hj; exact ⟨K1.out.cell 0, K1.out.cell 1⟩
      | 1, hj => cases hj; exact ⟨K1.out.cell 2, K1.out.cell 3⟩
      | 2, hj => cases hj; exact ⟨K1.out.cell 4, K1.out.cell 5⟩
      | 3, hj => cases hj; exact ⟨K1.out.cell 6, K1.out.cell 7⟩
      | j + 4, hj => exact absurd hj (by simp [exS])
    · match j, hj with
      | 0, hj =>
        cases hj
        match i, hi with
        | 0, _ => exact K2.out.cell 0
        | 1, _ => exact K2.out.cell 1
        | 2, _ => exact K2.out.cell 2
        | 3, _ => exact K2.out.cell 3
        | i + 4, hi => omega
      | j + 1, hj => exact absurd hj (by simp [exS])
    · match j, hj with
      | 0, hj =>
        cases hj
        match i, hi with
        | 0, _ => exact K3.out.cell 0
        | 1, _ => exact K3.out.cell 1
        | 2, _ => exact K3.out.cell 2
        | 3, _ => exact K3.out.cell 3
        | i + 4, hi => omega
      | j + 1, hj => exact absurd hj (by simp [exS])
  exact bodyPost_ret (v := .agg #[.slice (some ⟨w.heap.size + 1, 0, none⟩) 4 4, .slice (some ⟨w.heap.size + 1 + 1, 0, none⟩) 1 1, .int .i64 2, .int .i64 100, .int .i64 300, .slice (some ⟨w.heap.size + 1 + 1 + 1, 0, none⟩) 1 1]) (by simp [results, Tryd.results27, go_sem, g0, g1, g2, g3, g4, g5]) rfl ⟨rfl, hS, HB.out⟩

set_option maxRecDepth 100000 in
set_option maxHeartbeats 4000000 in
theorem lives_any (w : World) (hg : Laid w) : Calls Tryd.prog 12 #[] w fun e w' => e = .returned (.bool true) ∧ Below w.heap.size w w' := by
  have HG := Lib.hid hg
  clear hg
  go_enter Tryd.func12, Tryd.ntmps12
  go_wp2_with fail
  refine (example_any _).mono ?_
  rintro e w1 ⟨rfl, hS, hb⟩
  have HB1 := Lib.hid hb
  have hbo := wearBounds_ok (exS w.heap.size) ⟨20, 10⟩ w1 hS (HG.out.below hb) (ex_ok _) (ex_point _) (by decide)
  rw [ex_bound] at hbo
  have HBO := Lib.hid hbo
  clear hS hb hbo
  go_wp2_with fail
  refine HBO.out.mono ?_
  rintro e w2 ⟨rfl, hb⟩
  have HB2 := Lib.hid (HB1.out.trans (hb.mono HB1.out.size))
  have k1 := Blk.new w2 27 #[.int .i64 120, .int .i64 260]
  have hb3 : Below w2.heap.size w2 (w2.alloc (.cells #[.int .i64 120, .int .i64 260] 27)) := (Below.refl _ w2).alloc (Nat.le_refl _) _
  have HB3 := Lib.hid (HB2.out.trans (hb3.mono HB2.out.size))
  clear hb hb3
  go_upto_region 2 with fail
  generalize w2.alloc (.cells #[.int .i64 120, .int .i64 260] 27) = w3 at *
  have K1 := Lib.hid k1
  clear k1
  go_wp2_with fail
  refine (wearRate_any ⟨100, 200⟩ 1 2 10 50 _).mono ?_
  rintro e w4 ⟨rfl, hb⟩
  rw [show rateR ⟨100, 200⟩ 1 2 10 50 = ⟨165, 495⟩ by kernel_rfl, show rateE ⟨100, 200⟩ 1 2 10 50 = 0 by kernel_rfl]
  have k14 := K1.out.belowS hb
  have HB4 := Lib.hid (HB3.out.trans (hb.mono HB3.out.size))
  have hb5 : Below w4.heap.size w4 (w4.alloc (.cells #[.int .i64 165, .int .i64 495] 27)) := (Below.refl _ w4).alloc (Nat.le_refl _) _
  have k15 := k14.belowS hb5
  have k2 := Blk.new w4 27 #[.int .i64 165, .int .i64 495]
  have HB5 := Lib.hid (HB4.out.trans (hb5.mono HB4.out.size))
  clear hb hb5 k14
  go_upto_region 3 with fail
  generalize w4.alloc (.cells #[.int .i64 165, .int .i64 495] 27) = w5 at *
  obtain ⟨x0, x1⟩ := spn_cells (s := ⟨120, 260⟩) k15
  obtain ⟨y0, y1⟩ := spn_cells (s := ⟨165, 495⟩) k2
  have l1 := k15.lt
  have l2 := k2.lt
  have he1 : ∀ w, (Op.equalIn 10000 27 (.agg #[.int .i64 120, .int .i64 260]) (.agg #[.int .i64 120, .int .i64 260])).run Tryd.prog w = .ok true w := fun w => by
    have := run_equalIn_span 9998 ⟨120, 260⟩ ⟨120, 260⟩ w
    rwa [decide_eq_true rfl] at this
  have he2 : ∀ w, (Op.equalIn 10000 27 (.agg #[.int .i64 165, .int .i64 495]) (.agg #[.int .i64 165, .int .i64 495])).run Tryd.prog w = .ok true w := fun w => by
    have := run_equalIn_span 9998 ⟨165, 495⟩ ⟨165, 495⟩ w
    rwa [decide_eq_true rfl] at this
  clear k15 k2
  go_wp2_with fail
  go_ret
  exact ⟨rfl, HB5.out⟩
end Go.Proofs.YtoigihmgjacbjaaDoor
