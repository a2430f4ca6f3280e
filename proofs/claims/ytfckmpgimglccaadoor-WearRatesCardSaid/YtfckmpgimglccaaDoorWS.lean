/- The specification's Rate; WearRates' walk. No condition but the package's variable. -/
import Derived.Test.YtfckmpgimglccaaDoorWQ
set_option linter.unusedSimpArgs false
namespace Go.Proofs.YtfckmpgimglccaaDoor
open Go.RowKit

theorem refIn_any (n lo hi : Int) (w : World) :
    Calls Tryd.prog 35 #[.int .i64 n, .int .i64 lo, .int .i64 hi] w fun e w' => e = .returned (.bool (isFromB n lo hi)) ∧ w = w' := by
  by_cases h : lo ≤ n
  all_goals by_cases h2 : n ≤ hi
  all_goals
    go_enter Tryd.func35, Tryd.ntmps35
    go_wp2
    all_goals go_ret
    all_goals refine ⟨?_, rfl⟩
    all_goals simp [isFromB, h, h2]
theorem refSpan_any (s : Spn) (hi : Int) (w : World) :
    Calls Tryd.prog 34 #[.agg #[.int .i64 s.lo, .int .i64 s.hi], .int .i64 hi] w fun e w' => e = .returned (.bool (isSpanB s 0 hi)) ∧ Below w.heap.size w w' := by
  by_cases h1 : 0 ≤ s.lo
  all_goals by_cases h2 : s.lo ≤ s.hi
  all_goals by_cases h3 : s.hi ≤ hi
  all_goals
    go_enter Tryd.func34, Tryd.ntmps34
    go_wp2
    all_goals go_ret
    all_goals refine ⟨?_, (Below.refl _ _).alloc (Nat.le_refl _) _⟩
    all_goals simp [isSpanB, h1, h2, h3]
set_option maxRecDepth 100000 in
set_option maxHeartbeats 8000000 in
theorem refRate_any (c : Spn) (r n s m : Int) (w : World) :
    Calls Tryd.prog 14 #[.agg #[.int .i64 c.lo, .int .i64 c.hi], .int .i64 r, .int .i64 n, .int .i64 s, .int .i64 m] w fun e w' => e = .returned (.tuple #[.agg #[.int .i64 (rateR c r n s m).lo, .int .i64 (rateR c r n s m).hi], .int .i64 (rateE c r n s m)]) ∧ Below w.heap.size w w' := by
  have k1 := (Blk.new w 25 #[.int .i64 c.lo, .int .i64 c.hi]).alloc (.cells #[.int .i64 0, .int .i64 0] 23)
  have k2 := Blk.new (w.alloc (.cells #[.int .i64 c.lo, .int .i64 c.hi] 25)) 23 #[.int .i64 0, .int .i64 0]
  rw [World.size_alloc] at k2
  have hb1 : Below w.heap.size w ((w.alloc (.cells #[.int .i64 c.lo, .int .i64 c.hi] 25)).alloc (.cells #[.int .i64 0, .int .i64 0] 23)) := ((Below.refl _ w).alloc (Nat.le_refl _) _).alloc (by simp) _
  go_enter Tryd.func14, Tryd.ntmps14
  go_upto_region 1 with fail
  generalize ((w.alloc (.cells #[.int .i64 c.lo, .int .i64 c.hi] 25)).alloc (.cells #[.int .i64 0, .int .i64 0] 23)) = w1 at *
  have K1 := Lib.hid k1
  have K2 := Lib.hid k2
  have HB1 := Lib.hid hb1
  obtain ⟨a0, a1⟩ := (show w1.cell? ⟨w.heap.size, 0, none⟩ = some (.int .i64 c.lo) ∧ w1.cell? ⟨w.heap.size, 1, none⟩ = some (.int .i64 c.hi) from ⟨k1.cell 0, k1.cell 1⟩)
  have l1 := k1.lt
  clear k1 k2 hb1
  go_cut [37] from 14 to 36 (fun t wx => t = .bool (!rateOkB c r n s m) ∧ Below w1.heap.size w1 wx)
  case first =>
    go_wp2_with fail
    refine (refSpan_any c _ _).mono ?_
    rintro e w2 ⟨rfl, hb⟩
    have HB := Lib.hid hb
    clear hb a0 a1 l1
    cases h1 : isSpanB c 0 10000 with
    | false =>
      go_wp2_with fail
      go_meet
      exact ⟨by simp [rateOkB, h1], HB.out⟩
    | true =>
    go_wp2_with fail
    refine (refIn_any r _ _ _).mono ?_
    rintro e w3 ⟨rfl, rfl⟩
    cases h2 : isFromB r 1 100 with
    | false =>
      go_wp2_with fail
      go_meet
      exact ⟨by simp [rateOkB, h2], HB.out⟩
    | true =>
    go_wp2_with fail
    refine (refIn_any n _ _ _).mono ?_
    rintro e w3 ⟨rfl, rfl⟩
    cases h3 : isFromB n 1 100 with
    | false =>
      go_wp2_with fail
      go_meet
      exact ⟨by simp [rateOkB, h3], HB.out⟩
    | true =>
    go_wp2_with fail
    refine (refIn_any s _ _ _).mono ?_
    rintro e w3 ⟨rfl, rfl⟩
    cases h4 : isFromB s 0 100 with
    | false =>
      go_wp2_with fail
      go_meet
      exact ⟨by simp [rateOkB, h4], HB.out⟩
    | true =>
    go_wp2_with fail
    refine (refIn_any m _ _ _).mono ?_
    rintro e w3 ⟨rfl, rfl⟩
    cases h5 : isFromB m 0 100 with
    | false =>
      go_wp2_with fail
      go_meet
      exact ⟨by simp [rateOkB, h5], HB.out⟩
    | true =>
      go_wp2_with fail
      go_meet
      exact ⟨by simp [rateOkB, h1, h2, h3, h4, h5], HB.out⟩
  case rest =>
  obtain ⟨rfl, hb⟩ := hcut
  obtain ⟨w2, rfl⟩ : ∃ w2 : World, w2 = wc := ⟨_, rfl⟩
  have K12 := Lib.hid (K1.out.belowS hb)
  have K22 := Lib.hid (K2.out.belowS hb)
  have HB2 := Lib.hid (HB1.out.trans (hb.mono HB1.out.size))
  clear a0 a1 l1 hb
  obtain ⟨bb, hbb⟩ : ∃ bb, rateOkB c r n s m = bb := ⟨_, rfl⟩
  have HOK := Lib.hid hbb
  rw [hbb]
  clear hbb
  cases bb with
  | false =>
    have HV := Lib.hid (show rateR c r n s m = ⟨0, 0⟩ ∧ rateE c r n s m = 1 from ⟨by unfold rateR; rw [if_neg (by rw [HOK.out]; decide)], by unfold rateE; rw [if_neg (by rw [HOK.out]; decide)]⟩)
    obtain ⟨b0, b1⟩ := spn_cells (s := ⟨0, 0⟩) K22.out
    have z0 := K22.out.frozen 0
    have z1 := K22.out.frozen 1
    have l2 := K22.out.lt
    go_wp2_with fail
    have kf : Blk ((w2.setCell ⟨w.heap.size + 1, 0, none⟩ (.int .i64 0)).setCell ⟨w.heap.size + 1, 1, none⟩ (.int .i64 0)) (w.heap.size + 1) #[.int .i64 0, .int .i64 0] 23 := ((K22.out.set 0 (.int .i64 0)).set 1 (.int .i64 0))
    have ht : Turn (fun k => k = w.heap.size + 1) w2 ((w2.setCell ⟨w.heap.size + 1, 0, none⟩ (.int .i64 0)).setCell ⟨w.heap.size + 1, 1, none⟩ (.int .i64 0)) := (((Turn.of_below (X := fun k => k = w.heap.size + 1) (Below.refl _ w2)).setCell (B := w.heap.size + 1) rfl 0 (.int .i64 0)).setCell (B := w.heap.size + 1) rfl 1 (.int .i64 0))
    generalize ((w2.setCell ⟨w.heap.size + 1, 0, none⟩ (.int .i64 0)).setCell ⟨w.heap.size + 1, 1, none⟩ (.int .i64 0)) = wf at *
    clear b0 b1 z0 z1 l2
    obtain ⟨g0, g1⟩ := spn_cells (s := ⟨0, 0⟩) kf
    exact bodyPost_ret (v := .tuple #[.agg #[.int .i64 0, .int .i64 0], .int .i64 1]) (by simp [results, Tryd.results14, go_sem, g0, g1]) rfl ⟨by rw [HV.out.1, HV.out.2], HB2.out.trans (ht.below HB2.out.size (fun k e => by rw [show k = w.heap.size + 1 from e]; omega))⟩
  | true =>
    have HV := Lib.hid (show rateR c r n s m = rateM c r n s m ∧ rateE c r n s m = 0 from ⟨by unfold rateR; rw [if_pos HOK.out], by unfold rateE; rw [if_pos HOK.out]⟩)
    have HEQ := Lib.hid (show rateM c r n s m = ⟨(c.lo * (100 + s) * (r + n)).tdiv (200 * r), (c.hi * (100 + s) * (100 + m) * (r + n) + 20000 * r - 1).tdiv (20000 * r)⟩ by
      unfold rateM
      rw [Int.mul_assoc c.lo, Int.mul_right_comm (c.hi * (100 + s)), Int.mul_assoc c.hi (100 + s) (r + n)])
    obtain ⟨⟨c1, c2, c3⟩, ⟨r1, r2⟩, ⟨n1, n2⟩, ⟨s1, s2⟩, m1, m2⟩ := rateOkB_iff.1 HOK.out
    have q1 := mul_pos_bd (a := c.lo) (b := 100 + s) (m := 10000) (n := 200) (by omega) (by omega) (by omega) (by omega)
    have q2 := mul_pos_bd (a := c.lo * (100 + s)) (b := r + n) (m := 2000000) (n := 200) (by omega) (by omega) (by omega) (by omega)
    have q3 := mul_pos_bd (a := c.hi) (b := 100 + s) (m := 10000) (n := 200) (by omega) (by omega) (by omega) (by omega)
    have q4 := mul_pos_bd (a := c.hi * (100 + s)) (b := 100 + m) (m := 2000000) (n := 200) (by omega) (by omega) (by omega) (by omega)
    have q5 := mul_pos_bd (a := c.hi * (100 + s) * (100 + m)) (b := r + n) (m := 400000000) (n := 200) (by omega) (by omega) (by omega) (by omega)
    have a1 : IntKind.i64.wrap (100 + s) = 100 + s := by rw [IntKind.wrap_i64]; omega
    have a2 : IntKind.i64.wrap (r + n) = r + n := by rw [IntKind.wrap_i64]; omega
    have a3 : IntKind.i64.wrap (100 + m) = 100 + m := by rw [IntKind.wrap_i64]; omega
    have a4 : IntKind.i64.wrap (c.lo * (100 + s)) = c.lo * (100 + s) := by rw [IntKind.wrap_i64]; omega
    have a5 : IntKind.i64.wrap (c.lo * (100 + s) * (r + n)) = c.lo * (100 + s) * (r + n) := by rw [IntKind.wrap_i64]; omega
    have a6 : IntKind.i64.wrap (c.hi * (100 + s)) = c.hi * (100 + s) := by rw [IntKind.wrap_i64]; omega
    have a7 : IntKind.i64.wrap (c.hi * (100 + s) * (100 + m)) = c.hi * (100 + s) * (100 + m) := by rw [IntKind.wrap_i64]; omega
    have a8 : IntKind.i64.wrap (c.hi * (100 + s) * (100 + m) * (r + n)) = c.hi * (100 + s) * (100 + m) * (r + n) := by rw [IntKind.wrap_i64]; omega
    have a9 : IntKind.i64.wrap (200 * r) = 200 * r := by rw [IntKind.wrap_i64]; omega
    have a10 : IntKind.i64.wrap (20000 * r) = 20000 * r := by rw [IntKind.wrap_i64]; omega
    have a11 : IntKind.i64.wrap (c.hi * (100 + s) * (100 + m) * (r + n) + 20000 * r) = c.hi * (100 + s) * (100 + m) * (r + n) + 20000 * r := by rw [IntKind.wrap_i64]; omega
    have a12 : IntKind.i64.wrap (c.hi * (100 + s) * (100 + m) * (r + n) + 20000 * r - 1) = c.hi * (100 + s) * (100 + m) * (r + n) + 20000 * r - 1 := by rw [IntKind.wrap_i64]; omega
    have t1 : 0 ≤ (c.lo * (100 + s) * (r + n)).tdiv (200 * r) := Int.tdiv_nonneg (by omega) (by omega)
    have t2 : (c.lo * (100 + s) * (r + n)).tdiv (200 * r) ≤ c.lo * (100 + s) * (r + n) := by rw [Int.tdiv_eq_ediv_of_nonneg (by omega)]; exact Int.ediv_le_self _ (by omega)
    have t3 : 0 ≤ (c.hi * (100 + s) * (100 + m) * (r + n) + 20000 * r - 1).tdiv (20000 * r) := Int.tdiv_nonneg (by omega) (by omega)
    have t4 : (c.hi * (100 + s) * (100 + m) * (r + n) + 20000 * r - 1).tdiv (20000 * r) ≤ c.hi * (100 + s) * (100 + m) * (r + n) + 20000 * r - 1 := by rw [Int.tdiv_eq_ediv_of_nonneg (by omega)]; exact Int.ediv_le_self _ (by omega)
    have a13 : IntKind.i64.wrap ((c.lo * (100 + s) * (r + n)).tdiv (200 * r)) = (c.lo * (100 + s) * (r + n)).tdiv (200 * r) := by rw [IntKind.wrap_i64]; omega
    have a14 : IntKind.i64.wrap ((c.hi * (100 + s) * (100 + m) * (r + n) + 20000 * r - 1).tdiv (20000 * r)) = (c.hi * (100 + s) * (100 + m) * (r + n) + 20000 * r - 1).tdiv (20000 * r) := by rw [IntKind.wrap_i64]; omega
    have d0 : ¬ 200 * r = 0 := by omega
    have d0' : ((200 * r) == 0) = false := by rw [beq_eq_false_iff_ne]; omega
    have d1 : ¬ r = 0 := by omega
    have d2 : ¬ 20000 * r = 0 := by omega
    have d2' : ((20000 * r) == 0) = false := by rw [beq_eq_false_iff_ne]; omega
    clear q1 q2 q3 q4 q5 t1 t2 t3 t4 c1 c2 c3 r1 r2 n1 n2 s1 s2 m1 m2
    obtain ⟨x0, x1⟩ := (show w2.cell? ⟨w.heap.size, 0, none⟩ = some (.int .i64 c.lo) ∧ w2.cell? ⟨w.heap.size, 1, none⟩ = some (.int .i64 c.hi) from ⟨K12.out.cell 0, K12.out.cell 1⟩)
    have l1 := K12.out.lt
    go_upto_region 5 with fail
    clear x0 x1 l1
    have hx : (fun _ : World => True) w2.drew := trivial
    refine wp_region_E 15 (fun _ : World => True) (by kernel_rfl) ?_
    refine E_takeR (i := 0) (oi := _) (v := ?vt10) rfl (by kernel_rfl) (by kernel_rfl) (by kernel_rfl) (by decide) (fun _ _ _ h => h) hx (Or.inl ⟨by rfl, ?yt10⟩) ?rt10
    case yt10 => (intro w' hSw; (try dsimp only at hSw); go_simp; try with_reducible rfl)
    try simp only [Act.put, List.getElem_toArray, List.getElem_cons_zero, List.getElem_cons_succ, List.setIfInBounds_toArray, List.set_cons_zero, List.set_cons_succ]
    refine E_takeR (i := 1) (oi := _) (v := ?vt11) rfl (by kernel_rfl) (by kernel_rfl) (by kernel_rfl) (by decide) (fun _ _ _ h => h) hx (Or.inl ⟨by rfl, ?yt11⟩) ?rt11
    case yt11 => (intro w' hSw; (try dsimp only at hSw); go_simp; try with_reducible rfl)
    try simp only [Act.put, List.getElem_toArray, List.getElem_cons_zero, List.getElem_cons_succ, List.setIfInBounds_toArray, List.set_cons_zero, List.set_cons_succ]
    refine E_takeR (i := 2) (oi := _) (v := ?vt12) rfl (by kernel_rfl) (by kernel_rfl) (by kernel_rfl) (by decide) (fun _ _ _ h => h) hx (Or.inl ⟨by rfl, ?yt12⟩) ?rt12
    case yt12 => (intro w' hSw; (try dsimp only at hSw); go_simp; try with_reducible rfl)
    try simp only [Act.put, List.getElem_toArray, List.getElem_cons_zero, List.getElem_cons_succ, List.setIfInBounds_toArray, List.set_cons_zero, List.set_cons_succ]
    refine E_takeR (i := 3) (oi := _) (v := ?vt13) rfl (by kernel_rfl) (by kernel_rfl) (by kernel_rfl) (by decide) (fun _ _ _ h => h) hx (Or.inl ⟨by rfl, ?yt13⟩) ?rt13
    case yt13 => (intro w' hSw; (try dsimp only at hSw); go_simp; try with_reducible rfl)
    try simp only [Act.put, List.getElem_toArray, List.getElem_cons_zero, List.getElem_cons_succ, List.setIfInBounds_toArray, List.set_cons_zero, List.set_cons_succ]
    refine E_takeR (i := 4) (oi := _) (v := ?vt14) rfl (by kernel_rfl) (by kernel_rfl) (by kernel_rfl) (by decide) (fun _ _ _ h => h) hx (Or.inl ⟨by rfl, ?yt14⟩) ?rt14
    case yt14 => (intro w' hSw; (try dsimp only at hSw); go_simp; try with_reducible rfl)
    try simp only [Act.put, List.getElem_toArray, List.getElem_cons_zero, List.getElem_cons_succ, List.setIfInBounds_toArray, List.set_cons_zero, List.set_cons_succ]
    refine E_takeR (i := 5) (oi := _) (v := ?vt15) rfl (by kernel_rfl) (by kernel_rfl) (by kernel_rfl) (by decide) (fun _ _ _ h => h) hx (Or.inl ⟨by rfl, ?yt15⟩) ?rt15
    case yt15 => (intro w' hSw; (try dsimp only at hSw); go_simp; try with_reducible rfl)
    try simp only [Act.put, List.getElem_toArray, List.getElem_cons_zero, List.getElem_cons_succ, List.setIfInBounds_toArray, List.set_cons_zero, List.set_cons_succ]
    refine E_takeR (i := 6) (oi := _) (v := ?vt16) rfl (by kernel_rfl) (by kernel_rfl) (by kernel_rfl) (by decide) (fun _ _ _ h => h) hx (Or.inl ⟨by rfl, ?yt16⟩) ?rt16
    case yt16 => (intro w' hSw; (try dsimp only at hSw); go_simp; try with_reducible rfl)
    try simp only [Act.put, List.getElem_toArray, List.getElem_cons_zero, List.getElem_cons_succ, List.setIfInBounds_toArray, List.set_cons_zero, List.set_cons_succ]
    refine E_takeR (i := 7) (oi := _) (v := ?vt17) rfl (by kernel_rfl) (by kernel_rfl) (by kernel_rfl) (by decide) (fun _ _ _ h => h) hx (Or.inl ⟨by rfl, ?yt17⟩) ?rt17
    case yt17 => (intro w' hSw; (try dsimp only at hSw); go_simp; try with_reducible rfl)
    try simp only [Act.put, List.getElem_toArray, List.getElem_cons_zero, List.getElem_cons_succ, List.setIfInBounds_toArray, List.set_cons_zero, List.set_cons_succ]
    refine E_takeR (i := 8) (oi := _) (v := ?vt18) rfl (by kernel_rfl) (by kernel_rfl) (by kernel_rfl) (by decide) (fun _ _ _ h => h) hx (Or.inl ⟨by rfl, ?yt18⟩) ?rt18
    case yt18 => (intro w' hSw; (try dsimp only at hSw); go_simp; try with_reducible rfl)
    try simp only [Act.put, List.getElem_toArray, List.getElem_cons_zero, List.getElem_cons_succ, List.setIfInBounds_toArray, List.set_cons_zero, List.set_cons_succ]
    refine E_takeR (i := 9) (oi := _) (v := ?vt19) rfl (by kernel_rfl) (by kernel_rfl) (by kernel_rfl) (by decide) (fun _ _ _ h => h) hx (Or.inl ⟨by rfl, ?yt19⟩) ?rt19
    case yt19 => (intro w' hSw; (try dsimp only at hSw); go_simp; try with_reducible rfl)
    try simp only [Act.put, List.getElem_toArray, List.getElem_cons_zero, List.getElem_cons_succ, List.setIfInBounds_toArray, List.set_cons_zero, List.set_cons_succ]
    refine E_takeR (i := 10) (oi := _) (v := ?vt20) rfl (by kernel_rfl) (by kernel_rfl) (by kernel_rfl) (by decide) (fun _ _ _ h => h) hx (Or.inl ⟨by rfl, ?yt20⟩) ?rt20
    case yt20 => (intro w' hSw; (try dsimp only at hSw); go_simp; try with_reducible rfl)
    try simp only [Act.put, List.getElem_toArray, List.getElem_cons_zero, List.getElem_cons_succ, List.setIfInBounds_toArray, List.set_cons_zero, List.set_cons_succ]
    refine E_takeR (i := 11) (oi := _) (v := ?vt21) rfl (by kernel_rfl) (by kernel_rfl) (by kernel_rfl) (by decide) (fun _ _ _ h => h) hx (Or.inl ⟨by rfl, ?yt21⟩) ?rt21
    case yt21 => (intro w' hSw; (try dsimp only at hSw); go_simp; try with_reducible rfl)
    try simp only [Act.put, List.getElem_toArray, List.getElem_cons_zero, List.getElem_cons_succ, List.setIfInBounds_toArray, List.set_cons_zero, List.set_cons_succ]
    refine E_takeR (i := 12) (oi := _) (v := ?vt22) rfl (by kernel_rfl) (by kernel_rfl) (by kernel_rfl) (by decide) (fun _ _ _ h => h) hx (Or.inl ⟨by rfl, ?yt22⟩) ?rt22
    case yt22 => (intro w' hSw; (try dsimp only at hSw); go_simp; try with_reducible rfl)
    try simp only [Act.put, List.getElem_toArray, List.getElem_cons_zero, List.getElem_cons_succ, List.setIfInBounds_toArray, List.set_cons_zero, List.set_cons_succ]
    obtain ⟨L, hL⟩ : ∃ L, (c.lo * (100 + s) * (r + n)).tdiv (200 * r) = L := ⟨_, rfl⟩
    obtain ⟨K', hK'⟩ : ∃ K', (c.hi * (100 + s) * (100 + m) * (r + n) + 20000 * r - 1).tdiv (20000 * r) = K' := ⟨_, rfl⟩
    rw [hL, hK'] at HEQ ⊢
    clear hL hK' a1 a2 a3 a4 a5 a6 a7 a8 a9 a10 a11 a12 a13 a14 d0 d0' d1 d2 d2'
    obtain ⟨b0, b1⟩ := spn_cells (s := ⟨0, 0⟩) K22.out
    have z0 := K22.out.frozen 0
    have z1 := K22.out.frozen 1
    have l2 := K22.out.lt
    refine E_step (i := 13) (o := _) (by kernel_rfl) rfl (fun K hK => ?_)
    go_simp
    refine hK.out _ _ (fun _ => trivial) ?_
    clear hK K
    try simp only [Act.put, List.getElem_toArray, List.getElem_cons_zero, List.getElem_cons_succ, List.setIfInBounds_toArray, List.set_cons_zero, List.set_cons_succ]
    have hx2 : (fun _ : World => True) (((w2.setCell ⟨w.heap.size + 1, 0, none⟩ (.int .i64 L)).setCell ⟨w.heap.size + 1, 1, none⟩ (.int .i64 K')).drew) := trivial
    refine E_takeR (i := 14) (oi := _) (v := ?vt23) rfl (by kernel_rfl) (by kernel_rfl) (by kernel_rfl) (by decide) (fun _ _ _ h => h) hx2 (Or.inl ⟨by rfl, ?yt23⟩) ?rt23
    case yt23 => (intro w' hSw; (try dsimp only at hSw); go_simp; try with_reducible rfl)
    try simp only [Act.put, List.getElem_toArray, List.getElem_cons_zero, List.getElem_cons_succ, List.setIfInBounds_toArray, List.set_cons_zero, List.set_cons_succ]
    refine E_done (by kernel_rfl) ?_ _
    have kf : Blk ((w2.setCell ⟨w.heap.size + 1, 0, none⟩ (.int .i64 L)).setCell ⟨w.heap.size + 1, 1, none⟩ (.int .i64 K')).drew (w.heap.size + 1) #[.int .i64 L, .int .i64 K'] 23 := (((K22.out.set 0 (.int .i64 L)).set 1 (.int .i64 K'))).drew
    have hbf : Below w.heap.size w ((w2.setCell ⟨w.heap.size + 1, 0, none⟩ (.int .i64 L)).setCell ⟨w.heap.size + 1, 1, none⟩ (.int .i64 K')).drew := ((HB2.out.setCell (p := ⟨w.heap.size + 1, 0, none⟩) (Nat.le_succ _) _).setCell (p := ⟨w.heap.size + 1, 1, none⟩) (Nat.le_succ _) _).drew
    generalize ((w2.setCell ⟨w.heap.size + 1, 0, none⟩ (.int .i64 L)).setCell ⟨w.heap.size + 1, 1, none⟩ (.int .i64 K')).drew = wf at *
    have HBF := Lib.hid hbf
    clear hx hx2 b0 b1 z0 z1 l2 hbf
    obtain ⟨g0, g1⟩ := spn_cells (s := ⟨L, K'⟩) kf
    go_wp2_with fail
    exact bodyPost_ret (v := .tuple #[.agg #[.int .i64 L, .int .i64 K'], .int .i64 0]) (by simp [results, Tryd.results14, go_sem, g0, g1]) rfl ⟨by rw [HV.out.1, HV.out.2, HEQ.out], HBF.out⟩

set_option maxRecDepth 100000 in
set_option maxHeartbeats 4000000 in
theorem wearRatesLaw_any (c : Spn) (r n s m : Int) (w : World) (hg : Laid w) :
    Calls Tryd.prog 3 #[.agg #[.int .i64 c.lo, .int .i64 c.hi], .int .i64 r, .int .i64 n, .int .i64 s, .int .i64 m] w fun e w' => e = .returned (.bool true) ∧ Below w.heap.size w w' := by
  have k1 := Blk.new w 25 #[.int .i64 c.lo, .int .i64 c.hi]
  have hb1 : Below w.heap.size w (w.alloc (.cells #[.int .i64 c.lo, .int .i64 c.hi] 25)) := (Below.refl _ w).alloc (Nat.le_refl _) _
  have HG := Lib.hid hg
  clear hg
  go_enter Tryd.func3, Tryd.ntmps3
  go_upto_region 1 with fail
  generalize w.alloc (.cells #[.int .i64 c.lo, .int .i64 c.hi] 25) = w1 at *
  have K1 := Lib.hid k1
  have HB1 := Lib.hid hb1
  obtain ⟨c0, c1⟩ := spn_cells k1
  have l1 := k1.lt
  clear k1 hb1
  go_wp2_with fail
  refine (wearRate_any c r n s m _).mono ?_
  rintro e w2 ⟨rfl, hb⟩
  have HRR := Lib.hid (fun w' => refRate_any c r n s m w')
  generalize rateR c r n s m = A at *
  generalize rateE c r n s m = E at *
  have kA := Blk.new w2 23 #[.int .i64 A.lo, .int .i64 A.hi]
  have hb3 : Below w2.heap.size w2 (w2.alloc (.cells #[.int .i64 A.lo, .int .i64 A.hi] 23)) := (Below.refl _ w2).alloc (Nat.le_refl _) _
  have hb13 := hb.trans (hb3.mono hb.size)
  have k13 := K1.out.belowS hb13
  have HB3 := Lib.hid (HB1.out.trans (hb13.mono HB1.out.size))
  clear c0 c1 l1 hb hb3 hb13 K1
  go_upto_region 2 with fail
  generalize w2.alloc (.cells #[.int .i64 A.lo, .int .i64 A.hi] 23) = w3 at *
  obtain ⟨c0, c1⟩ := spn_cells k13
  have l1 := k13.lt
  have KA := Lib.hid kA
  clear k13 kA
  go_wp2_with fail
  refine (HRR.out _).mono ?_
  rintro e w4 ⟨rfl, hb⟩
  have kB := Blk.new w4 23 #[.int .i64 A.lo, .int .i64 A.hi]
  have hb5 : Below w4.heap.size w4 (w4.alloc (.cells #[.int .i64 A.lo, .int .i64 A.hi] 23)) := (Below.refl _ w4).alloc (Nat.le_refl _) _
  have hb35 := hb.trans (hb5.mono hb.size)
  have kA5 := KA.out.belowS hb35
  have HB5 := Lib.hid (HB3.out.trans (hb35.mono HB3.out.size))
  clear c0 c1 l1 hb hb5 hb35 KA
  go_upto_region 3 with fail
  generalize w4.alloc (.cells #[.int .i64 A.lo, .int .i64 A.hi] 23) = w5 at *
  obtain ⟨a0, a1⟩ := spn_cells kA5
  obtain ⟨b0, b1⟩ := spn_cells kB
  have lA := kA5.lt
  have lB := kB.lt
  have he1 : ∀ w, (Op.equalIn 10000 23 (.agg #[.int .i64 A.lo, .int .i64 A.hi]) (.agg #[.int .i64 A.lo, .int .i64 A.hi])).run Tryd.prog w = .ok true w := fun w => by
    have := run_equalIn_span 9998 A A w
    rwa [decide_eq_true rfl] at this
  clear kA5 kB
  go_wp2_with fail
  refine (lives_any _ (HG.out.below HB5.out)).mono ?_
  rintro e w6 ⟨rfl, hbz⟩
  go_wp2_with fail
  go_ret
  exact ⟨rfl, HB5.out.trans (hbz.mono HB5.out.size)⟩
end Go.Proofs.YtfckmpgimglccaaDoor
