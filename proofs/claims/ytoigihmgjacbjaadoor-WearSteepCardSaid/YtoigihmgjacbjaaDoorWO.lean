/- Rate: what a season takes of a face; the example; lives. No condition. -/
import Derived.Test.YtoigihmgjacbjaaDoorWN
set_option linter.unusedSimpArgs false
namespace Go.Proofs.YtoigihmgjacbjaaDoor
open Go.RowKit

theorem quotientUp_any (a b : Int) (ha : 0 ≤ a ∧ a ≤ 1000000000000) (hb : 1 ≤ b ∧ b ≤ 10000000) (w : World) :
    Calls Tryd.prog 79 #[.int .i64 a, .int .i64 b] w fun e w' => e = .returned (.int .i64 ((a + b - 1).tdiv b)) ∧ w' = w := by
  have w1 : IntKind.i64.wrap (a + b) = a + b := by rw [IntKind.wrap_i64]; omega
  have w2 : IntKind.i64.wrap (a + b - 1) = a + b - 1 := by rw [IntKind.wrap_i64]; omega
  have h0 : ¬ b = 0 := by omega
  have h0' : (b == 0) = false := by rw [beq_eq_false_iff_ne]; omega
  have h1 : 0 ≤ (a + b - 1).tdiv b := Int.tdiv_nonneg (by omega) (by omega)
  have h2 : (a + b - 1).tdiv b ≤ a + b - 1 := by rw [Int.tdiv_eq_ediv_of_nonneg (by omega)]; exact Int.ediv_le_self _ (by omega)
  have w3 : IntKind.i64.wrap ((a + b - 1).tdiv b) = (a + b - 1).tdiv b := by rw [IntKind.wrap_i64]; omega
  clear h1 h2 ha hb
  go_enter Tryd.func79, Tryd.ntmps79
  go_wp2
  go_ret
  exact ⟨rfl, rfl⟩
theorem isPitch_any (n : Int) (w : World) : Calls Tryd.prog 55 #[.int .i64 n] w fun e w' => e = .returned (.bool (isFromB n 1 100)) ∧ w = w' := by
  go_enter Tryd.func55, Tryd.ntmps55
  go_wp2_with fail
  refine (isFrom_any _ _ _ _).mono ?_
  rintro e w' ⟨rfl, rfl⟩
  go_wp2_with fail
  go_ret
  exact ⟨rfl, rfl⟩
theorem isPercent_any (n : Int) (w : World) : Calls Tryd.prog 56 #[.int .i64 n] w fun e w' => e = .returned (.bool (isFromB n 0 100)) ∧ w = w' := by
  go_enter Tryd.func56, Tryd.ntmps56
  go_wp2_with fail
  refine (isFrom_any _ _ _ _).mono ?_
  rintro e w' ⟨rfl, rfl⟩
  go_wp2_with fail
  go_ret
  exact ⟨rfl, rfl⟩
theorem isClimate_any (c : Spn) (w : World) : Calls Tryd.prog 54 #[.agg #[.int .i64 c.lo, .int .i64 c.hi]] w fun e w' => e = .returned (.bool (isSpanB c 0 10000)) ∧ Below w.heap.size w w' := by
  have hb1 : Below w.heap.size w (w.alloc (.cells #[.int .i64 c.lo, .int .i64 c.hi] 69)) := (Below.refl _ _).alloc (Nat.le_refl _) _
  go_enter Tryd.func54, Tryd.ntmps54
  go_wp2_with fail
  refine (isSpan_any c _ _ _).mono ?_
  rintro e w' ⟨rfl, hb⟩
  go_wp2_with fail
  go_ret
  exact ⟨rfl, hb1.trans (hb.mono hb1.size)⟩
def rateOkB (c : Spn) (r n s m : Int) : Bool := isSpanB c 0 10000 && (isFromB r 1 100 && (isFromB n 1 100 && (isFromB s 0 100 && isFromB m 0 100)))
def rateM (c : Spn) (r n s m : Int) : Spn := ⟨(c.lo * ((100 + s) * (r + n))).tdiv (200 * r), (c.hi * ((100 + s) * (r + n)) * (100 + m) + 20000 * r - 1).tdiv (20000 * r)⟩
theorem rateOkB_iff {c : Spn} {r n s m : Int} : rateOkB c r n s m = true ↔ (0 ≤ c.lo ∧ c.lo ≤ c.hi ∧ c.hi ≤ 10000) ∧ (1 ≤ r ∧ r ≤ 100) ∧ (1 ≤ n ∧ n ≤ 100) ∧ (0 ≤ s ∧ s ≤ 100) ∧ 0 ≤ m ∧ m ≤ 100 := by
  simp [rateOkB, isSpanB_iff, isFromB]
theorem mul_pos_bd {a b m n : Int} (ha : 0 ≤ a) (ha' : a ≤ m) (hb : 0 ≤ b) (hb' : b ≤ n) : 0 ≤ a * b ∧ a * b ≤ m * n :=
  ⟨Int.mul_nonneg ha hb, Int.mul_le_mul ha' hb' hb (by omega)⟩
set_option maxRecDepth 100000 in
set_option maxHeartbeats 4000000 in
theorem rate_any (c : Spn) (r n s m : Int) (hok : rateOkB c r n s m = true) (w : World) :
    Calls Tryd.prog 57 #[.agg #[.int .i64 c.lo, .int .i64 c.hi], .int .i64 r, .int .i64 n, .int .i64 s, .int .i64 m] w fun e w' => e = .returned (.agg #[.int .i64 (rateM c r n s m).lo, .int .i64 (rateM c r n s m).hi]) ∧ Below w.heap.size w w' := by
  obtain ⟨⟨c1, c2, c3⟩, ⟨r1, r2⟩, ⟨n1, n2⟩, ⟨s1, s2⟩, m1, m2⟩ := rateOkB_iff.1 hok
  have q1 := mul_pos_bd (a := 100 + s) (b := r + n) (m := 200) (n := 200) (by omega) (by omega) (by omega) (by omega)
  have q2 := mul_pos_bd (a := c.lo) (b := (100 + s) * (r + n)) (m := 10000) (n := 40000) (by omega) (by omega) (by omega) (by omega)
  have q3 := mul_pos_bd (a := c.hi) (b := (100 + s) * (r + n)) (m := 10000) (n := 40000) (by omega) (by omega) (by omega) (by omega)
  have q4 := mul_pos_bd (a := c.hi * ((100 + s) * (r + n))) (b := 100 + m) (m := 400000000) (n := 200) (by omega) (by omega) (by omega) (by omega)
  have a1 : IntKind.i64.wrap (100 + s) = 100 + s := by rw [IntKind.wrap_i64]; omega
  have a2 : IntKind.i64.wrap (r + n) = r + n := by rw [IntKind.wrap_i64]; omega
  have a3 : IntKind.i64.wrap ((100 + s) * (r + n)) = (100 + s) * (r + n) := by rw [IntKind.wrap_i64]; omega
  have a4 : IntKind.i64.wrap (c.lo * ((100 + s) * (r + n))) = c.lo * ((100 + s) * (r + n)) := by rw [IntKind.wrap_i64]; omega
  have a5 : IntKind.i64.wrap (200 * r) = 200 * r := by rw [IntKind.wrap_i64]; omega
  have a6 : IntKind.i64.wrap (c.hi * ((100 + s) * (r + n))) = c.hi * ((100 + s) * (r + n)) := by rw [IntKind.wrap_i64]; omega
  have a7 : IntKind.i64.wrap (100 + m) = 100 + m := by rw [IntKind.wrap_i64]; omega
  have a8 : IntKind.i64.wrap (c.hi * ((100 + s) * (r + n)) * (100 + m)) = c.hi * ((100 + s) * (r + n)) * (100 + m) := by rw [IntKind.wrap_i64]; omega
  have a9 : IntKind.i64.wrap (20000 * r) = 20000 * r := by rw [IntKind.wrap_i64]; omega
  have d0 : ¬ 200 * r = 0 := by omega
  have d0' : ((200 * r) == 0) = false := by rw [beq_eq_false_iff_ne]; omega
  have d1 : ¬ r = 0 := by omega
  have t1 : 0 ≤ (c.lo * ((100 + s) * (r + n))).tdiv (200 * r) := Int.tdiv_nonneg (by omega) (by omega)
  have t2 : (c.lo * ((100 + s) * (r + n))).tdiv (200 * r) ≤ c.lo * ((100 + s) * (r + n)) := by rw [Int.tdiv_eq_ediv_of_nonneg (by omega)]; exact Int.ediv_le_self _ (by omega)
  have a10 : IntKind.i64.wrap ((c.lo * ((100 + s) * (r + n))).tdiv (200 * r)) = (c.lo * ((100 + s) * (r + n))).tdiv (200 * r) := by rw [IntKind.wrap_i64]; omega
  have HQ := Lib.hid (fun w' => quotientUp_any (c.hi * ((100 + s) * (r + n)) * (100 + m)) (20000 * r) (by omega) (by omega) w')
  have k1 := (Blk.new w 69 #[.int .i64 c.lo, .int .i64 c.hi]).alloc (.cells #[.int .i64 0, .int .i64 0] 27)
  have k2 := Blk.new (w.alloc (.cells #[.int .i64 c.lo, .int .i64 c.hi] 69)) 27 #[.int .i64 0, .int .i64 0]
  rw [World.size_alloc] at k2
  have hb1 : Below w.heap.size w ((w.alloc (.cells #[.int .i64 c.lo, .int .i64 c.hi] 69)).alloc (.cells #[.int .i64 0, .int .i64 0] 27)) := ((Below.refl _ w).alloc (Nat.le_refl _) _).alloc (by simp) _
  clear q1 q2 q3 q4 c1 c2 c3 r1 r2 n1 n2 s1 s2 m1 m2 t1 t2 hok
  go_enter Tryd.func57, Tryd.ntmps57
  go_upto_region 2 with fail
  generalize ((w.alloc (.cells #[.int .i64 c.lo, .int .i64 c.hi] 69)).alloc (.cells #[.int .i64 0, .int .i64 0] 27)) = w1 at *
  have K1 := Lib.hid k1
  have K2 := Lib.hid k2
  have HB1 := Lib.hid hb1
  have l1 : w.heap.size < w1.heap.size := k1.lt
  have hx : (fun w' : World => w'.cell? ⟨w.heap.size, 0, none⟩ = some (.int .i64 c.lo) ∧ w'.cell? ⟨w.heap.size, 1, none⟩ = some (.int .i64 c.hi)) w1.drew := ⟨k1.cell 0, k1.cell 1⟩
  clear k1 k2 hb1
  refine wp_region_E 21 (fun w' : World => w'.cell? ⟨w.heap.size, 0, none⟩ = some (.int .i64 c.lo) ∧ w'.cell? ⟨w.heap.size, 1, none⟩ = some (.int .i64 c.hi)) (by kernel_rfl) ?_
  refine E_takeR (i := 0) (oi := _) (v := ?vt10) rfl (by kernel_rfl) (by kernel_rfl) (by kernel_rfl) (by decide) (fun _ _ _ h => h) hx (Or.inl ⟨by rfl, ?yt10⟩) ?rt10
  case yt10 => (intro w' hSw; (try dsimp only at hSw); go_simp; try with_reducible rfl)
  try simp only [Act.put, List.getElem_toArray, List.getElem_cons_zero, List.getElem_cons_succ, List.setIfInBounds_toArray, List.set_cons_zero, List.set_cons_succ]
  refine E_takeR (i := 1) (oi := _) (v := ?vt11) rfl (by kernel_rfl) (by kernel_rfl) (by kernel_rfl) (by decide) (fun _ _ _ h => h) hx (Or.inl ⟨by rfl, ?yt11⟩) ?rt11
  case yt11 => (intro w' hSw; (try dsimp only at hSw); go_simp; try with_reducible rfl)
  try simp only [Act.put, List.getElem_toArray, List.getElem_cons_zero, List.getElem_cons_succ, List.setIfInBounds_toArray, List.set_cons_zero, List.set_cons_succ]
  refine E_takeR (i := 2) (oi := _) (v := ?vt12) rfl (by kernel_rfl) (by kernel_rfl) (by kernel_rfl) (by decide) (fun _ _ _ h => h) hx (Or.inl ⟨by rfl, ?yt12⟩) ?rt12
  case yt12 => (intro w' hSw; (try dsimp only at hSw); go_simp; try with_reducible rfl)
  try simp only [Act.put, List.getElem_toArray, List.getElem_cons_zero, List.getElem_cons_succ, List.setIfInBounds_toArray, List.set_cons_zero, List.set_cons_succ]
  refine E_takeR (i := 3) (oi := _) (v := ?vt13) rfl (by kernel_rfl) (by kernel_rfl) (by kernel_rfl) (by decide) (fun _ _ _ h => h) hx (Or.inl ⟨by rfl, ?yt13⟩) ?rt13
  case yt13 => (intro w' hSw; (try dsimp only at hSw); go_simp; try with_reducible rfl)
  try simp only [Act.put, List.getElem_toArray, List.getElem_cons_zero, List.getElem_cons_succ, List.setIfInBounds_toArray, List.set_cons_zero, List.set_cons_succ]
  refine E_takeR (i := 4) (oi := _) (v := ?vt14) rfl (by kernel_rfl) (by kernel_rfl) (by kernel_rfl) (by decide) (fun _ _ _ h => h) hx (Or.inl ⟨by rfl, ?yt14⟩) ?rt14
  case yt14 => (intro w' hSw; (try dsimp only at hSw); go_simp; try with_reducible rfl)
  try simp only [Act.put, List.getElem_toArray, List.getElem_cons_zero, List.getElem_cons_succ, List.setIfInBounds_toArray, List.set_cons_zero, List.set_cons_succ]
  refine E_takeR (i := 5) (oi := _) (v := ?vt15) rfl (by kernel_rfl) (by kernel_rfl) (by kernel_rfl) (by decide) (fun _ _ _ h => h) hx (Or.inl ⟨by rfl, ?yt15⟩) ?rt15
  case yt15 => (intro w' hSw; (try dsimp only at hSw); go_simp; try with_reducible rfl)
  try simp only [Act.put, List.getElem_toArray, List.getElem_cons_zero, List.getElem_cons_succ, List.setIfInBounds_toArray, List.set_cons_zero, List.set_cons_succ]
  refine E_takeR (i := 6) (oi := _) (v := ?vt16) rfl (by kernel_rfl) (by kernel_rfl) (by kernel_rfl) (by decide) (fun _ _ _ h => h) hx (Or.inl ⟨by rfl, ?yt16⟩) ?rt16
  case yt16 => (intro w' hSw; (try dsimp only at hSw); go_simp; try with_reducible rfl)
  try simp only [Act.put, List.getElem_toArray, List.getElem_cons_zero, List.getElem_cons_succ, List.setIfInBounds_toArray, List.set_cons_zero, List.set_cons_succ]
  refine E_takeR (i := 7) (oi := _) (v := ?vt17) rfl (by kernel_rfl) (by kernel_rfl) (by kernel_rfl) (by decide) (fun _ _ _ h => h) hx (Or.inl ⟨by rfl, ?yt17⟩) ?rt17
  case yt17 => (intro w' hSw; (try dsimp only at hSw); go_simp; try with_reducible rfl)
  try simp only [Act.put, List.getElem_toArray, List.getElem_cons_zero, List.getElem_cons_succ, List.setIfInBounds_toArray, List.set_cons_zero, List.set_cons_succ]
  refine E_takeR (i := 8) (oi := _) (v := ?vt18) rfl (by kernel_rfl) (by kernel_rfl) (by kernel_rfl) (by decide) (fun _ _ _ h => h) hx (Or.inl ⟨by rfl, ?yt18⟩) ?rt18
  case yt18 => (intro w' hSw; (try dsimp only at hSw); go_simp; try with_reducible rfl)
  try simp only [Act.put, List.getElem_toArray, List.getElem_cons_zero, List.getElem_cons_succ, List.setIfInBounds_toArray, List.set_cons_zero, List.set_cons_succ]
  refine E_takeR (i := 9) (oi := _) (v := ?vt19) rfl (by kernel_rfl) (by kernel_rfl) (by kernel_rfl) (by decide) (fun _ _ _ h => h) hx (Or.inl ⟨by rfl, ?yt19⟩) ?rt19
  case yt19 => (intro w' hSw; (try dsimp only at hSw); go_simp; try with_reducible rfl)
  try simp only [Act.put, List.getElem_toArray, List.getElem_cons_zero, List.getElem_cons_succ, List.setIfInBounds_toArray, List.set_cons_zero, List.set_cons_succ]
  refine E_takeR (i := 10) (oi := _) (v := ?vt20) rfl (by kernel_rfl) (by kernel_rfl) (by kernel_rfl) (by decide) (fun _ _ _ h => h) hx (Or.inl ⟨by rfl, ?yt20⟩) ?rt20
  case yt20 => (intro w' hSw; (try dsimp only at hSw); go_simp; try with_reducible rfl)
  try simp only [Act.put, List.getElem_toArray, List.getElem_cons_zero, List.getElem_cons_succ, List.setIfInBounds_toArray, List.set_cons_zero, List.set_cons_succ]
  refine E_takeR (i := 11) (oi := _) (v := ?vt21) rfl (by kernel_rfl) (by kernel_rfl) (by kernel_rfl) (by decide) (fun _ _ _ h => h) hx (Or.inl ⟨by rfl, ?yt21⟩) ?rt21
  case yt21 => (intro w' hSw; (try dsimp only at hSw); go_simp; try with_reducible rfl)
  try simp only [Act.put, List.getElem_toArray, List.getElem_cons_zero, List.getElem_cons_succ, List.setIfInBounds_toArray, List.set_cons_zero, List.set_cons_succ]
  refine E_takeR (i := 12) (oi := _) (v := ?vt22) rfl (by kernel_rfl) (by kernel_rfl) (by kernel_rfl) (by decide) (fun _ _ _ h => h) hx (Or.inl ⟨by rfl, ?yt22⟩) ?rt22
  case yt22 => (intro w' hSw; (try dsimp only at hSw); go_simp; try with_reducible rfl)
  try simp only [Act.put, List.getElem_toArray, List.getElem_cons_zero, List.getElem_cons_succ, List.setIfInBounds_toArray, List.set_cons_zero, List.set_cons_succ]
  refine E_takeR (i := 13) (oi := _) (v := ?vt23) rfl (by kernel_rfl) (by kernel_rfl) (by kernel_rfl) (by decide) (fun _ _ _ h => h) hx (Or.inl ⟨by rfl, ?yt23⟩) ?rt23
  case yt23 => (intro w' hSw; (try dsimp only at hSw); go_simp; try with_reducible rfl)
  try simp only [Act.put, List.getElem_toArray, List.getElem_cons_zero, List.getElem_cons_succ, List.setIfInBounds_toArray, List.set_cons_zero, List.set_cons_succ]
  refine E_takeR (i := 14) (oi := _) (v := ?vt24) rfl (by kernel_rfl) (by kernel_rfl) (by kernel_rfl) (by decide) (fun _ _ _ h => h) hx (Or.inl ⟨by rfl, ?yt24⟩) ?rt24
  case yt24 => (intro w' hSw; (try dsimp only at hSw); go_simp; try with_reducible rfl)
  try simp only [Act.put, List.getElem_toArray, List.getElem_cons_zero, List.getElem_cons_succ, List.setIfInBounds_toArray, List.set_cons_zero, List.set_cons_succ]
  refine E_takeR (i := 15) (oi := _) (v := ?vt25) rfl (by kernel_rfl) (by kernel_rfl) (by kernel_rfl) (by decide) (fun _ _ _ h => h) hx (Or.inl ⟨by rfl, ?yt25⟩) ?rt25
  case yt25 => (intro w' hSw; (try dsimp only at hSw); go_simp; try with_reducible rfl)
  try simp only [Act.put, List.getElem_toArray, List.getElem_cons_zero, List.getElem_cons_succ, List.setIfInBounds_toArray, List.set_cons_zero, List.set_cons_succ]
  refine E_takeR (i := 16) (oi := _) (v := ?vt26) rfl (by kernel_rfl) (by kernel_rfl) (by kernel_rfl) (by decide) (fun _ _ _ h => h) hx (Or.inl ⟨by rfl, ?yt26⟩) ?rt26
  case yt26 => (intro w' hSw; (try dsimp only at hSw); go_simp; try with_reducible rfl)
  try simp only [Act.put, List.getElem_toArray, List.getElem_cons_zero, List.getElem_cons_succ, List.setIfInBounds_toArray, List.set_cons_zero, List.set_cons_succ]
  refine E_takeR (i := 17) (oi := _) (v := ?vt27) rfl (by kernel_rfl) (by kernel_rfl) (by kernel_rfl) (by decide) (fun _ _ _ h => h) hx (Or.inl ⟨by rfl, ?yt27⟩) ?rt27
  case yt27 => (intro w' hSw; (try dsimp only at hSw); go_simp; try with_reducible rfl)
  try simp only [Act.put, List.getElem_toArray, List.getElem_cons_zero, List.getElem_cons_succ, List.setIfInBounds_toArray, List.set_cons_zero, List.set_cons_succ]
  refine E_step (i := 18) (o := _) (by kernel_rfl) rfl (fun K hK => ?_)
  go_simp
  refine (HQ.out _).mono ?_
  rintro e w2 ⟨rfl, hw⟩
  (try dsimp only)
  subst hw
  refine hK.out _ _ (fun _ => hx) ?_
  clear hK K
  try simp only [Act.put, List.getElem_toArray, List.getElem_cons_zero, List.getElem_cons_succ, List.setIfInBounds_toArray, List.set_cons_zero, List.set_cons_succ]
  refine E_takeR (i := 19) (oi := _) (v := ?vt28) rfl (by kernel_rfl) (by kernel_rfl) (by kernel_rfl) (by decide) (fun _ _ _ h => h) hx (Or.inl ⟨by rfl, ?yt28⟩) ?rt28
  case yt28 => (intro w' hSw; (try dsimp only at hSw); go_simp; try with_reducible rfl)
  try simp only [Act.put, List.getElem_toArray, List.getElem_cons_zero, List.getElem_cons_succ, List.setIfInBounds_toArray, List.set_cons_zero, List.set_cons_succ]
  have k2 := K2.out.drew
  obtain ⟨L, hL⟩ : ∃ L, (c.lo * ((100 + s) * (r + n))).tdiv (200 * r) = L := ⟨_, rfl⟩
  obtain ⟨K', hK'⟩ : ∃ K', (c.hi * ((100 + s) * (r + n)) * (100 + m) + 20000 * r - 1).tdiv (20000 * r) = K' := ⟨_, rfl⟩
  have HV := Lib.hid (show rateM c r n s m = ⟨L, K'⟩ by unfold rateM; rw [hL, hK'])
  rw [hL, hK']
  clear hL hK' a1 a2 a3 a4 a5 a6 a7 a8 a9 a10 d0 d0' d1
  obtain ⟨b0, b1⟩ := spn_cells (s := ⟨0, 0⟩) K2.out
  have z0 := K2.out.frozen 0
  have z1 := K2.out.frozen 1
  have l2 := K2.out.lt
  refine E_step (i := 20) (o := _) (by kernel_rfl) rfl (fun K hK => ?_)
  go_simp
  have hy : Blk ((w1.setCell ⟨w.heap.size + 1, 0, none⟩ (.int .i64 L)).setCell ⟨w.heap.size + 1, 1, none⟩ (.int .i64 K')).drew w.heap.size #[.int .i64 c.lo, .int .i64 c.hi] 69 := ((K1.out.other (by omega) _).other (by omega) _).drew
  refine hK.out _ _ (fun _ => (show (fun w' : World => w'.cell? ⟨w.heap.size, 0, none⟩ = some (.int .i64 c.lo) ∧ w'.cell? ⟨w.heap.size, 1, none⟩ = some (.int .i64 c.hi)) ((w1.setCell ⟨w.heap.size + 1, 0, none⟩ (.int .i64 L)).setCell ⟨w.heap.size + 1, 1, none⟩ (.int .i64 K')).drew from ⟨hy.cell 0, hy.cell 1⟩)) ?_
  clear hK K
  try simp only [Act.put, List.getElem_toArray, List.getElem_cons_zero, List.getElem_cons_succ, List.setIfInBounds_toArray, List.set_cons_zero, List.set_cons_succ]
  refine E_done (by kernel_rfl) ?_ _
  have kf : Blk ((w1.setCell ⟨w.heap.size + 1, 0, none⟩ (.int .i64 L)).setCell ⟨w.heap.size + 1, 1, none⟩ (.int .i64 K')).drew (w.heap.size + 1) #[.int .i64 L, .int .i64 K'] 27 := (((K2.out.set 0 (.int .i64 L)).set 1 (.int .i64 K'))).drew
  have hbf : Below w.heap.size w ((w1.setCell ⟨w.heap.size + 1, 0, none⟩ (.int .i64 L)).setCell ⟨w.heap.size + 1, 1, none⟩ (.int .i64 K')).drew := ((HB1.out.setCell (p := ⟨w.heap.size + 1, 0, none⟩) (Nat.le_succ _) _).setCell (p := ⟨w.heap.size + 1, 1, none⟩) (Nat.le_succ _) _).drew
  generalize ((w1.setCell ⟨w.heap.size + 1, 0, none⟩ (.int .i64 L)).setCell ⟨w.heap.size + 1, 1, none⟩ (.int .i64 K')).drew = wf at *
  have HBF := Lib.hid hbf
  clear hx hy b0 b1 z0 z1 l2 k2 hbf l1
  obtain ⟨g0, g1⟩ := spn_cells (s := ⟨L, K'⟩) kf
  go_wp2_with fail
  exact bodyPost_ret (v := .agg #[.int .i64 L, .int .i64 K']) (by simp [results, Tryd.results57, go_sem, g0, g1]) rfl ⟨by rw [HV.out], HBF.out⟩
/-- What Rate tells. -/
def rateR (c : Spn) (r n s m : Int) : Spn := if rateOkB c r n s m = true then rateM c r n s m else ⟨0, 0⟩
def rateE (c : Spn) (r n s m : Int) : Int := if rateOkB c r n s m = true then 0 else 1
end Go.Proofs.YtoigihmgjacbjaaDoor
