/- WearFlatter's mathematics and walk. No condition but the package's variable. -/
import Derived.Test.YtfckmpgimglccaaDoorWP
set_option linter.unusedSimpArgs false
namespace Go.Proofs.YtfckmpgimglccaaDoor
open Go.RowKit

theorem cancel_right {a b r : Int} (hr : 0 < r) (h : a * r ≤ b * r) : a ≤ b := Int.le_of_mul_le_mul_right h hr
theorem floor_mono {A1 A2 r1 r2 : Int} (h1 : 0 < r1) (h2 : 0 < r2) (h : A1 * r2 ≤ A2 * r1) : A1 / (200 * r1) ≤ A2 / (200 * r2) := by
  have e := Int.ediv_mul_le A1 (b := 200 * r1) (by omega)
  refine Int.le_ediv_of_mul_le (by omega) ?_
  refine cancel_right h1 ?_
  have e2 := Int.mul_le_mul_of_nonneg_right e (Int.le_of_lt h2)
  have e3 : A1 / (200 * r1) * (200 * r1) * r2 = A1 / (200 * r1) * (200 * r2) * r1 := by
    simp only [Int.mul_assoc]
    congr 2
    exact Int.mul_comm _ _
  omega
theorem ceil_mono {C1 C2 r1 r2 : Int} (h1 : 0 < r1) (h2 : 0 < r2) (h : C1 * r2 ≤ C2 * r1) : (C1 + 20000 * r1 - 1) / (20000 * r1) ≤ (C2 + 20000 * r2 - 1) / (20000 * r2) := by
  have e := Int.lt_ediv_add_one_mul_self (C2 + 20000 * r2 - 1) (b := 20000 * r2) (by omega)
  generalize (C2 + 20000 * r2 - 1) / (20000 * r2) = Q at *
  rw [Int.add_mul, Int.one_mul] at e
  have e1 : C2 ≤ Q * (20000 * r2) := by omega
  have e2 := Int.mul_le_mul_of_nonneg_right e1 (Int.le_of_lt h1)
  have e3 : Q * (20000 * r2) * r1 = Q * (20000 * r1) * r2 := by
    simp only [Int.mul_assoc]
    congr 2
    exact Int.mul_comm _ _
  have e4 : C1 ≤ Q * (20000 * r1) := cancel_right h2 (by omega)
  have e5 : (C1 + 20000 * r1 - 1) / (20000 * r1) < Q + 1 := Int.ediv_lt_of_lt_mul (by omega) (by rw [Int.add_mul, Int.one_mul]; omega)
  omega
structure Fce where
  c : Spn
  r : Int
  n : Int
  s : Int
  m : Int
theorem rate_mono {c : Spn} {r1 n1 s1 m1 r2 n2 s2 m2 : Int} (h1 : rateOkB c r1 n1 s1 m1 = true) (h2 : rateOkB c r2 n2 s2 m2 = true) (hn : n1 * r2 ≤ n2 * r1) (hs : s1 ≤ s2) (hm : m1 ≤ m2) :
    (rateM c r1 n1 s1 m1).lo ≤ (rateM c r2 n2 s2 m2).lo ∧ (rateM c r1 n1 s1 m1).hi ≤ (rateM c r2 n2 s2 m2).hi := by
  obtain ⟨⟨c1, c2, c3⟩, ⟨a1, a2⟩, ⟨a3, a4⟩, ⟨a5, a6⟩, a7, a8⟩ := rateOkB_iff.1 h1
  obtain ⟨_, ⟨b1, b2⟩, ⟨b3, b4⟩, ⟨b5, b6⟩, b7, b8⟩ := rateOkB_iff.1 h2
  have p1 : 0 ≤ (100 + s1) * (r1 + n1) := Int.mul_nonneg (by omega) (by omega)
  have p2 : 0 ≤ (100 + s2) * (r2 + n2) := Int.mul_nonneg (by omega) (by omega)
  have k : (r1 + n1) * r2 ≤ (r2 + n2) * r1 := by
    rw [Int.add_mul, Int.add_mul, Int.mul_comm r2 r1]
    omega
  have kw : (100 + s1) * (r1 + n1) * r2 ≤ (100 + s2) * (r2 + n2) * r1 := by
    rw [Int.mul_assoc, Int.mul_assoc]
    exact Int.mul_le_mul (by omega) k (Int.mul_nonneg (by omega) (by omega)) (by omega)
  simp only [rateM]
  generalize (100 + s1) * (r1 + n1) = W1 at *
  generalize (100 + s2) * (r2 + n2) = W2 at *
  have q1 : 0 ≤ c.lo * W1 := Int.mul_nonneg c1 p1
  have q2 : 0 ≤ c.lo * W2 := Int.mul_nonneg c1 p2
  have q3 : 0 ≤ c.hi * W1 := Int.mul_nonneg (by omega) p1
  have q4 : 0 ≤ c.hi * W2 := Int.mul_nonneg (by omega) p2
  have q5 : 0 ≤ c.hi * W1 * (100 + m1) := Int.mul_nonneg q3 (by omega)
  have q6 : 0 ≤ c.hi * W2 * (100 + m2) := Int.mul_nonneg q4 (by omega)
  rw [Int.tdiv_eq_ediv_of_nonneg q1, Int.tdiv_eq_ediv_of_nonneg q2, Int.tdiv_eq_ediv_of_nonneg (by omega), Int.tdiv_eq_ediv_of_nonneg (by omega)]
  constructor
  · refine floor_mono (by omega) (by omega) ?_
    rw [Int.mul_assoc, Int.mul_assoc]
    exact Int.mul_le_mul_of_nonneg_left kw c1
  · refine ceil_mono (by omega) (by omega) ?_
    have e1 : c.hi * W1 * (100 + m1) * r2 = c.hi * (W1 * r2) * (100 + m1) := by
      simp only [Int.mul_assoc]
      congr 2
      exact Int.mul_comm _ _
    have e2 : c.hi * W2 * (100 + m2) * r1 = c.hi * (W2 * r1) * (100 + m2) := by
      simp only [Int.mul_assoc]
      congr 2
      exact Int.mul_comm _ _
    rw [e1, e2]
    exact Int.mul_le_mul (Int.mul_le_mul_of_nonneg_left kw (by omega)) (by omega) (by omega) (Int.mul_nonneg (by omega) (Int.mul_nonneg p2 (by omega)))
theorem rate_flat {c : Spn} {r n s m : Int} (h : rateOkB c r n s m = true) : rateR c r r 0 0 = c ∧ rateE c r r 0 0 = 0 := by
  obtain ⟨⟨c1, c2, c3⟩, ⟨a1, a2⟩, _⟩ := rateOkB_iff.1 h
  have h2 : rateOkB c r r 0 0 = true := rateOkB_iff.2 ⟨⟨c1, c2, c3⟩, ⟨a1, a2⟩, ⟨a1, a2⟩, by omega, by omega⟩
  refine ⟨?_, by unfold rateE; rw [if_pos h2]⟩
  unfold rateR
  rw [if_pos h2]
  have e1 : c.lo * ((100 + 0) * (r + r)) = c.lo * (200 * r) := by congr 1; omega
  have e2 : c.hi * ((100 + 0) * (r + r)) * (100 + 0) + 20000 * r - 1 = c.hi * (20000 * r) + (20000 * r - 1) := by
    have : c.hi * ((100 + 0) * (r + r)) * (100 + 0) = c.hi * (20000 * r) := by
      rw [Int.mul_assoc]
      congr 1
      omega
    omega
  have p : 0 ≤ c.hi * (20000 * r) := Int.mul_nonneg (by omega) (by omega)
  obtain ⟨lo, hi⟩ := c
  simp only [rateM] at *
  rw [e1, e2, Int.mul_tdiv_cancel _ (by omega), Int.tdiv_eq_ediv_of_nonneg (by omega), Int.add_comm (hi * (20000 * r)), Int.add_mul_ediv_right _ _ (by omega), Int.ediv_eq_zero_of_lt (by omega) (by omega), Int.zero_add]
theorem rate_span {c : Spn} {r n s m : Int} (h : rateOkB c r n s m = true) : (rateM c r n s m).lo ≤ (rateM c r n s m).hi := by
  obtain ⟨⟨c1, c2, c3⟩, ⟨a1, a2⟩, ⟨a3, a4⟩, ⟨a5, a6⟩, a7, a8⟩ := rateOkB_iff.1 h
  have p1 : 0 ≤ (100 + s) * (r + n) := Int.mul_nonneg (by omega) (by omega)
  simp only [rateM]
  generalize (100 + s) * (r + n) = W at *
  have q1 : 0 ≤ c.lo * W := Int.mul_nonneg c1 p1
  have q3 : 0 ≤ c.hi * W := Int.mul_nonneg (by omega) p1
  have q5 : 0 ≤ c.hi * W * (100 + m) := Int.mul_nonneg q3 (by omega)
  have q6 : c.lo * W ≤ c.hi * W := Int.mul_le_mul_of_nonneg_right c2 p1
  have q7 : c.hi * W * 100 ≤ c.hi * W * (100 + m) := Int.mul_le_mul_of_nonneg_left (by omega) q3
  rw [Int.tdiv_eq_ediv_of_nonneg q1, Int.tdiv_eq_ediv_of_nonneg (by omega)]
  have e := Int.ediv_mul_le (c.lo * W) (b := 200 * r) (by omega)
  refine Int.le_ediv_of_mul_le (by omega) ?_
  have e3 : c.lo * W / (200 * r) * (20000 * r) = c.lo * W / (200 * r) * (200 * r) * 100 := by
    rw [Int.mul_assoc]
    congr 1
    omega
  omega

set_option maxRecDepth 100000 in
set_option maxHeartbeats 8000000 in
theorem wearFlatterLaw_any (c : Spn) (x y : Fce) (w : World) (hg : Laid w) :
    Calls Tryd.prog 4 #[.agg #[.int .i64 c.lo, .int .i64 c.hi], .agg #[.int .i64 x.c.lo, .int .i64 x.c.hi, .int .i64 x.r, .int .i64 x.n, .int .i64 x.s, .int .i64 x.m], .agg #[.int .i64 y.c.lo, .int .i64 y.c.hi, .int .i64 y.r, .int .i64 y.n, .int .i64 y.s, .int .i64 y.m]] w fun e w' => e = .returned (.bool true) ∧ Below w.heap.size w w' := by
  have k1 := ((Blk.new w 25 #[.int .i64 c.lo, .int .i64 c.hi]).alloc (.cells #[.int .i64 x.c.lo, .int .i64 x.c.hi, .int .i64 x.r, .int .i64 x.n, .int .i64 x.s, .int .i64 x.m] 32)).alloc (.cells #[.int .i64 y.c.lo, .int .i64 y.c.hi, .int .i64 y.r, .int .i64 y.n, .int .i64 y.s, .int .i64 y.m] 32)
  have k2 := (Blk.new (w.alloc (.cells #[.int .i64 c.lo, .int .i64 c.hi] 25)) 32 #[.int .i64 x.c.lo, .int .i64 x.c.hi, .int .i64 x.r, .int .i64 x.n, .int .i64 x.s, .int .i64 x.m]).alloc (.cells #[.int .i64 y.c.lo, .int .i64 y.c.hi, .int .i64 y.r, .int .i64 y.n, .int .i64 y.s, .int .i64 y.m] 32)
  have k3 := Blk.new ((w.alloc (.cells #[.int .i64 c.lo, .int .i64 c.hi] 25)).alloc (.cells #[.int .i64 x.c.lo, .int .i64 x.c.hi, .int .i64 x.r, .int .i64 x.n, .int .i64 x.s, .int .i64 x.m] 32)) 32 #[.int .i64 y.c.lo, .int .i64 y.c.hi, .int .i64 y.r, .int .i64 y.n, .int .i64 y.s, .int .i64 y.m]
  rw [World.size_alloc] at k2
  rw [World.size_alloc, World.size_alloc] at k3
  have hb1 : Below w.heap.size w (((w.alloc (.cells #[.int .i64 c.lo, .int .i64 c.hi] 25)).alloc (.cells #[.int .i64 x.c.lo, .int .i64 x.c.hi, .int .i64 x.r, .int .i64 x.n, .int .i64 x.s, .int .i64 x.m] 32)).alloc (.cells #[.int .i64 y.c.lo, .int .i64 y.c.hi, .int .i64 y.r, .int .i64 y.n, .int .i64 y.s, .int .i64 y.m] 32)) := (((Below.refl _ w).alloc (Nat.le_refl _) _).alloc (by simp) _).alloc (by simp; omega) _
  have HG := Lib.hid hg
  clear hg
  go_enter Tryd.func4, Tryd.ntmps4
  go_upto_region 1 with fail
  generalize (((w.alloc (.cells #[.int .i64 c.lo, .int .i64 c.hi] 25)).alloc (.cells #[.int .i64 x.c.lo, .int .i64 x.c.hi, .int .i64 x.r, .int .i64 x.n, .int .i64 x.s, .int .i64 x.m] 32)).alloc (.cells #[.int .i64 y.c.lo, .int .i64 y.c.hi, .int .i64 y.r, .int .i64 y.n, .int .i64 y.s, .int .i64 y.m] 32)) = w1 at *
  have K1 := Lib.hid k1
  have K2 := Lib.hid k2
  have K3 := Lib.hid k3
  have HB1 := Lib.hid hb1
  clear k1 k2 k3 hb1
  obtain ⟨c0, c1⟩ := spn_cells K1.out
  obtain ⟨x2, x3, x4, x5⟩ := (show w1.cell? ⟨w.heap.size + 1, 2, none⟩ = some (.int .i64 x.r) ∧ w1.cell? ⟨w.heap.size + 1, 3, none⟩ = some (.int .i64 x.n) ∧ w1.cell? ⟨w.heap.size + 1, 4, none⟩ = some (.int .i64 x.s) ∧ w1.cell? ⟨w.heap.size + 1, 5, none⟩ = some (.int .i64 x.m) from ⟨K2.out.cell 2, K2.out.cell 3, K2.out.cell 4, K2.out.cell 5⟩)
  have l1 := K1.out.lt
  have l2 := K2.out.lt
  go_wp2_with fail
  refine (wearRate_any c x.r x.n x.s x.m _).mono ?_
  rintro e w2 ⟨rfl, hb⟩
  obtain ⟨A, hA⟩ : ∃ A, rateR c x.r x.n x.s x.m = A := ⟨_, rfl⟩
  obtain ⟨E, hE⟩ : ∃ E, rateE c x.r x.n x.s x.m = E := ⟨_, rfl⟩
  rw [hA, hE]
  have HA := Lib.hid hA
  have HE := Lib.hid hE
  have kA := Blk.new w2 23 #[.int .i64 A.lo, .int .i64 A.hi]
  have hb3 : Below w2.heap.size w2 (w2.alloc (.cells #[.int .i64 A.lo, .int .i64 A.hi] 23)) := (Below.refl _ w2).alloc (Nat.le_refl _) _
  have hb13 := hb.trans (hb3.mono hb.size)
  have k13 := K1.out.belowS hb13
  have k23 := K2.out.belowS hb13
  have k33 := K3.out.belowS hb13
  have HB3 := Lib.hid (HB1.out.trans (hb13.mono HB1.out.size))
  clear c0 c1 x2 x3 x4 x5 l1 l2 hb hb3 hb13 hA hE K1 K2 K3
  go_upto_region 2 with fail
  generalize w2.alloc (.cells #[.int .i64 A.lo, .int .i64 A.hi] 23) = w3 at *
  have K1 := Lib.hid k13
  have K2 := Lib.hid k23
  have K3 := Lib.hid k33
  have KA := Lib.hid kA
  clear k13 k23 k33 kA
  obtain ⟨c0, c1⟩ := spn_cells K1.out
  obtain ⟨y2, y3, y4, y5⟩ := (show w3.cell? ⟨w.heap.size + 1 + 1, 2, none⟩ = some (.int .i64 y.r) ∧ w3.cell? ⟨w.heap.size + 1 + 1, 3, none⟩ = some (.int .i64 y.n) ∧ w3.cell? ⟨w.heap.size + 1 + 1, 4, none⟩ = some (.int .i64 y.s) ∧ w3.cell? ⟨w.heap.size + 1 + 1, 5, none⟩ = some (.int .i64 y.m) from ⟨K3.out.cell 2, K3.out.cell 3, K3.out.cell 4, K3.out.cell 5⟩)
  have l1 := K1.out.lt
  have l3 := K3.out.lt
  go_wp2_with fail
  refine (wearRate_any c y.r y.n y.s y.m _).mono ?_
  rintro e w4 ⟨rfl, hb⟩
  obtain ⟨B, hB⟩ : ∃ B, rateR c y.r y.n y.s y.m = B := ⟨_, rfl⟩
  obtain ⟨G, hG⟩ : ∃ G, rateE c y.r y.n y.s y.m = G := ⟨_, rfl⟩
  rw [hB, hG]
  have HBB := Lib.hid hB
  have HGG := Lib.hid hG
  have kB := Blk.new w4 23 #[.int .i64 B.lo, .int .i64 B.hi]
  have hb5 : Below w4.heap.size w4 (w4.alloc (.cells #[.int .i64 B.lo, .int .i64 B.hi] 23)) := (Below.refl _ w4).alloc (Nat.le_refl _) _
  have hb35 := hb.trans (hb5.mono hb.size)
  have k15 := K1.out.belowS hb35
  have k25 := K2.out.belowS hb35
  have k35 := K3.out.belowS hb35
  have kA5 := KA.out.belowS hb35
  have HB5 := Lib.hid (HB3.out.trans (hb35.mono HB3.out.size))
  clear c0 c1 y2 y3 y4 y5 l1 l3 hb hb5 hb35 hB hG K1 K2 K3 KA
  go_upto_region 3 with fail
  generalize w4.alloc (.cells #[.int .i64 B.lo, .int .i64 B.hi] 23) = w5 at *
  have K1 := Lib.hid k15
  have K2 := Lib.hid k25
  have K3 := Lib.hid k35
  have KA := Lib.hid kA5
  have KB := Lib.hid kB
  clear k15 k25 k35 kA5 kB
  obtain ⟨bx, hbx⟩ : ∃ b, rateOkB c x.r x.n x.s x.m = b := ⟨_, rfl⟩
  obtain ⟨by', hby⟩ : ∃ b, rateOkB c y.r y.n y.s y.m = b := ⟨_, rfl⟩
  have HX := Lib.hid hbx
  have HY := Lib.hid hby
  have hEE : E = if bx = true then 0 else 1 := by rw [← HE.out, ← hbx]; rfl
  have hGE : G = if by' = true then 0 else 1 := by rw [← HGG.out, ← hby]; rfl
  have HEE := Lib.hid hEE
  have HGE := Lib.hid hGE
  clear hbx hby hEE hGE
  go_cut [85] from 39 to 84 (fun t wx => t = .bool false ∧ wx = w5)
  case first =>
    cases bx with
    | false =>
      obtain rfl : E = 1 := HEE.out
      clear HGE HEE
      go_wp2_with fail
      all_goals
        go_meet
        exact ⟨rfl, rfl⟩
    | true =>
      cases by' with
      | false =>
        obtain rfl : E = 0 := HEE.out
        obtain rfl : G = 1 := HGE.out
        clear HGE HEE
        go_wp2_with fail
        all_goals
          go_meet
          exact ⟨rfl, rfl⟩
      | true =>
        obtain rfl : E = 0 := HEE.out
        obtain rfl : G = 0 := HGE.out
        clear HGE HEE
        obtain ⟨_, ⟨p1, p2⟩, ⟨p3, p4⟩, _⟩ := rateOkB_iff.1 HX.out
        obtain ⟨_, ⟨q1, q2⟩, ⟨q3, q4⟩, _⟩ := rateOkB_iff.1 HY.out
        have m1 := mul_pos_bd (a := x.n) (b := y.r) (m := 100) (n := 100) (by omega) (by omega) (by omega) (by omega)
        have m2 := mul_pos_bd (a := y.n) (b := x.r) (m := 100) (n := 100) (by omega) (by omega) (by omega) (by omega)
        have v1 : IntKind.i64.wrap (x.n * y.r) = x.n * y.r := by rw [IntKind.wrap_i64]; omega
        have v2 : IntKind.i64.wrap (y.n * x.r) = y.n * x.r := by rw [IntKind.wrap_i64]; omega
        have HMO := Lib.hid (fun h1 h2 h3 => rate_mono HX.out HY.out h1 h2 h3)
        have HAA := Lib.hid (show rateM c x.r x.n x.s x.m = A by rw [← HA.out]; unfold rateR; rw [if_pos HX.out])
        have HBA := Lib.hid (show rateM c y.r y.n y.s y.m = B by rw [← HBB.out]; unfold rateR; rw [if_pos HY.out])
        clear p1 p2 p3 p4 q1 q2 q3 q4 m1 m2
        obtain ⟨a0, a1⟩ := spn_cells KA.out
        obtain ⟨b0, b1⟩ := spn_cells KB.out
        obtain ⟨x2, x3, x4, x5⟩ := (show w5.cell? ⟨w.heap.size + 1, 2, none⟩ = some (.int .i64 x.r) ∧ w5.cell? ⟨w.heap.size + 1, 3, none⟩ = some (.int .i64 x.n) ∧ w5.cell? ⟨w.heap.size + 1, 4, none⟩ = some (.int .i64 x.s) ∧ w5.cell? ⟨w.heap.size + 1, 5, none⟩ = some (.int .i64 x.m) from ⟨K2.out.cell 2, K2.out.cell 3, K2.out.cell 4, K2.out.cell 5⟩)
        obtain ⟨y2, y3, y4, y5⟩ := (show w5.cell? ⟨w.heap.size + 1 + 1, 2, none⟩ = some (.int .i64 y.r) ∧ w5.cell? ⟨w.heap.size + 1 + 1, 3, none⟩ = some (.int .i64 y.n) ∧ w5.cell? ⟨w.heap.size + 1 + 1, 4, none⟩ = some (.int .i64 y.s) ∧ w5.cell? ⟨w.heap.size + 1 + 1, 5, none⟩ = some (.int .i64 y.m) from ⟨K3.out.cell 2, K3.out.cell 3, K3.out.cell 4, K3.out.cell 5⟩)
        have l2 := K2.out.lt
        have l3 := K3.out.lt
        have lA := KA.out.lt
        have lB := KB.out.lt
        by_cases h1 : x.n * y.r ≤ y.n * x.r
        · by_cases h2 : x.s ≤ y.s
          · by_cases h3 : x.m ≤ y.m
            · obtain ⟨g1, g2⟩ := HMO.out h1 h2 h3
              rw [HAA.out, HBA.out] at g1 g2
              have g1' : ¬ B.lo < A.lo := by omega
              have g2' : ¬ B.hi < A.hi := by omega
              go_wp2_with fail
              all_goals
                go_meet
                exact ⟨rfl, rfl⟩
            · have h3' : y.m < x.m := by omega
              go_wp2_with fail
              all_goals
                go_meet
                exact ⟨rfl, rfl⟩
          · have h2' : y.s < x.s := by omega
            go_wp2_with fail
            all_goals
              go_meet
              exact ⟨rfl, rfl⟩
        · have h1' : y.n * x.r < x.n * y.r := by omega
          go_wp2_with fail
          all_goals
            go_meet
            exact ⟨rfl, rfl⟩
  case rest =>
  obtain ⟨rfl, rfl⟩ := hcut
  obtain ⟨w5, rfl⟩ : ∃ w5 : World, w5 = wc := ⟨_, rfl⟩
  cases bx with
  | false =>
    obtain rfl : E = 1 := HEE.out
    clear HGE HEE
    go_wp2_with fail
    refine (lives_any _ (HG.out.below HB5.out)).mono ?_
    rintro e w6 ⟨rfl, hbz⟩
    go_wp2_with fail
    go_ret
    exact ⟨rfl, HB5.out.trans (hbz.mono HB5.out.size)⟩
  | true =>
    obtain rfl : E = 0 := HEE.out
    clear HGE HEE
    obtain ⟨c0, c1⟩ := spn_cells K1.out
    have x2 : w5.cell? ⟨w.heap.size + 1, 2, none⟩ = some (.int .i64 x.r) := K2.out.cell 2
    have l1 := K1.out.lt
    have l2 := K2.out.lt
    go_wp2_with fail
    refine (wearRate_any c x.r x.r 0 0 _).mono ?_
    rintro e w6 ⟨rfl, hb⟩
    rw [(rate_flat HX.out).1, (rate_flat HX.out).2]
    have kO := Blk.new w6 23 #[.int .i64 c.lo, .int .i64 c.hi]
    have hb7 : Below w6.heap.size w6 (w6.alloc (.cells #[.int .i64 c.lo, .int .i64 c.hi] 23)) := (Below.refl _ w6).alloc (Nat.le_refl _) _
    have hb57 := hb.trans (hb7.mono hb.size)
    have k17 := K1.out.belowS hb57
    have kA7 := KA.out.belowS hb57
    have HB7 := Lib.hid (HB5.out.trans (hb57.mono HB5.out.size))
    have HAA := Lib.hid (show rateM c x.r x.n x.s x.m = A by rw [← HA.out]; unfold rateR; rw [if_pos HX.out])
    have hsp := rate_span HX.out
    rw [HAA.out] at hsp
    clear c0 c1 x2 l1 l2 hb hb7 hb57
    go_upto_region 7 with fail
    generalize w6.alloc (.cells #[.int .i64 c.lo, .int .i64 c.hi] 23) = w7 at *
    obtain ⟨c0, c1⟩ := spn_cells k17
    obtain ⟨o0, o1⟩ := spn_cells kO
    obtain ⟨a0, a1⟩ := spn_cells kA7
    have l1 := k17.lt
    have lO := kO.lt
    have lA := kA7.lt
    have he1 : ∀ w, (Op.equalIn 10000 23 (.agg #[.int .i64 c.lo, .int .i64 c.hi]) (.agg #[.int .i64 c.lo, .int .i64 c.hi])).run Tryd.prog w = .ok true w := fun w => by
      have := run_equalIn_span 9998 c c w
      rwa [decide_eq_true rfl] at this
    have hsp' : ¬ A.hi < A.lo := by omega
    clear k17 kO kA7 hsp
    go_wp2_with fail
    refine (lives_any _ (HG.out.below HB7.out)).mono ?_
    rintro e w8 ⟨rfl, hbz⟩
    go_wp2_with fail
    go_ret
    exact ⟨rfl, HB7.out.trans (hbz.mono HB7.out.size)⟩
end Go.Proofs.YtfckmpgimglccaaDoor
