/- Lowest and rise of the specification; SameInts on two copies of one list. No condition but the bounds of what is given. -/
import Derived.Test.YtpdgcajbdaleeaaEC
import Derived.Test.YtpdgcajbdaleeaaZI
set_option linter.unusedSimpArgs false
namespace Go.Proofs.Ytpdgcajbdaleeaa
open Go.RowKit

set_option maxRecDepth 100000 in
set_option maxHeartbeats 2000000 in
theorem refLowest_any (n d : Int) (hn : -1000000000 ≤ n) (hn' : n ≤ 1000000000) (hd : 1 ≤ d) (hd' : d ≤ 1000000000) (w : World) :
    Calls Try.prog 38 #[.int .i64 n, .int .i64 d] w fun e w' => e = .returned (.agg #[.int .i64 (lowN n d), .int .i64 (lowD n d)]) ∧ Below w.heap.size w w' := by
  have hB : Below w.heap.size w (w.alloc (.cells #[.int .i64 0, .int .i64 0] 31)) := (Below.refl _ _).alloc (Nat.le_refl _) _
  have hbk : Blk (w.alloc (.cells #[.int .i64 0, .int .i64 0] 31)) w.heap.size #[.int .i64 0, .int .i64 0] 31 := Blk.new _ _ _
  have hloop : ∀ (a b : Nat), a ≤ 1000000000 → b ≤ 1000000000 → Nat.gcd a b = Int.gcd n d → b = 0 → a = Int.gcd n d := by
    intro a b _ _ h hb
    subst hb
    simpa using h
  have hgpos : 0 < Int.gcd n d := Int.gcd_pos_of_ne_zero_right n (by omega)
  have hgd : (Int.gcd n d : Int) ∣ n := Int.gcd_dvd_left ..
  have htd : n.tdiv (Int.gcd n d : Int) = n / (Int.gcd n d : Int) := Int.tdiv_eq_ediv_of_dvd hgd
  have hle : (Int.gcd n d : Int) ≤ 1000000000 := by
    have := Int.le_of_dvd (by omega) (Int.gcd_dvd_right n d)
    omega
  have HL := Lib.hid hloop
  have HD := Lib.hid htd
  clear hloop htd hgd
  have hg0 : Nat.gcd n.natAbs d.natAbs = Int.gcd n d := rfl
  have HG := Lib.hid hg0
  clear hg0
  rcases (show n < 0 ∨ 0 ≤ n by omega) with h0 | h0
  all_goals
    go_enter Try.func38, Try.ntmps38
    go_wp2_with fail
    go_loopw [5, 6] (fun x y wr => ∃ a b : Nat, a ≤ 1000000000 ∧ b ≤ 1000000000 ∧ x = .int .i64 a ∧ y = .int .i64 b ∧ Nat.gcd a b = Int.gcd n d ∧ Blk wr w.heap.size #[.int .i64 0, .int .i64 0] 31 ∧ Below w.heap.size w wr) (fun _ y _ => (intOf y).toNat)
    case atStart => exact ⟨n.natAbs, d.natAbs, by omega, by omega, by congr 1; omega, by congr 1; omega, HG.out, hbk, hB⟩
    case round =>
      obtain ⟨a, b, ha, hb, rfl, rfl, hg, g1, g2⟩ := hrel
      by_cases hb0 : b = 0
      · have hag : a = Int.gcd n d := HL.out a b ha hb hg hb0
        subst hb0
        clear hg
        subst hag
        have t0 := g1.cell 0
        have t1 := g1.cell 1
        have t2 := g1.frozen 0
        have t3 := g1.frozen 1
        have t4 := g1.lt
        simp only [List.getElem?_toArray, List.getElem?_cons_zero, List.getElem?_cons_succ] at t0 t1
        generalize hG : Int.gcd n d = G at *
        have HGG := Lib.hid hG
        clear hG
        have hG1 : (1 : Int) ≤ (G : Int) := by omega
        have hz : ((0 : Int) == 0) = true := rfl
        go_wp2_with fail
        go_region
        all_goals go_wp2
        all_goals
          have hq := HD.out
          first
            | (refine bodyPost_ret (v := .agg #[.int .i64 (n.tdiv (G : Int)), .int .i64 (d / (G : Int))]) ?_ rfl ⟨by rw [hq, lowN, lowD, HGG.out], ((g2.setCell (p := ⟨w.heap.size, 0, none⟩) (Nat.le_refl _) _).setCell (p := ⟨w.heap.size, 1, none⟩) (Nat.le_refl _) _).drew⟩
               have r0 := ((g1.set 0 (.int .i64 (n.tdiv (G : Int)))).set 1 (.int .i64 (d / (G : Int)))).cell 0
               have r1 := ((g1.set 0 (.int .i64 (n.tdiv (G : Int)))).set 1 (.int .i64 (d / (G : Int)))).cell 1
               simp at r0 r1
               simp [results, Try.results38, go_sem, r0, r1]
               done)
            | (refine bodyPost_ret (v := .agg #[.int .i64 (n / (G : Int)), .int .i64 (d / (G : Int))]) ?_ rfl ⟨by rw [lowN, lowD, HGG.out], ((g2.setCell (p := ⟨w.heap.size, 0, none⟩) (Nat.le_refl _) _).setCell (p := ⟨w.heap.size, 1, none⟩) (Nat.le_refl _) _).drew⟩
               have r0 := ((g1.set 0 (.int .i64 (n / (G : Int)))).set 1 (.int .i64 (d / (G : Int)))).cell 0
               have r1 := ((g1.set 0 (.int .i64 (n / (G : Int)))).set 1 (.int .i64 (d / (G : Int)))).cell 1
               simp at r0 r1
               simp [results, Try.results38, go_sem, r0, r1])
      · have hb1 : (1 : Int) ≤ (b : Int) := by omega
        have hz : ((b : Int) == 0) = false := by simp [hb0]
        have hz' : ((b : Int) != 0) = true := by simp [hb0]
        have hgm : Nat.gcd b (a % b) = Int.gcd n d := by rw [← hg, Nat.gcd_comm b (a % b), ← Nat.gcd_rec b a]; exact Nat.gcd_comm b a
        have hml : a % b < b := Nat.mod_lt _ (by omega)
        have hm0 : (0 : Int) ≤ (a : Int) % (b : Int) := Int.emod_nonneg _ (by omega)
        have hm1 : (a : Int) % (b : Int) < (b : Int) := Int.emod_lt_of_pos _ (by omega)
        have HM := Lib.hid hgm
        have HML := Lib.hid hml
        clear hg hgm hb0 hml
        go_wp2_with fail
        go_region
        all_goals go_wp2
        all_goals exact ⟨⟨b, a % b, hb, by omega, rfl, by congr 1, HM.out, g1, g2.drew⟩, by have := HML.out; simp [intOf]; omega⟩

theorem own_dot (s : Int) (p : Pnt) : ownV s p = dotP (upP s) p := by
  obtain ⟨x, y⟩ := p
  unfold ownV upP dotP
  split
  · simp
  split
  · simp
  split
  · simp
  simp
theorem own_foot (s n : Int) : ownV s ⟨n, n⟩ = ((upP s).x + (upP s).y) * n := by
  unfold ownV upP
  split
  · simp
  split
  · simp
  split
  · simp
  simp
theorem up_one (s : Int) : (-1 ≤ (upP s).x ∧ (upP s).x ≤ 1) ∧ -1 ≤ (upP s).y ∧ (upP s).y ≤ 1 := by
  unfold upP
  split
  · decide
  split
  · decide
  split
  · decide
  decide

set_option maxRecDepth 100000 in
set_option maxHeartbeats 8000000 in
theorem refRise_any (f : Fac) (p : Pnt) (w : World) (hf : f.ok) (hp : p.ok) :
    Calls Try.prog 39 #[.agg #[.string f.name, .int .i64 f.side, .int .i64 f.foot, .int .i64 f.base, .int .i64 f.rise, .int .i64 f.run, .slice f.ca f.cs.length f.cc], .agg #[.int .i64 p.x, .int .i64 p.y]] w fun e w' => e = .returned (.int .i64 (hNum f p)) ∧ Below w.heap.size w w' := by
  have k1 := (Blk.new w 72 #[.string f.name, .int .i64 f.side, .int .i64 f.foot, .int .i64 f.base, .int .i64 f.rise, .int .i64 f.run, .slice f.ca f.cs.length f.cc]).alloc (.cells #[.int .i64 p.x, .int .i64 p.y] 27)
  have k2 := Blk.new (w.alloc (.cells #[.string f.name, .int .i64 f.side, .int .i64 f.foot, .int .i64 f.base, .int .i64 f.rise, .int .i64 f.run, .slice f.ca f.cs.length f.cc] 72)) 27 #[.int .i64 p.x, .int .i64 p.y]
  have hb1 : Below w.heap.size w ((w.alloc (.cells #[.string f.name, .int .i64 f.side, .int .i64 f.foot, .int .i64 f.base, .int .i64 f.rise, .int .i64 f.run, .slice f.ca f.cs.length f.cc] 72)).alloc (.cells #[.int .i64 p.x, .int .i64 p.y] 27)) := ((Below.refl _ w).alloc (Nat.le_refl _) _).alloc (by simp) _
  rw [World.size_alloc] at k2
  have hdo := fun W => refDot_any (upP f.side) p W (upP_sm f.side) hp.sm
  have hup := fun W => refUp_any f.side W
  have hD : -10000 ≤ dotP (upP f.side) p ∧ dotP (upP f.side) p ≤ 10000 := by
    rw [← own_dot]
    obtain ⟨⟨h1, h2⟩, h3, h4⟩ := hp
    unfold ownV
    (repeat' split) <;> omega
  have hK : -10000 ≤ ((upP f.side).x + (upP f.side).y) * f.foot ∧ ((upP f.side).x + (upP f.side).y) * f.foot ≤ 10000 := by
    rw [← own_foot]
    have h1 := hf.f0
    have h2 := hf.f1
    unfold ownV
    (repeat' split) <;> simp only [] <;> omega
  have hV : hNum f p = f.base * f.run + f.rise * (dotP (upP f.side) p - ((upP f.side).x + (upP f.side).y) * f.foot) := by
    unfold hNum
    rw [own_dot f.side p, own_foot]
  have hu := up_one f.side
  have q1 := mul_bd5 (a := f.base) (b := f.run) (by have := hf.b0; omega) (by have := hf.b1; omega) (by have := hf.n0; omega) (by have := hf.n1; omega)
  have q2 := mul_bd5 (a := f.rise) (b := dotP (upP f.side) p - ((upP f.side).x + (upP f.side).y) * f.foot) (by have := hf.r0; omega) (by have := hf.r1; omega) (by omega) (by omega)
  obtain ⟨D, hDD⟩ : ∃ D, dotP (upP f.side) p = D := ⟨_, rfl⟩
  simp only [hDD] at hdo
  rw [hDD] at hD hV q2
  obtain ⟨u, hU⟩ : ∃ u, upP f.side = u := ⟨_, rfl⟩
  simp only [hU] at hdo hup
  rw [hU] at hV hK q2 hu
  have HDO := Lib.hid hdo
  have HUP := Lib.hid hup
  have hwr : IntKind.i64.wrap (IntKind.i64.wrap (f.base * f.run) + IntKind.i64.wrap (f.rise * IntKind.i64.wrap (D - IntKind.i64.wrap (IntKind.i64.wrap (u.x + u.y) * f.foot)))) = hNum f p := by
    rw [hV, show IntKind.i64.wrap (u.x + u.y) = u.x + u.y by rw [IntKind.wrap_i64]; omega]
    rw [show IntKind.i64.wrap ((u.x + u.y) * f.foot) = (u.x + u.y) * f.foot by rw [IntKind.wrap_i64]; omega]
    rw [show IntKind.i64.wrap (D - (u.x + u.y) * f.foot) = D - (u.x + u.y) * f.foot by rw [IntKind.wrap_i64]; omega]
    rw [show IntKind.i64.wrap (f.rise * (D - (u.x + u.y) * f.foot)) = f.rise * (D - (u.x + u.y) * f.foot) by rw [IntKind.wrap_i64]; omega]
    rw [show IntKind.i64.wrap (f.base * f.run) = f.base * f.run by rw [IntKind.wrap_i64]; omega]
    rw [IntKind.wrap_i64]; omega
  have HWR := Lib.hid hwr
  have HB1 := Lib.hid hb1
  clear hdo hup hV hwr hU hDD hf hp
  obtain ⟨d1, d2⟩ := hD
  obtain ⟨e1, e2⟩ := hK
  obtain ⟨⟨u1, u2⟩, u3, u4⟩ := hu
  obtain ⟨q11, q12⟩ := q1
  obtain ⟨q21, q22⟩ := q2
  go_enter Try.func39, Try.ntmps39
  go_upto_region 1 with fail
  generalize ((w.alloc (.cells #[.string f.name, .int .i64 f.side, .int .i64 f.foot, .int .i64 f.base, .int .i64 f.rise, .int .i64 f.run, .slice f.ca f.cs.length f.cc] 72)).alloc (.cells #[.int .i64 p.x, .int .i64 p.y] 27)) = w1 at *
  obtain ⟨c0, c1, c2, c3, c4, c5, c6⟩ := fac_cells k1
  have l1 := k1.lt
  have K1 := Lib.hid k1
  have K2 := Lib.hid k2
  clear k1 k2 hb1
  go_wp2_with fail
  refine (HUP.out w1).mono ?_
  rintro e w3 ⟨rfl, hb3⟩
  have HB3 := Lib.hid hb3
  clear hb3 c0 c1 c2 c3 c4 c5 c6 l1 HUP
  go_upto_region 2 with fail
  have kT := Blk.new w3 27 #[.int .i64 u.x, .int .i64 u.y]
  have hb4 : Below w3.heap.size w3 (w3.alloc (.cells #[.int .i64 u.x, .int .i64 u.y] 27)) := (Below.refl _ _).alloc (Nat.le_refl _) _
  have HB4 := Lib.hid (HB3.out.trans (hb4.mono HB3.out.size))
  generalize w3.alloc (.cells #[.int .i64 u.x, .int .i64 u.y] 27) = w4 at *
  have q1 := K1.out.belowS HB4.out
  have q2 := K2.out.belowS HB4.out
  have hx0 : ∀ W, Below w4.heap.size w4 W → (fun w' : World => w'.cell? ⟨w.heap.size, 0, none⟩ = some (.string f.name) ∧ w'.cell? ⟨w.heap.size, 1, none⟩ = some (.int .i64 f.side) ∧ w'.cell? ⟨w.heap.size, 2, none⟩ = some (.int .i64 f.foot) ∧ w'.cell? ⟨w.heap.size, 3, none⟩ = some (.int .i64 f.base) ∧ w'.cell? ⟨w.heap.size, 4, none⟩ = some (.int .i64 f.rise) ∧ w'.cell? ⟨w.heap.size, 5, none⟩ = some (.int .i64 f.run) ∧ w'.cell? ⟨w.heap.size + 1, 0, none⟩ = some (.int .i64 p.x) ∧ w'.cell? ⟨w.heap.size + 1, 1, none⟩ = some (.int .i64 p.y) ∧ w'.cell? ⟨w3.heap.size, 0, none⟩ = some (.int .i64 u.x) ∧ w'.cell? ⟨w3.heap.size, 1, none⟩ = some (.int .i64 u.y)) W := fun W h => by
    obtain ⟨c0, c1, c2, c3, c4, c5, c6⟩ := fac_cells (q1.belowS h)
    have p2 := q2.belowS h
    have t2 := kT.belowS h
    exact ⟨(q1.belowS h).cell 0, (q1.belowS h).cell 1, (q1.belowS h).cell 2, (q1.belowS h).cell 3, (q1.belowS h).cell 4, (q1.belowS h).cell 5, p2.cell 0, p2.cell 1, t2.cell 0, t2.cell 1⟩
  have HX := Lib.hid hx0
  have HBA := Lib.hid (HB1.out.trans (HB4.out.mono HB1.out.size))
  clear hx0 q1 q2 kT hb4
  go_upto_region 2 with fail
  refine wp_region_E 22 (fun w' => w'.cell? ⟨w.heap.size, 0, none⟩ = some (.string f.name) ∧ w'.cell? ⟨w.heap.size, 1, none⟩ = some (.int .i64 f.side) ∧ w'.cell? ⟨w.heap.size, 2, none⟩ = some (.int .i64 f.foot) ∧ w'.cell? ⟨w.heap.size, 3, none⟩ = some (.int .i64 f.base) ∧ w'.cell? ⟨w.heap.size, 4, none⟩ = some (.int .i64 f.rise) ∧ w'.cell? ⟨w.heap.size, 5, none⟩ = some (.int .i64 f.run) ∧ w'.cell? ⟨w.heap.size + 1, 0, none⟩ = some (.int .i64 p.x) ∧ w'.cell? ⟨w.heap.size + 1, 1, none⟩ = some (.int .i64 p.y) ∧ w'.cell? ⟨w3.heap.size, 0, none⟩ = some (.int .i64 u.x) ∧ w'.cell? ⟨w3.heap.size, 1, none⟩ = some (.int .i64 u.y)) (by kernel_rfl) ?_
  have Br0 := Lib.hid ((Below.refl w4.heap.size w4).drew)
  have hr0 := HX.out w4.drew Br0.out
  refine E_takeR (i := 0) (oi := _) (v := ?v1) rfl (by kernel_rfl) (by kernel_rfl) (by kernel_rfl) (by decide) (fun _ _ _ h => h) hr0 (Or.inl ⟨by rfl, ?y1⟩) ?r1
  case y1 => (intro w' hSw; (try dsimp only at hSw); go_simp; try with_reducible rfl)
  try simp only [Act.put, List.getElem_toArray, List.getElem_cons_zero, List.getElem_cons_succ, List.setIfInBounds_toArray, List.set_cons_zero, List.set_cons_succ]
  refine E_takeR (i := 1) (oi := _) (v := ?v2) rfl (by kernel_rfl) (by kernel_rfl) (by kernel_rfl) (by decide) (fun _ _ _ h => h) hr0 (Or.inl ⟨by rfl, ?y2⟩) ?r2
  case y2 => (intro w' hSw; (try dsimp only at hSw); go_simp; try with_reducible rfl)
  try simp only [Act.put, List.getElem_toArray, List.getElem_cons_zero, List.getElem_cons_succ, List.setIfInBounds_toArray, List.set_cons_zero, List.set_cons_succ]
  refine E_takeR (i := 2) (oi := _) (v := ?v3) rfl (by kernel_rfl) (by kernel_rfl) (by kernel_rfl) (by decide) (fun _ _ _ h => h) hr0 (Or.inl ⟨by rfl, ?y3⟩) ?r3
  case y3 => (intro w' hSw; (try dsimp only at hSw); go_simp; try with_reducible rfl)
  try simp only [Act.put, List.getElem_toArray, List.getElem_cons_zero, List.getElem_cons_succ, List.setIfInBounds_toArray, List.set_cons_zero, List.set_cons_succ]
  refine E_takeR (i := 3) (oi := _) (v := ?v4) rfl (by kernel_rfl) (by kernel_rfl) (by kernel_rfl) (by decide) (fun _ _ _ h => h) hr0 (Or.inl ⟨by rfl, ?y4⟩) ?r4
  case y4 => (intro w' hSw; (try dsimp only at hSw); go_simp; try with_reducible rfl)
  try simp only [Act.put, List.getElem_toArray, List.getElem_cons_zero, List.getElem_cons_succ, List.setIfInBounds_toArray, List.set_cons_zero, List.set_cons_succ]
  refine E_takeR (i := 5) (oi := _) (v := ?v5) rfl (by kernel_rfl) (by kernel_rfl) (by kernel_rfl) (by decide) (fun _ _ _ h => h) hr0 (Or.inl ⟨by rfl, ?y5⟩) ?r5
  case y5 => (intro w' hSw; (try dsimp only at hSw); go_simp; try with_reducible rfl)
  try simp only [Act.put, List.getElem_toArray, List.getElem_cons_zero, List.getElem_cons_succ, List.setIfInBounds_toArray, List.set_cons_zero, List.set_cons_succ]
  refine E_takeR (i := 6) (oi := _) (v := ?v6) rfl (by kernel_rfl) (by kernel_rfl) (by kernel_rfl) (by decide) (fun _ _ _ h => h) hr0 (Or.inl ⟨by rfl, ?y6⟩) ?r6
  case y6 => (intro w' hSw; (try dsimp only at hSw); go_simp; try with_reducible rfl)
  try simp only [Act.put, List.getElem_toArray, List.getElem_cons_zero, List.getElem_cons_succ, List.setIfInBounds_toArray, List.set_cons_zero, List.set_cons_succ]
  refine E_takeR (i := 7) (oi := _) (v := ?v7) rfl (by kernel_rfl) (by kernel_rfl) (by kernel_rfl) (by decide) (fun _ _ _ h => h) hr0 (Or.inl ⟨by rfl, ?y7⟩) ?r7
  case y7 => (intro w' hSw; (try dsimp only at hSw); go_simp; try with_reducible rfl)
  try simp only [Act.put, List.getElem_toArray, List.getElem_cons_zero, List.getElem_cons_succ, List.setIfInBounds_toArray, List.set_cons_zero, List.set_cons_succ]
  refine E_takeR (i := 8) (oi := _) (v := ?v8) rfl (by kernel_rfl) (by kernel_rfl) (by kernel_rfl) (by decide) (fun _ _ _ h => h) hr0 (Or.inl ⟨by rfl, ?y8⟩) ?r8
  case y8 => (intro w' hSw; (try dsimp only at hSw); go_simp; try with_reducible rfl)
  try simp only [Act.put, List.getElem_toArray, List.getElem_cons_zero, List.getElem_cons_succ, List.setIfInBounds_toArray, List.set_cons_zero, List.set_cons_succ]
  refine E_takeR (i := 10) (oi := _) (v := ?v9) rfl (by kernel_rfl) (by kernel_rfl) (by kernel_rfl) (by decide) (fun _ _ _ h => h) hr0 (Or.inl ⟨by rfl, ?y9⟩) ?r9
  case y9 => (intro w' hSw; (try dsimp only at hSw); go_simp; try with_reducible rfl)
  try simp only [Act.put, List.getElem_toArray, List.getElem_cons_zero, List.getElem_cons_succ, List.setIfInBounds_toArray, List.set_cons_zero, List.set_cons_succ]
  refine E_takeR (i := 11) (oi := _) (v := ?v10) rfl (by kernel_rfl) (by kernel_rfl) (by kernel_rfl) (by decide) (fun _ _ _ h => h) hr0 (Or.inl ⟨by rfl, ?y10⟩) ?r10
  case y10 => (intro w' hSw; (try dsimp only at hSw); go_simp; try with_reducible rfl)
  try simp only [Act.put, List.getElem_toArray, List.getElem_cons_zero, List.getElem_cons_succ, List.setIfInBounds_toArray, List.set_cons_zero, List.set_cons_succ]
  refine E_takeR (i := 12) (oi := _) (v := ?v11) rfl (by kernel_rfl) (by kernel_rfl) (by kernel_rfl) (by decide) (fun _ _ _ h => h) hr0 (Or.inl ⟨by rfl, ?y11⟩) ?r11
  case y11 => (intro w' hSw; (try dsimp only at hSw); go_simp; try with_reducible rfl)
  try simp only [Act.put, List.getElem_toArray, List.getElem_cons_zero, List.getElem_cons_succ, List.setIfInBounds_toArray, List.set_cons_zero, List.set_cons_succ]
  refine E_takeR (i := 13) (oi := _) (v := ?v12) rfl (by kernel_rfl) (by kernel_rfl) (by kernel_rfl) (by decide) (fun _ _ _ h => h) hr0 (Or.inl ⟨by rfl, ?y12⟩) ?r12
  case y12 => (intro w' hSw; (try dsimp only at hSw); go_simp; try with_reducible rfl)
  try simp only [Act.put, List.getElem_toArray, List.getElem_cons_zero, List.getElem_cons_succ, List.setIfInBounds_toArray, List.set_cons_zero, List.set_cons_succ]
  refine E_takeR (i := 15) (oi := _) (v := ?v13) rfl (by kernel_rfl) (by kernel_rfl) (by kernel_rfl) (by decide) (fun _ _ _ h => h) hr0 (Or.inl ⟨by rfl, ?y13⟩) ?r13
  case y13 => (intro w' hSw; (try dsimp only at hSw); go_simp; try with_reducible rfl)
  try simp only [Act.put, List.getElem_toArray, List.getElem_cons_zero, List.getElem_cons_succ, List.setIfInBounds_toArray, List.set_cons_zero, List.set_cons_succ]
  refine E_takeR (i := 16) (oi := _) (v := ?v14) rfl (by kernel_rfl) (by kernel_rfl) (by kernel_rfl) (by decide) (fun _ _ _ h => h) hr0 (Or.inl ⟨by rfl, ?y14⟩) ?r14
  case y14 => (intro w' hSw; (try dsimp only at hSw); go_simp; try with_reducible rfl)
  try simp only [Act.put, List.getElem_toArray, List.getElem_cons_zero, List.getElem_cons_succ, List.setIfInBounds_toArray, List.set_cons_zero, List.set_cons_succ]
  refine E_takeR (i := 4) (oi := _) (v := ?v15) rfl (by kernel_rfl) (by kernel_rfl) (by kernel_rfl) (by decide) (fun _ _ _ h => h) hr0 (Or.inl ⟨by rfl, ?y15⟩) ?r15
  case y15 => (intro w' hSw; (try dsimp only at hSw); go_simp; try with_reducible rfl)
  try simp only [Act.put, List.getElem_toArray, List.getElem_cons_zero, List.getElem_cons_succ, List.setIfInBounds_toArray, List.set_cons_zero, List.set_cons_succ]
  refine E_takeR (i := 14) (oi := _) (v := ?v16) rfl (by kernel_rfl) (by kernel_rfl) (by kernel_rfl) (by decide) (fun _ _ _ h => h) hr0 (Or.inl ⟨by rfl, ?y16⟩) ?r16
  case y16 => (intro w' hSw; (try dsimp only at hSw); go_simp; try with_reducible rfl)
  try simp only [Act.put, List.getElem_toArray, List.getElem_cons_zero, List.getElem_cons_succ, List.setIfInBounds_toArray, List.set_cons_zero, List.set_cons_succ]
  refine E_takeR (i := 17) (oi := _) (v := ?v17) rfl (by kernel_rfl) (by kernel_rfl) (by kernel_rfl) (by decide) (fun _ _ _ h => h) hr0 (Or.inl ⟨by rfl, ?y17⟩) ?r17
  case y17 => (intro w' hSw; (try dsimp only at hSw); go_simp; try with_reducible rfl)
  try simp only [Act.put, List.getElem_toArray, List.getElem_cons_zero, List.getElem_cons_succ, List.setIfInBounds_toArray, List.set_cons_zero, List.set_cons_succ]
  refine E_step (i := 9) (o := _) (by kernel_rfl) rfl (fun K hK => ?_)
  go_simp
  refine (HDO.out w4.drew).mono ?_
  rintro e wr1 ⟨rfl, hbr1⟩
  dsimp only
  have Bwr1 := Lib.hid (Br0.out.trans (hbr1.mono Br0.out.size))
  have hwr1 := HX.out wr1 Bwr1.out
  refine hK.out _ _ (fun h => hwr1) ?_
  clear hK K hbr1
  try simp only [Act.put, List.getElem_toArray, List.getElem_cons_zero, List.getElem_cons_succ, List.setIfInBounds_toArray, List.set_cons_zero, List.set_cons_succ]
  refine E_step (i := 18) (o := _) (by kernel_rfl) rfl (fun K hK => ?_)
  go_simp
  refine hK.out _ _ (fun h => hwr1) ?_
  clear hK K
  try simp only [Act.put, List.getElem_toArray, List.getElem_cons_zero, List.getElem_cons_succ, List.setIfInBounds_toArray, List.set_cons_zero, List.set_cons_succ]
  refine E_step (i := 19) (o := _) (by kernel_rfl) rfl (fun K hK => ?_)
  go_simp
  refine hK.out _ _ (fun h => hwr1) ?_
  clear hK K
  try simp only [Act.put, List.getElem_toArray, List.getElem_cons_zero, List.getElem_cons_succ, List.setIfInBounds_toArray, List.set_cons_zero, List.set_cons_succ]
  refine E_step (i := 20) (o := _) (by kernel_rfl) rfl (fun K hK => ?_)
  go_simp
  refine hK.out _ _ (fun h => hwr1) ?_
  clear hK K
  try simp only [Act.put, List.getElem_toArray, List.getElem_cons_zero, List.getElem_cons_succ, List.setIfInBounds_toArray, List.set_cons_zero, List.set_cons_succ]
  refine E_step (i := 21) (o := _) (by kernel_rfl) rfl (fun K hK => ?_)
  go_simp
  refine hK.out _ _ (fun h => hwr1) ?_
  clear hK K
  try simp only [Act.put, List.getElem_toArray, List.getElem_cons_zero, List.getElem_cons_succ, List.setIfInBounds_toArray, List.set_cons_zero, List.set_cons_succ]
  refine E_done (by kernel_rfl) ?_ _
  clear hr0 hwr1
  have HBZ := Lib.hid (HBA.out.trans (Bwr1.out.mono HBA.out.size))
  go_wp2_with fail
  go_ret
  exact ⟨Eq.trans (show _ = Ending.returned (Value.int .i64 _) from rfl) (congrArg (fun n => Ending.returned (Value.int .i64 n)) HWR.out), HBZ.out⟩

theorem IsInts.at {w : World} {a : Option Addr} {c : Nat} {l : List Int} (h : IsInts w (.slice a l.length c) l) {j : Nat} {x : Int} (hq : l[j]? = some x) : ∃ b off, a = some ⟨b, off, none⟩ ∧ b < w.heap.size ∧ l.length ≤ c ∧ c ≤ 9223372036854775807 ∧ w.cell? ⟨b, off + j, none⟩ = some (.int .i64 x) := by
  rcases h with ⟨_, h2⟩ | ⟨b, off, cap, h1, h2, h3, h4, h5⟩
  · subst h2; simp at hq
  · have h6 := slice_inj h1
    obtain ⟨e1, -, e3⟩ := h6
    subst e3
    exact ⟨b, off, e1, h2, h3, h4, h5 j x hq⟩
theorem IsInts.bel {w w' : World} {v : Value} {l : List Int} (h : IsInts w v l) (hb : Below w.heap.size w w') : IsInts w' v l := by
  rcases h with h | ⟨b, off, cap, h1, h2, h3, h4, h5⟩
  · exact .inl h
  · exact .inr ⟨b, off, cap, h1, Nat.lt_of_lt_of_le h2 hb.size, h3, h4, fun j x hj => (hb.cell (p := ⟨b, off + j, none⟩) h2).trans (h5 j x hj)⟩
theorem IsInts.sh {w : World} {v : Value} {l : List Int} (h : IsInts w v l) : ∃ a c, v = .slice a l.length c := by
  rcases h with ⟨h1, h2⟩ | ⟨b, off, cap, h1, _⟩
  · subst h2; exact ⟨none, 0, h1⟩
  · exact ⟨_, _, h1⟩

set_option maxRecDepth 100000 in
set_option maxHeartbeats 4000000 in
theorem sameInts_same (l : List Int) (a b : Option Addr) (ca cb : Nat) (w : World) (ha : IsInts w (.slice a l.length ca) l) (hb : IsInts w (.slice b l.length cb) l) :
    Calls Try.prog 14 #[.slice a l.length ca, .slice b l.length cb] w fun e w' => e = .returned (.bool true) ∧ Below w.heap.size w w' := by
  have HA := Lib.hid ha
  have HB := Lib.hid hb
  clear ha hb
  go_enter Try.func14, Try.ntmps14
  go_wp2_with fail
  go_loopw [5] (fun i wr => ∃ j : Nat, j ≤ l.length ∧ i = .int .i64 j ∧ Below w.heap.size w wr) (fun i _ => l.length - (intOf i).toNat)
  case atStart => exact ⟨0, Nat.zero_le _, rfl, Below.refl _ _⟩
  case round =>
    obtain ⟨j, hj, rfl, g2⟩ := hrel
    have HG := Lib.hid g2
    by_cases hlj : j < l.length
    · have hq : l[j]? = some l[j] := List.getElem?_eq_getElem hlj
      obtain ⟨b1, off1, e1, hb1, h11, h12, c1⟩ := (HA.out.bel g2).at hq
      obtain ⟨b2, off2, e2, hb2, h21, h22, c2⟩ := (HB.out.bel g2).at hq
      generalize l[j] = x at *
      subst e1
      subst e2
      have hj0 : (0 : Int) ≤ (j : Int) := Int.natCast_nonneg _
      have hj1 : (j : Int) < (l.length : Int) := by omega
      clear g2 hq
      go_wp2_with fail
      go_region
      all_goals (go_wp2_with fail)
      all_goals exact ⟨⟨j + 1, by omega, by simp, HG.out.drew⟩, by simp [intOf]; omega⟩
    · obtain rfl : j = l.length := by omega
      have hjj : ¬ (l.length : Int) < (l.length : Int) := by omega
      clear hlj g2
      go_wp2_with fail
      go_ret
      exact ⟨rfl, HG.out⟩
end Go.Proofs.Ytpdgcajbdaleeaa
