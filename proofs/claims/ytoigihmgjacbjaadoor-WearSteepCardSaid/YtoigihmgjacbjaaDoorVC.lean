/- WearSteep's walk. No condition but the package's variable. -/
import Derived.Test.YtoigihmgjacbjaaDoorVB
set_option linter.unusedSimpArgs false
namespace Go.Proofs.YtoigihmgjacbjaaDoor
open Go.RowKit

theorem pointE_good {S : Skn} {p : Pnt} (h : pointE S p = 0) : SkinGood S ∧ pointB p = true := by
  refine ⟨skinE_ok ?_, (pointE_ok h).2.2⟩
  unfold pointE at h
  split at h
  · rename_i h1
    exact absurd h h1
  · rename_i h1
    simpa using h1
theorem pointE_mark {S : Skn} (h : SkinGood S) (hk : skinE S = 0) {m : Mrk} (hm : m ∈ S.ms) : pointE S m.at_ = 0 := by
  unfold pointE
  rw [if_neg (by rw [hk]; decide), if_neg (by rw [(h.marks m hm).2]; decide)]
theorem pointE_skin {S : Skn} {p : Pnt} (h : pointE S p = 0) : skinE S = 0 := by
  unfold pointE at h
  split at h
  · rename_i h1
    exact absurd h h1
  · rename_i h1
    simpa using h1

set_option maxRecDepth 100000 in
set_option maxHeartbeats 8000000 in
theorem wearSteepLaw_any (S : Skn) (p q : Pnt) (w : World) (hS : IsSkn w S) (hg : Laid w) :
    Calls Tryd.prog 10 #[.agg #[.slice S.pa S.pts.length S.pc, .slice S.ha S.hs.length S.hc, .int .i64 S.steep, .int .i64 S.th.lo, .int .i64 S.th.hi, .slice S.ma S.ms.length S.mc], .agg #[.int .i64 p.x, .int .i64 p.y], .agg #[.int .i64 q.x, .int .i64 q.y]] w fun e w' => e = .returned (.bool true) ∧ Below w.heap.size w w' := by
  have k1 := ((Blk.new w 30 #[.slice S.pa S.pts.length S.pc, .slice S.ha S.hs.length S.hc, .int .i64 S.steep, .int .i64 S.th.lo, .int .i64 S.th.hi, .slice S.ma S.ms.length S.mc]).alloc (.cells #[.int .i64 p.x, .int .i64 p.y] 45)).alloc (.cells #[.int .i64 q.x, .int .i64 q.y] 45)
  have k2 := (Blk.new (w.alloc (.cells #[.slice S.pa S.pts.length S.pc, .slice S.ha S.hs.length S.hc, .int .i64 S.steep, .int .i64 S.th.lo, .int .i64 S.th.hi, .slice S.ma S.ms.length S.mc] 30)) 45 #[.int .i64 p.x, .int .i64 p.y]).alloc (.cells #[.int .i64 q.x, .int .i64 q.y] 45)
  have k3 := Blk.new ((w.alloc (.cells #[.slice S.pa S.pts.length S.pc, .slice S.ha S.hs.length S.hc, .int .i64 S.steep, .int .i64 S.th.lo, .int .i64 S.th.hi, .slice S.ma S.ms.length S.mc] 30)).alloc (.cells #[.int .i64 p.x, .int .i64 p.y] 45)) 45 #[.int .i64 q.x, .int .i64 q.y]
  rw [World.size_alloc] at k2
  rw [World.size_alloc, World.size_alloc] at k3
  have hb1 : Below w.heap.size w (((w.alloc (.cells #[.slice S.pa S.pts.length S.pc, .slice S.ha S.hs.length S.hc, .int .i64 S.steep, .int .i64 S.th.lo, .int .i64 S.th.hi, .slice S.ma S.ms.length S.mc] 30)).alloc (.cells #[.int .i64 p.x, .int .i64 p.y] 45)).alloc (.cells #[.int .i64 q.x, .int .i64 q.y] 45)) := (((Below.refl _ w).alloc (Nat.le_refl _) _).alloc (by simp) _).alloc (by simp; omega) _
  have HS := Lib.hid hS
  have HG := Lib.hid hg
  clear hS hg
  go_enter Tryd.func10, Tryd.ntmps10
  go_upto_region 1 with fail
  generalize (((w.alloc (.cells #[.slice S.pa S.pts.length S.pc, .slice S.ha S.hs.length S.hc, .int .i64 S.steep, .int .i64 S.th.lo, .int .i64 S.th.hi, .slice S.ma S.ms.length S.mc] 30)).alloc (.cells #[.int .i64 p.x, .int .i64 p.y] 45)).alloc (.cells #[.int .i64 q.x, .int .i64 q.y] 45)) = w1 at *
  have K1 := Lib.hid k1
  have K2 := Lib.hid k2
  have K3 := Lib.hid k3
  have HB1 := Lib.hid hb1
  clear k1 k2 k3 hb1
  obtain ⟨s0, s1, s2, s3, s4, s5⟩ := skn_cells (S := S) K1.out
  have l1 := K1.out.lt
  go_wp2_with fail
  refine (great_any S _ (HS.out.below HB1.out)).mono ?_
  rintro e w2 ⟨⟨gb, rfl⟩, hb⟩
  have HB2 := Lib.hid (HB1.out.trans (hb.mono HB1.out.size))
  have K12 := Lib.hid (K1.out.belowS hb)
  have K22 := Lib.hid (K2.out.belowS hb)
  have K32 := Lib.hid (K3.out.belowS hb)
  clear s0 s1 s2 s3 s4 s5 l1 hb K1 K2 K3
  cases gb with
  | true =>
    go_wp2_with fail
    refine (lives_any _ (HG.out.below HB2.out)).mono ?_
    rintro e w3 ⟨rfl, hbz⟩
    go_wp2_with fail
    go_ret
    exact ⟨rfl, HB2.out.trans (hbz.mono HB2.out.size)⟩
  | false =>
  obtain ⟨s0, s1, s2, s3, s4, s5⟩ := skn_cells (S := S) K12.out
  obtain ⟨p0, p1⟩ := pnt_cells K22.out
  have l1 := K12.out.lt
  have l2 := K22.out.lt
  go_wp2_with fail
  refine (wearBounds_any S p _ (HS.out.below HB2.out) (HG.out.below HB2.out)).mono ?_
  rintro e w3 ⟨rfl, hb⟩
  obtain ⟨A, hA⟩ : ∃ A, endB (pointE S p) (boundM S p) = A := ⟨_, rfl⟩
  obtain ⟨E, hE⟩ : ∃ E, pointE S p = E := ⟨_, rfl⟩
  rw [hA, hE]
  have HA := Lib.hid hA
  have HE := Lib.hid hE
  have kA := Blk.new w3 27 #[.int .i64 A.lo, .int .i64 A.hi]
  have hb4 : Below w3.heap.size w3 (w3.alloc (.cells #[.int .i64 A.lo, .int .i64 A.hi] 27)) := (Below.refl _ w3).alloc (Nat.le_refl _) _
  have hb24 := hb.trans (hb4.mono hb.size)
  have HB4 := Lib.hid (HB2.out.trans (hb24.mono HB2.out.size))
  have K14 := Lib.hid (K12.out.belowS hb24)
  have K24 := Lib.hid (K22.out.belowS hb24)
  have K34 := Lib.hid (K32.out.belowS hb24)
  clear s0 s1 s2 s3 s4 s5 p0 p1 l1 l2 hb hb4 hb24 hA hE K12 K22 K32
  go_upto_region 4 with fail
  generalize w3.alloc (.cells #[.int .i64 A.lo, .int .i64 A.hi] 27) = w4 at *
  have KA := Lib.hid kA
  clear kA
  obtain ⟨s0, s1, s2, s3, s4, s5⟩ := skn_cells (S := S) K14.out
  obtain ⟨q0, q1⟩ := pnt_cells K34.out
  have l1 := K14.out.lt
  have l3 := K34.out.lt
  go_wp2_with fail
  refine (wearBounds_any S q _ (HS.out.below HB4.out) (HG.out.below HB4.out)).mono ?_
  rintro e w5 ⟨rfl, hb⟩
  obtain ⟨B, hB⟩ : ∃ B, endB (pointE S q) (boundM S q) = B := ⟨_, rfl⟩
  obtain ⟨G, hG⟩ : ∃ G, pointE S q = G := ⟨_, rfl⟩
  rw [hB, hG]
  have HBB := Lib.hid hB
  have HGG := Lib.hid hG
  have kB := Blk.new w5 27 #[.int .i64 B.lo, .int .i64 B.hi]
  have hb6 : Below w5.heap.size w5 (w5.alloc (.cells #[.int .i64 B.lo, .int .i64 B.hi] 27)) := (Below.refl _ w5).alloc (Nat.le_refl _) _
  have hb46 := hb.trans (hb6.mono hb.size)
  have HB6 := Lib.hid (HB4.out.trans (hb46.mono HB4.out.size))
  have K16 := Lib.hid (K14.out.belowS hb46)
  have K26 := Lib.hid (K24.out.belowS hb46)
  have K36 := Lib.hid (K34.out.belowS hb46)
  have KA6 := Lib.hid (KA.out.belowS hb46)
  clear s0 s1 s2 s3 s4 s5 q0 q1 l1 l3 hb hb6 hb46 hB hG K14 K24 K34 KA
  go_upto_region 5 with fail
  generalize w5.alloc (.cells #[.int .i64 B.lo, .int .i64 B.hi] 27) = w6 at *
  have KB6 := Lib.hid kB
  clear kB
  by_cases hE0 : E = 0
  rotate_left
  · have e1 : (E == 0) = false := by rw [beq_eq_false_iff_ne]; exact hE0
    have e2 : (E != 0) = true := by simp [hE0]
    clear hE0
    go_wp2_with fail
    refine (lives_any _ (HG.out.below HB6.out)).mono ?_
    rintro e w7 ⟨rfl, hbz⟩
    go_wp2_with fail
    go_ret
    exact ⟨rfl, HB6.out.trans (hbz.mono HB6.out.size)⟩
  by_cases hG0 : G = 0
  rotate_left
  · have e1 : (G == 0) = false := by rw [beq_eq_false_iff_ne]; exact hG0
    have e2 : (G != 0) = true := by simp [hG0]
    clear hG0
    subst hE0
    go_wp2_with fail
    refine (lives_any _ (HG.out.below HB6.out)).mono ?_
    rintro e w7 ⟨rfl, hbz⟩
    go_wp2_with fail
    go_ret
    exact ⟨rfl, HB6.out.trans (hbz.mono HB6.out.size)⟩
  subst hE0 hG0
  obtain ⟨hgood, hpp⟩ := pointE_good HE.out
  have hqq := (pointE_good HGG.out).2
  have HGOOD := Lib.hid hgood
  have HSK := Lib.hid (pointE_skin HE.out)
  have HAA := Lib.hid (show boundM S p = A by rw [← HA.out, HE.out]; rfl)
  have HBA := Lib.hid (show boundM S q = B by rw [← HBB.out, HGG.out]; rfl)
  have r1 := bound_range hgood p
  have r2 := bound_range hgood q
  have r3 := bound_lip hgood p q
  have r4 := bound_lip hgood q p
  rw [dist_comm q p] at r4
  rw [HAA.out] at r1 r3 r4
  rw [HBA.out] at r2 r3 r4
  have r5 := mul_pos_bd (a := S.steep) (b := distM p q) (m := 1000) (n := 800) hgood.steep.1 hgood.steep.2 (dist_bd hpp hqq).1 (dist_bd hpp hqq).2
  have HFAR := Lib.hid (fun w' => far_any p q hpp hqq w')
  have hwd : IntKind.i64.wrap (S.steep * distM p q) = S.steep * distM p q := by rw [IntKind.wrap_i64]; omega
  have HR := Lib.hid (And.intro r1 (And.intro r2 (And.intro r3 (And.intro r4 r5))))
  clear hgood hpp hqq r1 r2 r3 r4 r5
  have hst : ∀ w', Below w6.heap.size w6 w' → (fun w' : World => Below w6.heap.size w6 w' ∧ (w'.cell? ⟨w.heap.size, 0, none⟩ = some (.slice S.pa S.pts.length S.pc) ∧ w'.cell? ⟨w.heap.size, 1, none⟩ = some (.slice S.ha S.hs.length S.hc) ∧ w'.cell? ⟨w.heap.size, 2, none⟩ = some (.int .i64 S.steep) ∧ w'.cell? ⟨w.heap.size, 3, none⟩ = some (.int .i64 S.th.lo) ∧ w'.cell? ⟨w.heap.size, 4, none⟩ = some (.int .i64 S.th.hi) ∧ w'.cell? ⟨w.heap.size, 5, none⟩ = some (.slice S.ma S.ms.length S.mc) ∧ w'.cell? ⟨w.heap.size + 1, 0, none⟩ = some (.int .i64 p.x) ∧ w'.cell? ⟨w.heap.size + 1, 1, none⟩ = some (.int .i64 p.y) ∧ w'.cell? ⟨w.heap.size + 1 + 1, 0, none⟩ = some (.int .i64 q.x) ∧ w'.cell? ⟨w.heap.size + 1 + 1, 1, none⟩ = some (.int .i64 q.y))) w' := fun w' hb => by
    have x1 := K16.out.belowS hb
    have x2 := K26.out.belowS hb
    have x3 := K36.out.belowS hb
    exact ⟨hb, x1.cell 0, x1.cell 1, x1.cell 2, x1.cell 3, x1.cell 4, x1.cell 5, x2.cell 0, x2.cell 1, x3.cell 0, x3.cell 1⟩
  have HSTE := Lib.hid hst
  clear hst
  go_upto_region 7 with fail
  have hx := HSTE.out w6.drew ((Below.refl _ w6).drew)
  refine wp_region_E 7 (fun w' : World => Below w6.heap.size w6 w' ∧ (w'.cell? ⟨w.heap.size, 0, none⟩ = some (.slice S.pa S.pts.length S.pc) ∧ w'.cell? ⟨w.heap.size, 1, none⟩ = some (.slice S.ha S.hs.length S.hc) ∧ w'.cell? ⟨w.heap.size, 2, none⟩ = some (.int .i64 S.steep) ∧ w'.cell? ⟨w.heap.size, 3, none⟩ = some (.int .i64 S.th.lo) ∧ w'.cell? ⟨w.heap.size, 4, none⟩ = some (.int .i64 S.th.hi) ∧ w'.cell? ⟨w.heap.size, 5, none⟩ = some (.slice S.ma S.ms.length S.mc) ∧ w'.cell? ⟨w.heap.size + 1, 0, none⟩ = some (.int .i64 p.x) ∧ w'.cell? ⟨w.heap.size + 1, 1, none⟩ = some (.int .i64 p.y) ∧ w'.cell? ⟨w.heap.size + 1 + 1, 0, none⟩ = some (.int .i64 q.x) ∧ w'.cell? ⟨w.heap.size + 1 + 1, 1, none⟩ = some (.int .i64 q.y))) (by kernel_rfl) ?_
  refine E_takeR (i := 0) (oi := _) (v := ?vt10) rfl (by kernel_rfl) (by kernel_rfl) (by kernel_rfl) (by decide) (fun _ _ _ h => h) hx (Or.inl ⟨by rfl, ?yt10⟩) ?rt10
  case yt10 => (intro w' hSw; (try dsimp only at hSw); go_simp; try with_reducible rfl)
  try simp only [Act.put, List.getElem_toArray, List.getElem_cons_zero, List.getElem_cons_succ, List.setIfInBounds_toArray, List.set_cons_zero, List.set_cons_succ]
  refine E_takeR (i := 1) (oi := _) (v := ?vt11) rfl (by kernel_rfl) (by kernel_rfl) (by kernel_rfl) (by decide) (fun _ _ _ h => h) hx (Or.inl ⟨by rfl, ?yt11⟩) ?rt11
  case yt11 => (intro w' hSw; (try dsimp only at hSw); go_simp; try with_reducible rfl)
  try simp only [Act.put, List.getElem_toArray, List.getElem_cons_zero, List.getElem_cons_succ, List.setIfInBounds_toArray, List.set_cons_zero, List.set_cons_succ]
  refine E_takeR (i := 2) (oi := _) (v := ?vt12) rfl (by kernel_rfl) (by kernel_rfl) (by kernel_rfl) (by decide) (fun _ _ _ h => h) hx (Or.inl ⟨by rfl, ?yt12⟩) ?rt12
  case yt12 => (intro w' hSw; (try dsimp only at hSw); go_simp; try with_reducible rfl)
  try simp only [Act.put, List.getElem_toArray, List.getElem_cons_zero, List.getElem_cons_succ, List.setIfInBounds_toArray, List.set_cons_zero, List.set_cons_succ]
  refine E_takeR (i := 3) (oi := _) (v := ?vt13) rfl (by kernel_rfl) (by kernel_rfl) (by kernel_rfl) (by decide) (fun _ _ _ h => h) hx (Or.inl ⟨by rfl, ?yt13⟩) ?rt13
  case yt13 => (intro w' hSw; (try dsimp only at hSw); go_simp; try with_reducible rfl)
  try simp only [Act.put, List.getElem_toArray, List.getElem_cons_zero, List.getElem_cons_succ, List.setIfInBounds_toArray, List.set_cons_zero, List.set_cons_succ]
  refine E_step (i := 4) (o := _) (by kernel_rfl) rfl (fun K hK => ?_)
  go_simp
  refine (HFAR.out _).mono ?_
  rintro e w7 ⟨rfl, hb7⟩
  (try dsimp only)
  have hb67 : Below w6.heap.size w6 w7 := hx.1.trans (hb7.mono hx.1.size)
  refine hK.out _ _ (fun _ => HSTE.out w7 hb67) ?_
  clear hK K
  try simp only [Act.put, List.getElem_toArray, List.getElem_cons_zero, List.getElem_cons_succ, List.setIfInBounds_toArray, List.set_cons_zero, List.set_cons_succ]
  have hx7 := HSTE.out w7 hb67
  refine E_takeR (i := 5) (oi := _) (v := ?vt14) rfl (by kernel_rfl) (by kernel_rfl) (by kernel_rfl) (by decide) (fun _ _ _ h => h) hx7 (Or.inl ⟨by rfl, ?yt14⟩) ?rt14
  case yt14 => (intro w' hSw; (try dsimp only at hSw); go_simp; try with_reducible rfl)
  try simp only [Act.put, List.getElem_toArray, List.getElem_cons_zero, List.getElem_cons_succ, List.setIfInBounds_toArray, List.set_cons_zero, List.set_cons_succ]
  refine E_takeR (i := 6) (oi := _) (v := ?vt15) rfl (by kernel_rfl) (by kernel_rfl) (by kernel_rfl) (by decide) (fun _ _ _ h => h) hx7 (Or.inl ⟨by rfl, ?yt15⟩) ?rt15
  case yt15 => (intro w' hSw; (try dsimp only at hSw); go_simp; try with_reducible rfl)
  try simp only [Act.put, List.getElem_toArray, List.getElem_cons_zero, List.getElem_cons_succ, List.setIfInBounds_toArray, List.set_cons_zero, List.set_cons_succ]
  refine E_done (by kernel_rfl) ?_ _
  have HB7 := Lib.hid (HB6.out.trans (hb67.mono HB6.out.size))
  have K17 := Lib.hid (K16.out.belowS hb67)
  have kA7 := KA6.out.belowS hb67
  have kB7 := KB6.out.belowS hb67
  obtain ⟨a0, a1⟩ := spn_cells kA7
  obtain ⟨b0, b1⟩ := spn_cells kB7
  have lA := kA7.lt
  have lB := kB7.lt
  obtain ⟨r1, r2, r3, r4, r5⟩ := HR.out
  generalize S.steep * distM p q = D at *
  have v1 : IntKind.i64.wrap (A.lo - B.lo) = A.lo - B.lo := by rw [IntKind.wrap_i64]; omega
  have v2 : IntKind.i64.wrap (B.lo - A.lo) = B.lo - A.lo := by rw [IntKind.wrap_i64]; omega
  have v3 : IntKind.i64.wrap (A.hi - B.hi) = A.hi - B.hi := by rw [IntKind.wrap_i64]; omega
  have v4 : IntKind.i64.wrap (B.hi - A.hi) = B.hi - A.hi := by rw [IntKind.wrap_i64]; omega
  have t1 : ¬ A.hi < A.lo := by omega
  have t2 : ¬ B.hi < B.lo := by omega
  have t3 : ¬ D < A.lo - B.lo := by omega
  have t4 : ¬ D < B.lo - A.lo := by omega
  have t5 : ¬ D < A.hi - B.hi := by omega
  have t6 : ¬ D < B.hi - A.hi := by omega
  have hlen := HS.out.ms.len
  clear hx hx7 hb7 hb67 kA7 kB7 r1 r2 r3 r4 r5 hwd
  go_upto_region 10 with fail
  clear a0 a1 b0 b1 lA lB v1 v2 v3 v4 t1 t2 t3 t4 t5 t6
  go_wp2_with fail
  go_loopw [12, 13, 14, 15] (fun s12 _ _ _ wr => ∃ j : Nat, j ≤ S.ms.length ∧ s12 = .int .i64 j ∧ Below w7.heap.size w7 wr) (fun i _ _ _ _ => S.ms.length - (intOf i).toNat)
  case atStart => exact ⟨0, Nat.zero_le _, rfl, Below.refl _ _⟩
  case round =>
  obtain ⟨j, hj, rfl, hb8⟩ := hrel
  obtain ⟨w8, rfl⟩ : ∃ w8 : World, w8 = wr := ⟨_, rfl⟩
  have HB8 := Lib.hid (HB7.out.trans (hb8.mono HB7.out.size))
  have K18 := Lib.hid (K17.out.belowS hb8)
  have s5 : w8.cell? ⟨w.heap.size, 5, none⟩ = some (.slice S.ma S.ms.length S.mc) := K18.out.cell 5
  have l1 := K18.out.lt
  by_cases hlj : j < S.ms.length
  rotate_left
  · have hlj' : ¬ (j : Int) < (S.ms.length : Int) := by omega
    clear hlj hj hb8
    go_wp2_with fail
    refine (lives_any _ (HG.out.below HB8.out)).mono ?_
    rintro e w9 ⟨rfl, hbz⟩
    go_wp2_with fail
    go_ret
    exact ⟨rfl, HB8.out.trans (hbz.mono HB8.out.size)⟩
  have hlj' : (j : Int) < (S.ms.length : Int) := by omega
  have hj0 : (0 : Int) ≤ (j : Int) := Int.natCast_nonneg _
  have hjs : IntKind.i64.wrap ((j : Int) + 1) = ((j + 1 : Nat) : Int) := by rw [IntKind.wrap_i64]; omega
  have hq : S.ms[j]? = some S.ms[j] := List.getElem?_eq_getElem hlj
  obtain ⟨b, off, hea, hbl, hcap, hcx, y0, y1, y2, y3⟩ := (HS.out.ms.below HB8.out).at hq
  have HPE := Lib.hid (pointE_mark HGOOD.out HSK.out (List.getElem_mem hlj))
  have hbm := bound_mark HGOOD.out (List.getElem_mem hlj)
  have hbr := bound_range HGOOD.out S.ms[j].at_
  generalize S.ms[j] = m at *
  simp only [mrkC, List.getElem?_toArray, List.getElem?_cons_zero, List.getElem?_cons_succ] at y0 y1 y2 y3
  rw [hea] at s5
  have HLJ := Lib.hid hlj
  obtain ⟨C, hC⟩ : ∃ C, boundM S m.at_ = C := ⟨_, rfl⟩
  rw [hC] at hbm hbr
  have HC := Lib.hid hC
  have HRM := Lib.hid (And.intro hbm hbr)
  have kM := Blk.new w8 61 #[.int .i64 m.at_.x, .int .i64 m.at_.y, .int .i64 m.th.lo, .int .i64 m.th.hi]
  have hb9 : Below w8.heap.size w8 (w8.alloc (.cells #[.int .i64 m.at_.x, .int .i64 m.at_.y, .int .i64 m.th.lo, .int .i64 m.th.hi] 61)) := (Below.refl _ w8).alloc (Nat.le_refl _) _
  have K19 := Lib.hid (K18.out.belowS hb9)
  have HB79 := Lib.hid (hb8.trans (hb9.mono hb8.size))
  have HB9 := Lib.hid (HB7.out.trans (HB79.out.mono HB7.out.size))
  clear hq hj hlj hb8 hb9 hbm hbr hC
  go_upto_region 14 with fail
  clear y0 y1 y2 y3 hbl hcap hcx s5 l1 hj0
  generalize w8.alloc (.cells #[.int .i64 m.at_.x, .int .i64 m.at_.y, .int .i64 m.th.lo, .int .i64 m.th.hi] 61) = w9 at *
  have HEA := Lib.hid hea
  clear hea
  have KM9 := Lib.hid kM
  obtain ⟨m0, m1⟩ := (show w9.cell? ⟨w8.heap.size, 0, none⟩ = some (.int .i64 m.at_.x) ∧ w9.cell? ⟨w8.heap.size, 1, none⟩ = some (.int .i64 m.at_.y) from ⟨kM.cell 0, kM.cell 1⟩)
  have lM := kM.lt
  obtain ⟨s0, s1, s2, s3, s4, s5⟩ := skn_cells (S := S) K19.out
  have l1 := K19.out.lt
  have HBO := Lib.hid (wearBounds_any S m.at_ w9 (HS.out.below HB9.out) (HG.out.below HB9.out))
  rw [HPE.out, HC.out, show endB 0 C = C from rfl] at HBO
  clear kM
  go_wp2_with fail
  refine HBO.out.mono ?_
  rintro e w10 ⟨rfl, hb⟩
  have kC := Blk.new w10 27 #[.int .i64 C.lo, .int .i64 C.hi]
  have hb11 : Below w10.heap.size w10 (w10.alloc (.cells #[.int .i64 C.lo, .int .i64 C.hi] 27)) := (Below.refl _ w10).alloc (Nat.le_refl _) _
  have hb911 := hb.trans (hb11.mono hb.size)
  have kM11 := KM9.out.belowS hb911
  have HB711 := Lib.hid (HB79.out.trans (hb911.mono HB79.out.size))
  clear s0 s1 s2 s3 s4 s5 l1 m0 m1 lM hb hb11 hb911 HBO
  go_upto_region 15 with fail
  generalize w10.alloc (.cells #[.int .i64 C.lo, .int .i64 C.hi] 27) = w11 at *
  obtain ⟨c0, c1⟩ := spn_cells kC
  obtain ⟨m2, m3⟩ := (show w11.cell? ⟨w8.heap.size, 2, none⟩ = some (.int .i64 m.th.lo) ∧ w11.cell? ⟨w8.heap.size, 3, none⟩ = some (.int .i64 m.th.hi) from ⟨kM11.cell 2, kM11.cell 3⟩)
  have lC := kC.lt
  have lM := kM11.lt
  obtain ⟨hbm, hbr⟩ := HRM.out
  have t1 : ¬ C.lo < m.th.lo := by omega
  have t2 : ¬ m.th.hi < C.hi := by omega
  have t3 : ¬ C.hi < C.lo := by omega
  clear kC kM11 hbm hbr
  go_wp2_with fail
  exact ⟨⟨j + 1, by have := HLJ.out; omega, rfl, HB711.out⟩, by have := HLJ.out; simp [intOf]; omega⟩
end Go.Proofs.YtoigihmgjacbjaaDoor
