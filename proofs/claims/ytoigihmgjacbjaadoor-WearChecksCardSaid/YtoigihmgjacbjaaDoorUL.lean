/- thatchref07.bounds: the bounds of a point. No condition. -/
import Derived.Test.YtoigihmgjacbjaaDoorUE
import Derived.Test.YtoigihmgjacbjaaDoorVA
set_option linter.unusedSimpArgs false
namespace Go.Proofs.YtoigihmgjacbjaaDoor
open Go.RowKit

theorem loF_snoc (st : Int) (p : Pnt) (m : Mrk) : ∀ (t : List Mrk) (a : Int), loF st p a (t ++ [m]) = max (loF st p a t) (m.th.lo - st * distM m.at_ p)
  | [], _ => rfl
  | _ :: t, _ => loF_snoc st p m t _
theorem hiF_snoc (st : Int) (p : Pnt) (m : Mrk) : ∀ (t : List Mrk) (a : Int), hiF st p a (t ++ [m]) = min (hiF st p a t) (m.th.hi + st * distM m.at_ p)
  | [], _ => rfl
  | _ :: t, _ => hiF_snoc st p m t _

set_option maxRecDepth 100000 in
set_option maxHeartbeats 16000000 in
theorem refBounds_any (S : Skn) (p : Pnt) (w : World) (hS : IsSkn w S) (hst : 0 ≤ S.steep ∧ S.steep ≤ 1000) (hm : ∀ m ∈ S.ms, mrkOk m) (hp : pointB p = true) :
    Calls Tryd.prog 50 #[.agg #[.slice S.pa S.pts.length S.pc, .slice S.ha S.hs.length S.hc, .int .i64 S.steep, .int .i64 S.th.lo, .int .i64 S.th.hi, .slice S.ma S.ms.length S.mc], .agg #[.int .i64 p.x, .int .i64 p.y]] w fun e w' => e = .returned (.agg #[.int .i64 (loF S.steep p S.th.lo S.ms), .int .i64 (hiF S.steep p S.th.hi S.ms)]) ∧ Below w.heap.size w w' := by
  have k1 : Blk ((((w.alloc (.cells #[.slice S.pa S.pts.length S.pc, .slice S.ha S.hs.length S.hc, .int .i64 S.steep, .int .i64 S.th.lo, .int .i64 S.th.hi, .slice S.ma S.ms.length S.mc] 30)).alloc (.cells #[.int .i64 p.x, .int .i64 p.y] 45)).alloc (.cells #[.int .i64 0, .int .i64 0] 27)).alloc (.cells #[.int .i64 S.th.lo, .int .i64 S.th.hi] 27)) w.heap.size #[.slice S.pa S.pts.length S.pc, .slice S.ha S.hs.length S.hc, .int .i64 S.steep, .int .i64 S.th.lo, .int .i64 S.th.hi, .slice S.ma S.ms.length S.mc] 30 := (((Blk.new w _ _).alloc _).alloc _).alloc _
  have k2 : Blk ((((w.alloc (.cells #[.slice S.pa S.pts.length S.pc, .slice S.ha S.hs.length S.hc, .int .i64 S.steep, .int .i64 S.th.lo, .int .i64 S.th.hi, .slice S.ma S.ms.length S.mc] 30)).alloc (.cells #[.int .i64 p.x, .int .i64 p.y] 45)).alloc (.cells #[.int .i64 0, .int .i64 0] 27)).alloc (.cells #[.int .i64 S.th.lo, .int .i64 S.th.hi] 27)) (w.heap.size + 1) #[.int .i64 p.x, .int .i64 p.y] 45 := by
    have := ((Blk.new (w.alloc (.cells #[.slice S.pa S.pts.length S.pc, .slice S.ha S.hs.length S.hc, .int .i64 S.steep, .int .i64 S.th.lo, .int .i64 S.th.hi, .slice S.ma S.ms.length S.mc] 30)) 45 #[.int .i64 p.x, .int .i64 p.y]).alloc (.cells #[.int .i64 0, .int .i64 0] 27)).alloc (.cells #[.int .i64 S.th.lo, .int .i64 S.th.hi] 27)
    rwa [World.size_alloc] at this
  have k3 : Blk ((((w.alloc (.cells #[.slice S.pa S.pts.length S.pc, .slice S.ha S.hs.length S.hc, .int .i64 S.steep, .int .i64 S.th.lo, .int .i64 S.th.hi, .slice S.ma S.ms.length S.mc] 30)).alloc (.cells #[.int .i64 p.x, .int .i64 p.y] 45)).alloc (.cells #[.int .i64 0, .int .i64 0] 27)).alloc (.cells #[.int .i64 S.th.lo, .int .i64 S.th.hi] 27)) (w.heap.size + 1 + 1) #[.int .i64 0, .int .i64 0] 27 := by
    have := (Blk.new ((w.alloc (.cells #[.slice S.pa S.pts.length S.pc, .slice S.ha S.hs.length S.hc, .int .i64 S.steep, .int .i64 S.th.lo, .int .i64 S.th.hi, .slice S.ma S.ms.length S.mc] 30)).alloc (.cells #[.int .i64 p.x, .int .i64 p.y] 45)) 27 #[.int .i64 0, .int .i64 0]).alloc (.cells #[.int .i64 S.th.lo, .int .i64 S.th.hi] 27)
    rwa [World.size_alloc, World.size_alloc] at this
  have k4 : Blk ((((w.alloc (.cells #[.slice S.pa S.pts.length S.pc, .slice S.ha S.hs.length S.hc, .int .i64 S.steep, .int .i64 S.th.lo, .int .i64 S.th.hi, .slice S.ma S.ms.length S.mc] 30)).alloc (.cells #[.int .i64 p.x, .int .i64 p.y] 45)).alloc (.cells #[.int .i64 0, .int .i64 0] 27)).alloc (.cells #[.int .i64 S.th.lo, .int .i64 S.th.hi] 27)) (w.heap.size + 1 + 1 + 1) #[.int .i64 S.th.lo, .int .i64 S.th.hi] 27 := by
    have := Blk.new (((w.alloc (.cells #[.slice S.pa S.pts.length S.pc, .slice S.ha S.hs.length S.hc, .int .i64 S.steep, .int .i64 S.th.lo, .int .i64 S.th.hi, .slice S.ma S.ms.length S.mc] 30)).alloc (.cells #[.int .i64 p.x, .int .i64 p.y] 45)).alloc (.cells #[.int .i64 0, .int .i64 0] 27)) 27 #[.int .i64 S.th.lo, .int .i64 S.th.hi]
    rwa [World.size_alloc, World.size_alloc, World.size_alloc] at this
  have hb1 : Below w.heap.size w ((((w.alloc (.cells #[.slice S.pa S.pts.length S.pc, .slice S.ha S.hs.length S.hc, .int .i64 S.steep, .int .i64 S.th.lo, .int .i64 S.th.hi, .slice S.ma S.ms.length S.mc] 30)).alloc (.cells #[.int .i64 p.x, .int .i64 p.y] 45)).alloc (.cells #[.int .i64 0, .int .i64 0] 27)).alloc (.cells #[.int .i64 S.th.lo, .int .i64 S.th.hi] 27)) := ((((Below.refl _ w).alloc (Nat.le_refl _) _).alloc (by simp) _).alloc (by simp; omega) _).alloc (by simp; omega) _
  have HS := Lib.hid hS
  have HM := Lib.hid hm
  have HP := Lib.hid hp
  have HST := Lib.hid hst
  have hlen := hS.ms.len
  clear hS hm hp hst
  go_enter Tryd.func50, Tryd.ntmps50
  go_upto_region 2 with fail
  generalize ((((w.alloc (.cells #[.slice S.pa S.pts.length S.pc, .slice S.ha S.hs.length S.hc, .int .i64 S.steep, .int .i64 S.th.lo, .int .i64 S.th.hi, .slice S.ma S.ms.length S.mc] 30)).alloc (.cells #[.int .i64 p.x, .int .i64 p.y] 45)).alloc (.cells #[.int .i64 0, .int .i64 0] 27)).alloc (.cells #[.int .i64 S.th.lo, .int .i64 S.th.hi] 27)) = w2 at *
  obtain ⟨s0, s1, s2, s3, s4, s5⟩ := skn_cells (S := S) k1
  have l1 := k1.lt
  have HB2 := Lib.hid hb1
  have K1 := Lib.hid k1
  have K2 := Lib.hid k2
  have K3 := Lib.hid k3
  have K4 := Lib.hid k4
  clear k1 k2 k3 k4 hb1
  go_wp2_with fail
  go_loopw [6, 7] (fun s6 s7 wr => ∃ (j : Nat) (A : Spn), j ≤ S.ms.length ∧ s6 = .int .i64 j ∧ (⟨loF S.steep p S.th.lo (S.ms.take j), hiF S.steep p S.th.hi (S.ms.take j)⟩ : Spn) = A ∧ Blk wr w.heap.size #[.slice S.pa S.pts.length S.pc, .slice S.ha S.hs.length S.hc, .int .i64 S.steep, .int .i64 S.th.lo, .int .i64 S.th.hi, .slice S.ma S.ms.length S.mc] 30 ∧ Blk wr (w.heap.size + 1) #[.int .i64 p.x, .int .i64 p.y] 45 ∧ Blk wr (w.heap.size + 1 + 1) #[.int .i64 0, .int .i64 0] 27 ∧ Blk wr (w.heap.size + 1 + 1 + 1) #[.int .i64 A.lo, .int .i64 A.hi] 27 ∧ Below w.heap.size w wr) (fun i _ _ => S.ms.length - (intOf i).toNat)
  case atStart => exact ⟨0, S.th, Nat.zero_le _, rfl, rfl, K1.out, K2.out, K3.out, K4.out, HB2.out⟩
  case round =>
  obtain ⟨j, A, hj, rfl, hA, g1, g2, g3, g4, gb⟩ := hrel
  obtain ⟨w3, rfl⟩ : ∃ w3 : World, w3 = wr := ⟨_, rfl⟩
  clear s0 s1 s2 s3 s4 s5 l1
  obtain ⟨s0, s1, s2, s3, s4, s5⟩ := skn_cells (S := S) g1
  have l1 := g1.lt
  by_cases hlj : j < S.ms.length
  rotate_left
  · obtain rfl : j = S.ms.length := by omega
    have hlj' : ¬ (S.ms.length : Int) < (S.ms.length : Int) := by omega
    rw [List.take_of_length_le (Nat.le_refl _)] at hA
    have HA := Lib.hid hA
    obtain ⟨a0, a1⟩ := spn_cells g4
    obtain ⟨r0, r1⟩ := spn_cells (s := ⟨0, 0⟩) g3
    have z0 := g3.frozen 0
    have z1 := g3.frozen 1
    have l3 := g3.lt
    have l4 := g4.lt
    have HB3 := Lib.hid gb
    have K33 := Lib.hid g3
    clear hA g1 g2 g3 g4 gb hj hlj
    go_wp2_with fail
    have kf := (K33.out.set 0 (.int .i64 A.lo)).set 1 (.int .i64 A.hi)
    have hbf := (HB3.out.setCell (p := ⟨w.heap.size + 1 + 1, 0, none⟩) (by show w.heap.size ≤ w.heap.size + 1 + 1; omega) (.int .i64 A.lo)).setCell (p := ⟨w.heap.size + 1 + 1, 1, none⟩) (by show w.heap.size ≤ w.heap.size + 1 + 1; omega) (.int .i64 A.hi)
    obtain ⟨x0, x1⟩ := spn_cells (s := A) kf
    generalize (w3.setCell ⟨w.heap.size + 1 + 1, 0, none⟩ (.int .i64 A.lo)).setCell ⟨w.heap.size + 1 + 1, 1, none⟩ (.int .i64 A.hi) = wf at *
    exact bodyPost_ret (v := .agg #[.int .i64 A.lo, .int .i64 A.hi]) (by simp [results, Tryd.results50, go_sem, x0, x1]) rfl ⟨by rw [← HA.out], hbf⟩
  have hlj' : (j : Int) < (S.ms.length : Int) := by omega
  have hj0 : (0 : Int) ≤ (j : Int) := Int.natCast_nonneg _
  have hjs : IntKind.i64.wrap ((j : Int) + 1) = ((j + 1 : Nat) : Int) := by rw [IntKind.wrap_i64]; omega
  have hq : S.ms[j]? = some S.ms[j] := List.getElem?_eq_getElem hlj
  obtain ⟨b, off, hea, hbl, hcap, hcx, y0, y1, y2, y3⟩ := HS.out.ms.at hq
  have hmk := HM.out _ (List.getElem_mem hlj)
  have HAN := Lib.hid (show (⟨loF S.steep p S.th.lo (S.ms.take (j + 1)), hiF S.steep p S.th.hi (S.ms.take (j + 1))⟩ : Spn) = ⟨max A.lo (S.ms[j].th.lo - S.steep * distM p S.ms[j].at_), min A.hi (S.ms[j].th.hi + S.steep * distM p S.ms[j].at_)⟩ by
    rw [List.take_add_one, hq]
    simp only [Option.toList]
    rw [loF_snoc, hiF_snoc, dist_comm S.ms[j].at_ p, ← hA])
  generalize S.ms[j] = m at *
  simp only [mrkC, List.getElem?_toArray, List.getElem?_cons_zero, List.getElem?_cons_succ] at y0 y1 y2 y3 hea
  have HMM := Lib.hid hmk
  have HEA := Lib.hid hea
  have HBL := Lib.hid hbl
  have HLJ := Lib.hid hlj
  have hsp := isSpanB_iff.1 hmk.2
  have hd := dist_bd HP.out hmk.1
  have hpr := mul_bd (a := S.steep) (b := distM p m.at_) (m := 1000) (n := 800) (by have := HST.out; omega) (by have := HST.out; omega) (by omega) (by omega)
  obtain ⟨D, hD⟩ : ∃ D, S.steep * distM p m.at_ = D := ⟨_, rfl⟩
  rw [hD] at HAN hpr
  have r1 : IntKind.i64.wrap (S.steep * distM p m.at_) = D := by rw [hD, IntKind.wrap_i64]; omega
  have r2 : IntKind.i64.wrap (m.th.lo - D) = m.th.lo - D := by rw [IntKind.wrap_i64]; omega
  have r3 : IntKind.i64.wrap (m.th.hi + D) = m.th.hi + D := by rw [IntKind.wrap_i64]; omega
  have HYW := Lib.hid (show (w.cell? ⟨b, off + j * 4, none⟩ = some (.int .i64 m.at_.x) ∧ w.cell? ⟨b, off + j * 4 + 1, none⟩ = some (.int .i64 m.at_.y) ∧ w.cell? ⟨b, off + j * 4 + 2, none⟩ = some (.int .i64 m.th.lo) ∧ w.cell? ⟨b, off + j * 4 + 3, none⟩ = some (.int .i64 m.th.hi)) from ⟨y0, y1, y2, y3⟩)
  have K13 := Lib.hid g1
  have K23 := Lib.hid g2
  have K33 := Lib.hid g3
  have K43 := Lib.hid g4
  have HB3 := Lib.hid gb
  have HSZ3 := Lib.hid gb.size
  have e : ∀ o, w3.cell? ⟨b, o, none⟩ = w.cell? ⟨b, o, none⟩ := fun o => gb.cell (p := ⟨b, o, none⟩) hbl
  have HY3 := Lib.hid (show (w3.cell? ⟨b, off + j * 4, none⟩ = some (.int .i64 m.at_.x) ∧ w3.cell? ⟨b, off + j * 4 + 1, none⟩ = some (.int .i64 m.at_.y) ∧ w3.cell? ⟨b, off + j * 4 + 2, none⟩ = some (.int .i64 m.th.lo) ∧ w3.cell? ⟨b, off + j * 4 + 3, none⟩ = some (.int .i64 m.th.hi)) from ⟨(e _).trans y0, (e _).trans y1, (e _).trans y2, (e _).trans y3⟩)
  clear hq hmk hea hbl hcap hcx y0 y1 y2 y3 hsp hd hpr hD g1 g2 g3 g4 gb e hj hlj hA
  have hst3 : ∀ w', Below w3.heap.size w3 w' → (fun w' : World => Below w3.heap.size w3 w' ∧ ((w'.cell? ⟨w.heap.size, 5, none⟩ = some (.slice (some ⟨b, off, none⟩) S.ms.length S.mc) ∧ w'.cell? ⟨w.heap.size, 2, none⟩ = some (.int .i64 S.steep)) ∧ (w'.cell? ⟨w.heap.size + 1, 0, none⟩ = some (.int .i64 p.x) ∧ w'.cell? ⟨w.heap.size + 1, 1, none⟩ = some (.int .i64 p.y)) ∧ (w'.cell? ⟨w.heap.size + 1 + 1 + 1, 0, none⟩ = some (.int .i64 A.lo) ∧ w'.cell? ⟨w.heap.size + 1 + 1 + 1, 1, none⟩ = some (.int .i64 A.hi)) ∧ w'.cell? ⟨b, off + j * 4, none⟩ = some (.int .i64 m.at_.x) ∧ w'.cell? ⟨b, off + j * 4 + 1, none⟩ = some (.int .i64 m.at_.y) ∧ w'.cell? ⟨b, off + j * 4 + 2, none⟩ = some (.int .i64 m.th.lo) ∧ w'.cell? ⟨b, off + j * 4 + 3, none⟩ = some (.int .i64 m.th.hi))) w' := fun w' hb => by
    have y1 := K13.out.belowS hb
    have y2 := K23.out.belowS hb
    have y4 := K43.out.belowS hb
    have e : ∀ o, w'.cell? ⟨b, o, none⟩ = w3.cell? ⟨b, o, none⟩ := fun o => hb.cell (p := ⟨b, o, none⟩) (Nat.lt_of_lt_of_le HBL.out HSZ3.out)
    have y5 : w'.cell? ⟨w.heap.size, 5, none⟩ = some (.slice S.ma S.ms.length S.mc) := y1.cell 5
    rw [HEA.out] at y5
    exact ⟨hb, ⟨y5, y1.cell 2⟩, ⟨y2.cell 0, y2.cell 1⟩, ⟨y4.cell 0, y4.cell 1⟩, (e _).trans HY3.out.1, (e _).trans HY3.out.2.1, (e _).trans HY3.out.2.2.1, (e _).trans HY3.out.2.2.2⟩
  have HST3 := Lib.hid hst3
  clear hst3
  go_upto_region 5 with fail
  clear s0 s1 s2 s3 s4 s5 l1
  have hx := HST3.out w3.drew ((Below.refl _ w3).drew)
  refine wp_region_E 12 (fun w' : World => Below w3.heap.size w3 w' ∧ ((w'.cell? ⟨w.heap.size, 5, none⟩ = some (.slice (some ⟨b, off, none⟩) S.ms.length S.mc) ∧ w'.cell? ⟨w.heap.size, 2, none⟩ = some (.int .i64 S.steep)) ∧ (w'.cell? ⟨w.heap.size + 1, 0, none⟩ = some (.int .i64 p.x) ∧ w'.cell? ⟨w.heap.size + 1, 1, none⟩ = some (.int .i64 p.y)) ∧ (w'.cell? ⟨w.heap.size + 1 + 1 + 1, 0, none⟩ = some (.int .i64 A.lo) ∧ w'.cell? ⟨w.heap.size + 1 + 1 + 1, 1, none⟩ = some (.int .i64 A.hi)) ∧ w'.cell? ⟨b, off + j * 4, none⟩ = some (.int .i64 m.at_.x) ∧ w'.cell? ⟨b, off + j * 4 + 1, none⟩ = some (.int .i64 m.at_.y) ∧ w'.cell? ⟨b, off + j * 4 + 2, none⟩ = some (.int .i64 m.th.lo) ∧ w'.cell? ⟨b, off + j * 4 + 3, none⟩ = some (.int .i64 m.th.hi))) (by kernel_rfl) ?_
  refine E_takeR (i := 0) (oi := _) (v := ?vt10) rfl (by kernel_rfl) (by kernel_rfl) (by kernel_rfl) (by decide) (fun _ _ _ h => h) hx (Or.inl ⟨by rfl, ?yt10⟩) ?rt10
  case yt10 => (intro w' hSw; (try dsimp only at hSw); go_simp; try with_reducible rfl)
  try simp only [Act.put, List.getElem_toArray, List.getElem_cons_zero, List.getElem_cons_succ, List.setIfInBounds_toArray, List.set_cons_zero, List.set_cons_succ]
  refine E_takeR (i := 1) (oi := _) (v := ?vt11) rfl (by kernel_rfl) (by kernel_rfl) (by kernel_rfl) (by decide) (fun _ _ _ h => h) hx (Or.inl ⟨by rfl, ?yt11⟩) ?rt11
  case yt11 => (intro w' hSw; (try dsimp only at hSw); go_simp; try with_reducible rfl)
  try simp only [Act.put, List.getElem_toArray, List.getElem_cons_zero, List.getElem_cons_succ, List.setIfInBounds_toArray, List.set_cons_zero, List.set_cons_succ]
  refine E_takeR (i := 2) (oi := _) (v := ?vt12) rfl (by kernel_rfl) (by kernel_rfl) (by kernel_rfl) (by decide) (fun _ _ _ h => h) hx (Or.inl ⟨by rfl, ?yt12⟩) ?rt12
  case yt12 => (intro w' hSw; (try dsimp only at hSw); go_simp; try with_reducible rfl)
  try simp only [Act.put, List.getElem_toArray, List.getElem_cons_zero, List.getElem_cons_succ, List.setIfInBounds_toArray, List.set_cons_zero, List.set_cons_succ]
  refine E_takeR (i := 3) (oi := _) (v := ?vt13) rfl (by kernel_rfl) (by kernel_rfl) (by kernel_rfl) (by decide) (fun _ _ _ h => h) hx (Or.inl ⟨by rfl, ?yt13⟩) ?rt13
  case yt13 => (intro w' hSw; (try dsimp only at hSw); go_simp; try with_reducible rfl)
  try simp only [Act.put, List.getElem_toArray, List.getElem_cons_zero, List.getElem_cons_succ, List.setIfInBounds_toArray, List.set_cons_zero, List.set_cons_succ]
  refine E_takeR (i := 4) (oi := _) (v := ?vt14) rfl (by kernel_rfl) (by kernel_rfl) (by kernel_rfl) (by decide) (fun _ _ _ h => h) hx (Or.inl ⟨by rfl, ?yt14⟩) ?rt14
  case yt14 => (intro w' hSw; (try dsimp only at hSw); go_simp; try with_reducible rfl)
  try simp only [Act.put, List.getElem_toArray, List.getElem_cons_zero, List.getElem_cons_succ, List.setIfInBounds_toArray, List.set_cons_zero, List.set_cons_succ]
  refine E_takeR (i := 5) (oi := _) (v := ?vt15) rfl (by kernel_rfl) (by kernel_rfl) (by kernel_rfl) (by decide) (fun _ _ _ h => h) hx (Or.inl ⟨by rfl, ?yt15⟩) ?rt15
  case yt15 => (intro w' hSw; (try dsimp only at hSw); go_simp; try with_reducible rfl)
  try simp only [Act.put, List.getElem_toArray, List.getElem_cons_zero, List.getElem_cons_succ, List.setIfInBounds_toArray, List.set_cons_zero, List.set_cons_succ]
  refine E_takeR (i := 6) (oi := _) (v := ?vt16) rfl (by kernel_rfl) (by kernel_rfl) (by kernel_rfl) (by decide) (fun _ _ _ h => h) hx (Or.inl ⟨by rfl, ?yt16⟩) ?rt16
  case yt16 => (intro w' hSw; (try dsimp only at hSw); go_simp; try with_reducible rfl)
  try simp only [Act.put, List.getElem_toArray, List.getElem_cons_zero, List.getElem_cons_succ, List.setIfInBounds_toArray, List.set_cons_zero, List.set_cons_succ]
  refine E_takeR (i := 7) (oi := _) (v := ?vt17) rfl (by kernel_rfl) (by kernel_rfl) (by kernel_rfl) (by decide) (fun _ _ _ h => h) hx (Or.inl ⟨by rfl, ?yt17⟩) ?rt17
  case yt17 => (intro w' hSw; (try dsimp only at hSw); go_simp; try with_reducible rfl)
  try simp only [Act.put, List.getElem_toArray, List.getElem_cons_zero, List.getElem_cons_succ, List.setIfInBounds_toArray, List.set_cons_zero, List.set_cons_succ]
  refine E_takeR (i := 8) (oi := _) (v := ?vt18) rfl (by kernel_rfl) (by kernel_rfl) (by kernel_rfl) (by decide) (fun _ _ _ h => h) hx (Or.inl ⟨by rfl, ?yt18⟩) ?rt18
  case yt18 => (intro w' hSw; (try dsimp only at hSw); go_simp; try with_reducible rfl)
  try simp only [Act.put, List.getElem_toArray, List.getElem_cons_zero, List.getElem_cons_succ, List.setIfInBounds_toArray, List.set_cons_zero, List.set_cons_succ]
  refine E_step (i := 9) (o := _) (by kernel_rfl) rfl (fun K hK => ?_)
  go_simp
  refine (refFar_any p m.at_ HP.out HMM.out.1 _).mono ?_
  rintro e w4 ⟨rfl, hb4⟩
  (try dsimp only)
  have hb34 : Below w3.heap.size w3 w4 := hx.1.trans (hb4.mono hx.1.size)
  refine hK.out _ _ (fun _ => HST3.out w4 hb34) ?_
  clear hK K
  try simp only [Act.put, List.getElem_toArray, List.getElem_cons_zero, List.getElem_cons_succ, List.setIfInBounds_toArray, List.set_cons_zero, List.set_cons_succ]
  have hx4 := HST3.out w4 hb34
  refine E_takeR (i := 10) (oi := _) (v := ?vt19) rfl (by kernel_rfl) (by kernel_rfl) (by kernel_rfl) (by decide) (fun _ _ _ h => h) hx4 (Or.inl ⟨by rfl, ?yt19⟩) ?rt19
  case yt19 => (intro w' hSw; (try dsimp only at hSw); go_simp; try with_reducible rfl)
  try simp only [Act.put, List.getElem_toArray, List.getElem_cons_zero, List.getElem_cons_succ, List.setIfInBounds_toArray, List.set_cons_zero, List.set_cons_succ]
  refine E_takeR (i := 11) (oi := _) (v := ?vt20) rfl (by kernel_rfl) (by kernel_rfl) (by kernel_rfl) (by decide) (fun _ _ _ h => h) hx4 (Or.inl ⟨by rfl, ?yt20⟩) ?rt20
  case yt20 => (intro w' hSw; (try dsimp only at hSw); go_simp; try with_reducible rfl)
  try simp only [Act.put, List.getElem_toArray, List.getElem_cons_zero, List.getElem_cons_succ, List.setIfInBounds_toArray, List.set_cons_zero, List.set_cons_succ]
  refine E_done (by kernel_rfl) ?_ _
  have hbw := HB3.out.trans (hb34.mono HB3.out.size)
  have K14 := Lib.hid (K13.out.belowS hb34)
  have K24 := Lib.hid (K23.out.belowS hb34)
  have K34 := Lib.hid (K33.out.belowS hb34)
  have K44 := Lib.hid (K43.out.belowS hb34)
  have HB4 := Lib.hid hbw
  have HSZ4 := Lib.hid hbw.size
  have e : ∀ o, w4.cell? ⟨b, o, none⟩ = w.cell? ⟨b, o, none⟩ := fun o => hbw.cell (p := ⟨b, o, none⟩) HBL.out
  have HY4 := Lib.hid (show (w4.cell? ⟨b, off + j * 4, none⟩ = some (.int .i64 m.at_.x) ∧ w4.cell? ⟨b, off + j * 4 + 1, none⟩ = some (.int .i64 m.at_.y) ∧ w4.cell? ⟨b, off + j * 4 + 2, none⟩ = some (.int .i64 m.th.lo) ∧ w4.cell? ⟨b, off + j * 4 + 3, none⟩ = some (.int .i64 m.th.hi)) from ⟨(e _).trans HYW.out.1, (e _).trans HYW.out.2.1, (e _).trans HYW.out.2.2.1, (e _).trans HYW.out.2.2.2⟩)
  clear hx hx4 hb4 hb34 hbw e r1
  have hst4 : ∀ w', Below w4.heap.size w4 w' → (fun w' : World => Below w4.heap.size w4 w' ∧ ((w'.cell? ⟨w.heap.size, 5, none⟩ = some (.slice (some ⟨b, off, none⟩) S.ms.length S.mc) ∧ w'.cell? ⟨w.heap.size, 2, none⟩ = some (.int .i64 S.steep)) ∧ (w'.cell? ⟨w.heap.size + 1, 0, none⟩ = some (.int .i64 p.x) ∧ w'.cell? ⟨w.heap.size + 1, 1, none⟩ = some (.int .i64 p.y)) ∧ (w'.cell? ⟨w.heap.size + 1 + 1 + 1, 0, none⟩ = some (.int .i64 A.lo) ∧ w'.cell? ⟨w.heap.size + 1 + 1 + 1, 1, none⟩ = some (.int .i64 A.hi)) ∧ w'.cell? ⟨b, off + j * 4, none⟩ = some (.int .i64 m.at_.x) ∧ w'.cell? ⟨b, off + j * 4 + 1, none⟩ = some (.int .i64 m.at_.y) ∧ w'.cell? ⟨b, off + j * 4 + 2, none⟩ = some (.int .i64 m.th.lo) ∧ w'.cell? ⟨b, off + j * 4 + 3, none⟩ = some (.int .i64 m.th.hi))) w' := fun w' hb => by
    have y1 := K14.out.belowS hb
    have y2 := K24.out.belowS hb
    have y4 := K44.out.belowS hb
    have e : ∀ o, w'.cell? ⟨b, o, none⟩ = w4.cell? ⟨b, o, none⟩ := fun o => hb.cell (p := ⟨b, o, none⟩) (Nat.lt_of_lt_of_le HBL.out HSZ4.out)
    have y5 : w'.cell? ⟨w.heap.size, 5, none⟩ = some (.slice S.ma S.ms.length S.mc) := y1.cell 5
    rw [HEA.out] at y5
    exact ⟨hb, ⟨y5, y1.cell 2⟩, ⟨y2.cell 0, y2.cell 1⟩, ⟨y4.cell 0, y4.cell 1⟩, (e _).trans HY4.out.1, (e _).trans HY4.out.2.1, (e _).trans HY4.out.2.2.1, (e _).trans HY4.out.2.2.2⟩
  have HST4 := Lib.hid hst4
  clear hst4
  go_upto_region 6 with fail
  have hx := HST4.out w4.drew ((Below.refl _ w4).drew)
  refine wp_region_E 13 (fun w' : World => Below w4.heap.size w4 w' ∧ ((w'.cell? ⟨w.heap.size, 5, none⟩ = some (.slice (some ⟨b, off, none⟩) S.ms.length S.mc) ∧ w'.cell? ⟨w.heap.size, 2, none⟩ = some (.int .i64 S.steep)) ∧ (w'.cell? ⟨w.heap.size + 1, 0, none⟩ = some (.int .i64 p.x) ∧ w'.cell? ⟨w.heap.size + 1, 1, none⟩ = some (.int .i64 p.y)) ∧ (w'.cell? ⟨w.heap.size + 1 + 1 + 1, 0, none⟩ = some (.int .i64 A.lo) ∧ w'.cell? ⟨w.heap.size + 1 + 1 + 1, 1, none⟩ = some (.int .i64 A.hi)) ∧ w'.cell? ⟨b, off + j * 4, none⟩ = some (.int .i64 m.at_.x) ∧ w'.cell? ⟨b, off + j * 4 + 1, none⟩ = some (.int .i64 m.at_.y) ∧ w'.cell? ⟨b, off + j * 4 + 2, none⟩ = some (.int .i64 m.th.lo) ∧ w'.cell? ⟨b, off + j * 4 + 3, none⟩ = some (.int .i64 m.th.hi))) (by kernel_rfl) ?_
  refine E_take (i := 0) (oi := _) (v := ?vt21) rfl (by kernel_rfl) (by kernel_rfl) (by kernel_rfl) (by kernel_rfl) (fun _ _ _ h => h) hx (Or.inl ⟨by rfl, ?yt21⟩) ?rt21
  case yt21 => (intro w' hSw; (try dsimp only at hSw); go_simp; try with_reducible rfl)
  try simp only [Act.put, List.getElem_toArray, List.getElem_cons_zero, List.getElem_cons_succ, List.setIfInBounds_toArray, List.set_cons_zero, List.set_cons_succ]
  refine E_take (i := 1) (oi := _) (v := ?vt22) rfl (by kernel_rfl) (by kernel_rfl) (by kernel_rfl) (by kernel_rfl) (fun _ _ _ h => h) hx (Or.inl ⟨by rfl, ?yt22⟩) ?rt22
  case yt22 => (intro w' hSw; (try dsimp only at hSw); go_simp; try with_reducible rfl)
  try simp only [Act.put, List.getElem_toArray, List.getElem_cons_zero, List.getElem_cons_succ, List.setIfInBounds_toArray, List.set_cons_zero, List.set_cons_succ]
  refine E_take (i := 2) (oi := _) (v := ?vt23) rfl (by kernel_rfl) (by kernel_rfl) (by kernel_rfl) (by kernel_rfl) (fun _ _ _ h => h) hx (Or.inl ⟨by rfl, ?yt23⟩) ?rt23
  case yt23 => (intro w' hSw; (try dsimp only at hSw); go_simp; try with_reducible rfl)
  try simp only [Act.put, List.getElem_toArray, List.getElem_cons_zero, List.getElem_cons_succ, List.setIfInBounds_toArray, List.set_cons_zero, List.set_cons_succ]
  refine E_take (i := 3) (oi := _) (v := ?vt24) rfl (by kernel_rfl) (by kernel_rfl) (by kernel_rfl) (by kernel_rfl) (fun _ _ _ h => h) hx (Or.inl ⟨by rfl, ?yt24⟩) ?rt24
  case yt24 => (intro w' hSw; (try dsimp only at hSw); go_simp; try with_reducible rfl)
  try simp only [Act.put, List.getElem_toArray, List.getElem_cons_zero, List.getElem_cons_succ, List.setIfInBounds_toArray, List.set_cons_zero, List.set_cons_succ]
  refine E_take (i := 4) (oi := _) (v := ?vt25) rfl (by kernel_rfl) (by kernel_rfl) (by kernel_rfl) (by kernel_rfl) (fun _ _ _ h => h) hx (Or.inl ⟨by rfl, ?yt25⟩) ?rt25
  case yt25 => (intro w' hSw; (try dsimp only at hSw); go_simp; try with_reducible rfl)
  try simp only [Act.put, List.getElem_toArray, List.getElem_cons_zero, List.getElem_cons_succ, List.setIfInBounds_toArray, List.set_cons_zero, List.set_cons_succ]
  refine E_take (i := 5) (oi := _) (v := ?vt26) rfl (by kernel_rfl) (by kernel_rfl) (by kernel_rfl) (by kernel_rfl) (fun _ _ _ h => h) hx (Or.inl ⟨by rfl, ?yt26⟩) ?rt26
  case yt26 => (intro w' hSw; (try dsimp only at hSw); go_simp; try with_reducible rfl)
  try simp only [Act.put, List.getElem_toArray, List.getElem_cons_zero, List.getElem_cons_succ, List.setIfInBounds_toArray, List.set_cons_zero, List.set_cons_succ]
  refine E_take (i := 6) (oi := _) (v := ?vt27) rfl (by kernel_rfl) (by kernel_rfl) (by kernel_rfl) (by kernel_rfl) (fun _ _ _ h => h) hx (Or.inl ⟨by rfl, ?yt27⟩) ?rt27
  case yt27 => (intro w' hSw; (try dsimp only at hSw); go_simp; try with_reducible rfl)
  try simp only [Act.put, List.getElem_toArray, List.getElem_cons_zero, List.getElem_cons_succ, List.setIfInBounds_toArray, List.set_cons_zero, List.set_cons_succ]
  refine E_take (i := 7) (oi := _) (v := ?vt28) rfl (by kernel_rfl) (by kernel_rfl) (by kernel_rfl) (by kernel_rfl) (fun _ _ _ h => h) hx (Or.inl ⟨by rfl, ?yt28⟩) ?rt28
  case yt28 => (intro w' hSw; (try dsimp only at hSw); go_simp; try with_reducible rfl)
  try simp only [Act.put, List.getElem_toArray, List.getElem_cons_zero, List.getElem_cons_succ, List.setIfInBounds_toArray, List.set_cons_zero, List.set_cons_succ]
  refine E_take (i := 8) (oi := _) (v := ?vt29) rfl (by kernel_rfl) (by kernel_rfl) (by kernel_rfl) (by kernel_rfl) (fun _ _ _ h => h) hx (Or.inl ⟨by rfl, ?yt29⟩) ?rt29
  case yt29 => (intro w' hSw; (try dsimp only at hSw); go_simp; try with_reducible rfl)
  try simp only [Act.put, List.getElem_toArray, List.getElem_cons_zero, List.getElem_cons_succ, List.setIfInBounds_toArray, List.set_cons_zero, List.set_cons_succ]
  refine E_take (i := 9) (oi := _) (v := ?vt30) rfl (by kernel_rfl) (by kernel_rfl) (by kernel_rfl) (by kernel_rfl) (fun _ _ _ h => h) hx (Or.inl ⟨by rfl, ?yt30⟩) ?rt30
  case yt30 => (intro w' hSw; (try dsimp only at hSw); go_simp; try with_reducible rfl)
  try simp only [Act.put, List.getElem_toArray, List.getElem_cons_zero, List.getElem_cons_succ, List.setIfInBounds_toArray, List.set_cons_zero, List.set_cons_succ]
  refine E_take (i := 10) (oi := _) (v := ?vt31) rfl (by kernel_rfl) (by kernel_rfl) (by kernel_rfl) (by kernel_rfl) (fun _ _ _ h => h) hx (Or.inl ⟨by rfl, ?yt31⟩) ?rt31
  case yt31 => (intro w' hSw; (try dsimp only at hSw); go_simp; try with_reducible rfl)
  try simp only [Act.put, List.getElem_toArray, List.getElem_cons_zero, List.getElem_cons_succ, List.setIfInBounds_toArray, List.set_cons_zero, List.set_cons_succ]
  refine E_take (i := 11) (oi := _) (v := ?vt32) rfl (by kernel_rfl) (by kernel_rfl) (by kernel_rfl) (by kernel_rfl) (fun _ _ _ h => h) hx (Or.inl ⟨by rfl, ?yt32⟩) ?rt32
  case yt32 => (intro w' hSw; (try dsimp only at hSw); go_simp; try with_reducible rfl)
  try simp only [Act.put, List.getElem_toArray, List.getElem_cons_zero, List.getElem_cons_succ, List.setIfInBounds_toArray, List.set_cons_zero, List.set_cons_succ]
  refine E_take (i := 12) (oi := _) (v := ?vt33) rfl (by kernel_rfl) (by kernel_rfl) (by kernel_rfl) (by kernel_rfl) (fun _ _ _ h => h) hx (Or.inl ⟨by rfl, ?yt33⟩) ?rt33
  case yt33 => (intro w' hSw; (try dsimp only at hSw); go_simp; try with_reducible rfl)
  try simp only [Act.put, List.getElem_toArray, List.getElem_cons_zero, List.getElem_cons_succ, List.setIfInBounds_toArray, List.set_cons_zero, List.set_cons_succ]
  have kd := K44.out.drew
  have z0 := kd.frozen 0
  have x0 : w4.drew.cell? ⟨w.heap.size + 1 + 1 + 1, 0, none⟩ = some (.int .i64 A.lo) := kd.cell 0
  have l4 := kd.lt
  refine E_step (i := 13) (o := _) (by kernel_rfl) rfl (fun K hK => ?_)
  go_simp
  refine hK.out _ _ (fun h => absurd rfl h) ?_
  clear hK K
  try simp only [Act.put, List.getElem_toArray, List.getElem_cons_zero, List.getElem_cons_succ, List.setIfInBounds_toArray, List.set_cons_zero, List.set_cons_succ]
  refine E_done (by kernel_rfl) ?_ _
  clear hx kd z0 x0 l4
  generalize hlL : (if A.lo < m.th.lo - D then m.th.lo - D else A.lo) = L at *
  have HL := Lib.hid (show max A.lo (m.th.lo - D) = L by rw [← hlL]; split <;> omega)
  clear hlL
  have kf := K44.out.set 0 (.int .i64 L)
  have ht : Turn (fun k => k = w.heap.size + 1 + 1 + 1) w4 (w4.setCell ⟨w.heap.size + 1 + 1 + 1, 0, none⟩ (.int .i64 L)) := (Turn.of_below (X := fun k => k = w.heap.size + 1 + 1 + 1) (Below.refl _ w4)).setCell (B := w.heap.size + 1 + 1 + 1) rfl 0 _
  generalize w4.setCell ⟨w.heap.size + 1 + 1 + 1, 0, none⟩ (.int .i64 L) = v at *
  have hbv : Below w.heap.size w v := HB4.out.trans (ht.below HB4.out.size (fun k e => by have := (show k = w.heap.size + 1 + 1 + 1 from e); omega))
  have hbw : Below w.heap.size w v.drew := hbv.drew
  have K15 := Lib.hid (ht.blk K14.out (fun e => by have := (show w.heap.size = w.heap.size + 1 + 1 + 1 from e); omega)).drew
  have K25 := Lib.hid (ht.blk K24.out (fun e => by have := (show w.heap.size + 1 = w.heap.size + 1 + 1 + 1 from e); omega)).drew
  have K35 := Lib.hid (ht.blk K34.out (fun e => by have := (show w.heap.size + 1 + 1 = w.heap.size + 1 + 1 + 1 from e); omega)).drew
  have K45 := Lib.hid (show Blk v.drew (w.heap.size + 1 + 1 + 1) #[.int .i64 L, .int .i64 A.hi] 27 from kf.drew)
  clear kf ht hbv
  generalize v.drew = w5 at *
  have HB5 := Lib.hid hbw
  have HSZ5 := Lib.hid hbw.size
  have e : ∀ o, w5.cell? ⟨b, o, none⟩ = w.cell? ⟨b, o, none⟩ := fun o => hbw.cell (p := ⟨b, o, none⟩) HBL.out
  have HY5 := Lib.hid (show (w5.cell? ⟨b, off + j * 4, none⟩ = some (.int .i64 m.at_.x) ∧ w5.cell? ⟨b, off + j * 4 + 1, none⟩ = some (.int .i64 m.at_.y) ∧ w5.cell? ⟨b, off + j * 4 + 2, none⟩ = some (.int .i64 m.th.lo) ∧ w5.cell? ⟨b, off + j * 4 + 3, none⟩ = some (.int .i64 m.th.hi)) from ⟨(e _).trans HYW.out.1, (e _).trans HYW.out.2.1, (e _).trans HYW.out.2.2.1, (e _).trans HYW.out.2.2.2⟩)
  clear hbw e
  have hst5 : ∀ w', Below w5.heap.size w5 w' → (fun w' : World => Below w5.heap.size w5 w' ∧ ((w'.cell? ⟨w.heap.size, 5, none⟩ = some (.slice (some ⟨b, off, none⟩) S.ms.length S.mc) ∧ w'.cell? ⟨w.heap.size, 2, none⟩ = some (.int .i64 S.steep)) ∧ (w'.cell? ⟨w.heap.size + 1, 0, none⟩ = some (.int .i64 p.x) ∧ w'.cell? ⟨w.heap.size + 1, 1, none⟩ = some (.int .i64 p.y)) ∧ (w'.cell? ⟨w.heap.size + 1 + 1 + 1, 0, none⟩ = some (.int .i64 L) ∧ w'.cell? ⟨w.heap.size + 1 + 1 + 1, 1, none⟩ = some (.int .i64 A.hi)) ∧ w'.cell? ⟨b, off + j * 4, none⟩ = some (.int .i64 m.at_.x) ∧ w'.cell? ⟨b, off + j * 4 + 1, none⟩ = some (.int .i64 m.at_.y) ∧ w'.cell? ⟨b, off + j * 4 + 2, none⟩ = some (.int .i64 m.th.lo) ∧ w'.cell? ⟨b, off + j * 4 + 3, none⟩ = some (.int .i64 m.th.hi))) w' := fun w' hb => by
    have y1 := K15.out.belowS hb
    have y2 := K25.out.belowS hb
    have y4 := K45.out.belowS hb
    have e : ∀ o, w'.cell? ⟨b, o, none⟩ = w5.cell? ⟨b, o, none⟩ := fun o => hb.cell (p := ⟨b, o, none⟩) (Nat.lt_of_lt_of_le HBL.out HSZ5.out)
    have y5 : w'.cell? ⟨w.heap.size, 5, none⟩ = some (.slice S.ma S.ms.length S.mc) := y1.cell 5
    rw [HEA.out] at y5
    exact ⟨hb, ⟨y5, y1.cell 2⟩, ⟨y2.cell 0, y2.cell 1⟩, ⟨y4.cell 0, y4.cell 1⟩, (e _).trans HY5.out.1, (e _).trans HY5.out.2.1, (e _).trans HY5.out.2.2.1, (e _).trans HY5.out.2.2.2⟩
  have HST5 := Lib.hid hst5
  clear hst5
  go_upto_region 7 with fail
  have hx := HST5.out w5.drew ((Below.refl _ w5).drew)
  refine wp_region_E 13 (fun w' : World => Below w5.heap.size w5 w' ∧ ((w'.cell? ⟨w.heap.size, 5, none⟩ = some (.slice (some ⟨b, off, none⟩) S.ms.length S.mc) ∧ w'.cell? ⟨w.heap.size, 2, none⟩ = some (.int .i64 S.steep)) ∧ (w'.cell? ⟨w.heap.size + 1, 0, none⟩ = some (.int .i64 p.x) ∧ w'.cell? ⟨w.heap.size + 1, 1, none⟩ = some (.int .i64 p.y)) ∧ (w'.cell? ⟨w.heap.size + 1 + 1 + 1, 0, none⟩ = some (.int .i64 L) ∧ w'.cell? ⟨w.heap.size + 1 + 1 + 1, 1, none⟩ = some (.int .i64 A.hi)) ∧ w'.cell? ⟨b, off + j * 4, none⟩ = some (.int .i64 m.at_.x) ∧ w'.cell? ⟨b, off + j * 4 + 1, none⟩ = some (.int .i64 m.at_.y) ∧ w'.cell? ⟨b, off + j * 4 + 2, none⟩ = some (.int .i64 m.th.lo) ∧ w'.cell? ⟨b, off + j * 4 + 3, none⟩ = some (.int .i64 m.th.hi))) (by kernel_rfl) ?_
  refine E_take (i := 0) (oi := _) (v := ?vt34) rfl (by kernel_rfl) (by kernel_rfl) (by kernel_rfl) (by kernel_rfl) (fun _ _ _ h => h) hx (Or.inl ⟨by rfl, ?yt34⟩) ?rt34
  case yt34 => (intro w' hSw; (try dsimp only at hSw); go_simp; try with_reducible rfl)
  try simp only [Act.put, List.getElem_toArray, List.getElem_cons_zero, List.getElem_cons_succ, List.setIfInBounds_toArray, List.set_cons_zero, List.set_cons_succ]
  refine E_take (i := 1) (oi := _) (v := ?vt35) rfl (by kernel_rfl) (by kernel_rfl) (by kernel_rfl) (by kernel_rfl) (fun _ _ _ h => h) hx (Or.inl ⟨by rfl, ?yt35⟩) ?rt35
  case yt35 => (intro w' hSw; (try dsimp only at hSw); go_simp; try with_reducible rfl)
  try simp only [Act.put, List.getElem_toArray, List.getElem_cons_zero, List.getElem_cons_succ, List.setIfInBounds_toArray, List.set_cons_zero, List.set_cons_succ]
  refine E_take (i := 2) (oi := _) (v := ?vt36) rfl (by kernel_rfl) (by kernel_rfl) (by kernel_rfl) (by kernel_rfl) (fun _ _ _ h => h) hx (Or.inl ⟨by rfl, ?yt36⟩) ?rt36
  case yt36 => (intro w' hSw; (try dsimp only at hSw); go_simp; try with_reducible rfl)
  try simp only [Act.put, List.getElem_toArray, List.getElem_cons_zero, List.getElem_cons_succ, List.setIfInBounds_toArray, List.set_cons_zero, List.set_cons_succ]
  refine E_take (i := 3) (oi := _) (v := ?vt37) rfl (by kernel_rfl) (by kernel_rfl) (by kernel_rfl) (by kernel_rfl) (fun _ _ _ h => h) hx (Or.inl ⟨by rfl, ?yt37⟩) ?rt37
  case yt37 => (intro w' hSw; (try dsimp only at hSw); go_simp; try with_reducible rfl)
  try simp only [Act.put, List.getElem_toArray, List.getElem_cons_zero, List.getElem_cons_succ, List.setIfInBounds_toArray, List.set_cons_zero, List.set_cons_succ]
  refine E_take (i := 4) (oi := _) (v := ?vt38) rfl (by kernel_rfl) (by kernel_rfl) (by kernel_rfl) (by kernel_rfl) (fun _ _ _ h => h) hx (Or.inl ⟨by rfl, ?yt38⟩) ?rt38
  case yt38 => (intro w' hSw; (try dsimp only at hSw); go_simp; try with_reducible rfl)
  try simp only [Act.put, List.getElem_toArray, List.getElem_cons_zero, List.getElem_cons_succ, List.setIfInBounds_toArray, List.set_cons_zero, List.set_cons_succ]
  refine E_take (i := 5) (oi := _) (v := ?vt39) rfl (by kernel_rfl) (by kernel_rfl) (by kernel_rfl) (by kernel_rfl) (fun _ _ _ h => h) hx (Or.inl ⟨by rfl, ?yt39⟩) ?rt39
  case yt39 => (intro w' hSw; (try dsimp only at hSw); go_simp; try with_reducible rfl)
  try simp only [Act.put, List.getElem_toArray, List.getElem_cons_zero, List.getElem_cons_succ, List.setIfInBounds_toArray, List.set_cons_zero, List.set_cons_succ]
  refine E_take (i := 6) (oi := _) (v := ?vt40) rfl (by kernel_rfl) (by kernel_rfl) (by kernel_rfl) (by kernel_rfl) (fun _ _ _ h => h) hx (Or.inl ⟨by rfl, ?yt40⟩) ?rt40
  case yt40 => (intro w' hSw; (try dsimp only at hSw); go_simp; try with_reducible rfl)
  try simp only [Act.put, List.getElem_toArray, List.getElem_cons_zero, List.getElem_cons_succ, List.setIfInBounds_toArray, List.set_cons_zero, List.set_cons_succ]
  refine E_take (i := 7) (oi := _) (v := ?vt41) rfl (by kernel_rfl) (by kernel_rfl) (by kernel_rfl) (by kernel_rfl) (fun _ _ _ h => h) hx (Or.inl ⟨by rfl, ?yt41⟩) ?rt41
  case yt41 => (intro w' hSw; (try dsimp only at hSw); go_simp; try with_reducible rfl)
  try simp only [Act.put, List.getElem_toArray, List.getElem_cons_zero, List.getElem_cons_succ, List.setIfInBounds_toArray, List.set_cons_zero, List.set_cons_succ]
  refine E_take (i := 8) (oi := _) (v := ?vt42) rfl (by kernel_rfl) (by kernel_rfl) (by kernel_rfl) (by kernel_rfl) (fun _ _ _ h => h) hx (Or.inl ⟨by rfl, ?yt42⟩) ?rt42
  case yt42 => (intro w' hSw; (try dsimp only at hSw); go_simp; try with_reducible rfl)
  try simp only [Act.put, List.getElem_toArray, List.getElem_cons_zero, List.getElem_cons_succ, List.setIfInBounds_toArray, List.set_cons_zero, List.set_cons_succ]
  refine E_take (i := 9) (oi := _) (v := ?vt43) rfl (by kernel_rfl) (by kernel_rfl) (by kernel_rfl) (by kernel_rfl) (fun _ _ _ h => h) hx (Or.inl ⟨by rfl, ?yt43⟩) ?rt43
  case yt43 => (intro w' hSw; (try dsimp only at hSw); go_simp; try with_reducible rfl)
  try simp only [Act.put, List.getElem_toArray, List.getElem_cons_zero, List.getElem_cons_succ, List.setIfInBounds_toArray, List.set_cons_zero, List.set_cons_succ]
  refine E_take (i := 10) (oi := _) (v := ?vt44) rfl (by kernel_rfl) (by kernel_rfl) (by kernel_rfl) (by kernel_rfl) (fun _ _ _ h => h) hx (Or.inl ⟨by rfl, ?yt44⟩) ?rt44
  case yt44 => (intro w' hSw; (try dsimp only at hSw); go_simp; try with_reducible rfl)
  try simp only [Act.put, List.getElem_toArray, List.getElem_cons_zero, List.getElem_cons_succ, List.setIfInBounds_toArray, List.set_cons_zero, List.set_cons_succ]
  refine E_take (i := 11) (oi := _) (v := ?vt45) rfl (by kernel_rfl) (by kernel_rfl) (by kernel_rfl) (by kernel_rfl) (fun _ _ _ h => h) hx (Or.inl ⟨by rfl, ?yt45⟩) ?rt45
  case yt45 => (intro w' hSw; (try dsimp only at hSw); go_simp; try with_reducible rfl)
  try simp only [Act.put, List.getElem_toArray, List.getElem_cons_zero, List.getElem_cons_succ, List.setIfInBounds_toArray, List.set_cons_zero, List.set_cons_succ]
  refine E_take (i := 12) (oi := _) (v := ?vt46) rfl (by kernel_rfl) (by kernel_rfl) (by kernel_rfl) (by kernel_rfl) (fun _ _ _ h => h) hx (Or.inl ⟨by rfl, ?yt46⟩) ?rt46
  case yt46 => (intro w' hSw; (try dsimp only at hSw); go_simp; try with_reducible rfl)
  try simp only [Act.put, List.getElem_toArray, List.getElem_cons_zero, List.getElem_cons_succ, List.setIfInBounds_toArray, List.set_cons_zero, List.set_cons_succ]
  have kd := K45.out.drew
  have z0 := kd.frozen 1
  have x0 : w5.drew.cell? ⟨w.heap.size + 1 + 1 + 1, 1, none⟩ = some (.int .i64 A.hi) := kd.cell 1
  have l4 := kd.lt
  refine E_step (i := 13) (o := _) (by kernel_rfl) rfl (fun K hK => ?_)
  go_simp
  refine hK.out _ _ (fun h => absurd rfl h) ?_
  clear hK K
  try simp only [Act.put, List.getElem_toArray, List.getElem_cons_zero, List.getElem_cons_succ, List.setIfInBounds_toArray, List.set_cons_zero, List.set_cons_succ]
  refine E_done (by kernel_rfl) ?_ _
  clear hx kd z0 x0 l4
  generalize hlM : (if m.th.hi + D < A.hi then m.th.hi + D else A.hi) = M at *
  have HM' := Lib.hid (show min A.hi (m.th.hi + D) = M by rw [← hlM]; split <;> omega)
  clear hlM
  have kf := K45.out.set 1 (.int .i64 M)
  have ht : Turn (fun k => k = w.heap.size + 1 + 1 + 1) w5 (w5.setCell ⟨w.heap.size + 1 + 1 + 1, 1, none⟩ (.int .i64 M)) := (Turn.of_below (X := fun k => k = w.heap.size + 1 + 1 + 1) (Below.refl _ w5)).setCell (B := w.heap.size + 1 + 1 + 1) rfl 1 _
  generalize w5.setCell ⟨w.heap.size + 1 + 1 + 1, 1, none⟩ (.int .i64 M) = v at *
  have hbv : Below w.heap.size w v := HB5.out.trans (ht.below HB5.out.size (fun k e => by have := (show k = w.heap.size + 1 + 1 + 1 from e); omega))
  have hbw : Below w.heap.size w v.drew := hbv.drew
  have K16 := Lib.hid (ht.blk K15.out (fun e => by have := (show w.heap.size = w.heap.size + 1 + 1 + 1 from e); omega)).drew
  have K26 := Lib.hid (ht.blk K25.out (fun e => by have := (show w.heap.size + 1 = w.heap.size + 1 + 1 + 1 from e); omega)).drew
  have K36 := Lib.hid (ht.blk K35.out (fun e => by have := (show w.heap.size + 1 + 1 = w.heap.size + 1 + 1 + 1 from e); omega)).drew
  have K46 := Lib.hid (show Blk v.drew (w.heap.size + 1 + 1 + 1) #[.int .i64 L, .int .i64 M] 27 from kf.drew)
  clear kf ht hbv
  generalize v.drew = w6 at *
  have HB6 := Lib.hid hbw
  have HSZ6 := Lib.hid hbw.size
  have e : ∀ o, w6.cell? ⟨b, o, none⟩ = w.cell? ⟨b, o, none⟩ := fun o => hbw.cell (p := ⟨b, o, none⟩) HBL.out
  have HY6 := Lib.hid (show (w6.cell? ⟨b, off + j * 4, none⟩ = some (.int .i64 m.at_.x) ∧ w6.cell? ⟨b, off + j * 4 + 1, none⟩ = some (.int .i64 m.at_.y) ∧ w6.cell? ⟨b, off + j * 4 + 2, none⟩ = some (.int .i64 m.th.lo) ∧ w6.cell? ⟨b, off + j * 4 + 3, none⟩ = some (.int .i64 m.th.hi)) from ⟨(e _).trans HYW.out.1, (e _).trans HYW.out.2.1, (e _).trans HYW.out.2.2.1, (e _).trans HYW.out.2.2.2⟩)
  clear hbw e
  go_wp2_with fail
  exact ⟨⟨j + 1, ⟨L, M⟩, by have := HLJ.out; omega, by simp, HAN.out.trans (by rw [HL.out, HM'.out]), K16.out, K26.out, K36.out, K46.out, HB6.out⟩, by have := HLJ.out; simp [intOf]; omega⟩
end Go.Proofs.YtoigihmgjacbjaaDoor
