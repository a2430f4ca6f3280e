/- A skin that may be: requireThicknesses, requireSkin, requirePoint return (these texts tell nothing of a skin that may not be). -/
import Derived.Test.YtoigihmgjacbjaaDoorWK
set_option linter.unusedSimpArgs false
namespace Go.Proofs.YtoigihmgjacbjaaDoor
open Go.RowKit

theorem run_equalIn_span (d : Nat) (p q : Spn) (w : World) : (Op.equalIn (d + 2) 27 (.agg #[.int .i64 p.lo, .int .i64 p.hi]) (.agg #[.int .i64 q.lo, .int .i64 q.hi])).run Tryd.prog w = .ok (decide (p = q)) w := by
  rw [run_equalIn_struct w (d + 1) 27 _ _ (by kernel_rfl) (by kernel_rfl)]
  obtain ⟨px, py⟩ := p
  obtain ⟨qx, qy⟩ := q
  by_cases h1 : px = qx <;> by_cases h2 : py = qy
  all_goals simp [Program.fieldsOf, Tryd.underlying27, Op.eqFields, go_sem, h1, h2]
structure SkinOk (S : Skn) : Prop where
  area : AreaOk S.pts S.hs
  steep : 0 ≤ S.steep ∧ S.steep ≤ 1000
  th : isSpanB S.th 0 2000 = true
  few : S.ms.length ≤ 1
  marks : ∀ m ∈ S.ms, mrkOk m
  at_ : ∀ m ∈ S.ms, inAreaM S.pts S.hs m.at_ = true
  thick : ∀ m ∈ S.ms, boundM S m.at_ ≠ nothingS

set_option maxRecDepth 100000 in
set_option maxHeartbeats 8000000 in
theorem requireThick_ok (S : Skn) (w : World) (hS : IsSkn w S) (hg : Laid w) (hok : SkinOk S) :
    Calls Tryd.prog 68 #[.agg #[.slice S.pa S.pts.length S.pc, .slice S.ha S.hs.length S.hc, .int .i64 S.steep, .int .i64 S.th.lo, .int .i64 S.th.hi, .slice S.ma S.ms.length S.mc]] w fun e w' => e = .returned (.tuple #[]) ∧ Below w.heap.size w w' := by
  have k1 := Blk.new w 30 #[.slice S.pa S.pts.length S.pc, .slice S.ha S.hs.length S.hc, .int .i64 S.steep, .int .i64 S.th.lo, .int .i64 S.th.hi, .slice S.ma S.ms.length S.mc]
  have hb1 : Below w.heap.size w (w.alloc (.cells #[.slice S.pa S.pts.length S.pc, .slice S.ha S.hs.length S.hc, .int .i64 S.steep, .int .i64 S.th.lo, .int .i64 S.th.hi, .slice S.ma S.ms.length S.mc] 30)) := (Below.refl _ w).alloc (Nat.le_refl _) _
  have HS := Lib.hid hS
  have HG := Lib.hid hg
  have HOK := Lib.hid hok
  have hlen := hS.ms.len
  clear hS hg hok
  go_enter Tryd.func68, Tryd.ntmps68
  go_upto_region 1 with fail
  generalize (w.alloc (.cells #[.slice S.pa S.pts.length S.pc, .slice S.ha S.hs.length S.hc, .int .i64 S.steep, .int .i64 S.th.lo, .int .i64 S.th.hi, .slice S.ma S.ms.length S.mc] 30)) = w2 at *
  have s5 : w2.cell? ⟨w.heap.size, 5, none⟩ = some (.slice S.ma S.ms.length S.mc) := k1.cell 5
  have l1 := k1.lt
  have HB2 := Lib.hid hb1
  have K1 := Lib.hid k1
  clear k1 hb1
  go_wp2_with fail
  go_loopw [3, 7] (fun _ s7 wr => ∃ j : Nat, j ≤ S.ms.length ∧ s7 = .int .i64 j ∧ Below w2.heap.size w2 wr) (fun _ i _ => S.ms.length - (intOf i).toNat)
  case atStart => exact ⟨0, Nat.zero_le _, rfl, Below.refl _ _⟩
  case round =>
  obtain ⟨j, hj, rfl, hb3⟩ := hrel
  obtain ⟨w3, rfl⟩ : ∃ w3 : World, w3 = wr := ⟨_, rfl⟩
  clear s5 l1
  by_cases hlj : j < S.ms.length
  rotate_left
  · have hlj' : ¬ (j : Int) < (S.ms.length : Int) := by omega
    have HB3 := Lib.hid (HB2.out.trans (hb3.mono HB2.out.size))
    clear hlj hj hb3
    go_wp2_with fail
    go_end0
    exact ⟨rfl, HB3.out⟩
  have hlj' : (j : Int) < (S.ms.length : Int) := by omega
  have hjs : IntKind.i64.wrap ((j : Int) + 1) = ((j + 1 : Nat) : Int) := by rw [IntKind.wrap_i64]; omega
  have hq : S.ms[j]? = some S.ms[j] := List.getElem?_eq_getElem hlj
  obtain ⟨b, off, hea, hbl, hcap, hcx, y0, y1, y2, y3⟩ := ((HS.out.ms.below HB2.out).below hb3).at hq
  have HMK := Lib.hid (HOK.out.marks _ (List.getElem_mem hlj))
  have HTH := Lib.hid (HOK.out.thick _ (List.getElem_mem hlj))
  generalize S.ms[j] = m at *
  simp only [mrkC, List.getElem?_toArray, List.getElem?_cons_zero, List.getElem?_cons_succ] at y0 y1 y2 y3
  have HLJ := Lib.hid hlj
  have kM := Blk.new w3 61 #[.int .i64 m.at_.x, .int .i64 m.at_.y, .int .i64 m.th.lo, .int .i64 m.th.hi]
  have hb4 : Below w3.heap.size w3 (w3.alloc (.cells #[.int .i64 m.at_.x, .int .i64 m.at_.y, .int .i64 m.th.lo, .int .i64 m.th.hi] 61)) := (Below.refl _ w3).alloc (Nat.le_refl _) _
  have h1 := K1.out.belowS (hb3.trans (hb4.mono hb3.size))
  rw [hea] at h1
  have HGB := Lib.hid (hb3.trans (hb4.mono hb3.size))
  clear hq hb3 hj hlj
  go_upto_region 4 with fail
  clear y0 y1 y2 y3 hbl hcap hcx
  generalize w3.alloc (.cells #[.int .i64 m.at_.x, .int .i64 m.at_.y, .int .i64 m.th.lo, .int .i64 m.th.hi] 61) = w4 at *
  have K14 := Lib.hid h1
  have KM4 := Lib.hid kM
  have HB4 := Lib.hid (HB2.out.trans (HGB.out.mono HB2.out.size))
  have HG4 := Lib.hid (HG.out.below HB4.out)
  have hst : ∀ w', Below w4.heap.size w4 w' → (fun w' : World => Below w4.heap.size w4 w' ∧ (w'.cell? ⟨w.heap.size, 0, none⟩ = some (.slice S.pa S.pts.length S.pc) ∧ w'.cell? ⟨w.heap.size, 1, none⟩ = some (.slice S.ha S.hs.length S.hc) ∧ w'.cell? ⟨w.heap.size, 2, none⟩ = some (.int .i64 S.steep) ∧ w'.cell? ⟨w.heap.size, 3, none⟩ = some (.int .i64 S.th.lo) ∧ w'.cell? ⟨w.heap.size, 4, none⟩ = some (.int .i64 S.th.hi) ∧ w'.cell? ⟨w.heap.size, 5, none⟩ = some (.slice (some ⟨b, off, none⟩) S.ms.length S.mc) ∧ w'.cell? ⟨w3.heap.size, 0, none⟩ = some (.int .i64 m.at_.x) ∧ w'.cell? ⟨w3.heap.size, 1, none⟩ = some (.int .i64 m.at_.y) ∧ w'.cell? ⟨w3.heap.size, 2, none⟩ = some (.int .i64 m.th.lo) ∧ w'.cell? ⟨w3.heap.size, 3, none⟩ = some (.int .i64 m.th.hi) ∧ w'.cell? ⟨0, 0, none⟩ = some (.int .i64 0) ∧ w'.cell? ⟨0, 1, none⟩ = some (.int .i64 (-1)))) w' := fun w' hb => by
    have x1 := K14.out.belowS hb
    have xm := KM4.out.belowS hb
    have xg := HG4.out.below hb
    exact ⟨hb, x1.cell 0, x1.cell 1, x1.cell 2, x1.cell 3, x1.cell 4, x1.cell 5, xm.cell 0, xm.cell 1, xm.cell 2, xm.cell 3, xg.1, xg.2.1⟩
  have HSTE := Lib.hid hst
  have hbm := fun w' (hb : Below w4.heap.size w4 w') => bounds_any S m.at_ w' (HS.out.below (HB4.out.trans (hb.mono HB4.out.size))) (HG4.out.below hb) HOK.out.steep HOK.out.marks HMK.out.1
  rw [hea] at hbm
  have HBM := Lib.hid hbm
  have he : ∀ w, (Op.equalIn 10000 27 (.agg #[.int .i64 (boundM S m.at_).lo, .int .i64 (boundM S m.at_).hi]) (.agg #[.int .i64 0, .int .i64 (-1)])).run Tryd.prog w = .ok false w := fun w => by
    have := run_equalIn_span 9998 (boundM S m.at_) nothingS w
    rw [decide_eq_false HTH.out] at this
    exact this
  generalize boundM S m.at_ = A at *
  clear h1 kM hst hb4 hbm
  have hx := HSTE.out w4.drew ((Below.refl _ w4).drew)
  refine wp_region_E 7 (fun w' : World => Below w4.heap.size w4 w' ∧ (w'.cell? ⟨w.heap.size, 0, none⟩ = some (.slice S.pa S.pts.length S.pc) ∧ w'.cell? ⟨w.heap.size, 1, none⟩ = some (.slice S.ha S.hs.length S.hc) ∧ w'.cell? ⟨w.heap.size, 2, none⟩ = some (.int .i64 S.steep) ∧ w'.cell? ⟨w.heap.size, 3, none⟩ = some (.int .i64 S.th.lo) ∧ w'.cell? ⟨w.heap.size, 4, none⟩ = some (.int .i64 S.th.hi) ∧ w'.cell? ⟨w.heap.size, 5, none⟩ = some (.slice (some ⟨b, off, none⟩) S.ms.length S.mc) ∧ w'.cell? ⟨w3.heap.size, 0, none⟩ = some (.int .i64 m.at_.x) ∧ w'.cell? ⟨w3.heap.size, 1, none⟩ = some (.int .i64 m.at_.y) ∧ w'.cell? ⟨w3.heap.size, 2, none⟩ = some (.int .i64 m.th.lo) ∧ w'.cell? ⟨w3.heap.size, 3, none⟩ = some (.int .i64 m.th.hi) ∧ w'.cell? ⟨0, 0, none⟩ = some (.int .i64 0) ∧ w'.cell? ⟨0, 1, none⟩ = some (.int .i64 (-1)))) (by kernel_rfl) ?_
  refine E_takeR (i := 0) (oi := _) (v := ?vt10) rfl (by kernel_rfl) (by kernel_rfl) (by kernel_rfl) (by decide) (fun _ _ _ h => h) hx (Or.inl ⟨by rfl, ?yt10⟩) ?rt10
  case yt10 => (intro w' hSw; (try dsimp only at hSw); go_simp; try with_reducible rfl)
  try simp only [Act.put, List.getElem_toArray, List.getElem_cons_zero, List.getElem_cons_succ, List.setIfInBounds_toArray, List.set_cons_zero, List.set_cons_succ]
  refine E_takeR (i := 1) (oi := _) (v := ?vt11) rfl (by kernel_rfl) (by kernel_rfl) (by kernel_rfl) (by decide) (fun _ _ _ h => h) hx (Or.inl ⟨by rfl, ?yt11⟩) ?rt11
  case yt11 => (intro w' hSw; (try dsimp only at hSw); go_simp; try with_reducible rfl)
  try simp only [Act.put, List.getElem_toArray, List.getElem_cons_zero, List.getElem_cons_succ, List.setIfInBounds_toArray, List.set_cons_zero, List.set_cons_succ]
  refine E_takeR (i := 2) (oi := _) (v := ?vt12) rfl (by kernel_rfl) (by kernel_rfl) (by kernel_rfl) (by decide) (fun _ _ _ h => h) hx (Or.inl ⟨by rfl, ?yt12⟩) ?rt12
  case yt12 => (intro w' hSw; (try dsimp only at hSw); go_simp; try with_reducible rfl)
  try simp only [Act.put, List.getElem_toArray, List.getElem_cons_zero, List.getElem_cons_succ, List.setIfInBounds_toArray, List.set_cons_zero, List.set_cons_succ]
  refine E_takeR (i := 4) (oi := _) (v := ?vt13) rfl (by kernel_rfl) (by kernel_rfl) (by kernel_rfl) (by decide) (fun _ _ _ h => h) hx (Or.inl ⟨by rfl, ?yt13⟩) ?rt13
  case yt13 => (intro w' hSw; (try dsimp only at hSw); go_simp; try with_reducible rfl)
  try simp only [Act.put, List.getElem_toArray, List.getElem_cons_zero, List.getElem_cons_succ, List.setIfInBounds_toArray, List.set_cons_zero, List.set_cons_succ]
  refine E_step (i := 3) (o := _) (by kernel_rfl) rfl (fun K hK => ?_)
  go_simp
  refine (HBM.out _ hx.1).mono ?_
  rintro e w5 ⟨rfl, hb5⟩
  (try dsimp only)
  have hb45 : Below w4.heap.size w4 w5 := hx.1.trans (hb5.mono hx.1.size)
  refine hK.out _ _ (fun _ => HSTE.out w5 hb45) ?_
  clear hK K
  try simp only [Act.put, List.getElem_toArray, List.getElem_cons_zero, List.getElem_cons_succ, List.setIfInBounds_toArray, List.set_cons_zero, List.set_cons_succ]
  have hx5 := HSTE.out w5 hb45
  refine E_takeR (i := 5) (oi := _) (v := ?vt14) rfl (by kernel_rfl) (by kernel_rfl) (by kernel_rfl) (by decide) (fun _ _ _ h => h) hx5 (Or.inl ⟨by rfl, ?yt14⟩) ?rt14
  case yt14 => (intro w' hSw; (try dsimp only at hSw); go_simp; try with_reducible rfl)
  try simp only [Act.put, List.getElem_toArray, List.getElem_cons_zero, List.getElem_cons_succ, List.setIfInBounds_toArray, List.set_cons_zero, List.set_cons_succ]
  refine E_step (i := 6) (o := _) (by kernel_rfl) rfl (fun K hK => ?_)
  go_simp
  refine (require_yes 10 _).mono ?_
  rintro e w6 ⟨rfl, hw⟩
  (try dsimp only)
  subst hw
  refine hK.out _ _ (fun _ => hx5) ?_
  clear hK K
  try simp only [Act.put, List.getElem_toArray, List.getElem_cons_zero, List.getElem_cons_succ, List.setIfInBounds_toArray, List.set_cons_zero, List.set_cons_succ]
  refine E_done (by kernel_rfl) ?_ _
  have HB45 := Lib.hid (HGB.out.trans (hb45.mono HGB.out.size))
  clear hx hx5 hb5 hb45 he
  go_wp2_with fail
  exact ⟨⟨j + 1, by have := HLJ.out; omega, rfl, HB45.out⟩, by have := HLJ.out; simp [intOf]; omega⟩

set_option maxRecDepth 100000 in
set_option maxHeartbeats 8000000 in
theorem requireSkin_ok (S : Skn) (w : World) (hS : IsSkn w S) (hg : Laid w) (hok : SkinOk S) :
    Calls Tryd.prog 35 #[.agg #[.slice S.pa S.pts.length S.pc, .slice S.ha S.hs.length S.hc, .int .i64 S.steep, .int .i64 S.th.lo, .int .i64 S.th.hi, .slice S.ma S.ms.length S.mc]] w fun e w' => e = .returned (.tuple #[]) ∧ Below w.heap.size w w' := by
  have k1 := Blk.new w 30 #[.slice S.pa S.pts.length S.pc, .slice S.ha S.hs.length S.hc, .int .i64 S.steep, .int .i64 S.th.lo, .int .i64 S.th.hi, .slice S.ma S.ms.length S.mc]
  have hb1 : Below w.heap.size w (w.alloc (.cells #[.slice S.pa S.pts.length S.pc, .slice S.ha S.hs.length S.hc, .int .i64 S.steep, .int .i64 S.th.lo, .int .i64 S.th.hi, .slice S.ma S.ms.length S.mc] 30)) := (Below.refl _ w).alloc (Nat.le_refl _) _
  have HS := Lib.hid hS
  have HG := Lib.hid hg
  have HOK := Lib.hid hok
  clear hS hg hok
  go_enter Tryd.func35, Tryd.ntmps35
  go_upto_region 1 with fail
  generalize (w.alloc (.cells #[.slice S.pa S.pts.length S.pc, .slice S.ha S.hs.length S.hc, .int .i64 S.steep, .int .i64 S.th.lo, .int .i64 S.th.hi, .slice S.ma S.ms.length S.mc] 30)) = w1 at *
  obtain ⟨s0, s1, s2, s3, s4, s5⟩ := skn_cells (S := S) k1
  have l1 := k1.lt
  have HB1 := Lib.hid hb1
  have K1 := Lib.hid k1
  clear k1 hb1
  go_wp2_with fail
  refine (requireArea_ok S.pa S.pc S.ha S.hc S.pts S.hs _ (HS.out.pts.below HB1.out) (HS.out.hs.below HB1.out) HOK.out.area).mono ?_
  rintro e w2 ⟨rfl, hb⟩
  have HB2 := Lib.hid (HB1.out.trans (hb.mono HB1.out.size))
  have K2 := Lib.hid (K1.out.belowS hb)
  clear s0 s1 s2 s3 s4 s5 l1 hb K1
  obtain ⟨s0, s1, s2, s3, s4, s5⟩ := skn_cells (S := S) K2.out
  have l1 := K2.out.lt
  have HST := Lib.hid (show isFromB S.steep 0 1000 = true by have := HOK.out.steep; rw [isFromB]; simp; omega)
  go_wp2_with fail
  refine (isFrom_any _ _ _ _).mono ?_
  rintro e w3 ⟨rfl, rfl⟩
  rw [HST.out]
  go_wp2_with fail
  refine (areThick_any S.th _).mono ?_
  rintro e w3 ⟨rfl, hb⟩
  rw [HOK.out.th]
  have HB3 := Lib.hid (HB2.out.trans (hb.mono HB2.out.size))
  have K3 := Lib.hid (K2.out.belowS hb)
  clear s0 s1 s2 s3 s4 s5 l1 hb K2
  go_wp2_with fail
  refine (require_yes 1 _).mono ?_
  rintro e w4 ⟨rfl, rfl⟩
  obtain ⟨w3, rfl⟩ : ∃ w3 : World, w3 = w4 := ⟨_, rfl⟩
  obtain ⟨s0, s1, s2, s3, s4, s5⟩ := skn_cells (S := S) K3.out
  have l1 := K3.out.lt
  have hm40 : (S.ms.length : Int) ≤ 40 := by have := HOK.out.few; omega
  go_wp2_with fail
  refine (require_yes 3 _).mono ?_
  rintro e w4 ⟨rfl, rfl⟩
  obtain ⟨w3, rfl⟩ : ∃ w3 : World, w3 = w4 := ⟨_, rfl⟩
  go_wp2_with fail
  go_loopw [3, 24] (fun _ s24 wr => ∃ j : Nat, j ≤ S.ms.length ∧ s24 = .int .i64 j ∧ Below w3.heap.size w3 wr) (fun _ i _ => S.ms.length - (intOf i).toNat)
  case atStart => exact ⟨0, Nat.zero_le _, rfl, Below.refl _ _⟩
  case round =>
  clear s0 s1 s2 s3 s4 s5 l1 hm40
  obtain ⟨j, hj, rfl, hb4⟩ := hrel
  obtain ⟨w4, rfl⟩ : ∃ w4 : World, w4 = wr := ⟨_, rfl⟩
  have K4 := Lib.hid (K3.out.belowS hb4)
  have HB4 := Lib.hid (HB3.out.trans (hb4.mono HB3.out.size))
  by_cases hlj : j < S.ms.length
  · have hlj' : (j : Int) < (S.ms.length : Int) := by omega
    have hjs : IntKind.i64.wrap ((j : Int) + 1) = ((j + 1 : Nat) : Int) := by have := HOK.out.few; rw [IntKind.wrap_i64]; omega
    have hq : S.ms[j]? = some S.ms[j] := List.getElem?_eq_getElem hlj
    obtain ⟨b, off, hea, hbl, hcap, hcx, y0, y1, y2, y3⟩ := (HS.out.ms.below HB4.out).at hq
    have HMK := Lib.hid (HOK.out.marks _ (List.getElem_mem hlj))
    have HAT := Lib.hid (HOK.out.at_ _ (List.getElem_mem hlj))
    generalize S.ms[j] = m at *
    simp only [mrkC, List.getElem?_toArray, List.getElem?_cons_zero, List.getElem?_cons_succ] at y0 y1 y2 y3
    have HLJ := Lib.hid hlj
    have kM := Blk.new w4 61 #[.int .i64 m.at_.x, .int .i64 m.at_.y, .int .i64 m.th.lo, .int .i64 m.th.hi]
    have hb5 : Below w4.heap.size w4 (w4.alloc (.cells #[.int .i64 m.at_.x, .int .i64 m.at_.y, .int .i64 m.th.lo, .int .i64 m.th.hi] 61)) := (Below.refl _ w4).alloc (Nat.le_refl _) _
    have K5 := Lib.hid (K4.out.belowS hb5)
    have HB5 := Lib.hid (HB4.out.trans (hb5.mono HB4.out.size))
    have HB35 := Lib.hid (hb4.trans (hb5.mono hb4.size))
    have s5 : w4.cell? ⟨w.heap.size, 5, none⟩ = some (.slice S.ma S.ms.length S.mc) := K4.out.cell 5
    rw [hea] at s5
    clear hq hj hlj hb4 hb5
    go_upto_region 7 with fail
    clear y0 y1 y2 y3 hbl hcap hcx s5
    generalize w4.alloc (.cells #[.int .i64 m.at_.x, .int .i64 m.at_.y, .int .i64 m.th.lo, .int .i64 m.th.hi] 61) = w5 at *
    obtain ⟨s0, s1⟩ := (show w5.cell? ⟨w.heap.size, 0, none⟩ = some (.slice S.pa S.pts.length S.pc) ∧ w5.cell? ⟨w.heap.size, 1, none⟩ = some (.slice S.ha S.hs.length S.hc) from ⟨K5.out.cell 0, K5.out.cell 1⟩)
    have l1 := K5.out.lt
    have lM := kM.lt
    obtain ⟨y0, y1⟩ := (show w5.cell? ⟨w4.heap.size, 0, none⟩ = some (.int .i64 m.at_.x) ∧ w5.cell? ⟨w4.heap.size, 1, none⟩ = some (.int .i64 m.at_.y) from ⟨kM.cell 0, kM.cell 1⟩)
    have KM5 := Lib.hid kM
    clear kM
    go_wp2_with fail
    refine (isPoint_any S.pa S.pts.length S.pc S.ha S.hc S.pts S.hs m.at_ _ (HS.out.pts.below HB5.out) (by have := HOK.out.area.few; omega) (cornE_ok HOK.out.area.corn) (HS.out.hs.below HB5.out)).mono ?_
    rintro e w6 ⟨rfl, hb⟩
    rw [HAT.out]
    have HB36 := Lib.hid (HB35.out.trans (hb.mono HB35.out.size))
    have kM6 := KM5.out.belowS hb
    obtain ⟨y2, y3⟩ := (show w6.cell? ⟨w4.heap.size, 2, none⟩ = some (.int .i64 m.th.lo) ∧ w6.cell? ⟨w4.heap.size, 3, none⟩ = some (.int .i64 m.th.hi) from ⟨kM6.cell 2, kM6.cell 3⟩)
    have lM6 := kM6.lt
    clear s0 s1 l1 lM y0 y1 hb kM6
    go_wp2_with fail
    refine (require_yes 7 _).mono ?_
    rintro e w7 ⟨rfl, rfl⟩
    go_wp2_with fail
    refine (areThick_any m.th _).mono ?_
    rintro e w8 ⟨rfl, hb⟩
    rw [HMK.out.2]
    have HB38 := Lib.hid (HB36.out.trans (hb.mono HB36.out.size))
    clear y2 y3 lM6 hb
    go_wp2_with fail
    refine (require_yes 1 _).mono ?_
    rintro e w9 ⟨rfl, rfl⟩
    go_wp2_with fail
    rw [hea]
    refine ⟨⟨_, _, _, _, _, _, _, _, _, _, _, _, _, _, _, _, ⟨j + 1, by have := HLJ.out; omega, rfl, HB38.out⟩, rfl⟩, by have := HLJ.out; simp [intOf]; omega⟩
  · have hlj' : ¬ (j : Int) < (S.ms.length : Int) := by omega
    clear hlj hj hb4
    obtain ⟨s0, s1, s2, s3, s4, s5⟩ := skn_cells (S := S) K4.out
    have l1 := K4.out.lt
    go_wp2_with fail
    refine (areInOrder_one S.ma S.mc S.ms.length HOK.out.few _).mono ?_
    rintro e w5 ⟨rfl, rfl⟩
    go_wp2_with fail
    refine (require_yes 8 _).mono ?_
    rintro e w5 ⟨rfl, rfl⟩
    go_wp2_with fail
    refine (requireThick_ok S _ (HS.out.below HB4.out) (HG.out.below HB4.out) HOK.out).mono ?_
    rintro e w5 ⟨rfl, hb⟩
    have HB5 := Lib.hid (HB4.out.trans (hb.mono HB4.out.size))
    clear s0 s1 s2 s3 s4 s5 l1 hb
    go_wp2_with fail
    go_end0
    exact ⟨rfl, HB5.out⟩

set_option maxRecDepth 100000 in
set_option maxHeartbeats 8000000 in
theorem requirePoint_ok (S : Skn) (p : Pnt) (w : World) (hS : IsSkn w S) (hg : Laid w) (hok : SkinOk S) (hp : inAreaM S.pts S.hs p = true) :
    Calls Tryd.prog 41 #[.agg #[.slice S.pa S.pts.length S.pc, .slice S.ha S.hs.length S.hc, .int .i64 S.steep, .int .i64 S.th.lo, .int .i64 S.th.hi, .slice S.ma S.ms.length S.mc], .agg #[.int .i64 p.x, .int .i64 p.y]] w fun e w' => e = .returned (.tuple #[]) ∧ Below w.heap.size w w' := by
  have k1 := (Blk.new w 30 #[.slice S.pa S.pts.length S.pc, .slice S.ha S.hs.length S.hc, .int .i64 S.steep, .int .i64 S.th.lo, .int .i64 S.th.hi, .slice S.ma S.ms.length S.mc]).alloc (.cells #[.int .i64 p.x, .int .i64 p.y] 45)
  have k2 := Blk.new (w.alloc (.cells #[.slice S.pa S.pts.length S.pc, .slice S.ha S.hs.length S.hc, .int .i64 S.steep, .int .i64 S.th.lo, .int .i64 S.th.hi, .slice S.ma S.ms.length S.mc] 30)) 45 #[.int .i64 p.x, .int .i64 p.y]
  rw [World.size_alloc] at k2
  have hb1 : Below w.heap.size w ((w.alloc (.cells #[.slice S.pa S.pts.length S.pc, .slice S.ha S.hs.length S.hc, .int .i64 S.steep, .int .i64 S.th.lo, .int .i64 S.th.hi, .slice S.ma S.ms.length S.mc] 30)).alloc (.cells #[.int .i64 p.x, .int .i64 p.y] 45)) := ((Below.refl _ w).alloc (Nat.le_refl _) _).alloc (by simp) _
  have HS := Lib.hid hS
  have HG := Lib.hid hg
  have HOK := Lib.hid hok
  have HP := Lib.hid hp
  clear hS hg hok hp
  go_enter Tryd.func41, Tryd.ntmps41
  go_upto_region 1 with fail
  generalize ((w.alloc (.cells #[.slice S.pa S.pts.length S.pc, .slice S.ha S.hs.length S.hc, .int .i64 S.steep, .int .i64 S.th.lo, .int .i64 S.th.hi, .slice S.ma S.ms.length S.mc] 30)).alloc (.cells #[.int .i64 p.x, .int .i64 p.y] 45)) = w1 at *
  obtain ⟨s0, s1, s2, s3, s4, s5⟩ := skn_cells (S := S) k1
  have l1 := k1.lt
  have HB1 := Lib.hid hb1
  have K1 := Lib.hid k1
  have K2 := Lib.hid k2
  clear k1 k2 hb1
  go_wp2_with fail
  refine (requireSkin_ok S _ (HS.out.below HB1.out) (HG.out.below HB1.out) HOK.out).mono ?_
  rintro e w2 ⟨rfl, hb⟩
  have HB2 := Lib.hid (HB1.out.trans (hb.mono HB1.out.size))
  have k12 := K1.out.belowS hb
  have k22 := K2.out.belowS hb
  clear s0 s1 s2 s3 s4 s5 l1 hb
  obtain ⟨s0, s1, s2, s3, s4, s5⟩ := skn_cells (S := S) k12
  obtain ⟨p0, p1⟩ := pnt_cells k22
  have l1 := k12.lt
  have l2 := k22.lt
  clear k12 k22
  go_wp2_with fail
  refine (isPoint_any S.pa S.pts.length S.pc S.ha S.hc S.pts S.hs p _ (HS.out.pts.below HB2.out) (by have := HOK.out.area.few; omega) (cornE_ok HOK.out.area.corn) (HS.out.hs.below HB2.out)).mono ?_
  rintro e w3 ⟨rfl, hb⟩
  rw [HP.out]
  have HB3 := Lib.hid (HB2.out.trans (hb.mono HB2.out.size))
  clear s0 s1 s2 s3 s4 s5 l1 l2 p0 p1 hb
  go_wp2_with fail
  refine (require_yes 7 _).mono ?_
  rintro e w4 ⟨rfl, rfl⟩
  go_wp2_with fail
  go_end0
  exact ⟨rfl, HB3.out⟩
end Go.Proofs.YtoigihmgjacbjaaDoor
