/- What is required of any skin: it returns, or panics with the skin's first error. No condition but the package's variable. -/
import Derived.Test.YtoigihmgjacbjaaDoorWU
set_option linter.unusedSimpArgs false
namespace Go.Proofs.YtoigihmgjacbjaaDoor
open Go.RowKit

def thickE (S : Skn) : Int := if S.ms.any (fun m => decide (boundM S m.at_ = nothingS)) = true then 10 else 0
theorem thickE_ok {S : Skn} (h : ∀ m ∈ S.ms, boundM S m.at_ ≠ nothingS) : thickE S = 0 := by
  unfold thickE
  rw [if_neg]
  rw [Bool.not_eq_true, List.any_eq_false]
  intro m hm
  simpa using h m hm
theorem thickE_no {S : Skn} {m : Mrk} (hm : m ∈ S.ms) (h : boundM S m.at_ = nothingS) : thickE S = 10 := by
  unfold thickE
  rw [if_pos (List.any_eq_true.2 ⟨m, hm, by simpa using h⟩)]

set_option maxRecDepth 100000 in
set_option maxHeartbeats 8000000 in
theorem requireThick_any (S : Skn) (w : World) (hS : IsSkn w S) (hg : Laid w) (hst0 : 0 ≤ S.steep ∧ S.steep ≤ 1000) (hmk0 : ∀ m ∈ S.ms, mrkOk m) :
    Calls Tryd.prog 68 #[.agg #[.slice S.pa S.pts.length S.pc, .slice S.ha S.hs.length S.hc, .int .i64 S.steep, .int .i64 S.th.lo, .int .i64 S.th.hi, .slice S.ma S.ms.length S.mc]] w (ReqSaid (thickE S) w) := by
  have k1 := Blk.new w 30 #[.slice S.pa S.pts.length S.pc, .slice S.ha S.hs.length S.hc, .int .i64 S.steep, .int .i64 S.th.lo, .int .i64 S.th.hi, .slice S.ma S.ms.length S.mc]
  have hb1 : Below w.heap.size w (w.alloc (.cells #[.slice S.pa S.pts.length S.pc, .slice S.ha S.hs.length S.hc, .int .i64 S.steep, .int .i64 S.th.lo, .int .i64 S.th.hi, .slice S.ma S.ms.length S.mc] 30)) := (Below.refl _ w).alloc (Nat.le_refl _) _
  have HS := Lib.hid hS
  have HG := Lib.hid hg
  have HST0 := Lib.hid hst0
  have HMK0 := Lib.hid hmk0
  have hlen := hS.ms.len
  clear hS hg hst0 hmk0
  go_enter Tryd.func68, Tryd.ntmps68
  go_upto_region 1 with fail
  generalize (w.alloc (.cells #[.slice S.pa S.pts.length S.pc, .slice S.ha S.hs.length S.hc, .int .i64 S.steep, .int .i64 S.th.lo, .int .i64 S.th.hi, .slice S.ma S.ms.length S.mc] 30)) = w2 at *
  have s5 : w2.cell? ⟨w.heap.size, 5, none⟩ = some (.slice S.ma S.ms.length S.mc) := k1.cell 5
  have l1 := k1.lt
  have HB2 := Lib.hid hb1
  have K1 := Lib.hid k1
  clear k1 hb1
  go_wp2_with fail
  go_loopw [3, 7] (fun _ s7 wr => ∃ j : Nat, j ≤ S.ms.length ∧ s7 = .int .i64 j ∧ (∀ m ∈ S.ms.take j, boundM S m.at_ ≠ nothingS) ∧ Below w2.heap.size w2 wr) (fun _ i _ => S.ms.length - (intOf i).toNat)
  case atStart => exact ⟨0, Nat.zero_le _, rfl, by simp, Below.refl _ _⟩
  case round =>
  obtain ⟨j, hj, rfl, hall, hb3⟩ := hrel
  have HALL := Lib.hid hall
  clear hall
  obtain ⟨w3, rfl⟩ : ∃ w3 : World, w3 = wr := ⟨_, rfl⟩
  clear s5 l1
  by_cases hlj : j < S.ms.length
  rotate_left
  · obtain rfl : j = S.ms.length := by omega
    have hlj' : ¬ (S.ms.length : Int) < (S.ms.length : Int) := by omega
    have HB3 := Lib.hid (HB2.out.trans (hb3.mono HB2.out.size))
    have HV := Lib.hid (show thickE S = 0 by
      have h := HALL.out
      rw [List.take_of_length_le (Nat.le_refl _)] at h
      exact thickE_ok h)
    clear hlj hj hb3
    go_wp2_with fail
    go_end0
    exact ⟨.inl ⟨HV.out, rfl⟩, HB3.out⟩
  have hlj' : (j : Int) < (S.ms.length : Int) := by omega
  have hjs : IntKind.i64.wrap ((j : Int) + 1) = ((j + 1 : Nat) : Int) := by rw [IntKind.wrap_i64]; omega
  have hq : S.ms[j]? = some S.ms[j] := List.getElem?_eq_getElem hlj
  obtain ⟨b, off, hea, hbl, hcap, hcx, y0, y1, y2, y3⟩ := ((HS.out.ms.below HB2.out).below hb3).at hq
  have HMK := Lib.hid (HMK0.out _ (List.getElem_mem hlj))
  have HMEM := Lib.hid (List.getElem_mem hlj)
  have HTK := Lib.hid (show S.ms.take (j + 1) = S.ms.take j ++ [S.ms[j]] by rw [List.take_add_one, hq]; rfl)
  generalize S.ms[j] = m at *
  simp only [mrkC, List.getElem?_toArray, List.getElem?_cons_zero, List.getElem?_cons_succ] at y0 y1 y2 y3
  have HLJ := Lib.hid hlj
  have kM := Blk.new w3 61 #[.int .i64 m.at_.x, .int .i64 m.at_.y, .int .i64 m.th.lo, .int .i64 m.th.hi]
  have hb4 : Below w3.heap.size w3 (w3.alloc (.cells #[.int .i64 m.at_.x, .int .i64 m.at_.y, .int .i64 m.th.lo, .int .i64 m.th.hi] 61)) := (Below.refl _ w3).alloc (Nat.le_refl _) _
  have h1 := K1.out.belowS (hb3.trans (hb4.mono hb3.size))
  rw [hea] at h1
  have HGB := Lib.hid (hb3.trans (hb4.mono hb3.size))
  clear hq hb3 hj hlj
  go_upto_region 4 with fail
  clear y0 y1 y2 y3 hbl hcap hcx
  generalize w3.alloc (.cells #[.int .i64 m.at_.x, .int .i64 m.at_.y, .int .i64 m.th.lo, .int .i64 m.th.hi] 61) = w4 at *
  have K14 := Lib.hid h1
  have KM4 := Lib.hid kM
  have HB4 := Lib.hid (HB2.out.trans (HGB.out.mono HB2.out.size))
  have HG4 := Lib.hid (HG.out.below HB4.out)
  have hst : ∀ w', Below w4.heap.size w4 w' → (fun w' : World => Below w4.heap.size w4 w' ∧ (w'.cell? ⟨w.heap.size, 0, none⟩ = some (.slice S.pa S.pts.length S.pc) ∧ w'.cell? ⟨w.heap.size, 1, none⟩ = some (.slice S.ha S.hs.length S.hc) ∧ w'.cell? ⟨w.heap.size, 2, none⟩ = some (.int .i64 S.steep) ∧ w'.cell? ⟨w.heap.size, 3, none⟩ = some (.int .i64 S.th.lo) ∧ w'.cell? ⟨w.heap.size, 4, none⟩ = some (.int .i64 S.th.hi) ∧ w'.cell? ⟨w.heap.size, 5, none⟩ = some (.slice (some ⟨b, off, none⟩) S.ms.length S.mc) ∧ w'.cell? ⟨w3.heap.size, 0, none⟩ = some (.int .i64 m.at_.x) ∧ w'.cell? ⟨w3.heap.size, 1, none⟩ = some (.int .i64 m.at_.y) ∧ w'.cell? ⟨w3.heap.size, 2, none⟩ = some (.int .i64 m.th.lo) ∧ w'.cell? ⟨w3.heap.size, 3, none⟩ = some (.int .i64 m.th.hi) ∧ w'.cell? ⟨0, 0, none⟩ = some (.int .i64 0) ∧ w'.cell? ⟨0, 1, none⟩ = some (.int .i64 (-1)))) w' := fun w' hb => by
    have x1 := K14.out.belowS hb
    have xm := KM4.out.belowS hb
    have xg := HG4.out.below hb
    exact ⟨hb, x1.cell 0, x1.cell 1, x1.cell 2, x1.cell 3, x1.cell 4, x1.cell 5, xm.cell 0, xm.cell 1, xm.cell 2, xm.cell 3, xg.1, xg.2.1⟩
  have HSTE := Lib.hid hst
  have hbm := fun w' (hb : Below w4.heap.size w4 w') => bounds_any S m.at_ w' (HS.out.below (HB4.out.trans (hb.mono HB4.out.size))) (HG4.out.below hb) HST0.out HMK0.out HMK.out.1
  rw [hea] at hbm
  have HBM := Lib.hid hbm
  obtain ⟨bb, hbb⟩ : ∃ bb : Bool, decide (boundM S m.at_ = nothingS) = bb := ⟨_, rfl⟩
  have HBB := Lib.hid hbb
  have he : ∀ w, (Op.equalIn 10000 27 (.agg #[.int .i64 (boundM S m.at_).lo, .int .i64 (boundM S m.at_).hi]) (.agg #[.int .i64 0, .int .i64 (-1)])).run Tryd.prog w = .ok bb w := fun w => by
    have := run_equalIn_span 9998 (boundM S m.at_) nothingS w
    rw [hbb] at this
    exact this
  clear hbb
  have HAA := Lib.hid (show boundM S m.at_ = boundM S m.at_ from rfl)
  obtain ⟨A, hA⟩ : ∃ A, boundM S m.at_ = A := ⟨_, rfl⟩
  rw [hA] at hbm HBM HBB
  simp only [hA] at he
  have HA := Lib.hid hA
  clear hA HAA
  clear h1 kM hst hb4 hbm
  have hx := HSTE.out w4.drew ((Below.refl _ w4).drew)
  refine wp_region_E 7 (fun w' : World => Below w4.heap.size w4 w' ∧ (w'.cell? ⟨w.heap.size, 0, none⟩ = some (.slice S.pa S.pts.length S.pc) ∧ w'.cell? ⟨w.heap.size, 1, none⟩ = some (.slice S.ha S.hs.length S.hc) ∧ w'.cell? ⟨w.heap.size, 2, none⟩ = some (.int .i64 S.steep) ∧ w'.cell? ⟨w.heap.size, 3, none⟩ = some (.int .i64 S.th.lo) ∧ w'.cell? ⟨w.heap.size, 4, none⟩ = some (.int .i64 S.th.hi) ∧ w'.cell? ⟨w.heap.size, 5, none⟩ = some (.slice (some ⟨b, off, none⟩) S.ms.length S.mc) ∧ w'.cell? ⟨w3.heap.size, 0, none⟩ = some (.int .i64 m.at_.x) ∧ w'.cell? ⟨w3.heap.size, 1, none⟩ = some (.int .i64 m.at_.y) ∧ w'.cell? ⟨w3.heap.size, 2, none⟩ = some (.int .i64 m.th.lo) ∧ w'.cell? ⟨w3.heap.size, 3, none⟩ = some (.int .i64 m.th.hi) ∧ w'.cell? ⟨0, 0, none⟩ = some (.int .i64 0) ∧ w'.cell? ⟨0, 1, none⟩ = some (.int .i64 (-1)))) (by kernel_rfl) ?_
  refine E_takeR (i := 0) (oi := _) (v := ?vt10) rfl (by kernel_rfl) (by kernel_rfl) (by kernel_rfl) (by decide) (fun _ _ _ h => h) hx (Or.inl ⟨by rfl, ?yt10⟩) ?rt10
  case yt10 => (intro w' hSw; (try dsimp only at hSw); go_simp; try with_reducible rfl)
  try simp only [Act.put, List.getElem_toArray, List.getElem_cons_zero, List.getElem_cons_succ, List.setIfInBounds_toArray, List.set_cons_zero, List.set_cons_succ]
  refine E_takeR (i := 1) (oi := _) (v := ?vt11) rfl (by kernel_rfl) (by kernel_rfl) (by kernel_rfl) (by decide) (fun _ _ _ h => h) hx (Or.inl ⟨by rfl, ?yt11⟩) ?rt11
  case yt11 => (intro w' hSw; (try dsimp only at hSw); go_simp; try with_reducible rfl)
  try simp only [Act.put, List.getElem_toArray, List.getElem_cons_zero, List.getElem_cons_succ, List.setIfInBounds_toArray, List.set_cons_zero, List.set_cons_succ]
  refine E_takeR (i := 2) (oi := _) (v := ?vt12) rfl (by kernel_rfl) (by kernel_rfl) (by kernel_rfl) (by decide) (fun _ _ _ h => h) hx (Or.inl ⟨by rfl, ?yt12⟩) ?rt12
  case yt12 => (intro w' hSw; (try dsimp only at hSw); go_simp; try with_reducible rfl)
  try simp only [Act.put, List.getElem_toArray, List.getElem_cons_zero, List.getElem_cons_succ, List.setIfInBounds_toArray, List.set_cons_zero, List.set_cons_succ]
  refine E_takeR (i := 4) (oi := _) (v := ?vt13) rfl (by kernel_rfl) (by kernel_rfl) (by kernel_rfl) (by decide) (fun _ _ _ h => h) hx (Or.inl ⟨by rfl, ?yt13⟩) ?rt13
  case yt13 => (intro w' hSw; (try dsimp only at hSw); go_simp; try with_reducible rfl)
  try simp only [Act.put, List.getElem_toArray, List.getElem_cons_zero, List.getElem_cons_succ, List.setIfInBounds_toArray, List.set_cons_zero, List.set_cons_succ]
  refine E_step (i := 3) (o := _) (by kernel_rfl) rfl (fun K hK => ?_)
  go_simp
  refine (HBM.out _ hx.1).mono ?_
  rintro e w5 ⟨rfl, hb5⟩
  (try dsimp only)
  have hb45 : Below w4.heap.size w4 w5 := hx.1.trans (hb5.mono hx.1.size)
  refine hK.out _ _ (fun _ => HSTE.out w5 hb45) ?_
  clear hK K
  try simp only [Act.put, List.getElem_toArray, List.getElem_cons_zero, List.getElem_cons_succ, List.setIfInBounds_toArray, List.set_cons_zero, List.set_cons_succ]
  have hx5 := HSTE.out w5 hb45
  refine E_takeR (i := 5) (oi := _) (v := ?vt14) rfl (by kernel_rfl) (by kernel_rfl) (by kernel_rfl) (by decide) (fun _ _ _ h => h) hx5 (Or.inl ⟨by rfl, ?yt14⟩) ?rt14
  case yt14 => (intro w' hSw; (try dsimp only at hSw); go_simp; try with_reducible rfl)
  try simp only [Act.put, List.getElem_toArray, List.getElem_cons_zero, List.getElem_cons_succ, List.setIfInBounds_toArray, List.set_cons_zero, List.set_cons_succ]
  cases bb with
  | false =>
    have HB45 := Lib.hid (HGB.out.trans (hb45.mono HGB.out.size))
    have HN := Lib.hid (show boundM S m.at_ ≠ nothingS by rw [HA.out]; exact of_decide_eq_false HBB.out)
    refine E_step (i := 6) (o := _) (by kernel_rfl) rfl (fun K hK => ?_)
    go_simp
    refine (require_yes 10 _).mono ?_
    rintro e w6 ⟨rfl, hw⟩
    (try dsimp only)
    subst hw
    refine hK.out _ _ (fun _ => hx5) ?_
    clear hK K
    try simp only [Act.put, List.getElem_toArray, List.getElem_cons_zero, List.getElem_cons_succ, List.setIfInBounds_toArray, List.set_cons_zero, List.set_cons_succ]
    refine E_done (by kernel_rfl) ?_ _
    clear hx hx5 hb5 hb45 he
    go_wp2_with fail
    refine ⟨⟨j + 1, by have := HLJ.out; omega, rfl, ?_, HB45.out⟩, by have := HLJ.out; simp [intOf]; omega⟩
    intro y hy
    rw [HTK.out] at hy
    rcases List.mem_append.1 hy with hy | hy
    · exact HALL.out y hy
    · obtain rfl := List.mem_singleton.1 hy
      exact HN.out
  | true =>
    have HV := Lib.hid (show thickE S = 10 from thickE_no HMEM.out (by rw [HA.out]; exact of_decide_eq_true HBB.out))
    have HB45 := Lib.hid (HB4.out.trans (hb45.mono HB4.out.size))
    refine E_step (i := 6) (o := _) (by kernel_rfl) rfl (fun K hK => ?_)
    go_simp
    refine (require_no 10 _).mono ?_
    rintro e w6 ⟨rfl, hw⟩
    (try dsimp only)
    subst hw
    exact ⟨rfl, .inr ⟨by rw [HV.out]; decide, by rw [HV.out]⟩, HB45.out⟩
end Go.Proofs.YtoigihmgjacbjaaDoor
