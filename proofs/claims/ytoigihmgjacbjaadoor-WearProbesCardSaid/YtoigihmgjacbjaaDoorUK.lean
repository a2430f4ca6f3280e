/- thatchref07.Check: the first error of a skin. No condition. -/
import Derived.Test.YtoigihmgjacbjaaDoorUH
import Derived.Test.YtoigihmgjacbjaaDoorUJ
set_option linter.unusedSimpArgs false
namespace Go.Proofs.YtoigihmgjacbjaaDoor
open Go.RowKit

theorem areaE_bad {l : List Pnt} {hs : List Hol} (h : outE l ≠ 0) : areaE l hs = outE l := by
  unfold outE at h ⊢
  unfold areaE
  by_cases h1 : isFromB (l.length : Int) 3 12 = false
  · rw [if_pos h1, if_pos h1]
  · rw [if_neg h1] at h
    rw [if_neg h1, if_neg h1, if_pos h]
theorem areaE_good {l : List Pnt} {hs : List Hol} (h : outE l = 0) : areaE l hs = if 6 < hs.length then 3 else if hs.all holB = false then 1 else 0 := by
  unfold outE at h
  unfold areaE
  by_cases h1 : isFromB (l.length : Int) 3 12 = false
  · rw [if_pos h1] at h; omega
  · rw [if_neg h1] at h
    rw [if_neg h1, if_neg (by rw [h]; decide)]
theorem outE_good {l : List Pnt} (h : outE l = 0) : l.length ≤ 1000 ∧ okPts4 l := by
  unfold outE at h
  by_cases h1 : isFromB (l.length : Int) 3 12 = false
  · rw [if_pos h1] at h; omega
  · rw [if_neg h1] at h
    exact ⟨by simp [isFromB] at h1; omega, cornE_ok h⟩
theorem skinE_area_bad {S : Skn} {e : Int} (h : areaE S.pts S.hs = e) (he : ¬ e = 0) : skinE S = e := by
  unfold skinE
  rw [h, if_pos he]
theorem skinE_area_ok {S : Skn} (h : areaE S.pts S.hs = 0) : skinE S = if (isFromB S.steep 0 1000 && isSpanB S.th 0 2000) = false then 1 else if 40 < S.ms.length then 3 else if ¬ markE S.pts S.hs S.ms = 0 then markE S.pts S.hs S.ms else if ordB S.ms = false then 8 else thickE S := by
  unfold skinE
  rw [h, if_neg (by decide)]

set_option maxRecDepth 100000 in
set_option maxHeartbeats 16000000 in
theorem refCheck_any (S : Skn) (w : World) (hS : IsSkn w S) :
    Calls Tryd.prog 23 #[.agg #[.slice S.pa S.pts.length S.pc, .slice S.ha S.hs.length S.hc, .int .i64 S.steep, .int .i64 S.th.lo, .int .i64 S.th.hi, .slice S.ma S.ms.length S.mc]] w fun e w' => e = .returned (.int .i64 (skinE S)) ∧ Below w.heap.size w w' := by
  have k1 := Blk.new w 30 #[.slice S.pa S.pts.length S.pc, .slice S.ha S.hs.length S.hc, .int .i64 S.steep, .int .i64 S.th.lo, .int .i64 S.th.hi, .slice S.ma S.ms.length S.mc]
  have hb1 : Below w.heap.size w (w.alloc (.cells #[.slice S.pa S.pts.length S.pc, .slice S.ha S.hs.length S.hc, .int .i64 S.steep, .int .i64 S.th.lo, .int .i64 S.th.hi, .slice S.ma S.ms.length S.mc] 30)) := (Below.refl _ w).alloc (Nat.le_refl _) _
  have HS := Lib.hid hS
  have hlen := hS.ms.len
  have hlenh := hS.hs.len
  clear hS
  go_enter Tryd.func23, Tryd.ntmps23
  go_upto_region 1 with fail
  generalize (w.alloc (.cells #[.slice S.pa S.pts.length S.pc, .slice S.ha S.hs.length S.hc, .int .i64 S.steep, .int .i64 S.th.lo, .int .i64 S.th.hi, .slice S.ma S.ms.length S.mc] 30)) = w1 at *
  have HB1 := Lib.hid hb1
  have K1 := Lib.hid k1
  clear k1 hb1
  obtain ⟨s0, s1, s2, s3, s4, s5⟩ := skn_cells (S := S) K1.out
  have l1 := K1.out.lt
  go_wp2_with fail
  refine (refOutline_any S.pa S.pc S.pts _ (HS.out.pts.below HB1.out)).mono ?_
  rintro e w2 ⟨rfl, hb⟩
  clear s0 s1 s2 s3 s4 s5 l1
  have HB2 := Lib.hid (HB1.out.trans (hb.mono HB1.out.size))
  have K2 := Lib.hid (K1.out.belowS hb)
  clear hb
  obtain ⟨eo, heo⟩ : ∃ eo, outE S.pts = eo := ⟨_, rfl⟩
  rw [heo]
  by_cases hz : eo = 0
  rotate_left
  · have HV := Lib.hid (skinE_area_bad ((areaE_bad (hs := S.hs) (by rw [heo]; exact hz)).trans heo) hz)
    have hzb : (eo == 0) = false := by rw [beq_eq_false_iff_ne]; exact hz
    have hzn : (eo != 0) = true := by simp [hz]
    clear heo
    go_wp2_with fail
    go_ret
    exact ⟨by rw [HV.out]; rfl, HB2.out⟩
  subst hz
  have HAG := Lib.hid (areaE_good (hs := S.hs) heo)
  have HN := Lib.hid (outE_good heo).1
  have HOK := Lib.hid (outE_good heo).2
  clear heo
  obtain ⟨s0, s1, s2, s3, s4, s5⟩ := skn_cells (S := S) K2.out
  have l1 := K2.out.lt
  by_cases h6 : 6 < S.hs.length
  · have h6' : (6 : Int) < (S.hs.length : Int) := by omega
    have HV := Lib.hid (skinE_area_bad (HAG.out.trans (if_pos h6)) (by decide))
    clear h6
    go_wp2_with fail
    go_ret
    exact ⟨by rw [HV.out]; rfl, HB2.out⟩
  have h6' : ¬ (6 : Int) < (S.hs.length : Int) := by omega
  have HA2 := Lib.hid (HAG.out.trans (if_neg h6))
  clear h6
  go_wp2_with fail
  go_loopw [4, 5] (fun s4 s5 wr => ∃ j : Nat, j ≤ S.hs.length ∧ s4 = .int .i64 j ∧ (S.hs.take j).all holB = true ∧ Below w2.heap.size w2 wr) (fun i _ _ => S.hs.length - (intOf i).toNat)
  case atStart => exact ⟨0, Nat.zero_le _, rfl, by simp, Below.refl _ _⟩
  case round =>
  clear s0 s1 s2 s3 s4 s5 l1 h6'
  obtain ⟨j, hj, rfl, hall, hb⟩ := hrel
  obtain ⟨w3, rfl⟩ : ∃ w3 : World, w3 = wr := ⟨_, rfl⟩
  have HB3 := Lib.hid (HB2.out.trans (hb.mono HB2.out.size))
  have HB23 := Lib.hid hb
  have K3 := Lib.hid (K2.out.belowS hb)
  have HALL := Lib.hid hall
  clear hall hb
  obtain ⟨s0, s1, s2, s3, s4, s5⟩ := skn_cells (S := S) K3.out
  have l1 := K3.out.lt
  by_cases hlj : j < S.hs.length
  · have hlj' : (j : Int) < (S.hs.length : Int) := by omega
    have hj0 : (0 : Int) ≤ (j : Int) := Int.natCast_nonneg _
    have hjs : IntKind.i64.wrap ((j : Int) + 1) = ((j + 1 : Nat) : Int) := by rw [IntKind.wrap_i64]; omega
    have hq : S.hs[j]? = some S.hs[j] := List.getElem?_eq_getElem hlj
    obtain ⟨b, off, hea, hbl, hcap, hcx, x0, x1, x2, x3⟩ := (HS.out.below HB3.out).hs.at hq
    have HT := Lib.hid (all_take_succ S.hs holB j _ hq)
    have HBAD := Lib.hid (fun h : holB S.hs[j] = false => show skinE S = 1 from skinE_area_bad (HA2.out.trans (if_pos (List.all_eq_false.2 ⟨_, List.getElem_mem hlj, by rw [h]; decide⟩))) (by decide))
    generalize S.hs[j] = h at *
    simp only [holC, List.getElem?_toArray, List.getElem?_cons_zero, List.getElem?_cons_succ] at x0 x1 x2 x3 hea
    rw [hea] at s1
    have HLJ := Lib.hid hlj
    have hb4 : Below w3.heap.size w3 (w3.alloc (.cells #[.int .i64 h.a.x, .int .i64 h.a.y, .int .i64 h.b.x, .int .i64 h.b.y] 64)) := (Below.refl _ w3).alloc (Nat.le_refl _) _
    have HB4 := Lib.hid (HB3.out.trans (hb4.mono HB3.out.size))
    have HB24 := Lib.hid (HB23.out.trans (hb4.mono HB23.out.size))
    clear hq hlj hj hb4 hea
    by_cases c1 : h.b.x ≤ h.a.x
    · have HV := Lib.hid (HBAD.out (by unfold holB; rw [decide_eq_false (by omega), Bool.false_and]))
      go_wp2_with fail
      go_ret
      exact ⟨by rw [HV.out]; rfl, HB4.out⟩
    by_cases c2 : h.b.y ≤ h.a.y
    · have HV := Lib.hid (HBAD.out (by unfold holB; rw [decide_eq_false (p := h.a.y < h.b.y) (by omega), Bool.and_false]))
      go_wp2_with fail
      go_ret
      exact ⟨by rw [HV.out]; rfl, HB4.out⟩
    have HH := Lib.hid (show holB h = true by unfold holB; rw [decide_eq_true (p := h.a.y < h.b.y) (by omega), decide_eq_true (by omega)]; rfl)
    go_wp2_with fail
    exact ⟨⟨j + 1, by have := HLJ.out; omega, by simp, by rw [HT.out, HALL.out, HH.out]; rfl, HB24.out⟩, by have := HLJ.out; simp [intOf]; omega⟩
  obtain rfl : j = S.hs.length := by omega
  have hlj' : ¬ (S.hs.length : Int) < (S.hs.length : Int) := by omega
  have HAR := Lib.hid (show areaE S.pts S.hs = 0 by
    have h : S.hs.all holB = true := by have := HALL.out; rwa [List.take_of_length_le (Nat.le_refl _)] at this
    exact HA2.out.trans (if_neg (by rw [h]; decide)))
  have HSK := Lib.hid (skinE_area_ok HAR.out)
  clear hlj hj
  go_wp2_with fail
  refine (refIn_any _ _ _ _).mono ?_
  rintro e w4 ⟨rfl, rfl⟩
  obtain ⟨b1, hb1⟩ : ∃ b1, isFromB S.steep 0 1000 = b1 := ⟨_, rfl⟩
  rw [hb1]
  cases b1 with
  | false =>
    have HV := Lib.hid (HSK.out.trans (if_pos (by rw [hb1]; rfl)))
    clear hb1
    go_wp2_with fail
    go_ret
    exact ⟨by rw [HV.out]; rfl, HB3.out⟩
  | true =>
  have HX1 := Lib.hid hb1
  clear hb1
  go_wp2_with fail
  refine (refSpan_any S.th 2000 _).mono ?_
  rintro e w4 ⟨rfl, hb4⟩
  clear s0 s1 s2 s3 s4 s5 l1
  have HB4 := Lib.hid (HB3.out.trans (hb4.mono HB3.out.size))
  have K4 := Lib.hid (K3.out.belowS hb4)
  clear hb4
  obtain ⟨b1, hb1⟩ : ∃ b1, isSpanB S.th 0 2000 = b1 := ⟨_, rfl⟩
  rw [hb1]
  obtain ⟨s0, s1, s2, s3, s4, s5⟩ := skn_cells (S := S) K4.out
  have l1 := K4.out.lt
  cases b1 with
  | false =>
    have HV := Lib.hid (HSK.out.trans (if_pos (by rw [hb1, HX1.out]; rfl)))
    clear hb1
    go_wp2_with fail
    go_ret
    exact ⟨by rw [HV.out]; rfl, HB4.out⟩
  | true =>
  have HX2 := Lib.hid hb1
  have HSK2 := Lib.hid (HSK.out.trans (if_neg (by rw [hb1, HX1.out]; decide)))
  clear hb1
  by_cases h40 : 40 < S.ms.length
  · have h40' : (40 : Int) < (S.ms.length : Int) := by omega
    have HV := Lib.hid (HSK2.out.trans (if_pos h40))
    clear h40
    go_wp2_with fail
    go_ret
    exact ⟨by rw [HV.out]; rfl, HB4.out⟩
  have h40' : ¬ (40 : Int) < (S.ms.length : Int) := by omega
  have HSK3 := Lib.hid (HSK2.out.trans (if_neg h40))
  clear h40
  go_wp2_with fail
  go_loopw [6] (fun s6 wr => ∃ j : Nat, j ≤ S.ms.length ∧ s6 = .int .i64 j ∧ markE S.pts S.hs S.ms = markE S.pts S.hs (S.ms.drop j) ∧ Below w4.heap.size w4 wr) (fun i _ => S.ms.length - (intOf i).toNat)
  case atStart => exact ⟨0, Nat.zero_le _, rfl, rfl, Below.refl _ _⟩
  case round =>
  clear s0 s1 s2 s3 s4 s5 l1
  obtain ⟨j, hj, rfl, hmk, hb⟩ := hrel
  obtain ⟨w5, rfl⟩ : ∃ w5 : World, w5 = wr := ⟨_, rfl⟩
  have HB5 := Lib.hid (HB4.out.trans (hb.mono HB4.out.size))
  have HB45 := Lib.hid hb
  have K5 := Lib.hid (K4.out.belowS hb)
  have HMK := Lib.hid hmk
  clear hmk hb
  obtain ⟨s0, s1, s2, s3, s4, s5⟩ := skn_cells (S := S) K5.out
  have l1 := K5.out.lt
  by_cases hlj : j < S.ms.length
  · have hlj' : (j : Int) < (S.ms.length : Int) := by omega
    have hj0 : (0 : Int) ≤ (j : Int) := Int.natCast_nonneg _
    have hjs : IntKind.i64.wrap ((j : Int) + 1) = ((j + 1 : Nat) : Int) := by rw [IntKind.wrap_i64]; omega
    have hq : S.ms[j]? = some S.ms[j] := List.getElem?_eq_getElem hlj
    obtain ⟨b, off, hea, hbl, hcap, hcx, x0, x1, x2, x3⟩ := (HS.out.below HB5.out).ms.at hq
    have HMD := Lib.hid (HMK.out.trans (markE_drop (l := S.pts) (hs := S.hs) hq))
    generalize S.ms[j] = m at *
    simp only [mrkC, List.getElem?_toArray, List.getElem?_cons_zero, List.getElem?_cons_succ] at x0 x1 x2 x3 hea
    rw [hea] at s5
    have HLJ := Lib.hid hlj
    have HBAD := Lib.hid (fun (e : Int) (h : markE S.pts S.hs S.ms = e) (he : ¬ e = 0) => show skinE S = e from HSK3.out.trans (by rw [h, if_pos he]))
    have HBL := Lib.hid hbl
    have hst : ∀ w', Below w5.heap.size w5 w' → (fun w' : World => Below w5.heap.size w5 w' ∧ ((w'.cell? ⟨w.heap.size, 0, none⟩ = some (.slice S.pa S.pts.length S.pc) ∧ w'.cell? ⟨w.heap.size, 1, none⟩ = some (.slice S.ha S.hs.length S.hc) ∧ w'.cell? ⟨w.heap.size, 5, none⟩ = some (.slice (some ⟨b, off, none⟩) S.ms.length S.mc)) ∧ w'.cell? ⟨b, off + j * 4, none⟩ = some (.int .i64 m.at_.x) ∧ w'.cell? ⟨b, off + j * 4 + 1, none⟩ = some (.int .i64 m.at_.y))) w' := fun w' hb => by
      have y := K5.out.belowS hb
      have e : ∀ o, w'.cell? ⟨b, o, none⟩ = w5.cell? ⟨b, o, none⟩ := fun o => hb.cell (p := ⟨b, o, none⟩) HBL.out
      have y5 : w'.cell? ⟨w.heap.size, 5, none⟩ = some (.slice S.ma S.ms.length S.mc) := y.cell 5
      rw [hea] at y5
      exact ⟨hb, ⟨y.cell 0, y.cell 1, y5⟩, (e _).trans x0, (e _).trans x1⟩
    have HST := Lib.hid hst
    have HX23 := Lib.hid (And.intro x2 x3)
    have S5 := Lib.hid s5
    clear hst hq hlj hj hea x0 x1 x2 x3 hbl hcap hcx h40'
    go_upto_region 19 with fail
    clear s0 s1 s2 s3 s4 s5 l1
    have hx := HST.out w5.drew ((Below.refl _ w5).drew)
    refine wp_region_E 10 (fun w' : World => Below w5.heap.size w5 w' ∧ ((w'.cell? ⟨w.heap.size, 0, none⟩ = some (.slice S.pa S.pts.length S.pc) ∧ w'.cell? ⟨w.heap.size, 1, none⟩ = some (.slice S.ha S.hs.length S.hc) ∧ w'.cell? ⟨w.heap.size, 5, none⟩ = some (.slice (some ⟨b, off, none⟩) S.ms.length S.mc)) ∧ w'.cell? ⟨b, off + j * 4, none⟩ = some (.int .i64 m.at_.x) ∧ w'.cell? ⟨b, off + j * 4 + 1, none⟩ = some (.int .i64 m.at_.y))) (by kernel_rfl) ?_
    refine E_takeR (i := 0) (oi := _) (v := ?vt10) rfl (by kernel_rfl) (by kernel_rfl) (by kernel_rfl) (by decide) (fun _ _ _ h => h) hx (Or.inl ⟨by rfl, ?yt10⟩) ?rt10
    case yt10 => (intro w' hSw; (try dsimp only at hSw); go_simp; try with_reducible rfl)
    try simp only [Act.put, List.getElem_toArray, List.getElem_cons_zero, List.getElem_cons_succ, List.setIfInBounds_toArray, List.set_cons_zero, List.set_cons_succ]
    refine E_takeR (i := 1) (oi := _) (v := ?vt11) rfl (by kernel_rfl) (by kernel_rfl) (by kernel_rfl) (by decide) (fun _ _ _ h => h) hx (Or.inl ⟨by rfl, ?yt11⟩) ?rt11
    case yt11 => (intro w' hSw; (try dsimp only at hSw); go_simp; try with_reducible rfl)
    try simp only [Act.put, List.getElem_toArray, List.getElem_cons_zero, List.getElem_cons_succ, List.setIfInBounds_toArray, List.set_cons_zero, List.set_cons_succ]
    refine E_takeR (i := 2) (oi := _) (v := ?vt12) rfl (by kernel_rfl) (by kernel_rfl) (by kernel_rfl) (by decide) (fun _ _ _ h => h) hx (Or.inl ⟨by rfl, ?yt12⟩) ?rt12
    case yt12 => (intro w' hSw; (try dsimp only at hSw); go_simp; try with_reducible rfl)
    try simp only [Act.put, List.getElem_toArray, List.getElem_cons_zero, List.getElem_cons_succ, List.setIfInBounds_toArray, List.set_cons_zero, List.set_cons_succ]
    refine E_takeR (i := 3) (oi := _) (v := ?vt13) rfl (by kernel_rfl) (by kernel_rfl) (by kernel_rfl) (by decide) (fun _ _ _ h => h) hx (Or.inl ⟨by rfl, ?yt13⟩) ?rt13
    case yt13 => (intro w' hSw; (try dsimp only at hSw); go_simp; try with_reducible rfl)
    try simp only [Act.put, List.getElem_toArray, List.getElem_cons_zero, List.getElem_cons_succ, List.setIfInBounds_toArray, List.set_cons_zero, List.set_cons_succ]
    refine E_takeR (i := 4) (oi := _) (v := ?vt14) rfl (by kernel_rfl) (by kernel_rfl) (by kernel_rfl) (by decide) (fun _ _ _ h => h) hx (Or.inl ⟨by rfl, ?yt14⟩) ?rt14
    case yt14 => (intro w' hSw; (try dsimp only at hSw); go_simp; try with_reducible rfl)
    try simp only [Act.put, List.getElem_toArray, List.getElem_cons_zero, List.getElem_cons_succ, List.setIfInBounds_toArray, List.set_cons_zero, List.set_cons_succ]
    refine E_takeR (i := 5) (oi := _) (v := ?vt15) rfl (by kernel_rfl) (by kernel_rfl) (by kernel_rfl) (by decide) (fun _ _ _ h => h) hx (Or.inl ⟨by rfl, ?yt15⟩) ?rt15
    case yt15 => (intro w' hSw; (try dsimp only at hSw); go_simp; try with_reducible rfl)
    try simp only [Act.put, List.getElem_toArray, List.getElem_cons_zero, List.getElem_cons_succ, List.setIfInBounds_toArray, List.set_cons_zero, List.set_cons_succ]
    refine E_takeR (i := 6) (oi := _) (v := ?vt16) rfl (by kernel_rfl) (by kernel_rfl) (by kernel_rfl) (by decide) (fun _ _ _ h => h) hx (Or.inl ⟨by rfl, ?yt16⟩) ?rt16
    case yt16 => (intro w' hSw; (try dsimp only at hSw); go_simp; try with_reducible rfl)
    try simp only [Act.put, List.getElem_toArray, List.getElem_cons_zero, List.getElem_cons_succ, List.setIfInBounds_toArray, List.set_cons_zero, List.set_cons_succ]
    refine E_takeR (i := 7) (oi := _) (v := ?vt17) rfl (by kernel_rfl) (by kernel_rfl) (by kernel_rfl) (by decide) (fun _ _ _ h => h) hx (Or.inl ⟨by rfl, ?yt17⟩) ?rt17
    case yt17 => (intro w' hSw; (try dsimp only at hSw); go_simp; try with_reducible rfl)
    try simp only [Act.put, List.getElem_toArray, List.getElem_cons_zero, List.getElem_cons_succ, List.setIfInBounds_toArray, List.set_cons_zero, List.set_cons_succ]
    refine E_step (i := 8) (o := _) (by kernel_rfl) rfl (fun K hK => ?_)
    go_simp
    refine (refOn_any S.pa S.pc S.ha S.hc S.pts S.hs m.at_ _ ((HS.out.below (HB5.out.trans (hx.1.mono HB5.out.size))).pts) HN.out HOK.out ((HS.out.below (HB5.out.trans (hx.1.mono HB5.out.size))).hs)).mono ?_
    rintro e w6 ⟨rfl, hb6⟩
    (try dsimp only)
    have hb56 : Below w5.heap.size w5 w6 := hx.1.trans (hb6.mono hx.1.size)
    refine hK.out _ _ (fun _ => HST.out w6 hb56) ?_
    clear hK K
    try simp only [Act.put, List.getElem_toArray, List.getElem_cons_zero, List.getElem_cons_succ, List.setIfInBounds_toArray, List.set_cons_zero, List.set_cons_succ]
    have hx6 := HST.out w6 hb56
    refine E_takeR (i := 9) (oi := _) (v := ?vt18) rfl (by kernel_rfl) (by kernel_rfl) (by kernel_rfl) (by decide) (fun _ _ _ h => h) hx6 (Or.inl ⟨by rfl, ?yt18⟩) ?rt18
    case yt18 => (intro w' hSw; (try dsimp only at hSw); go_simp; try with_reducible rfl)
    try simp only [Act.put, List.getElem_toArray, List.getElem_cons_zero, List.getElem_cons_succ, List.setIfInBounds_toArray, List.set_cons_zero, List.set_cons_succ]
    refine E_done (by kernel_rfl) ?_ _
    have HB6 := Lib.hid (HB5.out.trans (hb56.mono HB5.out.size))
    have HB46 := Lib.hid (HB45.out.trans (hb56.mono HB45.out.size))
    have K6 := Lib.hid (K5.out.belowS hb56)
    have x2 : w6.cell? ⟨b, off + j * 4 + 2, none⟩ = some (.int .i64 m.th.lo) := (hb56.cell (p := ⟨b, _, none⟩) HBL.out).trans HX23.out.1
    have x3 : w6.cell? ⟨b, off + j * 4 + 3, none⟩ = some (.int .i64 m.th.hi) := (hb56.cell (p := ⟨b, _, none⟩) HBL.out).trans HX23.out.2
    have y5 : w6.cell? ⟨w.heap.size, 5, none⟩ = some (.slice (some ⟨b, off, none⟩) S.ms.length S.mc) := (hb56.cell (p := ⟨w.heap.size, 5, none⟩) K5.out.lt).trans S5.out
    clear hx hx6 hb6 hb56
    obtain ⟨b1, hb1⟩ : ∃ b1, inAreaM S.pts S.hs m.at_ = b1 := ⟨_, rfl⟩
    rw [hb1]
    cases b1 with
    | false =>
      have HV := Lib.hid (HBAD.out 7 (HMD.out.trans (if_pos hb1)) (by decide))
      clear hb1
      go_wp2_with fail
      go_ret
      exact ⟨by rw [HV.out]; rfl, HB6.out⟩
    | true =>
    have HM2 := Lib.hid (HMD.out.trans (if_neg (by rw [hb1]; decide)))
    clear hb1
    go_wp2_with fail
    refine (refSpan_any m.th 2000 _).mono ?_
    rintro e w7 ⟨rfl, hb7⟩
    clear x2 x3 y5
    have HB7 := Lib.hid (HB6.out.trans (hb7.mono HB6.out.size))
    have HB47 := Lib.hid (HB46.out.trans (hb7.mono HB46.out.size))
    clear hb7
    obtain ⟨b1, hb1⟩ : ∃ b1, isSpanB m.th 0 2000 = b1 := ⟨_, rfl⟩
    rw [hb1]
    cases b1 with
    | false =>
      have HV := Lib.hid (HBAD.out 1 (HM2.out.trans (if_pos hb1)) (by decide))
      clear hb1
      go_wp2_with fail
      go_ret
      exact ⟨by rw [HV.out]; rfl, HB7.out⟩
    | true =>
    have HM3 := Lib.hid (HM2.out.trans (if_neg (by rw [hb1]; decide)))
    clear hb1
    go_wp2_with fail
    exact ⟨⟨j + 1, by have := HLJ.out; omega, by simp, HM3.out, HB47.out⟩, by have := HLJ.out; simp [intOf]; omega⟩
  obtain rfl : j = S.ms.length := by omega
  have hlj' : ¬ (S.ms.length : Int) < (S.ms.length : Int) := by omega
  have hm0 : markE S.pts S.hs S.ms = 0 := HMK.out.trans (by rw [List.drop_of_length_le (Nat.le_refl _)]; rfl)
  have HM0 := Lib.hid hm0
  have HSK4 := Lib.hid (HSK3.out.trans (if_neg (by rw [hm0]; decide)))
  obtain ⟨w4b, rfl⟩ : ∃ w4b : World, w4b = w5 := ⟨_, rfl⟩
  clear hlj hj hm0 h40'
  go_wp2_with fail
  go_loopw [7] (fun s7 wr => ∃ j : Nat, 1 ≤ j ∧ (j ≤ S.ms.length ∨ j = 1) ∧ s7 = .int .i64 j ∧ (∀ (i : Nat) (a b : Mrk), i + 1 < j → S.ms[i]? = some a → S.ms[i + 1]? = some b → pcmp a.at_ b.at_ < 0) ∧ Below w4b.heap.size w4b wr) (fun i _ => S.ms.length - (intOf i).toNat)
  case atStart => exact ⟨1, Nat.le_refl _, .inr rfl, rfl, fun i a b h => by omega, Below.refl _ _⟩
  case round =>
  clear s0 s1 s2 s3 s4 s5 l1
  obtain ⟨j, hj1, hj, rfl, hor, hb⟩ := hrel
  obtain ⟨w5, rfl⟩ : ∃ w5 : World, w5 = wr := ⟨_, rfl⟩
  have HB6 := Lib.hid (HB5.out.trans (hb.mono HB5.out.size))
  have HB45 := Lib.hid hb
  have K6 := Lib.hid (K5.out.belowS hb)
  have HOR := Lib.hid hor
  clear hor hb
  obtain ⟨s0, s1, s2, s3, s4, s5⟩ := skn_cells (S := S) K6.out
  have l1 := K6.out.lt
  by_cases hlj : j < S.ms.length
  · have hlj' : (j : Int) < (S.ms.length : Int) := by omega
    have hj0 : (0 : Int) ≤ (j : Int) := Int.natCast_nonneg _
    have hjs : IntKind.i64.wrap ((j : Int) + 1) = ((j + 1 : Nat) : Int) := by rw [IntKind.wrap_i64]; omega
    obtain ⟨i, hi⟩ : ∃ i, j = i + 1 := ⟨j - 1, by omega⟩
    have hli : i < S.ms.length := by omega
    have hli' : (i : Int) < (S.ms.length : Int) := by omega
    have hi0 : (0 : Int) ≤ (i : Int) := Int.natCast_nonneg _
    have hjm : IntKind.i64.wrap ((j : Int) - 1) = (i : Int) := by rw [IntKind.wrap_i64]; omega
    have hq : S.ms[j]? = some S.ms[j] := List.getElem?_eq_getElem hlj
    have hr : S.ms[i]? = some S.ms[i] := List.getElem?_eq_getElem hli
    obtain ⟨b, off, hea, hbl, hcap, hcx, x0, x1, x2, x3⟩ := (HS.out.below HB6.out).ms.at hq
    obtain ⟨b2, off2, hea2, _, _, _, v0, v1, v2, v3⟩ := (HS.out.below HB6.out).ms.at hr
    rw [hea] at hea2
    simp only [Option.some.injEq, Addr.mk.injEq, and_true] at hea2
    obtain ⟨rfl, rfl⟩ := hea2
    have HQ := Lib.hid hq
    have HR := Lib.hid hr
    have HI := Lib.hid hi
    generalize S.ms[j] = q at *
    generalize S.ms[i] = m at *
    simp only [mrkC, List.getElem?_toArray, List.getElem?_cons_zero, List.getElem?_cons_succ] at x0 x1 x2 x3 v0 v1 v2 v3 hea
    rw [hea] at s5
    have HLJ := Lib.hid hlj
    have HBL := Lib.hid hbl
    have hst : ∀ w', Below w5.heap.size w5 w' → (fun w' : World => Below w5.heap.size w5 w' ∧ ((w'.cell? ⟨w.heap.size, 0, none⟩ = some (.slice S.pa S.pts.length S.pc) ∧ w'.cell? ⟨w.heap.size, 1, none⟩ = some (.slice S.ha S.hs.length S.hc) ∧ w'.cell? ⟨w.heap.size, 5, none⟩ = some (.slice (some ⟨b, off, none⟩) S.ms.length S.mc)) ∧ (w'.cell? ⟨b, off + j * 4, none⟩ = some (.int .i64 q.at_.x) ∧ w'.cell? ⟨b, off + j * 4 + 1, none⟩ = some (.int .i64 q.at_.y)) ∧ w'.cell? ⟨b, off + i * 4, none⟩ = some (.int .i64 m.at_.x) ∧ w'.cell? ⟨b, off + i * 4 + 1, none⟩ = some (.int .i64 m.at_.y))) w' := fun w' hb => by
      have y := K6.out.belowS hb
      have e : ∀ o, w'.cell? ⟨b, o, none⟩ = w5.cell? ⟨b, o, none⟩ := fun o => hb.cell (p := ⟨b, o, none⟩) HBL.out
      have y5 : w'.cell? ⟨w.heap.size, 5, none⟩ = some (.slice S.ma S.ms.length S.mc) := y.cell 5
      rw [hea] at y5
      exact ⟨hb, ⟨y.cell 0, y.cell 1, y5⟩, ⟨(e _).trans x0, (e _).trans x1⟩, (e _).trans v0, (e _).trans v1⟩
    have HST := Lib.hid hst
    clear hst hq hr hi hlj hli hj hj1 hea x0 x1 x2 x3 v0 v1 v2 v3 hbl hcap hcx
    go_upto_region 26 with fail
    clear s0 s1 s2 s3 s4 s5 l1
    have hx := HST.out w5.drew ((Below.refl _ w5).drew)
    refine wp_region_E 15 (fun w' : World => Below w5.heap.size w5 w' ∧ ((w'.cell? ⟨w.heap.size, 0, none⟩ = some (.slice S.pa S.pts.length S.pc) ∧ w'.cell? ⟨w.heap.size, 1, none⟩ = some (.slice S.ha S.hs.length S.hc) ∧ w'.cell? ⟨w.heap.size, 5, none⟩ = some (.slice (some ⟨b, off, none⟩) S.ms.length S.mc)) ∧ (w'.cell? ⟨b, off + j * 4, none⟩ = some (.int .i64 q.at_.x) ∧ w'.cell? ⟨b, off + j * 4 + 1, none⟩ = some (.int .i64 q.at_.y)) ∧ w'.cell? ⟨b, off + i * 4, none⟩ = some (.int .i64 m.at_.x) ∧ w'.cell? ⟨b, off + i * 4 + 1, none⟩ = some (.int .i64 m.at_.y))) (by kernel_rfl) ?_
    refine E_takeR (i := 0) (oi := _) (v := ?vt19) rfl (by kernel_rfl) (by kernel_rfl) (by kernel_rfl) (by decide) (fun _ _ _ h => h) hx (Or.inl ⟨by rfl, ?yt19⟩) ?rt19
    case yt19 => (intro w' hSw; (try dsimp only at hSw); go_simp; try with_reducible rfl)
    try simp only [Act.put, List.getElem_toArray, List.getElem_cons_zero, List.getElem_cons_succ, List.setIfInBounds_toArray, List.set_cons_zero, List.set_cons_succ]
    refine E_takeR (i := 1) (oi := _) (v := ?vt20) rfl (by kernel_rfl) (by kernel_rfl) (by kernel_rfl) (by decide) (fun _ _ _ h => h) hx (Or.inl ⟨by rfl, ?yt20⟩) ?rt20
    case yt20 => (intro w' hSw; (try dsimp only at hSw); go_simp; try with_reducible rfl)
    try simp only [Act.put, List.getElem_toArray, List.getElem_cons_zero, List.getElem_cons_succ, List.setIfInBounds_toArray, List.set_cons_zero, List.set_cons_succ]
    refine E_takeR (i := 2) (oi := _) (v := ?vt21) rfl (by kernel_rfl) (by kernel_rfl) (by kernel_rfl) (by decide) (fun _ _ _ h => h) hx (Or.inl ⟨by rfl, ?yt21⟩) ?rt21
    case yt21 => (intro w' hSw; (try dsimp only at hSw); go_simp; try with_reducible rfl)
    try simp only [Act.put, List.getElem_toArray, List.getElem_cons_zero, List.getElem_cons_succ, List.setIfInBounds_toArray, List.set_cons_zero, List.set_cons_succ]
    refine E_takeR (i := 3) (oi := _) (v := ?vt22) rfl (by kernel_rfl) (by kernel_rfl) (by kernel_rfl) (by decide) (fun _ _ _ h => h) hx (Or.inl ⟨by rfl, ?yt22⟩) ?rt22
    case yt22 => (intro w' hSw; (try dsimp only at hSw); go_simp; try with_reducible rfl)
    try simp only [Act.put, List.getElem_toArray, List.getElem_cons_zero, List.getElem_cons_succ, List.setIfInBounds_toArray, List.set_cons_zero, List.set_cons_succ]
    refine E_takeR (i := 4) (oi := _) (v := ?vt23) rfl (by kernel_rfl) (by kernel_rfl) (by kernel_rfl) (by decide) (fun _ _ _ h => h) hx (Or.inl ⟨by rfl, ?yt23⟩) ?rt23
    case yt23 => (intro w' hSw; (try dsimp only at hSw); go_simp; try with_reducible rfl)
    try simp only [Act.put, List.getElem_toArray, List.getElem_cons_zero, List.getElem_cons_succ, List.setIfInBounds_toArray, List.set_cons_zero, List.set_cons_succ]
    refine E_takeR (i := 5) (oi := _) (v := ?vt24) rfl (by kernel_rfl) (by kernel_rfl) (by kernel_rfl) (by decide) (fun _ _ _ h => h) hx (Or.inl ⟨by rfl, ?yt24⟩) ?rt24
    case yt24 => (intro w' hSw; (try dsimp only at hSw); go_simp; try with_reducible rfl)
    try simp only [Act.put, List.getElem_toArray, List.getElem_cons_zero, List.getElem_cons_succ, List.setIfInBounds_toArray, List.set_cons_zero, List.set_cons_succ]
    refine E_takeR (i := 6) (oi := _) (v := ?vt25) rfl (by kernel_rfl) (by kernel_rfl) (by kernel_rfl) (by decide) (fun _ _ _ h => h) hx (Or.inl ⟨by rfl, ?yt25⟩) ?rt25
    case yt25 => (intro w' hSw; (try dsimp only at hSw); go_simp; try with_reducible rfl)
    try simp only [Act.put, List.getElem_toArray, List.getElem_cons_zero, List.getElem_cons_succ, List.setIfInBounds_toArray, List.set_cons_zero, List.set_cons_succ]
    refine E_takeR (i := 7) (oi := _) (v := ?vt26) rfl (by kernel_rfl) (by kernel_rfl) (by kernel_rfl) (by decide) (fun _ _ _ h => h) hx (Or.inl ⟨by rfl, ?yt26⟩) ?rt26
    case yt26 => (intro w' hSw; (try dsimp only at hSw); go_simp; try with_reducible rfl)
    try simp only [Act.put, List.getElem_toArray, List.getElem_cons_zero, List.getElem_cons_succ, List.setIfInBounds_toArray, List.set_cons_zero, List.set_cons_succ]
    refine E_takeR (i := 8) (oi := _) (v := ?vt27) rfl (by kernel_rfl) (by kernel_rfl) (by kernel_rfl) (by decide) (fun _ _ _ h => h) hx (Or.inl ⟨by rfl, ?yt27⟩) ?rt27
    case yt27 => (intro w' hSw; (try dsimp only at hSw); go_simp; try with_reducible rfl)
    try simp only [Act.put, List.getElem_toArray, List.getElem_cons_zero, List.getElem_cons_succ, List.setIfInBounds_toArray, List.set_cons_zero, List.set_cons_succ]
    refine E_takeR (i := 9) (oi := _) (v := ?vt28) rfl (by kernel_rfl) (by kernel_rfl) (by kernel_rfl) (by decide) (fun _ _ _ h => h) hx (Or.inl ⟨by rfl, ?yt28⟩) ?rt28
    case yt28 => (intro w' hSw; (try dsimp only at hSw); go_simp; try with_reducible rfl)
    try simp only [Act.put, List.getElem_toArray, List.getElem_cons_zero, List.getElem_cons_succ, List.setIfInBounds_toArray, List.set_cons_zero, List.set_cons_succ]
    refine E_takeR (i := 10) (oi := _) (v := ?vt29) rfl (by kernel_rfl) (by kernel_rfl) (by kernel_rfl) (by decide) (fun _ _ _ h => h) hx (Or.inl ⟨by rfl, ?yt29⟩) ?rt29
    case yt29 => (intro w' hSw; (try dsimp only at hSw); go_simp; try with_reducible rfl)
    try simp only [Act.put, List.getElem_toArray, List.getElem_cons_zero, List.getElem_cons_succ, List.setIfInBounds_toArray, List.set_cons_zero, List.set_cons_succ]
    refine E_takeR (i := 11) (oi := _) (v := ?vt30) rfl (by kernel_rfl) (by kernel_rfl) (by kernel_rfl) (by decide) (fun _ _ _ h => h) hx (Or.inl ⟨by rfl, ?yt30⟩) ?rt30
    case yt30 => (intro w' hSw; (try dsimp only at hSw); go_simp; try with_reducible rfl)
    try simp only [Act.put, List.getElem_toArray, List.getElem_cons_zero, List.getElem_cons_succ, List.setIfInBounds_toArray, List.set_cons_zero, List.set_cons_succ]
    refine E_takeR (i := 12) (oi := _) (v := ?vt31) rfl (by kernel_rfl) (by kernel_rfl) (by kernel_rfl) (by decide) (fun _ _ _ h => h) hx (Or.inl ⟨by rfl, ?yt31⟩) ?rt31
    case yt31 => (intro w' hSw; (try dsimp only at hSw); go_simp; try with_reducible rfl)
    try simp only [Act.put, List.getElem_toArray, List.getElem_cons_zero, List.getElem_cons_succ, List.setIfInBounds_toArray, List.set_cons_zero, List.set_cons_succ]
    refine E_step (i := 13) (o := _) (by kernel_rfl) rfl (fun K hK => ?_)
    go_simp
    refine (refBehind_any q.at_ m.at_ _).mono ?_
    rintro e w6 ⟨rfl, hb6⟩
    (try dsimp only)
    have hb56 : Below w5.heap.size w5 w6 := hx.1.trans (hb6.mono hx.1.size)
    refine hK.out _ _ (fun _ => HST.out w6 hb56) ?_
    clear hK K
    try simp only [Act.put, List.getElem_toArray, List.getElem_cons_zero, List.getElem_cons_succ, List.setIfInBounds_toArray, List.set_cons_zero, List.set_cons_succ]
    have hx6 := HST.out w6 hb56
    refine E_takeR (i := 14) (oi := _) (v := ?vt32) rfl (by kernel_rfl) (by kernel_rfl) (by kernel_rfl) (by decide) (fun _ _ _ h => h) hx6 (Or.inl ⟨by rfl, ?yt32⟩) ?rt32
    case yt32 => (intro w' hSw; (try dsimp only at hSw); go_simp; try with_reducible rfl)
    try simp only [Act.put, List.getElem_toArray, List.getElem_cons_zero, List.getElem_cons_succ, List.setIfInBounds_toArray, List.set_cons_zero, List.set_cons_succ]
    refine E_done (by kernel_rfl) ?_ _
    have HB7 := Lib.hid (HB6.out.trans (hb56.mono HB6.out.size))
    have HB47 := Lib.hid (HB45.out.trans (hb56.mono HB45.out.size))
    clear hx hx6 hb6 hb56
    obtain ⟨b1, hb1⟩ : ∃ b1, decide (plt m.at_ q.at_) = b1 := ⟨_, rfl⟩
    rw [hb1]
    cases b1 with
    | false =>
      have HV := Lib.hid (HSK4.out.trans (if_pos (by
        rw [Bool.eq_false_iff]
        intro h
        have h2 := (ordB_iff _).1 h i m q HR.out (by rw [← HI.out]; exact HQ.out)
        exact of_decide_eq_false hb1 (plt_iff.1 h2))))
      clear hb1
      go_wp2_with fail
      go_ret
      exact ⟨by rw [HV.out]; rfl, HB7.out⟩
    | true =>
    have HP := Lib.hid (plt_iff.2 (of_decide_eq_true hb1))
    clear hb1
    go_wp2_with fail
    exact ⟨⟨j + 1, by omega, by have := HLJ.out; omega, by simp, fun i' a b' h1 h2 h3 => by
      by_cases hii : i' + 1 < j
      · exact HOR.out i' a b' hii h2 h3
      · obtain rfl : i' = i := by have := HI.out; omega
        rw [HR.out] at h2
        rw [← HI.out, HQ.out] at h3
        cases h2
        cases h3
        exact HP.out, HB47.out⟩, by have := HLJ.out; simp [intOf]; omega⟩
  have hlj' : ¬ (j : Int) < (S.ms.length : Int) := by omega
  have HO := Lib.hid (show ordB S.ms = true from (ordB_iff _).2 fun i a b h1 h2 => HOR.out i a b (by
    have := (List.getElem?_eq_some_iff.1 h2).1
    omega) h1 h2)
  have HSK5 := Lib.hid (HSK4.out.trans (if_neg (by rw [HO.out]; decide)))
  have HMKS := Lib.hid (fun m hm => (markE_ok HM0.out m hm).1)
  have HSTP := Lib.hid (show 0 ≤ S.steep ∧ S.steep ≤ 1000 by have := HX1.out; simpa [isFromB] using this)
  clear hlj hj hj1
  go_wp2_with fail
  refine (refAgree_any S _ (HS.out.below HB6.out) HSTP.out HMKS.out).mono ?_
  rintro e w7 ⟨rfl, hb7⟩
  clear s0 s1 s2 s3 s4 s5 l1
  have HB7 := Lib.hid (HB6.out.trans (hb7.mono HB6.out.size))
  clear hb7
  have HTA := Lib.hid (thickE_agree (S := S) HSTP.out.1 (by have := isSpanB_iff.1 HX2.out; omega))
  obtain ⟨b1, hb1⟩ : ∃ b1, agreeB S = b1 := ⟨_, rfl⟩
  rw [hb1]
  cases b1 with
  | false =>
    have HV := Lib.hid (HSK5.out.trans (HTA.out.trans (if_neg (by rw [hb1]; decide))))
    clear hb1
    go_wp2_with fail
    go_ret
    exact ⟨by rw [HV.out]; rfl, HB7.out⟩
  | true =>
  have HV := Lib.hid (HSK5.out.trans (HTA.out.trans (if_pos hb1)))
  clear hb1
  go_wp2_with fail
  go_ret
  exact ⟨by rw [HV.out]; rfl, HB7.out⟩
end Go.Proofs.YtoigihmgjacbjaaDoor
