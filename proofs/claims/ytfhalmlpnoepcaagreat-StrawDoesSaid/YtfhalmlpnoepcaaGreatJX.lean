/- Chores: dry. -/
import Derived.Test.YtfhalmlpnoepcaaGreatJW
set_option linter.unusedSimpArgs false
namespace Go.Proofs.YtfhalmlpnoepcaaGreat
open Go.RowKit

set_option maxRecDepth 100000 in
set_option maxHeartbeats 8000000 in
theorem dry_any (F : Frm) (S : Sto) (a : Chr) (base B : Nat) (w : World) (hH : Hand F base B w S S) (hE : storeE F S = 0) (hfit : S.fit) (hbw : base ≤ w.heap.size) :
    Calls Tryz.prog 63 #[.pointer (some ⟨B, 0, none⟩), .agg (chrC a)] w (ChoreSaid F base B (dryD S a) w) := by
  obtain ⟨hs1, hs2, hs3, hs4, hs5⟩ := store_ok hE
  have hheap := fun h hm => heap_ok hE hfit (h := h) hm
  obtain ⟨hf1, hf2, hf3, hf4⟩ := hfit
  have hb1 : Below w.heap.size w (w.alloc (.cells (chrC a) 34)) := (Below.refl _ w).alloc (Nat.le_refl _) _
  have kA := Blk.new w 34 (chrC a)
  have hH1 := hH.below hb1
  have hBw := hH.box.lt
  have hrows := fun k hk => (hH.own.ge k hk).2
  have HROWS := Lib.hid hrows
  have hge := fun k hk => (hH.own.ge k hk).1
  have HGE := Lib.hid hge
  have hbB := hH.le
  clear hrows hge
  have hbb := Lib.hid (hb1.mono hbw)
  unfold chrC at hb1 kA hH1 ⊢
  go_enter Tryz.func63, Tryz.ntmps63
  go_upto_region 1 with fail
  generalize w.alloc (.cells #[.int .i64 a.kind, .int .i64 a.plot, .int .i64 a.loads, .string a.name, .string a.other, .int .i64 a.days, .int .i64 a.per, .int .i64 a.rlo, .int .i64 a.rhi] 34) = w1 at *
  have e3 : w1.cell? ⟨w.heap.size, 3, none⟩ = some (.string a.name) := kA.cell 3
  have lA := kA.lt
  have HH1 := Lib.hid hH1
  have HB1 := Lib.hid hb1
  have KA := Lib.hid kA
  have HHEAP := Lib.hid hheap
  clear hH hH1 hb1 kA hheap
  have d5 : w1.cell? ⟨B, 5, none⟩ = some (.slice S.ha S.heaps.length S.hc) := HH1.out.box.cell 5
  have lB := HH1.out.box.lt
  have hstep : ∀ w', Below w1.heap.size w1 w' → Below w1.heap.size w1 w' ∧ (w'.cell? ⟨w.heap.size, 3, none⟩ = some (.string a.name) ∧ w'.cell? ⟨B, 5, none⟩ = some (.slice S.ha S.heaps.length S.hc)) :=
    fun w' hb => ⟨hb, (hb.cell (p := ⟨w.heap.size, 3, none⟩) lA).trans e3, (hb.cell (p := ⟨B, 5, none⟩) lB).trans d5⟩
  have hx := hstep w1.drew ((Below.refl _ w1).drew)
  have HST1 := Lib.hid hstep
  clear hstep e3 d5 lA lB
  by_cases hix : 0 ≤ idxH S.heaps a.name
  rotate_left
  · have hv : (dryD S a).1 = 7 := by unfold dryD; rw [if_pos (by omega)]
    have HV := Lib.hid hv
    have HIX := Lib.hid hix
    clear hv hix
    refine wp_region_E 11 (fun w' : World => Below w1.heap.size w1 w' ∧ (w'.cell? ⟨w.heap.size, 3, none⟩ = some (.string a.name) ∧ w'.cell? ⟨B, 5, none⟩ = some (.slice S.ha S.heaps.length S.hc))) (by kernel_rfl) ?_
    refine tR 0 rfl hx (v := ?v62) (.inl ⟨by rfl, ?y62⟩) ?r62
    case y62 => intro w' h; (try dsimp only at h); go_simp; try with_reducible rfl
    refine tR 1 rfl hx (v := ?v63) (.inl ⟨by rfl, ?y63⟩) ?r63
    case y63 => intro w' h; (try dsimp only at h); go_simp; try with_reducible rfl
    refine tR 2 rfl hx (v := ?v64) (.inl ⟨by rfl, ?y64⟩) ?r64
    case y64 => intro w' h; (try dsimp only at h); go_simp; try with_reducible rfl
    try simp only [Act.put, List.getElem_toArray, List.getElem_cons_zero, List.getElem_cons_succ, List.setIfInBounds_toArray, List.set_cons_zero, List.set_cons_succ]
    refine tR 3 rfl hx (v := ?v65) (.inl ⟨by rfl, ?y65⟩) ?r65
    case y65 => intro w' h; (try dsimp only at h); go_simp; try with_reducible rfl
    refine tR 4 rfl hx (v := ?v66) (.inl ⟨by rfl, ?y66⟩) ?r66
    case y66 => intro w' h; (try dsimp only at h); go_simp; try with_reducible rfl
    refine tR 5 rfl hx (v := ?v67) (.inl ⟨by rfl, ?y67⟩) ?r67
    case y67 => intro w' h; (try dsimp only at h); go_simp; try with_reducible rfl
    try simp only [Act.put, List.getElem_toArray, List.getElem_cons_zero, List.getElem_cons_succ, List.setIfInBounds_toArray, List.set_cons_zero, List.set_cons_succ]
    refine tR 6 rfl hx (v := ?v68) (.inl ⟨by rfl, ?y68⟩) ?r68
    case y68 => intro w' h; (try dsimp only at h); go_simp; try with_reducible rfl
    refine tR 7 rfl hx (v := ?v69) (.inl ⟨by rfl, ?y69⟩) ?r69
    case y69 => intro w' h; (try dsimp only at h); go_simp; try with_reducible rfl
    try simp only [Act.put, List.getElem_toArray, List.getElem_cons_zero, List.getElem_cons_succ, List.setIfInBounds_toArray, List.set_cons_zero, List.set_cons_succ]
    refine E_step (i := 8) (o := _) (by kernel_rfl) rfl (fun K hK => ?_)
    go_simp
    refine (find_any F S a.name B _ (HH1.out.below hx.1).box (HH1.out.below hx.1).isHeps).mono ?_
    rintro e w2 ⟨hf, hb2⟩
    rcases hf with ⟨hix, rfl⟩ | ⟨_, rfl⟩
    · exact absurd hix HIX.out
    dsimp only
    exact ⟨rfl, ChoreSaid.err 7 HV.out (by decide) (hbb.out.trans ((hx.1.trans (hb2.mono hx.1.size)).mono (Nat.le_trans hbw HB1.out.size)))⟩
  obtain ⟨i, h, hie, hil, hih, _⟩ := idxH_at hix
  have hi0 : (0 : Int) ≤ (i : Int) := Int.natCast_nonneg _
  have hi1 : (i : Int) < (S.heaps.length : Int) := by omega
  obtain ⟨g, hga, hgb, hgl, ⟨hcap, hcx⟩, hcells, hfz, hgB⟩ := HH1.out.hep hih
  have hst2 : ∀ w', Below w1.heap.size w1 w' → Below w1.heap.size w1 w' ∧ (w'.cell? ⟨w.heap.size, 3, none⟩ = some (.string a.name) ∧ w'.cell? ⟨B, 5, none⟩ = some (.slice (some ⟨g, 0, none⟩) S.heaps.length S.hc)) := fun w' hb => by
    have := HST1.out w' hb
    rwa [hga] at this
  have HST2 := Lib.hid hst2
  rw [hga] at hx
  have HGA := Lib.hid hga
  clear hga hst2
  refine wp_region_E 11 (fun w' : World => Below w1.heap.size w1 w' ∧ (w'.cell? ⟨w.heap.size, 3, none⟩ = some (.string a.name) ∧ w'.cell? ⟨B, 5, none⟩ = some (.slice (some ⟨g, 0, none⟩) S.heaps.length S.hc))) (by kernel_rfl) ?_
  refine tR 0 rfl hx (v := ?v70) (.inl ⟨by rfl, ?y70⟩) ?r70
  case y70 => intro w' h; (try dsimp only at h); go_simp; try with_reducible rfl
  refine tR 1 rfl hx (v := ?v71) (.inl ⟨by rfl, ?y71⟩) ?r71
  case y71 => intro w' h; (try dsimp only at h); go_simp; try with_reducible rfl
  refine tR 2 rfl hx (v := ?v72) (.inl ⟨by rfl, ?y72⟩) ?r72
  case y72 => intro w' h; (try dsimp only at h); go_simp; try with_reducible rfl
  try simp only [Act.put, List.getElem_toArray, List.getElem_cons_zero, List.getElem_cons_succ, List.setIfInBounds_toArray, List.set_cons_zero, List.set_cons_succ]
  refine tR 3 rfl hx (v := ?v73) (.inl ⟨by rfl, ?y73⟩) ?r73
  case y73 => intro w' h; (try dsimp only at h); go_simp; try with_reducible rfl
  refine tR 4 rfl hx (v := ?v74) (.inl ⟨by rfl, ?y74⟩) ?r74
  case y74 => intro w' h; (try dsimp only at h); go_simp; try with_reducible rfl
  refine tR 5 rfl hx (v := ?v75) (.inl ⟨by rfl, ?y75⟩) ?r75
  case y75 => intro w' h; (try dsimp only at h); go_simp; try with_reducible rfl
  try simp only [Act.put, List.getElem_toArray, List.getElem_cons_zero, List.getElem_cons_succ, List.setIfInBounds_toArray, List.set_cons_zero, List.set_cons_succ]
  refine tR 6 rfl hx (v := ?v76) (.inl ⟨by rfl, ?y76⟩) ?r76
  case y76 => intro w' h; (try dsimp only at h); go_simp; try with_reducible rfl
  refine tR 7 rfl hx (v := ?v77) (.inl ⟨by rfl, ?y77⟩) ?r77
  case y77 => intro w' h; (try dsimp only at h); go_simp; try with_reducible rfl
  try simp only [Act.put, List.getElem_toArray, List.getElem_cons_zero, List.getElem_cons_succ, List.setIfInBounds_toArray, List.set_cons_zero, List.set_cons_succ]
  refine E_step (i := 8) (o := _) (by kernel_rfl) rfl (fun K hK => ?_)
  go_simp
  refine (find_any F S a.name B _ (HH1.out.below hx.1).box (HH1.out.below hx.1).isHeps).mono ?_
  rintro e w2 ⟨hf, hb2'⟩
  rcases hf with ⟨_, rfl⟩ | ⟨hix2, rfl⟩
  rotate_left
  · exact absurd hix (by omega)
  rw [hie]
  dsimp only
  have hb2 : Below w1.heap.size w1 w2 := hx.1.trans (hb2'.mono hx.1.size)
  have hx2 := HST2.out w2 hb2
  refine hK.out _ _ (fun _ => hx2) ?_
  clear hK K
  try simp only [Act.put]
  refine tR 9 rfl hx2 (v := ?v78) (.inl ⟨by rfl, ?y78⟩) ?r78
  case y78 => intro w' h; (try dsimp only at h); go_simp; try with_reducible rfl
  refine tR 10 rfl hx2 (v := ?v79) (.inl ⟨by rfl, ?y79⟩) ?r79
  case y79 => intro w' h; (try dsimp only at h); go_simp; try with_reducible rfl
  try simp only [Act.put, List.getElem_toArray, List.getElem_cons_zero, List.getElem_cons_succ, List.setIfInBounds_toArray, List.set_cons_zero, List.set_cons_succ]
  refine E_done (by kernel_rfl) ?_ _
  have hat := hepAt_of hie hih
  have hH2 := HH1.out.below hb2
  have kA2 := KA.out.belowS hb2
  obtain ⟨_, _, _, _, _, hwt⟩ := HHEAP.out h (List.mem_of_getElem? hih)
  obtain ⟨hw1, hw2, hw3⟩ := hwt
  have hgl2 := Nat.lt_of_lt_of_le hgl hb2.size
  have hcel : ∀ j, j < 7 → w2.cell? ⟨g, i * 7 + j, none⟩ = (cellsHep h)[j]? := fun j hj => (hb2.cell (p := ⟨g, i * 7 + j, none⟩) hgl).trans (hcells j hj)
  have c2 : w2.cell? ⟨g, i * 7 + 2, none⟩ = some (.int .i64 h.stage) := hcel 2 (by omega)
  have c5 : w2.cell? ⟨g, i * 7 + 5, none⟩ = some (.int .i64 h.wlo) := hcel 5 (by omega)
  have c6 : w2.cell? ⟨g, i * 7 + 6, none⟩ = some (.int .i64 h.whi) := hcel 6 (by omega)
  have hsz2 := Nat.le_trans HB1.out.size hb2.size
  have HBB2 := Lib.hid (hbb.out.trans (hb2.mono (Nat.le_trans hbw HB1.out.size)))
  have a5 : w2.cell? ⟨w.heap.size, 5, none⟩ = some (.int .i64 a.days) := kA2.cell 5
  have a7 : w2.cell? ⟨w.heap.size, 7, none⟩ = some (.int .i64 a.rlo) := kA2.cell 7
  have a8 : w2.cell? ⟨w.heap.size, 8, none⟩ = some (.int .i64 a.rhi) := kA2.cell 8
  have lA := kA2.lt
  have HIX := Lib.hid hix
  have HIE := Lib.hid hie
  have HIH := Lib.hid hih
  have HAT := Lib.hid hat
  have HH2 := Lib.hid hH2
  have KA2 := Lib.hid kA2
  have HFZ := Lib.hid (fun j => (World.frozen?_of_block (a := ⟨g, j, none⟩) (hb2.block g hgl)).trans (hfz j))
  clear hix hie hih hat hH2 kA2 hcells hcel hfz hb2 hb2' hx hx2 hcap hcx
  by_cases h3 : h.stage = 3
  · have q3 : (h.stage == 3) = true := by simp [h3]
    have q3' : (h.stage != 3) = false := by simp [h3]
    have hv : (dryD S a).1 = 8 := by unfold dryD; rw [HAT.out, if_neg (by have := HIX.out; omega), if_pos h3]
    have HV := Lib.hid hv
    clear hv h3
    go_wp2_with fail
    refine (require_no 8 _).mono ?_
    rintro e w4 ⟨rfl, rfl⟩
    go_wp2_with fail
    exact ⟨rfl, ChoreSaid.err 8 HV.out (by decide) HBB2.out⟩
  have q3 : (h.stage == 3) = false := by simp [h3]
  have q3' : (h.stage != 3) = true := by simp [h3]
  have H3 := Lib.hid h3
  clear h3
  go_wp2_with fail
  refine (require_yes 8 _).mono ?_
  rintro e w4 ⟨rfl, rfl⟩
  go_wp2_with fail
  refine (isFrom_any a.days 0 365 _).mono ?_
  rintro e w5 ⟨rfl, rfl⟩
  cases h9 : isFromB a.days 0 365 with
  | false =>
    have hv : (dryD S a).1 = 1 := by unfold dryD; rw [HAT.out, if_neg (by have := HIX.out; omega), if_neg H3.out, if_pos (fun h => by rw [h9] at h; cases h.1)]
    have HV := Lib.hid hv
    clear hv h9
    go_wp2_with fail
    refine (require_no 1 _).mono ?_
    rintro e w4 ⟨rfl, rfl⟩
    go_wp2_with fail
    exact ⟨rfl, ChoreSaid.err 1 HV.out (by decide) HBB2.out⟩
  | true =>
    have H9 := Lib.hid h9
    clear h9
    go_wp2_with fail
    refine (isSpan_any a.rlo a.rhi 0 100 _).mono ?_
    rintro e w6 ⟨rfl, hb6⟩
    cases h10 : isSpanB a.rlo a.rhi 0 100 with
    | false =>
      have hv : (dryD S a).1 = 1 := by unfold dryD; rw [HAT.out, if_neg (by have := HIX.out; omega), if_neg H3.out, if_pos (fun h => by rw [h10] at h; cases h.2)]
      have HV := Lib.hid hv
      have HB6 := Lib.hid hb6
      clear hv h10 hb6
      go_wp2_with fail
      refine (require_no 1 _).mono ?_
      rintro e w4 ⟨rfl, rfl⟩
      go_wp2_with fail
      exact ⟨rfl, ChoreSaid.err 1 HV.out (by decide) (HBB2.out.trans (HB6.out.mono (Nat.le_trans hbw hsz2)))⟩
    | true =>
      obtain ⟨hr1, hr2, hr3⟩ := isSpanB_iff.1 h10
      obtain ⟨hd1, hd2⟩ := isFromB_iff.1 H9.out
      have hv : dryD S a = (0, { S with heaps := S.heaps.set i { h with wlo := moistM (h.wlo - 20 * a.days + 5 * a.rlo), whi := moistM (h.whi - 10 * a.days + 15 * a.rhi) } }) := by
        unfold dryD; rw [HAT.out, if_neg (by have := HIX.out; omega), if_neg H3.out, if_neg (fun h => h ⟨H9.out, h10⟩), HIE.out]; rfl
      have HV := Lib.hid hv
      have hgl6 := Nat.lt_of_lt_of_le hgl2 hb6.size
      have c56 := (hb6.cell (p := ⟨g, i * 7 + 5, none⟩) hgl2).trans c5
      have c66 := (hb6.cell (p := ⟨g, i * 7 + 6, none⟩) hgl2).trans c6
      have a56 := (hb6.cell (p := ⟨w.heap.size, 5, none⟩) lA).trans a5
      have a76 := (hb6.cell (p := ⟨w.heap.size, 7, none⟩) lA).trans a7
      have a86 := (hb6.cell (p := ⟨w.heap.size, 8, none⟩) lA).trans a8
      have lA6 := Nat.lt_of_lt_of_le lA hb6.size
      have hsz6 := Nat.le_trans hsz2 hb6.size
      have HH6 := Lib.hid (HH2.out.below hb6)
      have HBB6 := Lib.hid (HBB2.out.trans (hb6.mono (Nat.le_trans hbw hsz2)))
      have HFZ6 := Lib.hid (fun j => (World.frozen?_of_block (a := ⟨g, j, none⟩) (hb6.block g hgl2)).trans (HFZ.out j))
      have n1 : IntKind.i64.wrap (20 * a.days) = 20 * a.days := IntWalk.i64_in _ (by omega)
      have n2 : IntKind.i64.wrap (h.wlo - 20 * a.days) = h.wlo - 20 * a.days := IntWalk.i64_in _ (by omega)
      have n3 : IntKind.i64.wrap (5 * a.rlo) = 5 * a.rlo := IntWalk.i64_in _ (by omega)
      have n4 : IntKind.i64.wrap (h.wlo - 20 * a.days + 5 * a.rlo) = h.wlo - 20 * a.days + 5 * a.rlo := IntWalk.i64_in _ (by omega)
      have m1 : IntKind.i64.wrap (10 * a.days) = 10 * a.days := IntWalk.i64_in _ (by omega)
      have m2 : IntKind.i64.wrap (h.whi - 10 * a.days) = h.whi - 10 * a.days := IntWalk.i64_in _ (by omega)
      have m3 : IntKind.i64.wrap (15 * a.rhi) = 15 * a.rhi := IntWalk.i64_in _ (by omega)
      have m4 : IntKind.i64.wrap (h.whi - 10 * a.days + 15 * a.rhi) = h.whi - 10 * a.days + 15 * a.rhi := IntWalk.i64_in _ (by omega)
      clear hv h10 c2 c5 c6 a5 a7 a8 lA hb6 hgl2
      go_wp2_with fail
      refine (require_yes 1 _).mono ?_
      rintro e w7 ⟨rfl, rfl⟩
      go_upto_region 4 with fail
      go_quiet (fail)
      have hq1 : Below w7.heap.size w7 (w7.drewN nq) := below_drewN' _ _ _
      generalize w7.drewN nq = w8 at *
      have hgl8 := Nat.lt_of_lt_of_le hgl6 hq1.size
      have d56 := (hq1.cell (p := ⟨g, i * 7 + 5, none⟩) hgl6).trans c56
      have d66 := (hq1.cell (p := ⟨g, i * 7 + 6, none⟩) hgl6).trans c66
      have b56 := (hq1.cell (p := ⟨w.heap.size, 5, none⟩) lA6).trans a56
      have b86 := (hq1.cell (p := ⟨w.heap.size, 8, none⟩) lA6).trans a86
      have lA8 := Nat.lt_of_lt_of_le lA6 hq1.size
      have hsz8 := Nat.le_trans hsz6 hq1.size
      have HH8 := Lib.hid (HH6.out.below hq1)
      have HBB8 := Lib.hid (HBB6.out.trans (hq1.mono (Nat.le_trans hbw hsz6)))
      have HFZ8 := Lib.hid (fun j => (World.frozen?_of_block (a := ⟨g, j, none⟩) (hq1.block g hgl6)).trans (HFZ6.out j))
      clear c56 c66 a56 a76 a86 lA6 hgl6 hq1
      go_upto_region 5 with fail
      go_quiet (fail)
      have hq2 : Below w8.heap.size w8 (w8.drewN nq) := below_drewN' _ _ _
      generalize w8.drewN nq = w9 at *
      have hgl9 := Nat.lt_of_lt_of_le hgl8 hq2.size
      have d59 := (hq2.cell (p := ⟨g, i * 7 + 5, none⟩) hgl8).trans d56
      have d69 := (hq2.cell (p := ⟨g, i * 7 + 6, none⟩) hgl8).trans d66
      have hsz9 := Nat.le_trans hsz8 hq2.size
      have hH9 := HH8.out.below hq2
      have HH9 := Lib.hid hH9
      have HBB9 := Lib.hid (HBB8.out.trans (hq2.mono (Nat.le_trans hbw hsz8)))
      have hfz9 := (fun j => (World.frozen?_of_block (a := ⟨g, j, none⟩) (hq2.block g hgl8)).trans (HFZ8.out j))
      have z5 := hfz9 (i * 7 + 5)
      have z6 := hfz9 (i * 7 + 6)
      have x1 := set_hand (j := 5) (y := { h with wlo := moistM (h.wlo - 20 * a.days + 5 * a.rlo) }) (v := .int .i64 (moistM (h.wlo - 20 * a.days + 5 * a.rlo))) hH9 HIH.out HGA.out (by omega) rfl rfl rfl rfl rfl
      have hih2 : (S.heaps.set i { h with wlo := moistM (h.wlo - 20 * a.days + 5 * a.rlo) })[i]? = some { h with wlo := moistM (h.wlo - 20 * a.days + 5 * a.rlo) } := by simp [hil]
      have x2 := set_hand (j := 6) (y := { h with wlo := moistM (h.wlo - 20 * a.days + 5 * a.rlo), whi := moistM (h.whi - 10 * a.days + 15 * a.rhi) }) (v := .int .i64 (moistM (h.whi - 10 * a.days + 15 * a.rhi))) x1 hih2 HGA.out (by omega) rfl rfl rfl rfl rfl
      have hset : (S.heaps.set i { h with wlo := moistM (h.wlo - 20 * a.days + 5 * a.rlo) }).set i { h with wlo := moistM (h.wlo - 20 * a.days + 5 * a.rlo), whi := moistM (h.whi - 10 * a.days + 15 * a.rhi) } = S.heaps.set i { h with wlo := moistM (h.wlo - 20 * a.days + 5 * a.rlo), whi := moistM (h.whi - 10 * a.days + 15 * a.rhi) } := by simp
      simp only [hset] at x2
      have X2 := Lib.hid x2
      clear d56 d66 b56 b86 lA8 hgl8 hq2 hH9 hfz9 x1 x2 hset hih2
      go_wp2_with fail
      refine (moisture_any _ _).mono ?_
      rintro e w10 ⟨rfl, rfl⟩
      go_wp2_with fail
      refine (moisture_any _ _).mono ?_
      rintro e w11 ⟨rfl, rfl⟩
      generalize hm1 : moistM (h.wlo - 20 * a.days + 5 * a.rlo) = M1 at *
      generalize hm2 : moistM (h.whi - 10 * a.days + 15 * a.rhi) = M2 at *
      go_wp2_with fail
      go_end0
      refine ⟨.inl ⟨by rw [HV.out], rfl, _, ?_, X2.out⟩, HBB9.out.trans (((Below.refl _ w9).setCell (p := ⟨g, i * 7 + 5, none⟩) hgb _).setCell (p := ⟨g, i * 7 + 6, none⟩) hgb _)⟩
      rw [HV.out]
      exact SameSto.refl _

end Go.Proofs.YtfhalmlpnoepcaaGreat
