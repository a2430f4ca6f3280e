/- Chores: comb. -/
import Derived.Test.YtfhalmlpnoepcaaGreatJV
set_option linter.unusedSimpArgs false
namespace Go.Proofs.YtfhalmlpnoepcaaGreat
open Go.RowKit

/-- A heap told otherwise, in its place. -/
theorem set_hand {F : Frm} {base B : Nat} {w : World} {S : Sto} {i g j : Nat} {h y : Hep} {v : Value} (hH : Hand F base B w S S) (hi : S.heaps[i]? = some h) (hg : S.ha = some ⟨g, 0, none⟩) (hj : j < 7) (hc : cellsHep y = (cellsHep h).set j v)
    (h1 : y.pa = h.pa) (h2 : y.pc = h.pc) (h3 : y.parts = h.parts) (h4 : y.name = h.name) :
    Hand F base B (w.setCell ⟨g, i * 7 + j, none⟩ v) { S with heaps := S.heaps.set i y } { S with heaps := S.heaps.set i y } := by
  have hil := (List.getElem?_eq_some_iff.1 hi).1
  have hgR : S.ha.map (·.block) = some g := by rw [hg]; rfl
  have hgo := out_ha hH.own.apart g hgR
  have hBg : B ≠ g := fun e => hH.out (rows_ha (by rw [hgR, e]))
  have hT : Turn (fun k => k = g) w (w.setCell ⟨g, i * 7 + j, none⟩ v) := (Turn.of_below (X := fun k => k = g) (Below.refl _ w)).setCell (B := g) rfl _ _
  have hrw := hH.own.heaps
  rw [hg] at hrw
  have hrw2 := ownsRow_setOwn hrw (i := i * 7 + j) (by omega) v
  rw [flat_set cellsHep 7 (fun _ => rfl) S.heaps i j h y v hi hj hc] at hrw2
  have hlen : (S.heaps.set i y).length = S.heaps.length := List.length_set ..
  have hrows : rowsOf { S with heaps := S.heaps.set i y } = rowsOf S := by
    unfold rowsOf
    have : (S.heaps.set i y).map (·.pa) = S.heaps.map (·.pa) := by
      rw [List.map_set, h1]
      refine List.ext_getElem (by simp) fun k k1 k2 => ?_
      rw [List.getElem_set]
      split
      · next e => subst e; simp [(List.getElem?_eq_some_iff.1 hi).2]
      · rfl
    simp only [this]
  refine ⟨?_, ?_, by rw [hrows]; exact hH.out, hH.le, rfl, rfl, rfl⟩
  · have := hH.box.other hBg (i := i * 7 + j) v
    show Blk _ _ #[_, _, _, _, _, .slice S.ha (S.heaps.set i _).length S.hc, _, _] _
    rw [hlen]
    exact this
  · refine OwnSto.heapsRow hH.own hT (fun k e => by rw [show k = g from e]; exact hgo) (by rw [hlen, hg]; exact hrw2) (fun x hx => ?_) (by rw [hrows]; exact hH.own.apart)
    rcases List.mem_or_eq_of_mem_set hx with hm | rfl
    · exact ⟨x, hm, rfl, rfl, rfl, rfl⟩
    · exact ⟨h, List.mem_of_getElem? hi, h1, h2, h3, h4⟩
/-- The heaps' row of a hand's store, at one heap. -/
theorem Hand.hep {F : Frm} {base B : Nat} {w : World} {S : Sto} {i : Nat} {h : Hep} (hH : Hand F base B w S S) (hi : S.heaps[i]? = some h) :
    ∃ g, S.ha = some ⟨g, 0, none⟩ ∧ base ≤ g ∧ g < w.heap.size ∧ (S.heaps.length ≤ S.hc ∧ S.hc ≤ 9223372036854775807) ∧ (∀ j, j < 7 → w.cell? ⟨g, i * 7 + j, none⟩ = (cellsHep h)[j]?) ∧ (∀ j, w.frozen? ⟨g, j, none⟩ = false) ∧ g ≠ B := by
  have hil := (List.getElem?_eq_some_iff.1 hi).1
  have hrow := hH.own.heaps
  obtain ⟨g, cap, hv, hbg, hgl⟩ := hrow.form (by omega)
  obtain ⟨hga, _, rfl⟩ := slice_inj hv
  have h1 := hrow
  rw [hga] at h1
  refine ⟨g, hga, hbg, hgl, ?_, fun j hj => ?_, fun j => h1.frozenAt _, fun e => hH.out (rows_ha (by rw [hga, ← e]; rfl))⟩
  · rcases hrow.2 with ⟨_, h0⟩ | ⟨_, _, _, e, _, _, h1, h2, _⟩
    · omega
    · obtain ⟨_, _, rfl⟩ := slice_inj e
      unfold maxLen at h2
      omega
  · rw [h1.cellAt _ (by omega)]
    exact flat_at cellsHep 7 (fun _ => rfl) S.heaps i j h hi hj

set_option maxRecDepth 100000 in
set_option maxHeartbeats 8000000 in
theorem comb_any (F : Frm) (S : Sto) (a : Chr) (base B : Nat) (w : World) (hH : Hand F base B w S S) (hE : storeE F S = 0) (hfit : S.fit) (hbw : base ≤ w.heap.size) :
    Calls Tryz.prog 64 #[.pointer (some ⟨B, 0, none⟩), .agg (chrC a)] w (ChoreSaid F base B (combD F S a) w) := by
  obtain ⟨hs1, hs2, hs3, hs4, hs5⟩ := store_ok hE
  have hheap := fun h hm => heap_ok hE hfit (h := h) hm
  obtain ⟨hf1, hf2, hf3, hf4⟩ := hfit
  have hb1 : Below w.heap.size w (w.alloc (.cells (chrC a) 34)) := (Below.refl _ w).alloc (Nat.le_refl _) _
  have kA := Blk.new w 34 (chrC a)
  have hH1 := hH.below hb1
  have hBw := hH.box.lt
  have hrows := fun k hk => (hH.own.ge k hk).2
  have HROWS := Lib.hid hrows
  have hge := fun k hk => (hH.own.ge k hk).1
  have HGE := Lib.hid hge
  have hbB := hH.le
  clear hrows hge
  have hbb := Lib.hid (hb1.mono hbw)
  unfold chrC at hb1 kA hH1 ⊢
  go_enter Tryz.func64, Tryz.ntmps64
  go_upto_region 1 with fail
  generalize w.alloc (.cells #[.int .i64 a.kind, .int .i64 a.plot, .int .i64 a.loads, .string a.name, .string a.other, .int .i64 a.days, .int .i64 a.per, .int .i64 a.rlo, .int .i64 a.rhi] 34) = w1 at *
  have e3 : w1.cell? ⟨w.heap.size, 3, none⟩ = some (.string a.name) := kA.cell 3
  have lA := kA.lt
  have HH1 := Lib.hid hH1
  have HB1 := Lib.hid hb1
  have KA := Lib.hid kA
  have HHEAP := Lib.hid hheap
  clear hH hH1 hb1 kA hheap
  go_wp2_with fail
  refine (find_any F S a.name B _ HH1.out.box HH1.out.isHeps).mono ?_
  rintro e w2 ⟨hf, hb2⟩
  rcases hf with ⟨hix, rfl⟩ | ⟨hix, rfl⟩
  rotate_left
  · go_wp2_with fail
    exact ⟨rfl, ChoreSaid.err 7 (by simp [combD, hix]) (by decide) (hbb.out.trans (hb2.mono (Nat.le_trans hbw HB1.out.size)))⟩
  obtain ⟨i, h, hie, hil, hih, _⟩ := idxH_at hix
  have hat := hepAt_of hie hih
  rw [hie]
  have hH2 := HH1.out.below hb2
  have kA2 := KA.out.belowS hb2
  obtain ⟨hok, hpa, hlen, ⟨hl0, hl1⟩, hper, hwet⟩ := HHEAP.out h (List.mem_of_getElem? hih)
  obtain ⟨g, hga, hgb, hgl, ⟨hcap, hcx⟩, hcells, hfz, hgB⟩ := hH2.hep hih
  have d5 : w2.cell? ⟨B, 5, none⟩ = some (.slice S.ha S.heaps.length S.hc) := hH2.box.cell 5
  rw [hga] at d5
  have lB := hH2.box.lt
  have hi0 : (0 : Int) ≤ (i : Int) := Int.natCast_nonneg _
  have hi1 : (i : Int) < (S.heaps.length : Int) := by omega
  have hsz2 := Nat.le_trans HB1.out.size hb2.size
  have HBB2 := Lib.hid (hbb.out.trans (hb2.mono (Nat.le_trans hbw HB1.out.size)))
  have c0 : w2.cell? ⟨g, i * 7, none⟩ = some (.string h.name) := hcells 0 (by omega)
  have c1 : w2.cell? ⟨g, i * 7 + 1, none⟩ = some (.int .i64 h.crop) := hcells 1 (by omega)
  have c2 : w2.cell? ⟨g, i * 7 + 2, none⟩ = some (.int .i64 h.stage) := hcells 2 (by omega)
  have c3 : w2.cell? ⟨g, i * 7 + 3, none⟩ = some (.slice h.pa h.parts.length h.pc) := hcells 3 (by omega)
  have c4 : w2.cell? ⟨g, i * 7 + 4, none⟩ = some (.int .i64 h.per) := hcells 4 (by omega)
  have c5 : w2.cell? ⟨g, i * 7 + 5, none⟩ = some (.int .i64 h.wlo) := hcells 5 (by omega)
  have c6 : w2.cell? ⟨g, i * 7 + 6, none⟩ = some (.int .i64 h.whi) := hcells 6 (by omega)
  have HIE := Lib.hid hie
  have HIH := Lib.hid hih
  have HAT := Lib.hid hat
  have HIX := Lib.hid hix
  have HGA := Lib.hid hga
  have HOK := Lib.hid hok
  have HPA := Lib.hid hpa
  have HH2 := Lib.hid hH2
  have KA2 := Lib.hid kA2
  have HFZ := Lib.hid hfz
  clear hie hih hat hix hga hok hpa hH2 kA2 hb2 e3 lA hcells hfz
  by_cases h1 : h.stage = 1
  rotate_left
  · have q1 : (h.stage == 1) = false := by simp [h1]
    have hv : (combD F S a).1 = 8 := by unfold combD; rw [HAT.out, if_neg (by have := HIX.out; omega), if_pos (fun h => h1 h.1)]
    have HV := Lib.hid hv
    clear hv h1
    go_wp2_with fail
    refine (require_no 8 _).mono ?_
    rintro e w4 ⟨rfl, rfl⟩
    go_wp2_with fail
    exact ⟨rfl, ChoreSaid.err 8 HV.out (by decide) HBB2.out⟩
  have q1 : (h.stage == 1) = true := by simp [h1]
  have H1 := Lib.hid h1
  clear h1
  go_wp2_with fail
  refine (isDry_any F S h B _ HH2.out.box).mono ?_
  rintro e w4 ⟨rfl, hb4⟩
  have hH4 := HH2.out.below hb4
  have kA4 := KA2.out.belowS hb4
  have HBB4 := Lib.hid (HBB2.out.trans (hb4.mono (Nat.le_trans hbw hsz2)))
  have hsz4 := Nat.le_trans hsz2 hb4.size
  have hgl4 := Nat.lt_of_lt_of_le hgl hb4.size
  have HH4 := Lib.hid hH4
  have KA4 := Lib.hid kA4
  have c34 : w4.cell? ⟨g, i * 7 + 3, none⟩ = some (.slice h.pa h.parts.length h.pc) := (hb4.cell (p := ⟨g, i * 7 + 3, none⟩) hgl).trans c3
  have c24 : w4.cell? ⟨g, i * 7 + 2, none⟩ = some (.int .i64 h.stage) := (hb4.cell (p := ⟨g, i * 7 + 2, none⟩) hgl).trans c2
  have z24 : w4.frozen? ⟨g, i * 7 + 2, none⟩ = false := (World.frozen?_of_block (a := ⟨g, i * 7 + 2, none⟩) (hb4.block g hgl)).trans (HFZ.out _)
  clear c0 c1 c2 c3 c4 c5 c6 d5 lB hH4 kA4 hb4
  by_cases h3 : h.whi ≤ F.dry
  rotate_left
  · have q3 : decide (h.whi ≤ F.dry) = false := by simp [h3]
    have hv : (combD F S a).1 = 8 := by unfold combD; rw [HAT.out, if_neg (by have := HIX.out; omega), if_pos (fun h => h3 h.2)]
    have HV := Lib.hid hv
    clear hv h3
    rw [q3]
    go_wp2_with fail
    refine (require_no 8 _).mono ?_
    rintro e w5 ⟨rfl, rfl⟩
    go_wp2_with fail
    exact ⟨rfl, ChoreSaid.err 8 HV.out (by decide) HBB4.out⟩
  have q3 : decide (h.whi ≤ F.dry) = true := by simp [h3]
  have H3 := Lib.hid h3
  rw [q3]
  clear h3
  go_wp2_with fail
  refine (require_yes 8 _).mono ?_
  rintro e w5 ⟨rfl, rfl⟩
  have hlo : ∀ w', Below w5.heap.size w5 w' → Calls Tryz.prog 89 #[.slice h.pa h.parts.length h.pc] w' fun e w'' => e = .returned (.int .i64 (loadsM h.parts)) ∧ Below w'.heap.size w' w'' := fun w' hb => loadsOf_any F.ps.length h.pa h.pc h.parts w' (isPrts_own ((HH4.out.below hb).own.parts h (List.mem_of_getElem? HIH.out))) HOK.out hlen
  have HLO := Lib.hid hlo
  have lA := KA4.out.lt
  have x2 : w5.cell? ⟨w.heap.size, 2, none⟩ = some (.int .i64 a.loads) := KA4.out.cell 2
  have hstep : ∀ w', Below w5.heap.size w5 w' → Below w5.heap.size w5 w' ∧ (w'.cell? ⟨w.heap.size, 2, none⟩ = some (.int .i64 a.loads) ∧ w'.cell? ⟨g, i * 7 + 3, none⟩ = some (.slice h.pa h.parts.length h.pc)) :=
    fun w' hb => ⟨hb, (hb.cell (p := ⟨w.heap.size, 2, none⟩) lA).trans x2, (hb.cell (p := ⟨g, i * 7 + 3, none⟩) hgl4).trans c34⟩
  have HSTEP := Lib.hid hstep
  have hwr : IntKind.i64.wrap (loadsM h.parts - 1) = loadsM h.parts - 1 := IntWalk.i64_in _ (by omega)
  have C24 := Lib.hid c24
  have Z24 := Lib.hid z24
  clear hlo hstep x2 c34 c24 z24
  go_upto_region 4 with fail
  have hx := HSTEP.out w5.drew ((Below.refl _ w5).drew)
  cases h9 : isFromB a.loads 0 (loadsM h.parts - 1) with
  | false =>
    have hv : (combD F S a).1 = 1 := by unfold combD; rw [HAT.out, if_neg (by have := HIX.out; omega), if_neg (fun h => h ⟨H1.out, H3.out⟩), if_pos h9]
    have HV := Lib.hid hv
    have H9 := Lib.hid h9
    clear hv h9
    refine wp_region_E 10 (fun w' : World => Below w5.heap.size w5 w' ∧ (w'.cell? ⟨w.heap.size, 2, none⟩ = some (.int .i64 a.loads) ∧ w'.cell? ⟨g, i * 7 + 3, none⟩ = some (.slice h.pa h.parts.length h.pc))) (by kernel_rfl) ?_
    refine tR 0 rfl hx (v := ?v38) (.inl ⟨by rfl, ?y38⟩) ?r38
    case y38 => intro w' h; (try dsimp only at h); go_simp; try with_reducible rfl
    refine tR 1 rfl hx (v := ?v39) (.inl ⟨by rfl, ?y39⟩) ?r39
    case y39 => intro w' h; (try dsimp only at h); go_simp; try with_reducible rfl
    refine tR 2 rfl hx (v := ?v40) (.inl ⟨by rfl, ?y40⟩) ?r40
    case y40 => intro w' h; (try dsimp only at h); go_simp; try with_reducible rfl
    try simp only [Act.put, List.getElem_toArray, List.getElem_cons_zero, List.getElem_cons_succ, List.setIfInBounds_toArray, List.set_cons_zero, List.set_cons_succ]
    refine tR 3 rfl hx (v := ?v41) (.inl ⟨by rfl, ?y41⟩) ?r41
    case y41 => intro w' h; (try dsimp only at h); go_simp; try with_reducible rfl
    refine tR 4 rfl hx (v := ?v42) (.inl ⟨by rfl, ?y42⟩) ?r42
    case y42 => intro w' h; (try dsimp only at h); go_simp; try with_reducible rfl
    refine tR 5 rfl hx (v := ?v43) (.inl ⟨by rfl, ?y43⟩) ?r43
    case y43 => intro w' h; (try dsimp only at h); go_simp; try with_reducible rfl
    try simp only [Act.put, List.getElem_toArray, List.getElem_cons_zero, List.getElem_cons_succ, List.setIfInBounds_toArray, List.set_cons_zero, List.set_cons_succ]
    refine E_step (i := 6) (o := _) (by kernel_rfl) rfl (fun K hK => ?_)
    go_simp
    refine (HLO.out _ hx.1).mono ?_
    rintro r w6 ⟨rfl, hb6⟩
    dsimp only
    have hx5 := HSTEP.out w6 (hx.1.trans (hb6.mono hx.1.size))
    refine hK.out _ _ (fun _ => hx5) ?_
    clear hK K
    try simp only [Act.put, List.getElem_toArray, List.getElem_cons_zero, List.getElem_cons_succ, List.setIfInBounds_toArray, List.set_cons_zero, List.set_cons_succ]
    refine tR 7 rfl hx5 (v := ?v44) (.inl ⟨by rfl, ?y44⟩) ?r44
    case y44 => intro w' h; (try dsimp only at h); go_simp; try with_reducible rfl
    try simp only [Act.put, List.getElem_toArray, List.getElem_cons_zero, List.getElem_cons_succ, List.setIfInBounds_toArray, List.set_cons_zero, List.set_cons_succ]
    refine E_step (i := 8) (o := _) (by kernel_rfl) rfl (fun K hK => ?_)
    go_simp
    refine (isFrom_is H9.out _).mono ?_
    rintro r w7 ⟨rfl, rfl⟩
    dsimp only
    refine hK.out _ _ (fun _ => hx5) ?_
    clear hK K
    try simp only [Act.put, List.getElem_toArray, List.getElem_cons_zero, List.getElem_cons_succ, List.setIfInBounds_toArray, List.set_cons_zero, List.set_cons_succ]
    refine E_step (i := 9) (o := _) (by kernel_rfl) rfl (fun K hK => ?_)
    go_simp
    refine (require_no 1 _).mono ?_
    rintro r w7 ⟨rfl, rfl⟩
    dsimp only
    exact ⟨rfl, ChoreSaid.err 1 HV.out (by decide) (HBB4.out.trans (hx5.1.mono (Nat.le_trans hbw hsz4)))⟩
  | true =>
    have hk := isFromB_iff.1 h9
    have hv : combD F S a = (0, { S with waste := putL S.waste (cutT a.loads h.parts), heaps := moveH (S.heaps.set i { h with stage := 2 }) i a.loads }) := by
      unfold combD; rw [HAT.out, if_neg (by have := HIX.out; omega), if_neg (fun h => h ⟨H1.out, H3.out⟩), if_neg (by rw [h9]; simp), HIE.out]; rfl
    have HV := Lib.hid hv
    have H9 := Lib.hid h9
    clear hv h9
    refine wp_region_E 10 (fun w' : World => Below w5.heap.size w5 w' ∧ (w'.cell? ⟨w.heap.size, 2, none⟩ = some (.int .i64 a.loads) ∧ w'.cell? ⟨g, i * 7 + 3, none⟩ = some (.slice h.pa h.parts.length h.pc))) (by kernel_rfl) ?_
    refine tR 0 rfl hx (v := ?v45) (.inl ⟨by rfl, ?y45⟩) ?r45
    case y45 => intro w' h; (try dsimp only at h); go_simp; try with_reducible rfl
    refine tR 1 rfl hx (v := ?v46) (.inl ⟨by rfl, ?y46⟩) ?r46
    case y46 => intro w' h; (try dsimp only at h); go_simp; try with_reducible rfl
    refine tR 2 rfl hx (v := ?v47) (.inl ⟨by rfl, ?y47⟩) ?r47
    case y47 => intro w' h; (try dsimp only at h); go_simp; try with_reducible rfl
    try simp only [Act.put, List.getElem_toArray, List.getElem_cons_zero, List.getElem_cons_succ, List.setIfInBounds_toArray, List.set_cons_zero, List.set_cons_succ]
    refine tR 3 rfl hx (v := ?v48) (.inl ⟨by rfl, ?y48⟩) ?r48
    case y48 => intro w' h; (try dsimp only at h); go_simp; try with_reducible rfl
    refine tR 4 rfl hx (v := ?v49) (.inl ⟨by rfl, ?y49⟩) ?r49
    case y49 => intro w' h; (try dsimp only at h); go_simp; try with_reducible rfl
    refine tR 5 rfl hx (v := ?v50) (.inl ⟨by rfl, ?y50⟩) ?r50
    case y50 => intro w' h; (try dsimp only at h); go_simp; try with_reducible rfl
    try simp only [Act.put, List.getElem_toArray, List.getElem_cons_zero, List.getElem_cons_succ, List.setIfInBounds_toArray, List.set_cons_zero, List.set_cons_succ]
    refine E_step (i := 6) (o := _) (by kernel_rfl) rfl (fun K hK => ?_)
    go_simp
    refine (HLO.out _ hx.1).mono ?_
    rintro r w6 ⟨rfl, hb6⟩
    dsimp only
    have hx5 := HSTEP.out w6 (hx.1.trans (hb6.mono hx.1.size))
    refine hK.out _ _ (fun _ => hx5) ?_
    clear hK K
    try simp only [Act.put, List.getElem_toArray, List.getElem_cons_zero, List.getElem_cons_succ, List.setIfInBounds_toArray, List.set_cons_zero, List.set_cons_succ]
    refine tR 7 rfl hx5 (v := ?v51) (.inl ⟨by rfl, ?y51⟩) ?r51
    case y51 => intro w' h; (try dsimp only at h); go_simp; try with_reducible rfl
    try simp only [Act.put, List.getElem_toArray, List.getElem_cons_zero, List.getElem_cons_succ, List.setIfInBounds_toArray, List.set_cons_zero, List.set_cons_succ]
    refine E_step (i := 8) (o := _) (by kernel_rfl) rfl (fun K hK => ?_)
    go_simp
    refine (isFrom_is H9.out _).mono ?_
    rintro r w7 ⟨rfl, rfl⟩
    dsimp only
    refine hK.out _ _ (fun _ => hx5) ?_
    clear hK K
    try simp only [Act.put, List.getElem_toArray, List.getElem_cons_zero, List.getElem_cons_succ, List.setIfInBounds_toArray, List.set_cons_zero, List.set_cons_succ]
    refine E_step (i := 9) (o := _) (by kernel_rfl) rfl (fun K hK => ?_)
    go_simp
    refine (require_yes 1 _).mono ?_
    rintro r w7 ⟨rfl, rfl⟩
    dsimp only
    refine hK.out _ _ (fun _ => hx5) ?_
    clear hK K
    try simp only [Act.put, List.getElem_toArray, List.getElem_cons_zero, List.getElem_cons_succ, List.setIfInBounds_toArray, List.set_cons_zero, List.set_cons_succ]
    refine E_done (by kernel_rfl) ?_ _
    have hb7 := hx5.1
    have hgl7 := Nat.lt_of_lt_of_le hgl4 hb7.size
    have c27 : w7.cell? ⟨g, i * 7 + 2, none⟩ = some (.int .i64 h.stage) := (hb7.cell (p := ⟨g, i * 7 + 2, none⟩) hgl4).trans C24.out
    have z27 : w7.frozen? ⟨g, i * 7 + 2, none⟩ = false := (World.frozen?_of_block (a := ⟨g, i * 7 + 2, none⟩) (hb7.block g hgl4)).trans Z24.out
    have hH7 := HH4.out.below hb7
    have kA7 := KA4.out.belowS hb7
    have hsz7 := Nat.le_trans hsz4 hb7.size
    have HBB7 := Lib.hid (HBB4.out.trans (hb7.mono (Nat.le_trans hbw hsz4)))
    have hH8 := set_hand (j := 2) (y := { h with stage := 2 }) (v := .int .i64 2) hH7 HIH.out HGA.out (by omega) rfl rfl rfl rfl rfl
    have hAg : w.heap.size ≠ g := fun e => by have := HROWS.out g (rows_ha (by rw [HGA.out]; rfl)); omega
    have kA8 := kA7.other hAg (i := i * 7 + 2) (.int .i64 2)
    have hb8 : Below base w7 (w7.setCell ⟨g, i * 7 + 2, none⟩ (.int .i64 2)) := (Below.refl _ w7).setCell (p := ⟨g, i * 7 + 2, none⟩) hgb _
    have hs8 : (w7.setCell ⟨g, i * 7 + 2, none⟩ (.int .i64 2)).heap.size = w7.heap.size := by simp [World.setCell]
    have HH8 := Lib.hid hH8
    have KA8 := Lib.hid kA8
    have HBB8 := Lib.hid (HBB7.out.trans hb8)
    have HS8 := Lib.hid hs8
    clear hx hx5 hb6 hb7 hH7 kA7 hH8 kA8 hb8 hs8
    go_upto_region 6 with fail
    generalize w7.setCell ⟨g, i * 7 + 2, none⟩ (.int .i64 2) = W at *
    clear c27 z27
    have hsz8 : w.heap.size ≤ W.heap.size := by rw [HS8.out]; exact hsz7
    have lB7 := HH8.out.box.lt
    have lA7 := KA8.out.lt
    have y2 : W.cell? ⟨w.heap.size, 2, none⟩ = some (.int .i64 a.loads) := KA8.out.cell 2
    have y7 : W.cell? ⟨B, 7, none⟩ = some (.slice S.wa S.waste.length S.wc) := HH8.out.box.cell 7
    have hnA : ¬ TurnM S B S.wa w.heap.size := fun e => by
      rcases e with e | e | e
      · omega
      · have := HROWS.out _ (rows_ha e); omega
      · have := HROWS.out _ (rows_wa e); omega
    have hstep7 : ∀ w', Turn (TurnM S B S.wa) W w' → w'.cell? ⟨B, 7, none⟩ = some (.slice S.wa S.waste.length S.wc) → Turn (TurnM S B S.wa) W w' ∧ (w'.cell? ⟨w.heap.size, 2, none⟩ = some (.int .i64 a.loads) ∧ w'.cell? ⟨B, 7, none⟩ = some (.slice S.wa S.waste.length S.wc)) :=
      fun w' ht h6 => ⟨ht, (World.cell?_of_block (a := ⟨w.heap.size, 2, none⟩) (ht.block _ lA7 hnA)).trans y2, h6⟩
    have HST7 := Lib.hid hstep7
    have hx := HST7.out W.drew (Turn.of_below ((Below.refl _ W).drew)) y7
    have hih2 : (S.heaps.set i { h with stage := 2 })[i]? = some { h with stage := 2 } := by simp [hil]
    have hmv := move_any F { S with heaps := S.heaps.set i { h with stage := 2 } } { S with heaps := S.heaps.set i { h with stage := 2 }, wa := none, wc := 0, waste := [] } base B i a.loads { h with stage := 2 } S.wa S.wc S.waste 100000 W.drew ((HH8.out.below ((Below.refl _ W).drew)).noWaste) hih2 (Nat.le_trans hbw hsz8)
      (own_below HH8.out.own.waste ((Below.refl _ W).drew)) (fun k hk => ⟨out_wa HH8.out.own.apart k hk, fun e => HH8.out.out (by rw [← e]; exact rows_wa hk)⟩) (list_ok hs4) (by omega) (by omega) (by omega) F.ps.length HOK.out HPA.out hlen hk.1 (by show a.loads ≤ loadsM h.parts; omega) hl1
    have HMV := Lib.hid hmv
    clear hstep7 y2 y7 hmv hnA hih2
    refine wp_region_E 14 (fun w' : World => Turn (TurnM S B S.wa) W w' ∧ (w'.cell? ⟨w.heap.size, 2, none⟩ = some (.int .i64 a.loads) ∧ w'.cell? ⟨B, 7, none⟩ = some (.slice S.wa S.waste.length S.wc))) (by kernel_rfl) ?_
    refine tk 0 rfl hx (v := ?v52) (.inl ⟨by rfl, ?y52⟩) ?r52
    case y52 => intro w' h; (try dsimp only at h); go_simp; try with_reducible rfl
    refine tk 1 rfl hx (v := ?v53) (.inl ⟨by rfl, ?y53⟩) ?r53
    case y53 => intro w' h; (try dsimp only at h); go_simp; try with_reducible rfl
    refine tk 2 rfl hx (v := ?v54) (.inl ⟨by rfl, ?y54⟩) ?r54
    case y54 => intro w' h; (try dsimp only at h); go_simp; try with_reducible rfl
    try simp only [Act.put, List.getElem_toArray, List.getElem_cons_zero, List.getElem_cons_succ, List.setIfInBounds_toArray, List.set_cons_zero, List.set_cons_succ]
    refine tk 3 rfl hx (v := ?v55) (.inl ⟨by rfl, ?y55⟩) ?r55
    case y55 => intro w' h; (try dsimp only at h); go_simp; try with_reducible rfl
    refine tk 4 rfl hx (v := ?v56) (.inl ⟨by rfl, ?y56⟩) ?r56
    case y56 => intro w' h; (try dsimp only at h); go_simp; try with_reducible rfl
    refine tk 5 rfl hx (v := ?v57) (.inl ⟨by rfl, ?y57⟩) ?r57
    case y57 => intro w' h; (try dsimp only at h); go_simp; try with_reducible rfl
    try simp only [Act.put, List.getElem_toArray, List.getElem_cons_zero, List.getElem_cons_succ, List.setIfInBounds_toArray, List.set_cons_zero, List.set_cons_succ]
    refine tk 6 rfl hx (v := ?v58) (.inl ⟨by rfl, ?y58⟩) ?r58
    case y58 => intro w' h; (try dsimp only at h); go_simp; try with_reducible rfl
    refine tk 7 rfl hx (v := ?v59) (.inl ⟨by rfl, ?y59⟩) ?r59
    case y59 => intro w' h; (try dsimp only at h); go_simp; try with_reducible rfl
    refine tk 8 rfl hx (v := ?v60) (.inl ⟨by rfl, ?y60⟩) ?r60
    case y60 => intro w' h; (try dsimp only at h); go_simp; try with_reducible rfl
    try simp only [Act.put, List.getElem_toArray, List.getElem_cons_zero, List.getElem_cons_succ, List.setIfInBounds_toArray, List.set_cons_zero, List.set_cons_succ]
    refine tk 9 rfl hx (v := ?v61) (.inl ⟨by rfl, ?y61⟩) ?r61
    case y61 => intro w' h; (try dsimp only at h); go_simp; try with_reducible rfl
    try simp only [Act.put, List.getElem_toArray, List.getElem_cons_zero, List.getElem_cons_succ, List.setIfInBounds_toArray, List.set_cons_zero, List.set_cons_succ]
    refine E_step (i := 10) (o := _) (by kernel_rfl) rfl (fun K hK => ?_)
    go_simp
    refine (HMV.out).mono ?_
    rintro r w8 ⟨⟨a2, c2, rfl, hrow2, H, hsame, hH8, hap8⟩, hT8⟩
    dsimp only
    have hx8 := HST7.out w8 ((Turn.of_below ((Below.refl _ W).drew)).trans hT8) (hH8.box.cell 7)
    refine hK.out _ _ (fun _ => hx8) ?_
    clear hK K
    try simp only [Act.put, List.getElem_toArray, List.getElem_cons_zero, List.getElem_cons_succ, List.setIfInBounds_toArray, List.set_cons_zero, List.set_cons_succ]
    refine E_step (i := 11) (o := _) (by kernel_rfl) rfl (fun K hK => ?_)
    go_simp
    refine hK.out _ _ (fun _ => hx8) ?_
    clear hK K
    try simp only [Act.put, List.getElem_toArray, List.getElem_cons_zero, List.getElem_cons_succ, List.setIfInBounds_toArray, List.set_cons_zero, List.set_cons_succ]
    refine E_step (i := 12) (o := _) (by kernel_rfl) rfl (fun K hK => ?_)
    go_simp
    refine hK.out _ _ (fun _ => hx8) ?_
    clear hK K
    try simp only [Act.put, List.getElem_toArray, List.getElem_cons_zero, List.getElem_cons_succ, List.setIfInBounds_toArray, List.set_cons_zero, List.set_cons_succ]
    refine E_step (i := 13) (o := _) (by kernel_rfl) rfl (fun K hK => ?_)
    go_simp
    refine hK.out _ _ (fun _ => hx8) ?_
    clear hK K
    try simp only [Act.put, List.getElem_toArray, List.getElem_cons_zero, List.getElem_cons_succ, List.setIfInBounds_toArray, List.set_cons_zero, List.set_cons_succ]
    have lB8 := hH8.box.lt
    have z78 := hH8.box.frozen 7
    have y78 := hx8.2.2
    have HH9 := Lib.hid hH8
    have HR2 := Lib.hid hrow2
    have HA8 := Lib.hid hap8
    have HT8 := Lib.hid ((Turn.of_below ((Below.refl _ W).drew)).trans hT8)
    clear hx hx8 hH8 hrow2 hap8 hT8
    refine E_step (i := 14) (o := _) (by kernel_rfl) rfl (fun K hK => ?_)
    go_simp
    refine hK.out _ _ (fun h => absurd rfl h) ?_
    clear hK K
    try simp only [Act.put]
    refine E_done (by kernel_rfl) ?_ _
    go_end0
    refine ⟨.inl ⟨by rw [HV.out], rfl, _, ?_, Hand.putWaste (S := { S with heaps := H }) HH9.out HR2.out HA8.out⟩, ?_⟩
    · rw [HV.out]
      have hs : sameH H (moveH (S.heaps.set i { h with stage := 2 }) i a.loads) := hsame
      exact ⟨rfl, rfl, rfl, rfl, rfl, hs.1, hs.2⟩
    · refine HBB8.out.trans ((HT8.out.below (Nat.le_trans hbw hsz8) ?_).setCell (p := ⟨B, 7, none⟩) hbB _)
      intro k e
      rcases e with rfl | e | e
      · exact hbB
      · exact HGE.out k (rows_ha e)
      · exact HGE.out k (rows_wa e)

end Go.Proofs.YtfhalmlpnoepcaaGreat
