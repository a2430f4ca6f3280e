/- Chores: comb. A farm, a need among the arguments, opened: whatever reads as data of type api.Farm is a farm in memory. A store among the arguments, opened: whatever reads as data of type api.Store is a store in memory. -/
import Derived.Test.YtghepojnimlafaaJVQ
import Derived.Test.YtghepojnimlafaaQFB
import Derived.OpenShut
import Derived.Deep.Slices
import Derived.ProofKit
import Derived.Test.YtghepojnimlafaaQGC
namespace Go.Proofs.Ytghepojnimlafaa
section
set_option linter.unusedSimpArgs false
open Go.RowKit

/-- A heap told otherwise, in its place. -/
theorem set_hand {F : Frm} {base B : Nat} {w : World} {S : Sto} {i g j : Nat} {h y : Hep} {v : Value} (hH : Hand F base B w S S) (hi : S.heaps[i]? = some h) (hg : S.ha = some ⟨g, 0, none⟩) (hj : j < 7) (hc : cellsHep y = (cellsHep h).set j v)
    (h1 : y.pa = h.pa) (h2 : y.pc = h.pc) (h3 : y.parts = h.parts) (h4 : y.name = h.name) :
    Hand F base B (w.setCell ⟨g, i * 7 + j, none⟩ v) { S with heaps := S.heaps.set i y } { S with heaps := S.heaps.set i y } := by
  have hil := (List.getElem?_eq_some_iff.1 hi).1
  have hgR : S.ha.map (·.block) = some g := by rw [hg]; rfl
  have hgo := out_ha hH.own.apart g hgR
  have hBg : B ≠ g := fun e => hH.out (rows_ha (by rw [hgR, e]))
  have hT : Turn (fun k => k = g) w (w.setCell ⟨g, i * 7 + j, none⟩ v) := (Turn.of_below (X := fun k => k = g) (Below.refl _ w)).setCell (B := g) rfl _ _
  have hrw := hH.own.heaps
  rw [hg] at hrw
  have hrw2 := ownsRow_setOwn hrw (i := i * 7 + j) (by omega) v
  rw [flat_set cellsHep 7 (fun _ => rfl) S.heaps i j h y v hi hj hc] at hrw2
  have hlen : (S.heaps.set i y).length = S.heaps.length := List.length_set ..
  have hrows : rowsOf { S with heaps := S.heaps.set i y } = rowsOf S := by
    unfold rowsOf
    have : (S.heaps.set i y).map (·.pa) = S.heaps.map (·.pa) := by
      rw [List.map_set, h1]
      refine List.ext_getElem (by simp) fun k k1 k2 => ?_
      rw [List.getElem_set]
      split
      · next e => subst e; simp [(List.getElem?_eq_some_iff.1 hi).2]
      · rfl
    simp only [this]
  refine ⟨?_, ?_, by rw [hrows]; exact hH.out, hH.le, rfl, rfl, rfl⟩
  · have := hH.box.other hBg (i := i * 7 + j) v
    show Blk _ _ #[_, _, _, _, _, .slice S.ha (S.heaps.set i _).length S.hc, _, _] _
    rw [hlen]
    exact this
  · refine OwnSto.heapsRow hH.own hT (fun k e => by rw [show k = g from e]; exact hgo) (by rw [hlen, hg]; exact hrw2) (fun x hx => ?_) (by rw [hrows]; exact hH.own.apart)
    rcases List.mem_or_eq_of_mem_set hx with hm | rfl
    · exact ⟨x, hm, rfl, rfl, rfl, rfl⟩
    · exact ⟨h, List.mem_of_getElem? hi, h1, h2, h3, h4⟩
/-- The heaps' row of a hand's store, at one heap. -/
theorem Hand.hep {F : Frm} {base B : Nat} {w : World} {S : Sto} {i : Nat} {h : Hep} (hH : Hand F base B w S S) (hi : S.heaps[i]? = some h) :
    ∃ g, S.ha = some ⟨g, 0, none⟩ ∧ base ≤ g ∧ g < w.heap.size ∧ (S.heaps.length ≤ S.hc ∧ S.hc ≤ 9223372036854775807) ∧ (∀ j, j < 7 → w.cell? ⟨g, i * 7 + j, none⟩ = (cellsHep h)[j]?) ∧ (∀ j, w.frozen? ⟨g, j, none⟩ = false) ∧ g ≠ B := by
  have hil := (List.getElem?_eq_some_iff.1 hi).1
  have hrow := hH.own.heaps
  obtain ⟨g, cap, hv, hbg, hgl⟩ := hrow.form (by omega)
  obtain ⟨hga, _, rfl⟩ := slice_inj hv
  have h1 := hrow
  rw [hga] at h1
  refine ⟨g, hga, hbg, hgl, ?_, fun j hj => ?_, fun j => h1.frozenAt _, fun e => hH.out (rows_ha (by rw [hga, ← e]; rfl))⟩
  · rcases hrow.2 with ⟨_, h0⟩ | ⟨_, _, _, e, _, _, h1, h2, _⟩
    · omega
    · obtain ⟨_, _, rfl⟩ := slice_inj e
      unfold maxLen at h2
      omega
  · rw [h1.cellAt _ (by omega)]
    exact flat_at cellsHep 7 (fun _ => rfl) S.heaps i j h hi hj

set_option maxRecDepth 100000 in
set_option maxHeartbeats 8000000 in
theorem comb_any (F : Frm) (S : Sto) (a : Chr) (base B : Nat) (w : World) (hH : Hand F base B w S S) (hE : storeE F S = 0) (hfit : S.fit) (hbw : base ≤ w.heap.size) :
    Calls Try.prog 53 #[.pointer (some ⟨B, 0, none⟩), .agg (chrC a)] w (ChoreSaid F base B (combD F S a) w) := by
  obtain ⟨hs1, hs2, hs3, hs4, hs5⟩ := store_ok hE
  have hheap := fun h hm => heap_ok hE hfit (h := h) hm
  obtain ⟨hf1, hf2, hf3, hf4⟩ := hfit
  have hb1 : Below w.heap.size w (w.alloc (.cells (chrC a) 40)) := (Below.refl _ w).alloc (Nat.le_refl _) _
  have kA := Blk.new w 40 (chrC a)
  have hH1 := hH.below hb1
  have hBw := hH.box.lt
  have hrows := fun k hk => (hH.own.ge k hk).2
  have HROWS := Lib.hid hrows
  have hge := fun k hk => (hH.own.ge k hk).1
  have HGE := Lib.hid hge
  have hbB := hH.le
  clear hrows hge
  have hbb := Lib.hid (hb1.mono hbw)
  unfold chrC at hb1 kA hH1 ⊢
  go_enter Try.func53, Try.ntmps53
  go_upto_region 1 with fail
  generalize w.alloc (.cells #[.int .i64 a.kind, .int .i64 a.plot, .int .i64 a.loads, .string a.name, .string a.other, .int .i64 a.days, .int .i64 a.per, .int .i64 a.rlo, .int .i64 a.rhi] 40) = w1 at *
  have e3 : w1.cell? ⟨w.heap.size, 3, none⟩ = some (.string a.name) := kA.cell 3
  have lA := kA.lt
  have HH1 := Lib.hid hH1
  have HB1 := Lib.hid hb1
  have KA := Lib.hid kA
  have HHEAP := Lib.hid hheap
  clear hH hH1 hb1 kA hheap
  go_wp2_with fail
  refine (find_any F S a.name B _ HH1.out.box HH1.out.isHeps).mono ?_
  rintro e w2 ⟨hf, hb2⟩
  rcases hf with ⟨hix, rfl⟩ | ⟨hix, rfl⟩
  rotate_left
  · go_wp2_with fail
    exact ⟨rfl, ChoreSaid.err 7 (by simp [combD, hix]) (by decide) (hbb.out.trans (hb2.mono (Nat.le_trans hbw HB1.out.size)))⟩
  obtain ⟨i, h, hie, hil, hih, _⟩ := idxH_at hix
  have hat := hepAt_of hie hih
  rw [hie]
  have hH2 := HH1.out.below hb2
  have kA2 := KA.out.belowS hb2
  obtain ⟨hok, hpa, hlen, ⟨hl0, hl1⟩, hper, hwet⟩ := HHEAP.out h (List.mem_of_getElem? hih)
  obtain ⟨g, hga, hgb, hgl, ⟨hcap, hcx⟩, hcells, hfz, hgB⟩ := hH2.hep hih
  have d5 : w2.cell? ⟨B, 5, none⟩ = some (.slice S.ha S.heaps.length S.hc) := hH2.box.cell 5
  rw [hga] at d5
  have lB := hH2.box.lt
  have hi0 : (0 : Int) ≤ (i : Int) := Int.natCast_nonneg _
  have hi1 : (i : Int) < (S.heaps.length : Int) := by omega
  have hsz2 := Nat.le_trans HB1.out.size hb2.size
  have HBB2 := Lib.hid (hbb.out.trans (hb2.mono (Nat.le_trans hbw HB1.out.size)))
  have c0 : w2.cell? ⟨g, i * 7, none⟩ = some (.string h.name) := hcells 0 (by omega)
  have c1 : w2.cell? ⟨g, i * 7 + 1, none⟩ = some (.int .i64 h.crop) := hcells 1 (by omega)
  have c2 : w2.cell? ⟨g, i * 7 + 2, none⟩ = some (.int .i64 h.stage) := hcells 2 (by omega)
  have c3 : w2.cell? ⟨g, i * 7 + 3, none⟩ = some (.slice h.pa h.parts.length h.pc) := hcells 3 (by omega)
  have c4 : w2.cell? ⟨g, i * 7 + 4, none⟩ = some (.int .i64 h.per) := hcells 4 (by omega)
  have c5 : w2.cell? ⟨g, i * 7 + 5, none⟩ = some (.int .i64 h.wlo) := hcells 5 (by omega)
  have c6 : w2.cell? ⟨g, i * 7 + 6, none⟩ = some (.int .i64 h.whi) := hcells 6 (by omega)
  have HIE := Lib.hid hie
  have HIH := Lib.hid hih
  have HAT := Lib.hid hat
  have HIX := Lib.hid hix
  have HGA := Lib.hid hga
  have HOK := Lib.hid hok
  have HPA := Lib.hid hpa
  have HH2 := Lib.hid hH2
  have KA2 := Lib.hid kA2
  have HFZ := Lib.hid hfz
  clear hie hih hat hix hga hok hpa hH2 kA2 hb2 e3 lA hcells hfz
  by_cases h1 : h.stage = 1
  rotate_left
  · have q1 : (h.stage == 1) = false := by simp [h1]
    have hv : (combD F S a).1 = 8 := by unfold combD; rw [HAT.out, if_neg (by have := HIX.out; omega), if_pos (fun h => h1 h.1)]
    have HV := Lib.hid hv
    clear hv h1
    go_wp2_with fail
    refine (require_no 8 _).mono ?_
    rintro e w4 ⟨rfl, rfl⟩
    go_wp2_with fail
    exact ⟨rfl, ChoreSaid.err 8 HV.out (by decide) HBB2.out⟩
  have q1 : (h.stage == 1) = true := by simp [h1]
  have H1 := Lib.hid h1
  clear h1
  go_wp2_with fail
  refine (isDry_any F S h B _ HH2.out.box).mono ?_
  rintro e w4 ⟨rfl, hb4⟩
  have hH4 := HH2.out.below hb4
  have kA4 := KA2.out.belowS hb4
  have HBB4 := Lib.hid (HBB2.out.trans (hb4.mono (Nat.le_trans hbw hsz2)))
  have hsz4 := Nat.le_trans hsz2 hb4.size
  have hgl4 := Nat.lt_of_lt_of_le hgl hb4.size
  have HH4 := Lib.hid hH4
  have KA4 := Lib.hid kA4
  have c34 : w4.cell? ⟨g, i * 7 + 3, none⟩ = some (.slice h.pa h.parts.length h.pc) := (hb4.cell (p := ⟨g, i * 7 + 3, none⟩) hgl).trans c3
  have c24 : w4.cell? ⟨g, i * 7 + 2, none⟩ = some (.int .i64 h.stage) := (hb4.cell (p := ⟨g, i * 7 + 2, none⟩) hgl).trans c2
  have z24 : w4.frozen? ⟨g, i * 7 + 2, none⟩ = false := (World.frozen?_of_block (a := ⟨g, i * 7 + 2, none⟩) (hb4.block g hgl)).trans (HFZ.out _)
  clear c0 c1 c2 c3 c4 c5 c6 d5 lB hH4 kA4 hb4
  by_cases h3 : h.whi ≤ F.dry
  rotate_left
  · have q3 : decide (h.whi ≤ F.dry) = false := by simp [h3]
    have hv : (combD F S a).1 = 8 := by unfold combD; rw [HAT.out, if_neg (by have := HIX.out; omega), if_pos (fun h => h3 h.2)]
    have HV := Lib.hid hv
    clear hv h3
    rw [q3]
    go_wp2_with fail
    refine (require_no 8 _).mono ?_
    rintro e w5 ⟨rfl, rfl⟩
    go_wp2_with fail
    exact ⟨rfl, ChoreSaid.err 8 HV.out (by decide) HBB4.out⟩
  have q3 : decide (h.whi ≤ F.dry) = true := by simp [h3]
  have H3 := Lib.hid h3
  rw [q3]
  clear h3
  go_wp2_with fail
  refine (require_yes 8 _).mono ?_
  rintro e w5 ⟨rfl, rfl⟩
  have hlo : ∀ w', Below w5.heap.size w5 w' → Calls Try.prog 63 #[.slice h.pa h.parts.length h.pc] w' fun e w'' => e = .returned (.int .i64 (loadsM h.parts)) ∧ Below w'.heap.size w' w'' := fun w' hb => loadsOf_any F.ps.length h.pa h.pc h.parts w' (isPrts_own ((HH4.out.below hb).own.parts h (List.mem_of_getElem? HIH.out))) HOK.out hlen
  have HLO := Lib.hid hlo
  have lA := KA4.out.lt
  have x2 : w5.cell? ⟨w.heap.size, 2, none⟩ = some (.int .i64 a.loads) := KA4.out.cell 2
  have hstep : ∀ w', Below w5.heap.size w5 w' → Below w5.heap.size w5 w' ∧ (w'.cell? ⟨w.heap.size, 2, none⟩ = some (.int .i64 a.loads) ∧ w'.cell? ⟨g, i * 7 + 3, none⟩ = some (.slice h.pa h.parts.length h.pc)) :=
    fun w' hb => ⟨hb, (hb.cell (p := ⟨w.heap.size, 2, none⟩) lA).trans x2, (hb.cell (p := ⟨g, i * 7 + 3, none⟩) hgl4).trans c34⟩
  have HSTEP := Lib.hid hstep
  have hwr : IntKind.i64.wrap (loadsM h.parts - 1) = loadsM h.parts - 1 := IntWalk.i64_in _ (by omega)
  have C24 := Lib.hid c24
  have Z24 := Lib.hid z24
  clear hlo hstep x2 c34 c24 z24
  go_upto_region 4 with fail
  have hx := HSTEP.out w5.drew ((Below.refl _ w5).drew)
  cases h9 : isFromB a.loads 0 (loadsM h.parts - 1) with
  | false =>
    have hv : (combD F S a).1 = 1 := by unfold combD; rw [HAT.out, if_neg (by have := HIX.out; omega), if_neg (fun h => h ⟨H1.out, H3.out⟩), if_pos h9]
    have HV := Lib.hid hv
    have H9 := Lib.hid h9
    clear hv h9
    refine wp_region_E 10 (fun w' : World => Below w5.heap.size w5 w' ∧ (w'.cell? ⟨w.heap.size, 2, none⟩ = some (.int .i64 a.loads) ∧ w'.cell? ⟨g, i * 7 + 3, none⟩ = some (.slice h.pa h.parts.length h.pc))) (by kernel_rfl) ?_
    refine E_takeR (i := 0) (oi := _) (v := ?v38) rfl (by kernel_rfl) (by kernel_rfl) (by kernel_rfl) (by decide) (fun _ _ _ h => h) hx (Or.inl ⟨by rfl, ?y38⟩) ?r38
    case y38 => (intro w' hSw; (try dsimp only at hSw); go_simp; try with_reducible rfl)
    try simp only [Act.put, List.getElem_toArray, List.getElem_cons_zero, List.getElem_cons_succ, List.setIfInBounds_toArray, List.set_cons_zero, List.set_cons_succ]
    refine E_takeR (i := 1) (oi := _) (v := ?v39) rfl (by kernel_rfl) (by kernel_rfl) (by kernel_rfl) (by decide) (fun _ _ _ h => h) hx (Or.inl ⟨by rfl, ?y39⟩) ?r39
    case y39 => (intro w' hSw; (try dsimp only at hSw); go_simp; try with_reducible rfl)
    try simp only [Act.put, List.getElem_toArray, List.getElem_cons_zero, List.getElem_cons_succ, List.setIfInBounds_toArray, List.set_cons_zero, List.set_cons_succ]
    refine E_takeR (i := 2) (oi := _) (v := ?v40) rfl (by kernel_rfl) (by kernel_rfl) (by kernel_rfl) (by decide) (fun _ _ _ h => h) hx (Or.inl ⟨by rfl, ?y40⟩) ?r40
    case y40 => (intro w' hSw; (try dsimp only at hSw); go_simp; try with_reducible rfl)
    try simp only [Act.put, List.getElem_toArray, List.getElem_cons_zero, List.getElem_cons_succ, List.setIfInBounds_toArray, List.set_cons_zero, List.set_cons_succ]
    refine E_takeR (i := 3) (oi := _) (v := ?v41) rfl (by kernel_rfl) (by kernel_rfl) (by kernel_rfl) (by decide) (fun _ _ _ h => h) hx (Or.inl ⟨by rfl, ?y41⟩) ?r41
    case y41 => (intro w' hSw; (try dsimp only at hSw); go_simp; try with_reducible rfl)
    try simp only [Act.put, List.getElem_toArray, List.getElem_cons_zero, List.getElem_cons_succ, List.setIfInBounds_toArray, List.set_cons_zero, List.set_cons_succ]
    refine E_takeR (i := 4) (oi := _) (v := ?v42) rfl (by kernel_rfl) (by kernel_rfl) (by kernel_rfl) (by decide) (fun _ _ _ h => h) hx (Or.inl ⟨by rfl, ?y42⟩) ?r42
    case y42 => (intro w' hSw; (try dsimp only at hSw); go_simp; try with_reducible rfl)
    try simp only [Act.put, List.getElem_toArray, List.getElem_cons_zero, List.getElem_cons_succ, List.setIfInBounds_toArray, List.set_cons_zero, List.set_cons_succ]
    refine E_takeR (i := 5) (oi := _) (v := ?v43) rfl (by kernel_rfl) (by kernel_rfl) (by kernel_rfl) (by decide) (fun _ _ _ h => h) hx (Or.inl ⟨by rfl, ?y43⟩) ?r43
    case y43 => (intro w' hSw; (try dsimp only at hSw); go_simp; try with_reducible rfl)
    try simp only [Act.put, List.getElem_toArray, List.getElem_cons_zero, List.getElem_cons_succ, List.setIfInBounds_toArray, List.set_cons_zero, List.set_cons_succ]
    refine E_step (i := 6) (o := _) (by kernel_rfl) rfl (fun K hK => ?_)
    go_simp
    refine (HLO.out _ hx.1).mono ?_
    rintro r w6 ⟨rfl, hb6⟩
    dsimp only
    have hx5 := HSTEP.out w6 (hx.1.trans (hb6.mono hx.1.size))
    refine hK.out _ _ (fun _ => hx5) ?_
    clear hK K
    try simp only [Act.put, List.getElem_toArray, List.getElem_cons_zero, List.getElem_cons_succ, List.setIfInBounds_toArray, List.set_cons_zero, List.set_cons_succ]
    refine E_takeR (i := 7) (oi := _) (v := ?v44) rfl (by kernel_rfl) (by kernel_rfl) (by kernel_rfl) (by decide) (fun _ _ _ h => h) hx5 (Or.inl ⟨by rfl, ?y44⟩) ?r44
    case y44 => (intro w' hSw; (try dsimp only at hSw); go_simp; try with_reducible rfl)
    try simp only [Act.put, List.getElem_toArray, List.getElem_cons_zero, List.getElem_cons_succ, List.setIfInBounds_toArray, List.set_cons_zero, List.set_cons_succ]
    refine E_step (i := 8) (o := _) (by kernel_rfl) rfl (fun K hK => ?_)
    go_simp
    refine (isFrom_is H9.out _).mono ?_
    rintro r w7 ⟨rfl, rfl⟩
    dsimp only
    refine hK.out _ _ (fun _ => hx5) ?_
    clear hK K
    try simp only [Act.put, List.getElem_toArray, List.getElem_cons_zero, List.getElem_cons_succ, List.setIfInBounds_toArray, List.set_cons_zero, List.set_cons_succ]
    refine E_step (i := 9) (o := _) (by kernel_rfl) rfl (fun K hK => ?_)
    go_simp
    refine (require_no 1 _).mono ?_
    rintro r w7 ⟨rfl, rfl⟩
    dsimp only
    exact ⟨rfl, ChoreSaid.err 1 HV.out (by decide) (HBB4.out.trans (hx5.1.mono (Nat.le_trans hbw hsz4)))⟩
  | true =>
    have hk := isFromB_iff.1 h9
    have hv : combD F S a = (0, { S with waste := putL S.waste (cutT a.loads h.parts), heaps := moveH (S.heaps.set i { h with stage := 2 }) i a.loads }) := by
      unfold combD; rw [HAT.out, if_neg (by have := HIX.out; omega), if_neg (fun h => h ⟨H1.out, H3.out⟩), if_neg (by rw [h9]; simp), HIE.out]; rfl
    have HV := Lib.hid hv
    have H9 := Lib.hid h9
    clear hv h9
    refine wp_region_E 10 (fun w' : World => Below w5.heap.size w5 w' ∧ (w'.cell? ⟨w.heap.size, 2, none⟩ = some (.int .i64 a.loads) ∧ w'.cell? ⟨g, i * 7 + 3, none⟩ = some (.slice h.pa h.parts.length h.pc))) (by kernel_rfl) ?_
    refine E_takeR (i := 0) (oi := _) (v := ?v45) rfl (by kernel_rfl) (by kernel_rfl) (by kernel_rfl) (by decide) (fun _ _ _ h => h) hx (Or.inl ⟨by rfl, ?y45⟩) ?r45
    case y45 => (intro w' hSw; (try dsimp only at hSw); go_simp; try with_reducible rfl)
    try simp only [Act.put, List.getElem_toArray, List.getElem_cons_zero, List.getElem_cons_succ, List.setIfInBounds_toArray, List.set_cons_zero, List.set_cons_succ]
    refine E_takeR (i := 1) (oi := _) (v := ?v46) rfl (by kernel_rfl) (by kernel_rfl) (by kernel_rfl) (by decide) (fun _ _ _ h => h) hx (Or.inl ⟨by rfl, ?y46⟩) ?r46
    case y46 => (intro w' hSw; (try dsimp only at hSw); go_simp; try with_reducible rfl)
    try simp only [Act.put, List.getElem_toArray, List.getElem_cons_zero, List.getElem_cons_succ, List.setIfInBounds_toArray, List.set_cons_zero, List.set_cons_succ]
    refine E_takeR (i := 2) (oi := _) (v := ?v47) rfl (by kernel_rfl) (by kernel_rfl) (by kernel_rfl) (by decide) (fun _ _ _ h => h) hx (Or.inl ⟨by rfl, ?y47⟩) ?r47
    case y47 => (intro w' hSw; (try dsimp only at hSw); go_simp; try with_reducible rfl)
    try simp only [Act.put, List.getElem_toArray, List.getElem_cons_zero, List.getElem_cons_succ, List.setIfInBounds_toArray, List.set_cons_zero, List.set_cons_succ]
    refine E_takeR (i := 3) (oi := _) (v := ?v48) rfl (by kernel_rfl) (by kernel_rfl) (by kernel_rfl) (by decide) (fun _ _ _ h => h) hx (Or.inl ⟨by rfl, ?y48⟩) ?r48
    case y48 => (intro w' hSw; (try dsimp only at hSw); go_simp; try with_reducible rfl)
    try simp only [Act.put, List.getElem_toArray, List.getElem_cons_zero, List.getElem_cons_succ, List.setIfInBounds_toArray, List.set_cons_zero, List.set_cons_succ]
    refine E_takeR (i := 4) (oi := _) (v := ?v49) rfl (by kernel_rfl) (by kernel_rfl) (by kernel_rfl) (by decide) (fun _ _ _ h => h) hx (Or.inl ⟨by rfl, ?y49⟩) ?r49
    case y49 => (intro w' hSw; (try dsimp only at hSw); go_simp; try with_reducible rfl)
    try simp only [Act.put, List.getElem_toArray, List.getElem_cons_zero, List.getElem_cons_succ, List.setIfInBounds_toArray, List.set_cons_zero, List.set_cons_succ]
    refine E_takeR (i := 5) (oi := _) (v := ?v50) rfl (by kernel_rfl) (by kernel_rfl) (by kernel_rfl) (by decide) (fun _ _ _ h => h) hx (Or.inl ⟨by rfl, ?y50⟩) ?r50
    case y50 => (intro w' hSw; (try dsimp only at hSw); go_simp; try with_reducible rfl)
    try simp only [Act.put, List.getElem_toArray, List.getElem_cons_zero, List.getElem_cons_succ, List.setIfInBounds_toArray, List.set_cons_zero, List.set_cons_succ]
    refine E_step (i := 6) (o := _) (by kernel_rfl) rfl (fun K hK => ?_)
    go_simp
    refine (HLO.out _ hx.1).mono ?_
    rintro r w6 ⟨rfl, hb6⟩
    dsimp only
    have hx5 := HSTEP.out w6 (hx.1.trans (hb6.mono hx.1.size))
    refine hK.out _ _ (fun _ => hx5) ?_
    clear hK K
    try simp only [Act.put, List.getElem_toArray, List.getElem_cons_zero, List.getElem_cons_succ, List.setIfInBounds_toArray, List.set_cons_zero, List.set_cons_succ]
    refine E_takeR (i := 7) (oi := _) (v := ?v51) rfl (by kernel_rfl) (by kernel_rfl) (by kernel_rfl) (by decide) (fun _ _ _ h => h) hx5 (Or.inl ⟨by rfl, ?y51⟩) ?r51
    case y51 => (intro w' hSw; (try dsimp only at hSw); go_simp; try with_reducible rfl)
    try simp only [Act.put, List.getElem_toArray, List.getElem_cons_zero, List.getElem_cons_succ, List.setIfInBounds_toArray, List.set_cons_zero, List.set_cons_succ]
    refine E_step (i := 8) (o := _) (by kernel_rfl) rfl (fun K hK => ?_)
    go_simp
    refine (isFrom_is H9.out _).mono ?_
    rintro r w7 ⟨rfl, rfl⟩
    dsimp only
    refine hK.out _ _ (fun _ => hx5) ?_
    clear hK K
    try simp only [Act.put, List.getElem_toArray, List.getElem_cons_zero, List.getElem_cons_succ, List.setIfInBounds_toArray, List.set_cons_zero, List.set_cons_succ]
    refine E_step (i := 9) (o := _) (by kernel_rfl) rfl (fun K hK => ?_)
    go_simp
    refine (require_yes 1 _).mono ?_
    rintro r w7 ⟨rfl, rfl⟩
    dsimp only
    refine hK.out _ _ (fun _ => hx5) ?_
    clear hK K
    try simp only [Act.put, List.getElem_toArray, List.getElem_cons_zero, List.getElem_cons_succ, List.setIfInBounds_toArray, List.set_cons_zero, List.set_cons_succ]
    refine E_done (by kernel_rfl) ?_ _
    have hb7 := hx5.1
    have hgl7 := Nat.lt_of_lt_of_le hgl4 hb7.size
    have c27 : w7.cell? ⟨g, i * 7 + 2, none⟩ = some (.int .i64 h.stage) := (hb7.cell (p := ⟨g, i * 7 + 2, none⟩) hgl4).trans C24.out
    have z27 : w7.frozen? ⟨g, i * 7 + 2, none⟩ = false := (World.frozen?_of_block (a := ⟨g, i * 7 + 2, none⟩) (hb7.block g hgl4)).trans Z24.out
    have hH7 := HH4.out.below hb7
    have kA7 := KA4.out.belowS hb7
    have hsz7 := Nat.le_trans hsz4 hb7.size
    have HBB7 := Lib.hid (HBB4.out.trans (hb7.mono (Nat.le_trans hbw hsz4)))
    have hH8 := set_hand (j := 2) (y := { h with stage := 2 }) (v := .int .i64 2) hH7 HIH.out HGA.out (by omega) rfl rfl rfl rfl rfl
    have hAg : w.heap.size ≠ g := fun e => by have := HROWS.out g (rows_ha (by rw [HGA.out]; rfl)); omega
    have kA8 := kA7.other hAg (i := i * 7 + 2) (.int .i64 2)
    have hb8 : Below base w7 (w7.setCell ⟨g, i * 7 + 2, none⟩ (.int .i64 2)) := (Below.refl _ w7).setCell (p := ⟨g, i * 7 + 2, none⟩) hgb _
    have hs8 : (w7.setCell ⟨g, i * 7 + 2, none⟩ (.int .i64 2)).heap.size = w7.heap.size := by simp [World.setCell]
    have HH8 := Lib.hid hH8
    have KA8 := Lib.hid kA8
    have HBB8 := Lib.hid (HBB7.out.trans hb8)
    have HS8 := Lib.hid hs8
    clear hx hx5 hb6 hb7 hH7 kA7 hH8 kA8 hb8 hs8
    go_upto_region 6 with fail
    generalize w7.setCell ⟨g, i * 7 + 2, none⟩ (.int .i64 2) = W at *
    clear c27 z27
    have hsz8 : w.heap.size ≤ W.heap.size := by rw [HS8.out]; exact hsz7
    have lB7 := HH8.out.box.lt
    have lA7 := KA8.out.lt
    have y2 : W.cell? ⟨w.heap.size, 2, none⟩ = some (.int .i64 a.loads) := KA8.out.cell 2
    have y7 : W.cell? ⟨B, 7, none⟩ = some (.slice S.wa S.waste.length S.wc) := HH8.out.box.cell 7
    have hnA : ¬ TurnM S B S.wa w.heap.size := fun e => by
      rcases e with e | e | e
      · omega
      · have := HROWS.out _ (rows_ha e); omega
      · have := HROWS.out _ (rows_wa e); omega
    have hstep7 : ∀ w', Turn (TurnM S B S.wa) W w' → w'.cell? ⟨B, 7, none⟩ = some (.slice S.wa S.waste.length S.wc) → Turn (TurnM S B S.wa) W w' ∧ (w'.cell? ⟨w.heap.size, 2, none⟩ = some (.int .i64 a.loads) ∧ w'.cell? ⟨B, 7, none⟩ = some (.slice S.wa S.waste.length S.wc)) :=
      fun w' ht h6 => ⟨ht, (World.cell?_of_block (a := ⟨w.heap.size, 2, none⟩) (ht.block _ lA7 hnA)).trans y2, h6⟩
    have HST7 := Lib.hid hstep7
    have hx := HST7.out W.drew (Turn.of_below ((Below.refl _ W).drew)) y7
    have hih2 : (S.heaps.set i { h with stage := 2 })[i]? = some { h with stage := 2 } := by simp [hil]
    have hmv := move_any F { S with heaps := S.heaps.set i { h with stage := 2 } } { S with heaps := S.heaps.set i { h with stage := 2 }, wa := none, wc := 0, waste := [] } base B i a.loads { h with stage := 2 } S.wa S.wc S.waste 100000 W.drew ((HH8.out.below ((Below.refl _ W).drew)).noWaste) hih2 (Nat.le_trans hbw hsz8)
      (own_below HH8.out.own.waste ((Below.refl _ W).drew)) (fun k hk => ⟨out_wa HH8.out.own.apart k hk, fun e => HH8.out.out (by rw [← e]; exact rows_wa hk)⟩) (list_ok hs4) (by omega) (by omega) (by omega) F.ps.length HOK.out HPA.out hlen hk.1 (by show a.loads ≤ loadsM h.parts; omega) hl1
    have HMV := Lib.hid hmv
    clear hstep7 y2 y7 hmv hnA hih2
    refine wp_region_E 14 (fun w' : World => Turn (TurnM S B S.wa) W w' ∧ (w'.cell? ⟨w.heap.size, 2, none⟩ = some (.int .i64 a.loads) ∧ w'.cell? ⟨B, 7, none⟩ = some (.slice S.wa S.waste.length S.wc))) (by kernel_rfl) ?_
    refine E_take (i := 0) (oi := _) (v := ?v52) rfl (by kernel_rfl) (by kernel_rfl) (by kernel_rfl) (by kernel_rfl) (fun _ _ _ h => h) hx (Or.inl ⟨by rfl, ?y52⟩) ?r52
    case y52 => (intro w' hSw; (try dsimp only at hSw); go_simp; try with_reducible rfl)
    try simp only [Act.put, List.getElem_toArray, List.getElem_cons_zero, List.getElem_cons_succ, List.setIfInBounds_toArray, List.set_cons_zero, List.set_cons_succ]
    refine E_take (i := 1) (oi := _) (v := ?v53) rfl (by kernel_rfl) (by kernel_rfl) (by kernel_rfl) (by kernel_rfl) (fun _ _ _ h => h) hx (Or.inl ⟨by rfl, ?y53⟩) ?r53
    case y53 => (intro w' hSw; (try dsimp only at hSw); go_simp; try with_reducible rfl)
    try simp only [Act.put, List.getElem_toArray, List.getElem_cons_zero, List.getElem_cons_succ, List.setIfInBounds_toArray, List.set_cons_zero, List.set_cons_succ]
    refine E_take (i := 2) (oi := _) (v := ?v54) rfl (by kernel_rfl) (by kernel_rfl) (by kernel_rfl) (by kernel_rfl) (fun _ _ _ h => h) hx (Or.inl ⟨by rfl, ?y54⟩) ?r54
    case y54 => (intro w' hSw; (try dsimp only at hSw); go_simp; try with_reducible rfl)
    try simp only [Act.put, List.getElem_toArray, List.getElem_cons_zero, List.getElem_cons_succ, List.setIfInBounds_toArray, List.set_cons_zero, List.set_cons_succ]
    refine E_take (i := 3) (oi := _) (v := ?v55) rfl (by kernel_rfl) (by kernel_rfl) (by kernel_rfl) (by kernel_rfl) (fun _ _ _ h => h) hx (Or.inl ⟨by rfl, ?y55⟩) ?r55
    case y55 => (intro w' hSw; (try dsimp only at hSw); go_simp; try with_reducible rfl)
    try simp only [Act.put, List.getElem_toArray, List.getElem_cons_zero, List.getElem_cons_succ, List.setIfInBounds_toArray, List.set_cons_zero, List.set_cons_succ]
    refine E_take (i := 4) (oi := _) (v := ?v56) rfl (by kernel_rfl) (by kernel_rfl) (by kernel_rfl) (by kernel_rfl) (fun _ _ _ h => h) hx (Or.inl ⟨by rfl, ?y56⟩) ?r56
    case y56 => (intro w' hSw; (try dsimp only at hSw); go_simp; try with_reducible rfl)
    try simp only [Act.put, List.getElem_toArray, List.getElem_cons_zero, List.getElem_cons_succ, List.setIfInBounds_toArray, List.set_cons_zero, List.set_cons_succ]
    refine E_take (i := 5) (oi := _) (v := ?v57) rfl (by kernel_rfl) (by kernel_rfl) (by kernel_rfl) (by kernel_rfl) (fun _ _ _ h => h) hx (Or.inl ⟨by rfl, ?y57⟩) ?r57
    case y57 => (intro w' hSw; (try dsimp only at hSw); go_simp; try with_reducible rfl)
    try simp only [Act.put, List.getElem_toArray, List.getElem_cons_zero, List.getElem_cons_succ, List.setIfInBounds_toArray, List.set_cons_zero, List.set_cons_succ]
    refine E_take (i := 6) (oi := _) (v := ?v58) rfl (by kernel_rfl) (by kernel_rfl) (by kernel_rfl) (by kernel_rfl) (fun _ _ _ h => h) hx (Or.inl ⟨by rfl, ?y58⟩) ?r58
    case y58 => (intro w' hSw; (try dsimp only at hSw); go_simp; try with_reducible rfl)
    try simp only [Act.put, List.getElem_toArray, List.getElem_cons_zero, List.getElem_cons_succ, List.setIfInBounds_toArray, List.set_cons_zero, List.set_cons_succ]
    refine E_take (i := 7) (oi := _) (v := ?v59) rfl (by kernel_rfl) (by kernel_rfl) (by kernel_rfl) (by kernel_rfl) (fun _ _ _ h => h) hx (Or.inl ⟨by rfl, ?y59⟩) ?r59
    case y59 => (intro w' hSw; (try dsimp only at hSw); go_simp; try with_reducible rfl)
    try simp only [Act.put, List.getElem_toArray, List.getElem_cons_zero, List.getElem_cons_succ, List.setIfInBounds_toArray, List.set_cons_zero, List.set_cons_succ]
    refine E_take (i := 8) (oi := _) (v := ?v60) rfl (by kernel_rfl) (by kernel_rfl) (by kernel_rfl) (by kernel_rfl) (fun _ _ _ h => h) hx (Or.inl ⟨by rfl, ?y60⟩) ?r60
    case y60 => (intro w' hSw; (try dsimp only at hSw); go_simp; try with_reducible rfl)
    try simp only [Act.put, List.getElem_toArray, List.getElem_cons_zero, List.getElem_cons_succ, List.setIfInBounds_toArray, List.set_cons_zero, List.set_cons_succ]
    refine E_take (i := 9) (oi := _) (v := ?v61) rfl (by kernel_rfl) (by kernel_rfl) (by kernel_rfl) (by kernel_rfl) (fun _ _ _ h => h) hx (Or.inl ⟨by rfl, ?y61⟩) ?r61
    case y61 => (intro w' hSw; (try dsimp only at hSw); go_simp; try with_reducible rfl)
    try simp only [Act.put, List.getElem_toArray, List.getElem_cons_zero, List.getElem_cons_succ, List.setIfInBounds_toArray, List.set_cons_zero, List.set_cons_succ]
    refine E_step (i := 10) (o := _) (by kernel_rfl) rfl (fun K hK => ?_)
    go_simp
    refine (HMV.out).mono ?_
    rintro r w8 ⟨⟨a2, c2, rfl, hrow2, H, hsame, hH8, hap8⟩, hT8⟩
    dsimp only
    have hx8 := HST7.out w8 ((Turn.of_below ((Below.refl _ W).drew)).trans hT8) (hH8.box.cell 7)
    refine hK.out _ _ (fun _ => hx8) ?_
    clear hK K
    try simp only [Act.put, List.getElem_toArray, List.getElem_cons_zero, List.getElem_cons_succ, List.setIfInBounds_toArray, List.set_cons_zero, List.set_cons_succ]
    refine E_step (i := 11) (o := _) (by kernel_rfl) rfl (fun K hK => ?_)
    go_simp
    refine hK.out _ _ (fun _ => hx8) ?_
    clear hK K
    try simp only [Act.put, List.getElem_toArray, List.getElem_cons_zero, List.getElem_cons_succ, List.setIfInBounds_toArray, List.set_cons_zero, List.set_cons_succ]
    refine E_step (i := 12) (o := _) (by kernel_rfl) rfl (fun K hK => ?_)
    go_simp
    refine hK.out _ _ (fun _ => hx8) ?_
    clear hK K
    try simp only [Act.put, List.getElem_toArray, List.getElem_cons_zero, List.getElem_cons_succ, List.setIfInBounds_toArray, List.set_cons_zero, List.set_cons_succ]
    refine E_step (i := 13) (o := _) (by kernel_rfl) rfl (fun K hK => ?_)
    go_simp
    refine hK.out _ _ (fun _ => hx8) ?_
    clear hK K
    try simp only [Act.put, List.getElem_toArray, List.getElem_cons_zero, List.getElem_cons_succ, List.setIfInBounds_toArray, List.set_cons_zero, List.set_cons_succ]
    have lB8 := hH8.box.lt
    have z78 := hH8.box.frozen 7
    have y78 := hx8.2.2
    have HH9 := Lib.hid hH8
    have HR2 := Lib.hid hrow2
    have HA8 := Lib.hid hap8
    have HT8 := Lib.hid ((Turn.of_below ((Below.refl _ W).drew)).trans hT8)
    clear hx hx8 hH8 hrow2 hap8 hT8
    refine E_step (i := 14) (o := _) (by kernel_rfl) rfl (fun K hK => ?_)
    go_simp
    refine hK.out _ _ (fun h => absurd rfl h) ?_
    clear hK K
    try simp only [Act.put]
    refine E_done (by kernel_rfl) ?_ _
    go_end0
    refine ⟨.inl ⟨by rw [HV.out], rfl, _, ?_, Hand.putWaste (S := { S with heaps := H }) HH9.out HR2.out HA8.out⟩, ?_⟩
    · rw [HV.out]
      have hs : sameH H (moveH (S.heaps.set i { h with stage := 2 }) i a.loads) := hsame
      exact ⟨rfl, rfl, rfl, rfl, rfl, hs.1, hs.2⟩
    · refine HBB8.out.trans ((HT8.out.below (Nat.le_trans hbw hsz8) ?_).setCell (p := ⟨B, 7, none⟩) hbB _)
      intro k e
      rcases e with rfl | e | e
      · exact hbB
      · exact HGE.out k (rows_ha e)
      · exact HGE.out k (rows_wa e)
end
end Go.Proofs.Ytghepojnimlafaa
namespace Go.Proofs.Ytghepojnimlafaa
section
open Go.ChangeShapes Go.WideShapes Go.ChangeAt Go.RowKit Go.Deep

theorem cells_name : Try.prog.cellsOf 9 = 1 := by kernel_rfl
theorem cells_int : Try.prog.cellsOf 3 = 1 := by kernel_rfl
theorem cells_crop : Try.prog.cellsOf 33 = 1 := by kernel_rfl
theorem cells_span : Try.prog.cellsOf 35 = 2 := by kernel_rfl
theorem cells_plot : Try.prog.cellsOf 37 = 9 := by kernel_rfl
theorem cells_farm : Try.prog.cellsOf 24 = 2 := by kernel_rfl
theorem cells_plots : Try.prog.cellsOf 22 = 1 := by kernel_rfl
theorem cellTypes_farm : Try.prog.cellTypes Try.prog.depth 24 = some [22, 3] := by kernel_rfl

section
variable {H : Type} {enc : TypeId × Value → H} {W : World} {base : Nat} {sp : Nat → Bool} {held : Bool}

theorem trod_at {n : Nat} {fs : Array Field} {cs : List Value} {xs : List (DataW H × List MemPlace)}
    (hf : ∀ (i : Nat) (f : Field), fs[i]? = some f → DataW.trod enc Try.prog W base sp held n f.type (List.take (Try.prog.cellsOf f.type) (List.drop f.offset cs)) = xs[i]?)
    (i ty off k : Nat) (hi : (fs[i]?).map (fun f => (f.type, f.offset)) = some (ty, off)) (hc : Try.prog.cellsOf ty = k) : DataW.trod enc Try.prog W base sp held n ty (List.take k (List.drop off cs)) = xs[i]? := by
  cases h : fs[i]? with
  | none => rw [h] at hi; cases hi
  | some f =>
    rw [h] at hi
    simp only [Option.map_some, Option.some.injEq, Prod.mk.injEq] at hi
    obtain ⟨rfl, rfl⟩ := hi
    rw [← hc]
    exact hf i f h

set_option maxRecDepth 100000 in
theorem open_span {n : Nat} {cs : List Value} {x : DataW H × List MemPlace} (h : DataW.trod enc Try.prog W base sp held n 35 cs = some x) : ∃ a b : Int, cs = [.int .i64 a, .int .i64 b] := by
  obtain ⟨xs, n', rfl, _, hcl, hlen, hf⟩ := DataW.trod_struct Try.underlying35 h
  rw [cells_span] at hcl
  match cs, xs, hcl, hlen with
  | [a, b], [y0, y1], _, _ =>
    have h0 := trod_at hf 0 3 0 1 rfl cells_int
    have h1 := trod_at hf 1 3 1 1 rfl cells_int
    simp only [List.drop, List.take] at h0 h1
    obtain ⟨p, e0, _, _⟩ := DataW.trod_int Try.underlying3 h0
    obtain ⟨q, e1, _, _⟩ := DataW.trod_int Try.underlying3 h1
    simp only [List.cons.injEq, and_true] at e0 e1
    exact ⟨p, q, by rw [e0, e1]⟩

theorem list_of {α : Type} {n : Nat} {p : Nat → α → Prop} (h : ∀ i, i < n → ∃ x, p i x) : ∃ l : List α, l.length = n ∧ ∀ j x, l[j]? = some x → p j x := by
  induction n with
  | zero => exact ⟨[], rfl, fun j x hx => by simp at hx⟩
  | succ n ih =>
    obtain ⟨l, hl, hp⟩ := ih fun i hi => h i (by omega)
    obtain ⟨x, hx⟩ := h n (by omega)
    refine ⟨l ++ [x], by simp [hl], fun j y hy => ?_⟩
    by_cases hj : j < n
    · rw [List.getElem?_append_left (by omega)] at hy
      exact hp j y hy
    · by_cases hjn : j = n
      · subst hjn
        rw [← hl, List.getElem?_append_right (Nat.le_refl _)] at hy
        obtain rfl : x = y := by simpa using hy
        exact hx
      · rw [List.getElem?_eq_none (by simp; omega)] at hy
        cases hy

set_option maxRecDepth 100000 in
theorem open_plot {n : Nat} {cs : List Value} {x : DataW H × List MemPlace} (h : DataW.trod enc Try.prog W base sp held n 37 cs = some x) : ∃ F : Plt, cs = (pltC F).toList ∧ F.name.size ≤ maxLen := by
  obtain ⟨xs, n', rfl, _, hcl, hlen, hf⟩ := DataW.trod_struct Try.underlying37 h
  rw [cells_plot] at hcl
  match cs, xs, hcl, hlen with
  | [c0, c1, c2, c3, c4, c5, c6, c7, c8], [y0, y1, y2, y3, y4, y5, y6], _, _ =>
    have h0 := trod_at hf 0 9 0 1 rfl cells_name
    have h1 := trod_at hf 1 33 1 1 rfl cells_crop
    have h2 := trod_at hf 2 3 2 1 rfl cells_int
    have h3 := trod_at hf 3 35 3 2 rfl cells_span
    have h4 := trod_at hf 4 3 5 1 rfl cells_int
    have h5 := trod_at hf 5 35 6 2 rfl cells_span
    have h6 := trod_at hf 6 3 8 1 rfl cells_int
    simp only [List.drop, List.take] at h0 h1 h2 h3 h4 h5 h6
    obtain ⟨s, e0, _, hs⟩ := DataW.trod_string Try.underlying9 h0
    obtain ⟨i1, e1, _, _⟩ := DataW.trod_int Try.underlying33 h1
    obtain ⟨i2, e2, _, _⟩ := DataW.trod_int Try.underlying3 h2
    obtain ⟨a3, b3, e3⟩ := open_span h3
    obtain ⟨i4, e4, _, _⟩ := DataW.trod_int Try.underlying3 h4
    obtain ⟨a5, b5, e5⟩ := open_span h5
    obtain ⟨i6, e6, _, _⟩ := DataW.trod_int Try.underlying3 h6
    simp only [List.cons.injEq, and_true] at e0 e1 e2 e3 e4 e5 e6
    exact ⟨⟨s, i1, i2, a3, b3, i4, a5, b5, i6⟩, by simp [e0, e1, e2, e3.1, e3.2, e4, e5.1, e5.2, e6], hs⟩

set_option maxRecDepth 100000 in
/-- Where a slice's address lies. -/
theorem slice_place {t e : TypeId} {a : Addr} {len cap b0 : Nat} (ht : Try.prog.underlying t = some (.slice e)) (h : Cell.okWide Try.prog W .any b0 t (.slice (some a) len cap)) : a.spot = none ∧ a.block < W.heap.size := by
  unfold Cell.okWide Cell.ok at h
  rw [ht] at h
  obtain ⟨_, _, _, h2, row, cells, h3, _⟩ := h
  refine ⟨h2, ?_⟩
  unfold World.shape? at h3
  rcases Nat.lt_or_ge a.block W.heap.size with hlt | hge
  · exact hlt
  · rw [Array.getElem?_eq_none hge] at h3
    cases h3

theorem add_plain' (b off i : Nat) : (⟨b, off, none⟩ : Addr).add i = ⟨b, off + i, none⟩ := by unfold Addr.add; split <;> simp_all

set_option maxRecDepth 100000 in
theorem open_plots {n b0 : Nat} {v : Value} {x : DataW H × List MemPlace} (hv : Cell.okWide Try.prog W .any b0 22 v) (h : DataW.trod enc Try.prog W base sp held n 22 [v] = some x) :
    ∃ a c l, v = .slice a (l : List Plt).length c ∧ IsPlts W v l := by
  rcases open_slice Try.underlying22 h with ⟨hcs, _⟩ | ⟨a, len, cap, m, n', D, Pl, hcs, hb, hl, hm, hmm, _, hx⟩
  · simp only [List.cons.injEq, and_true] at hcs
    subst hcs
    exact ⟨none, 0, [], rfl, .inl ⟨rfl, rfl⟩⟩
  · simp only [List.cons.injEq, and_true] at hcs
    subst hcs
    obtain ⟨hs, hblk⟩ := slice_place Try.underlying22 hv
    obtain ⟨b, off, spot⟩ := a
    simp only [] at hs hblk
    subst hs
    have hlm : len ≤ m := by rw [hmm]; split <;> omega
    obtain ⟨l, hll, hp⟩ := list_of (p := fun i (F : Plt) => PltAt W b (off + i * 9) F ∧ F.name.size ≤ maxLen) (n := len) fun i hi => by
      obtain ⟨cs', h1, h2⟩ := hx i (by omega)
      rw [cells_plot] at h1
      obtain ⟨_, _, hcell⟩ := World.cells?_some h1
      obtain ⟨F, rfl, hF⟩ := open_plot h2
      have c : ∀ k, k < 9 → W.cell? ⟨b, off + i * 9 + k, none⟩ = ((pltC F).toList)[k]? := fun k hk => by have := hcell k hk; rw [add_add, add_plain, ← Nat.add_assoc] at this; exact this
      exact ⟨F, ⟨c 0 (by omega), c 1 (by omega), c 2 (by omega), c 3 (by omega), c 4 (by omega), c 5 (by omega), c 6 (by omega), c 7 (by omega), c 8 (by omega)⟩, hF⟩
    subst hll
    unfold maxLen at hm
    exact ⟨_, cap, l, rfl, .inr ⟨b, off, cap, rfl, hblk, hl, by omega, hp⟩⟩

set_option maxRecDepth 100000 in
/-- **An argument of type api.Farm is a farm in memory.** -/
theorem open_farm {b0 : Nat} {v : Value} {d : DataW H} {ps : List MemPlace} (hv : Value.okWide Try.prog W .any b0 24 v) (h : DataW.Trod enc Try.prog W base sp held 24 v d ps) :
    ∃ R : Frm, v = .agg #[.slice R.pa R.ps.length R.pc, .int .i64 R.dry] ∧ IsFarm W R := by
  obtain ⟨fuel, hf⟩ := h
  unfold Value.okWide at hv
  rw [Try.underlying24] at hv
  obtain ⟨cs, rfl, hsz, ts, hts, _, hall⟩ := hv
  rw [cells_farm] at hsz
  rw [cellTypes_farm] at hts
  obtain rfl := Option.some.inj hts
  obtain ⟨l⟩ := cs
  match l, hsz with
  | [v0, v1], _ =>
    obtain ⟨u0, hu0, k0⟩ := hall 0 v0 rfl
    obtain rfl : 22 = u0 := by simpa using hu0
    obtain ⟨y0, y1, n, _, _, h0, h1⟩ := trod_struct2 Try.underlying24 hf
    simp only [cells_plots, cells_int, Value.cells, List.drop, List.take] at h0 h1
    obtain ⟨a, c, l0, rfl, hF⟩ := open_plots k0 h0
    obtain ⟨dr, e1, _, _⟩ := DataW.trod_int Try.underlying3 h1
    simp only [List.cons.injEq, and_true] at e1
    subst e1
    exact ⟨⟨a, c, l0, dr⟩, rfl, hF⟩

end
end
end Go.Proofs.Ytghepojnimlafaa
namespace Go.Proofs.Ytghepojnimlafaa
section
open Go.ChangeShapes Go.WideShapes Go.ChangeAt Go.RowKit Go.Deep

theorem cells_portion : Try.prog.cellsOf 80 = 2 := by kernel_rfl
theorem cells_heap : Try.prog.cellsOf 77 = 7 := by kernel_rfl
theorem cells_stage : Try.prog.cellsOf 75 = 1 := by kernel_rfl
theorem cells_portions : Try.prog.cellsOf 43 = 1 := by kernel_rfl
theorem cells_heaps : Try.prog.cellsOf 42 = 1 := by kernel_rfl
theorem cells_ints : Try.prog.cellsOf 41 = 1 := by kernel_rfl
theorem cells_store : Try.prog.cellsOf 45 = 6 := by kernel_rfl
theorem cellTypes_store : Try.prog.cellTypes Try.prog.depth 45 = some [3, 41, 41, 42, 43, 43] := by kernel_rfl

section
variable {H : Type} {enc : TypeId × Value → H} {W : World} {base : Nat} {sp : Nat → Bool} {held : Bool}

set_option maxRecDepth 100000 in
theorem open_portion {n : Nat} {cs : List Value} {x : DataW H × List MemPlace} (h : DataW.trod enc Try.prog W base sp held n 80 cs = some x) : ∃ p : Prt, cs = [.int .i64 p.plot, .int .i64 p.loads] := by
  obtain ⟨xs, n', rfl, _, hcl, hlen, hf⟩ := DataW.trod_struct Try.underlying80 h
  rw [cells_portion] at hcl
  match cs, xs, hcl, hlen with
  | [a, b], [y0, y1], _, _ =>
    have h0 := trod_at hf 0 3 0 1 rfl cells_int
    have h1 := trod_at hf 1 3 1 1 rfl cells_int
    simp only [List.drop, List.take] at h0 h1
    obtain ⟨p, e0, _, _⟩ := DataW.trod_int Try.underlying3 h0
    obtain ⟨q, e1, _, _⟩ := DataW.trod_int Try.underlying3 h1
    simp only [List.cons.injEq, and_true] at e0 e1
    exact ⟨⟨p, q⟩, by rw [e0, e1]⟩

set_option maxRecDepth 100000 in
theorem open_portions {n : Nat} {v : Value} {x : DataW H × List MemPlace} (h : DataW.trod enc Try.prog W base sp held n 43 [v] = some x) : ∃ a c l, v = .slice a (l : List Prt).length c ∧ IsPrts W a c l := by
  rcases open_slice Try.underlying43 h with ⟨hcs, _⟩ | ⟨a, len, cap, m, n', D, Pl, hcs, hb, hl, hm, hmm, _, hx⟩
  · simp only [List.cons.injEq, and_true] at hcs
    subst hcs
    exact ⟨none, 0, [], rfl, .inl rfl⟩
  · simp only [List.cons.injEq, and_true] at hcs
    subst hcs
    have hlm : len ≤ m := by rw [hmm]; split <;> omega
    obtain ⟨l, hll, hp⟩ := list_of (p := fun i (p : Prt) => W.cell? (a.add (i * 2)) = some (.int .i64 p.plot) ∧ W.cell? (a.add (i * 2 + 1)) = some (.int .i64 p.loads)) (n := len) fun i hi => by
      obtain ⟨cs', h1, h2⟩ := hx i (by omega)
      rw [cells_portion] at h1
      obtain ⟨_, _, hcell⟩ := World.cells?_some h1
      obtain ⟨p, rfl⟩ := open_portion h2
      have c0 := hcell 0 (by omega)
      have c1 := hcell 1 (by omega)
      rw [add_add] at c0 c1
      exact ⟨p, c0, c1⟩
    rcases Nat.eq_zero_or_pos len with h0 | h0
    · subst h0
      have : l = [] := List.eq_nil_of_length_eq_zero hll
      subst this
      exact ⟨some a, cap, [], rfl, .inl rfl⟩
    · obtain ⟨b, off, spot⟩ := a
      have hq : l[0]? = some l[0] := List.getElem?_eq_getElem (by omega)
      have hc0 := (hp 0 _ hq).1
      have hspot : spot = none := by simpa [Addr.add] using World.cell?_spot hc0
      subst hspot
      subst hll
      unfold maxLen at hm
      refine ⟨_, cap, l, rfl, .inr ⟨b, off, rfl, by simpa [Addr.add] using World.block_lt_of_cell? _ _ hc0, hl, by omega, fun j p hj => ?_⟩⟩
      have := hp j p hj
      rw [add_plain, add_plain] at this
      exact this

set_option maxRecDepth 100000 in
theorem open_ints {n : Nat} {v : Value} {x : DataW H × List MemPlace} (h : DataW.trod enc Try.prog W base sp held n 41 [v] = some x) : ∃ a c l, v = .slice a (l : List Int).length c ∧ IsNums W a c l := by
  rcases open_slice Try.underlying41 h with ⟨hcs, _⟩ | ⟨a, len, cap, m, n', D, Pl, hcs, hb, hl, hm, hmm, _, hx⟩
  · simp only [List.cons.injEq, and_true] at hcs
    subst hcs
    exact ⟨none, 0, [], rfl, .inl rfl⟩
  · simp only [List.cons.injEq, and_true] at hcs
    subst hcs
    have hlm : len ≤ m := by rw [hmm]; split <;> omega
    obtain ⟨l, hll, hp⟩ := list_of (p := fun i (p : Int) => W.cell? (a.add (i * 1)) = some (.int .i64 p)) (n := len) fun i hi => by
      obtain ⟨cs', h1, h2⟩ := hx i (by omega)
      rw [cells_int] at h1
      obtain ⟨_, _, hcell⟩ := World.cells?_some h1
      obtain ⟨p, rfl, _, _⟩ := DataW.trod_int Try.underlying3 h2
      have c0 := hcell 0 (by omega)
      rw [add_add] at c0
      exact ⟨p, c0⟩
    rcases Nat.eq_zero_or_pos len with h0 | h0
    · subst h0
      have : l = [] := List.eq_nil_of_length_eq_zero hll
      subst this
      exact ⟨some a, cap, [], rfl, .inl rfl⟩
    · obtain ⟨b, off, spot⟩ := a
      have hq : l[0]? = some l[0] := List.getElem?_eq_getElem (by omega)
      have hc0 := hp 0 _ hq
      have hspot : spot = none := by simpa [Addr.add] using World.cell?_spot hc0
      subst hspot
      subst hll
      unfold maxLen at hm
      refine ⟨_, cap, l, rfl, .inr ⟨b, off, rfl, by simpa [Addr.add] using World.block_lt_of_cell? _ _ hc0, hl, by omega, fun j p hj => ?_⟩⟩
      have := hp j p hj
      rw [add_plain] at this
      exact this

set_option maxRecDepth 100000 in
theorem open_heap {n : Nat} {cs : List Value} {x : DataW H × List MemPlace} (h : DataW.trod enc Try.prog W base sp held n 77 cs = some x) : ∃ F : Hep, cs = (hepC F).toList ∧ IsPrts W F.pa F.pc F.parts ∧ F.name.size ≤ maxLen := by
  obtain ⟨xs, n', rfl, _, hcl, hlen, hf⟩ := DataW.trod_struct Try.underlying77 h
  rw [cells_heap] at hcl
  match cs, xs, hcl, hlen with
  | [c0, c1, c2, c3, c4, c5, c6], [y0, y1, y2, y3, y4, y5], _, _ =>
    have h0 := trod_at hf 0 9 0 1 rfl cells_name
    have h1 := trod_at hf 1 33 1 1 rfl cells_crop
    have h2 := trod_at hf 2 75 2 1 rfl cells_stage
    have h3 := trod_at hf 3 43 3 1 rfl cells_portions
    have h4 := trod_at hf 4 3 4 1 rfl cells_int
    have h5 := trod_at hf 5 35 5 2 rfl cells_span
    simp only [List.drop, List.take] at h0 h1 h2 h3 h4 h5
    obtain ⟨s, e0, _, hs⟩ := DataW.trod_string Try.underlying9 h0
    obtain ⟨i1, e1, _, _⟩ := DataW.trod_int Try.underlying33 h1
    obtain ⟨i2, e2, _, _⟩ := DataW.trod_int Try.underlying75 h2
    obtain ⟨a, c, l, e3, hp⟩ := open_portions h3
    obtain ⟨i4, e4, _, _⟩ := DataW.trod_int Try.underlying3 h4
    obtain ⟨a5, b5, e5⟩ := open_span h5
    simp only [List.cons.injEq, and_true] at e0 e1 e2 e4 e5
    subst e3
    exact ⟨⟨s, i1, i2, a, c, l, i4, a5, b5⟩, by simp [e0, e1, e2, e4, e5.1, e5.2], hp, hs⟩

set_option maxRecDepth 100000 in
theorem open_heaps {n b0 : Nat} {v : Value} {x : DataW H × List MemPlace} (hv : Cell.okWide Try.prog W .any b0 42 v) (h : DataW.trod enc Try.prog W base sp held n 42 [v] = some x) :
    ∃ a c l, v = .slice a (l : List Hep).length c ∧ IsHeps W a c l := by
  rcases open_slice Try.underlying42 h with ⟨hcs, _⟩ | ⟨a, len, cap, m, n', D, Pl, hcs, hb, hl, hm, hmm, _, hx⟩
  · simp only [List.cons.injEq, and_true] at hcs
    subst hcs
    exact ⟨none, 0, [], rfl, .inl rfl⟩
  · simp only [List.cons.injEq, and_true] at hcs
    subst hcs
    obtain ⟨hs, hblk⟩ := slice_place Try.underlying42 hv
    obtain ⟨b, off, spot⟩ := a
    simp only [] at hs hblk
    subst hs
    have hlm : len ≤ m := by rw [hmm]; split <;> omega
    obtain ⟨l, hll, hp⟩ := list_of (p := fun i (F : Hep) => HepAt W b (off + i * 7) F) (n := len) fun i hi => by
      obtain ⟨cs', h1, h2⟩ := hx i (by omega)
      rw [cells_heap] at h1
      obtain ⟨_, _, hcell⟩ := World.cells?_some h1
      obtain ⟨F, rfl, hF, hnm⟩ := open_heap h2
      have c : ∀ k, k < 7 → W.cell? ⟨b, off + i * 7 + k, none⟩ = ((hepC F).toList)[k]? := fun k hk => by have := hcell k hk; rw [add_add, add_plain, ← Nat.add_assoc] at this; exact this
      exact ⟨F, ⟨c 0 (by omega), c 1 (by omega), c 2 (by omega), c 3 (by omega), c 4 (by omega), c 5 (by omega), c 6 (by omega)⟩, hF, hnm⟩
    subst hll
    unfold maxLen at hm
    exact ⟨_, cap, l, rfl, .inr ⟨b, off, rfl, hblk, hl, by omega, hp⟩⟩

set_option maxRecDepth 100000 in
/-- **An argument of type api.Store is a store in memory.** -/
theorem open_store {b0 : Nat} {v : Value} {d : DataW H} {ps : List MemPlace} (hv : Value.okWide Try.prog W .any b0 45 v) (h : DataW.Trod enc Try.prog W base sp held 45 v d ps) :
    ∃ S : Sto, v = .agg #[.int .i64 S.year, .slice S.la S.last.length S.lc, .slice S.ga S.given.length S.gc, .slice S.ha S.heaps.length S.hc, .slice S.ua S.used.length S.uc, .slice S.wa S.waste.length S.wc] ∧ IsStore W S := by
  obtain ⟨fuel, hf⟩ := h
  unfold Value.okWide at hv
  rw [Try.underlying45] at hv
  obtain ⟨cs, rfl, hsz, ts, hts, _, hall⟩ := hv
  rw [cells_store] at hsz
  rw [cellTypes_store] at hts
  obtain rfl := Option.some.inj hts
  obtain ⟨l⟩ := cs
  match l, hsz with
  | [v0, v1, v2, v3, v4, v5], _ =>
    obtain ⟨u3, hu3, k3⟩ := hall 3 v3 rfl
    obtain rfl : 42 = u3 := by simpa using hu3
    obtain ⟨xs, n', _, _, hcl, hlen, hg⟩ := DataW.trod_struct Try.underlying45 hf
    match xs, hlen with
    | [y0, y1, y2, y3, y4, y5], _ =>
      have h0 := trod_at hg 0 3 0 1 rfl cells_int
      have h1 := trod_at hg 1 41 1 1 rfl cells_ints
      have h2 := trod_at hg 2 41 2 1 rfl cells_ints
      have h3 := trod_at hg 3 42 3 1 rfl cells_heaps
      have h4 := trod_at hg 4 43 4 1 rfl cells_portions
      have h5 := trod_at hg 5 43 5 1 rfl cells_portions
      simp only [Value.cells, List.drop, List.take] at h0 h1 h2 h3 h4 h5
      obtain ⟨yr, e0, _, _⟩ := DataW.trod_int Try.underlying3 h0
      obtain ⟨a1, c1, l1, rfl, r1⟩ := open_ints h1
      obtain ⟨a2, c2, l2, rfl, r2⟩ := open_ints h2
      obtain ⟨a3, c3, l3, rfl, r3⟩ := open_heaps k3 h3
      obtain ⟨a4, c4, l4, rfl, r4⟩ := open_portions h4
      obtain ⟨a5, c5, l5, rfl, r5⟩ := open_portions h5
      simp only [List.cons.injEq, and_true] at e0
      subst e0
      exact ⟨⟨yr, a1, c1, l1, a2, c2, l2, a3, c3, l3, a4, c4, l4, a5, c5, l5⟩, rfl, r1, r2, r3, r4, r5⟩
end
end
end Go.Proofs.Ytghepojnimlafaa
