/- Chores: cut. -/
import Derived.Test.YtfhalmlpnoepcaaGreatKA
import Derived.Test.YtfhalmlpnoepcaaGreatJM
set_option linter.unusedSimpArgs false
namespace Go.Proofs.YtfhalmlpnoepcaaGreat
open Go.RowKit

theorem years_ok {F : Frm} {S : Sto} (h : storeE F S = 0) : (0 ≤ S.year ∧ S.year ≤ 100) ∧ S.last.length = F.ps.length ∧ ∀ x ∈ S.last, -1 ≤ x ∧ x ≤ 100 := by
  obtain ⟨_, h2⟩ := storeE_zero h
  simp only [mayB, yearsB, Bool.and_eq_true, decide_eq_true_eq] at h2
  obtain ⟨⟨h3, h4, h5⟩, _⟩ := h2
  have h6 := isFromB_iff.1 h3
  exact ⟨h6, h4, fun x hx => by have := isFromB_iff.1 (List.all_eq_true.1 h5 x hx); omega⟩
theorem plots_ok {F : Frm} {S : Sto} (h : storeE F S = 0) : ∀ p ∈ F.ps, (1 ≤ p.size ∧ p.size ≤ 100) ∧ (0 ≤ p.ylo ∧ p.ylo ≤ p.yhi ∧ p.yhi ≤ 1000) ∧ (1 ≤ p.rest ∧ p.rest ≤ 100) ∧ (0 ≤ p.wlo ∧ p.wlo ≤ p.whi ∧ p.whi ≤ 1000) := by
  obtain ⟨h1, _⟩ := storeE_zero h
  unfold checkE at h1
  split at h1
  · cases h1
  split at h1
  · next h2 => exact absurd h1 h2
  next h2 =>
    intro p hp
    obtain ⟨i, hi, rfl⟩ := List.getElem_of_mem hp
    have := firstNZ_all (show firstNZ _ _ = 0 from Decidable.of_not_not h2) i hi
    rw [List.getElem?_eq_getElem hi] at this
    obtain ⟨_, k2, k3, k4, k5, _⟩ := plotE_ok this
    rw [isFromB_iff] at k2 k4
    rw [isSpanB_iff] at k3 k5
    exact ⟨k2, k3, k4, k5⟩
theorem given_bd {F : Frm} {S : Sto} (hE : storeE F S = 0) (hfit : S.fit) : ∀ x ∈ S.given, 0 ≤ x ∧ x ≤ 1000000000000 := by
  obtain ⟨h1, h2⟩ := storeE_zero hE
  simp only [mayB, balB, Bool.and_eq_true, decide_eq_true_eq] at h2
  obtain ⟨_, h3, h4, h5, h6, h7, _⟩ := h2
  intro x hx
  obtain ⟨i, hi, rfl⟩ := List.getElem_of_mem hx
  have h8 := List.all_eq_true.1 h7 i (by rw [List.mem_range, ← h6]; exact hi)
  have h9 : givenAt S.given i = thereM S.used S.heaps S.waste i := by simpa using h8
  have hb := there_bd (partsB_ok h4) hfit.used (partsB_ok h5) hfit.waste (fun h hh => heapB_parts (heapsB_heap h3 h hh)) hfit.parts hfit.heaps i
  have hg : givenAt S.given i = S.given[i] := by simp [givenAt, hi]
  rw [hg] at h9
  rw [h9]
  unfold thereM
  omega

theorem rows_nola {S : Sto} : ∀ k ∈ rowsOf { S with la := none }, k ∈ rowsOf S := fun k hk => by
  simp only [rowsOf, List.mem_filterMap, List.mem_append, List.mem_cons] at hk ⊢
  obtain ⟨a, ha, e⟩ := hk
  refine ⟨a, ?_, e⟩
  rcases ha with (h | h | h | h | h | h) | h
  · subst h; cases e
  · exact .inl (.inr (.inl h))
  · exact .inl (.inr (.inr (.inl h)))
  · exact .inl (.inr (.inr (.inr (.inl h))))
  · exact .inl (.inr (.inr (.inr (.inr (.inl h)))))
  · exact .inl (.inr (.inr (.inr (.inr (.inr h)))))
  · exact .inr h
theorem rows_noga {S : Sto} : ∀ k ∈ rowsOf { S with ga := none }, k ∈ rowsOf S := fun k hk => by
  simp only [rowsOf, List.mem_filterMap, List.mem_append, List.mem_cons] at hk ⊢
  obtain ⟨a, ha, e⟩ := hk
  refine ⟨a, ?_, e⟩
  rcases ha with (h | h | h | h | h | h) | h
  · exact .inl (.inl h)
  · subst h; cases e
  · exact .inl (.inr (.inr (.inl h)))
  · exact .inl (.inr (.inr (.inr (.inl h))))
  · exact .inl (.inr (.inr (.inr (.inr (.inl h)))))
  · exact .inl (.inr (.inr (.inr (.inr (.inr h)))))
  · exact .inr h
theorem last_hand {F : Frm} {base B : Nat} {w : World} {S : Sto} {k g : Nat} {x y : Int} (hH : Hand F base B w S S) (hk : S.last[k]? = some x) (hg : S.la = some ⟨g, 0, none⟩) :
    Hand F base B (w.setCell ⟨g, k, none⟩ (.int .i64 y)) { S with last := S.last.set k y } { S with last := S.last.set k y } := by
  have hkl := (List.getElem?_eq_some_iff.1 hk).1
  have hgR : S.la.map (·.block) = some g := by rw [hg]; rfl
  have hBg : B ≠ g := fun e => hH.out (rows_la (by rw [hgR, e]))
  have hT : Turn (fun j => j = g) w (w.setCell ⟨g, k, none⟩ (.int .i64 y)) := (Turn.of_below (X := fun j => j = g) (Below.refl _ w)).setCell (B := g) rfl _ _
  have hrw := hH.own.last
  rw [hg] at hrw
  have hrw2 := ownsRow_setOwn hrw (i := k * 1 + 0) (by omega) (.int .i64 y)
  rw [flat_set cellsI 1 (fun _ => rfl) S.last k 0 x y _ hk (by omega) rfl] at hrw2
  rw [Nat.mul_one, Nat.add_zero] at hrw2
  have hlen : (S.last.set k y).length = S.last.length := List.length_set ..
  refine ⟨?_, ?_, hH.out, hH.le, rfl, rfl, rfl⟩
  · have := hH.box.other hBg (i := k) (.int .i64 y)
    show Blk _ _ #[_, _, _, .slice S.la (S.last.set k y).length S.lc, _, _, _, _] _
    rw [hlen]
    exact this
  · refine OwnSto.setLast (a := S.la) (c := S.lc) hH.own (fun j hj => hT.block j (hH.own.ge j (rows_nola j hj)).2 fun e => out_la hH.own.apart g hgR (by rw [← show j = g from e]; exact hj)) (by rw [hlen, hg]; exact hrw2) (out_la hH.own.apart)
theorem given_hand {F : Frm} {base B : Nat} {w : World} {S : Sto} {k g : Nat} {x y : Int} (hH : Hand F base B w S S) (hk : S.given[k]? = some x) (hg : S.ga = some ⟨g, 0, none⟩) :
    Hand F base B (w.setCell ⟨g, k, none⟩ (.int .i64 y)) { S with given := S.given.set k y } { S with given := S.given.set k y } := by
  have hkl := (List.getElem?_eq_some_iff.1 hk).1
  have hgR : S.ga.map (·.block) = some g := by rw [hg]; rfl
  have hBg : B ≠ g := fun e => hH.out (rows_ga (by rw [hgR, e]))
  have hT : Turn (fun j => j = g) w (w.setCell ⟨g, k, none⟩ (.int .i64 y)) := (Turn.of_below (X := fun j => j = g) (Below.refl _ w)).setCell (B := g) rfl _ _
  have hrw := hH.own.given
  rw [hg] at hrw
  have hrw2 := ownsRow_setOwn hrw (i := k * 1 + 0) (by omega) (.int .i64 y)
  rw [flat_set cellsI 1 (fun _ => rfl) S.given k 0 x y _ hk (by omega) rfl] at hrw2
  rw [Nat.mul_one, Nat.add_zero] at hrw2
  have hlen : (S.given.set k y).length = S.given.length := List.length_set ..
  refine ⟨?_, ?_, hH.out, hH.le, rfl, rfl, rfl⟩
  · have := hH.box.other hBg (i := k) (.int .i64 y)
    show Blk _ _ #[_, _, _, _, .slice S.ga (S.given.set k y).length S.gc, _, _, _] _
    rw [hlen]
    exact this
  · refine OwnSto.setGiven (a := S.ga) (c := S.gc) hH.own (fun j hj => hT.block j (hH.own.ge j (rows_noga j hj)).2 fun e => out_ga hH.own.apart g hgR (by rw [← show j = g from e]; exact hj)) (by rw [hlen, hg]; exact hrw2) (out_ga hH.own.apart)

set_option maxRecDepth 100000 in
set_option maxHeartbeats 8000000 in
theorem cut_any (F : Frm) (S : Sto) (a : Chr) (base B : Nat) (w : World) (hH : Hand F base B w S S) (hE : storeE F S = 0) (hfit : S.fit) (hbw : base ≤ w.heap.size) (hF : IsFarm w F) (hnm : a.name.size ≤ maxLen) :
    Calls Tryz.prog 62 #[.pointer (some ⟨B, 0, none⟩), .agg (chrC a)] w (ChoreSaid F base B (cutD F S a) w) := by
  obtain ⟨hs1, hs2, hs3, hs4, hs5⟩ := store_ok hE
  have hyr := years_ok hE
  have hpl := plots_ok hE
  have hgv := given_bd hE hfit
  have hfit0 := hfit
  have hheap := fun h hm => heap_ok hE hfit (h := h) hm
  obtain ⟨hf1, hf2, hf3, hf4⟩ := hfit
  have hb1 : Below w.heap.size w (w.alloc (.cells (chrC a) 34)) := (Below.refl _ w).alloc (Nat.le_refl _) _
  have kA := Blk.new w 34 (chrC a)
  have hH1 := hH.below hb1
  have hF1 := hF.below hb1
  have hBw := hH.box.lt
  have hrows := fun k hk => (hH.own.ge k hk).2
  have HROWS := Lib.hid hrows
  have hge := fun k hk => (hH.own.ge k hk).1
  have HGE := Lib.hid hge
  have hbB := hH.le
  clear hrows hge
  have hbb := Lib.hid (hb1.mono hbw)
  unfold chrC at hb1 kA hH1 ⊢
  go_enter Tryz.func62, Tryz.ntmps62
  go_upto_region 2 with fail
  generalize w.alloc (.cells #[.int .i64 a.kind, .int .i64 a.plot, .int .i64 a.loads, .string a.name, .string a.other, .int .i64 a.days, .int .i64 a.per, .int .i64 a.rlo, .int .i64 a.rhi] 34) = w1 at *
  have e3 : w1.cell? ⟨w.heap.size, 3, none⟩ = some (.string a.name) := kA.cell 3
  have e1 : w1.cell? ⟨w.heap.size, 1, none⟩ = some (.int .i64 a.plot) := kA.cell 1
  have b0 : w1.cell? ⟨B, 0, none⟩ = some (.slice F.pa F.ps.length F.pc) := hH1.box.cell 0
  have lA := kA.lt
  have lB := hH1.box.lt
  have hstep : ∀ w', Below w1.heap.size w1 w' → Below w1.heap.size w1 w' ∧ (w'.cell? ⟨w.heap.size, 1, none⟩ = some (.int .i64 a.plot) ∧ w'.cell? ⟨B, 0, none⟩ = some (.slice F.pa F.ps.length F.pc)) :=
    fun w' hb => ⟨hb, (hb.cell (p := ⟨w.heap.size, 1, none⟩) lA).trans e1, (hb.cell (p := ⟨B, 0, none⟩) lB).trans b0⟩
  have hx := hstep w1.drew ((Below.refl _ w1).drew)
  have hwn : IntKind.i64.wrap ((F.ps.length : Int) - 1) = (F.ps.length : Int) - 1 := IntWalk.i64_in _ (by omega)
  have HH1 := Lib.hid hH1
  have HB1 := Lib.hid hb1
  have KA := Lib.hid kA
  have HF1 := Lib.hid hF1
  have HYR := Lib.hid hyr
  have HPL := Lib.hid hpl
  have HGV := Lib.hid hgv
  have HFIT := Lib.hid hfit0
  have HHEAP := Lib.hid hheap
  clear hH hH1 hb1 kA hheap hyr hpl hgv hfit0 hF hF1 hstep e3 e1 b0 lA lB
  cases h9 : isFromB a.plot 0 ((F.ps.length : Int) - 1) with
  | false =>
    have HV := Lib.hid (show (cutD F S a).1 = 7 by unfold cutD; rw [if_pos h9])
    have H9 := Lib.hid h9
    clear h9
    refine wp_region_E 11 (fun w' : World => Below w1.heap.size w1 w' ∧ (w'.cell? ⟨w.heap.size, 1, none⟩ = some (.int .i64 a.plot) ∧ w'.cell? ⟨B, 0, none⟩ = some (.slice F.pa F.ps.length F.pc))) (by kernel_rfl) ?_
    refine tR 0 rfl hx (v := ?v62) (.inl ⟨by rfl, ?y62⟩) ?r62
    case y62 => intro w' h; (try dsimp only at h); go_simp; try with_reducible rfl
    refine tR 1 rfl hx (v := ?v63) (.inl ⟨by rfl, ?y63⟩) ?r63
    case y63 => intro w' h; (try dsimp only at h); go_simp; try with_reducible rfl
    refine tR 2 rfl hx (v := ?v64) (.inl ⟨by rfl, ?y64⟩) ?r64
    case y64 => intro w' h; (try dsimp only at h); go_simp; try with_reducible rfl
    try simp only [Act.put, List.getElem_toArray, List.getElem_cons_zero, List.getElem_cons_succ, List.setIfInBounds_toArray, List.set_cons_zero, List.set_cons_succ]
    refine tR 3 rfl hx (v := ?v65) (.inl ⟨by rfl, ?y65⟩) ?r65
    case y65 => intro w' h; (try dsimp only at h); go_simp; try with_reducible rfl
    refine tR 4 rfl hx (v := ?v66) (.inl ⟨by rfl, ?y66⟩) ?r66
    case y66 => intro w' h; (try dsimp only at h); go_simp; try with_reducible rfl
    refine tR 5 rfl hx (v := ?v67) (.inl ⟨by rfl, ?y67⟩) ?r67
    case y67 => intro w' h; (try dsimp only at h); go_simp; try with_reducible rfl
    try simp only [Act.put, List.getElem_toArray, List.getElem_cons_zero, List.getElem_cons_succ, List.setIfInBounds_toArray, List.set_cons_zero, List.set_cons_succ]
    refine tR 6 rfl hx (v := ?v68) (.inl ⟨by rfl, ?y68⟩) ?r68
    case y68 => intro w' h; (try dsimp only at h); go_simp; try with_reducible rfl
    refine tR 7 rfl hx (v := ?v69) (.inl ⟨by rfl, ?y69⟩) ?r69
    case y69 => intro w' h; (try dsimp only at h); go_simp; try with_reducible rfl
    refine tR 8 rfl hx (v := ?v70) (.inl ⟨by rfl, ?y70⟩) ?r70
    case y70 => intro w' h; (try dsimp only at h); go_simp; try with_reducible rfl
    try simp only [Act.put, List.getElem_toArray, List.getElem_cons_zero, List.getElem_cons_succ, List.setIfInBounds_toArray, List.set_cons_zero, List.set_cons_succ]
    refine E_step (i := 9) (o := _) (by kernel_rfl) rfl (fun K hK => ?_)
    go_simp
    refine (isFrom_is H9.out _).mono ?_
    rintro r w6 ⟨rfl, rfl⟩
    dsimp only
    refine hK.out _ _ (fun _ => hx) ?_
    clear hK K
    try simp only [Act.put, List.getElem_toArray, List.getElem_cons_zero, List.getElem_cons_succ, List.setIfInBounds_toArray, List.set_cons_zero, List.set_cons_succ]
    refine E_step (i := 10) (o := _) (by kernel_rfl) rfl (fun K hK => ?_)
    go_simp
    refine (require_no 7 _).mono ?_
    rintro r w7 ⟨rfl, rfl⟩
    dsimp only
    exact ⟨rfl, ChoreSaid.err 7 HV.out (by decide) (hbb.out.trans (hx.1.mono (Nat.le_trans hbw HB1.out.size)))⟩
  | true =>
  have H9 := Lib.hid h9
  obtain ⟨hp0, hp1⟩ := isFromB_iff.1 h9
  clear h9
  refine wp_region_E 11 (fun w' : World => Below w1.heap.size w1 w' ∧ (w'.cell? ⟨w.heap.size, 1, none⟩ = some (.int .i64 a.plot) ∧ w'.cell? ⟨B, 0, none⟩ = some (.slice F.pa F.ps.length F.pc))) (by kernel_rfl) ?_
  refine tR 0 rfl hx (v := ?v71) (.inl ⟨by rfl, ?y71⟩) ?r71
  case y71 => intro w' h; (try dsimp only at h); go_simp; try with_reducible rfl
  refine tR 1 rfl hx (v := ?v72) (.inl ⟨by rfl, ?y72⟩) ?r72
  case y72 => intro w' h; (try dsimp only at h); go_simp; try with_reducible rfl
  refine tR 2 rfl hx (v := ?v73) (.inl ⟨by rfl, ?y73⟩) ?r73
  case y73 => intro w' h; (try dsimp only at h); go_simp; try with_reducible rfl
  try simp only [Act.put, List.getElem_toArray, List.getElem_cons_zero, List.getElem_cons_succ, List.setIfInBounds_toArray, List.set_cons_zero, List.set_cons_succ]
  refine tR 3 rfl hx (v := ?v74) (.inl ⟨by rfl, ?y74⟩) ?r74
  case y74 => intro w' h; (try dsimp only at h); go_simp; try with_reducible rfl
  refine tR 4 rfl hx (v := ?v75) (.inl ⟨by rfl, ?y75⟩) ?r75
  case y75 => intro w' h; (try dsimp only at h); go_simp; try with_reducible rfl
  refine tR 5 rfl hx (v := ?v76) (.inl ⟨by rfl, ?y76⟩) ?r76
  case y76 => intro w' h; (try dsimp only at h); go_simp; try with_reducible rfl
  try simp only [Act.put, List.getElem_toArray, List.getElem_cons_zero, List.getElem_cons_succ, List.setIfInBounds_toArray, List.set_cons_zero, List.set_cons_succ]
  refine tR 6 rfl hx (v := ?v77) (.inl ⟨by rfl, ?y77⟩) ?r77
  case y77 => intro w' h; (try dsimp only at h); go_simp; try with_reducible rfl
  refine tR 7 rfl hx (v := ?v78) (.inl ⟨by rfl, ?y78⟩) ?r78
  case y78 => intro w' h; (try dsimp only at h); go_simp; try with_reducible rfl
  refine tR 8 rfl hx (v := ?v79) (.inl ⟨by rfl, ?y79⟩) ?r79
  case y79 => intro w' h; (try dsimp only at h); go_simp; try with_reducible rfl
  try simp only [Act.put, List.getElem_toArray, List.getElem_cons_zero, List.getElem_cons_succ, List.setIfInBounds_toArray, List.set_cons_zero, List.set_cons_succ]
  refine E_step (i := 9) (o := _) (by kernel_rfl) rfl (fun K hK => ?_)
  go_simp
  refine (isFrom_is H9.out _).mono ?_
  rintro r w6 ⟨rfl, rfl⟩
  dsimp only
  refine hK.out _ _ (fun _ => hx) ?_
  clear hK K
  try simp only [Act.put, List.getElem_toArray, List.getElem_cons_zero, List.getElem_cons_succ, List.setIfInBounds_toArray, List.set_cons_zero, List.set_cons_succ]
  refine E_step (i := 10) (o := _) (by kernel_rfl) rfl (fun K hK => ?_)
  go_simp
  refine (require_yes 7 _).mono ?_
  rintro r w7 ⟨rfl, rfl⟩
  dsimp only
  refine hK.out _ _ (fun _ => hx) ?_
  clear hK K
  try simp only [Act.put, List.getElem_toArray, List.getElem_cons_zero, List.getElem_cons_succ, List.setIfInBounds_toArray, List.set_cons_zero, List.set_cons_succ]
  refine E_done (by kernel_rfl) ?_ _
  have hb2 := hx.1
  have hH2 := HH1.out.below hb2
  have kA2 := KA.out.belowS hb2
  have hF2 := HF1.out.below hb2
  have hsz2 := Nat.le_trans HB1.out.size hb2.size
  have HBB2 := Lib.hid (hbb.out.trans (hb2.mono (Nat.le_trans hbw HB1.out.size)))
  clear hx hb2
  generalize w1.drew = w2 at *
  have e3 : w2.cell? ⟨w.heap.size, 3, none⟩ = some (.string a.name) := kA2.cell 3
  have lA := kA2.lt
  have HH2 := Lib.hid hH2
  have KA2 := Lib.hid kA2
  have HF2 := Lib.hid hF2
  clear hH2 kA2 hF2
  go_wp2_with fail
  refine (requireNew_any F S a.name B _ HH2.out.box HH2.out.isHeps hnm).mono ?_
  rintro e w3 ⟨hf, hb3⟩
  rcases hf with ⟨hn1, hn2, rfl⟩ | ⟨hn1, rfl⟩ | ⟨hn1, hn2, rfl⟩
  rotate_left
  · have HV := Lib.hid (show (cutD F S a).1 = 5 by unfold cutD; rw [if_neg (by rw [H9.out]; simp), if_pos hn1])
    clear hn1
    go_wp2_with fail
    exact ⟨rfl, ChoreSaid.err 5 HV.out (by decide) (HBB2.out.trans (hb3.mono (Nat.le_trans hbw hsz2)))⟩
  · have HV := Lib.hid (show (cutD F S a).1 = 6 by unfold cutD; rw [if_neg (by rw [H9.out]; simp), if_neg (by rw [hn1]; simp), if_pos hn2])
    clear hn1 hn2
    go_wp2_with fail
    exact ⟨rfl, ChoreSaid.err 6 HV.out (by decide) (HBB2.out.trans (hb3.mono (Nat.le_trans hbw hsz2)))⟩
  have hkl : a.plot.toNat < F.ps.length := by omega
  have hpk : F.ps[a.plot.toNat]? = some F.ps[a.plot.toNat] := List.getElem?_eq_getElem hkl
  have hplt : pltAt F.ps a.plot.toNat = F.ps[a.plot.toNat] := by unfold pltAt; rw [hpk]; rfl
  have hcv : cutD F S a = (if ¬ (intAt S.last a.plot.toNat < 0 ∨ intAt S.last a.plot.toNat ≤ S.year - (pltAt F.ps a.plot.toNat).rest) then (8, S) else
    if ¬ (a.loads ≠ 0 ∧ isFromB a.loads ((pltAt F.ps a.plot.toNat).size * (pltAt F.ps a.plot.toNat).ylo) ((pltAt F.ps a.plot.toNat).size * (pltAt F.ps a.plot.toNat).yhi) = true) then (1, S) else
    if ¬ ((S.heaps.length : Int) < 16 ∧ allM S + a.loads ≤ 100000) then (3, S) else
    (0, { S with last := S.last.set a.plot.toNat S.year, given := S.given.set a.plot.toNat (intAt S.given a.plot.toNat + a.loads), heaps := S.heaps ++ [⟨a.name, (pltAt F.ps a.plot.toNat).crop, 1, none, 0, [⟨a.plot, a.loads⟩], 0, (pltAt F.ps a.plot.toNat).wlo, (pltAt F.ps a.plot.toNat).whi⟩] })) := by
    unfold cutD; rw [if_neg (by rw [H9.out]; simp), if_neg (by rw [hn1]; simp), if_neg (by omega)]
  rw [hplt] at hcv
  have hmem := List.getElem_mem hkl
  obtain ⟨⟨s1, s2⟩, ⟨y1, y2, y3⟩, ⟨r1, r2⟩, ⟨t1, t2, t3⟩⟩ := HPL.out _ hmem
  obtain ⟨fb, fo, hfa, hfl, hfc1, hfc2, hplc⟩ := (HF2.out.below hb3).at hpk
  generalize F.ps[a.plot.toNat] = p at *
  obtain ⟨p0, p1, p2, p3, p4, p5, p6, p7, p8⟩ := hplc
  have hH3 := HH2.out.below hb3
  have kA3 := KA2.out.belowS hb3
  have hsz3 := Nat.le_trans hsz2 hb3.size
  have HBB3 := Lib.hid (HBB2.out.trans (hb3.mono (Nat.le_trans hbw hsz2)))
  have b0 : w3.cell? ⟨B, 0, none⟩ = some (.slice F.pa F.ps.length F.pc) := hH3.box.cell 0
  rw [hfa] at b0
  have e1 : w3.cell? ⟨w.heap.size, 1, none⟩ = some (.int .i64 a.plot) := kA3.cell 1
  have lA3 := kA3.lt
  have lB3 := hH3.box.lt
  have hp2 : a.plot < (F.ps.length : Int) := by omega
  have HCV := Lib.hid hcv
  have HH3 := Lib.hid hH3
  have KA3 := Lib.hid kA3
  clear hpk hplt hcv hmem hn1 hn2 hb3 hH3 kA3 e3 lA hkl
  go_upto_region 4 with fail
  go_region
  have kC := (Blk.new w3 50 (pltC p)).drew
  have hb4 : Below w3.heap.size w3 (w3.alloc (.cells (pltC p) 50)).drew := ((Below.refl _ w3).alloc (Nat.le_refl _) _).drew
  unfold pltC at kC hb4
  generalize (w3.alloc (.cells #[.string p.name, .int .i64 p.crop, .int .i64 p.size, .int .i64 p.ylo, .int .i64 p.yhi, .int .i64 p.rest, .int .i64 p.wlo, .int .i64 p.whi, .int .i64 p.cost] 50)).drew = w4 at *
  have hH4 := HH3.out.below hb4
  have kA4 := KA3.out.belowS hb4
  have hsz4 := Nat.le_trans hsz3 hb4.size
  have HBB4 := Lib.hid (HBB3.out.trans (hb4.mono (Nat.le_trans hbw hsz3)))
  obtain ⟨⟨yy1, yy2⟩, hll, hlv⟩ := HYR.out
  have hkl : a.plot.toNat < S.last.length := by omega
  have hkg : a.plot.toNat < S.given.length := by omega
  clear hs2
  have hlq : S.last[a.plot.toNat]? = some S.last[a.plot.toNat] := List.getElem?_eq_getElem hkl
  have hgq : S.given[a.plot.toNat]? = some S.given[a.plot.toNat] := List.getElem?_eq_getElem hkg
  have hla : intAt S.last a.plot.toNat = S.last[a.plot.toNat] := by unfold intAt; rw [hlq]; rfl
  have hgva : intAt S.given a.plot.toNat = S.given[a.plot.toNat] := by unfold intAt; rw [hgq]; rfl
  have hlb := hlv _ (List.getElem_mem hkl)
  have hgb := HGV.out _ (List.getElem_mem hkg)
  obtain ⟨gl, lcap, lv, hbl, hgl⟩ := hH4.own.last.form (by omega)
  obtain ⟨hea, _, rfl⟩ := slice_inj lv
  obtain ⟨gg, gcap, gv, hbg, hgg⟩ := hH4.own.given.form (by omega)
  obtain ⟨hga, _, rfl⟩ := slice_inj gv
  have hlcell : w4.cell? ⟨gl, a.plot.toNat, none⟩ = some (.int .i64 S.last[a.plot.toNat]) := by
    have h1 := hH4.own.last
    rw [hea] at h1
    have h2 := flat_at cellsI 1 (fun _ => rfl) S.last a.plot.toNat 0 _ hlq (by omega)
    rw [Nat.mul_one, Nat.add_zero] at h2
    rw [h1.cellAt _ (by omega), h2]
    rfl
  have hgcell : w4.cell? ⟨gg, a.plot.toNat, none⟩ = some (.int .i64 S.given[a.plot.toNat]) := by
    have h1 := hH4.own.given
    rw [hga] at h1
    have h2 := flat_at cellsI 1 (fun _ => rfl) S.given a.plot.toNat 0 _ hgq (by omega)
    rw [Nat.mul_one, Nat.add_zero] at h2
    rw [h1.cellAt _ (by omega), h2]
    rfl
  rw [hla, hgva] at HCV
  generalize hLV : S.last[a.plot.toNat] = lk at *
  generalize hGV : S.given[a.plot.toNat] = gk at *
  have e1 : w4.cell? ⟨w.heap.size, 1, none⟩ = some (.int .i64 a.plot) := kA4.cell 1
  have b2 : w4.cell? ⟨B, 2, none⟩ = some (.int .i64 S.year) := hH4.box.cell 2
  have b3 : w4.cell? ⟨B, 3, none⟩ = some (.slice S.la S.last.length S.lc) := hH4.box.cell 3
  rw [hea] at b3
  have q5 : w4.cell? ⟨w3.heap.size, 5, none⟩ = some (.int .i64 p.rest) := kC.cell 5
  have lA := kA4.lt
  have lB := hH4.box.lt
  have lC := kC.lt
  have hstep : ∀ w', Below w4.heap.size w4 w' → Below w4.heap.size w4 w' ∧ (w'.cell? ⟨w.heap.size, 1, none⟩ = some (.int .i64 a.plot) ∧ w'.cell? ⟨B, 2, none⟩ = some (.int .i64 S.year) ∧ w'.cell? ⟨B, 3, none⟩ = some (.slice (some ⟨gl, 0, none⟩) S.last.length S.lc) ∧ w'.cell? ⟨w3.heap.size, 5, none⟩ = some (.int .i64 p.rest) ∧ w'.cell? ⟨gl, a.plot.toNat, none⟩ = some (.int .i64 lk)) :=
    fun w' hb => ⟨hb, (hb.cell (p := ⟨w.heap.size, 1, none⟩) lA).trans e1, (hb.cell (p := ⟨B, 2, none⟩) lB).trans b2, (hb.cell (p := ⟨B, 3, none⟩) lB).trans b3, (hb.cell (p := ⟨w3.heap.size, 5, none⟩) lC).trans q5, (hb.cell (p := ⟨gl, a.plot.toNat, none⟩) hgl).trans hlcell⟩
  have hx := hstep w4.drew ((Below.refl _ w4).drew)
  have hwy : IntKind.i64.wrap (S.year - p.rest) = S.year - p.rest := IntWalk.i64_in _ (by omega)
  have hpl2 : a.plot < (S.last.length : Int) := by omega
  have HH4 := Lib.hid hH4
  have KA4 := Lib.hid kA4
  have KC := Lib.hid kC
  have HLL := Lib.hid hll
  have HGCELL := Lib.hid hgcell
  have HEA := Lib.hid hea
  have HGA := Lib.hid hga
  have HLQ := Lib.hid hlq
  have HGQ := Lib.hid hgq
  have HSTEP := Lib.hid hstep
  clear hH4 kA4 kC hll hlv hlq hgq hla hgva hLV hGV hgcell hlcell hea hga lv gv hstep e1 b2 b3 q5 p0 p1 p2 p3 p4 p5 p6 p7 p8 hb4 b0 lA3 lB3
  go_upto_region 5 with fail
  go_cut [34] from 34 to 61 (fun s wx => s = .pointer (some ⟨B, 2, none⟩) ∧ Below w4.heap.size w4 wx ∧ (lk < 0 ∨ lk ≤ S.year - p.rest))
  case first =>
    refine wp_region_E 28 (fun w' : World => Below w4.heap.size w4 w' ∧ (w'.cell? ⟨w.heap.size, 1, none⟩ = some (.int .i64 a.plot) ∧ w'.cell? ⟨B, 2, none⟩ = some (.int .i64 S.year) ∧ w'.cell? ⟨B, 3, none⟩ = some (.slice (some ⟨gl, 0, none⟩) S.last.length S.lc) ∧ w'.cell? ⟨w3.heap.size, 5, none⟩ = some (.int .i64 p.rest) ∧ w'.cell? ⟨gl, a.plot.toNat, none⟩ = some (.int .i64 lk))) (by kernel_rfl) ?_
    refine tR 0 rfl hx (v := ?v80) (.inl ⟨by rfl, ?y80⟩) ?r80
    case y80 => intro w' h; (try dsimp only at h); go_simp; try with_reducible rfl
    refine tR 1 rfl hx (v := ?v81) (.inl ⟨by rfl, ?y81⟩) ?r81
    case y81 => intro w' h; (try dsimp only at h); go_simp; try with_reducible rfl
    refine tR 2 rfl hx (v := ?v82) (.inl ⟨by rfl, ?y82⟩) ?r82
    case y82 => intro w' h; (try dsimp only at h); go_simp; try with_reducible rfl
    try simp only [Act.put, List.getElem_toArray, List.getElem_cons_zero, List.getElem_cons_succ, List.setIfInBounds_toArray, List.set_cons_zero, List.set_cons_succ]
    refine tR 3 rfl hx (v := ?v83) (.inl ⟨by rfl, ?y83⟩) ?r83
    case y83 => intro w' h; (try dsimp only at h); go_simp; try with_reducible rfl
    refine tR 4 rfl hx (v := ?v84) (.inl ⟨by rfl, ?y84⟩) ?r84
    case y84 => intro w' h; (try dsimp only at h); go_simp; try with_reducible rfl
    refine tR 5 rfl hx (v := ?v85) (.inl ⟨by rfl, ?y85⟩) ?r85
    case y85 => intro w' h; (try dsimp only at h); go_simp; try with_reducible rfl
    try simp only [Act.put, List.getElem_toArray, List.getElem_cons_zero, List.getElem_cons_succ, List.setIfInBounds_toArray, List.set_cons_zero, List.set_cons_succ]
    refine tR 6 rfl hx (v := ?v86) (.inl ⟨by rfl, ?y86⟩) ?r86
    case y86 => intro w' h; (try dsimp only at h); go_simp; try with_reducible rfl
    refine tR 7 rfl hx (v := ?v87) (.inl ⟨by rfl, ?y87⟩) ?r87
    case y87 => intro w' h; (try dsimp only at h); go_simp; try with_reducible rfl
    refine tR 8 rfl hx (v := ?v88) (.inl ⟨by rfl, ?y88⟩) ?r88
    case y88 => intro w' h; (try dsimp only at h); go_simp; try with_reducible rfl
    try simp only [Act.put, List.getElem_toArray, List.getElem_cons_zero, List.getElem_cons_succ, List.setIfInBounds_toArray, List.set_cons_zero, List.set_cons_succ]
    refine tR 9 rfl hx (v := ?v89) (.inl ⟨by rfl, ?y89⟩) ?r89
    case y89 => intro w' h; (try dsimp only at h); go_simp; try with_reducible rfl
    try simp only [Act.put, List.getElem_toArray, List.getElem_cons_zero, List.getElem_cons_succ, List.setIfInBounds_toArray, List.set_cons_zero, List.set_cons_succ]
    by_cases hl0 : lk < 0
    · have ql : decide (lk < 0) = true := by simp [hl0]
      rw [ql]
      refine tR 10 rfl hx (v := undef) (.inr ⟨by rfl, rfl⟩) ?r106
      refine tR 11 rfl hx (v := undef) (.inr ⟨by rfl, rfl⟩) ?r107
      refine tR 12 rfl hx (v := undef) (.inr ⟨by rfl, rfl⟩) ?r108
      try simp only [Act.put, List.getElem_toArray, List.getElem_cons_zero, List.getElem_cons_succ, List.setIfInBounds_toArray, List.set_cons_zero, List.set_cons_succ]
      refine tR 13 rfl hx (v := undef) (.inr ⟨by rfl, rfl⟩) ?r109
      refine tR 14 rfl hx (v := undef) (.inr ⟨by rfl, rfl⟩) ?r110
      refine tR 15 rfl hx (v := undef) (.inr ⟨by rfl, rfl⟩) ?r111
      try simp only [Act.put, List.getElem_toArray, List.getElem_cons_zero, List.getElem_cons_succ, List.setIfInBounds_toArray, List.set_cons_zero, List.set_cons_succ]
      refine tR 16 rfl hx (v := undef) (.inr ⟨by rfl, rfl⟩) ?r112
      refine tR 17 rfl hx (v := undef) (.inr ⟨by rfl, rfl⟩) ?r113
      refine tR 18 rfl hx (v := undef) (.inr ⟨by rfl, rfl⟩) ?r114
      try simp only [Act.put, List.getElem_toArray, List.getElem_cons_zero, List.getElem_cons_succ, List.setIfInBounds_toArray, List.set_cons_zero, List.set_cons_succ]
      refine tR 19 rfl hx (v := undef) (.inr ⟨by rfl, rfl⟩) ?r115
      refine tR 20 rfl hx (v := undef) (.inr ⟨by rfl, rfl⟩) ?r116
      refine tR 21 rfl hx (v := undef) (.inr ⟨by rfl, rfl⟩) ?r117
      try simp only [Act.put, List.getElem_toArray, List.getElem_cons_zero, List.getElem_cons_succ, List.setIfInBounds_toArray, List.set_cons_zero, List.set_cons_succ]
      refine tR 22 rfl hx (v := undef) (.inr ⟨by rfl, rfl⟩) ?r118
      refine tR 23 rfl hx (v := undef) (.inr ⟨by rfl, rfl⟩) ?r119
      refine tR 24 rfl hx (v := undef) (.inr ⟨by rfl, rfl⟩) ?r120
      try simp only [Act.put, List.getElem_toArray, List.getElem_cons_zero, List.getElem_cons_succ, List.setIfInBounds_toArray, List.set_cons_zero, List.set_cons_succ]
      refine tR 25 rfl hx (v := undef) (.inr ⟨by rfl, rfl⟩) ?r121
      refine tR 26 rfl hx (v := ?v122) (.inl ⟨by rfl, ?y122⟩) ?r122
      case y122 => intro w' h; (try dsimp only at h); go_simp; try with_reducible rfl
      try simp only [Act.put, List.getElem_toArray, List.getElem_cons_zero, List.getElem_cons_succ, List.setIfInBounds_toArray, List.set_cons_zero, List.set_cons_succ]
      refine E_step (i := 27) (o := _) (by kernel_rfl) rfl (fun K hK => ?_)
      go_simp
      refine (require_yes 8 _).mono ?_
      rintro r w6 ⟨rfl, rfl⟩
      dsimp only
      refine hK.out _ _ (fun _ => hx) ?_
      clear hK K
      try simp only [Act.put, List.getElem_toArray, List.getElem_cons_zero, List.getElem_cons_succ, List.setIfInBounds_toArray, List.set_cons_zero, List.set_cons_succ]
      refine E_done (by kernel_rfl) ?_ _
      go_wp2_with fail
      go_meet
      exact ⟨rfl, hx.1, .inl hl0⟩
    · have ql : decide (lk < 0) = false := by simp [hl0]
      rw [ql]
      refine tR 10 rfl hx (v := ?v123) (.inl ⟨by rfl, ?y123⟩) ?r123
      case y123 => intro w' h; (try dsimp only at h); go_simp; try with_reducible rfl
      refine tR 11 rfl hx (v := ?v124) (.inl ⟨by rfl, ?y124⟩) ?r124
      case y124 => intro w' h; (try dsimp only at h); go_simp; try with_reducible rfl
      refine tR 12 rfl hx (v := ?v125) (.inl ⟨by rfl, ?y125⟩) ?r125
      case y125 => intro w' h; (try dsimp only at h); go_simp; try with_reducible rfl
      try simp only [Act.put, List.getElem_toArray, List.getElem_cons_zero, List.getElem_cons_succ, List.setIfInBounds_toArray, List.set_cons_zero, List.set_cons_succ]
      refine tR 13 rfl hx (v := ?v126) (.inl ⟨by rfl, ?y126⟩) ?r126
      case y126 => intro w' h; (try dsimp only at h); go_simp; try with_reducible rfl
      refine tR 14 rfl hx (v := ?v127) (.inl ⟨by rfl, ?y127⟩) ?r127
      case y127 => intro w' h; (try dsimp only at h); go_simp; try with_reducible rfl
      refine tR 15 rfl hx (v := ?v128) (.inl ⟨by rfl, ?y128⟩) ?r128
      case y128 => intro w' h; (try dsimp only at h); go_simp; try with_reducible rfl
      try simp only [Act.put, List.getElem_toArray, List.getElem_cons_zero, List.getElem_cons_succ, List.setIfInBounds_toArray, List.set_cons_zero, List.set_cons_succ]
      refine tR 16 rfl hx (v := ?v129) (.inl ⟨by rfl, ?y129⟩) ?r129
      case y129 => intro w' h; (try dsimp only at h); go_simp; try with_reducible rfl
      refine tR 17 rfl hx (v := ?v130) (.inl ⟨by rfl, ?y130⟩) ?r130
      case y130 => intro w' h; (try dsimp only at h); go_simp; try with_reducible rfl
      refine tR 18 rfl hx (v := ?v131) (.inl ⟨by rfl, ?y131⟩) ?r131
      case y131 => intro w' h; (try dsimp only at h); go_simp; try with_reducible rfl
      try simp only [Act.put, List.getElem_toArray, List.getElem_cons_zero, List.getElem_cons_succ, List.setIfInBounds_toArray, List.set_cons_zero, List.set_cons_succ]
      refine tR 19 rfl hx (v := ?v132) (.inl ⟨by rfl, ?y132⟩) ?r132
      case y132 => intro w' h; (try dsimp only at h); go_simp; try with_reducible rfl
      refine tR 20 rfl hx (v := ?v133) (.inl ⟨by rfl, ?y133⟩) ?r133
      case y133 => intro w' h; (try dsimp only at h); go_simp; try with_reducible rfl
      refine tR 21 rfl hx (v := ?v134) (.inl ⟨by rfl, ?y134⟩) ?r134
      case y134 => intro w' h; (try dsimp only at h); go_simp; try with_reducible rfl
      try simp only [Act.put, List.getElem_toArray, List.getElem_cons_zero, List.getElem_cons_succ, List.setIfInBounds_toArray, List.set_cons_zero, List.set_cons_succ]
      refine tR 22 rfl hx (v := ?v135) (.inl ⟨by rfl, ?y135⟩) ?r135
      case y135 => intro w' h; (try dsimp only at h); go_simp; try with_reducible rfl
      refine tR 23 rfl hx (v := ?v136) (.inl ⟨by rfl, ?y136⟩) ?r136
      case y136 => intro w' h; (try dsimp only at h); go_simp; try with_reducible rfl
      refine tR 24 rfl hx (v := ?v137) (.inl ⟨by rfl, ?y137⟩) ?r137
      case y137 => intro w' h; (try dsimp only at h); go_simp; try with_reducible rfl
      try simp only [Act.put, List.getElem_toArray, List.getElem_cons_zero, List.getElem_cons_succ, List.setIfInBounds_toArray, List.set_cons_zero, List.set_cons_succ]
      refine tR 25 rfl hx (v := ?v138) (.inl ⟨by rfl, ?y138⟩) ?r138
      case y138 => intro w' h; (try dsimp only at h); go_simp; try with_reducible rfl
      try simp only [Act.put, List.getElem_toArray, List.getElem_cons_zero, List.getElem_cons_succ, List.setIfInBounds_toArray, List.set_cons_zero, List.set_cons_succ]
      by_cases hl1 : lk ≤ S.year - p.rest
      · have qm : decide (lk ≤ S.year - p.rest) = true := by simp [hl1]
        rw [qm]
        refine tR 26 rfl hx (v := ?v139) (.inl ⟨by rfl, ?y139⟩) ?r139
        case y139 => intro w' h; (try dsimp only at h); go_simp; try with_reducible rfl
        try simp only [Act.put, List.getElem_toArray, List.getElem_cons_zero, List.getElem_cons_succ, List.setIfInBounds_toArray, List.set_cons_zero, List.set_cons_succ]
        refine E_step (i := 27) (o := _) (by kernel_rfl) rfl (fun K hK => ?_)
        go_simp
        refine (require_yes 8 _).mono ?_
        rintro r w6 ⟨rfl, rfl⟩
        dsimp only
        refine hK.out _ _ (fun _ => hx) ?_
        clear hK K
        try simp only [Act.put, List.getElem_toArray, List.getElem_cons_zero, List.getElem_cons_succ, List.setIfInBounds_toArray, List.set_cons_zero, List.set_cons_succ]
        refine E_done (by kernel_rfl) ?_ _
        go_wp2_with fail
        go_meet
        exact ⟨rfl, hx.1, .inr hl1⟩
      · have qm : decide (lk ≤ S.year - p.rest) = false := by simp [hl1]
        rw [qm]
        have HV := Lib.hid (show (cutD F S a).1 = 8 by rw [HCV.out, if_pos (by omega)])
        refine tR 26 rfl hx (v := ?v140) (.inl ⟨by rfl, ?y140⟩) ?r140
        case y140 => intro w' h; (try dsimp only at h); go_simp; try with_reducible rfl
        try simp only [Act.put, List.getElem_toArray, List.getElem_cons_zero, List.getElem_cons_succ, List.setIfInBounds_toArray, List.set_cons_zero, List.set_cons_succ]
        refine E_step (i := 27) (o := _) (by kernel_rfl) rfl (fun K hK => ?_)
        go_simp
        refine (require_no 8 _).mono ?_
        rintro r w7 ⟨rfl, rfl⟩
        dsimp only
        exact ⟨rfl, ChoreSaid.err 8 HV.out (by decide) (HBB4.out.trans (hx.1.mono (Nat.le_trans hbw hsz4)))⟩
  case rest =>
  obtain ⟨rfl, hbx, hlc⟩ := hcut
  obtain ⟨w5, rfl⟩ : ∃ w5 : World, w5 = wc := ⟨_, rfl⟩
  have hH5 := HH4.out.below hbx
  have kA5 := KA4.out.belowS hbx
  have kC5 := KC.out.belowS hbx
  have hsz5 := Nat.le_trans hsz4 hbx.size
  have HBB5 := Lib.hid (HBB4.out.trans (hbx.mono (Nat.le_trans hbw hsz4)))
  have HGCELL5 := Lib.hid ((hbx.cell (p := ⟨gg, a.plot.toNat, none⟩) hgg).trans HGCELL.out)
  have HLCELL5 := Lib.hid (HSTEP.out w5 hbx).2.2.2.2.2
  have hgl5 := Nat.lt_of_lt_of_le hgl hbx.size
  have hgg5 := Nat.lt_of_lt_of_le hgg hbx.size
  have a2 : w5.cell? ⟨w.heap.size, 2, none⟩ = some (.int .i64 a.loads) := kA5.cell 2
  have q2 : w5.cell? ⟨w3.heap.size, 2, none⟩ = some (.int .i64 p.size) := kC5.cell 2
  have q3 : w5.cell? ⟨w3.heap.size, 3, none⟩ = some (.int .i64 p.ylo) := kC5.cell 3
  have q4 : w5.cell? ⟨w3.heap.size, 4, none⟩ = some (.int .i64 p.yhi) := kC5.cell 4
  have lA5 := kA5.lt
  have lC5 := kC5.lt
  have lB5 := hH5.box.lt
  have hm1 : 0 ≤ p.size * p.ylo := Int.mul_nonneg (by omega) (by omega)
  have hm2 : p.size * p.ylo ≤ 100 * 1000 := Int.mul_le_mul (by omega) (by omega) (by omega) (by omega)
  have hm3 : 0 ≤ p.size * p.yhi := Int.mul_nonneg (by omega) (by omega)
  have hm4 : p.size * p.yhi ≤ 100 * 1000 := Int.mul_le_mul (by omega) (by omega) (by omega) (by omega)
  have hwa : IntKind.i64.wrap (p.size * p.ylo) = p.size * p.ylo := IntWalk.i64_in _ (by omega)
  have hwb : IntKind.i64.wrap (p.size * p.yhi) = p.size * p.yhi := IntWalk.i64_in _ (by omega)
  have HLC := Lib.hid hlc
  have HH5 := Lib.hid hH5
  have KA5 := Lib.hid kA5
  have KC5 := Lib.hid kC5
  clear hbx hlc hH5 kA5 kC5 hx lA lB lC hgl hgg hwy
  by_cases ha0 : a.loads = 0
  · have qz : (a.loads == 0) = true := by simp [ha0]
    have qz' : (a.loads != 0) = false := by simp [ha0]
    have HV := Lib.hid (show (cutD F S a).1 = 1 by rw [HCV.out, if_neg (fun e => e HLC.out), if_pos (fun e => e.1 ha0)])
    clear ha0
    go_wp2_with fail
    refine (require_no 1 _).mono ?_
    rintro e w6 ⟨rfl, rfl⟩
    go_wp2_with fail
    exact ⟨rfl, ChoreSaid.err 1 HV.out (by decide) HBB5.out⟩
  have qz : (a.loads == 0) = false := by simp [ha0]
  have qz' : (a.loads != 0) = true := by simp [ha0]
  have HA0 := Lib.hid ha0
  clear ha0
  go_wp2_with fail
  refine (isFrom_any a.loads (p.size * p.ylo) (p.size * p.yhi) _).mono ?_
  rintro e w6 ⟨rfl, rfl⟩
  cases h10 : isFromB a.loads (p.size * p.ylo) (p.size * p.yhi) with
  | false =>
    have HV := Lib.hid (show (cutD F S a).1 = 1 by rw [HCV.out, if_neg (fun e => e HLC.out), if_pos (fun e => by have := e.2; rw [h10] at this; cases this)])
    clear h10
    go_wp2_with fail
    refine (require_no 1 _).mono ?_
    rintro e w6 ⟨rfl, rfl⟩
    go_wp2_with fail
    exact ⟨rfl, ChoreSaid.err 1 HV.out (by decide) HBB5.out⟩
  | true =>
  obtain ⟨hlo1, hlo2⟩ := isFromB_iff.1 h10
  have H10 := Lib.hid h10
  clear h10
  go_wp2_with fail
  refine (require_yes 1 _).mono ?_
  rintro e w6 ⟨rfl, rfl⟩
  have hhk : ∀ h ∈ S.heaps, ∀ q ∈ h.parts, q.ok F.ps.length := fun h hm => (HHEAP.out h hm).1
  have huk := partsB_ok hs3
  have hwk := partsB_ok hs4
  have hal : ∀ w', Below w6.heap.size w6 w' → Calls Tryz.prog 85 #[stoV S] w' fun e w'' => e = .returned (.int .i64 (allM S)) ∧ Below w'.heap.size w' w'' := fun w' hb => allLoads_any F.ps.length S w' ((HH5.out.own.below hb).store) hhk huk hwk HFIT.out
  have hab : 0 ≤ allM S ∧ allM S ≤ 1000000000000 := by
    have b1 := loadsM_bd huk
    have b2 := loadsM_bd hwk
    have b3 := heapsM_bd hhk hf4
    unfold allM
    omega
  obtain ⟨hab1, hab2⟩ := hab
  have hwl : IntKind.i64.wrap (allM S + a.loads) = allM S + a.loads := IntWalk.i64_in _ (by omega)
  have kB5 := HH5.out.box
  have b2 : w6.cell? ⟨B, 2, none⟩ = some (.int .i64 S.year) := kB5.cell 2
  have b3 : w6.cell? ⟨B, 3, none⟩ = some (.slice S.la S.last.length S.lc) := kB5.cell 3
  have b4 : w6.cell? ⟨B, 4, none⟩ = some (.slice S.ga S.given.length S.gc) := kB5.cell 4
  have b5 : w6.cell? ⟨B, 5, none⟩ = some (.slice S.ha S.heaps.length S.hc) := kB5.cell 5
  have b6 : w6.cell? ⟨B, 6, none⟩ = some (.slice S.ua S.used.length S.uc) := kB5.cell 6
  have b7 : w6.cell? ⟨B, 7, none⟩ = some (.slice S.wa S.waste.length S.wc) := kB5.cell 7
  have hstep : ∀ w', Below w6.heap.size w6 w' → Below w6.heap.size w6 w' ∧ (w'.cell? ⟨w.heap.size, 2, none⟩ = some (.int .i64 a.loads) ∧ w'.cell? ⟨B, 2, none⟩ = some (.int .i64 S.year) ∧ w'.cell? ⟨B, 3, none⟩ = some (.slice S.la S.last.length S.lc) ∧ w'.cell? ⟨B, 4, none⟩ = some (.slice S.ga S.given.length S.gc) ∧ w'.cell? ⟨B, 5, none⟩ = some (.slice S.ha S.heaps.length S.hc) ∧ w'.cell? ⟨B, 6, none⟩ = some (.slice S.ua S.used.length S.uc) ∧ w'.cell? ⟨B, 7, none⟩ = some (.slice S.wa S.waste.length S.wc)) :=
    fun w' hb => ⟨hb, (hb.cell (p := ⟨w.heap.size, 2, none⟩) lA5).trans a2, (hb.cell (p := ⟨B, 2, none⟩) lB5).trans b2, (hb.cell (p := ⟨B, 3, none⟩) lB5).trans b3, (hb.cell (p := ⟨B, 4, none⟩) lB5).trans b4, (hb.cell (p := ⟨B, 5, none⟩) lB5).trans b5, (hb.cell (p := ⟨B, 6, none⟩) lB5).trans b6, (hb.cell (p := ⟨B, 7, none⟩) lB5).trans b7⟩
  have hx := hstep w6.drew ((Below.refl _ w6).drew)
  generalize hM : allM S = M at *
  have HAL := Lib.hid hal
  have HST6 := Lib.hid hstep
  clear hM hhk huk hwk hal kB5 b2 b3 b4 b5 b6 b7 hstep a2 q2 q3 q4 lA5 lC5 lB5
  go_upto_region 7 with fail
  refine wp_region_E 17 (fun w' : World => Below w6.heap.size w6 w' ∧ (w'.cell? ⟨w.heap.size, 2, none⟩ = some (.int .i64 a.loads) ∧ w'.cell? ⟨B, 2, none⟩ = some (.int .i64 S.year) ∧ w'.cell? ⟨B, 3, none⟩ = some (.slice S.la S.last.length S.lc) ∧ w'.cell? ⟨B, 4, none⟩ = some (.slice S.ga S.given.length S.gc) ∧ w'.cell? ⟨B, 5, none⟩ = some (.slice S.ha S.heaps.length S.hc) ∧ w'.cell? ⟨B, 6, none⟩ = some (.slice S.ua S.used.length S.uc) ∧ w'.cell? ⟨B, 7, none⟩ = some (.slice S.wa S.waste.length S.wc))) (by kernel_rfl) ?_
  refine tR 0 rfl hx (v := ?v141) (.inl ⟨by rfl, ?y141⟩) ?r141
  case y141 => intro w' h; (try dsimp only at h); go_simp; try with_reducible rfl
  refine tR 1 rfl hx (v := ?v142) (.inl ⟨by rfl, ?y142⟩) ?r142
  case y142 => intro w' h; (try dsimp only at h); go_simp; try with_reducible rfl
  refine tR 2 rfl hx (v := ?v143) (.inl ⟨by rfl, ?y143⟩) ?r143
  case y143 => intro w' h; (try dsimp only at h); go_simp; try with_reducible rfl
  try simp only [Act.put, List.getElem_toArray, List.getElem_cons_zero, List.getElem_cons_succ, List.setIfInBounds_toArray, List.set_cons_zero, List.set_cons_succ]
  refine tR 3 rfl hx (v := ?v144) (.inl ⟨by rfl, ?y144⟩) ?r144
  case y144 => intro w' h; (try dsimp only at h); go_simp; try with_reducible rfl
  refine tR 4 rfl hx (v := ?v145) (.inl ⟨by rfl, ?y145⟩) ?r145
  case y145 => intro w' h; (try dsimp only at h); go_simp; try with_reducible rfl
  refine tR 5 rfl hx (v := ?v146) (.inl ⟨by rfl, ?y146⟩) ?r146
  case y146 => intro w' h; (try dsimp only at h); go_simp; try with_reducible rfl
  try simp only [Act.put, List.getElem_toArray, List.getElem_cons_zero, List.getElem_cons_succ, List.setIfInBounds_toArray, List.set_cons_zero, List.set_cons_succ]
  refine tR 6 rfl hx (v := ?v147) (.inl ⟨by rfl, ?y147⟩) ?r147
  case y147 => intro w' h; (try dsimp only at h); go_simp; try with_reducible rfl
  try simp only [Act.put, List.getElem_toArray, List.getElem_cons_zero, List.getElem_cons_succ, List.setIfInBounds_toArray, List.set_cons_zero, List.set_cons_succ]
  by_cases hh : (S.heaps.length : Int) < 16
  rotate_left
  · have qh : decide ((S.heaps.length : Int) < 16) = false := by simp [hh]
    rw [qh]
    have HV := Lib.hid (show (cutD F S a).1 = 3 by rw [HCV.out, if_neg (fun e => e HLC.out), if_neg (fun e => e ⟨HA0.out, H10.out⟩), if_pos (fun e => hh e.1)])
    clear hh
    refine tR 7 rfl hx (v := undef) (.inr ⟨by rfl, rfl⟩) ?r148
    refine tR 8 rfl hx (v := undef) (.inr ⟨by rfl, rfl⟩) ?r149
    refine tR 9 rfl hx (v := undef) (.inr ⟨by rfl, rfl⟩) ?r150
    try simp only [Act.put, List.getElem_toArray, List.getElem_cons_zero, List.getElem_cons_succ, List.setIfInBounds_toArray, List.set_cons_zero, List.set_cons_succ]
    refine tR 10 rfl hx (v := undef) (.inr ⟨by rfl, rfl⟩) ?r151
    refine tR 11 rfl hx (v := undef) (.inr ⟨by rfl, rfl⟩) ?r152
    refine tR 12 rfl hx (v := undef) (.inr ⟨by rfl, rfl⟩) ?r153
    try simp only [Act.put, List.getElem_toArray, List.getElem_cons_zero, List.getElem_cons_succ, List.setIfInBounds_toArray, List.set_cons_zero, List.set_cons_succ]
    refine tR 13 rfl hx (v := undef) (.inr ⟨by rfl, rfl⟩) ?r154
    refine tR 14 rfl hx (v := undef) (.inr ⟨by rfl, rfl⟩) ?r155
    refine tR 15 rfl hx (v := ?v156) (.inl ⟨by rfl, ?y156⟩) ?r156
    case y156 => intro w' h; (try dsimp only at h); go_simp; try with_reducible rfl
    try simp only [Act.put, List.getElem_toArray, List.getElem_cons_zero, List.getElem_cons_succ, List.setIfInBounds_toArray, List.set_cons_zero, List.set_cons_succ]
    refine E_step (i := 16) (o := _) (by kernel_rfl) rfl (fun K hK => ?_)
    go_simp
    refine (require_no 3 _).mono ?_
    rintro r w7 ⟨rfl, rfl⟩
    dsimp only
    exact ⟨rfl, ChoreSaid.err 3 HV.out (by decide) (HBB5.out.trans (hx.1.mono (Nat.le_trans hbw hsz5)))⟩
  have qh : decide ((S.heaps.length : Int) < 16) = true := by simp [hh]
  rw [qh]
  have HHH := Lib.hid hh
  clear hh
  refine tR 7 rfl hx (v := ?v157) (.inl ⟨by rfl, ?y157⟩) ?r157
  case y157 => intro w' h; (try dsimp only at h); go_simp; try with_reducible rfl
  refine tR 8 rfl hx (v := ?v158) (.inl ⟨by rfl, ?y158⟩) ?r158
  case y158 => intro w' h; (try dsimp only at h); go_simp; try with_reducible rfl
  refine tR 9 rfl hx (v := ?v159) (.inl ⟨by rfl, ?y159⟩) ?r159
  case y159 => intro w' h; (try dsimp only at h); go_simp; try with_reducible rfl
  try simp only [Act.put, List.getElem_toArray, List.getElem_cons_zero, List.getElem_cons_succ, List.setIfInBounds_toArray, List.set_cons_zero, List.set_cons_succ]
  refine tR 11 rfl hx (v := ?v160) (.inl ⟨by rfl, ?y160⟩) ?r160
  case y160 => intro w' h; (try dsimp only at h); go_simp; try with_reducible rfl
  refine tR 12 rfl hx (v := ?v161) (.inl ⟨by rfl, ?y161⟩) ?r161
  case y161 => intro w' h; (try dsimp only at h); go_simp; try with_reducible rfl
  try simp only [Act.put, List.getElem_toArray, List.getElem_cons_zero, List.getElem_cons_succ, List.setIfInBounds_toArray, List.set_cons_zero, List.set_cons_succ]
  refine E_step (i := 10) (o := _) (by kernel_rfl) rfl (fun K hK => ?_)
  go_simp
  refine (HAL.out _ hx.1).mono ?_
  rintro r w7 ⟨rfl, hb7⟩
  dsimp only
  have hx7 := HST6.out w7 (hx.1.trans (hb7.mono hx.1.size))
  refine hK.out _ _ (fun _ => hx7) ?_
  clear hK K
  try simp only [Act.put, List.getElem_toArray, List.getElem_cons_zero, List.getElem_cons_succ, List.setIfInBounds_toArray, List.set_cons_zero, List.set_cons_succ]
  refine tR 13 rfl hx7 (v := ?v162) (.inl ⟨by rfl, ?y162⟩) ?r162
  case y162 => intro w' h; (try dsimp only at h); go_simp; try with_reducible rfl
  refine tR 14 rfl hx7 (v := ?v163) (.inl ⟨by rfl, ?y163⟩) ?r163
  case y163 => intro w' h; (try dsimp only at h); go_simp; try with_reducible rfl
  try simp only [Act.put, List.getElem_toArray, List.getElem_cons_zero, List.getElem_cons_succ, List.setIfInBounds_toArray, List.set_cons_zero, List.set_cons_succ]
  by_cases hs : M + a.loads ≤ 100000
  rotate_left
  · have qs : decide (M + a.loads ≤ 100000) = false := by simp [hs]
    rw [qs]
    have HV := Lib.hid (show (cutD F S a).1 = 3 by rw [HCV.out, if_neg (fun e => e HLC.out), if_neg (fun e => e ⟨HA0.out, H10.out⟩), if_pos (fun e => hs e.2)])
    clear hs
    refine tR 15 rfl hx7 (v := ?v164) (.inl ⟨by rfl, ?y164⟩) ?r164
    case y164 => intro w' h; (try dsimp only at h); go_simp; try with_reducible rfl
    try simp only [Act.put, List.getElem_toArray, List.getElem_cons_zero, List.getElem_cons_succ, List.setIfInBounds_toArray, List.set_cons_zero, List.set_cons_succ]
    refine E_step (i := 16) (o := _) (by kernel_rfl) rfl (fun K hK => ?_)
    go_simp
    refine (require_no 3 _).mono ?_
    rintro r w7 ⟨rfl, rfl⟩
    dsimp only
    exact ⟨rfl, ChoreSaid.err 3 HV.out (by decide) (HBB5.out.trans (hx7.1.mono (Nat.le_trans hbw hsz5)))⟩
  have qs : decide (M + a.loads ≤ 100000) = true := by simp [hs]
  rw [qs]
  have hv : cutD F S a = (0, { S with last := S.last.set a.plot.toNat S.year, given := S.given.set a.plot.toNat (gk + a.loads), heaps := S.heaps ++ [⟨a.name, p.crop, 1, none, 0, [⟨a.plot, a.loads⟩], 0, p.wlo, p.whi⟩] }) := by
    rw [HCV.out, if_neg (fun e => e HLC.out), if_neg (fun e => e ⟨HA0.out, H10.out⟩), if_neg (fun e => e ⟨HHH.out, hs⟩)]
  have HV := Lib.hid hv
  clear hs hv
  refine tR 15 rfl hx7 (v := ?v165) (.inl ⟨by rfl, ?y165⟩) ?r165
  case y165 => intro w' h; (try dsimp only at h); go_simp; try with_reducible rfl
  try simp only [Act.put, List.getElem_toArray, List.getElem_cons_zero, List.getElem_cons_succ, List.setIfInBounds_toArray, List.set_cons_zero, List.set_cons_succ]
  refine E_step (i := 16) (o := _) (by kernel_rfl) rfl (fun K hK => ?_)
  go_simp
  refine (require_yes 3 _).mono ?_
  rintro r w8 ⟨rfl, rfl⟩
  dsimp only
  refine hK.out _ _ (fun _ => hx7) ?_
  clear hK K
  try simp only [Act.put, List.getElem_toArray, List.getElem_cons_zero, List.getElem_cons_succ, List.setIfInBounds_toArray, List.set_cons_zero, List.set_cons_succ]
  refine E_done (by kernel_rfl) ?_ _
  have hb8 := hx7.1
  have hH8 := HH5.out.below hb8
  have kA8 := KA5.out.belowS hb8
  have kC8 := KC5.out.belowS hb8
  have hsz8 := Nat.le_trans hsz5 hb8.size
  have HBB8 := Lib.hid (HBB5.out.trans (hb8.mono (Nat.le_trans hbw hsz5)))
  have lc8 := (hb8.cell (p := ⟨gl, a.plot.toNat, none⟩) hgl5).trans HLCELL5.out
  have gc8 := (hb8.cell (p := ⟨gg, a.plot.toNat, none⟩) hgg5).trans HGCELL5.out
  have hgl8 := Nat.lt_of_lt_of_le hgl5 hb8.size
  have hgg8 := Nat.lt_of_lt_of_le hgg5 hb8.size
  clear hx hx7 hb7 hb8
  generalize hWW : w8 = W at *
  clear hWW
  have u1 : W.cell? ⟨w.heap.size, 1, none⟩ = some (.int .i64 a.plot) := kA8.cell 1
  have v2 : W.cell? ⟨B, 2, none⟩ = some (.int .i64 S.year) := hH8.box.cell 2
  have v3 : W.cell? ⟨B, 3, none⟩ = some (.slice S.la S.last.length S.lc) := hH8.box.cell 3
  rw [HEA.out] at v3
  have hx : (fun w' : World => Below W.heap.size W w' ∧ (w'.cell? ⟨B, 3, none⟩ = some (.slice (some ⟨gl, 0, none⟩) S.last.length S.lc) ∧ w'.cell? ⟨w.heap.size, 1, none⟩ = some (.int .i64 a.plot) ∧ w'.cell? ⟨B, 2, none⟩ = some (.int .i64 S.year))) W.drew := ⟨(Below.refl _ W).drew, v3, u1, v2⟩
  have lgz : W.frozen? ⟨gl, a.plot.toNat, none⟩ = false := by
    have := hH8.own.last
    rw [HEA.out] at this
    exact this.frozenAt _
  have hAr : ∀ k ∈ rowsOf S, w.heap.size ≠ k ∧ w3.heap.size ≠ k := fun k hk => by have := HROWS.out k hk; omega
  have hglr : gl ∈ rowsOf S := rows_la (by rw [HEA.out]; rfl)
  have hggr : gg ∈ rowsOf S := rows_ga (by rw [HGA.out]; rfl)
  have hlgne : gl ≠ gg := fun e => out_la hH8.own.apart gl (by rw [HEA.out]; rfl) (by rw [e]; exact rows_ga (S := { S with la := none }) (by show S.ga.map _ = _; rw [HGA.out]; rfl))
  have HH8 := Lib.hid hH8
  have KA8 := Lib.hid kA8
  have KC8 := Lib.hid kC8
  have GC8 := Lib.hid gc8
  clear hH8 kA8 kC8 gc8 u1 v2 v3
  go_upto_region 8 with fail
  refine wp_region_E 11 (fun w' : World => Below W.heap.size W w' ∧ (w'.cell? ⟨B, 3, none⟩ = some (.slice (some ⟨gl, 0, none⟩) S.last.length S.lc) ∧ w'.cell? ⟨w.heap.size, 1, none⟩ = some (.int .i64 a.plot) ∧ w'.cell? ⟨B, 2, none⟩ = some (.int .i64 S.year))) (by kernel_rfl) ?_
  refine tk 0 rfl hx (v := ?v166) (.inl ⟨by rfl, ?y166⟩) ?r166
  case y166 => intro w' h; (try dsimp only at h); go_simp; try with_reducible rfl
  refine tk 1 rfl hx (v := ?v167) (.inl ⟨by rfl, ?y167⟩) ?r167
  case y167 => intro w' h; (try dsimp only at h); go_simp; try with_reducible rfl
  refine tk 2 rfl hx (v := ?v168) (.inl ⟨by rfl, ?y168⟩) ?r168
  case y168 => intro w' h; (try dsimp only at h); go_simp; try with_reducible rfl
  try simp only [Act.put, List.getElem_toArray, List.getElem_cons_zero, List.getElem_cons_succ, List.setIfInBounds_toArray, List.set_cons_zero, List.set_cons_succ]
  refine tk 3 rfl hx (v := ?v169) (.inl ⟨by rfl, ?y169⟩) ?r169
  case y169 => intro w' h; (try dsimp only at h); go_simp; try with_reducible rfl
  refine tk 4 rfl hx (v := ?v170) (.inl ⟨by rfl, ?y170⟩) ?r170
  case y170 => intro w' h; (try dsimp only at h); go_simp; try with_reducible rfl
  refine tk 5 rfl hx (v := ?v171) (.inl ⟨by rfl, ?y171⟩) ?r171
  case y171 => intro w' h; (try dsimp only at h); go_simp; try with_reducible rfl
  try simp only [Act.put, List.getElem_toArray, List.getElem_cons_zero, List.getElem_cons_succ, List.setIfInBounds_toArray, List.set_cons_zero, List.set_cons_succ]
  refine tk 6 rfl hx (v := ?v172) (.inl ⟨by rfl, ?y172⟩) ?r172
  case y172 => intro w' h; (try dsimp only at h); go_simp; try with_reducible rfl
  refine tk 7 rfl hx (v := ?v173) (.inl ⟨by rfl, ?y173⟩) ?r173
  case y173 => intro w' h; (try dsimp only at h); go_simp; try with_reducible rfl
  refine tk 8 rfl hx (v := ?v174) (.inl ⟨by rfl, ?y174⟩) ?r174
  case y174 => intro w' h; (try dsimp only at h); go_simp; try with_reducible rfl
  try simp only [Act.put, List.getElem_toArray, List.getElem_cons_zero, List.getElem_cons_succ, List.setIfInBounds_toArray, List.set_cons_zero, List.set_cons_succ]
  refine tk 9 rfl hx (v := ?v175) (.inl ⟨by rfl, ?y175⟩) ?r175
  case y175 => intro w' h; (try dsimp only at h); go_simp; try with_reducible rfl
  try simp only [Act.put, List.getElem_toArray, List.getElem_cons_zero, List.getElem_cons_succ, List.setIfInBounds_toArray, List.set_cons_zero, List.set_cons_succ]
  refine E_step (i := 10) (o := _) (by kernel_rfl) rfl (fun K hK => ?_)
  go_simp
  refine hK.out _ _ (fun _ => hx) ?_
  clear hK K
  try simp only [Act.put, List.getElem_toArray, List.getElem_cons_zero, List.getElem_cons_succ, List.setIfInBounds_toArray, List.set_cons_zero, List.set_cons_succ]
  refine E_step (i := 11) (o := _) (by kernel_rfl) rfl (fun K hK => ?_)
  go_simp
  refine hK.out _ _ (fun h => absurd rfl h) ?_
  clear hK K
  try simp only [Act.put, List.getElem_toArray, List.getElem_cons_zero, List.getElem_cons_succ, List.setIfInBounds_toArray, List.set_cons_zero, List.set_cons_succ]
  refine E_done (by kernel_rfl) ?_ _
  have hV1 := last_hand (y := S.year) (HH8.out.below ((Below.refl _ W).drew)) HLQ.out HEA.out
  have kAV := (KA8.out.belowS ((Below.refl _ W).drew)).other (hAr gl hglr).1 (i := a.plot.toNat) (.int .i64 S.year)
  have kCV := (KC8.out.belowS ((Below.refl _ W).drew)).other (hAr gl hglr).2 (i := a.plot.toNat) (.int .i64 S.year)
  have hbV : Below base W (W.drew.setCell ⟨gl, a.plot.toNat, none⟩ (.int .i64 S.year)) := ((Below.refl base W).drew).setCell (p := ⟨gl, a.plot.toNat, none⟩) (HGE.out gl hglr) _
  have hszV : W.heap.size ≤ (W.drew.setCell ⟨gl, a.plot.toNat, none⟩ (.int .i64 S.year)).heap.size := hbV.size
  have gcV : (W.drew.setCell ⟨gl, a.plot.toNat, none⟩ (.int .i64 S.year)).cell? ⟨gg, a.plot.toNat, none⟩ = some (.int .i64 gk) :=
    (World.cell?_of_block (w := W) (a := ⟨gg, a.plot.toNat, none⟩) (Below.heap_setCell _ _ _ _ (fun e => hlgne (by first | exact e.symm | exact e)))).trans GC8.out
  have hdc : (W.drew.setCell ⟨gl, a.plot.toNat, none⟩ (.int .i64 S.year)) = (W.setCell ⟨gl, a.plot.toNat, none⟩ (.int .i64 S.year)).drew := rfl
  have HBBV := Lib.hid (HBB8.out.trans hbV)
  have hszV2 := Nat.le_trans hsz8 hszV
  have hggV := Nat.lt_of_lt_of_le hgg8 hszV
  clear hbV hszV hx lgz lc8 hgl8 hgg8
  go_upto_region 9 with fail
  rw [hdc] at hV1 kAV kCV gcV HBBV hszV2 hggV
  generalize (W.setCell ⟨gl, a.plot.toNat, none⟩ (.int .i64 S.year)).drew = V at *
  clear hdc
  have u1 : V.cell? ⟨w.heap.size, 1, none⟩ = some (.int .i64 a.plot) := kAV.cell 1
  have u2 : V.cell? ⟨w.heap.size, 2, none⟩ = some (.int .i64 a.loads) := kAV.cell 2
  have v4 : V.cell? ⟨B, 4, none⟩ = some (.slice S.ga S.given.length S.gc) := hV1.box.cell 4
  rw [HGA.out] at v4
  have hx : (fun w' : World => Below V.heap.size V w' ∧ (w'.cell? ⟨B, 4, none⟩ = some (.slice (some ⟨gg, 0, none⟩) S.given.length S.gc) ∧ w'.cell? ⟨w.heap.size, 1, none⟩ = some (.int .i64 a.plot) ∧ w'.cell? ⟨gg, a.plot.toNat, none⟩ = some (.int .i64 gk) ∧ w'.cell? ⟨w.heap.size, 2, none⟩ = some (.int .i64 a.loads))) V.drew := ⟨(Below.refl _ V).drew, v4, u1, gcV, u2⟩
  have ggz : V.frozen? ⟨gg, a.plot.toNat, none⟩ = false := by
    have h0 := hV1.own.given
    have h1 : V.ownsRow base 3 1 (.slice S.ga S.given.length S.gc) S.given.length (S.given.flatMap cellsI) := h0
    rw [HGA.out] at h1
    exact h1.frozenAt _
  have hwg : IntKind.i64.wrap (gk + a.loads) = gk + a.loads := IntWalk.i64_in _ (by omega)
  have hpg2 : a.plot < (S.given.length : Int) := by omega
  have HV1 := Lib.hid hV1
  have KAV := Lib.hid kAV
  have KCV := Lib.hid kCV
  clear hV1 kAV kCV u1 u2 v4
  refine wp_region_E 12 (fun w' : World => Below V.heap.size V w' ∧ (w'.cell? ⟨B, 4, none⟩ = some (.slice (some ⟨gg, 0, none⟩) S.given.length S.gc) ∧ w'.cell? ⟨w.heap.size, 1, none⟩ = some (.int .i64 a.plot) ∧ w'.cell? ⟨gg, a.plot.toNat, none⟩ = some (.int .i64 gk) ∧ w'.cell? ⟨w.heap.size, 2, none⟩ = some (.int .i64 a.loads))) (by kernel_rfl) ?_
  refine tk 0 rfl hx (v := ?v176) (.inl ⟨by rfl, ?y176⟩) ?r176
  case y176 => intro w' h; (try dsimp only at h); go_simp; try with_reducible rfl
  refine tk 1 rfl hx (v := ?v177) (.inl ⟨by rfl, ?y177⟩) ?r177
  case y177 => intro w' h; (try dsimp only at h); go_simp; try with_reducible rfl
  refine tk 2 rfl hx (v := ?v178) (.inl ⟨by rfl, ?y178⟩) ?r178
  case y178 => intro w' h; (try dsimp only at h); go_simp; try with_reducible rfl
  try simp only [Act.put, List.getElem_toArray, List.getElem_cons_zero, List.getElem_cons_succ, List.setIfInBounds_toArray, List.set_cons_zero, List.set_cons_succ]
  refine tk 3 rfl hx (v := ?v179) (.inl ⟨by rfl, ?y179⟩) ?r179
  case y179 => intro w' h; (try dsimp only at h); go_simp; try with_reducible rfl
  refine tk 4 rfl hx (v := ?v180) (.inl ⟨by rfl, ?y180⟩) ?r180
  case y180 => intro w' h; (try dsimp only at h); go_simp; try with_reducible rfl
  refine tk 5 rfl hx (v := ?v181) (.inl ⟨by rfl, ?y181⟩) ?r181
  case y181 => intro w' h; (try dsimp only at h); go_simp; try with_reducible rfl
  try simp only [Act.put, List.getElem_toArray, List.getElem_cons_zero, List.getElem_cons_succ, List.setIfInBounds_toArray, List.set_cons_zero, List.set_cons_succ]
  refine tk 6 rfl hx (v := ?v182) (.inl ⟨by rfl, ?y182⟩) ?r182
  case y182 => intro w' h; (try dsimp only at h); go_simp; try with_reducible rfl
  refine tk 7 rfl hx (v := ?v183) (.inl ⟨by rfl, ?y183⟩) ?r183
  case y183 => intro w' h; (try dsimp only at h); go_simp; try with_reducible rfl
  refine tk 8 rfl hx (v := ?v184) (.inl ⟨by rfl, ?y184⟩) ?r184
  case y184 => intro w' h; (try dsimp only at h); go_simp; try with_reducible rfl
  try simp only [Act.put, List.getElem_toArray, List.getElem_cons_zero, List.getElem_cons_succ, List.setIfInBounds_toArray, List.set_cons_zero, List.set_cons_succ]
  refine tk 9 rfl hx (v := ?v185) (.inl ⟨by rfl, ?y185⟩) ?r185
  case y185 => intro w' h; (try dsimp only at h); go_simp; try with_reducible rfl
  refine tk 10 rfl hx (v := ?v186) (.inl ⟨by rfl, ?y186⟩) ?r186
  case y186 => intro w' h; (try dsimp only at h); go_simp; try with_reducible rfl
  try simp only [Act.put, List.getElem_toArray, List.getElem_cons_zero, List.getElem_cons_succ, List.setIfInBounds_toArray, List.set_cons_zero, List.set_cons_succ]
  refine E_step (i := 11) (o := _) (by kernel_rfl) rfl (fun K hK => ?_)
  go_simp
  refine hK.out _ _ (fun _ => hx) ?_
  clear hK K
  try simp only [Act.put, List.getElem_toArray, List.getElem_cons_zero, List.getElem_cons_succ, List.setIfInBounds_toArray, List.set_cons_zero, List.set_cons_succ]
  refine E_step (i := 12) (o := _) (by kernel_rfl) rfl (fun K hK => ?_)
  go_simp
  refine hK.out _ _ (fun h => absurd rfl h) ?_
  clear hK K
  try simp only [Act.put, List.getElem_toArray, List.getElem_cons_zero, List.getElem_cons_succ, List.setIfInBounds_toArray, List.set_cons_zero, List.set_cons_succ]
  refine E_done (by kernel_rfl) ?_ _
  have hU1 := given_hand (y := gk + a.loads) (HV1.out.below ((Below.refl _ V).drew)) HGQ.out HGA.out
  have kAU := (KAV.out.belowS ((Below.refl _ V).drew)).other (hAr gg hggr).1 (i := a.plot.toNat) (.int .i64 (gk + a.loads))
  have kCU := (KCV.out.belowS ((Below.refl _ V).drew)).other (hAr gg hggr).2 (i := a.plot.toNat) (.int .i64 (gk + a.loads))
  have hbU : Below base V (V.drew.setCell ⟨gg, a.plot.toNat, none⟩ (.int .i64 (gk + a.loads))) := ((Below.refl base V).drew).setCell (p := ⟨gg, a.plot.toNat, none⟩) (HGE.out gg hggr) _
  have hdc : (V.drew.setCell ⟨gg, a.plot.toNat, none⟩ (.int .i64 (gk + a.loads))) = (V.setCell ⟨gg, a.plot.toNat, none⟩ (.int .i64 (gk + a.loads))).drew := rfl
  have HBBU := Lib.hid (HBBV.out.trans hbU)
  have hszU := Nat.le_trans hszV2 hbU.size
  clear hbU hx ggz gcV hggV
  go_upto_region 10 with fail
  rw [hdc] at hU1 kAU kCU HBBU hszU
  generalize (V.setCell ⟨gg, a.plot.toNat, none⟩ (.int .i64 (gk + a.loads))).drew = U at *
  clear hdc
  have HU1 := Lib.hid hU1
  have u1 : U.cell? ⟨w.heap.size, 1, none⟩ = some (.int .i64 a.plot) := kAU.cell 1
  have u2 : U.cell? ⟨w.heap.size, 2, none⟩ = some (.int .i64 a.loads) := kAU.cell 2
  have lAU := kAU.lt
  have KAU := Lib.hid kAU
  have KCU := Lib.hid kCU
  clear hU1 kAU kCU
  have hbZ : Below U.heap.size U (U.alloc (.cells #[.int .i64 a.plot, .int .i64 a.loads] 79)) := (Below.refl _ U).alloc (Nat.le_refl _) _
  have hown1 : (U.alloc (.cells #[.int .i64 a.plot, .int .i64 a.loads] 79)).ownsRow base 79 2 (.slice (some ⟨U.heap.size, 0, none⟩) 1 1) 1 [.int .i64 a.plot, .int .i64 a.loads] := World.ownsRow_lit U #[.int .i64 a.plot, .int .i64 a.loads] 1 (Nat.le_trans hbw hszU) (by decide) rfl
  go_upto_region 11 with fail
  generalize U.alloc (.cells #[.int .i64 a.plot, .int .i64 a.loads] 79) = Z at *
  clear u1 u2 lAU
  have hHZ := HU1.out.below hbZ
  have kAZ := KAU.out.belowS hbZ
  have kCZ := KCU.out.belowS hbZ
  have hszZ := Nat.le_trans hszU hbZ.size
  have HBBZ := Lib.hid (HBBU.out.trans (hbZ.mono (Nat.le_trans hbw hszU)))
  have hrU : ∀ k ∈ rowsOf S, k < U.heap.size := fun k hk => Nat.lt_of_lt_of_le (HROWS.out k hk) hszU
  obtain ⟨i0, hi, hz0, hz1, hz2⟩ := info_parts info_heap
  have hAh : S.ha.map (·.block) ≠ some w.heap.size := fun e => (hAr _ (rows_ha e)).1 rfl
  have hCh : S.ha.map (·.block) ≠ some w3.heap.size := fun e => (hAr _ (rows_ha e)).2 rfl
  have hBh : S.ha.map (·.block) ≠ some B := fun e => hHZ.out (rows_ha (S := { S with last := S.last.set a.plot.toNat S.year, given := S.given.set a.plot.toNat (gk + a.loads) }) e)
  have hstep : ∀ w', Turn (fun k => S.ha.map (·.block) = some k) Z w' → Turn (fun k => S.ha.map (·.block) = some k) Z w' ∧ (w'.cell? ⟨B, 5, none⟩ = some (.slice S.ha S.heaps.length S.hc) ∧ w'.cell? ⟨w.heap.size, 3, none⟩ = some (.string a.name) ∧ w'.cell? ⟨w3.heap.size, 1, none⟩ = some (.int .i64 p.crop) ∧ w'.cell? ⟨w3.heap.size, 6, none⟩ = some (.int .i64 p.wlo) ∧ w'.cell? ⟨w3.heap.size, 7, none⟩ = some (.int .i64 p.whi)) :=
    fun w' ht => by
      have k1 := ht.blk kAZ hAh
      have k2 := ht.blk hHZ.box hBh
      have k3 := ht.blk kCZ hCh
      exact ⟨ht, k2.cell 5, k1.cell 3, k3.cell 1, k3.cell 6, k3.cell 7⟩
  have HST := Lib.hid hstep
  have hx := hstep Z.drew (Turn.of_below ((Below.refl _ Z).drew))
  have HHZ := Lib.hid hHZ
  have HOP := Lib.hid hown1
  have HRU := Lib.hid hrU
  have HBZ := Lib.hid hbZ
  clear hstep kAZ kCZ hHZ hown1 hrU hbZ
  refine wp_region_E 17 (fun w' : World => Turn (fun k => S.ha.map (·.block) = some k) Z w' ∧ (w'.cell? ⟨B, 5, none⟩ = some (.slice S.ha S.heaps.length S.hc) ∧ w'.cell? ⟨w.heap.size, 3, none⟩ = some (.string a.name) ∧ w'.cell? ⟨w3.heap.size, 1, none⟩ = some (.int .i64 p.crop) ∧ w'.cell? ⟨w3.heap.size, 6, none⟩ = some (.int .i64 p.wlo) ∧ w'.cell? ⟨w3.heap.size, 7, none⟩ = some (.int .i64 p.whi))) (by kernel_rfl) ?_
  refine tk 0 rfl hx (v := ?v187) (.inl ⟨by rfl, ?y187⟩) ?r187
  case y187 => intro w' h; (try dsimp only at h); go_simp; try with_reducible rfl
  refine tk 1 rfl hx (v := ?v188) (.inl ⟨by rfl, ?y188⟩) ?r188
  case y188 => intro w' h; (try dsimp only at h); go_simp; try with_reducible rfl
  refine tk 2 rfl hx (v := ?v189) (.inl ⟨by rfl, ?y189⟩) ?r189
  case y189 => intro w' h; (try dsimp only at h); go_simp; try with_reducible rfl
  try simp only [Act.put, List.getElem_toArray, List.getElem_cons_zero, List.getElem_cons_succ, List.setIfInBounds_toArray, List.set_cons_zero, List.set_cons_succ]
  refine tk 3 rfl hx (v := ?v190) (.inl ⟨by rfl, ?y190⟩) ?r190
  case y190 => intro w' h; (try dsimp only at h); go_simp; try with_reducible rfl
  refine tk 4 rfl hx (v := ?v191) (.inl ⟨by rfl, ?y191⟩) ?r191
  case y191 => intro w' h; (try dsimp only at h); go_simp; try with_reducible rfl
  refine tk 5 rfl hx (v := ?v192) (.inl ⟨by rfl, ?y192⟩) ?r192
  case y192 => intro w' h; (try dsimp only at h); go_simp; try with_reducible rfl
  try simp only [Act.put, List.getElem_toArray, List.getElem_cons_zero, List.getElem_cons_succ, List.setIfInBounds_toArray, List.set_cons_zero, List.set_cons_succ]
  refine tk 6 rfl hx (v := ?v193) (.inl ⟨by rfl, ?y193⟩) ?r193
  case y193 => intro w' h; (try dsimp only at h); go_simp; try with_reducible rfl
  refine tk 7 rfl hx (v := ?v194) (.inl ⟨by rfl, ?y194⟩) ?r194
  case y194 => intro w' h; (try dsimp only at h); go_simp; try with_reducible rfl
  refine tk 8 rfl hx (v := ?v195) (.inl ⟨by rfl, ?y195⟩) ?r195
  case y195 => intro w' h; (try dsimp only at h); go_simp; try with_reducible rfl
  try simp only [Act.put, List.getElem_toArray, List.getElem_cons_zero, List.getElem_cons_succ, List.setIfInBounds_toArray, List.set_cons_zero, List.set_cons_succ]
  refine tk 9 rfl hx (v := ?v196) (.inl ⟨by rfl, ?y196⟩) ?r196
  case y196 => intro w' h; (try dsimp only at h); go_simp; try with_reducible rfl
  refine tk 10 rfl hx (v := ?v197) (.inl ⟨by rfl, ?y197⟩) ?r197
  case y197 => intro w' h; (try dsimp only at h); go_simp; try with_reducible rfl
  refine tk 11 rfl hx (v := ?v198) (.inl ⟨by rfl, ?y198⟩) ?r198
  case y198 => intro w' h; (try dsimp only at h); go_simp; try with_reducible rfl
  try simp only [Act.put, List.getElem_toArray, List.getElem_cons_zero, List.getElem_cons_succ, List.setIfInBounds_toArray, List.set_cons_zero, List.set_cons_succ]
  refine tk 12 rfl hx (v := ?v199) (.inl ⟨by rfl, ?y199⟩) ?r199
  case y199 => intro w' h; (try dsimp only at h); go_simp; try with_reducible rfl
  try simp only [Act.put, List.getElem_toArray, List.getElem_cons_zero, List.getElem_cons_succ, List.setIfInBounds_toArray, List.set_cons_zero, List.set_cons_succ]
  refine E_step (i := 13) (o := _) (by kernel_rfl) rfl (fun K hK => ?_)
  go_simp
  have hb13 : Below Z.heap.size Z (Z.drew.alloc (.cells #[.string a.name, .int .i64 p.crop, .int .i64 1, .slice (some ⟨U.heap.size, 0, none⟩) 1 1, .int .i64 0, .int .i64 p.wlo, .int .i64 p.whi] 53)) := ((Below.refl _ Z).drew).alloc (Nat.le_refl _) _
  have hown13 : (Z.drew.alloc (.cells #[.string a.name, .int .i64 p.crop, .int .i64 1, .slice (some ⟨U.heap.size, 0, none⟩) 1 1, .int .i64 0, .int .i64 p.wlo, .int .i64 p.whi] 53)).ownsRow base 53 7 (.slice S.ha S.heaps.length S.hc) S.heaps.length (S.heaps.flatMap cellsHep) := own_below HHZ.out.own.heaps hb13
  refine hK.out _ _ (fun _ => HST.out _ (Turn.of_below hb13)) ?_
  clear hK K
  try simp only [Act.put, List.getElem_toArray, List.getElem_cons_zero, List.getElem_cons_succ, List.setIfInBounds_toArray, List.set_cons_zero, List.set_cons_succ]
  refine E_step (i := 14) (o := _) (by kernel_rfl) rfl (fun K hK => ?_)
  refine step_append_lies _ (by rfl) _ _ _ (by rfl) base 53 i0 _ 7 80 Tryz.underlying26 hi hz0 hz1 hz2 rfl (by omega) (.slice S.ha S.heaps.length S.hc) S.heaps.length (S.heaps.flatMap cellsHep) (by rfl) hown13
    ⟨Z.drew.heap.size, 0, none⟩ 1 1 [.string a.name, .int .i64 p.crop, .int .i64 1, .slice (some ⟨U.heap.size, 0, none⟩) 1 1, .int .i64 0, .int .i64 p.wlo, .int .i64 p.whi] (by rfl) (by rfl) (World.news_of_block (cs := #[.string a.name, .int .i64 p.crop, .int .i64 1, .slice (some ⟨U.heap.size, 0, none⟩) 1 1, .int .i64 0, .int .i64 p.wlo, .int .i64 p.whi]) (t := 53) (fr := (0, 0)) (heap_alloc_new Z.drew _)) (by simp [Value.oneCell'])
    (by omega) (by unfold maxLen; omega) (by omega) (Nat.le_trans (Nat.le_trans hbw hszZ) hb13.size) (Z.heap.size + 1) (by simp) ?_
  intro gh cap w14 hown14 hgrow hat hlt14
  have hT14 : Turn (fun k => S.ha.map (·.block) = some k) Z w14 := (Turn.of_below hb13).trans ((Turn.of_grown hgrow).mono fun k _ e => by rw [rowOf_own'] at e; exact e)
  have hx14 := HST.out w14 hT14
  have hat2 : ∀ k, (some (⟨gh, 0, none⟩ : Addr)).map (·.block) = some k → S.ha.map (·.block) = some k ∨ Z.heap.size ≤ k := fun k e => by
    obtain rfl : gh = k := by simpa using e
    rcases hat with h9 | h9
    · rw [rowOf_own'] at h9; exact .inl h9
    · exact .inr (by omega)
  refine hK.out _ _ (fun _ => hx14) ?_
  clear hK K
  try simp only [Act.put, List.getElem_toArray, List.getElem_cons_zero, List.getElem_cons_succ, List.setIfInBounds_toArray, List.set_cons_zero, List.set_cons_succ]
  refine E_step (i := 15) (o := _) (by kernel_rfl) rfl (fun K hK => ?_)
  go_simp
  refine hK.out _ _ (fun _ => hx14) ?_
  clear hK K
  try simp only [Act.put, List.getElem_toArray, List.getElem_cons_zero, List.getElem_cons_succ, List.setIfInBounds_toArray, List.set_cons_zero, List.set_cons_succ]
  refine E_step (i := 16) (o := _) (by kernel_rfl) rfl (fun K hK => ?_)
  go_simp
  refine hK.out _ _ (fun _ => hx14) ?_
  clear hK K
  try simp only [Act.put, List.getElem_toArray, List.getElem_cons_zero, List.getElem_cons_succ, List.setIfInBounds_toArray, List.set_cons_zero, List.set_cons_succ]
  have kB14 := hT14.blk HHZ.out.box hBh
  have lB14 := kB14.lt
  have y514 := hx14.2.1
  have z514 := kB14.frozen 5
  have HO14 := Lib.hid hown14
  have HT14 := Lib.hid hT14
  have HAT2 := Lib.hid hat2
  have KB14 := Lib.hid kB14
  clear hx hx14 hown14 hgrow hat hT14 hat2 kB14 hown13 hb13
  refine E_step (i := 17) (o := _) (by kernel_rfl) rfl (fun K hK => ?_)
  go_simp
  refine hK.out _ _ (fun h => absurd rfl h) ?_
  clear hK K
  try simp only [Act.put, List.getElem_toArray, List.getElem_cons_zero, List.getElem_cons_succ, List.setIfInBounds_toArray, List.set_cons_zero, List.set_cons_succ]
  refine E_done (by kernel_rfl) ?_ _
  have hla : (S.heaps ++ [(⟨a.name, p.crop, 1, some ⟨U.heap.size, 0, none⟩, 1, [⟨a.plot, a.loads⟩], 0, p.wlo, p.whi⟩ : Hep)]).length = S.heaps.length + 1 := by simp
  have hfl : (S.heaps ++ [(⟨a.name, p.crop, 1, some ⟨U.heap.size, 0, none⟩, 1, [⟨a.plot, a.loads⟩], 0, p.wlo, p.whi⟩ : Hep)]).flatMap cellsHep = S.heaps.flatMap cellsHep ++ [.string a.name, .int .i64 p.crop, .int .i64 1, .slice (some ⟨U.heap.size, 0, none⟩) 1 1, .int .i64 0, .int .i64 p.wlo, .int .i64 p.whi] := by simp [cellsHep]
  have hTF : Turn (TurnH { S with last := S.last.set a.plot.toNat S.year, given := S.given.set a.plot.toNat (gk + a.loads) } B) Z (w14.setCell ⟨B, 5, none⟩ (.slice (some ⟨gh, 0, none⟩) (S.heaps.length + 1) cap)) := (HT14.out.mono fun k _ e => .inr e).setCell (B := B) (.inl rfl) _ _
  have hBg : (some (⟨gh, 0, none⟩ : Addr)).map (·.block) ≠ some B := fun e => by
    rcases HAT2.out B e with h9 | h9
    · exact hBh h9
    · omega
  have hFin := push_hand (a := some ⟨gh, 0, none⟩) (c := cap) (y := ⟨a.name, p.crop, 1, some ⟨U.heap.size, 0, none⟩, 1, [⟨a.plot, a.loads⟩], 0, p.wlo, p.whi⟩) HHZ.out hTF (by
      have := KB14.out.set 5 (.slice (some ⟨gh, 0, none⟩) (S.heaps.length + 1) cap)
      show Blk _ _ #[_, _, _, _, _, .slice (some ⟨gh, 0, none⟩) (S.heaps ++ [_]).length cap, _, _] _
      rw [hla]
      exact this)
    (by
      show World.ownsRow _ _ _ _ (.slice _ (S.heaps ++ [_]).length _) (S.heaps ++ [_]).length ((S.heaps ++ [_]).flatMap cellsHep)
      rw [hfl, hla]
      exact Turn.row (X := fun k => k = B) ((Turn.of_below (X := fun k => k = B) (Below.refl _ w14)).setCell (B := B) rfl _ _) HO14.out (fun k e => by rw [show k = B from e]; exact hBg))
    HAT2.out HOP.out (fun k e => by
      obtain rfl : U.heap.size = k := by simpa using e
      exact ⟨fun hk => Nat.lt_irrefl _ (HRU.out _ hk), fun hk => by have := HU1.out.box.lt; omega⟩) hnm
  go_end0
  refine ⟨.inl ⟨by rw [HV.out], rfl, _, ?_, hFin⟩, HBBZ.out.trans (hTF.below (Nat.le_trans hbw hszZ) ?_)⟩
  · rw [HV.out]
    have hs : sameH (S.heaps ++ [⟨a.name, p.crop, 1, some ⟨U.heap.size, 0, none⟩, 1, [⟨a.plot, a.loads⟩], 0, p.wlo, p.whi⟩]) (S.heaps ++ [⟨a.name, p.crop, 1, none, 0, [⟨a.plot, a.loads⟩], 0, p.wlo, p.whi⟩]) := sameH.append (sameH.refl _) ⟨rfl, rfl, rfl, rfl, rfl, rfl, rfl⟩
    exact ⟨rfl, rfl, rfl, rfl, rfl, hs.1, hs.2⟩
  · intro k e
    rcases e with rfl | e
    · exact hbB
    · exact HGE.out k (rows_ha e)

end Go.Proofs.YtfhalmlpnoepcaaGreat
