/- Chores: join. -/
import Derived.Test.YtfhalmlpnoepcaaGreatJW
import Derived.Test.YtfhalmlpnoepcaaGreatJY
set_option linter.unusedSimpArgs false
namespace Go.Proofs.YtfhalmlpnoepcaaGreat
open Go.RowKit

theorem mem_set_erase {α : Type} {l : List α} {i : Nat} {x y : α} (h : x ∈ l.set i y) : x = y ∨ x ∈ l.eraseIdx i := by
  rw [List.set_eq_take_append_cons_drop] at h
  split at h
  · rw [List.eraseIdx_eq_take_drop_succ]
    simp only [List.mem_append, List.mem_cons] at h ⊢
    rcases h with h | h | h
    · exact .inr (.inl h)
    · exact .inl h
    · exact .inr (.inr h)
  · next hi => exact .inr (by rw [List.eraseIdx_of_length_le (by omega)]; exact h)
theorem rows_pa_erase {S : Sto} {i k : Nat} {x : Hep} (hx : x ∈ S.heaps.eraseIdx i) (h : x.pa.map (·.block) = some k) : k ∈ rowsOf { S with heaps := S.heaps.eraseIdx i } := rows_pa (S := { S with heaps := S.heaps.eraseIdx i }) hx h
/-- A heap's parts changed where they lie, or elsewhere. -/
theorem moved_hand2 {F : Frm} {base B : Nat} {w1 w7 : World} {S : Sto} {i g : Nat} {h : Hep} {a2 : Option Addr} {c2 : Nat} (hH : Hand F base B w1 S S) (hi : S.heaps[i]? = some h) (hg : S.ha = some ⟨g, 0, none⟩) (hT7 : Turn (fun k => h.pa.map (·.block) = some k) w1 w7) (l2 : List Prt)
    (hrow : (w7.setCell ⟨g, i * 7 + 3, none⟩ (.slice a2 l2.length c2)).ownsRow base 79 2 (.slice a2 l2.length c2) l2.length (l2.flatMap cellsPrt)) (hnew : ∀ k, a2.map (·.block) = some k → h.pa.map (·.block) = some k ∨ w1.heap.size ≤ k) :
    Hand F base B (w7.setCell ⟨g, i * 7 + 3, none⟩ (.slice a2 l2.length c2)) { S with heaps := S.heaps.set i { h with pa := a2, pc := c2, parts := l2 } } { S with heaps := S.heaps.set i { h with pa := a2, pc := c2, parts := l2 } } := by
  have hil := (List.getElem?_eq_some_iff.1 hi).1
  have hgR : S.ha.map (·.block) = some g := by rw [hg]; rfl
  have hgo := out_ha hH.own.apart g hgR
  have hpo := out_pa hi hH.own.apart
  have hBg : B ≠ g := fun e => hH.out (rows_ha (by rw [hgR, e]))
  have hph : h.pa.map (·.block) ≠ some g := fun e => hgo (rows_pa (S := { S with ha := none }) (List.mem_of_getElem? hi) e)
  have hpB : h.pa.map (·.block) ≠ some B := fun e => hH.out (rows_pa (List.mem_of_getElem? hi) e)
  have hT : Turn (fun k => k = g ∨ h.pa.map (·.block) = some k) w1 (w7.setCell ⟨g, i * 7 + 3, none⟩ (.slice a2 l2.length c2)) := (hT7.mono fun _ _ e => .inr e).setCell (B := g) (.inl rfl) _ _
  have hlt : ∀ k ∈ rowsOf S, k < w1.heap.size := fun k hk => (hH.own.ge k hk).2
  have hrw := hT7.row hH.own.heaps (fun k hk e => hph (by rw [hgR] at e; rw [hk, ← e]))
  rw [hg] at hrw
  have hrw2 := ownsRow_setOwn hrw (i := i * 7 + 3) (by omega) (.slice a2 l2.length c2)
  rw [flat_set cellsHep 7 (fun _ => rfl) S.heaps i 3 h { h with pa := a2, pc := c2, parts := l2 } _ hi (by omega) rfl] at hrw2
  have hlen : (S.heaps.set i { h with pa := a2, pc := c2, parts := l2 }).length = S.heaps.length := List.length_set ..
  refine ⟨?_, ?_, ?_, hH.le, rfl, rfl, rfl⟩
  · have := (hT7.blk hH.box hpB).other hBg (i := i * 7 + 3) (.slice a2 l2.length c2)
    show Blk _ _ #[_, _, _, _, _, .slice S.ha (S.heaps.set i _).length S.hc, _, _] _
    rw [hlen]
    exact this
  · refine OwnSto.setHeaps (a := S.ha) (c := S.hc) hH.own (fun k hk => hT.block k (hlt k (rows_noha k (rows_noheaps k hk))) fun e => ?_) ?_ (fun x hx => ?_) (fun x hx => ?_) ?_
    · rcases e with e | e
      · exact hgo (by rw [← show k = g from e]; exact rows_noheaps k hk)
      · refine hpo k e ?_
        simp only [rowsOf, List.map_nil, List.append_nil, List.mem_filterMap] at hk ⊢
        obtain ⟨x, hx, e2⟩ := hk
        refine ⟨x, List.mem_append_left _ ?_, e2⟩
        simp only [List.mem_cons] at hx ⊢
        rcases hx with h | h | h | h | h | h
        · exact .inl h
        · exact .inr (.inl h)
        · subst h; cases e2
        · exact .inr (.inr (.inr (.inl h)))
        · exact .inr (.inr (.inr (.inr (.inl h))))
        · cases h
    · rw [hlen, hg]; exact hrw2
    · rcases mem_set_erase hx with rfl | hm
      · exact hrow
      · refine hT.row (hH.own.parts x ((List.eraseIdx_sublist S.heaps i).subset hm)) fun k hk e => ?_
        rcases hk with rfl | hk
        · exact hgo (rows_pa (S := { S with ha := none }) ((List.eraseIdx_sublist S.heaps i).subset hm) e)
        · exact hpo k hk (rows_pa_erase hm e)
    · rcases mem_set_erase hx with rfl | hm
      · exact hH.own.names h (List.mem_of_getElem? hi)
      · exact hH.own.names x ((List.eraseIdx_sublist S.heaps i).subset hm)
    · refine apart_pa (S := S) (i := i) (x := h) (y := { h with pa := a2, pc := c2, parts := l2 }) hi hH.own.apart (fun j e hj => ?_)
      rcases hnew j e with h1 | h1
      · exact hpo j h1 hj
      · have := hlt j (rows_erase (S := S) i j hj); omega
  · intro hk
    rcases rows_set B hk with h1 | h1
    · exact hH.out h1
    · rcases hnew B h1 with h2 | h2
      · exact hpB h2
      · have := hH.box.lt
        omega
/-- put of slices.Values, onto a row of its own. -/
theorem putVals_any (base : Nat) (a0 : Option Addr) (c0 : Nat) (l0 : List Prt) (m : Int) (a : Option Addr) (c : Nat) (l : List Prt) (w : World)
    (hown : w.ownsRow base 79 2 (.slice a0 l0.length c0) l0.length (l0.flatMap cellsPrt)) (hap : ∀ k, a0.map (·.block) = some k → a.map (·.block) ≠ some k) (hbase : base ≤ w.heap.size)
    (hl0 : ∀ q ∈ l0, 0 ≤ q.loads ∧ q.loads ≤ m) (hm0 : 0 ≤ m) (hm : m ≤ 1000000000000) (hlen0 : l0.length ≤ 100000)
    (hl : IsPrts w a c l) (hok : ∀ p ∈ l, 1 ≤ p.loads ∧ p.loads ≤ 100000) (hlen : l.length ≤ 1000) :
    Calls Tryz.prog 91 #[.slice a0 l0.length c0, .func (.func 105) #[] #[.pointer (some ⟨w.heap.size, 0, none⟩)]]
      (w.alloc (.cells #[.slice a l.length c] 27)) fun e w' =>
      (∃ a' c', e = .returned (.slice a' (putL l0 l).length c') ∧ w'.ownsRow base 79 2 (.slice a' (putL l0 l).length c') (putL l0 l).length ((putL l0 l).flatMap cellsPrt) ∧
        ∀ k, a'.map (·.block) = some k → a0.map (·.block) = some k ∨ w.heap.size ≤ k) ∧ Turn (fun k => a0.map (·.block) = some k) w w' := by
  have hb : Below w.heap.size w (w.alloc (.cells #[.slice a l.length c] 27)) := (Below.refl _ w).alloc (by simp) _
  have k0 := Blk.new w 27 #[.slice a l.length c]
  have hlw := hl.belowS hb
  have hown1 := own_below hown hb
  have hlt : ∀ k, a0.map (·.block) = some k → k < w.heap.size := fun k hk => (hown.lt k (by rw [rowOf_own']; exact hk)).2
  generalize (w.alloc (.cells #[.slice a l.length c] 27)) = w1 at *
  have hin : ∀ k, w.heap.size ≤ k → k < w1.heap.size → k < w1.heap.size ∧ a0.map (·.block) ≠ some k := fun k h1 h2 => ⟨h2, fun e => by have := hlt k e; omega⟩
  have hpr : PrtsIn (fun k => k < w1.heap.size ∧ a0.map (·.block) ≠ some k) w1 a c l := by
    rcases hlw with h | ⟨b, off, e, hl1, h1, h2, hp⟩
    · exact .inl h
    · exact .inr ⟨b, off, e, ⟨hl1, fun e0 => hap b e0 (by rw [e]; rfl)⟩, h1, h2, hp⟩
  have hseq := values_stops 4 (by omega) w.heap.size a c (fun k => k < w1.heap.size ∧ a0.map (·.block) ≠ some k) l hok (hin _ (by omega) k0.lt) w1 (fun _ h => h.1) (k0.cell 0) hpr
  have h := putV_any base (fun k => k < w1.heap.size ∧ a0.map (·.block) ≠ some k) a0 c0 l0 m _ l.length l _ w1 hown1 (fun k hk h => h.2 hk) (by have := hb.size; omega) (fun _ h => h.1) hl0 hm0 hm hlen0 (by omega) hseq
  refine h.mono ?_
  rintro e w' ⟨a', c', rfl, hrow, hnew, hbel, hkp⟩
  refine ⟨⟨a', c', rfl, hrow, fun k hk => ?_⟩, (Turn.of_below hb).trans ⟨hbel.os, hbel.tape, hbel.output, hkp.size, fun k hk hn => hkp.block k ⟨hk, hn⟩⟩⟩
  by_cases hk0 : a0.map (·.block) = some k
  · exact .inl hk0
  · refine .inr ?_
    have h1 := hnew k hk
    have := hb.size
    by_cases hkl : k < w1.heap.size
    · exact absurd ⟨hkl, hk0⟩ h1
    · omega

set_option maxRecDepth 100000 in
set_option maxHeartbeats 8000000 in
theorem join_any (F : Frm) (S : Sto) (a : Chr) (base B : Nat) (w : World) (hH : Hand F base B w S S) (hE : storeE F S = 0) (hfit : S.fit) (hbw : base ≤ w.heap.size) :
    Calls Tryz.prog 65 #[.pointer (some ⟨B, 0, none⟩), .agg (chrC a)] w (ChoreSaid F base B (joinD S a) w) := by
  obtain ⟨hs1, hs2, hs3, hs4, hs5⟩ := store_ok hE
  have hheap := fun h hm => heap_ok hE hfit (h := h) hm
  obtain ⟨hf1, hf2, hf3, hf4⟩ := hfit
  have hb1 : Below w.heap.size w (w.alloc (.cells (chrC a) 34)) := (Below.refl _ w).alloc (Nat.le_refl _) _
  have kA := Blk.new w 34 (chrC a)
  have hH1 := hH.below hb1
  have hBw := hH.box.lt
  have hrows := fun k hk => (hH.own.ge k hk).2
  have HROWS := Lib.hid hrows
  have hge := fun k hk => (hH.own.ge k hk).1
  have HGE := Lib.hid hge
  have hbB := hH.le
  clear hrows hge
  have hbb := Lib.hid (hb1.mono hbw)
  unfold chrC at hb1 kA hH1 ⊢
  go_enter Tryz.func65, Tryz.ntmps65
  go_upto_region 1 with fail
  generalize w.alloc (.cells #[.int .i64 a.kind, .int .i64 a.plot, .int .i64 a.loads, .string a.name, .string a.other, .int .i64 a.days, .int .i64 a.per, .int .i64 a.rlo, .int .i64 a.rhi] 34) = w1 at *
  have e3 : w1.cell? ⟨w.heap.size, 3, none⟩ = some (.string a.name) := kA.cell 3
  have lA := kA.lt
  have HH1 := Lib.hid hH1
  have HB1 := Lib.hid hb1
  have KA := Lib.hid kA
  have HHEAP := Lib.hid hheap
  clear hH hH1 hb1 kA hheap
  have lB := HH1.out.box.lt
  have e4 : w1.cell? ⟨w.heap.size, 4, none⟩ = some (.string a.other) := KA.out.cell 4
  have hstep : ∀ w', Below w1.heap.size w1 w' → Below w1.heap.size w1 w' ∧ (w'.cell? ⟨w.heap.size, 3, none⟩ = some (.string a.name) ∧ w'.cell? ⟨w.heap.size, 4, none⟩ = some (.string a.other)) :=
    fun w' hb => ⟨hb, (hb.cell (p := ⟨w.heap.size, 3, none⟩) lA).trans e3, (hb.cell (p := ⟨w.heap.size, 4, none⟩) lA).trans e4⟩
  have hx := hstep w1.drew ((Below.refl _ w1).drew)
  have HST1 := Lib.hid hstep
  clear hstep e3 e4 lB lA
  by_cases hix : 0 ≤ idxH S.heaps a.name
  rotate_left
  · have hv : (joinD S a).1 = 7 := by unfold joinD; rw [if_pos (by omega)]
    have HV := Lib.hid hv
    have HIX := Lib.hid hix
    clear hv hix
    refine wp_region_E 10 (fun w' : World => Below w1.heap.size w1 w' ∧ (w'.cell? ⟨w.heap.size, 3, none⟩ = some (.string a.name) ∧ w'.cell? ⟨w.heap.size, 4, none⟩ = some (.string a.other))) (by kernel_rfl) ?_
    refine tR 0 rfl hx (v := ?v62) (.inl ⟨by rfl, ?y62⟩) ?r62
    case y62 => intro w' h; (try dsimp only at h); go_simp; try with_reducible rfl
    refine tR 1 rfl hx (v := ?v63) (.inl ⟨by rfl, ?y63⟩) ?r63
    case y63 => intro w' h; (try dsimp only at h); go_simp; try with_reducible rfl
    refine tR 2 rfl hx (v := ?v64) (.inl ⟨by rfl, ?y64⟩) ?r64
    case y64 => intro w' h; (try dsimp only at h); go_simp; try with_reducible rfl
    try simp only [Act.put, List.getElem_toArray, List.getElem_cons_zero, List.getElem_cons_succ, List.setIfInBounds_toArray, List.set_cons_zero, List.set_cons_succ]
    refine tR 4 rfl hx (v := ?v65) (.inl ⟨by rfl, ?y65⟩) ?r65
    case y65 => intro w' h; (try dsimp only at h); go_simp; try with_reducible rfl
    refine tR 5 rfl hx (v := ?v66) (.inl ⟨by rfl, ?y66⟩) ?r66
    case y66 => intro w' h; (try dsimp only at h); go_simp; try with_reducible rfl
    refine tR 6 rfl hx (v := ?v67) (.inl ⟨by rfl, ?y67⟩) ?r67
    case y67 => intro w' h; (try dsimp only at h); go_simp; try with_reducible rfl
    try simp only [Act.put, List.getElem_toArray, List.getElem_cons_zero, List.getElem_cons_succ, List.setIfInBounds_toArray, List.set_cons_zero, List.set_cons_succ]
    refine E_step (i := 3) (o := _) (by kernel_rfl) rfl (fun K hK => ?_)
    go_simp
    refine (find_any F S a.name B _ (HH1.out.below hx.1).box (HH1.out.below hx.1).isHeps).mono ?_
    rintro e w2 ⟨hf, hb2⟩
    rcases hf with ⟨hix9, rfl⟩ | ⟨_, rfl⟩
    · exact absurd hix9 HIX.out
    dsimp only
    exact ⟨rfl, ChoreSaid.err 7 HV.out (by decide) (hbb.out.trans ((hx.1.trans (hb2.mono hx.1.size)).mono (Nat.le_trans hbw HB1.out.size)))⟩
  have HIX := Lib.hid hix
  clear hix
  by_cases hkx : 0 ≤ idxH S.heaps a.other
  rotate_left
  · have hv : (joinD S a).1 = 7 := by unfold joinD; rw [if_neg (by have := HIX.out; omega), if_pos (by omega)]
    have HV := Lib.hid hv
    have HKX := Lib.hid hkx
    clear hv hkx
    refine wp_region_E 10 (fun w' : World => Below w1.heap.size w1 w' ∧ (w'.cell? ⟨w.heap.size, 3, none⟩ = some (.string a.name) ∧ w'.cell? ⟨w.heap.size, 4, none⟩ = some (.string a.other))) (by kernel_rfl) ?_
    refine tR 0 rfl hx (v := ?v68) (.inl ⟨by rfl, ?y68⟩) ?r68
    case y68 => intro w' h; (try dsimp only at h); go_simp; try with_reducible rfl
    refine tR 1 rfl hx (v := ?v69) (.inl ⟨by rfl, ?y69⟩) ?r69
    case y69 => intro w' h; (try dsimp only at h); go_simp; try with_reducible rfl
    refine tR 2 rfl hx (v := ?v70) (.inl ⟨by rfl, ?y70⟩) ?r70
    case y70 => intro w' h; (try dsimp only at h); go_simp; try with_reducible rfl
    try simp only [Act.put, List.getElem_toArray, List.getElem_cons_zero, List.getElem_cons_succ, List.setIfInBounds_toArray, List.set_cons_zero, List.set_cons_succ]
    refine tR 4 rfl hx (v := ?v71) (.inl ⟨by rfl, ?y71⟩) ?r71
    case y71 => intro w' h; (try dsimp only at h); go_simp; try with_reducible rfl
    refine tR 5 rfl hx (v := ?v72) (.inl ⟨by rfl, ?y72⟩) ?r72
    case y72 => intro w' h; (try dsimp only at h); go_simp; try with_reducible rfl
    refine tR 6 rfl hx (v := ?v73) (.inl ⟨by rfl, ?y73⟩) ?r73
    case y73 => intro w' h; (try dsimp only at h); go_simp; try with_reducible rfl
    try simp only [Act.put, List.getElem_toArray, List.getElem_cons_zero, List.getElem_cons_succ, List.setIfInBounds_toArray, List.set_cons_zero, List.set_cons_succ]
    refine E_step (i := 3) (o := _) (by kernel_rfl) rfl (fun K hK => ?_)
    go_simp
    refine (find_any F S a.name B _ (HH1.out.below hx.1).box (HH1.out.below hx.1).isHeps).mono ?_
    rintro e w2 ⟨hf, hb'⟩
    rcases hf with ⟨_, rfl⟩ | ⟨hix9, rfl⟩
    rotate_left
    · exact absurd HIX.out (by omega)
    dsimp only
    have hx2 := HST1.out w2 (hx.1.trans (hb'.mono hx.1.size))
    clear hb'
    refine hK.out _ _ (fun _ => hx2) ?_
    clear hK K
    try simp only [Act.put, List.getElem_toArray, List.getElem_cons_zero, List.getElem_cons_succ, List.setIfInBounds_toArray, List.set_cons_zero, List.set_cons_succ]
    refine E_step (i := 7) (o := _) (by kernel_rfl) rfl (fun K hK => ?_)
    go_simp
    refine (find_any F S a.other B _ (HH1.out.below hx2.1).box (HH1.out.below hx2.1).isHeps).mono ?_
    rintro e w2 ⟨hf, hb2⟩
    rcases hf with ⟨hix9, rfl⟩ | ⟨_, rfl⟩
    · exact absurd hix9 HKX.out
    dsimp only
    exact ⟨rfl, ChoreSaid.err 7 HV.out (by decide) (hbb.out.trans ((hx2.1.trans (hb2.mono hx2.1.size)).mono (Nat.le_trans hbw HB1.out.size)))⟩
  have HKX := Lib.hid hkx
  clear hkx
  refine wp_region_E 10 (fun w' : World => Below w1.heap.size w1 w' ∧ (w'.cell? ⟨w.heap.size, 3, none⟩ = some (.string a.name) ∧ w'.cell? ⟨w.heap.size, 4, none⟩ = some (.string a.other))) (by kernel_rfl) ?_
  refine tR 0 rfl hx (v := ?v74) (.inl ⟨by rfl, ?y74⟩) ?r74
  case y74 => intro w' h; (try dsimp only at h); go_simp; try with_reducible rfl
  refine tR 1 rfl hx (v := ?v75) (.inl ⟨by rfl, ?y75⟩) ?r75
  case y75 => intro w' h; (try dsimp only at h); go_simp; try with_reducible rfl
  refine tR 2 rfl hx (v := ?v76) (.inl ⟨by rfl, ?y76⟩) ?r76
  case y76 => intro w' h; (try dsimp only at h); go_simp; try with_reducible rfl
  try simp only [Act.put, List.getElem_toArray, List.getElem_cons_zero, List.getElem_cons_succ, List.setIfInBounds_toArray, List.set_cons_zero, List.set_cons_succ]
  refine tR 4 rfl hx (v := ?v77) (.inl ⟨by rfl, ?y77⟩) ?r77
  case y77 => intro w' h; (try dsimp only at h); go_simp; try with_reducible rfl
  refine tR 5 rfl hx (v := ?v78) (.inl ⟨by rfl, ?y78⟩) ?r78
  case y78 => intro w' h; (try dsimp only at h); go_simp; try with_reducible rfl
  refine tR 6 rfl hx (v := ?v79) (.inl ⟨by rfl, ?y79⟩) ?r79
  case y79 => intro w' h; (try dsimp only at h); go_simp; try with_reducible rfl
  try simp only [Act.put, List.getElem_toArray, List.getElem_cons_zero, List.getElem_cons_succ, List.setIfInBounds_toArray, List.set_cons_zero, List.set_cons_succ]
  refine E_step (i := 3) (o := _) (by kernel_rfl) rfl (fun K hK => ?_)
  go_simp
  refine (find_any F S a.name B _ (HH1.out.below hx.1).box (HH1.out.below hx.1).isHeps).mono ?_
  rintro e w2 ⟨hf, hb'⟩
  rcases hf with ⟨_, rfl⟩ | ⟨hix9, rfl⟩
  rotate_left
  · exact absurd HIX.out (by omega)
  dsimp only
  have hx2 := HST1.out w2 (hx.1.trans (hb'.mono hx.1.size))
  clear hb'
  refine hK.out _ _ (fun _ => hx2) ?_
  clear hK K
  try simp only [Act.put, List.getElem_toArray, List.getElem_cons_zero, List.getElem_cons_succ, List.setIfInBounds_toArray, List.set_cons_zero, List.set_cons_succ]
  refine E_step (i := 7) (o := _) (by kernel_rfl) rfl (fun K hK => ?_)
  go_simp
  refine (find_any F S a.other B _ (HH1.out.below hx2.1).box (HH1.out.below hx2.1).isHeps).mono ?_
  rintro e w3 ⟨hf, hb'⟩
  rcases hf with ⟨_, rfl⟩ | ⟨hix9, rfl⟩
  rotate_left
  · exact absurd HKX.out (by omega)
  dsimp only
  have hx3 := HST1.out w3 (hx2.1.trans (hb'.mono hx2.1.size))
  clear hb'
  refine hK.out _ _ (fun _ => hx3) ?_
  clear hK K
  try simp only [Act.put, List.getElem_toArray, List.getElem_cons_zero, List.getElem_cons_succ, List.setIfInBounds_toArray, List.set_cons_zero, List.set_cons_succ]
  refine tR 8 rfl hx3 (v := ?v80) (.inl ⟨by rfl, ?y80⟩) ?r80
  case y80 => intro w' h; (try dsimp only at h); go_simp; try with_reducible rfl
  refine tR 9 rfl hx3 (v := ?v81) (.inl ⟨by rfl, ?y81⟩) ?r81
  case y81 => intro w' h; (try dsimp only at h); go_simp; try with_reducible rfl
  try simp only [Act.put, List.getElem_toArray, List.getElem_cons_zero, List.getElem_cons_succ, List.setIfInBounds_toArray, List.set_cons_zero, List.set_cons_succ]
  refine E_done (by kernel_rfl) ?_ _
  obtain ⟨i, h, hie, hil, hih, _⟩ := idxH_at HIX.out
  obtain ⟨k, x, hke, hkl, hkh, _⟩ := idxH_at HKX.out
  have hat := hepAt_of hie hih
  have hbt := hepAt_of hke hkh
  have hb3 := hx3.1
  have hH3 := HH1.out.below hb3
  have hsz3 := Nat.le_trans HB1.out.size hb3.size
  have HBB3 := Lib.hid (hbb.out.trans (hb3.mono (Nat.le_trans hbw HB1.out.size)))
  rw [hie, hke]
  have HH3 := Lib.hid hH3
  clear hx hx2 hx3 hb3 hH3
  have hi0 : (0 : Int) ≤ (i : Int) := Int.natCast_nonneg _
  have hi1 : (i : Int) < (S.heaps.length : Int) := by omega
  have hk0 : (0 : Int) ≤ (k : Int) := Int.natCast_nonneg _
  have hk1 : (k : Int) < (S.heaps.length : Int) := by omega
  have HIE := Lib.hid hie
  have HKE := Lib.hid hke
  have HIH := Lib.hid hih
  have HKH := Lib.hid hkh
  have HAT := Lib.hid hat
  have HBT := Lib.hid hbt
  clear hie hke hih hkh hat hbt
  by_cases hik : i = k
  · have hv : (joinD S a).1 = 10 := by unfold joinD; rw [if_neg (by have := HIX.out; omega), if_neg (by have := HKX.out; omega), if_pos (by rw [HIE.out, HKE.out, hik])]
    have q1 : ((i : Int) == (k : Int)) = true := by simp [hik]
    have q2 : ((i : Int) != (k : Int)) = false := by simp [hik]
    have HV := Lib.hid hv
    clear hv hik
    go_wp2_with fail
    refine (require_no 10 _).mono ?_
    rintro e w4 ⟨rfl, rfl⟩
    go_wp2_with fail
    exact ⟨rfl, ChoreSaid.err 10 HV.out (by decide) HBB3.out⟩
  have q1 : ((i : Int) == (k : Int)) = false := by simp; omega
  have q2 : ((i : Int) != (k : Int)) = true := by simp; omega
  have HIK := Lib.hid hik
  clear hik
  go_wp2_with fail
  refine (require_yes 10 _).mono ?_
  rintro e w4 ⟨rfl, rfl⟩
  obtain ⟨hok, hpa, hlen, ⟨hl0, hl1⟩, _, _⟩ := HHEAP.out h (List.mem_of_getElem? HIH.out)
  obtain ⟨xok, xpa, xlen, ⟨xl0, xl1⟩, _, _⟩ := HHEAP.out x (List.mem_of_getElem? HKH.out)
  obtain ⟨g, hga, hgb, hgl, ⟨hcap, hcx⟩, hcells, hfz, hgB⟩ := HH3.out.hep HIH.out
  obtain ⟨g', hga', _, _, _, xcells, _, _⟩ := HH3.out.hep HKH.out
  obtain rfl : g = g' := by rw [hga] at hga'; injection hga' with e; injection e
  have d5 : w4.cell? ⟨B, 5, none⟩ = some (.slice S.ha S.heaps.length S.hc) := HH3.out.box.cell 5
  rw [hga] at d5
  have lB := HH3.out.box.lt
  have c0 : w4.cell? ⟨g, k * 7, none⟩ = some (.string x.name) := xcells 0 (by omega)
  have c1 : w4.cell? ⟨g, k * 7 + 1, none⟩ = some (.int .i64 x.crop) := xcells 1 (by omega)
  have c2 : w4.cell? ⟨g, k * 7 + 2, none⟩ = some (.int .i64 x.stage) := xcells 2 (by omega)
  have c3 : w4.cell? ⟨g, k * 7 + 3, none⟩ = some (.slice x.pa x.parts.length x.pc) := xcells 3 (by omega)
  have c4 : w4.cell? ⟨g, k * 7 + 4, none⟩ = some (.int .i64 x.per) := xcells 4 (by omega)
  have c5 : w4.cell? ⟨g, k * 7 + 5, none⟩ = some (.int .i64 x.wlo) := xcells 5 (by omega)
  have c6 : w4.cell? ⟨g, k * 7 + 6, none⟩ = some (.int .i64 x.whi) := xcells 6 (by omega)
  have HCE := Lib.hid hcells
  have HFZ := Lib.hid hfz
  clear hcells xcells hfz
  go_upto_region 3 with fail
  go_region
  have kC := (Blk.new w4 53 #[.string x.name, .int .i64 x.crop, .int .i64 x.stage, .slice x.pa x.parts.length x.pc, .int .i64 x.per, .int .i64 x.wlo, .int .i64 x.whi]).drew
  have hb5 : Below w4.heap.size w4 (w4.alloc (.cells #[.string x.name, .int .i64 x.crop, .int .i64 x.stage, .slice x.pa x.parts.length x.pc, .int .i64 x.per, .int .i64 x.wlo, .int .i64 x.whi] 53)).drew := ((Below.refl _ w4).alloc (Nat.le_refl _) _).drew
  generalize (w4.alloc (.cells #[.string x.name, .int .i64 x.crop, .int .i64 x.stage, .slice x.pa x.parts.length x.pc, .int .i64 x.per, .int .i64 x.wlo, .int .i64 x.whi] 53)).drew = w5 at *
  have hH5 := HH3.out.below hb5
  have hsz5 := Nat.le_trans hsz3 hb5.size
  have HBB5 := Lib.hid (HBB3.out.trans (hb5.mono (Nat.le_trans hbw hsz3)))
  have hce5 : ∀ j, j < 7 → w5.cell? ⟨g, i * 7 + j, none⟩ = (cellsHep h)[j]? := fun j hj => (hb5.cell (p := ⟨g, i * 7 + j, none⟩) hgl).trans (HCE.out j hj)
  have hfz5 := fun j => (World.frozen?_of_block (a := ⟨g, j, none⟩) (hb5.block g hgl)).trans (HFZ.out j)
  have hgl5 := Nat.lt_of_lt_of_le hgl hb5.size
  have lC := kC.lt
  have h1 : w5.cell? ⟨g, i * 7 + 1, none⟩ = some (.int .i64 h.crop) := hce5 1 (by omega)
  have h2 : w5.cell? ⟨g, i * 7 + 2, none⟩ = some (.int .i64 h.stage) := hce5 2 (by omega)
  have x1 : w5.cell? ⟨w4.heap.size, 1, none⟩ = some (.int .i64 x.crop) := kC.cell 1
  have x2 : w5.cell? ⟨w4.heap.size, 2, none⟩ = some (.int .i64 x.stage) := kC.cell 2
  have hstep : ∀ w', Below w5.heap.size w5 w' → Below w5.heap.size w5 w' ∧ (w'.cell? ⟨g, i * 7 + 1, none⟩ = some (.int .i64 h.crop) ∧ w'.cell? ⟨g, i * 7 + 2, none⟩ = some (.int .i64 h.stage) ∧ w'.cell? ⟨w4.heap.size, 1, none⟩ = some (.int .i64 x.crop) ∧ w'.cell? ⟨w4.heap.size, 2, none⟩ = some (.int .i64 x.stage)) :=
    fun w' hb => ⟨hb, (hb.cell (p := ⟨g, i * 7 + 1, none⟩) hgl5).trans h1, (hb.cell (p := ⟨g, i * 7 + 2, none⟩) hgl5).trans h2, (hb.cell (p := ⟨w4.heap.size, 1, none⟩) lC).trans x1, (hb.cell (p := ⟨w4.heap.size, 2, none⟩) lC).trans x2⟩
  have hx := hstep w5.drew ((Below.refl _ w5).drew)
  have HH5 := Lib.hid hH5
  have KC := Lib.hid kC
  have HCE5 := Lib.hid hce5
  have HFZ5 := Lib.hid hfz5
  clear h1 h2 x1 x2 hstep hH5 kC hce5 hfz5 hb5 hgl c0 c1 c2 c3 c4 c5 c6 d5 lB
  go_upto_region 4 with fail
  have hjv : joinD S a = (if ¬ (h.crop = x.crop ∧ h.stage = x.stage ∧ h.stage ≠ 3) then (8, S) else
    (0, { S with heaps := (S.heaps.set i { h with parts := putL h.parts x.parts, wlo := min h.wlo x.wlo, whi := max h.whi x.whi }).eraseIdx k })) := by
    unfold joinD; rw [if_neg (by have := HIX.out; omega), if_neg (by have := HKX.out; omega), if_neg (by rw [HIE.out, HKE.out]; have := HIK.out; omega), HAT.out, HBT.out, HIE.out, HKE.out]; rfl
  have HJV := Lib.hid hjv
  clear hjv
  refine wp_region_E 24 (fun w' : World => Below w5.heap.size w5 w' ∧ (w'.cell? ⟨g, i * 7 + 1, none⟩ = some (.int .i64 h.crop) ∧ w'.cell? ⟨g, i * 7 + 2, none⟩ = some (.int .i64 h.stage) ∧ w'.cell? ⟨w4.heap.size, 1, none⟩ = some (.int .i64 x.crop) ∧ w'.cell? ⟨w4.heap.size, 2, none⟩ = some (.int .i64 x.stage))) (by kernel_rfl) ?_
  refine tR 0 rfl hx (v := ?v82) (.inl ⟨by rfl, ?y82⟩) ?r82
  case y82 => intro w' h; (try dsimp only at h); go_simp; try with_reducible rfl
  refine tR 1 rfl hx (v := ?v83) (.inl ⟨by rfl, ?y83⟩) ?r83
  case y83 => intro w' h; (try dsimp only at h); go_simp; try with_reducible rfl
  refine tR 2 rfl hx (v := ?v84) (.inl ⟨by rfl, ?y84⟩) ?r84
  case y84 => intro w' h; (try dsimp only at h); go_simp; try with_reducible rfl
  try simp only [Act.put, List.getElem_toArray, List.getElem_cons_zero, List.getElem_cons_succ, List.setIfInBounds_toArray, List.set_cons_zero, List.set_cons_succ]
  refine tR 3 rfl hx (v := ?v85) (.inl ⟨by rfl, ?y85⟩) ?r85
  case y85 => intro w' h; (try dsimp only at h); go_simp; try with_reducible rfl
  refine tR 4 rfl hx (v := ?v86) (.inl ⟨by rfl, ?y86⟩) ?r86
  case y86 => intro w' h; (try dsimp only at h); go_simp; try with_reducible rfl
  refine tR 5 rfl hx (v := ?v87) (.inl ⟨by rfl, ?y87⟩) ?r87
  case y87 => intro w' h; (try dsimp only at h); go_simp; try with_reducible rfl
  try simp only [Act.put, List.getElem_toArray, List.getElem_cons_zero, List.getElem_cons_succ, List.setIfInBounds_toArray, List.set_cons_zero, List.set_cons_succ]
  refine tR 6 rfl hx (v := ?v88) (.inl ⟨by rfl, ?y88⟩) ?r88
  case y88 => intro w' h; (try dsimp only at h); go_simp; try with_reducible rfl
  refine tR 7 rfl hx (v := ?v89) (.inl ⟨by rfl, ?y89⟩) ?r89
  case y89 => intro w' h; (try dsimp only at h); go_simp; try with_reducible rfl
  try simp only [Act.put, List.getElem_toArray, List.getElem_cons_zero, List.getElem_cons_succ, List.setIfInBounds_toArray, List.set_cons_zero, List.set_cons_succ]
  by_cases hc : h.crop = x.crop
  rotate_left
  · have qc : (h.crop == x.crop) = false := by simp [hc]
    have HV := Lib.hid (show (joinD S a).1 = 8 by rw [HJV.out, if_pos (fun e => hc e.1)])
    clear hc
    rw [qc]
    refine tR 8 rfl hx (v := undef) (.inr ⟨by rfl, rfl⟩) ?r90
    refine tR 9 rfl hx (v := undef) (.inr ⟨by rfl, rfl⟩) ?r91
    refine tR 10 rfl hx (v := undef) (.inr ⟨by rfl, rfl⟩) ?r92
    try simp only [Act.put, List.getElem_toArray, List.getElem_cons_zero, List.getElem_cons_succ, List.setIfInBounds_toArray, List.set_cons_zero, List.set_cons_succ]
    refine tR 11 rfl hx (v := undef) (.inr ⟨by rfl, rfl⟩) ?r93
    refine tR 12 rfl hx (v := undef) (.inr ⟨by rfl, rfl⟩) ?r94
    refine tR 13 rfl hx (v := undef) (.inr ⟨by rfl, rfl⟩) ?r95
    try simp only [Act.put, List.getElem_toArray, List.getElem_cons_zero, List.getElem_cons_succ, List.setIfInBounds_toArray, List.set_cons_zero, List.set_cons_succ]
    refine tR 14 rfl hx (v := undef) (.inr ⟨by rfl, rfl⟩) ?r96
    refine tR 15 rfl hx (v := ?v97) (.inl ⟨by rfl, ?y97⟩) ?r97
    case y97 => intro w' h; (try dsimp only at h); go_simp; try with_reducible rfl
    refine tR 16 rfl hx (v := ?v98) (.inl ⟨by rfl, ?y98⟩) ?r98
    case y98 => intro w' h; (try dsimp only at h); go_simp; try with_reducible rfl
    try simp only [Act.put, List.getElem_toArray, List.getElem_cons_zero, List.getElem_cons_succ, List.setIfInBounds_toArray, List.set_cons_zero, List.set_cons_succ]
    refine tR 17 rfl hx (v := undef) (.inr ⟨by rfl, rfl⟩) ?r99
    refine tR 18 rfl hx (v := undef) (.inr ⟨by rfl, rfl⟩) ?r100
    refine tR 19 rfl hx (v := undef) (.inr ⟨by rfl, rfl⟩) ?r101
    try simp only [Act.put, List.getElem_toArray, List.getElem_cons_zero, List.getElem_cons_succ, List.setIfInBounds_toArray, List.set_cons_zero, List.set_cons_succ]
    refine tR 20 rfl hx (v := undef) (.inr ⟨by rfl, rfl⟩) ?r102
    refine tR 21 rfl hx (v := undef) (.inr ⟨by rfl, rfl⟩) ?r103
    refine tR 22 rfl hx (v := ?v104) (.inl ⟨by rfl, ?y104⟩) ?r104
    case y104 => intro w' h; (try dsimp only at h); go_simp; try with_reducible rfl
    try simp only [Act.put, List.getElem_toArray, List.getElem_cons_zero, List.getElem_cons_succ, List.setIfInBounds_toArray, List.set_cons_zero, List.set_cons_succ]
    refine E_step (i := 23) (o := _) (by kernel_rfl) rfl (fun K hK => ?_)
    go_simp
    refine (require_no 8 _).mono ?_
    rintro r w7 ⟨rfl, rfl⟩
    dsimp only
    exact ⟨rfl, ChoreSaid.err 8 HV.out (by decide) (HBB5.out.trans (hx.1.mono (Nat.le_trans hbw hsz5)))⟩
  have qc : (h.crop == x.crop) = true := by simp [hc]
  rw [qc]
  have HC := Lib.hid hc
  clear hc
  refine tR 8 rfl hx (v := ?v105) (.inl ⟨by rfl, ?y105⟩) ?r105
  case y105 => intro w' h; (try dsimp only at h); go_simp; try with_reducible rfl
  refine tR 9 rfl hx (v := ?v106) (.inl ⟨by rfl, ?y106⟩) ?r106
  case y106 => intro w' h; (try dsimp only at h); go_simp; try with_reducible rfl
  refine tR 10 rfl hx (v := ?v107) (.inl ⟨by rfl, ?y107⟩) ?r107
  case y107 => intro w' h; (try dsimp only at h); go_simp; try with_reducible rfl
  try simp only [Act.put, List.getElem_toArray, List.getElem_cons_zero, List.getElem_cons_succ, List.setIfInBounds_toArray, List.set_cons_zero, List.set_cons_succ]
  refine tR 11 rfl hx (v := ?v108) (.inl ⟨by rfl, ?y108⟩) ?r108
  case y108 => intro w' h; (try dsimp only at h); go_simp; try with_reducible rfl
  refine tR 12 rfl hx (v := ?v109) (.inl ⟨by rfl, ?y109⟩) ?r109
  case y109 => intro w' h; (try dsimp only at h); go_simp; try with_reducible rfl
  refine tR 13 rfl hx (v := ?v110) (.inl ⟨by rfl, ?y110⟩) ?r110
  case y110 => intro w' h; (try dsimp only at h); go_simp; try with_reducible rfl
  try simp only [Act.put, List.getElem_toArray, List.getElem_cons_zero, List.getElem_cons_succ, List.setIfInBounds_toArray, List.set_cons_zero, List.set_cons_succ]
  refine tR 14 rfl hx (v := ?v111) (.inl ⟨by rfl, ?y111⟩) ?r111
  case y111 => intro w' h; (try dsimp only at h); go_simp; try with_reducible rfl
  try simp only [Act.put, List.getElem_toArray, List.getElem_cons_zero, List.getElem_cons_succ, List.setIfInBounds_toArray, List.set_cons_zero, List.set_cons_succ]
  by_cases hs : h.stage = x.stage
  rotate_left
  · have qs : (h.stage == x.stage) = false := by simp [hs]
    have HV := Lib.hid (show (joinD S a).1 = 8 by rw [HJV.out, if_pos (fun e => hs e.2.1)])
    clear hs
    rw [qs]
    refine tR 15 rfl hx (v := ?v112) (.inl ⟨by rfl, ?y112⟩) ?r112
    case y112 => intro w' h; (try dsimp only at h); go_simp; try with_reducible rfl
    refine tR 16 rfl hx (v := ?v113) (.inl ⟨by rfl, ?y113⟩) ?r113
    case y113 => intro w' h; (try dsimp only at h); go_simp; try with_reducible rfl
    refine tR 17 rfl hx (v := undef) (.inr ⟨by rfl, rfl⟩) ?r114
    try simp only [Act.put, List.getElem_toArray, List.getElem_cons_zero, List.getElem_cons_succ, List.setIfInBounds_toArray, List.set_cons_zero, List.set_cons_succ]
    refine tR 18 rfl hx (v := undef) (.inr ⟨by rfl, rfl⟩) ?r115
    refine tR 19 rfl hx (v := undef) (.inr ⟨by rfl, rfl⟩) ?r116
    refine tR 20 rfl hx (v := undef) (.inr ⟨by rfl, rfl⟩) ?r117
    try simp only [Act.put, List.getElem_toArray, List.getElem_cons_zero, List.getElem_cons_succ, List.setIfInBounds_toArray, List.set_cons_zero, List.set_cons_succ]
    refine tR 21 rfl hx (v := undef) (.inr ⟨by rfl, rfl⟩) ?r118
    refine tR 22 rfl hx (v := ?v119) (.inl ⟨by rfl, ?y119⟩) ?r119
    case y119 => intro w' h; (try dsimp only at h); go_simp; try with_reducible rfl
    try simp only [Act.put, List.getElem_toArray, List.getElem_cons_zero, List.getElem_cons_succ, List.setIfInBounds_toArray, List.set_cons_zero, List.set_cons_succ]
    refine E_step (i := 23) (o := _) (by kernel_rfl) rfl (fun K hK => ?_)
    go_simp
    refine (require_no 8 _).mono ?_
    rintro r w7 ⟨rfl, rfl⟩
    dsimp only
    exact ⟨rfl, ChoreSaid.err 8 HV.out (by decide) (HBB5.out.trans (hx.1.mono (Nat.le_trans hbw hsz5)))⟩
  have qs : (h.stage == x.stage) = true := by simp [hs]
  rw [qs]
  have HS := Lib.hid hs
  clear hs
  refine tR 15 rfl hx (v := ?v120) (.inl ⟨by rfl, ?y120⟩) ?r120
  case y120 => intro w' h; (try dsimp only at h); go_simp; try with_reducible rfl
  refine tR 16 rfl hx (v := ?v121) (.inl ⟨by rfl, ?y121⟩) ?r121
  case y121 => intro w' h; (try dsimp only at h); go_simp; try with_reducible rfl
  refine tR 17 rfl hx (v := ?v122) (.inl ⟨by rfl, ?y122⟩) ?r122
  case y122 => intro w' h; (try dsimp only at h); go_simp; try with_reducible rfl
  try simp only [Act.put, List.getElem_toArray, List.getElem_cons_zero, List.getElem_cons_succ, List.setIfInBounds_toArray, List.set_cons_zero, List.set_cons_succ]
  refine tR 18 rfl hx (v := ?v123) (.inl ⟨by rfl, ?y123⟩) ?r123
  case y123 => intro w' h; (try dsimp only at h); go_simp; try with_reducible rfl
  refine tR 19 rfl hx (v := ?v124) (.inl ⟨by rfl, ?y124⟩) ?r124
  case y124 => intro w' h; (try dsimp only at h); go_simp; try with_reducible rfl
  refine tR 20 rfl hx (v := ?v125) (.inl ⟨by rfl, ?y125⟩) ?r125
  case y125 => intro w' h; (try dsimp only at h); go_simp; try with_reducible rfl
  try simp only [Act.put, List.getElem_toArray, List.getElem_cons_zero, List.getElem_cons_succ, List.setIfInBounds_toArray, List.set_cons_zero, List.set_cons_succ]
  refine tR 21 rfl hx (v := ?v126) (.inl ⟨by rfl, ?y126⟩) ?r126
  case y126 => intro w' h; (try dsimp only at h); go_simp; try with_reducible rfl
  try simp only [Act.put, List.getElem_toArray, List.getElem_cons_zero, List.getElem_cons_succ, List.setIfInBounds_toArray, List.set_cons_zero, List.set_cons_succ]
  by_cases h3 : h.stage = 3
  · have q3' : (h.stage != 3) = false := by simp [h3]
    have HV := Lib.hid (show (joinD S a).1 = 8 by rw [HJV.out, if_pos (fun e => e.2.2 h3)])
    clear h3
    rw [q3']
    refine tR 22 rfl hx (v := ?v127) (.inl ⟨by rfl, ?y127⟩) ?r127
    case y127 => intro w' h; (try dsimp only at h); go_simp; try with_reducible rfl
    try simp only [Act.put, List.getElem_toArray, List.getElem_cons_zero, List.getElem_cons_succ, List.setIfInBounds_toArray, List.set_cons_zero, List.set_cons_succ]
    refine E_step (i := 23) (o := _) (by kernel_rfl) rfl (fun K hK => ?_)
    go_simp
    refine (require_no 8 _).mono ?_
    rintro r w7 ⟨rfl, rfl⟩
    dsimp only
    exact ⟨rfl, ChoreSaid.err 8 HV.out (by decide) (HBB5.out.trans (hx.1.mono (Nat.le_trans hbw hsz5)))⟩
  have q3' : (h.stage != 3) = true := by simp [h3]
  have hv : joinD S a = (0, { S with heaps := (S.heaps.set i { h with parts := putL h.parts x.parts, wlo := min h.wlo x.wlo, whi := max h.whi x.whi }).eraseIdx k }) := by rw [HJV.out, if_neg (fun e => e ⟨HC.out, HS.out, h3⟩)]
  have HV := Lib.hid hv
  clear hv h3
  rw [q3']
  refine tR 22 rfl hx (v := ?v128) (.inl ⟨by rfl, ?y128⟩) ?r128
  case y128 => intro w' h; (try dsimp only at h); go_simp; try with_reducible rfl
  try simp only [Act.put, List.getElem_toArray, List.getElem_cons_zero, List.getElem_cons_succ, List.setIfInBounds_toArray, List.set_cons_zero, List.set_cons_succ]
  refine E_step (i := 23) (o := _) (by kernel_rfl) rfl (fun K hK => ?_)
  go_simp
  refine (require_yes 8 _).mono ?_
  rintro r w6 ⟨rfl, rfl⟩
  dsimp only
  refine hK.out _ _ (fun _ => hx) ?_
  clear hK K
  try simp only [Act.put, List.getElem_toArray, List.getElem_cons_zero, List.getElem_cons_succ, List.setIfInBounds_toArray, List.set_cons_zero, List.set_cons_succ]
  refine E_done (by kernel_rfl) ?_ _
  have hb6 := hx.1
  have hH6 := HH5.out.below hb6
  have hsz6 := Nat.le_trans hsz5 hb6.size
  have HBB6 := Lib.hid (HBB5.out.trans (hb6.mono (Nat.le_trans hbw hsz5)))
  have hce6 : ∀ j, j < 7 → w5.drew.cell? ⟨g, i * 7 + j, none⟩ = (cellsHep h)[j]? := fun j hj => (hb6.cell (p := ⟨g, i * 7 + j, none⟩) hgl5).trans (HCE5.out j hj)
  have hfz6 := fun j => (World.frozen?_of_block (a := ⟨g, j, none⟩) (hb6.block g hgl5)).trans (HFZ5.out j)
  have hgl6 := Nat.lt_of_lt_of_le hgl5 hb6.size
  have kC6 := KC.out.belowS hb6
  generalize w5.drew = W at *
  have lC6 := kC6.lt
  have hgR : S.ha.map (·.block) = some g := by rw [hga]; rfl
  have hpa2 := out_pa HIH.out hH6.own.apart
  have hph : h.pa.map (·.block) ≠ some g := fun e => out_ha hH6.own.apart g hgR (rows_pa (S := { S with ha := none }) (List.mem_of_getElem? HIH.out) e)
  have hpC : h.pa.map (·.block) ≠ some w4.heap.size := fun e => by have := HROWS.out _ (rows_pa (List.mem_of_getElem? HIH.out) e); omega
  have hpx : ∀ b, h.pa.map (·.block) = some b → x.pa.map (·.block) ≠ some b := fun b e e2 => hpa2 b e (rows_pa_erase (List.mem_eraseIdx_iff_getElem?.2 ⟨k, fun e => HIK.out e.symm, HKH.out⟩) e2)
  have h3 : W.cell? ⟨g, i * 7 + 3, none⟩ = some (.slice h.pa h.parts.length h.pc) := hce6 3 (by omega)
  have x3 : W.cell? ⟨w4.heap.size, 3, none⟩ = some (.slice x.pa x.parts.length x.pc) := kC6.cell 3
  have hstep : ∀ w', Turn (fun b => h.pa.map (·.block) = some b) W w' → Turn (fun b => h.pa.map (·.block) = some b) W w' ∧ (w'.cell? ⟨g, i * 7 + 3, none⟩ = some (.slice h.pa h.parts.length h.pc) ∧ w'.cell? ⟨w4.heap.size, 3, none⟩ = some (.slice x.pa x.parts.length x.pc)) :=
    fun w' ht => ⟨ht, (World.cell?_of_block (a := ⟨g, i * 7 + 3, none⟩) (ht.block g hgl6 hph)).trans h3, (World.cell?_of_block (a := ⟨w4.heap.size, 3, none⟩) (ht.block _ lC6 hpC)).trans x3⟩
  have hx := hstep W.drew (Turn.of_below ((Below.refl _ W).drew))
  have HST := Lib.hid hstep
  have hpv := putVals_any base h.pa h.pc h.parts 100000 x.pa x.pc x.parts W.drew (own_below (hH6.own.parts h (List.mem_of_getElem? HIH.out)) ((Below.refl _ W).drew)) hpx (Nat.le_trans hbw hsz6) (fun q hq => by have := (hok q hq).2; omega) (by omega) (by omega) (by omega)
    ((isPrts_own (hH6.own.parts x (List.mem_of_getElem? HKH.out))).belowS ((Below.refl _ W).drew)) (fun p hp => (xok p hp).2) xlen
  have HPV := Lib.hid hpv
  have HH6 := Lib.hid hH6
  have KC6 := Lib.hid kC6
  have HCE6 := Lib.hid hce6
  have HFZ6 := Lib.hid hfz6
  have HPH := Lib.hid hph
  have HPC := Lib.hid hpC
  clear hstep hpv hH6 kC6 hce6 hfz6 h3 x3 hb6 hpx hph hpC hpa2 hok xok hpa xpa
  go_upto_region 5 with fail
  refine wp_region_E 11 (fun w' : World => Turn (fun b => h.pa.map (·.block) = some b) W w' ∧ (w'.cell? ⟨g, i * 7 + 3, none⟩ = some (.slice h.pa h.parts.length h.pc) ∧ w'.cell? ⟨w4.heap.size, 3, none⟩ = some (.slice x.pa x.parts.length x.pc))) (by kernel_rfl) ?_
  refine tk 0 rfl hx (v := ?v129) (.inl ⟨by rfl, ?y129⟩) ?r129
  case y129 => intro w' h; (try dsimp only at h); go_simp; try with_reducible rfl
  refine tk 1 rfl hx (v := ?v130) (.inl ⟨by rfl, ?y130⟩) ?r130
  case y130 => intro w' h; (try dsimp only at h); go_simp; try with_reducible rfl
  refine tk 2 rfl hx (v := ?v131) (.inl ⟨by rfl, ?y131⟩) ?r131
  case y131 => intro w' h; (try dsimp only at h); go_simp; try with_reducible rfl
  try simp only [Act.put, List.getElem_toArray, List.getElem_cons_zero, List.getElem_cons_succ, List.setIfInBounds_toArray, List.set_cons_zero, List.set_cons_succ]
  refine tk 3 rfl hx (v := ?v132) (.inl ⟨by rfl, ?y132⟩) ?r132
  case y132 => intro w' h; (try dsimp only at h); go_simp; try with_reducible rfl
  refine tk 4 rfl hx (v := ?v133) (.inl ⟨by rfl, ?y133⟩) ?r133
  case y133 => intro w' h; (try dsimp only at h); go_simp; try with_reducible rfl
  refine tk 5 rfl hx (v := ?v134) (.inl ⟨by rfl, ?y134⟩) ?r134
  case y134 => intro w' h; (try dsimp only at h); go_simp; try with_reducible rfl
  try simp only [Act.put, List.getElem_toArray, List.getElem_cons_zero, List.getElem_cons_succ, List.setIfInBounds_toArray, List.set_cons_zero, List.set_cons_succ]
  refine tk 6 rfl hx (v := ?v135) (.inl ⟨by rfl, ?y135⟩) ?r135
  case y135 => intro w' h; (try dsimp only at h); go_simp; try with_reducible rfl
  try simp only [Act.put, List.getElem_toArray, List.getElem_cons_zero, List.getElem_cons_succ, List.setIfInBounds_toArray, List.set_cons_zero, List.set_cons_succ]
  refine E_step (i := 7) (o := _) (by kernel_rfl) rfl (fun K hK => ?_)
  go_simp
  refine (values_any x.pa x.parts.length x.pc _).mono ?_
  rintro r w7 ⟨rfl, hw7⟩
  dsimp only
  have hx7 := HST.out w7 (Turn.of_below (by rw [hw7]; exact ((Below.refl _ W).drew).trans ((Below.refl W.drew.heap.size W.drew).alloc (by simp) _)))
  refine hK.out _ _ (fun _ => hx7) ?_
  clear hK K
  try simp only [Act.put, List.getElem_toArray, List.getElem_cons_zero, List.getElem_cons_succ, List.setIfInBounds_toArray, List.set_cons_zero, List.set_cons_succ]
  refine E_step (i := 8) (o := _) (by kernel_rfl) rfl (fun K hK => ?_)
  go_simp
  subst hw7
  refine HPV.out.mono ?_
  rintro r w8 ⟨⟨a2, c2, rfl, hrow2, hat2⟩, hT8⟩
  dsimp only
  have hx8 := HST.out w8 ((Turn.of_below ((Below.refl _ W).drew)).trans hT8)
  refine hK.out _ _ (fun _ => hx8) ?_
  clear hK K
  try simp only [Act.put, List.getElem_toArray, List.getElem_cons_zero, List.getElem_cons_succ, List.setIfInBounds_toArray, List.set_cons_zero, List.set_cons_succ]
  refine E_step (i := 9) (o := _) (by kernel_rfl) rfl (fun K hK => ?_)
  go_simp
  refine hK.out _ _ (fun _ => hx8) ?_
  clear hK K
  try simp only [Act.put, List.getElem_toArray, List.getElem_cons_zero, List.getElem_cons_succ, List.setIfInBounds_toArray, List.set_cons_zero, List.set_cons_succ]
  refine E_step (i := 10) (o := _) (by kernel_rfl) rfl (fun K hK => ?_)
  go_simp
  refine hK.out _ _ (fun _ => hx8) ?_
  clear hK K
  try simp only [Act.put, List.getElem_toArray, List.getElem_cons_zero, List.getElem_cons_succ, List.setIfInBounds_toArray, List.set_cons_zero, List.set_cons_succ]
  have hT9 := hx8.1
  have y3 := hx8.2.1
  have hgl8 := Nat.lt_of_lt_of_le hgl6 hT9.size
  have z3 : w8.frozen? ⟨g, i * 7 + 3, none⟩ = false := (World.frozen?_of_block (a := ⟨g, i * 7 + 3, none⟩) (hT9.block g hgl6 HPH.out)).trans (HFZ6.out _)
  have HR2 := Lib.hid hrow2
  have HA2 := Lib.hid hat2
  have HT9 := Lib.hid hT9
  clear hx hx7 hx8 hT8 hT9 hrow2 hat2
  refine E_step (i := 11) (o := _) (by kernel_rfl) rfl (fun K hK => ?_)
  go_simp
  refine hK.out _ _ (fun h => absurd rfl h) ?_
  clear hK K
  try simp only [Act.put, List.getElem_toArray, List.getElem_cons_zero, List.getElem_cons_succ, List.setIfInBounds_toArray, List.set_cons_zero, List.set_cons_succ]
  refine E_done (by kernel_rfl) ?_ _
  generalize hQ : putL h.parts x.parts = Q at *
  have hrow9 : (w8.setCell ⟨g, i * 7 + 3, none⟩ (.slice a2 Q.length c2)).ownsRow base 79 2 (.slice a2 Q.length c2) Q.length (Q.flatMap cellsPrt) :=
    Turn.row (X := fun b => b = g) ((Turn.of_below (X := fun b => b = g) (Below.refl _ w8)).setCell (B := g) rfl _ _) HR2.out (fun b e hb => by
      rcases HA2.out b hb with h9 | h9
      · exact HPH.out (by rw [h9, e])
      · have : W.drew.heap.size = W.heap.size := rfl
        omega)
  have hH9 := moved_hand2 HH6.out HIH.out hga HT9.out Q hrow9 (fun b hb => HA2.out b hb)
  have hCg : w4.heap.size ≠ g := fun e => by have := HROWS.out _ (rows_ha hgR); omega
  have kC9 := (HT9.out.blk KC6.out HPC.out).other hCg (i := i * 7 + 3) (.slice a2 Q.length c2)
  have hT9 : Turn (fun b => b = g ∨ h.pa.map (·.block) = some b) W (w8.setCell ⟨g, i * 7 + 3, none⟩ (.slice a2 Q.length c2)) := (HT9.out.mono fun _ _ e => .inr e).setCell (B := g) (.inl rfl) _ _
  have hb9 : Below base W (w8.setCell ⟨g, i * 7 + 3, none⟩ (.slice a2 Q.length c2)) := hT9.below (Nat.le_trans hbw hsz6) (fun b e => by
    rcases e with rfl | e
    · exact hgb
    · exact HGE.out b (rows_pa (List.mem_of_getElem? HIH.out) e))
  have hsz9 := Nat.le_trans hsz6 hT9.size
  have HBB9 := Lib.hid (HBB6.out.trans hb9)
  have hih9 : (S.heaps.set i { h with pa := a2, pc := c2, parts := Q })[i]? = some { h with pa := a2, pc := c2, parts := Q } := by simp [hil]
  have HQ := Lib.hid hQ
  have HH9 := Lib.hid hH9
  have HIH9 := Lib.hid hih9
  have KC9 := Lib.hid kC9
  clear hx hQ y3 z3 hrow9 hH9 kC9 hih9 hT9 hb9
  generalize w8.setCell ⟨g, i * 7 + 3, none⟩ (.slice a2 Q.length c2) = V at *
  obtain ⟨g9, hg9, _, hgl9, _, hce9, hfz9, _⟩ := HH9.out.hep HIH9.out
  obtain rfl : g = g9 := by
    have h0 : S.ha = some ⟨g9, 0, none⟩ := hg9
    rw [hga] at h0; injection h0 with e; injection e
  have y5 : V.cell? ⟨g, i * 7 + 5, none⟩ = some (.int .i64 h.wlo) := hce9 5 (by omega)
  have y6 : V.cell? ⟨g, i * 7 + 6, none⟩ = some (.int .i64 h.whi) := hce9 6 (by omega)
  have x5 : V.cell? ⟨w4.heap.size, 5, none⟩ = some (.int .i64 x.wlo) := KC9.out.cell 5
  have x6 : V.cell? ⟨w4.heap.size, 6, none⟩ = some (.int .i64 x.whi) := KC9.out.cell 6
  have lC9 := KC9.out.lt
  have hx : (fun w' : World => Below V.heap.size V w' ∧ (w'.cell? ⟨g, i * 7 + 5, none⟩ = some (.int .i64 h.wlo) ∧ w'.cell? ⟨g, i * 7 + 6, none⟩ = some (.int .i64 h.whi) ∧ w'.cell? ⟨w4.heap.size, 5, none⟩ = some (.int .i64 x.wlo) ∧ w'.cell? ⟨w4.heap.size, 6, none⟩ = some (.int .i64 x.whi))) V.drew := ⟨(Below.refl _ V).drew, y5, y6, x5, x6⟩
  have z5 : V.frozen? ⟨g, i * 7 + 5, none⟩ = false := hfz9 _
  have z6 : V.frozen? ⟨g, i * 7 + 6, none⟩ = false := hfz9 _
  clear hce9 hfz9 hg9
  go_upto_region 6 with fail
  refine wp_region_E 22 (fun w' : World => Below V.heap.size V w' ∧ (w'.cell? ⟨g, i * 7 + 5, none⟩ = some (.int .i64 h.wlo) ∧ w'.cell? ⟨g, i * 7 + 6, none⟩ = some (.int .i64 h.whi) ∧ w'.cell? ⟨w4.heap.size, 5, none⟩ = some (.int .i64 x.wlo) ∧ w'.cell? ⟨w4.heap.size, 6, none⟩ = some (.int .i64 x.whi))) (by kernel_rfl) ?_
  refine tk 0 rfl hx (v := ?v136) (.inl ⟨by rfl, ?y136⟩) ?r136
  case y136 => intro w' h; (try dsimp only at h); go_simp; try with_reducible rfl
  refine tk 1 rfl hx (v := ?v137) (.inl ⟨by rfl, ?y137⟩) ?r137
  case y137 => intro w' h; (try dsimp only at h); go_simp; try with_reducible rfl
  refine tk 2 rfl hx (v := ?v138) (.inl ⟨by rfl, ?y138⟩) ?r138
  case y138 => intro w' h; (try dsimp only at h); go_simp; try with_reducible rfl
  try simp only [Act.put, List.getElem_toArray, List.getElem_cons_zero, List.getElem_cons_succ, List.setIfInBounds_toArray, List.set_cons_zero, List.set_cons_succ]
  refine tk 3 rfl hx (v := ?v139) (.inl ⟨by rfl, ?y139⟩) ?r139
  case y139 => intro w' h; (try dsimp only at h); go_simp; try with_reducible rfl
  refine tk 4 rfl hx (v := ?v140) (.inl ⟨by rfl, ?y140⟩) ?r140
  case y140 => intro w' h; (try dsimp only at h); go_simp; try with_reducible rfl
  refine tk 5 rfl hx (v := ?v141) (.inl ⟨by rfl, ?y141⟩) ?r141
  case y141 => intro w' h; (try dsimp only at h); go_simp; try with_reducible rfl
  try simp only [Act.put, List.getElem_toArray, List.getElem_cons_zero, List.getElem_cons_succ, List.setIfInBounds_toArray, List.set_cons_zero, List.set_cons_succ]
  refine tk 6 rfl hx (v := ?v142) (.inl ⟨by rfl, ?y142⟩) ?r142
  case y142 => intro w' h; (try dsimp only at h); go_simp; try with_reducible rfl
  refine tk 7 rfl hx (v := ?v143) (.inl ⟨by rfl, ?y143⟩) ?r143
  case y143 => intro w' h; (try dsimp only at h); go_simp; try with_reducible rfl
  refine tk 8 rfl hx (v := ?v144) (.inl ⟨by rfl, ?y144⟩) ?r144
  case y144 => intro w' h; (try dsimp only at h); go_simp; try with_reducible rfl
  try simp only [Act.put, List.getElem_toArray, List.getElem_cons_zero, List.getElem_cons_succ, List.setIfInBounds_toArray, List.set_cons_zero, List.set_cons_succ]
  refine tk 9 rfl hx (v := ?v145) (.inl ⟨by rfl, ?y145⟩) ?r145
  case y145 => intro w' h; (try dsimp only at h); go_simp; try with_reducible rfl
  refine tk 10 rfl hx (v := ?v146) (.inl ⟨by rfl, ?y146⟩) ?r146
  case y146 => intro w' h; (try dsimp only at h); go_simp; try with_reducible rfl
  refine tk 11 rfl hx (v := ?v147) (.inl ⟨by rfl, ?y147⟩) ?r147
  case y147 => intro w' h; (try dsimp only at h); go_simp; try with_reducible rfl
  try simp only [Act.put, List.getElem_toArray, List.getElem_cons_zero, List.getElem_cons_succ, List.setIfInBounds_toArray, List.set_cons_zero, List.set_cons_succ]
  refine tk 12 rfl hx (v := ?v148) (.inl ⟨by rfl, ?y148⟩) ?r148
  case y148 => intro w' h; (try dsimp only at h); go_simp; try with_reducible rfl
  refine tk 13 rfl hx (v := ?v149) (.inl ⟨by rfl, ?y149⟩) ?r149
  case y149 => intro w' h; (try dsimp only at h); go_simp; try with_reducible rfl
  refine tk 14 rfl hx (v := ?v150) (.inl ⟨by rfl, ?y150⟩) ?r150
  case y150 => intro w' h; (try dsimp only at h); go_simp; try with_reducible rfl
  try simp only [Act.put, List.getElem_toArray, List.getElem_cons_zero, List.getElem_cons_succ, List.setIfInBounds_toArray, List.set_cons_zero, List.set_cons_succ]
  refine tk 15 rfl hx (v := ?v151) (.inl ⟨by rfl, ?y151⟩) ?r151
  case y151 => intro w' h; (try dsimp only at h); go_simp; try with_reducible rfl
  refine tk 16 rfl hx (v := ?v152) (.inl ⟨by rfl, ?y152⟩) ?r152
  case y152 => intro w' h; (try dsimp only at h); go_simp; try with_reducible rfl
  refine tk 17 rfl hx (v := ?v153) (.inl ⟨by rfl, ?y153⟩) ?r153
  case y153 => intro w' h; (try dsimp only at h); go_simp; try with_reducible rfl
  try simp only [Act.put, List.getElem_toArray, List.getElem_cons_zero, List.getElem_cons_succ, List.setIfInBounds_toArray, List.set_cons_zero, List.set_cons_succ]
  refine tk 18 rfl hx (v := ?v154) (.inl ⟨by rfl, ?y154⟩) ?r154
  case y154 => intro w' h; (try dsimp only at h); go_simp; try with_reducible rfl
  refine tk 19 rfl hx (v := ?v155) (.inl ⟨by rfl, ?y155⟩) ?r155
  case y155 => intro w' h; (try dsimp only at h); go_simp; try with_reducible rfl
  try simp only [Act.put, List.getElem_toArray, List.getElem_cons_zero, List.getElem_cons_succ, List.setIfInBounds_toArray, List.set_cons_zero, List.set_cons_succ]
  refine E_step (i := 20) (o := _) (by kernel_rfl) rfl (fun K hK => ?_)
  go_simp
  refine hK.out _ _ (fun _ => hx) ?_
  clear hK K
  try simp only [Act.put, List.getElem_toArray, List.getElem_cons_zero, List.getElem_cons_succ, List.setIfInBounds_toArray, List.set_cons_zero, List.set_cons_succ]
  refine E_step (i := 21) (o := _) (by kernel_rfl) rfl (fun K hK => ?_)
  go_simp
  refine hK.out _ _ (fun _ => hx) ?_
  clear hK K
  try simp only [Act.put, List.getElem_toArray, List.getElem_cons_zero, List.getElem_cons_succ, List.setIfInBounds_toArray, List.set_cons_zero, List.set_cons_succ]
  refine E_step (i := 22) (o := _) (by kernel_rfl) rfl (fun K hK => ?_)
  go_simp
  refine hK.out _ _ (fun h => absurd rfl h) ?_
  clear hK K
  try simp only [Act.put, List.getElem_toArray, List.getElem_cons_zero, List.getElem_cons_succ, List.setIfInBounds_toArray, List.set_cons_zero, List.set_cons_succ]
  refine E_done (by kernel_rfl) ?_ _
  have m1 : (if x.wlo < h.wlo then x.wlo else h.wlo) = min h.wlo x.wlo := by split <;> omega
  have m2 : (if h.whi < x.whi then x.whi else h.whi) = max h.whi x.whi := by split <;> omega
  simp only [m1, m2]
  have hV1 := set_hand (j := 5) (y := { h with pa := a2, pc := c2, parts := Q, wlo := min h.wlo x.wlo }) (v := .int .i64 (min h.wlo x.wlo)) HH9.out HIH9.out hga (by omega) rfl rfl rfl rfl rfl
  have hihV : ((S.heaps.set i { h with pa := a2, pc := c2, parts := Q }).set i { h with pa := a2, pc := c2, parts := Q, wlo := min h.wlo x.wlo })[i]? = some { h with pa := a2, pc := c2, parts := Q, wlo := min h.wlo x.wlo } := by simp [hil]
  have hV2 := set_hand (j := 6) (y := { h with pa := a2, pc := c2, parts := Q, wlo := min h.wlo x.wlo, whi := max h.whi x.whi }) (v := .int .i64 (max h.whi x.whi)) hV1 hihV hga (by omega) rfl rfl rfl rfl rfl
  have hset : ((S.heaps.set i { h with pa := a2, pc := c2, parts := Q }).set i { h with pa := a2, pc := c2, parts := Q, wlo := min h.wlo x.wlo }).set i { h with pa := a2, pc := c2, parts := Q, wlo := min h.wlo x.wlo, whi := max h.whi x.whi } = S.heaps.set i { h with pa := a2, pc := c2, parts := Q, wlo := min h.wlo x.wlo, whi := max h.whi x.whi } := by simp
  simp only [hset] at hV2
  have hdr : Below ((V.setCell ⟨g, i * 7 + 5, none⟩ (.int .i64 (min h.wlo x.wlo))).setCell ⟨g, i * 7 + 6, none⟩ (.int .i64 (max h.whi x.whi))).heap.size ((V.setCell ⟨g, i * 7 + 5, none⟩ (.int .i64 (min h.wlo x.wlo))).setCell ⟨g, i * 7 + 6, none⟩ (.int .i64 (max h.whi x.whi))) ((V.setCell ⟨g, i * 7 + 5, none⟩ (.int .i64 (min h.wlo x.wlo))).setCell ⟨g, i * 7 + 6, none⟩ (.int .i64 (max h.whi x.whi))).drew := (Below.refl _ _).drew
  have hV3 := hV2.below hdr
  have hbV : Below base V ((V.setCell ⟨g, i * 7 + 5, none⟩ (.int .i64 (min h.wlo x.wlo))).setCell ⟨g, i * 7 + 6, none⟩ (.int .i64 (max h.whi x.whi))).drew := (((Below.refl base V).setCell (p := ⟨g, i * 7 + 5, none⟩) hgb _).setCell (p := ⟨g, i * 7 + 6, none⟩) hgb _).drew
  have HV3 := Lib.hid hV3
  have HBV := Lib.hid (HBB9.out.trans hbV)
  have hszV := hbV.size
  clear hV1 hV2 hV3 hihV hset hdr hbV hx z5 z6 y5 y6 x5 x6 m1 m2
  go_upto_region 7 with fail
  have hw : ((V.setCell ⟨g, i * 7 + 5, none⟩ (.int .i64 (min h.wlo x.wlo))).setCell ⟨g, i * 7 + 5 + 1, none⟩ (.int .i64 (max h.whi x.whi))).drew = ((V.setCell ⟨g, i * 7 + 5, none⟩ (.int .i64 (min h.wlo x.wlo))).setCell ⟨g, i * 7 + 6, none⟩ (.int .i64 (max h.whi x.whi))).drew := rfl
  rw [hw]
  clear hw
  generalize ((V.setCell ⟨g, i * 7 + 5, none⟩ (.int .i64 (min h.wlo x.wlo))).setCell ⟨g, i * 7 + 6, none⟩ (.int .i64 (max h.whi x.whi))).drew = U at *
  go_wp2_with fail
  refine (remove_any F _ _ base B k U HV3.out (by rw [List.length_set]; exact hkl)).mono ?_
  rintro e w9 ⟨rfl, hH10, hT10⟩
  have HH10 := Lib.hid hH10
  have HT10 := Lib.hid hT10
  clear hH10 hT10
  go_wp2_with fail
  go_end0
  refine ⟨.inl ⟨by rw [HV.out], rfl, _, ?_, HH10.out⟩, HBV.out.trans (HT10.out.below (Nat.le_trans hbw (Nat.le_trans hsz9 hszV)) ?_)⟩
  · rw [HV.out]
    have hs : sameH ((S.heaps.set i { h with pa := a2, pc := c2, parts := Q, wlo := min h.wlo x.wlo, whi := max h.whi x.whi }).eraseIdx k) ((S.heaps.set i { h with parts := Q, wlo := min h.wlo x.wlo, whi := max h.whi x.whi }).eraseIdx k) := by
      refine sameH.erase (sameH.set (sameH.refl S.heaps) i ?_) k
      exact ⟨rfl, rfl, rfl, rfl, rfl, rfl, rfl⟩
    exact ⟨rfl, rfl, rfl, rfl, rfl, hs.1, hs.2⟩
  · intro b e
    rcases e with rfl | e
    · exact hbB
    · exact HGE.out b (rows_ha e)

end Go.Proofs.YtfhalmlpnoepcaaGreat
