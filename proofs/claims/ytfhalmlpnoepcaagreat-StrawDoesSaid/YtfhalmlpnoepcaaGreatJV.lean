/- Chores: use, rot. -/
import Derived.Test.YtfhalmlpnoepcaaGreatJU
import Derived.Test.YtfhalmlpnoepcaaGreatJN
import Derived.Test.YtfhalmlpnoepcaaGreatJB
import Derived.Test.YtfhalmlpnoepcaaGreatGZ
set_option linter.unusedSimpArgs false
namespace Go.Proofs.YtfhalmlpnoepcaaGreat
open Go.RowKit

/-! ### A drawn region that only reads, with calls that may panic: all is held to its end -/
section
variable {P : Program} {ops : Array Oper} {Q : Exit → Act → World → Prop} {md : Region.Mode} {S : World → Prop} {last : Nat}
theorem E_firstR {i : Nat} {oi : Oper} {v : Value} (hi : ops[i]? = some oi) (hsel : ∀ (j : Nat) (o : Oper) cs b, ops[j]? = some o → o.op ≠ .select cs b)
    (hQ : ∀ c a w, Q (.panic c) (a.put oi.dst v) w → Q (.panic c) a w) (hwait : ops.size ≤ last) :
    ∀ (fuel : Nat) (listed : Array Bool) (a : Act) (w : World),
      (∀ j oj, ops[j]? = some oj → j ≠ i → listed.getD j true = false → (∀ e ∈ oj.after, Region.binds md e = true → e.on ≠ i) → oi.apart ops oj = true) →
      i ∈ Region.ready md ops listed → YieldsIf P ops S oi v a → S w →
      heldE P md ops Q S last fuel (listed.setIfInBounds i true) (a.put oi.dst v) w → heldE P md ops Q S last (fuel + 1) listed a w := by
  intro fuel
  induction fuel with
  | zero =>
    intro listed a w _ hr hy hS H
    refine ⟨fun h => (by rw [h] at hr; cases hr), fun j hj => ?_⟩
    by_cases hji : j = i
    · subst hji
      exact hy.wpOp hi hS ⟨fun _ => hS, H⟩
    · have hj2 := ready_mono hj hji
      rw [H.1] at hj2
      cases hj2
  | succ fuel ih =>
    intro listed a w hfree hr hy hS H
    refine ⟨fun h => (by rw [h] at hr; cases hr), fun j hj => ?_⟩
    by_cases hji : j = i
    · subst hji
      exact hy.wpOp hi hS ⟨fun _ => hS, H⟩
    · obtain ⟨hjun, oj, hoj, hall⟩ := mem_ready.1 hj
      have hiu := (mem_ready.1 hr).1
      have hno : ∀ e ∈ oj.after, Region.binds md e = true → e.on ≠ i := fun e he hb heq => not_listed hiu (heq ▸ hall e he hb)
      have hjl : j ≠ last := by
        rintro rfl
        have := (Array.getElem?_eq_some_iff.1 hoj).1
        omega
      have hw := wpOp_putIf hoj (hfree j oj hoj hji hjun hno) (fun cs b => hsel i oi cs b hi) (fun cs b => hsel j oj cs b hoj) hQ hy (H.2 j (ready_mono hj hji))
      refine wpOp_mono (fun a' w' h3 => ⟨fun _ => h3.2.1 hjl, ih (listed.setIfInBounds j true) a' w' (fun k ok hk hki hun hn => hfree k ok hk hki ?_ hn) (ready_mono hr (Ne.symm hji)) h3.1 (h3.2.1 hjl) ?_⟩) hw
      · by_cases hjk : j = k
        · subst hjk
          exact hjun
        · rwa [getD_set_ne true hjk] at hun
      · rw [Array.setIfInBounds_comm _ _ hji]
        exact h3.2.2
theorem E_takeR {i : Nat} {oi : Oper} {v : Value} {fuel : Nat} {listed : Array Bool} {a : Act} {w : World} (hi : ops[i]? = some oi)
    (hs : Region.noSelect ops = true) (hf : Region.free md ops listed i = true) (hr : (Region.ready md ops listed).contains i = true) (hwait : ops.size ≤ last)
    (hQ : ∀ c a w, Q (.panic c) (a.put oi.dst v) w → Q (.panic c) a w) (hS : S w) (hy : YieldsIf P ops S oi v a)
    (h : heldE P md ops Q S last fuel (listed.setIfInBounds i true) (a.put oi.dst v) w) : heldE P md ops Q S last (fuel + 1) listed a w :=
  E_firstR hi (Region.noSelect_spec hs) hQ hwait fuel listed a w (Region.free_spec hi hf) (by simpa using hr) hy hS h
theorem tR (i : Nat) {oi : Oper} {v : Value} {fuel : Nat} {listed : Array Bool} {a : Act} {w : World} (hi : ops[i]? = some oi) (hS : S w) (hy : YieldsIf P ops S oi v a)
    (h : heldE P md ops Q S last fuel (listed.setIfInBounds i true) (a.put oi.dst v) w) (hs : Region.noSelect ops = true := by kernel_rfl) (hf : Region.free md ops listed i = true := by kernel_rfl) (hr : (Region.ready md ops listed).contains i = true := by kernel_rfl)
    (hwait : ops.size ≤ last := by decide) (hQ : ∀ c a w, Q (.panic c) (a.put oi.dst v) w → Q (.panic c) a w := by exact fun _ _ _ h => h) : heldE P md ops Q S last (fuel + 1) listed a w := E_takeR (i := i) hi hs hf hr hwait hQ hS hy h
end

/-- What a chore leaves: the store as it is told, or the error that Do recovers. -/
def ChoreSaid (F : Frm) (base B : Nat) (r : Int × Sto) (w : World) (e : Ending) (w' : World) : Prop :=
  ((r.1 = 0 ∧ e = .returned (.tuple #[]) ∧ ∃ T, SameSto T r.2 ∧ Hand F base B w' T T) ∨ (r.1 ≠ 0 ∧ e = chain r.1)) ∧ Below base w w'
theorem ChoreSaid.err {F : Frm} {base B : Nat} {r : Int × Sto} {w w' : World} (x : Int) (hr : r.1 = x) (hx : x ≠ 0) (hb : Below base w w') : ChoreSaid F base B r w (chain x) w' := ⟨.inr ⟨by rw [hr]; exact hx, by rw [hr]⟩, hb⟩
/-- What each heap of a store that may be is. -/
theorem heap_ok {F : Frm} {S : Sto} (hE : storeE F S = 0) (hfit : S.fit) {h : Hep} (hm : h ∈ S.heaps) : (∀ p ∈ h.parts, p.ok F.ps.length) ∧ ap none h.parts ∧ h.parts.length ≤ 1000 ∧ (0 ≤ loadsM h.parts ∧ loadsM h.parts ≤ 100000000) ∧ (h.stage = 3 → 1 ≤ h.per ∧ h.per ≤ 100) ∧ (0 ≤ h.wlo ∧ h.wlo ≤ h.whi ∧ h.whi ≤ 1000) := by
  have hb := (store_ok hE).2.2.2.2 h hm
  have hok := heapB_parts hb
  have hl := hfit.parts h hm
  obtain ⟨h1, h2⟩ := loadsM_bd hok
  simp only [heapB, Bool.and_eq_true] at hb
  refine ⟨hok, partsB_ap hb.2.2.2.2.2.1, hl, ⟨h1, by omega⟩, fun h3 => ?_, ?_⟩
  · have := hb.2.2.2.2.2.2.2
    rw [if_pos h3] at this
    simp only [Bool.and_eq_true] at this
    exact isFromB_iff.1 this.1
  · exact isSpanB_iff.1 hb.2.2.2.1
theorem list_ok {n : Nat} {l : List Prt} (h : partsB n l = true) : ∀ q ∈ l, 0 ≤ q.loads ∧ q.loads ≤ 100000 := fun q hq => by
  have := (partsB_ok h q hq).2
  omega
theorem Hand.putUsed {F : Frm} {base B : Nat} {w : World} {S : Sto} {a : Option Addr} {c : Nat} {l : List Prt} (hH : Hand F base B w S { S with ua := none, uc := 0, used := [] })
    (hrow : w.ownsRow base 79 2 (.slice a l.length c) l.length (l.flatMap cellsPrt)) (hap : ∀ k, a.map (·.block) = some k → k ∉ rowsOf { S with ua := none, uc := 0, used := [] } ∧ k ≠ B) :
    Hand F base B (w.setCell ⟨B, 6, none⟩ (.slice a l.length c)) { S with ua := a, uc := c, used := l } { S with ua := a, uc := c, used := l } := by
  have hT : Turn (fun k => k = B) w (w.setCell ⟨B, 6, none⟩ (.slice a l.length c)) := (Turn.of_below (X := fun k => k = B) (Below.refl _ w)).setCell (B := B) rfl _ _
  refine ⟨?_, OwnSto.setUsed (S := { S with ua := none, uc := 0, used := [] }) (a := a) (c := c) (l := l) hH.own (fun k hk => hT.block k (hH.own.ge k hk).2 fun e => hH.out (by rw [← show k = B from e]; exact hk)) (hT.row hrow fun k hk e => (hap k e).2 hk) (fun j e => (hap j e).1), fun hk => ?_, hH.le, rfl, rfl, rfl⟩
  · have := hH.box.set 6 (.slice a l.length c)
    simpa using this
  · simp only [rowsOf, List.mem_filterMap, List.mem_append, List.mem_cons] at hk
    obtain ⟨x, hx, e⟩ := hk
    by_cases hxa : x = a
    · subst hxa; exact (hap B e).2 rfl
    · refine hH.out (List.mem_filterMap.2 ⟨x, ?_, e⟩)
      simp only [List.mem_append, List.mem_cons]
      rcases hx with (h | h | h | h | h | h) | h
      · exact .inl (.inl h)
      · exact .inl (.inr (.inl h))
      · exact .inl (.inr (.inr (.inl h)))
      · exact absurd h hxa
      · exact .inl (.inr (.inr (.inr (.inr (.inl h)))))
      · exact .inl (.inr (.inr (.inr (.inr (.inr h)))))
      · exact .inr h
theorem Hand.putWaste {F : Frm} {base B : Nat} {w : World} {S : Sto} {a : Option Addr} {c : Nat} {l : List Prt} (hH : Hand F base B w S { S with wa := none, wc := 0, waste := [] })
    (hrow : w.ownsRow base 79 2 (.slice a l.length c) l.length (l.flatMap cellsPrt)) (hap : ∀ k, a.map (·.block) = some k → k ∉ rowsOf { S with wa := none, wc := 0, waste := [] } ∧ k ≠ B) :
    Hand F base B (w.setCell ⟨B, 7, none⟩ (.slice a l.length c)) { S with wa := a, wc := c, waste := l } { S with wa := a, wc := c, waste := l } := by
  have hT : Turn (fun k => k = B) w (w.setCell ⟨B, 7, none⟩ (.slice a l.length c)) := (Turn.of_below (X := fun k => k = B) (Below.refl _ w)).setCell (B := B) rfl _ _
  refine ⟨?_, OwnSto.setWaste (S := { S with wa := none, wc := 0, waste := [] }) (a := a) (c := c) (l := l) hH.own (fun k hk => hT.block k (hH.own.ge k hk).2 fun e => hH.out (by rw [← show k = B from e]; exact hk)) (hT.row hrow fun k hk e => (hap k e).2 hk) (fun j e => (hap j e).1), fun hk => ?_, hH.le, rfl, rfl, rfl⟩
  · have := hH.box.set 7 (.slice a l.length c)
    simpa using this
  · simp only [rowsOf, List.mem_filterMap, List.mem_append, List.mem_cons] at hk
    obtain ⟨x, hx, e⟩ := hk
    by_cases hxa : x = a
    · subst hxa; exact (hap B e).2 rfl
    · refine hH.out (List.mem_filterMap.2 ⟨x, ?_, e⟩)
      simp only [List.mem_append, List.mem_cons]
      rcases hx with (h | h | h | h | h | h) | h
      · exact .inl (.inl h)
      · exact .inl (.inr (.inl h))
      · exact .inl (.inr (.inr (.inl h)))
      · exact .inl (.inr (.inr (.inr (.inl h))))
      · exact absurd h hxa
      · exact .inl (.inr (.inr (.inr (.inr (.inr h)))))
      · exact .inr h
theorem Hand.noUsed {F : Frm} {base B : Nat} {w : World} {S : Sto} (h : Hand F base B w S S) : Hand F base B w S { S with ua := none, uc := 0, used := [] } :=
  ⟨h.box, OwnSto.setUsed (a := none) (c := 0) (l := []) h.own (fun _ _ => rfl) (World.ownsRow_nil _ _ _ _) (fun j e => by cases e), fun hk => h.out (rows_noua _ hk), h.le, rfl, rfl, rfl⟩
theorem Hand.noWaste {F : Frm} {base B : Nat} {w : World} {S : Sto} (h : Hand F base B w S S) : Hand F base B w S { S with wa := none, wc := 0, waste := [] } :=
  ⟨h.box, OwnSto.setWaste (a := none) (c := 0) (l := []) h.own (fun _ _ => rfl) (World.ownsRow_nil _ _ _ _) (fun j e => by cases e), fun hk => h.out (rows_nowa _ hk), h.le, rfl, rfl, rfl⟩

set_option maxRecDepth 100000 in
set_option maxHeartbeats 8000000 in
theorem use_any (F : Frm) (S : Sto) (a : Chr) (base B : Nat) (w : World) (hH : Hand F base B w S S) (hE : storeE F S = 0) (hfit : S.fit) (hbw : base ≤ w.heap.size) :
    Calls Tryz.prog 67 #[.pointer (some ⟨B, 0, none⟩), .agg (chrC a)] w (ChoreSaid F base B (useD S a) w) := by
  obtain ⟨hs1, hs2, hs3, hs4, hs5⟩ := store_ok hE
  have hheap := fun h hm => heap_ok hE hfit (h := h) hm
  obtain ⟨hf1, hf2, hf3, hf4⟩ := hfit
  have hb1 : Below w.heap.size w (w.alloc (.cells (chrC a) 34)) := (Below.refl _ w).alloc (Nat.le_refl _) _
  have kA := Blk.new w 34 (chrC a)
  have hH1 := hH.below hb1
  have hBw := hH.box.lt
  have hrows := fun k hk => (hH.own.ge k hk).2
  have HROWS := Lib.hid hrows
  have hge := fun k hk => (hH.own.ge k hk).1
  have HGE := Lib.hid hge
  have hbB := hH.le
  clear hrows hge
  have hbb := Lib.hid (hb1.mono hbw)
  unfold chrC at hb1 kA hH1 ⊢
  go_enter Tryz.func67, Tryz.ntmps67
  go_upto_region 1 with fail
  generalize w.alloc (.cells #[.int .i64 a.kind, .int .i64 a.plot, .int .i64 a.loads, .string a.name, .string a.other, .int .i64 a.days, .int .i64 a.per, .int .i64 a.rlo, .int .i64 a.rhi] 34) = w1 at *
  have e3 : w1.cell? ⟨w.heap.size, 3, none⟩ = some (.string a.name) := kA.cell 3
  have lA := kA.lt
  have HH1 := Lib.hid hH1
  have HB1 := Lib.hid hb1
  have KA := Lib.hid kA
  have HHEAP := Lib.hid hheap
  clear hH hH1 hb1 kA hheap
  go_wp2_with fail
  refine (find_any F S a.name B _ HH1.out.box HH1.out.isHeps).mono ?_
  rintro e w2 ⟨hf, hb2⟩
  rcases hf with ⟨hix, rfl⟩ | ⟨hix, rfl⟩
  rotate_left
  · go_wp2_with fail
    exact ⟨rfl, ChoreSaid.err 7 (by simp [useD, hix]) (by decide) (hbb.out.trans (hb2.mono (Nat.le_trans hbw HB1.out.size)))⟩
  obtain ⟨i, h, hie, hil, hih, _⟩ := idxH_at hix
  have hat := hepAt_of hie hih
  rw [hie]
  have hH2 := HH1.out.below hb2
  have kA2 := KA.out.belowS hb2
  obtain ⟨hok, hpa, hlen, hlb, hper, hwet⟩ := HHEAP.out h (List.mem_of_getElem? hih)
  obtain ⟨gb, goff, hea, hgl, hcap, hcx, ⟨c0, c1, c2, c3, c4, c5, c6⟩, _, _⟩ := hH2.isHeps.at hih
  have d5 : w2.cell? ⟨B, 5, none⟩ = some (.slice S.ha S.heaps.length S.hc) := hH2.box.cell 5
  rw [hea] at d5
  have lB := hH2.box.lt
  have hi0 : (0 : Int) ≤ (i : Int) := Int.natCast_nonneg _
  have hi1 : (i : Int) < (S.heaps.length : Int) := by omega
  have hsz2 := Nat.le_trans HB1.out.size hb2.size
  have HBB2 := Lib.hid (hbb.out.trans (hb2.mono (Nat.le_trans hbw HB1.out.size)))
  have HIE := Lib.hid hie
  have HIH := Lib.hid hih
  have HAT := Lib.hid hat
  have HIX := Lib.hid hix
  have HEA := Lib.hid hea
  have HOK := Lib.hid hok
  have HPA := Lib.hid hpa
  have HH2 := Lib.hid hH2
  have KA2 := Lib.hid kA2
  clear hie hih hat hix hea hok hpa hH2 kA2 hb2 e3 lA
  have hb3 : Below w2.heap.size w2 (w2.alloc (.cells #[.string h.name, .int .i64 h.crop, .int .i64 h.stage, .slice h.pa h.parts.length h.pc, .int .i64 h.per, .int .i64 h.wlo, .int .i64 h.whi] 53)) := (Below.refl _ w2).alloc (Nat.le_refl _) _
  have kC := Blk.new w2 53 #[.string h.name, .int .i64 h.crop, .int .i64 h.stage, .slice h.pa h.parts.length h.pc, .int .i64 h.per, .int .i64 h.wlo, .int .i64 h.whi]
  go_upto_region 3 with fail
  generalize w2.alloc (.cells #[.string h.name, .int .i64 h.crop, .int .i64 h.stage, .slice h.pa h.parts.length h.pc, .int .i64 h.per, .int .i64 h.wlo, .int .i64 h.whi] 53) = w3 at *
  have hH3 := HH2.out.below hb3
  have kA3 := KA2.out.belowS hb3
  have HBB3 := Lib.hid (HBB2.out.trans (hb3.mono (Nat.le_trans hbw hsz2)))
  have hsz3 := Nat.le_trans hsz2 hb3.size
  clear c0 c1 c2 c3 c4 c5 c6 d5 lB hgl hb3
  have lC := kC.lt
  have lA := kA3.lt
  have lB := hH3.box.lt
  have HH3 := Lib.hid hH3
  have KA3 := Lib.hid kA3
  have KC := Lib.hid kC
  have g2 : w3.cell? ⟨w2.heap.size, 2, none⟩ = some (.int .i64 h.stage) := kC.cell 2
  have g3 : w3.cell? ⟨w2.heap.size, 3, none⟩ = some (.slice h.pa h.parts.length h.pc) := kC.cell 3
  have g4 : w3.cell? ⟨w2.heap.size, 4, none⟩ = some (.int .i64 h.per) := kC.cell 4
  clear hH3 kA3 kC
  by_cases h3 : h.stage = 3
  rotate_left
  · have q3 : (h.stage == 3) = false := by simp [h3]
    have hv : (useD S a).1 = 8 := by unfold useD; rw [HAT.out, if_neg (by have := HIX.out; omega), if_pos h3]
    have HV := Lib.hid hv
    clear hv h3
    go_wp2_with fail
    refine (require_no 8 _).mono ?_
    rintro e w4 ⟨rfl, rfl⟩
    go_wp2_with fail
    exact ⟨rfl, ChoreSaid.err 8 HV.out (by decide) HBB3.out⟩
  have q3 : (h.stage == 3) = true := by simp [h3]
  obtain ⟨hp1, hp2⟩ := hper h3
  have H3 := Lib.hid h3
  clear h3 hper
  go_wp2_with fail
  refine (require_yes 8 _).mono ?_
  rintro e w4 ⟨rfl, rfl⟩
  obtain ⟨hl0, hl1⟩ := hlb
  obtain ⟨htd, ⟨hq0, hq1⟩, _⟩ := bun_nums (k := a.loads) hl0 hl1 ⟨hp1, hp2⟩
  have hk2 : isFromB a.loads 1 (loadsM h.parts / h.per) = true → 1 ≤ a.loads ∧ 0 ≤ a.loads * h.per ∧ a.loads * h.per ≤ loadsM h.parts := fun h9 => by
    have h4 := isFromB_iff.1 h9
    have h5 : a.loads * h.per ≤ (loadsM h.parts / h.per) * h.per := Int.mul_le_mul_of_nonneg_right h4.2 (by omega)
    have h6 : (loadsM h.parts / h.per) * h.per ≤ loadsM h.parts := Int.ediv_mul_le _ (by omega)
    exact ⟨h4.1, Int.mul_nonneg (by omega) (by omega), by omega⟩
  have hlo : ∀ w', Below w4.heap.size w4 w' → Calls Tryz.prog 89 #[.slice h.pa h.parts.length h.pc] w' fun e w'' => e = .returned (.int .i64 (loadsM h.parts)) ∧ Below w'.heap.size w' w'' := fun w' hb => loadsOf_any F.ps.length h.pa h.pc h.parts w' (isPrts_own ((HH3.out.below hb).own.parts h (List.mem_of_getElem? HIH.out))) HOK.out hlen
  have HLO := Lib.hid hlo
  have HK2 := Lib.hid hk2
  have x2 : w4.cell? ⟨w.heap.size, 2, none⟩ = some (.int .i64 a.loads) := KA3.out.cell 2
  have hstep : ∀ w', Below w4.heap.size w4 w' → Below w4.heap.size w4 w' ∧ (w'.cell? ⟨w.heap.size, 2, none⟩ = some (.int .i64 a.loads) ∧ w'.cell? ⟨w2.heap.size, 3, none⟩ = some (.slice h.pa h.parts.length h.pc) ∧ w'.cell? ⟨w2.heap.size, 4, none⟩ = some (.int .i64 h.per)) :=
    fun w' hb => ⟨hb, (hb.cell (p := ⟨w.heap.size, 2, none⟩) lA).trans x2, (hb.cell (p := ⟨w2.heap.size, 3, none⟩) lC).trans g3, (hb.cell (p := ⟨w2.heap.size, 4, none⟩) lC).trans g4⟩
  have HSTEP := Lib.hid hstep
  have hp0 : ¬ h.per = 0 := by omega
  have hp0' : (h.per == 0) = false := by simp [hp0]
  clear hlo hk2 hstep x2 g2 g3 g4
  go_upto_region 4 with fail
  generalize hgq : loadsM h.parts / h.per = q at *
  have HGQ := Lib.hid hgq
  have HV := Lib.hid (rfl : loadsM h.parts = loadsM h.parts)
  generalize hgv : loadsM h.parts = v at *
  have HGV := Lib.hid hgv
  have hwq : IntKind.i64.wrap q = q := IntWalk.i64_in _ (by omega)
  clear hgq hgv
  have hx := HSTEP.out w4.drew ((Below.refl _ w4).drew)
  cases h9 : isFromB a.loads 1 q with
  | false =>
    have hv : (useD S a).1 = 1 := by unfold useD; rw [HAT.out, HGV.out, HGQ.out, if_neg (by have := HIX.out; omega), if_neg (by have := H3.out; omega), if_pos h9]
    have HV := Lib.hid hv
    have H9 := Lib.hid h9
    clear hv h9
    refine wp_region_E 10 (fun w' : World => Below w4.heap.size w4 w' ∧ (w'.cell? ⟨w.heap.size, 2, none⟩ = some (.int .i64 a.loads) ∧ w'.cell? ⟨w2.heap.size, 3, none⟩ = some (.slice h.pa h.parts.length h.pc) ∧ w'.cell? ⟨w2.heap.size, 4, none⟩ = some (.int .i64 h.per))) (by kernel_rfl) ?_
    refine tR 0 rfl hx (v := ?v1) (.inl ⟨by rfl, ?y1⟩) ?r1
    case y1 => intro w' h; (try dsimp only at h); go_simp; try with_reducible rfl
    refine tR 1 rfl hx (v := ?v2) (.inl ⟨by rfl, ?y2⟩) ?r2
    case y2 => intro w' h; (try dsimp only at h); go_simp; try with_reducible rfl
    refine tR 2 rfl hx (v := ?v3) (.inl ⟨by rfl, ?y3⟩) ?r3
    case y3 => intro w' h; (try dsimp only at h); go_simp; try with_reducible rfl
    try simp only [Act.put, List.getElem_toArray, List.getElem_cons_zero, List.getElem_cons_succ, List.setIfInBounds_toArray, List.set_cons_zero, List.set_cons_succ]
    refine tR 3 rfl hx (v := ?v4) (.inl ⟨by rfl, ?y4⟩) ?r4
    case y4 => intro w' h; (try dsimp only at h); go_simp; try with_reducible rfl
    refine tR 5 rfl hx (v := ?v5) (.inl ⟨by rfl, ?y5⟩) ?r5
    case y5 => intro w' h; (try dsimp only at h); go_simp; try with_reducible rfl
    refine tR 6 rfl hx (v := ?v6) (.inl ⟨by rfl, ?y6⟩) ?r6
    case y6 => intro w' h; (try dsimp only at h); go_simp; try with_reducible rfl
    try simp only [Act.put, List.getElem_toArray, List.getElem_cons_zero, List.getElem_cons_succ, List.setIfInBounds_toArray, List.set_cons_zero, List.set_cons_succ]
    refine E_step (i := 4) (o := _) (by kernel_rfl) rfl (fun K hK => ?_)
    go_simp
    refine (HLO.out _ hx.1).mono ?_
    rintro r w5 ⟨rfl, hb5⟩
    dsimp only
    have hx5 := HSTEP.out w5 (hx.1.trans (hb5.mono hx.1.size))
    refine hK.out _ _ (fun _ => hx5) ?_
    clear hK K
    try simp only [Act.put, List.getElem_toArray, List.getElem_cons_zero, List.getElem_cons_succ, List.setIfInBounds_toArray, List.set_cons_zero, List.set_cons_succ]
    refine tR 7 rfl hx5 (v := ?v7) (.inl ⟨by rfl, ?y7⟩) ?r7
    case y7 => intro w' h; (try dsimp only at h); go_simp; try with_reducible rfl
    try simp only [Act.put, List.getElem_toArray, List.getElem_cons_zero, List.getElem_cons_succ, List.setIfInBounds_toArray, List.set_cons_zero, List.set_cons_succ]
    refine E_step (i := 8) (o := _) (by kernel_rfl) rfl (fun K hK => ?_)
    go_simp
    refine (isFrom_is H9.out _).mono ?_
    rintro r w6 ⟨rfl, rfl⟩
    dsimp only
    refine hK.out _ _ (fun _ => hx5) ?_
    clear hK K
    try simp only [Act.put, List.getElem_toArray, List.getElem_cons_zero, List.getElem_cons_succ, List.setIfInBounds_toArray, List.set_cons_zero, List.set_cons_succ]
    refine E_step (i := 9) (o := _) (by kernel_rfl) rfl (fun K hK => ?_)
    go_simp
    refine (require_no 1 _).mono ?_
    rintro r w7 ⟨rfl, rfl⟩
    dsimp only
    exact ⟨rfl, ChoreSaid.err 1 HV.out (by decide) (HBB3.out.trans (hx5.1.mono (Nat.le_trans hbw hsz3)))⟩
  | true =>
    obtain ⟨hk1, hk3, hk4⟩ := HK2.out h9
    have hv : useD S a = (0, { S with used := putL S.used (cutT (a.loads * h.per) h.parts), heaps := moveH S.heaps i (a.loads * h.per) }) := by
      unfold useD; rw [HAT.out, HGV.out, HGQ.out, if_neg (by have := HIX.out; omega), if_neg (by have := H3.out; omega), if_neg (by rw [h9]; simp), HIE.out]; rfl
    have HV := Lib.hid hv
    have H9 := Lib.hid h9
    clear hv h9
    refine wp_region_E 10 (fun w' : World => Below w4.heap.size w4 w' ∧ (w'.cell? ⟨w.heap.size, 2, none⟩ = some (.int .i64 a.loads) ∧ w'.cell? ⟨w2.heap.size, 3, none⟩ = some (.slice h.pa h.parts.length h.pc) ∧ w'.cell? ⟨w2.heap.size, 4, none⟩ = some (.int .i64 h.per))) (by kernel_rfl) ?_
    refine tR 0 rfl hx (v := ?v8) (.inl ⟨by rfl, ?y8⟩) ?r8
    case y8 => intro w' h; (try dsimp only at h); go_simp; try with_reducible rfl
    refine tR 1 rfl hx (v := ?v9) (.inl ⟨by rfl, ?y9⟩) ?r9
    case y9 => intro w' h; (try dsimp only at h); go_simp; try with_reducible rfl
    refine tR 2 rfl hx (v := ?v10) (.inl ⟨by rfl, ?y10⟩) ?r10
    case y10 => intro w' h; (try dsimp only at h); go_simp; try with_reducible rfl
    try simp only [Act.put, List.getElem_toArray, List.getElem_cons_zero, List.getElem_cons_succ, List.setIfInBounds_toArray, List.set_cons_zero, List.set_cons_succ]
    refine tR 3 rfl hx (v := ?v11) (.inl ⟨by rfl, ?y11⟩) ?r11
    case y11 => intro w' h; (try dsimp only at h); go_simp; try with_reducible rfl
    refine tR 5 rfl hx (v := ?v12) (.inl ⟨by rfl, ?y12⟩) ?r12
    case y12 => intro w' h; (try dsimp only at h); go_simp; try with_reducible rfl
    refine tR 6 rfl hx (v := ?v13) (.inl ⟨by rfl, ?y13⟩) ?r13
    case y13 => intro w' h; (try dsimp only at h); go_simp; try with_reducible rfl
    try simp only [Act.put, List.getElem_toArray, List.getElem_cons_zero, List.getElem_cons_succ, List.setIfInBounds_toArray, List.set_cons_zero, List.set_cons_succ]
    refine E_step (i := 4) (o := _) (by kernel_rfl) rfl (fun K hK => ?_)
    go_simp
    refine (HLO.out _ hx.1).mono ?_
    rintro r w5 ⟨rfl, hb5⟩
    dsimp only
    have hx5 := HSTEP.out w5 (hx.1.trans (hb5.mono hx.1.size))
    refine hK.out _ _ (fun _ => hx5) ?_
    clear hK K
    try simp only [Act.put, List.getElem_toArray, List.getElem_cons_zero, List.getElem_cons_succ, List.setIfInBounds_toArray, List.set_cons_zero, List.set_cons_succ]
    refine tR 7 rfl hx5 (v := ?v14) (.inl ⟨by rfl, ?y14⟩) ?r14
    case y14 => intro w' h; (try dsimp only at h); go_simp; try with_reducible rfl
    try simp only [Act.put, List.getElem_toArray, List.getElem_cons_zero, List.getElem_cons_succ, List.setIfInBounds_toArray, List.set_cons_zero, List.set_cons_succ]
    refine E_step (i := 8) (o := _) (by kernel_rfl) rfl (fun K hK => ?_)
    go_simp
    refine (isFrom_is H9.out _).mono ?_
    rintro r w6 ⟨rfl, rfl⟩
    dsimp only
    refine hK.out _ _ (fun _ => hx5) ?_
    clear hK K
    try simp only [Act.put, List.getElem_toArray, List.getElem_cons_zero, List.getElem_cons_succ, List.setIfInBounds_toArray, List.set_cons_zero, List.set_cons_succ]
    refine E_step (i := 9) (o := _) (by kernel_rfl) rfl (fun K hK => ?_)
    go_simp
    refine (require_yes 1 _).mono ?_
    rintro r w7 ⟨rfl, rfl⟩
    dsimp only
    refine hK.out _ _ (fun _ => hx5) ?_
    clear hK K
    try simp only [Act.put, List.getElem_toArray, List.getElem_cons_zero, List.getElem_cons_succ, List.setIfInBounds_toArray, List.set_cons_zero, List.set_cons_succ]
    refine E_done (by kernel_rfl) ?_ _
    have HB7 := Lib.hid hx5.1
    clear hx hx5 hb5
    have hH7 := HH3.out.below HB7.out
    have kA7 := KA3.out.belowS HB7.out
    have kC7 := KC.out.belowS HB7.out
    have hsz7 := Nat.le_trans hsz3 HB7.out.size
    have HBB7 := Lib.hid (HBB3.out.trans (HB7.out.mono (Nat.le_trans hbw hsz3)))
    obtain ⟨W, rfl⟩ : ∃ W : World, W = w7 := ⟨_, rfl⟩
    have lB7 := hH7.box.lt
    have lA7 := kA7.lt
    have lC7 := kC7.lt
    have y2 : W.cell? ⟨w.heap.size, 2, none⟩ = some (.int .i64 a.loads) := kA7.cell 2
    have y4 : W.cell? ⟨w2.heap.size, 4, none⟩ = some (.int .i64 h.per) := kC7.cell 4
    have y6 : W.cell? ⟨B, 6, none⟩ = some (.slice S.ua S.used.length S.uc) := hH7.box.cell 6
    have hwm : IntKind.i64.wrap (a.loads * h.per) = a.loads * h.per := IntWalk.i64_in _ (by omega)
    have hnA : ¬ TurnM S B S.ua w.heap.size := fun e => by
      rcases e with e | e | e
      · omega
      · have := HROWS.out _ (rows_ha e); omega
      · have := HROWS.out _ (rows_ua e); omega
    have hnC : ¬ TurnM S B S.ua w2.heap.size := fun e => by
      rcases e with e | e | e
      · omega
      · have := HROWS.out _ (rows_ha e); omega
      · have := HROWS.out _ (rows_ua e); omega
    have hstep7 : ∀ w', Turn (TurnM S B S.ua) W w' → w'.cell? ⟨B, 6, none⟩ = some (.slice S.ua S.used.length S.uc) → Turn (TurnM S B S.ua) W w' ∧ (w'.cell? ⟨w.heap.size, 2, none⟩ = some (.int .i64 a.loads) ∧ w'.cell? ⟨w2.heap.size, 4, none⟩ = some (.int .i64 h.per) ∧ w'.cell? ⟨B, 6, none⟩ = some (.slice S.ua S.used.length S.uc)) :=
      fun w' ht h6 => ⟨ht, (World.cell?_of_block (a := ⟨w.heap.size, 2, none⟩) (ht.block _ lA7 hnA)).trans y2, (World.cell?_of_block (a := ⟨w2.heap.size, 4, none⟩) (ht.block _ lC7 hnC)).trans y4, h6⟩
    have HST7 := Lib.hid hstep7
    have hx := HST7.out W.drew (Turn.of_below ((Below.refl _ W).drew)) y6
    have hmv := move_any F S { S with ua := none, uc := 0, used := [] } base B i (a.loads * h.per) h S.ua S.uc S.used 100000 W.drew ((hH7.below ((Below.refl _ W).drew)).noUsed) HIH.out (Nat.le_trans hbw hsz7)
      (own_below hH7.own.used ((Below.refl _ W).drew)) (fun k hk => ⟨out_ua hH7.own.apart k hk, fun e => hH7.out (by rw [← e]; exact rows_ua hk)⟩) (list_ok hs3) (by omega) (by omega) (by omega) F.ps.length HOK.out HPA.out hlen hk3 (by rw [HGV.out]; exact hk4) (by rw [HGV.out]; exact hl1)
    have HMV := Lib.hid hmv
    clear hH7 kA7 kC7 hstep7 y2 y4 y6 hmv hnA hnC
    go_upto_region 5 with fail
    refine wp_region_E 17 (fun w' : World => Turn (TurnM S B S.ua) W w' ∧ (w'.cell? ⟨w.heap.size, 2, none⟩ = some (.int .i64 a.loads) ∧ w'.cell? ⟨w2.heap.size, 4, none⟩ = some (.int .i64 h.per) ∧ w'.cell? ⟨B, 6, none⟩ = some (.slice S.ua S.used.length S.uc))) (by kernel_rfl) ?_
    refine tk 0 rfl hx (v := ?v15) (.inl ⟨by rfl, ?y15⟩) ?r15
    case y15 => intro w' h; (try dsimp only at h); go_simp; try with_reducible rfl
    refine tk 1 rfl hx (v := ?v16) (.inl ⟨by rfl, ?y16⟩) ?r16
    case y16 => intro w' h; (try dsimp only at h); go_simp; try with_reducible rfl
    refine tk 2 rfl hx (v := ?v17) (.inl ⟨by rfl, ?y17⟩) ?r17
    case y17 => intro w' h; (try dsimp only at h); go_simp; try with_reducible rfl
    try simp only [Act.put, List.getElem_toArray, List.getElem_cons_zero, List.getElem_cons_succ, List.setIfInBounds_toArray, List.set_cons_zero, List.set_cons_succ]
    refine tk 3 rfl hx (v := ?v18) (.inl ⟨by rfl, ?y18⟩) ?r18
    case y18 => intro w' h; (try dsimp only at h); go_simp; try with_reducible rfl
    refine tk 4 rfl hx (v := ?v19) (.inl ⟨by rfl, ?y19⟩) ?r19
    case y19 => intro w' h; (try dsimp only at h); go_simp; try with_reducible rfl
    refine tk 5 rfl hx (v := ?v20) (.inl ⟨by rfl, ?y20⟩) ?r20
    case y20 => intro w' h; (try dsimp only at h); go_simp; try with_reducible rfl
    try simp only [Act.put, List.getElem_toArray, List.getElem_cons_zero, List.getElem_cons_succ, List.setIfInBounds_toArray, List.set_cons_zero, List.set_cons_succ]
    refine tk 6 rfl hx (v := ?v21) (.inl ⟨by rfl, ?y21⟩) ?r21
    case y21 => intro w' h; (try dsimp only at h); go_simp; try with_reducible rfl
    refine tk 7 rfl hx (v := ?v22) (.inl ⟨by rfl, ?y22⟩) ?r22
    case y22 => intro w' h; (try dsimp only at h); go_simp; try with_reducible rfl
    refine tk 8 rfl hx (v := ?v23) (.inl ⟨by rfl, ?y23⟩) ?r23
    case y23 => intro w' h; (try dsimp only at h); go_simp; try with_reducible rfl
    try simp only [Act.put, List.getElem_toArray, List.getElem_cons_zero, List.getElem_cons_succ, List.setIfInBounds_toArray, List.set_cons_zero, List.set_cons_succ]
    refine tk 9 rfl hx (v := ?v24) (.inl ⟨by rfl, ?y24⟩) ?r24
    case y24 => intro w' h; (try dsimp only at h); go_simp; try with_reducible rfl
    refine tk 10 rfl hx (v := ?v25) (.inl ⟨by rfl, ?y25⟩) ?r25
    case y25 => intro w' h; (try dsimp only at h); go_simp; try with_reducible rfl
    refine tk 11 rfl hx (v := ?v26) (.inl ⟨by rfl, ?y26⟩) ?r26
    case y26 => intro w' h; (try dsimp only at h); go_simp; try with_reducible rfl
    try simp only [Act.put, List.getElem_toArray, List.getElem_cons_zero, List.getElem_cons_succ, List.setIfInBounds_toArray, List.set_cons_zero, List.set_cons_succ]
    refine tk 12 rfl hx (v := ?v27) (.inl ⟨by rfl, ?y27⟩) ?r27
    case y27 => intro w' h; (try dsimp only at h); go_simp; try with_reducible rfl
    try simp only [Act.put, List.getElem_toArray, List.getElem_cons_zero, List.getElem_cons_succ, List.setIfInBounds_toArray, List.set_cons_zero, List.set_cons_succ]
    refine E_step (i := 13) (o := _) (by kernel_rfl) rfl (fun K hK => ?_)
    go_simp
    refine (HMV.out).mono ?_
    rintro r w8 ⟨⟨a2, c2, rfl, hrow2, H, hsame, hH8, hap8⟩, hT8⟩
    dsimp only
    have hx8 := HST7.out w8 ((Turn.of_below ((Below.refl _ W).drew)).trans hT8) (hH8.box.cell 6)
    refine hK.out _ _ (fun _ => hx8) ?_
    clear hK K
    try simp only [Act.put, List.getElem_toArray, List.getElem_cons_zero, List.getElem_cons_succ, List.setIfInBounds_toArray, List.set_cons_zero, List.set_cons_succ]
    refine E_step (i := 14) (o := _) (by kernel_rfl) rfl (fun K hK => ?_)
    go_simp
    refine hK.out _ _ (fun _ => hx8) ?_
    clear hK K
    try simp only [Act.put, List.getElem_toArray, List.getElem_cons_zero, List.getElem_cons_succ, List.setIfInBounds_toArray, List.set_cons_zero, List.set_cons_succ]
    refine E_step (i := 15) (o := _) (by kernel_rfl) rfl (fun K hK => ?_)
    go_simp
    refine hK.out _ _ (fun _ => hx8) ?_
    clear hK K
    try simp only [Act.put, List.getElem_toArray, List.getElem_cons_zero, List.getElem_cons_succ, List.setIfInBounds_toArray, List.set_cons_zero, List.set_cons_succ]
    refine E_step (i := 16) (o := _) (by kernel_rfl) rfl (fun K hK => ?_)
    go_simp
    refine hK.out _ _ (fun _ => hx8) ?_
    clear hK K
    try simp only [Act.put, List.getElem_toArray, List.getElem_cons_zero, List.getElem_cons_succ, List.setIfInBounds_toArray, List.set_cons_zero, List.set_cons_succ]
    have lB8 := hH8.box.lt
    have z68 := hH8.box.frozen 6
    have y68 := hx8.2.2.2
    have HH8 := Lib.hid hH8
    have HR2 := Lib.hid hrow2
    have HA8 := Lib.hid hap8
    have HT8 := Lib.hid hT8
    clear hx hx8 hH8 hrow2 hap8 hT8
    refine E_step (i := 17) (o := _) (by kernel_rfl) rfl (fun K hK => ?_)
    go_simp
    refine hK.out _ _ (fun h => absurd rfl h) ?_
    clear hK K
    try simp only [Act.put]
    refine E_done (by kernel_rfl) ?_ _
    go_end0
    refine ⟨.inl ⟨by rw [HV.out], rfl, _, ?_, Hand.putUsed (S := { S with heaps := H }) HH8.out HR2.out HA8.out⟩, ?_⟩
    · rw [HV.out]
      have hs : sameH H (moveH S.heaps i (a.loads * h.per)) := hsame
      exact ⟨rfl, rfl, rfl, rfl, rfl, hs.1, hs.2⟩
    · refine HBB7.out.trans (((Below.refl _ W).drew.mono (Nat.le_trans hbw hsz7)).trans ((HT8.out.below (by show base ≤ W.drew.heap.size; exact Nat.le_trans hbw hsz7) ?_).setCell (p := ⟨B, 6, none⟩) hbB _))
      intro k e
      rcases e with rfl | e | e
      · exact hbB
      · exact HGE.out k (rows_ha e)
      · exact HGE.out k (rows_ua e)

set_option maxRecDepth 100000 in
set_option maxHeartbeats 8000000 in
theorem rot_any (F : Frm) (S : Sto) (a : Chr) (base B : Nat) (w : World) (hH : Hand F base B w S S) (hE : storeE F S = 0) (hfit : S.fit) (hbw : base ≤ w.heap.size) :
    Calls Tryz.prog 68 #[.pointer (some ⟨B, 0, none⟩), .agg (chrC a)] w (ChoreSaid F base B (rotD F S a) w) := by
  obtain ⟨hs1, hs2, hs3, hs4, hs5⟩ := store_ok hE
  have hheap := fun h hm => heap_ok hE hfit (h := h) hm
  obtain ⟨hf1, hf2, hf3, hf4⟩ := hfit
  have hb1 : Below w.heap.size w (w.alloc (.cells (chrC a) 34)) := (Below.refl _ w).alloc (Nat.le_refl _) _
  have kA := Blk.new w 34 (chrC a)
  have hH1 := hH.below hb1
  have hBw := hH.box.lt
  have hrows := fun k hk => (hH.own.ge k hk).2
  have HROWS := Lib.hid hrows
  have hge := fun k hk => (hH.own.ge k hk).1
  have HGE := Lib.hid hge
  have hbB := hH.le
  clear hrows hge
  have hbb := Lib.hid (hb1.mono hbw)
  unfold chrC at hb1 kA hH1 ⊢
  go_enter Tryz.func68, Tryz.ntmps68
  go_upto_region 1 with fail
  generalize w.alloc (.cells #[.int .i64 a.kind, .int .i64 a.plot, .int .i64 a.loads, .string a.name, .string a.other, .int .i64 a.days, .int .i64 a.per, .int .i64 a.rlo, .int .i64 a.rhi] 34) = w1 at *
  have e3 : w1.cell? ⟨w.heap.size, 3, none⟩ = some (.string a.name) := kA.cell 3
  have lA := kA.lt
  have HH1 := Lib.hid hH1
  have HB1 := Lib.hid hb1
  have KA := Lib.hid kA
  have HHEAP := Lib.hid hheap
  clear hH hH1 hb1 kA hheap
  go_wp2_with fail
  refine (find_any F S a.name B _ HH1.out.box HH1.out.isHeps).mono ?_
  rintro e w2 ⟨hf, hb2⟩
  rcases hf with ⟨hix, rfl⟩ | ⟨hix, rfl⟩
  rotate_left
  · go_wp2_with fail
    exact ⟨rfl, ChoreSaid.err 7 (by simp [rotD, hix]) (by decide) (hbb.out.trans (hb2.mono (Nat.le_trans hbw HB1.out.size)))⟩
  obtain ⟨i, h, hie, hil, hih, _⟩ := idxH_at hix
  have hat := hepAt_of hie hih
  rw [hie]
  have hH2 := HH1.out.below hb2
  have kA2 := KA.out.belowS hb2
  obtain ⟨hok, hpa, hlen, hlb, hper, hwet⟩ := HHEAP.out h (List.mem_of_getElem? hih)
  obtain ⟨gb, goff, hea, hgl, hcap, hcx, ⟨c0, c1, c2, c3, c4, c5, c6⟩, _, _⟩ := hH2.isHeps.at hih
  have d5 : w2.cell? ⟨B, 5, none⟩ = some (.slice S.ha S.heaps.length S.hc) := hH2.box.cell 5
  rw [hea] at d5
  have lB := hH2.box.lt
  have hi0 : (0 : Int) ≤ (i : Int) := Int.natCast_nonneg _
  have hi1 : (i : Int) < (S.heaps.length : Int) := by omega
  have hsz2 := Nat.le_trans HB1.out.size hb2.size
  have HBB2 := Lib.hid (hbb.out.trans (hb2.mono (Nat.le_trans hbw HB1.out.size)))
  have HIE := Lib.hid hie
  have HIH := Lib.hid hih
  have HAT := Lib.hid hat
  have HIX := Lib.hid hix
  have HEA := Lib.hid hea
  have HOK := Lib.hid hok
  have HPA := Lib.hid hpa
  have HH2 := Lib.hid hH2
  have KA2 := Lib.hid kA2
  clear hie hih hat hix hea hok hpa hH2 kA2 hb2 e3 lA
  have hb3 : Below w2.heap.size w2 (w2.alloc (.cells #[.string h.name, .int .i64 h.crop, .int .i64 h.stage, .slice h.pa h.parts.length h.pc, .int .i64 h.per, .int .i64 h.wlo, .int .i64 h.whi] 53)) := (Below.refl _ w2).alloc (Nat.le_refl _) _
  have kC := Blk.new w2 53 #[.string h.name, .int .i64 h.crop, .int .i64 h.stage, .slice h.pa h.parts.length h.pc, .int .i64 h.per, .int .i64 h.wlo, .int .i64 h.whi]
  go_upto_region 3 with fail
  generalize w2.alloc (.cells #[.string h.name, .int .i64 h.crop, .int .i64 h.stage, .slice h.pa h.parts.length h.pc, .int .i64 h.per, .int .i64 h.wlo, .int .i64 h.whi] 53) = w3 at *
  have hH3 := HH2.out.below hb3
  have kA3 := KA2.out.belowS hb3
  have HBB3 := Lib.hid (HBB2.out.trans (hb3.mono (Nat.le_trans hbw hsz2)))
  have hsz3 := Nat.le_trans hsz2 hb3.size
  clear c0 c1 c2 c3 c4 c5 c6 d5 lB hgl hb3
  have lC := kC.lt
  have lA := kA3.lt
  have lB := hH3.box.lt
  have HH3 := Lib.hid hH3
  have KA3 := Lib.hid kA3
  have KC := Lib.hid kC
  have g2 : w3.cell? ⟨w2.heap.size, 2, none⟩ = some (.int .i64 h.stage) := kC.cell 2
  have g3 : w3.cell? ⟨w2.heap.size, 3, none⟩ = some (.slice h.pa h.parts.length h.pc) := kC.cell 3
  have g4 : w3.cell? ⟨w2.heap.size, 4, none⟩ = some (.int .i64 h.per) := kC.cell 4
  clear hH3 kA3 kC
  have g0 : w3.cell? ⟨w2.heap.size, 0, none⟩ = some (.string h.name) := KC.out.cell 0
  have g1 : w3.cell? ⟨w2.heap.size, 1, none⟩ = some (.int .i64 h.crop) := KC.out.cell 1
  have g5 : w3.cell? ⟨w2.heap.size, 5, none⟩ = some (.int .i64 h.wlo) := KC.out.cell 5
  have g6 : w3.cell? ⟨w2.heap.size, 6, none⟩ = some (.int .i64 h.whi) := KC.out.cell 6
  go_wp2_with fail
  refine (isDry_any F S h B _ HH3.out.box).mono ?_
  rintro e w4 ⟨rfl, hb4⟩
  have hH4 := HH3.out.below hb4
  have kA4 := KA3.out.belowS hb4
  have kC4 := KC.out.belowS hb4
  have HBB4 := Lib.hid (HBB3.out.trans (hb4.mono (Nat.le_trans hbw hsz3)))
  have hsz4 := Nat.le_trans hsz3 hb4.size
  have HH4 := Lib.hid hH4
  have KC4 := Lib.hid kC4
  clear g0 g1 g2 g3 g4 g5 g6 lA lB lC hH4 kA4 kC4 hb4
  by_cases h3 : h.whi ≤ F.dry
  · have q3 : decide (h.whi ≤ F.dry) = true := by simp [h3]
    have hv : (rotD F S a).1 = 8 := by unfold rotD; rw [HAT.out, if_neg (by have := HIX.out; omega), if_pos h3]
    have HV := Lib.hid hv
    clear hv h3
    rw [q3]
    go_wp2_with fail
    refine (require_no 8 _).mono ?_
    rintro e w5 ⟨rfl, rfl⟩
    go_wp2_with fail
    exact ⟨rfl, ChoreSaid.err 8 HV.out (by decide) HBB4.out⟩
  · have q3 : decide (h.whi ≤ F.dry) = false := by simp [h3]
    have hv : rotD F S a = (0, { S with waste := putL S.waste (cutT (loadsM h.parts) h.parts), heaps := moveH S.heaps i (loadsM h.parts) }) := by
      unfold rotD; rw [HAT.out, if_neg (by have := HIX.out; omega), if_neg h3, HIE.out]; rfl
    have HV := Lib.hid hv
    clear hv h3
    rw [q3]
    go_wp2_with fail
    refine (require_yes 8 _).mono ?_
    rintro e w5 ⟨rfl, rfl⟩
    obtain ⟨W, rfl⟩ : ∃ W : World, W = w5 := ⟨_, rfl⟩
    obtain ⟨hl0, hl1⟩ := hlb
    have lB7 := HH4.out.box.lt
    have lC7 := KC4.out.lt
    have y3 : W.cell? ⟨w2.heap.size, 3, none⟩ = some (.slice h.pa h.parts.length h.pc) := KC4.out.cell 3
    have y7 : W.cell? ⟨B, 7, none⟩ = some (.slice S.wa S.waste.length S.wc) := HH4.out.box.cell 7
    have hnC : ¬ TurnM S B S.wa w2.heap.size := fun e => by
      rcases e with e | e | e
      · omega
      · have := HROWS.out _ (rows_ha e); omega
      · have := HROWS.out _ (rows_wa e); omega
    have hstep7 : ∀ w', Turn (TurnM S B S.wa) W w' → w'.cell? ⟨B, 7, none⟩ = some (.slice S.wa S.waste.length S.wc) → Turn (TurnM S B S.wa) W w' ∧ (w'.cell? ⟨w2.heap.size, 3, none⟩ = some (.slice h.pa h.parts.length h.pc) ∧ w'.cell? ⟨B, 7, none⟩ = some (.slice S.wa S.waste.length S.wc)) :=
      fun w' ht h6 => ⟨ht, (World.cell?_of_block (a := ⟨w2.heap.size, 3, none⟩) (ht.block _ lC7 hnC)).trans y3, h6⟩
    have HST7 := Lib.hid hstep7
    have hx := HST7.out W.drew (Turn.of_below ((Below.refl _ W).drew)) y7
    have hlo : ∀ w', Below W.heap.size W w' → Calls Tryz.prog 89 #[.slice h.pa h.parts.length h.pc] w' fun e w'' => e = .returned (.int .i64 (loadsM h.parts)) ∧ Below w'.heap.size w' w'' := fun w' hb => loadsOf_any F.ps.length h.pa h.pc h.parts w' (isPrts_own ((HH4.out.below hb).own.parts h (List.mem_of_getElem? HIH.out))) HOK.out hlen
    have HLO := Lib.hid hlo
    have hmv := fun (w' : World) (hb : Below W.heap.size W w') => move_any F S { S with wa := none, wc := 0, waste := [] } base B i (loadsM h.parts) h S.wa S.wc S.waste 100000 w' ((HH4.out.below hb).noWaste) HIH.out (Nat.le_trans hbw (Nat.le_trans hsz4 hb.size))
      (own_below HH4.out.own.waste hb) (fun k hk => ⟨out_wa HH4.out.own.apart k hk, fun e => HH4.out.out (by rw [← e]; exact rows_wa hk)⟩) (list_ok hs4) (by omega) (by omega) (by omega) F.ps.length HOK.out HPA.out hlen hl0 (Int.le_refl _) hl1
    have HMV := Lib.hid hmv
    clear hstep7 y3 y7 hmv hlo hnC
    go_upto_region 4 with fail
    refine wp_region_E 15 (fun w' : World => Turn (TurnM S B S.wa) W w' ∧ (w'.cell? ⟨w2.heap.size, 3, none⟩ = some (.slice h.pa h.parts.length h.pc) ∧ w'.cell? ⟨B, 7, none⟩ = some (.slice S.wa S.waste.length S.wc))) (by kernel_rfl) ?_
    refine tk 0 rfl hx (v := ?v28) (.inl ⟨by rfl, ?y28⟩) ?r28
    case y28 => intro w' h; (try dsimp only at h); go_simp; try with_reducible rfl
    refine tk 1 rfl hx (v := ?v29) (.inl ⟨by rfl, ?y29⟩) ?r29
    case y29 => intro w' h; (try dsimp only at h); go_simp; try with_reducible rfl
    refine tk 2 rfl hx (v := ?v30) (.inl ⟨by rfl, ?y30⟩) ?r30
    case y30 => intro w' h; (try dsimp only at h); go_simp; try with_reducible rfl
    try simp only [Act.put, List.getElem_toArray, List.getElem_cons_zero, List.getElem_cons_succ, List.setIfInBounds_toArray, List.set_cons_zero, List.set_cons_succ]
    refine tk 3 rfl hx (v := ?v31) (.inl ⟨by rfl, ?y31⟩) ?r31
    case y31 => intro w' h; (try dsimp only at h); go_simp; try with_reducible rfl
    refine tk 4 rfl hx (v := ?v32) (.inl ⟨by rfl, ?y32⟩) ?r32
    case y32 => intro w' h; (try dsimp only at h); go_simp; try with_reducible rfl
    refine tk 6 rfl hx (v := ?v33) (.inl ⟨by rfl, ?y33⟩) ?r33
    case y33 => intro w' h; (try dsimp only at h); go_simp; try with_reducible rfl
    try simp only [Act.put, List.getElem_toArray, List.getElem_cons_zero, List.getElem_cons_succ, List.setIfInBounds_toArray, List.set_cons_zero, List.set_cons_succ]
    refine tk 7 rfl hx (v := ?v34) (.inl ⟨by rfl, ?y34⟩) ?r34
    case y34 => intro w' h; (try dsimp only at h); go_simp; try with_reducible rfl
    refine tk 8 rfl hx (v := ?v35) (.inl ⟨by rfl, ?y35⟩) ?r35
    case y35 => intro w' h; (try dsimp only at h); go_simp; try with_reducible rfl
    refine tk 9 rfl hx (v := ?v36) (.inl ⟨by rfl, ?y36⟩) ?r36
    case y36 => intro w' h; (try dsimp only at h); go_simp; try with_reducible rfl
    try simp only [Act.put, List.getElem_toArray, List.getElem_cons_zero, List.getElem_cons_succ, List.setIfInBounds_toArray, List.set_cons_zero, List.set_cons_succ]
    refine tk 10 rfl hx (v := ?v37) (.inl ⟨by rfl, ?y37⟩) ?r37
    case y37 => intro w' h; (try dsimp only at h); go_simp; try with_reducible rfl
    try simp only [Act.put, List.getElem_toArray, List.getElem_cons_zero, List.getElem_cons_succ, List.setIfInBounds_toArray, List.set_cons_zero, List.set_cons_succ]
    refine E_step (i := 5) (o := _) (by kernel_rfl) rfl (fun K hK => ?_)
    go_simp
    refine (HLO.out _ ((Below.refl _ W).drew)).mono ?_
    rintro r w7 ⟨rfl, hb7⟩
    dsimp only
    have hb8 : Below W.heap.size W w7 := (Below.refl _ W).drew.trans hb7
    have hx7 := HST7.out w7 (Turn.of_below hb8) ((hb8.cell (p := ⟨B, 7, none⟩) lB7).trans hx.2.2)
    refine hK.out _ _ (fun _ => hx7) ?_
    clear hK K
    try simp only [Act.put, List.getElem_toArray, List.getElem_cons_zero, List.getElem_cons_succ, List.setIfInBounds_toArray, List.set_cons_zero, List.set_cons_succ]
    refine E_step (i := 11) (o := _) (by kernel_rfl) rfl (fun K hK => ?_)
    go_simp
    refine (HMV.out _ hb8).mono ?_
    rintro r w8 ⟨⟨a2, c2, rfl, hrow2, H, hsame, hH8, hap8⟩, hT8⟩
    dsimp only
    have hx8 := HST7.out w8 ((Turn.of_below hb8).trans hT8) (hH8.box.cell 7)
    refine hK.out _ _ (fun _ => hx8) ?_
    clear hK K
    try simp only [Act.put, List.getElem_toArray, List.getElem_cons_zero, List.getElem_cons_succ, List.setIfInBounds_toArray, List.set_cons_zero, List.set_cons_succ]
    refine E_step (i := 12) (o := _) (by kernel_rfl) rfl (fun K hK => ?_)
    go_simp
    refine hK.out _ _ (fun _ => hx8) ?_
    clear hK K
    try simp only [Act.put, List.getElem_toArray, List.getElem_cons_zero, List.getElem_cons_succ, List.setIfInBounds_toArray, List.set_cons_zero, List.set_cons_succ]
    refine E_step (i := 13) (o := _) (by kernel_rfl) rfl (fun K hK => ?_)
    go_simp
    refine hK.out _ _ (fun _ => hx8) ?_
    clear hK K
    try simp only [Act.put, List.getElem_toArray, List.getElem_cons_zero, List.getElem_cons_succ, List.setIfInBounds_toArray, List.set_cons_zero, List.set_cons_succ]
    refine E_step (i := 14) (o := _) (by kernel_rfl) rfl (fun K hK => ?_)
    go_simp
    refine hK.out _ _ (fun _ => hx8) ?_
    clear hK K
    try simp only [Act.put, List.getElem_toArray, List.getElem_cons_zero, List.getElem_cons_succ, List.setIfInBounds_toArray, List.set_cons_zero, List.set_cons_succ]
    have lB8 := hH8.box.lt
    have z78 := hH8.box.frozen 7
    have y78 := hx8.2.2
    have HH8 := Lib.hid hH8
    have HR2 := Lib.hid hrow2
    have HA8 := Lib.hid hap8
    have HT8 := Lib.hid ((Turn.of_below hb8).trans hT8)
    clear hx hx7 hx8 hH8 hrow2 hap8 hT8 hb7 hb8
    refine E_step (i := 15) (o := _) (by kernel_rfl) rfl (fun K hK => ?_)
    go_simp
    refine hK.out _ _ (fun h => absurd rfl h) ?_
    clear hK K
    try simp only [Act.put]
    refine E_done (by kernel_rfl) ?_ _
    go_end0
    refine ⟨.inl ⟨by rw [HV.out], rfl, _, ?_, Hand.putWaste (S := { S with heaps := H }) HH8.out HR2.out HA8.out⟩, ?_⟩
    · rw [HV.out]
      have hs : sameH H (moveH S.heaps i (loadsM h.parts)) := hsame
      exact ⟨rfl, rfl, rfl, rfl, rfl, hs.1, hs.2⟩
    · refine HBB4.out.trans ((HT8.out.below (Nat.le_trans hbw hsz4) ?_).setCell (p := ⟨B, 7, none⟩) hbB _)
      intro k e
      rcases e with rfl | e | e
      · exact hbB
      · exact HGE.out k (rows_ha e)
      · exact HGE.out k (rows_wa e)

end Go.Proofs.YtfhalmlpnoepcaaGreat
