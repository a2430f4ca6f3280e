/- put: parts behind those of a list, so that no two neighbours have one field. -/
import Derived.Test.YtfhalmlpnoepcaaGreatGU
import Derived.Maps.OwnIn
import Derived.OneCell
namespace Go.Proofs.YtfhalmlpnoepcaaGreat
open Go.RowKit Go.Shelf
attribute [local go_sem] Oper.semAt_some

/-! A region that only reads, in the round of a loop over an iterator. -/
section
variable {F : Fence} {n : Nat} {P : Program} {ops : Array Oper} {C : World → Prop}
def noDefer (o : Oper) : Bool := match o.op with | .defer _ => false | _ => true
theorem noDefer_spec {o : Oper} (h : noDefer o = true) : ∀ c, o.op ≠ .defer c := by
  intro c e
  unfold noDefer at h
  rw [e] at h
  cases h
theorem round_op {o : Oper} {a : Act} {K : Act → Prop} {K' : Act → World → Prop} {Q' : Exit → Act → World → Prop} {w : World} (hd : noDefer o = true) (hw : C w) (h : ∀ a w', C w' → K a → K' a w')
    (ha : o.askedIn F P a C) (hh : o.quietIn F n P a C K) : o.wpIn F n P a w K' Q' := by
  obtain ⟨v, hv, hk⟩ := hh
  have hq := hv w hw
  unfold Oper.quietAtIn at hq
  unfold Oper.wpIn
  refine ⟨ha w hw, ?_⟩
  rw [Oper.semAt_plain F _ _ (noDefer_spec hd)]
  cases hr : (execOp a.eval o).run P w with
  | halt x w' => rw [hr] at hq; exact hq.elim
  | ok x w' =>
    rw [hr] at hq
    cases x with
    | value u => obtain ⟨rfl, rfl⟩ := hq; exact h _ _ hw hk
    | skip => obtain ⟨rfl, rfl⟩ := hq; exact h _ _ hw hk
    | enter f args =>
      obtain ⟨rfl, hd', hc⟩ := hq
      exact ⟨hd', hc.mono fun e w'' ⟨he, hw''⟩ => by subst he; exact h _ _ hw'' hk⟩
    | _ => exact hq.elim
theorem round_any {Q : Act → Prop} {Q' : Exit → Act → World → Prop} (hnd : ops.all noDefer = true) (hQ : ∀ a w, C w → Q a → Q' .normal a w) : ∀ (fuel : Nat) (listed : Array Bool) (a : Act) (w : World), C w →
    wpAnyQIn F n P .any ops C Q fuel listed a → wpAnyIn F n P .any ops Q' fuel listed a w := by
  intro fuel
  induction fuel with
  | zero => intro listed a w hw h; exact ⟨h.1, hQ _ _ hw h.2⟩
  | succ fuel ih =>
    intro listed a w hw h
    refine ⟨fun h0 => hQ _ _ hw (h.1 h0), fun i hi => ?_⟩
    have hq := h.2 i hi
    unfold qOpIn at hq
    unfold wpOpIn
    cases ho : ops[i]? with
    | none => rw [ho] at hq; exact ih _ _ _ hw hq
    | some o =>
      rw [ho] at hq
      obtain ⟨ha, hq⟩ := hq
      have hd : noDefer o = true := by
        rw [Array.all_eq_true] at hnd
        obtain ⟨hlt, rfl⟩ := Array.getElem?_eq_some_iff.1 ho
        exact hnd i hlt
      by_cases hw' : Region.wanted o (yielded ops a.tmps) = true
      · simp only [hw', if_true] at hq ⊢
        exact round_op hd hw (fun a' w' hc => ih _ a' w' hc) ha hq
      · simp only [hw'] at hq ⊢
        exact ⟨ha w hw, ih _ _ _ hw hq⟩
theorem round_quiet {id : Nat} {Q : Exit → Act → World → Prop} {a : Act} {w : World} {l : List Oper} (hm : P.follows .mixedOrders = true) (hB : Region.lexB .any l.toArray = true) (hnd : l.toArray.all noDefer = true)
    (h : wpQuietIn F n P l.toArray (fun w' => ∃ n, w' = w.drewN n) (fun a' => ∀ w', (∃ n, w' = w.drewN n) → Q .normal a' w') l a) : (Code.region id l.toArray true).wpIn F n P Q a w := by
  simp only [Region.lexB, Bool.and_eq_true] at hB
  refine wpIn_region_any hm (round_any (C := fun w' => ∃ n, w' = w.drewN n) (Q := fun a' => ∀ w', (∃ n, w' = w.drewN n) → Q .normal a' w') hnd (fun _ w' hw' h => h w' hw') _ _ _ _ ⟨1, rfl⟩ ?_)
  have := wpAnyQIn_lex (F := F) (n := n) (C := fun w' => ∃ n, w' = w.drewN n) (md := .any) hB.1 l 0 (Array.replicate l.toArray.size false) a (by simp) (by simpa using hB.2) h
  simpa using this
end

theorem ownsRow_setOwn {w : World} {base : Nat} {e : TypeId} {size : Nat} {g n cap i : Nat} {xs : List Value} (h : w.ownsRow base e size (.slice (some ⟨g, 0, none⟩) n cap) n xs) (_ : i < n * size) (u : Value) :
    (w.setCell ⟨g, i, none⟩ u).ownsRow base e size (.slice (some ⟨g, 0, none⟩) n cap) n (xs.set i u) := by
  obtain ⟨h1, h2⟩ := h
  refine ⟨by simpa using h1, ?_⟩
  rcases h2 with ⟨e, _⟩ | ⟨g', cap', cur, hv, hb, hg, hle, hm, hs, ht⟩
  · cases e
  · obtain ⟨e1, _, e2⟩ := slice_inj hv
    obtain rfl : g = g' := by injection e1 with e1; injection e1
    subst e2
    refine .inr ⟨g, cap, cur.setIfInBounds i u, rfl, hb, Blk.set (show Blk w g cur e from hg) i u, hle, hm, by simpa using hs, ?_⟩
    rw [Array.toList_setIfInBounds, List.take_set, ht]
theorem set_flat (L : List Prt) (q : Prt) (x : Int) : ((L ++ [q]).flatMap cellsPrt).set (L.length * 2 + 1) (.int .i64 x) = (L ++ [Prt.mk q.plot x]).flatMap cellsPrt := by
  have hl : (L.flatMap cellsPrt).length = L.length * 2 := by
    induction L with
    | nil => rfl
    | cons p L ih => simp only [List.flatMap_cons, List.length_append, List.length_cons, ih]; simp [cellsPrt]; omega
  rw [List.flatMap_append, List.flatMap_append, List.set_append_right _ _ (by omega), hl]
  simp [cellsPrt]
theorem pushL_nil (p : Prt) : pushL [] p = [p] := rfl
theorem pushL_same (L : List Prt) (q p : Prt) (h : q.plot = p.plot) : pushL (L ++ [q]) p = L ++ [⟨q.plot, q.loads + p.loads⟩] := by simp [pushL, h]
theorem pushL_other (L : List Prt) (q p : Prt) (h : ¬ q.plot = p.plot) : pushL (L ++ [q]) p = (L ++ [q]) ++ [p] := by simp [pushL, h]
theorem putL_len (l0 : List Prt) (ps : List Prt) : (putL l0 ps).length ≤ l0.length + ps.length := by
  induction ps generalizing l0 with
  | nil => simp [putL]
  | cons p ps ih =>
    have h1 := ih (pushL l0 p)
    have h2 : (pushL l0 p).length ≤ l0.length + 1 := by
      rcases List.eq_nil_or_concat l0 with rfl | ⟨L, q, rfl⟩
      · simp [pushL]
      · rw [List.concat_eq_append]
        by_cases h : q.plot = p.plot
        · rw [pushL_same _ _ _ h]; simp
        · rw [pushL_other _ _ _ h]; simp
    show (putL (pushL l0 p) ps).length ≤ _
    simp only [List.length_cons]
    omega
theorem putL_bd {m : Int} (l0 : List Prt) (ps : List Por) (h : ∀ q ∈ l0, 0 ≤ q.loads ∧ q.loads ≤ m) (hm : 0 ≤ m) : ∀ q ∈ putL l0 (ps.map (·.1)), 0 ≤ q.loads ∧ q.loads ≤ m + 100000 * ps.length := by
  induction ps generalizing l0 m with
  | nil => intro q hq; have := h q hq; simp; omega
  | cons p ps ih =>
    intro q hq
    obtain ⟨p, hp1, hp2⟩ := p
    have h2 : ∀ r ∈ pushL l0 p, 0 ≤ r.loads ∧ r.loads ≤ m + 100000 := by
      intro r hr
      rcases List.eq_nil_or_concat l0 with rfl | ⟨L, x, rfl⟩
      · obtain rfl : r = p := by simpa [pushL] using hr
        omega
      · rw [List.concat_eq_append] at hr h
        have hx := h x (by simp)
        by_cases hc : x.plot = p.plot
        · rw [pushL_same _ _ _ hc] at hr
          rcases List.mem_append.1 hr with hr | hr
          · have := h r (by simp [hr]); omega
          · obtain rfl := List.mem_singleton.1 hr
            show 0 ≤ x.loads + p.loads ∧ x.loads + p.loads ≤ _
            omega
        · rw [pushL_other _ _ _ hc] at hr
          rcases List.mem_append.1 hr with hr | hr
          · have := h r hr; omega
          · obtain rfl := List.mem_singleton.1 hr
            omega
    have := ih (m := m + 100000) (pushL l0 p) h2 (by omega) q hq
    simp only [List.length_cons]
    push_cast
    omega

theorem put_step {base H : Nat} {S : Nat → Prop} {w0 W w6 : World} {A : List Prt} {p : Prt} {a : Option Addr} {c g cap : Nat} {tmp : Obj} {n : Nat} (hn : A.length = n) (hbase : base ≤ w0.heap.size) (hH : w0.heap.size ≤ H) (hS : ∀ k, S k → k < w0.heap.size)
    (kL : Blk W H #[.slice a n c] 27) (hown : W.ownsRow base 79 2 (.slice a n c) n (A.flatMap cellsPrt)) (hrow : ∀ k, a.map (·.block) = some k → k ≠ H ∧ ¬ S k) (hbel : Below base w0 W) (hkp : Keeps S w0 W)
    (hown6 : w6.ownsRow base 79 2 (.slice (some ⟨g, 0, none⟩) (n + 1) cap) (n + 1) (A.flatMap cellsPrt ++ cellsPrt p)) (hgrow : (W.alloc tmp).grownBy w6 (Value.slice a n c).ownBlock)
    (hat : (Value.slice (some ⟨g, 0, none⟩) (n + 1) cap).ownBlock = (Value.slice a n c).ownBlock ∨ (Value.slice (some ⟨g, 0, none⟩) (n + 1) cap).ownBlock = some (W.alloc tmp).heap.size) :
    (KeepsOthers W (w6.setCell ⟨H, 0, none⟩ (.slice (some ⟨g, 0, none⟩) (n + 1) cap)) ∧ Keeps S W (w6.setCell ⟨H, 0, none⟩ (.slice (some ⟨g, 0, none⟩) (n + 1) cap))) ∧
    (∃ a c, Blk (w6.setCell ⟨H, 0, none⟩ (.slice (some ⟨g, 0, none⟩) (n + 1) cap)) H #[.slice a (A ++ [p]).length c] 27 ∧ (w6.setCell ⟨H, 0, none⟩ (.slice (some ⟨g, 0, none⟩) (n + 1) cap)).ownsRow base 79 2 (.slice a (A ++ [p]).length c) (A ++ [p]).length ((A ++ [p]).flatMap cellsPrt) ∧
      (∀ k, a.map (·.block) = some k → k ≠ H ∧ ¬ S k)) ∧ Below base w0 (w6.setCell ⟨H, 0, none⟩ (.slice (some ⟨g, 0, none⟩) (n + 1) cap)) ∧ Keeps S w0 (w6.setCell ⟨H, 0, none⟩ (.slice (some ⟨g, 0, none⟩) (n + 1) cap)) := by
  subst hn
  have hlt : ∀ k, a.map (·.block) = some k → base ≤ k ∧ k < W.heap.size := fun k hk => hown.lt k (by rw [rowOf_own']; exact hk)
  have hWs := hkp.size
  have hL := kL.lt
  rw [rowOf_own'] at hgrow hat
  have hgH : g ≠ H ∧ ¬ S g := by
    rcases hat with h | h
    · rw [rowOf_own'] at h; exact hrow g h.symm
    · have hg : g = W.heap.size + 1 := by simpa [Value.ownBlock] using h
      exact ⟨by omega, fun hs => by have := hS g hs; omega⟩
  have hHS : ¬ S H := fun hs => by have := hS H hs; omega
  have kL6 := (kL.alloc tmp).kept hgrow (fun e => (hrow H e.symm).1 rfl)
  have hk6 : Keeps S W w6 := ⟨Nat.le_trans (by simp) hgrow.size, fun k hk => by
    have hkW : k < W.heap.size := by have := hS k hk; omega
    exact (hgrow.block k (by simp; omega) (fun e => (hrow k e.symm).2 hk)).trans (Below.heap_alloc _ _ _ hkW)⟩
  have hb6 : Below base w0 w6 := (hbel.alloc (Nat.le_trans hbase hWs) tmp).grown hgrow (by simp; omega) (fun k e => (hlt k e).1)
  refine ⟨⟨((KeepsOthers.alloc W tmp).trans (KeepsOthers.of_grownBy hgrow fun j o ej hj => ?_)).trans (KeepsOthers.setCell _ _ _), hk6.setCell (p := ⟨H, 0, none⟩) hHS _⟩, ⟨some ⟨g, 0, none⟩, cap, ?_, ?_, fun k hk => ?_⟩, hb6.setCell (p := ⟨H, 0, none⟩) (Nat.le_trans hbase hH) _, (hkp.trans hk6).setCell (p := ⟨H, 0, none⟩) hHS _⟩
  · rcases (hown.alloc tmp).2 with ⟨e, _⟩ | ⟨g', cap', cur, e, _, hgb, _⟩
    · obtain ⟨rfl, _, _⟩ := slice_inj e
      cases ej
    · obtain ⟨rfl, _, _⟩ := slice_inj e
      obtain rfl : g' = j := by simpa using ej
      rw [hgb] at hj; cases hj; rfl
  · rw [List.length_append]
    exact kL6.set 0 _
  · rw [List.length_append, List.flatMap_append]
    refine ownsRow_setCell_other ?_ (a := ⟨H, 0, none⟩) (by simp [Value.ownBlock]; exact hgH.1) _
    simpa using hown6
  · obtain rfl : g = k := by simpa using hk
    exact hgH
theorem put_set {base H : Nat} {S : Nat → Prop} {w0 W : World} {B : List Prt} {q : Prt} {g c : Nat} {x : Int}
    (kL : Blk W H #[.slice (some ⟨g, 0, none⟩) (B ++ [q]).length c] 27) (hown : W.ownsRow base 79 2 (.slice (some ⟨g, 0, none⟩) (B ++ [q]).length c) (B ++ [q]).length ((B ++ [q]).flatMap cellsPrt)) (hrow : g ≠ H ∧ ¬ S g) (hbg : base ≤ g) (hbel : Below base w0 W) (hkp : Keeps S w0 W) :
    (∃ a c, Blk (W.setCell ⟨g, B.length * 2 + 1, none⟩ (.int .i64 x)) H #[.slice a (B ++ [Prt.mk q.plot x]).length c] 27 ∧ (W.setCell ⟨g, B.length * 2 + 1, none⟩ (.int .i64 x)).ownsRow base 79 2 (.slice a (B ++ [Prt.mk q.plot x]).length c) (B ++ [Prt.mk q.plot x]).length ((B ++ [Prt.mk q.plot x]).flatMap cellsPrt) ∧
      (∀ k, a.map (·.block) = some k → k ≠ H ∧ ¬ S k)) ∧ Below base w0 (W.setCell ⟨g, B.length * 2 + 1, none⟩ (.int .i64 x)) ∧ Keeps S w0 (W.setCell ⟨g, B.length * 2 + 1, none⟩ (.int .i64 x)) := by
  have hl : (B ++ [Prt.mk q.plot x]).length = (B ++ [q]).length := by simp
  refine ⟨⟨some ⟨g, 0, none⟩, c, ?_, ?_, fun k hk => ?_⟩, hbel.setCell (p := ⟨g, B.length * 2 + 1, none⟩) hbg _, hkp.setCell (p := ⟨g, B.length * 2 + 1, none⟩) hrow.2 _⟩
  · rw [hl]; exact kL.other (Ne.symm hrow.1) _
  · rw [hl, ← set_flat]; exact ownsRow_setOwn hown (by simp; omega) _
  · obtain rfl : g = k := by simpa using hk
    exact hrow

/-- Between two rounds: the list so far, in a row of the call's own. -/
structure PutI (base H : Nat) (S : Nat → Prop) (w0 : World) (l0 : List Prt) (pre : List Por) (W : World) : Prop where
  row : ∃ a c, Blk W H #[.slice a (putL l0 (pre.map (·.1))).length c] 27 ∧ W.ownsRow base 79 2 (.slice a (putL l0 (pre.map (·.1))).length c) (putL l0 (pre.map (·.1))).length ((putL l0 (pre.map (·.1))).flatMap cellsPrt) ∧
    (∀ k, a.map (·.block) = some k → k ≠ H ∧ ¬ S k)
  below : Below base w0 W
  keeps : Keeps S w0 W
theorem PutI.own {base H : Nat} {S : Nat → Prop} {w0 w1 : World} {l0 : List Prt} (hb : base ≤ w0.heap.size) (h1 : w0.heap.size ≤ w1.heap.size) (hS : ∀ k, S k → k < w0.heap.size) : OwnFrom w1.heap.size (PutI base H S w0 l0) := fun pre X Y row hs hg hrow => by
  obtain ⟨⟨a, c, k1, k2, k3⟩, k4, k5⟩ := hs
  refine ⟨⟨a, c, own_blk w1.heap.size H _ (fun _ : Unit => _) () X Y row k1 hg hrow, k2.kept hg ?_, k3⟩, k4.grown hg (Nat.le_trans hb k5.size) (fun k e => by have := (hrow k e).1; omega), k5.trans ⟨hg.size, fun k hk => hg.block k (k5.lt hS k hk) (fun e => by have := (hrow k e.symm).1; have := hS k hk; omega)⟩⟩
  cases hv : (Value.slice a (putL l0 (pre.map (·.1))).length c).ownBlock with
  | none => exact .inl rfl
  | some g =>
    refine .inr fun e => ?_
    obtain ⟨_, o, ho, hc⟩ := hrow g e.symm
    rcases k2.2 with ⟨e0, _⟩ | ⟨g', cap, cur, e0, _, hgg, _⟩
    · rw [e0] at hv; cases hv
    · rw [e0] at hv
      have : g' = g := by simpa [Value.ownBlock] using hv
      subst this
      rw [hgg] at ho
      cases ho
      cases hc

theorem PutI.drew {base H : Nat} {S : Nat → Prop} {w0 W : World} {l0 : List Prt} {pre : List Por} (hS : ∀ k, S k → k < w0.heap.size) (h : PutI base H S w0 l0 pre W) : PutI base H S w0 l0 pre W.drew := by
  obtain ⟨⟨a, c, k1, k2, k3⟩, k4, k5⟩ := h
  have hd : Below W.heap.size W W.drew := (Below.refl _ _).drew
  exact ⟨⟨a, c, k1.belowS hd, own_below k2 hd, k3⟩, k4.drew, k5.trans (Keeps.of_below hd (k5.lt hS))⟩

set_option maxRecDepth 100000 in
set_option maxHeartbeats 8000000 in
theorem put_any (base : Nat) (S : Nat → Prop) (a0 : Option Addr) (c0 : Nat) (l0 : List Prt) (m : Int) (lb : Array Value) (N : Nat) (ys : List Prt) (Sp : List Por → Prop) (w : World)
    (hown : w.ownsRow base 79 2 (.slice a0 l0.length c0) l0.length (l0.flatMap cellsPrt)) (hrow : ∀ k, a0.map (·.block) = some k → ¬ S k) (hbase : base ≤ w.heap.size) (hS : ∀ k, S k → k < w.heap.size)
    (hl0 : ∀ q ∈ l0, 0 ≤ q.loads ∧ q.loads ≤ m) (hm0 : 0 ≤ m) (hm : m ≤ 1000000000000) (hlen : l0.length ≤ 100000) (hN : N ≤ 100000)
    (hseq : SeqStopsK Fence.wide 4 Tryz.prog 108 lb encP (Keeps S) (fun q => q.map (·.1) = ys) Sp N w) :
    Calls Tryz.prog 91 #[.slice a0 l0.length c0, .func (.func 108) #[] lb] w fun e w' => ∃ a c, e = .returned (.slice a (putL l0 ys).length c) ∧ w'.ownsRow base 79 2 (.slice a (putL l0 ys).length c) (putL l0 ys).length ((putL l0 ys).flatMap cellsPrt) ∧
      (∀ k, a.map (·.block) = some k → ¬ S k) ∧ Below base w w' ∧ Keeps S w w' := by
  obtain ⟨i0, hi, hz0, hz1, hz2⟩ := info_parts info_portion
  refine (callsIn_wide (n := 5)).1 ?_
  refine callsIn_of_wp_marks Tryz.func91 rfl trivial ?_ rfl
  simp only [Tryz.ntmps91, List.size_toArray, List.length_cons, List.length_nil, Nat.reduceAdd, Nat.reduceSub, Array.replicate_succ, Array.replicate_zero, List.push_toArray, List.append_toArray, List.nil_append, List.cons_append]
  gi_wp2
  have kL := Blk.new w 27 #[.slice a0 l0.length c0]
  have hb1 : Below w.heap.size w (w.alloc (.cells #[.slice a0 l0.length c0] 27)) := (Below.refl _ w).alloc (Nat.le_refl _) _
  have hsz : (w.alloc (.cells #[.slice a0 l0.length c0] 27)).heap.size = w.heap.size + 1 := by simp
  have hI0 : PutI base w.heap.size S w l0 [] (w.alloc (.cells #[.slice a0 l0.length c0] 27)) :=
    ⟨⟨a0, c0, kL, hown.alloc _, fun k hk => ⟨fun e => by have := (hown.lt k (by rw [rowOf_own']; exact hk)).2; omega, hrow k hk⟩⟩, hb1.mono hbase, Keeps.of_below hb1 hS⟩
  have HSZ := Lib.hid hsz
  obtain ⟨w1, hw1⟩ : ∃ w1, w.alloc (.cells #[.slice a0 l0.length c0] 27) = w1 := ⟨_, rfl⟩
  rw [hw1] at hI0 hb1 HSZ ⊢
  clear kL hsz hw1 hown hrow
  refine wpIn_rangeFunc_ownH rfl (by omega) (gf := 108) (lb := lb) rfl trivial (enters_of Tryz.func108 (by kernel_rfl) rfl)
    hseq (fun h k => h.trans k) (keeps_b (w := w1) (fun k hk => by have := hS k hk; have := HSZ.out; omega)) hb1 (fun _ => rfl)
    (PutI base w.heap.size S w l0) (fun _ _ _ => False) (PutI.own hbase (by have := HSZ.out; omega) hS) (fun _ _ _ _ _ hs _ _ => hs) hI0
    (fun x a' W => ∃ Bx, w.heap.size < Bx ∧ Blk W Bx #[.int .i64 x.1.plot, .int .i64 x.1.loads] 79 ∧ a' = { tmps := #[.slice a0 l0.length c0, .func (.func 108) #[] lb, .pointer (some ⟨w.heap.size, 0, none⟩), undef, .slice none 0 0, .pointer (some ⟨Bx, 0, none⟩), undef, .func (.func 108) #[] lb, .agg #[.int .i64 x.1.plot, .int .i64 x.1.loads], undef, undef, undef, undef, undef, undef, undef, undef, undef, undef, undef, undef, undef, undef, undef, undef, undef, undef, undef, undef, undef, undef, undef, undef, undef, undef, undef, undef, undef, undef], defers := [] })
    (fun x a' s X Y row hs hg hr => by obtain ⟨Bx, h1, h2, h3⟩ := hs; exact ⟨Bx, h1, own_blk w1.heap.size Bx _ (fun _ : Unit => #[.int .i64 x.1.plot, .int .i64 x.1.loads]) () X Y row h2 hg hr, h3⟩)
    ?assign ?body ?done ?stop
  case assign =>
    intro L pre x W K hi' hK
    unfold encP
    gi_wp2
    have hWs : w.heap.size < W.heap.size := by have := hi'.keeps.size; obtain ⟨_, _, k, _⟩ := hi'.row; exact k.lt
    exact hK _ _ ((KeepsOthers.alloc _ _).from _) ⟨by simp, fun k hk => Below.heap_alloc _ _ _ (hi'.keeps.lt hS k hk)⟩ (PutI.own (w1 := w) hbase (Nat.le_refl _) hS |>.alloc _ hi') ⟨W.heap.size, hWs, Blk.new _ _ _, rfl⟩
  case body =>
    rintro L pre ⟨⟨pl, ld⟩, hp1, hp2⟩ a' W hL ⟨r, hr⟩ ⟨⟨a, c, kL, hown, hrow⟩, hbel, hkp⟩ ⟨Bx, hBx, kX, rfl⟩ hlt
    dsimp only at hp1 hp2 kX ⊢
    have hps := putL_snoc l0 (pre.map (·.1)) ⟨pl, ld⟩
    have hpl := putL_len l0 (pre.map (·.1))
    have hpb := putL_bd l0 pre hl0 hm0
    rw [List.length_map] at hpl
    have hmap : ((pre ++ [⟨⟨pl, ld⟩, hp1, hp2⟩] : List Por).map (·.1)) = pre.map (·.1) ++ [⟨pl, ld⟩] := by simp
    rw [← hmap] at hps
    have HPS := Lib.hid hps
    clear hmap hps
    generalize putL l0 (pre.map (·.1)) = A at *
    have x0 := kX.cell 0
    have x1 := kX.cell 1
    have c0' := kL.cell 0
    have f0' := kL.frozen 0
    have lX := kX.lt
    have lL := kL.lt
    simp only [List.getElem?_toArray, List.getElem?_cons_zero, List.getElem?_cons_succ] at x0 x1 c0'
    have hmx : A.length + 1 ≤ maxLen := by unfold maxLen; omega
    have hpush : ∀ W4 : World, Below W.heap.size W W4 → (Blk W4 w.heap.size #[.slice a A.length c] 27 ∧ W4.ownsRow base 79 2 (.slice a A.length c) A.length (A.flatMap cellsPrt) ∧ Below base w W4 ∧ Keeps S w W4 ∧ Blk W4 Bx #[.int .i64 pl, .int .i64 ld] 79) := fun W4 hb => ⟨kL.belowS hb, own_below hown hb, hbel.trans (hb.mono (Nat.le_trans hbase hkp.size)), hkp.trans (Keeps.of_below hb (hkp.lt hS)), kX.belowS hb⟩
    have HPU := Lib.hid hpush
    have HROW := Lib.hid hrow
    clear hpush
    rcases List.eq_nil_or_concat A with rfl | ⟨B, q, rfl⟩
    · gi_wp2_with fail
      refine round_quiet (by kernel_rfl) (by kernel_rfl) (by kernel_rfl) ?_
      repeat (gi_big_quiet_step (fail))
      refine wpQuietIn_nil ?_
      intro _ hw'
      obtain ⟨nq, rfl⟩ := hw'
      have hbq : Below W.heap.size W (W.drewN nq) := below_drewN' _ _ _
      obtain ⟨kL4, own4, bel4, kp4, kX4⟩ := HPU.out _ hbq
      have HO : KeepsOthers W (W.drewN nq) := others_of hbq
      have HKs : Keeps S W (W.drewN nq) := Keeps.of_below hbq (hkp.lt hS)
      clear x0 x1 c0' f0' lX lL kL hown hbel kX
      generalize W.drewN nq = W4 at *
      have x0 := kX4.cell 0
      have x1 := kX4.cell 1
      have c0' := kL4.cell 0
      have lX := kX4.lt
      have lL := kL4.lt
      simp only [List.getElem?_toArray, List.getElem?_cons_zero, List.getElem?_cons_succ, List.length_nil] at x0 x1 c0'
      have kE := Blk.new W4 79 #[.int .i64 pl, .int .i64 ld]
      have hneH : some w.heap.size ≠ (Value.slice a 0 c).ownBlock := fun e => by rw [rowOf_own'] at e; exact (HROW.out _ e.symm).1 rfl
      have hb4 : base ≤ W4.heap.size := Nat.le_trans hbase kp4.size
      gi_wp2_with (gi_at_builtin; refine wpListIn_append_own_at _ rfl _ _ 27 rfl base 79 i0 (.agg #[.int .i64 0, .int .i64 0]) 2 16 Tryz.underlying27 hi hz0 hz1 hz2 rfl (by decide) (.slice a 0 c) 0 _ rfl (own4.alloc _) ⟨W4.heap.size, 0, none⟩ 1 1 [.int .i64 pl, .int .i64 ld] rfl rfl (World.news_of_block kE) (by simp [Value.oneCell']) hmx (by decide) (by simp; omega) ?_; intro v' w6 hown6 hgrow hnil hat; obtain ⟨g', cap', rfl⟩ := ownsRow_succ hown6; have kL6 := (kL4.alloc (.cells #[.int .i64 pl, .int .i64 ld] 79)).kept hgrow hneH; have z6 := kL6.cell 0; have z7 := kL6.frozen 0; simp only [List.getElem?_toArray, List.getElem?_cons_zero, List.length_nil] at z6; have HOWN6 := Lib.hid hown6; have HGR := Lib.hid hgrow; have HAT := Lib.hid hat; clear hown6 hgrow hat)
      obtain ⟨⟨s1, s2⟩, s3, s4, s5⟩ := put_step (A := []) (p := ⟨pl, ld⟩) rfl hbase (Nat.le_refl _) hS kL4 own4 HROW.out bel4 kp4 HOWN6.out HGR.out HAT.out
      exact ⟨(HO.trans s1).from _, HKs.trans s2, ⟨by rw [HPS.out]; exact s3, s4, s5⟩⟩
    · rw [List.concat_eq_append] at *
      have hqb := hpb q (by simp)
      rcases row_at cellsPrt 2 (fun _ => rfl) hown with ⟨_, h0⟩ | ⟨g, cap, hv, hbg, hg, hcap, hcap2, key⟩
      · simp at h0
      obtain ⟨rfl, _, rfl⟩ := slice_inj hv
      have k0 := key B.length q (by simp) 0 (by omega)
      have k1 := key B.length q (by simp) 1 (by omega)
      have e0 : W.cell? ⟨g, B.length * 2, none⟩ = some (.int .i64 q.plot) := k0
      have e1 : W.cell? ⟨g, B.length * 2 + 1, none⟩ = some (.int .i64 q.loads) := k1
      have hn : (B ++ [q]).length = B.length + 1 := by simp
      rw [hn] at c0' hcap
      have hb0 : (0 : Int) ≤ (B.length : Int) := Int.natCast_nonneg _
      have hKEY := Lib.hid key
      have HN := Lib.hid hn
      have hb1' : (B.length : Int) < (B.length : Int) + 1 := by omega
      obtain ⟨qp, ql⟩ := q
      dsimp only at hqb e0 e1
      clear k0 k1 key hv hn
      gi_wp2_with fail
      by_cases hpq : qp = pl
      · subst hpq
        have q1 : (qp == qp) = true := by simp
        refine round_quiet (by kernel_rfl) (by kernel_rfl) (by kernel_rfl) ?_
        repeat (gi_big_quiet_step (fail))
        refine wpQuietIn_nil ?_
        intro _ hw'
        obtain ⟨nq, rfl⟩ := hw'
        have hbq : Below W.heap.size W (W.drewN nq) := below_drewN' _ _ _
        obtain ⟨kL4, own4, bel4, kp4, kX4⟩ := HPU.out _ hbq
        have HO : KeepsOthers W (W.drewN nq) := others_of hbq
        have HKs : Keeps S W (W.drewN nq) := Keeps.of_below hbq (hkp.lt hS)
        have e0' := (hbq.cell (p := ⟨g, B.length * 2, none⟩) hg).trans e0
        have e1' := (hbq.cell (p := ⟨g, B.length * 2 + 1, none⟩) hg).trans e1
        clear x0 x1 c0' f0' lX lL kL hown hbel kX e0 e1
        generalize W.drewN nq = W4 at *
        have x0 := kX4.cell 0
        have x1 := kX4.cell 1
        have c0' := kL4.cell 0
        have lX := kX4.lt
        have lL := kL4.lt
        simp only [List.getElem?_toArray, List.getElem?_cons_zero, List.getElem?_cons_succ] at x0 x1 c0'
        rw [HN.out] at c0'
        have hfz : W4.frozen? ⟨g, B.length * 2 + 1, none⟩ = false := by
          rcases own4.2 with ⟨e, _⟩ | ⟨g', cap', cur, e, _, hgg, _⟩
          · cases e
          · obtain ⟨e2, _, _⟩ := slice_inj e
            obtain rfl : g = g' := by injection e2 with e2; injection e2
            exact Blk.frozen (show Blk W4 g cur _ from hgg) _
        have lg : g < W4.heap.size := Nat.lt_of_lt_of_le hg hbq.size
        have hw1 : IntKind.i64.wrap (ql + ld) = ql + ld := by rw [IntKind.wrap_i64]; omega
        gi_wp2_with fail
        have hgr := HROW.out g rfl
        have hP : PutI base w.heap.size S w l0 (pre ++ [⟨⟨qp, ld⟩, hp1, hp2⟩]) (W4.setCell ⟨g, B.length * 2 + 1, none⟩ (.int .i64 (ql + ld))) := by
          obtain ⟨s3, s4, s5⟩ := put_set (q := ⟨qp, ql⟩) (x := ql + ld) kL4 own4 hgr hbg bel4 kp4
          exact ⟨by rw [HPS.out, pushL_same B ⟨qp, ql⟩ ⟨qp, ld⟩ rfl]; exact s3, s4, s5⟩
        have hP2 := hP.drew hS
        have hK2 : KeepsOthers W (W4.setCell ⟨g, B.length * 2 + 1, none⟩ (.int .i64 (ql + ld))).drew := (HO.trans (KeepsOthers.setCell _ _ _)).trans (KeepsOthers.drew _)
        have hK3 : Keeps S W (W4.setCell ⟨g, B.length * 2 + 1, none⟩ (.int .i64 (ql + ld))).drew := (HKs.setCell (p := ⟨g, B.length * 2 + 1, none⟩) hgr.2 _).trans (Keeps.of_below ((Below.refl _ _).drew) ((HKs.setCell (p := ⟨g, B.length * 2 + 1, none⟩) hgr.2 _).lt (hkp.lt hS)))
        have HP2 := Lib.hid hP2
        have HK2 := Lib.hid hK2
        have HK3 := Lib.hid hK3
        clear hP hP2 hK2 hK3
        gi_region
        all_goals exact ⟨HK2.out.from _, HK3.out, HP2.out⟩
      · have q1 : (qp == pl) = false := by simp [hpq]
        refine round_quiet (by kernel_rfl) (by kernel_rfl) (by kernel_rfl) ?_
        repeat (gi_big_quiet_step (fail))
        refine wpQuietIn_nil ?_
        intro _ hw'
        obtain ⟨nq, rfl⟩ := hw'
        have hbq : Below W.heap.size W (W.drewN nq) := below_drewN' _ _ _
        obtain ⟨kL4, own4, bel4, kp4, kX4⟩ := HPU.out _ hbq
        have HO : KeepsOthers W (W.drewN nq) := others_of hbq
        have HKs : Keeps S W (W.drewN nq) := Keeps.of_below hbq (hkp.lt hS)
        have e0' := (hbq.cell (p := ⟨g, B.length * 2, none⟩) hg).trans e0
        have e1' := (hbq.cell (p := ⟨g, B.length * 2 + 1, none⟩) hg).trans e1
        clear x0 x1 c0' f0' lX lL kL hown hbel kX e0 e1
        generalize W.drewN nq = W4 at *
        have x0 := kX4.cell 0
        have x1 := kX4.cell 1
        have c0' := kL4.cell 0
        have lX := kX4.lt
        have lL := kL4.lt
        simp only [List.getElem?_toArray, List.getElem?_cons_zero, List.getElem?_cons_succ] at x0 x1 c0'
        rw [HN.out] at c0'
        have own5 := own4
        rw [HN.out] at own5
        have hmx2 : B.length + 1 + 1 ≤ maxLen := by rw [← HN.out]; exact hmx
        have hbl : B.length + 1 ≤ 200000 := by rw [← HN.out]; omega
        have kE := Blk.new W4 79 #[.int .i64 pl, .int .i64 ld]
        have hneH : some w.heap.size ≠ (Value.slice (some (⟨g, 0, none⟩ : Addr)) (B.length + 1) c).ownBlock := fun e => by rw [rowOf_own'] at e; exact (HROW.out _ e.symm).1 rfl
        have hb4 : base ≤ W4.heap.size := Nat.le_trans hbase kp4.size
        gi_wp2_with (gi_at_builtin; refine wpListIn_append_own_at _ rfl _ _ 27 rfl base 79 i0 (.agg #[.int .i64 0, .int .i64 0]) 2 16 Tryz.underlying27 hi hz0 hz1 hz2 rfl (by decide) (.slice (some ⟨g, 0, none⟩) (B.length + 1) c) (B.length + 1) _ rfl (own5.alloc _) ⟨W4.heap.size, 0, none⟩ 1 1 [.int .i64 pl, .int .i64 ld] rfl rfl (World.news_of_block kE) (by simp [Value.oneCell']) hmx2 (by omega) (by simp; omega) ?_; intro v' w6 hown6 hgrow hnil hat; obtain ⟨g', cap', rfl⟩ := ownsRow_succ hown6; have kL6 := (kL4.alloc (.cells #[.int .i64 pl, .int .i64 ld] 79)).kept hgrow hneH; have z6 := kL6.cell 0; have z7 := kL6.frozen 0; simp only [List.getElem?_toArray, List.getElem?_cons_zero] at z6; rw [HN.out] at z6; have HOWN6 := Lib.hid hown6; have HGR := Lib.hid hgrow; have HAT := Lib.hid hat; clear hown6 hgrow hat)
        obtain ⟨⟨s1, s2⟩, s3, s4, s5⟩ := put_step (A := B ++ [⟨qp, ql⟩]) (p := ⟨pl, ld⟩) HN.out hbase (Nat.le_refl _) hS (HN.out ▸ kL4) own5 HROW.out bel4 kp4 HOWN6.out (HN.out ▸ HGR.out) HAT.out
        exact ⟨(HO.trans s1).from _, HKs.trans s2, ⟨by rw [HPS.out, pushL_other B ⟨qp, ql⟩ ⟨pl, ld⟩ hpq]; exact s3, s4, s5⟩⟩
  case done =>
    rintro D xs W hD rfl hi' hK
    obtain ⟨⟨a, c, k1, k2, k3⟩, k4, k5⟩ := hi'
    have c0' := k1.cell 0
    have lL := k1.lt
    simp only [List.getElem?_toArray, List.getElem?_cons_zero] at c0'
    gi_wp2
    refine ⟨by simp, .inl ⟨_, _, rfl, run_takeDeferred hK, ?_⟩⟩
    have hDw : w.heap.size ≤ D := by have := HSZ.out; omega
    exact ⟨.slice a _ c, by simp [results, Tryz.results91, go_sem], a, c, rfl, ownsRow_putObj k2 _ hK rfl, fun a1 e => (k3 _ (by rw [e]; rfl)).2, below_putObj k4 _ (by omega) (Nat.le_trans hbase k5.size), k5.trans (keeps_b (w := w) hS W D _ _ hDw hK rfl rfl)⟩
  case stop => rintro D c pre W hD _ h _; exact h.elim
end Go.Proofs.YtfhalmlpnoepcaaGreat
