/- In how many ways each gap can be filled (count). -/
import Derived.Test.YtmcmhgjlpffcnaaPF
set_option linter.unusedSimpArgs false
namespace Go.Proofs.Ytmcmhgjlpffcnaa
open Go.RowKit Go.Shelf
attribute [local go_sem] Oper.semAt_some

theorem run_allocI (old : Value) (w : World) : (Instr.alloc 116 true old).run Try.prog w = .ok (.pointer (some ⟨w.heap.size, 0, none⟩)) (w.alloc (.cells Try.zeroCells116 116)) := by kernel_rfl

/-! ### Mathematics of the table -/
/-- How many rows may fit a ridge. -/
def MW : Nat := 1000000000000000
theorem GapsOk.lt {ps : List Pce} {t : Gp} {l : List Gp} (h : GapsOk ps t l) {i j : Nat} {a b : Gp} (hi : l[i]? = some a) (hj : l[j]? = some b) (hij : i < j) : b.n < a.n ∨ (b.n = a.n ∧ a.p < b.p) := by
  obtain ⟨h1, e1⟩ := List.getElem?_eq_some_iff.1 hi
  obtain ⟨h2, e2⟩ := List.getElem?_eq_some_iff.1 hj
  rw [← e1, ← e2]
  exact List.pairwise_iff_getElem.1 h.ord i j h1 h2 hij
theorem GapsOk.later {ps : List Pce} {t : Gp} {l : List Gp} (h : GapsOk ps t l) (hok : ∀ x ∈ ps, x.ok) {k : Nat} {g : Gp} (hk : l[k]? = some g) {x : Pce} (hx : x ∈ ps) (ht : takB g x = true) : ∃ j, k + 1 ≤ j ∧ l[j]? = some (behG g x) := by
  have hm := h.kids g (List.mem_of_getElem? hk) x hx ht
  obtain ⟨j, hj⟩ := List.getElem?_of_mem hm
  have hlt := behG_lt (hok x hx) ht
  refine ⟨j, ?_, hj⟩
  rcases Nat.lt_trichotomy j k with hjk | rfl | hjk
  · have := h.lt hj hk hjk
    omega
  · rw [hk] at hj
    have := Option.some.inj hj
    rw [← this] at hlt
    omega
  · exact hjk
theorem GapsOk.has {ps : List Pce} {t : Gp} {l : List Gp} (h : GapsOk ps t l) {g : Gp} (hg : Rch ps t g) : g ∈ l := by
  induction hg with
  | top => exact h.top
  | step _ hx ht ih => exact h.kids _ ih _ hx ht
/-- What holds of the table when the gaps from the number k on have been looked at. -/
structure CInv (ps : List Pce) (en : Nat) (l : List Gp) (k : Nat) (f : Nat → Int) : Prop where
  done : ∀ (j : Nat) (g : Gp), k ≤ j → l[j]? = some g → f g.ix = (wy ps en g : Int) ∧ wy ps en g ≤ MW
  rest : ∀ g : Gp, g.ok → (∀ j, k ≤ j → l[j]? ≠ some g) → f g.ix = (baseW en g : Int)
theorem CInv.init {ps : List Pce} {en : Nat} {l : List Gp} (hen : en ≤ 9) : CInv ps en l l.length (setF (fun _ => 0) (Gp.mk 0 en).ix 1) := by
  refine ⟨fun j g hj h => ?_, fun g hg _ => ?_⟩
  · have := (List.getElem?_eq_some_iff.1 h).1
    omega
  · unfold setF baseW
    by_cases e : g.ix = (Gp.mk 0 en).ix
    · have := ix_inj hg (h := ⟨0, en⟩) ⟨by show 0 ≤ 2000; omega, hen⟩ e
      subst this
      simp
    · rw [if_neg e, if_neg]
      · rfl
      · rintro ⟨h1, h2⟩
        obtain ⟨a, b⟩ := g
        simp only at h1 h2
        subst h1 h2
        exact e rfl
theorem CInv.step {ps : List Pce} {t : Gp} {en : Nat} {l : List Gp} {k : Nat} {f : Nat → Int} {g : Gp} (h : CInv ps en l (k + 1) f) (hl : GapsOk ps t l) (hk : l[k]? = some g) (hM : wy ps en g ≤ MW) : CInv ps en l k (setF f g.ix (wy ps en g : Int)) := by
  have hgo := (hl.all g (List.mem_of_getElem? hk)).1
  refine ⟨fun j g' hj hg' => ?_, fun g' hg' hno => ?_⟩
  · unfold setF
    by_cases e : g'.ix = g.ix
    · have := ix_inj (hl.all g' (List.mem_of_getElem? hg')).1 hgo e
      subst this
      rw [if_pos rfl]
      exact ⟨rfl, hM⟩
    · rw [if_neg e]
      refine h.done j g' ?_ hg'
      by_cases hjk : j = k
      · subst hjk
        rw [hk] at hg'
        exact absurd (by rw [Option.some.inj hg']) e
      · omega
  · unfold setF
    rw [if_neg (fun e => by
      have := ix_inj hg' hgo e
      subst this
      exact hno k (Nat.le_refl _) hk)]
    exact h.rest g' hg' (fun j hj => hno j (by omega))
/-- Before a gap is looked at. -/
theorem CInv.at {ps : List Pce} {t : Gp} {en : Nat} {l : List Gp} {k : Nat} {f : Nat → Int} {g : Gp} (h : CInv ps en l (k + 1) f) (hl : GapsOk ps t l) (hk : l[k]? = some g) : f g.ix = (baseW en g : Int) :=
  h.rest g (hl.all g (List.mem_of_getElem? hk)).1 (fun j hj hjg => by have := hl.lt hk hjg (by omega); omega)
theorem CInv.kid {ps : List Pce} {t : Gp} {en : Nat} {l : List Gp} {k : Nat} {f : Nat → Int} {g : Gp} (h : CInv ps en l (k + 1) f) (hl : GapsOk ps t l) (hok : ∀ x ∈ ps, x.ok) (hk : l[k]? = some g) (y : Nx g ps) :
    f (nxB g ps y).ix = (wy ps en (nxB g ps y) : Int) ∧ wy ps en (nxB g ps y) ≤ MW ∧ (nxB g ps y).ix ≠ g.ix ∧ (nxB g ps y).ok := by
  have hgo := (hl.all g (List.mem_of_getElem? hk)).1
  obtain ⟨j, hj, e⟩ := hl.later hok hk (List.get_mem _ y.1) y.2
  obtain ⟨h1, h2⟩ := h.done j _ hj e
  have hyo : (nxB g ps y).ok := behG_ok hgo (hok _ (List.get_mem _ _))
  exact ⟨h1, h2, fun e => by
    have := ix_inj hyo hgo e
    have hlt := behG_lt (hok _ (List.get_mem _ y.1)) y.2
    rw [show behG g (ps.get y.1) = nxB g ps y from rfl, this] at hlt
    omega, hyo⟩
theorem sumN_le {ps : List Pce} {en : Nat} {g : Gp} {M : Nat} (h : ∀ y : Nx g ps, wy ps en (nxB g ps y) ≤ M) : ∀ l : List (Nx g ps), sumN ps en g l ≤ M * l.length := by
  intro l
  induction l with
  | nil => simp [sumN]
  | cons y l ih =>
    have := h y
    simp only [sumN, List.map_cons, List.sum_cons, List.length_cons] at ih ⊢
    rw [Nat.mul_succ]
    omega
theorem setF_same {α : Type} (f : Nat → α) (i : Nat) : setF f i (f i) = f := by
  funext j
  unfold setF
  by_cases e : j = i
  · rw [if_pos e, e]
  · rw [if_neg e]
theorem setF_twice {α : Type} (f : Nat → α) (i : Nat) (u v : α) : setF (setF f i u) i v = setF f i v := by
  funext j
  unfold setF
  by_cases e : j = i
  · rw [if_pos e, if_pos e]
  · rw [if_neg e, if_neg e, if_neg e]

theorem backTo_inj {α : Type} {l : List α} {i j : Nat} (hi : i ≤ l.length) (hj : j ≤ l.length) (h : backTo l i = backTo l j) : i = j := by
  have := congrArg List.length h
  rw [backTo_len, backTo_len] at this
  omega
theorem backTo_next {α : Type} {l : List α} {k k0 : Nat} {x : Fin l.length} (hk : k ≤ l.length) (hk0 : k0 ≤ l.length) (h : backTo l k ++ [x] = backTo l k0) : k = k0 + 1 ∧ ∃ h : k0 < l.length, x = ⟨k0, h⟩ := by
  have h1 := congrArg List.length h
  rw [List.length_append, backTo_len, backTo_len] at h1
  simp only [List.length_cons, List.length_nil] at h1
  have hlt : k0 < l.length := by omega
  have hk1 : k = k0 + 1 := by omega
  subst hk1
  rw [backTo_step hlt] at h
  exact ⟨rfl, hlt, by simpa using (List.append_inj h rfl).2⟩

/-- What count returns, or that too many rows fit. -/
def CountSaid (ps : List Pce) (t : Gp) (en : Nat) (w : World) (e : Ending) (w' : World) : Prop :=
  ((wy ps en t ≤ MW ∧ ∃ B f, e = .returned (.pointer (some ⟨B, 0, none⟩)) ∧ w.heap.size ≤ B ∧ TabI w' B f ∧ ∀ g, Rch ps t g → f g.ix = (wy ps en g : Int)) ∨ (MW < wy ps en t ∧ e = chain 3)) ∧ Below w.heap.size w w'
/-- What holds between two rounds of count. -/
def CountI (w w5 : World) (ps : List Pce) (en : Nat) (l : List Gp) (pre : List (Fin l.length)) (W : World) : Prop :=
  ∃ k f, k ≤ l.length ∧ pre = backTo l k ∧ CInv ps en l k f ∧ TabI W (w.heap.size + 1) f ∧ Keeps (fun k => k < w5.heap.size ∧ k ≠ w.heap.size + 1) w5 W ∧ Below w.heap.size w W
theorem ownFrom_ex {β γ : Type} {B : Nat} {I : γ → β → World → Prop} (h : ∀ c, OwnFrom B (I c)) : OwnFrom B (fun s W => ∃ c, I c s W) := fun s X Y row hs hg hr => by
  obtain ⟨c, hc⟩ := hs
  exact ⟨c, h c s X Y row hc hg hr⟩
theorem count_own {w w5 : World} {ps : List Pce} {en : Nat} {l : List Gp} (hsz : w.heap.size + 2 ≤ w5.heap.size) : OwnFrom w5.heap.size (CountI w w5 ps en l) :=
  ownFrom_ex fun k => ownFrom_ex fun f => (ownFrom_pure _ (fun _ => k ≤ l.length)).and ((ownFrom_pure _ (fun pre => pre = backTo l k)).and ((ownFrom_pure _ (fun _ => CInv ps en l k f)).and
    ((own_tabI _ _ (fun _ => f)).and ((ownFrom_keeps (fun k hk => hk.1) (fun k hk => hk.1)).and (ownFrom_below' hsz)))))
where ownFrom_below' {w w5 : World} {β : Type} (hsz : w.heap.size + 2 ≤ w5.heap.size) : OwnFrom w5.heap.size (fun (_ : β) W => Below w.heap.size w W) := ownFrom_below (Nat.le_refl _) (by omega)

/-- **'for _, g := range slices.Backward(list) { .. }'**, the gap in a box of its own, whose rounds may panic. -/
theorem back_law {n : Nat} (hn : 3 ≤ n) {go : Operand} {tp : Array Tmp} {assign body : Code} {Q : Exit → Act → World → Prop} {a : Act} {w : World} {Bs : Nat}
    (hg : a.eval go = .func (.func 107) #[] #[.pointer (some ⟨Bs, 0, none⟩)]) (S : Nat → Prop) {sa : Option Addr} {c : Nat} {l : List Gp} (hlen : l.length ≤ 1000000) (hBs : S Bs) (hS : ∀ k, S k → k < w.heap.size)
    (hcs : w.cell? ⟨Bs, 0, none⟩ = some (.slice sa l.length c)) (hrow : GpsIn S w sa c l) (hps : tp.size = 2)
    (I : List (Fin l.length) → World → Prop) (Ix : Code → List (Fin l.length) → World → Prop) (Ip : List PanicEntry → World → Prop) (hI : OwnFrom w.heap.size I) (hIx : ∀ c, OwnFrom w.heap.size (Ix c)) (h0 : I [] w) (A : Fin l.length → Nat → Act)
    (hassign : ∀ (L : Nat) (x : Fin l.length) (W : World) (K : Act → World → Prop), K (A x W.heap.size) (W.alloc (.cells (gpC (l.get x)) 87)) →
      assign.wpIn (Fence.wide.inRound L) (n - 1 - 1) Try.prog (Exit.then K (fun _ _ _ => False)) { tmps := (tp.zip (encG l x)).foldl (fun t (p, v) => t.setIfInBounds p v) a.tmps, defers := [] } W)
    (hbody : ∀ (L : Nat) (pre : List (Fin l.length)) (x : Fin l.length) (Bx : Nat) (W : World), w.heap.size ≤ L → w.heap.size ≤ Bx → w.heap.size ≤ W.heap.size → (∃ r, W.heap[L]? = some (.loop r)) → Blk W Bx (gpC (l.get x)) 87 → (∃ k, k ≤ l.length ∧ pre ++ [x] = backTo l k) → I pre W → pre.length < l.length →
      body.wpIn (Fence.wide.inRound L) (n - 1 - 1) Try.prog (ownPostP w.heap.size (Keeps S) I Ix Ip (pre ++ [x]) W) (A x Bx) W)
    (hdone : ∀ (D : Nat) (W : World), w.heap.size ≤ D → I (backTo l 0) W → W.heap[D]? = some (.deferred (some [])) → Q .normal { a with defers := { target := .collected D, args := #[] } :: a.defers } W)
    (hstop : ∀ (D : Nat) (c : Code) (k : Nat) (W : World), w.heap.size ≤ D → k ≤ l.length → Ix c (backTo l k) W → W.heap[D]? = some (.deferred (some [])) → c.wpIn Fence.wide n Try.prog Q { a with defers := { target := .collected D, args := #[] } :: a.defers } W)
    (hpanic : ∀ (D : Nat) (ch : List PanicEntry) (W : World), w.heap.size ≤ D → Ip ch W → W.heap[D]? = some (.deferred (some [])) → Q (.panic ch) { a with defers := { target := .collected D, args := #[] } :: a.defers } W) :
    wpF n Try.prog (Code.rangeFunc go tp assign body) Q a w := by
  refine wpF_rangeFunc_own (gf := 107) (lb := #[.pointer (some ⟨Bs, 0, none⟩)]) hg (enters_of Try.func107 (by kernel_rfl) rfl)
    (back_seq (n - 1) (by omega) Bs S sa c l hlen hBs w hS hcs hrow) (fun h k => h.trans k) (keeps_b hS) (Below.refl _ _) (fun _ => by rw [hps]; rfl)
    (fun pre W => I pre W ∧ w.heap.size ≤ W.heap.size) Ix Ip (hI.and (fun _ _ _ _ hs hg _ => Nat.le_trans hs hg.size)) hIx ⟨h0, Nat.le_refl _⟩ (fun x a' W => ∃ Bx, w.heap.size ≤ Bx ∧ Blk W Bx (gpC (l.get x)) 87 ∧ a' = A x Bx)
    (fun x a' s X Y row hs hg hr => by obtain ⟨Bx, h1, h2, h3⟩ := hs; exact ⟨Bx, h1, own_blk w.heap.size Bx _ (fun _ : Unit => gpC (l.get x)) () X Y row h2 hg hr, h3⟩)
    ?assign ?body ?done ?stop hpanic
  case assign =>
    intro L pre x W K hi hK
    exact hassign L x W K (hK _ _ ((KeepsOthers.alloc _ _).from _) ⟨by simp, fun k hk => Below.heap_alloc _ _ _ (Nat.lt_of_lt_of_le (hS k hk) hi.2)⟩ ⟨hI.alloc _ hi.1, by have := hi.2; simp; omega⟩ ⟨W.heap.size, hi.2, Blk.new _ _ _, rfl⟩)
  case body =>
    rintro L pre x a' W hl' hr hsp hi ⟨Bx, h1, h2, rfl⟩ hlt
    refine wpIn_mono (hbody L pre x Bx W hl' h1 hi.2 hr h2 hsp hi.1 hlt) ?_
    rintro e a3 W3 hp
    cases e with
    | normal => exact ⟨hp.1, hp.2.1, hp.2.2, Nat.le_trans hi.2 hp.1.size⟩
    | _ => exact hp
  case done =>
    rintro D xs W hD rfl hi hK
    exact hdone D W hD hi.1 hK
  case stop =>
    rintro D c pre W hD ⟨k, hk, rfl⟩ hi hK
    exact hstop D c k W hD hk hi hK

set_option maxRecDepth 100000 in
set_option maxHeartbeats 16000000 in
theorem count_any (t : Gp) (en : Nat) (pa : Option Addr) (pc : Nat) (ps : List Pce) (w : World) (ht : t.ok) (hen : en ≤ 9) (hok : ∀ x ∈ ps, x.ok) (hlen : ps.length ≤ 10) (hrow : IsPcs w pa pc ps) :
    Calls Try.prog 83 #[.agg #[.int .i64 (t.n : Int), .int .i64 (t.p : Int), .int .i64 (en : Int), .slice pa ps.length pc]] w (CountSaid ps t en w) := by
  refine calls_of_wpF (n := 5) Try.func83 rfl ?_
  have hal := run_allocI
  have HOK := Lib.hid hok
  have HT := Lib.hid ht
  have HEN := Lib.hid (show (Gp.mk 0 en).ok from ⟨by show 0 ≤ 2000; omega, hen⟩)
  have HROW := Lib.hid hrow
  have HLEN := Lib.hid hlen
  clear hok ht hrow hen hlen
  simp only [Try.ntmps83, List.size_toArray, List.length_cons, List.length_nil, Nat.reduceAdd, Nat.reduceSub, Array.replicate_succ, Array.replicate_zero, List.push_toArray, List.append_toArray, List.nil_append, List.cons_append]
  refine wpF_seq ?_
  gi_wp2_with fail
  refine wpF_seq ?_
  gi_wp2_with fail
  clear hal
  have k1 := (Blk.new w 24 #[.int .i64 (t.n : Int), .int .i64 (t.p : Int), .int .i64 (en : Int), .slice pa ps.length pc]).alloc (.cells Try.zeroCells116 116)
  have hT := TabI.new (w.alloc (.cells #[.int .i64 (t.n : Int), .int .i64 (t.p : Int), .int .i64 (en : Int), .slice pa ps.length pc] 24))
  have hb1 : Below w.heap.size w ((w.alloc (.cells #[.int .i64 (t.n : Int), .int .i64 (t.p : Int), .int .i64 (en : Int), .slice pa ps.length pc] 24)).alloc (.cells Try.zeroCells116 116)) := ((Below.refl _ w).alloc (Nat.le_refl _) _).alloc (by simp) _
  rw [World.size_alloc] at hT
  have hs1 : ((w.alloc (.cells #[.int .i64 (t.n : Int), .int .i64 (t.p : Int), .int .i64 (en : Int), .slice pa ps.length pc] 24)).alloc (.cells Try.zeroCells116 116)).heap.size = w.heap.size + 2 := by simp
  generalize ((w.alloc (.cells #[.int .i64 (t.n : Int), .int .i64 (t.p : Int), .int .i64 (en : Int), .slice pa ps.length pc] 24)).alloc (.cells Try.zeroCells116 116)) = w1 at *
  have HS1 := Lib.hid hs1
  have HB1 := Lib.hid hb1
  have K1 := Lib.hid k1
  have HT1 := Lib.hid hT
  obtain ⟨r0, r1, r2, r3⟩ := rdg_cells (R := ⟨t.n, t.p, en, pa, pc, ps⟩) k1
  have hlr := k1.lt
  clear hs1 hb1 k1 hT
  refine wpF_seq ?_
  gi_wp2_with fail
  refine ⟨trivial, ?_⟩
  refine (callsIn_wide.2 (closed_any ⟨t.n, t.p, en, pa, pc, ps⟩ _)).mono ?_
  rintro e w2 ⟨rfl, hb2⟩
  have K2 := Lib.hid (K1.out.belowS hb2)
  have HT2 := Lib.hid (HT1.out.of_block (hb2.block _ HT1.out.lt))
  have HB2 := Lib.hid (HB1.out.trans (hb2.mono HB1.out.size))
  have HS2 := Lib.hid (show w.heap.size + 2 ≤ w2.heap.size by have := hb2.size; have := HS1.out; omega)
  clear r0 r1 r2 r3 hlr hb2 K1 HT1 HB1 HS1
  dsimp only
  gi_wp2_with fail
  refine ⟨trivial, ?_⟩
  refine (callsIn_wide.2 (atI_any (w.heap.size + 1) ⟨0, en⟩ _ HEN.out)).mono ?_
  rintro e w3 ⟨rfl, hb3⟩
  have k3 := K2.out.belowS hb3
  have hT3 := HT2.out.of_block (hb3.block _ HT2.out.lt)
  have HB3 := Lib.hid (HB2.out.trans (hb3.mono HB2.out.size))
  have HS3 := Lib.hid (Nat.le_trans HS2.out hb3.size)
  have hix := ix_lt HEN.out
  have hc := hT3.cell hix
  have hz := hT3.frozen (Gp.mk 0 en).ix
  have hl := hT3.lt
  have KR := Lib.hid (k3.other (B' := w.heap.size + 1) (i := (Gp.mk 0 en).ix) (by omega) (.int .i64 1))
  have HTB := Lib.hid (hT3.set (Gp.mk 0 en).ix 1)
  have hsz4 : (w3.setCell ⟨w.heap.size + 1, (Gp.mk 0 en).ix, none⟩ (.int .i64 1)).heap.size = w3.heap.size := by simp [World.setCell]
  have HB4 := Lib.hid (HB3.out.setCell (p := ⟨w.heap.size + 1, (Gp.mk 0 en).ix, none⟩) (by show w.heap.size ≤ w.heap.size + 1; omega) (.int .i64 1))
  clear K2 HT2 HB2 HS2 k3 hT3 hb3 hix
  dsimp only
  gi_wp2_with fail
  generalize w3.setCell ⟨w.heap.size + 1, (Gp.mk 0 en).ix, none⟩ (.int .i64 1) = w0 at *
  have HS4 := Lib.hid (show w.heap.size + 2 ≤ w0.heap.size by rw [hsz4]; exact HS3.out)
  clear hc hz hl hsz4 HS3 HB3
  refine wpF_seqF ?_
  refine wpF_seq ?_
  obtain ⟨r0, r1, r2, r3⟩ := rdg_cells (R := ⟨t.n, t.p, en, pa, pc, ps⟩) KR.out
  have hlr := KR.out.lt
  gi_wp2_with fail
  refine ⟨trivial, ?_⟩
  refine (callsIn_wide.2 (gapsOf_any t en pa pc ps _ HT.out HOK.out (HROW.out.belowS HB4.out))).mono ?_
  rintro e w4 ⟨ga, gc, l, rfl, hown, hgok, hll, hb4⟩
  have K4 := Lib.hid (KR.out.belowS hb4)
  have HT4 := Lib.hid (HTB.out.of_block (hb4.block _ HTB.out.lt))
  have HB5 := Lib.hid (HB4.out.trans (hb4.mono HB4.out.size))
  have HS5 := Lib.hid (Nat.le_trans HS4.out hb4.size)
  have HOWN := Lib.hid hown
  have HGOK := Lib.hid hgok
  have HLL := Lib.hid hll
  clear r0 r1 r2 r3 hlr hb4 hown hgok hll KR HTB
  dsimp only
  gi_wp2_with fail
  refine ⟨trivial, ?_⟩
  refine (callsIn_wide.2 (backward_any ga l.length gc _)).mono ?_
  rintro e w5 ⟨rfl, hw5⟩
  have ks5 : Blk w5 w4.heap.size #[.slice ga l.length gc] 118 := by rw [hw5]; exact Blk.new w4 _ _
  have hb5 : Below w4.heap.size w4 w5 := by rw [hw5]; exact (Below.refl _ _).alloc (Nat.le_refl _) _
  have hsz5 : w5.heap.size = w4.heap.size + 1 := by rw [hw5]; simp
  have hT5 := HT4.out.of_block (hb5.block _ HT4.out.lt)
  have hown5 := row_keep HOWN.out (fun k _ hk _ => hb5.block k hk)
  have K5 := Lib.hid (K4.out.belowS hb5)
  have HB6 := Lib.hid (HB5.out.trans (hb5.mono HB5.out.size))
  have KS5 := Lib.hid ks5
  have HS6 := Lib.hid hsz5
  have HT5 := Lib.hid hT5
  have HOWN5 := Lib.hid hown5
  clear hw5 ks5 hb5 hsz5 hT5 hown5
  dsimp only
  gi_wp2_with fail
  refine wpF_block ?_
  have hS : ∀ k, (k < w5.heap.size ∧ k ≠ w.heap.size + 1) → k < w5.heap.size := fun k hk => hk.1
  refine back_law (n := 5) (by omega) (Bs := w4.heap.size) rfl (fun k => k < w5.heap.size ∧ k ≠ w.heap.size + 1) (l := l) (by have := HLL.out; omega) ⟨KS5.out.lt, by have := HS5.out; omega⟩ hS (KS5.out.cell 0) (gps_in HOWN5.out (fun k h1 h2 _ => ⟨h2, by have := HS4.out; omega⟩)) rfl
    (CountI w w5 ps en l) (fun _ _ _ => False) (fun ch W => ch = [{ v := .iface 28 (.int .i64 3), recovered := false }] ∧ MW < wy ps en t ∧ Below w.heap.size w W)
    (count_own (by have := HS5.out; have := HS6.out; omega)) (fun c => ownFrom_pure _ (fun _ => False)) ⟨l.length, _, Nat.le_refl _, (backTo_all l).symm, CInv.init HEN.out.2, HT5.out, Keeps.refl _ _, HB6.out⟩
    (fun x Bx => { tmps := #[.agg #[.int .i64 (t.n : Int), .int .i64 (t.p : Int), .int .i64 (en : Int), .slice pa ps.length pc], .pointer (some ⟨w.heap.size, 0, none⟩), .pointer none, .pointer (some ⟨w.heap.size + 1, 0, none⟩), undef, .pointer (some ⟨Bx, 0, none⟩), undef, undef, .agg #[.int .i64 (t.n : Int), .int .i64 (t.p : Int), .int .i64 (en : Int), .slice pa ps.length pc], .agg #[.int .i64 0, .int .i64 (en : Int)], .pointer (some ⟨w.heap.size + 1, (Gp.mk 0 en).ix, none⟩), .pointer (some ⟨w.heap.size + 1, (Gp.mk 0 en).ix, none⟩), .agg #[.int .i64 (t.n : Int), .int .i64 (t.p : Int), .int .i64 (en : Int), .slice pa ps.length pc], .slice ga l.length gc, .func (.func 107) #[] #[.pointer (some ⟨w4.heap.size, 0, none⟩)], .int .i64 (x.1 : Int), .agg #[.int .i64 ((l.get x).n : Int), .int .i64 ((l.get x).p : Int)], undef, undef, undef, undef, undef, undef, undef, undef, undef, undef, undef, undef, undef, undef, undef, undef, undef, undef, undef, undef, undef, undef], defers := [] }) ?assign ?body ?done ?stop ?panic
  case assign =>
    intro L x W K hK
    unfold encG at *
    gi_wp2
    exact hK
  case stop =>
    rintro D c k W hD hk h hDef
    exact h.elim
  case panic =>
    rintro D ch W hD ⟨rfl, hm, hb⟩ hDef
    refine leaves_marks (n := w.heap.size) (by simp) [D] W ⟨by simp, fun E hE => by obtain rfl := List.mem_singleton.1 hE; exact ⟨by have := HS5.out; have := HS6.out; omega, hDef⟩⟩ hb.size (fun W' hb' _ => ⟨.inr ⟨hm, rfl⟩, hb.trans hb'⟩)
  case done =>
    rintro D W hD ⟨k, f, hk, hpre, hC, hTW, hKW, hBW⟩ hDef
    obtain rfl := backTo_inj (Nat.zero_le _) hk hpre
    have hM : wy ps en t ≤ MW := by
      obtain ⟨j, hj⟩ := List.getElem?_of_mem HGOK.out.top
      exact (hC.done j t (Nat.zero_le _) hj).2
    have hall : ∀ g, Rch ps t g → f g.ix = (wy ps en g : Int) := fun g hg => by
      obtain ⟨j, hj⟩ := List.getElem?_of_mem (HGOK.out.has hg)
      exact (hC.done j g (Nat.zero_le _) hj).1
    have HC := Lib.hid (And.intro hM hall)
    clear hC hM hall hpre hS
    refine wpF_of ?_
    gi_wp2
    refine leaves_marks (n := w.heap.size) (by simp) [D] W ⟨by simp, fun E hE => by obtain rfl := List.mem_singleton.1 hE; exact ⟨by have := HS5.out; have := HS6.out; omega, hDef⟩⟩ hBW.size (fun W' hb' hk' => ?_)
    refine ⟨.pointer (some ⟨w.heap.size + 1, 0, none⟩), by simp [results, Try.results83, go_sem], .inl ⟨HC.out.1, w.heap.size + 1, f, rfl, by omega, ?_, HC.out.2⟩, hBW.trans hb'⟩
    obtain ⟨cs, hcs, hrest⟩ := hTW
    exact ⟨cs, hk' _ _ hcs (by simp), hrest⟩
  case body =>
    rintro L pre x Bx W hL hBx hWs ⟨r, hr⟩ hE ⟨q, hq0, hpre⟩ ⟨k, f, hk, rfl, hC, hTW, hKW, hBW⟩ hlt
    obtain ⟨rfl, hq, rfl⟩ := backTo_next hk hq0 hpre
    have hlq : l[q]? = some (l.get ⟨q, hq⟩) := List.getElem?_eq_getElem hq
    generalize l.get ⟨q, hq⟩ = G at *
    have hGo : G.ok := (HGOK.out.all G (List.mem_of_getElem? hlq)).1
    have hat := hC.at HGOK.out hlq
    have hkid := hC.kid HGOK.out HOK.out hlq
    have HGO := Lib.hid hGo
    have HAT := Lib.hid hat
    have HKID := Lib.hid hkid
    have HLQ := Lib.hid hlq
    have HC := Lib.hid hC
    have HR := Lib.hid hr
    have hS6 := HS6.out
    have hS5 := HS5.out
    have KB := Lib.hid (show Blk W w.heap.size #[.int .i64 (t.n : Int), .int .i64 (t.p : Int), .int .i64 (en : Int), .slice pa ps.length pc] 24 from (hKW.block _ ⟨K5.out.lt, by omega⟩).trans K5.out)
    have HEB := Lib.hid hE
    have HTW := Lib.hid hTW
    have HKW := Lib.hid hKW
    have HBW := Lib.hid hBW
    have HQ := Lib.hid (And.intro hk hpre)
    obtain ⟨e0, e1⟩ := gp_cells (g := G) hE
    have lE := hE.lt
    obtain ⟨r0, r1, r2, r3⟩ := rdg_cells (R := ⟨t.n, t.p, en, pa, pc, ps⟩) KB.out
    have hlr := KB.out.lt
    clear hGo hat hkid hlq hC hE hTW hKW hBW hk hpre hr hS5 hS6 r0 r1 r2 hq0
    gi_wp2_with fail
    refine ⟨trivial, ?_⟩
    refine (calls_round (next_any G _ _ _ _)).mono ?_
    rintro e W7 ⟨rfl, hW7⟩
    have kg7 : Blk W7 W.heap.size #[.int .i64 (G.n : Int), .int .i64 (G.p : Int)] 87 := by rw [hW7]; exact (Blk.new W _ _).alloc _
    have ks7 : Blk W7 (W.heap.size + 1) #[.slice pa ps.length pc] 22 := by rw [hW7]; have := Blk.new (W.alloc (.cells #[.int .i64 (G.n : Int), .int .i64 (G.p : Int)] 87)) 22 #[.slice pa ps.length pc]; rwa [World.size_alloc] at this
    have hb7 : Below W.heap.size W W7 := by rw [hW7]; exact ((Below.refl _ _).alloc (Nat.le_refl _) _).alloc (by simp) _
    have hsz7 : W7.heap.size = W.heap.size + 2 := by rw [hW7]; simp
    have hT7 := HTW.out.of_block (hb7.block _ HTW.out.lt)
    have hlT : w.heap.size + 2 ≤ W.heap.size := by have := HS5.out; have := HS6.out; omega
    have hL7 : W7.heap[L]? = some (.loop r) := (hb7.block L (Array.getElem?_eq_some_iff.1 HR.out).1).trans HR.out
    have hB7 := HBW.out.trans (hb7.mono HBW.out.size)
    have hS2 : ∀ k, (k < W7.heap.size ∧ k ≠ w.heap.size + 1) → k < W7.heap.size := fun k hk => hk.1
    have hpin : PcsIn (fun k => k < W7.heap.size ∧ k ≠ w.heap.size + 1) W7 pa pc ps := by
      rcases HROW.out with h | ⟨b, off, e, hl, hc, hc', hp⟩
      · exact .inl h
      · exact .inr ⟨b, off, e, ⟨by have := hB7.size; omega, by omega⟩, hc, hc', fun j x hj => PceAt.keep (bcell hB7).1 _ _ _ hl (hp j x hj)⟩
    have HE7 := Lib.hid (HEB.out.belowS hb7)
    have HKF7 := Lib.hid (show KeepsFrom w5.heap.size W W7 from (others_of hb7).from _)
    have HK7 := Lib.hid (show Keeps (fun k => k < w5.heap.size ∧ k ≠ w.heap.size + 1) W W7 from Keeps.of_below hb7 (fun k h => Nat.lt_of_lt_of_le h.1 hWs))
    clear hW7 hb7 e0 e1 r3
    dsimp only
    gi_wp2_with fail
    refine next_lawN (n := 3) (by omega) (r₀ := r) (Bs := W.heap.size + 1) (Bg := W.heap.size) hL7 rfl (fun k => k < W7.heap.size ∧ k ≠ w.heap.size + 1) (G := G) HGO.out HOK.out ⟨ks7.lt, by omega⟩ ⟨kg7.lt, by omega⟩ hS2 (ks7.cell 0) (kg7.cell 0) (kg7.cell 1) hpin rfl
      (fun pre W' => TabI W' (w.heap.size + 1) (setF f G.ix ((baseW en G + sumN ps en G pre : Nat) : Int)) ∧ (Keeps (fun k => k < W7.heap.size ∧ k ≠ w.heap.size + 1) W7 W' ∧ (Below w.heap.size w W' ∧ KeepsFrom w5.heap.size W7 W')))
      (fun _ _ _ => False)
      ((own_tabI _ _ (fun pre => setF f G.ix ((baseW en G + sumN ps en G pre : Nat) : Int))).and ((ownFrom_keeps (S := fun k => k < W7.heap.size ∧ k ≠ w.heap.size + 1) hS2 hS2).and ((ownFrom_below (Nat.le_refl _) (by have := hB7.size; omega)).and (ownFrom_keepsFrom (Nat.le_refl _)))))
      (fun c => ownFrom_pure _ (fun _ => False)) ⟨by rw [show setF f G.ix ((baseW en G + sumN ps en G [] : Nat) : Int) = f by rw [show baseW en G + sumN ps en G [] = baseW en G from rfl, ← HAT.out, setF_same]]; exact hT7, Keeps.refl _ _, hB7, KeepsFrom.refl _ _⟩
      (fun y By => { tmps := #[.agg #[.int .i64 (t.n : Int), .int .i64 (t.p : Int), .int .i64 (en : Int), .slice pa ps.length pc], .pointer (some ⟨w.heap.size, 0, none⟩), .pointer none, .pointer (some ⟨w.heap.size + 1, 0, none⟩), undef, .pointer (some ⟨Bx, 0, none⟩), undef, .pointer (some ⟨By, 0, none⟩), .agg #[.int .i64 (t.n : Int), .int .i64 (t.p : Int), .int .i64 (en : Int), .slice pa ps.length pc], .agg #[.int .i64 0, .int .i64 (en : Int)], .pointer (some ⟨w.heap.size + 1, (Gp.mk 0 en).ix, none⟩), .pointer (some ⟨w.heap.size + 1, (Gp.mk 0 en).ix, none⟩), .agg #[.int .i64 (t.n : Int), .int .i64 (t.p : Int), .int .i64 (en : Int), .slice pa ps.length pc], .slice ga l.length gc, .func (.func 107) #[] #[.pointer (some ⟨w4.heap.size, 0, none⟩)], .int .i64 (q : Int), .agg #[.int .i64 (G.n : Int), .int .i64 (G.p : Int)], .agg #[.int .i64 (G.n : Int), .int .i64 (G.p : Int)], .pointer (some ⟨w.heap.size, 3, none⟩), .slice pa ps.length pc, .func (.func 103) #[] #[.pointer (some ⟨W.heap.size + 1, 0, none⟩), .pointer (some ⟨W.heap.size, 0, none⟩)], .int .i64 (y.1.1 : Int), .agg #[.int .i64 ((nxB G ps y).n : Int), .int .i64 ((nxB G ps y).p : Int)], undef, undef, undef, undef, undef, undef, undef, undef, undef, undef, undef, undef, undef, undef, undef, undef], defers := [] }) ?assign2 ?body2 ?done2 ?stop2
    case assign2 =>
      intro L' y W' K hK
      unfold encN at *
      gi_wp2
      exact hK
    case stop2 =>
      rintro c k W' hk h
      exact h.elim
    case done2 =>
      rintro W' ⟨hm, hk, hb, hkf⟩
      rw [← wy_nx HOK.out en G] at hm
      have hEW : Blk W' Bx (gpC G) 87 := (hk.block _ ⟨HE7.out.lt, by have := HS5.out; have := HS6.out; omega⟩).trans HE7.out
      have HKF := Lib.hid (show KeepsFrom w5.heap.size W W' from HKF7.out.trans hkf)
      have HKS := Lib.hid (show Keeps (fun k => k < w5.heap.size ∧ k ≠ w.heap.size + 1) W W' from ⟨Nat.le_trans HK7.out.size hk.size, fun k h => (hk.block k ⟨by have := h.1; omega, h.2⟩).trans (HK7.out.block k h)⟩)
      have HB := Lib.hid hb
      have HM := Lib.hid hm
      obtain ⟨e0, e1⟩ := gp_cells (g := G) hEW
      have lE := hEW.lt
      have hlT' := hm.lt
      clear hm hk hb hkf hEW hT7 kg7 ks7 hpin hS2 hL7 hB7 hsz7 hS
      gi_wp2_with fail
      refine ⟨trivial, ?_⟩
      refine (calls_round (atI_any (w.heap.size + 1) G _ HGO.out)).mono ?_
      rintro e W8 ⟨rfl, hb8⟩
      have hm8 := HM.out.of_block (hb8.block _ HM.out.lt)
      have hcv := hm8.cell (ix_lt HGO.out)
      rw [show setF f G.ix (wy ps en G : Int) G.ix = (wy ps en G : Int) by simp [setF]] at hcv
      have HM8 := Lib.hid hm8
      have HB8 := Lib.hid hb8
      have hl8 := hm8.lt
      obtain ⟨V, hV⟩ : ∃ V : Int, (wy ps en G : Int) = V := ⟨_, rfl⟩
      rw [hV] at hcv
      obtain ⟨bb, hbb⟩ : ∃ bb, decide (V ≤ 1000000000000000) = bb := ⟨_, rfl⟩
      have HV := Lib.hid (And.intro hV hbb)
      clear hm8 hb8 e0 e1 lE hV
      dsimp only
      gi_wp2_with fail
      refine ⟨trivial, ?_⟩
      refine (calls_round (require_any bb 3 _)).mono ?_
      rintro e W9 ⟨h, rfl⟩
      have hfin : KeepsFrom w5.heap.size W W9 ∧ Keeps (fun k => k < w5.heap.size ∧ k ≠ w.heap.size + 1) W W9 ∧ Below w.heap.size w W9 :=
        ⟨HKF.out.trans ((others_of HB8.out).from _), HKS.out.trans (Keeps.of_below HB8.out (HKS.out.lt (fun k h => Nat.lt_of_lt_of_le h.1 hWs))), HB.out.trans (HB8.out.mono HB.out.size)⟩
      have HF := Lib.hid hfin
      have HBB := Lib.hid hbb
      clear hcv hl8 hbb hfin
      rcases h with ⟨rfl, rfl⟩ | ⟨rfl, rfl⟩
      · gi_wp2
        have hM : wy ps en G ≤ MW := by
          have h1 := HV.out.1
          have h2 := of_decide_eq_true HV.out.2
          unfold MW
          omega
        exact ⟨HF.out.1, HF.out.2.1, q, _, by omega, (backTo_step hq).symm, HC.out.step HGOK.out HLQ.out hM, HM8.out, HKW.out.trans HF.out.2.1, HF.out.2.2⟩
      · refine ⟨rfl, HF.out.1, rfl, ?_, HF.out.2.2⟩
        have h1 := HV.out.1
        have h2 := of_decide_eq_false HV.out.2
        have h3 := wy_rch HOK.out en (HGOK.out.rch G (List.mem_of_getElem? HLQ.out))
        unfold MW
        omega
    case body2 =>
      rintro L' pre2 y By V hBy hVs hEy ⟨hm, hk, hb, hkf⟩ hlt2
      obtain ⟨k1, k2, k3, k4⟩ := HKID.out y
      have hsn := sumN_snoc ps en G pre2 y
      have hsl := sumN_le (M := MW) (fun y => (HKID.out y).2.1) pre2
      have hEV : Blk V Bx (gpC G) 87 := (hk.block _ ⟨HE7.out.lt, by have := HS5.out; have := HS6.out; omega⟩).trans HE7.out
      have hb0 : baseW en G ≤ 1 := by unfold baseW; split <;> omega
      have hcg := hm.cell (ix_lt HGO.out)
      have hcy := hm.cell (ix_lt k4)
      rw [show ∀ v : Int, setF f G.ix v G.ix = v from fun v => by simp [setF]] at hcg
      rw [show ∀ v : Int, setF f G.ix v (nxB G ps y).ix = f (nxB G ps y).ix from fun v => by simp [setF, k3], k1] at hcy
      have hadd : IntKind.i64.wrap (((baseW en G + sumN ps en G pre2 : Nat) : Int) + (wy ps en (nxB G ps y) : Int)) = ((baseW en G + sumN ps en G (pre2 ++ [y]) : Nat) : Int) := by
        have h10 : MW * pre2.length ≤ MW * 10 := Nat.mul_le_mul_left _ (by have := HLEN.out; omega)
        rw [hsn, IntKind.wrap_i64]
        unfold MW at *
        omega
      obtain ⟨vs, hvs⟩ : ∃ vs, ((baseW en G + sumN ps en G (pre2 ++ [y]) : Nat) : Int) = vs := ⟨_, rfl⟩
      rw [hvs] at hadd
      have HVS := Lib.hid hvs
      clear hvs hsn
      generalize ((baseW en G + sumN ps en G pre2 : Nat) : Int) = va at *
      generalize (wy ps en (nxB G ps y) : Int) = vb at *
      generalize nxB G ps y = Y at *
      have HYO := Lib.hid k4
      have HM := Lib.hid hm
      have HK := Lib.hid hk
      have HB := Lib.hid hb
      have HKF := Lib.hid hkf
      obtain ⟨e0, e1⟩ := gp_cells (g := G) hEV
      obtain ⟨y0, y1⟩ := gp_cells (g := Y) hEy
      have lE := hEV.lt
      have lY := hEy.lt
      have lT := hm.lt
      have hmk : ∀ w', Below V.heap.size V w' → (Below V.heap.size V w' ∧ ((w'.cell? ⟨Bx, 0, none⟩ = some (.int .i64 (G.n : Int)) ∧ w'.cell? ⟨Bx, 1, none⟩ = some (.int .i64 (G.p : Int))) ∧ (w'.cell? ⟨By, 0, none⟩ = some (.int .i64 (Y.n : Int)) ∧ w'.cell? ⟨By, 1, none⟩ = some (.int .i64 (Y.p : Int))) ∧ w'.cell? ⟨w.heap.size + 1, G.ix, none⟩ = some (.int .i64 va) ∧ w'.cell? ⟨w.heap.size + 1, Y.ix, none⟩ = some (.int .i64 vb))) :=
        fun w' h => ⟨h, ⟨(h.cell (p := ⟨Bx, 0, none⟩) lE).trans e0, (h.cell (p := ⟨Bx, 1, none⟩) lE).trans e1⟩, ⟨(h.cell (p := ⟨By, 0, none⟩) lY).trans y0, (h.cell (p := ⟨By, 1, none⟩) lY).trans y1⟩, (h.cell (p := ⟨w.heap.size + 1, G.ix, none⟩) lT).trans hcg, (h.cell (p := ⟨w.heap.size + 1, Y.ix, none⟩) lT).trans hcy⟩
      have HMK := Lib.hid hmk
      have HAD := Lib.hid hadd
      clear hm hk hb hkf hEy hEV hT7 kg7 ks7 hpin hS2 hL7 hB7 hsz7 hS k1 k2 k3 k4 hsl hb0 hcg hcy e0 e1 y0 y1 lE lY lT hmk hadd
      gi_wp2_with fail
      refine wpIn_region_E 10 (fun w' => Below V.heap.size V w' ∧ ((w'.cell? ⟨Bx, 0, none⟩ = some (.int .i64 (G.n : Int)) ∧ w'.cell? ⟨Bx, 1, none⟩ = some (.int .i64 (G.p : Int))) ∧ (w'.cell? ⟨By, 0, none⟩ = some (.int .i64 (Y.n : Int)) ∧ w'.cell? ⟨By, 1, none⟩ = some (.int .i64 (Y.p : Int))) ∧ w'.cell? ⟨w.heap.size + 1, G.ix, none⟩ = some (.int .i64 va) ∧ w'.cell? ⟨w.heap.size + 1, Y.ix, none⟩ = some (.int .i64 vb))) (by kernel_rfl) (by kernel_rfl) (by rintro ⟨_, _, h⟩; exact h) ?_
      have hx0 := HMK.out V.drew (Below.refl _ _).drew
      refine E_take (i := 0) (oi := _) (v := ?v1) rfl (by kernel_rfl) (by kernel_rfl) (by kernel_rfl) (by kernel_rfl) (fun _ _ _ h => h) hx0 (Or.inl ⟨by rfl, ?y1⟩) ?r1
      case y1 => (intro w' hSw; (try dsimp only at hSw); go_simp; try with_reducible rfl)
      try simp only [Act.put, List.getElem_toArray, List.getElem_cons_zero, List.getElem_cons_succ, List.setIfInBounds_toArray, List.set_cons_zero, List.set_cons_succ]
      refine E_take (i := 4) (oi := _) (v := ?v2) rfl (by kernel_rfl) (by kernel_rfl) (by kernel_rfl) (by kernel_rfl) (fun _ _ _ h => h) hx0 (Or.inl ⟨by rfl, ?y2⟩) ?r2
      case y2 => (intro w' hSw; (try dsimp only at hSw); go_simp; try with_reducible rfl)
      try simp only [Act.put, List.getElem_toArray, List.getElem_cons_zero, List.getElem_cons_succ, List.setIfInBounds_toArray, List.set_cons_zero, List.set_cons_succ]
      refine E_step (i := 1) (o := _) (by kernel_rfl) rfl (fun K hK => ?_)
      go_simp
      refine (atI_any (w.heap.size + 1) G _ HGO.out).mono ?_
      rintro e w6 ⟨rfl, hb6⟩
      dsimp only
      refine hK.out _ _ (fun _ => HMK.out _ ((Below.refl _ V).drew.trans hb6)) ?_
      clear hK K
      try simp only [Act.put, List.getElem_toArray, List.getElem_cons_zero, List.getElem_cons_succ, List.setIfInBounds_toArray, List.set_cons_zero, List.set_cons_succ]
      have hB6 := (Below.refl V.heap.size V).drew.trans hb6
      have hx6 := HMK.out w6 hB6
      refine E_take (i := 2) (oi := _) (v := ?v3) rfl (by kernel_rfl) (by kernel_rfl) (by kernel_rfl) (by kernel_rfl) (fun _ _ _ h => h) hx6 (Or.inl ⟨by rfl, ?y3⟩) ?r3
      case y3 => (intro w' hSw; (try dsimp only at hSw); go_simp; try with_reducible rfl)
      try simp only [Act.put, List.getElem_toArray, List.getElem_cons_zero, List.getElem_cons_succ, List.setIfInBounds_toArray, List.set_cons_zero, List.set_cons_succ]
      refine E_take (i := 3) (oi := _) (v := ?v4) rfl (by kernel_rfl) (by kernel_rfl) (by kernel_rfl) (by kernel_rfl) (fun _ _ _ h => h) hx6 (Or.inl ⟨by rfl, ?y4⟩) ?r4
      case y4 => (intro w' hSw; (try dsimp only at hSw); go_simp; try with_reducible rfl)
      try simp only [Act.put, List.getElem_toArray, List.getElem_cons_zero, List.getElem_cons_succ, List.setIfInBounds_toArray, List.set_cons_zero, List.set_cons_succ]
      refine E_step (i := 5) (o := _) (by kernel_rfl) rfl (fun K hK => ?_)
      go_simp
      refine (atI_any (w.heap.size + 1) Y _ HYO.out).mono ?_
      rintro e w8 ⟨rfl, hb8⟩
      dsimp only
      refine hK.out _ _ (fun _ => HMK.out _ (hB6.trans (hb8.mono hB6.size))) ?_
      clear hK K
      try simp only [Act.put, List.getElem_toArray, List.getElem_cons_zero, List.getElem_cons_succ, List.setIfInBounds_toArray, List.set_cons_zero, List.set_cons_succ]
      have hB8 := hB6.trans (hb8.mono hB6.size)
      have hx8 := HMK.out w8 hB8
      have hadd := HAD.out
      refine E_take (i := 6) (oi := _) (v := ?v5) rfl (by kernel_rfl) (by kernel_rfl) (by kernel_rfl) (by kernel_rfl) (fun _ _ _ h => h) hx8 (Or.inl ⟨by rfl, ?y5⟩) ?r5
      case y5 => (intro w' hSw; (try dsimp only at hSw); go_simp; try with_reducible rfl)
      try simp only [Act.put, List.getElem_toArray, List.getElem_cons_zero, List.getElem_cons_succ, List.setIfInBounds_toArray, List.set_cons_zero, List.set_cons_succ]
      refine E_take (i := 7) (oi := _) (v := ?v6) rfl (by kernel_rfl) (by kernel_rfl) (by kernel_rfl) (by kernel_rfl) (fun _ _ _ h => h) hx8 (Or.inl ⟨by rfl, ?y6⟩) ?r6
      case y6 => (intro w' hSw; (try dsimp only at hSw); go_simp; try with_reducible rfl)
      try simp only [Act.put, List.getElem_toArray, List.getElem_cons_zero, List.getElem_cons_succ, List.setIfInBounds_toArray, List.set_cons_zero, List.set_cons_succ]
      refine E_take (i := 8) (oi := _) (v := ?v7) rfl (by kernel_rfl) (by kernel_rfl) (by kernel_rfl) (by kernel_rfl) (fun _ _ _ h => h) hx8 (Or.inl ⟨by rfl, ?y7⟩) ?r7
      case y7 => (intro w' hSw; (try dsimp only at hSw); go_simp; try with_reducible rfl)
      try simp only [Act.put, List.getElem_toArray, List.getElem_cons_zero, List.getElem_cons_succ, List.setIfInBounds_toArray, List.set_cons_zero, List.set_cons_succ]
      refine E_take (i := 9) (oi := _) (v := ?v8) rfl (by kernel_rfl) (by kernel_rfl) (by kernel_rfl) (by kernel_rfl) (fun _ _ _ h => h) hx8 (Or.inl ⟨by rfl, ?y8⟩) ?r8
      case y8 => (intro w' hSw; (try dsimp only at hSw); go_simp; try with_reducible rfl)
      try simp only [Act.put, List.getElem_toArray, List.getElem_cons_zero, List.getElem_cons_succ, List.setIfInBounds_toArray, List.set_cons_zero, List.set_cons_succ]
      have hm8 := HM.out.of_block (hB8.block _ HM.out.lt)
      have hz8 := hm8.frozen G.ix
      have hl8 := hm8.lt
      have hc8 := hm8.cell (ix_lt HGO.out)
      refine E_step (i := 10) (o := _) (by kernel_rfl) rfl (fun K hK => ?_)
      go_simp
      refine hK.out _ _ (fun h => absurd rfl h) ?_
      clear hK K
      try simp only [Act.put, List.getElem_toArray, List.getElem_cons_zero, List.getElem_cons_succ, List.setIfInBounds_toArray, List.set_cons_zero, List.set_cons_succ]
      refine E_done (by kernel_rfl) ?_ _
      have hks : Keeps (fun k => k < W7.heap.size ∧ k ≠ w.heap.size + 1) V (w8.setCell ⟨w.heap.size + 1, G.ix, none⟩ (.int .i64 vs)) := (Keeps.of_below hB8 (fun k h => Nat.lt_of_lt_of_le h.1 hVs)).setCell (fun h => h.2 rfl) _
      have hko : KeepsOthers V (w8.setCell ⟨w.heap.size + 1, G.ix, none⟩ (.int .i64 vs)) := (others_of hB8).trans (KeepsOthers.setCell _ _ _)
      refine ⟨hko.from _, hks, ?_, HK.out.trans hks, (HB.out.trans (hB8.mono HB.out.size)).setCell (by show w.heap.size ≤ w.heap.size + 1; omega) _, HKF.out.trans (hko.from _)⟩
      rw [HVS.out, ← setF_twice f G.ix va vs]
      exact hm8.set G.ix vs
end Go.Proofs.Ytmcmhgjlpffcnaa
