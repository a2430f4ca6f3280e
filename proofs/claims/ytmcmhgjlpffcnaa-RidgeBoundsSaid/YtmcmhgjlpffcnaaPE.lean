/- The range over the pieces that may come next, and all gaps that pieces can leave (gapsOf). -/
import Derived.Test.YtmcmhgjlpffcnaaPD
import Derived.Maps.OwnIn
import Derived.Deep.AppendLies
set_option linter.unusedSimpArgs false
namespace Go.Proofs.Ytmcmhgjlpffcnaa
open Go.RowKit Go.Shelf
attribute [local go_sem] Oper.semAt_some

theorem ownFrom_keeps {β : Type} {B : Nat} {S : Nat → Prop} {w₀ : World} (hS : ∀ k, S k → k < B) (hlt : ∀ k, S k → k < w₀.heap.size) : OwnFrom B (fun (_ : β) W => Keeps S w₀ W) :=
  fun _ X Y row hs hg hr => hs.trans ⟨hg.size, fun k hk => hg.block k (Nat.lt_of_lt_of_le (hlt k hk) hs.size) (fun e => by have := (hr k e.symm).1; have := hS k hk; omega)⟩

/-- **'for number, behind := range g.next(pieces) { .. }'**, the gap in a box of its own. -/
theorem next_law {n : Nat} (hn : 3 ≤ n) {go : Operand} {tp : Array Tmp} {assign body : Code} {Q : Exit → Act → World → Prop} {a : Act} {w : World} {Bs Bg : Nat}
    (hg : a.eval go = .func (.func 103) #[] #[.pointer (some ⟨Bs, 0, none⟩), .pointer (some ⟨Bg, 0, none⟩)]) (S : Nat → Prop) {sa : Option Addr} {c : Nat} {ps : List Pce} {G : Gp} (hG : G.ok) (hok : ∀ x ∈ ps, x.ok) (hBs : S Bs) (hBg : S Bg) (hS : ∀ k, S k → k < w.heap.size)
    (hcs : w.cell? ⟨Bs, 0, none⟩ = some (.slice sa ps.length c)) (hcg : w.cell? ⟨Bg, 0, none⟩ = some (.int .i64 (G.n : Int))) (hcg2 : w.cell? ⟨Bg, 1, none⟩ = some (.int .i64 (G.p : Int))) (hrow : PcsIn S w sa c ps) (hps : tp.size = 2)
    (I : List (Nx G ps) → World → Prop) (Ix : Code → List (Nx G ps) → World → Prop) (hI : OwnFrom w.heap.size I) (hIx : ∀ c, OwnFrom w.heap.size (Ix c)) (h0 : I [] w) (A : Nx G ps → Nat → Act)
    (hassign : ∀ (L : Nat) (x : Nx G ps) (W : World) (K : Act → World → Prop), K (A x W.heap.size) (W.alloc (.cells (gpC (nxB G ps x)) 87)) →
      assign.wpIn (Fence.wide.inRound L) (n - 1 - 1) Try.prog (Exit.then K (fun _ _ _ => False)) { tmps := (tp.zip (encN G ps x)).foldl (fun t (p, v) => t.setIfInBounds p v) a.tmps, defers := [] } W)
    (hbody : ∀ (L : Nat) (pre : List (Nx G ps)) (x : Nx G ps) (Bx : Nat) (W : World), w.heap.size ≤ Bx → w.heap.size ≤ W.heap.size → Blk W Bx (gpC (nxB G ps x)) 87 → I pre W → pre.length < ps.length →
      body.wpIn (Fence.wide.inRound L) (n - 1 - 1) Try.prog (ownPostG w.heap.size (Keeps S) I Ix (pre ++ [x]) W) (A x Bx) W)
    (hdone : ∀ (D : Nat) (W : World), w.heap.size ≤ D → I (nxL G ps) W → W.heap[D]? = some (.deferred (some [])) → Q .normal { a with defers := { target := .collected D, args := #[] } :: a.defers } W)
    (hstop : ∀ (D : Nat) (c : Code) (k : Nat) (W : World), w.heap.size ≤ D → k ≤ ps.length → Ix c (nxTo G ps k) W → W.heap[D]? = some (.deferred (some [])) → c.wpIn Fence.wide n Try.prog Q { a with defers := { target := .collected D, args := #[] } :: a.defers } W) :
    (Code.rangeFunc go tp assign body).wpIn Fence.wide n Try.prog Q a w := by
  refine wpIn_rangeFunc_ownH rfl (by omega) (gf := 103) (lb := #[.pointer (some ⟨Bs, 0, none⟩), .pointer (some ⟨Bg, 0, none⟩)]) hg trivial (enters_of Try.func103 (by kernel_rfl) rfl)
    (next_seq (n - 1) (by omega) Bs Bg S sa c ps G hG hok hBs hBg w hS hcs hcg hcg2 hrow).stops (fun h k => h.trans k) (keeps_b hS) (Below.refl _ _) (fun _ => by rw [hps]; rfl)
    (fun pre W => I pre W ∧ w.heap.size ≤ W.heap.size) Ix (hI.and (fun _ _ _ _ hs hg _ => Nat.le_trans hs hg.size)) hIx ⟨h0, Nat.le_refl _⟩ (fun x a' W => ∃ Bx, w.heap.size ≤ Bx ∧ Blk W Bx (gpC (nxB G ps x)) 87 ∧ a' = A x Bx)
    (fun x a' s X Y row hs hg hr => by obtain ⟨Bx, h1, h2, h3⟩ := hs; exact ⟨Bx, h1, own_blk w.heap.size Bx _ (fun _ : Unit => gpC (nxB G ps x)) () X Y row h2 hg hr, h3⟩)
    ?assign ?body ?done ?stop
  case assign =>
    intro L pre x W K hi hK
    exact hassign L x W K (hK _ _ ((KeepsOthers.alloc _ _).from _) ⟨by simp, fun k hk => Below.heap_alloc _ _ _ (Nat.lt_of_lt_of_le (hS k hk) hi.2)⟩ ⟨hI.alloc _ hi.1, by have := hi.2; simp; omega⟩ ⟨W.heap.size, hi.2, Blk.new _ _ _, rfl⟩)
  case body =>
    rintro L pre x a' W hl' hr hi ⟨Bx, h1, h2, rfl⟩ hlt
    refine wpIn_mono (hbody L pre x Bx W h1 hi.2 h2 hi.1 hlt) ?_
    rintro e a3 W3 hp
    cases e with
    | normal => exact ⟨hp.1, hp.2.1, hp.2.2, Nat.le_trans hi.2 hp.1.size⟩
    | _ => exact hp
  case done =>
    rintro D xs W hD rfl hi hK
    exact hdone D W hD hi.1 hK
  case stop =>
    rintro D c pre W hD ⟨k, hk, rfl⟩ hi hK
    exact hstop D c k W hD hk hi hK

theorem run_allocB (old : Value) (w : World) : (Instr.alloc 126 true old).run Try.prog w = .ok (.pointer (some ⟨w.heap.size, 0, none⟩)) (w.alloc (.cells Try.zeroCells126 126)) := by kernel_rfl

def markD (D : Nat) : Deferred := { target := .collected D, args := #[] }
/-- The marks of the ranges that have ended. -/
structure Marks (n : Nat) (w : World) (Ds : List Nat) : Prop where
  apart : Ds.Nodup
  at_ : ∀ D ∈ Ds, n ≤ D ∧ w.heap[D]? = some (.deferred (some []))
theorem Marks.nil (n : Nat) (w : World) : Marks n w [] := ⟨List.nodup_nil, fun _ h => by cases h⟩
theorem Marks.keep {n : Nat} {w w' : World} {Ds : List Nat} (h : Marks n w Ds) (hk : ∀ D ∈ Ds, w'.heap[D]? = w.heap[D]?) : Marks n w' Ds := ⟨h.apart, fun D hD => ⟨(h.at_ D hD).1, (hk D hD).trans (h.at_ D hD).2⟩⟩
theorem Marks.lt {n : Nat} {w : World} {Ds : List Nat} (h : Marks n w Ds) {D : Nat} (hD : D ∈ Ds) : D < w.heap.size := (Array.getElem?_eq_some_iff.1 (h.at_ D hD).2).1
theorem Marks.cons {n : Nat} {w : World} {Ds : List Nat} {D : Nat} (h : Marks n w Ds) (hD : n ≤ D) (hw : w.heap[D]? = some (.deferred (some []))) (hn : D ∉ Ds) : Marks n w (D :: Ds) :=
  ⟨List.nodup_cons.2 ⟨hn, h.apart⟩, fun E hE => by rcases List.mem_cons.1 hE with rfl | hE; exact ⟨hD, hw⟩; exact h.at_ E hE⟩
/-- A function leaves over the marks, returning or panicking. -/
theorem leaves_marks {F : Fence} {k : Nat} {P : Program} {fn : Func} {tmps : Array Value} {R : Ending → World → Prop} {n : Nat} {u : FrameMode} (hu : u ≠ .run) : ∀ (Ds : List Nat) (w : World), Marks n w Ds → n ≤ w.heap.size →
    (∀ w', Below n w w' → (∀ (j : Nat) (o : Obj), w.heap[j]? = some o → o ≠ .deferred (some []) → w'.heap[j]? = some o) → LeavesIn F k P fn tmps R [] u w') → LeavesInM F k P fn tmps R (Ds.map markD) u w
  | [], w, _, _, h => h w (Below.refl _ _) (fun _ _ h _ => h)
  | D :: Ds, w, hm, hn, h => by
    obtain ⟨hD, hw⟩ := hm.at_ D (by simp)
    have hap := List.nodup_cons.1 hm.apart
    refine ⟨hu, .inl ⟨D, _, rfl, run_takeDeferred hw, ?_⟩⟩
    have hb : Below n w (w.putObj D (.deferred none)) := below_putObj (Below.refl _ _) _ hD hn
    refine leaves_marks hu Ds _ ⟨hap.2, fun E hE => ⟨(hm.at_ E (by simp [hE])).1, (World.putObj_heap_other (fun e => hap.1 (by rw [← e]; exact hE))).trans (hm.at_ E (by simp [hE])).2⟩⟩ (Nat.le_trans hn hb.size) (fun w' hb' hk => h w' (hb.trans hb') (fun j o hj ho => ?_))
    refine hk j o ((World.putObj_heap_other (fun e => ?_)).trans hj) ho
    subst e
    rw [hw] at hj
    cases hj
    exact ho rfl

/-! ### Rows of gaps that are made by appends -/
def cellsGp (g : Gp) : List Value := [.int .i64 (g.n : Int), .int .i64 (g.p : Int)]
theorem info_gap : ∃ i, (Try.prog : Program).info? 87 = some i ∧ i.zero = some (.agg #[.int .i64 0, .int .i64 0]) ∧ i.size = 2 ∧ i.bytes = 16 := by
  have h : ((Try.prog : Program).info? 87).map (fun i => (i.zero, i.size, i.bytes)) = some (some (.agg #[.int .i64 0, .int .i64 0]), 2, 16) := by kernel_rfl
  obtain ⟨i, h1, h2⟩ := Option.map_eq_some_iff.1 h
  simp only [Prod.mk.injEq] at h2
  exact ⟨i, h1, h2.1, h2.2.1, h2.2.2⟩
theorem row_keep {w w' : World} {base sz n : Nat} {t : TypeId} {v : Value} {xs : List Value} (h : w.ownsRow base t sz v n xs) (hk : ∀ k, base ≤ k → k < w.heap.size → (∃ cs, w.heap[k]? = some (.cells cs t (0, 0))) → w'.heap[k]? = w.heap[k]?) : w'.ownsRow base t sz v n xs := by
  refine ⟨h.1, ?_⟩
  rcases h.2 with hn | ⟨g, cap, cur, e, hb, hg, rest⟩
  · exact .inl hn
  · exact .inr ⟨g, cap, cur, e, hb, (hk g hb (Array.getElem?_eq_some_iff.1 hg).1 ⟨_, hg⟩).trans hg, rest⟩
theorem flat_two (l : List Gp) : (l.flatMap cellsGp).length = l.length * 2 := by
  induction l with
  | nil => rfl
  | cons g l ih => rw [List.flatMap_cons, List.length_append, ih, List.length_cons]; simp [cellsGp]; omega
theorem flat_gp : ∀ (l : List Gp) (j : Nat) (g : Gp), l[j]? = some g → (l.flatMap cellsGp)[j * 2]? = some (.int .i64 (g.n : Int)) ∧ (l.flatMap cellsGp)[j * 2 + 1]? = some (.int .i64 (g.p : Int)) := by
  intro l
  induction l with
  | nil => intro j g h; simp at h
  | cons x l ih =>
    intro j g h
    rw [List.flatMap_cons]
    cases j with
    | zero =>
      obtain rfl : x = g := by simpa using h
      exact ⟨rfl, rfl⟩
    | succ j =>
      have := ih j g (by simpa using h)
      rw [show (j + 1) * 2 = j * 2 + 2 by omega]
      exact this
theorem gps_in {S : Nat → Prop} {w : World} {base c : Nat} {a : Option Addr} {l : List Gp} (h : w.ownsRow base 87 2 (.slice a l.length c) l.length (l.flatMap cellsGp)) (hS : ∀ k, base ≤ k → k < w.heap.size → (∃ cs, w.heap[k]? = some (.cells cs 87 (0, 0))) → S k) : GpsIn S w a c l := by
  rcases h.2 with ⟨_, h0⟩ | ⟨g, cap, cur, e, hb, hg, h1, h2, h3, h4⟩
  · exact .inl (List.eq_nil_of_length_eq_zero h0)
  · obtain ⟨rfl, _, rfl⟩ := slice_inj e
    refine .inr ⟨g, 0, rfl, hS _ hb (Array.getElem?_eq_some_iff.1 hg).1 ⟨_, hg⟩, h1, by unfold maxLen at h2; omega, fun j x hj => ?_⟩
    have hjl : j < l.length := (List.getElem?_eq_some_iff.1 hj).1
    obtain ⟨f0, f1⟩ := flat_gp l j x hj
    rw [← h4, List.getElem?_take_of_lt (by omega)] at f0 f1
    have e1 : ∀ i, w.cell? ⟨g, i, none⟩ = cur[i]? := fun i => by simp [World.cell?, hg]
    rw [Nat.zero_add, e1, e1, ← Array.getElem?_toList, ← Array.getElem?_toList]
    exact ⟨f0, f1⟩

theorem own_form {w : World} {base sz n : Nat} {t : TypeId} {v : Value} {xs : List Value} (h : w.ownsRow base t sz v n xs) : ∃ a c, v = .slice a n c := by
  rcases h.2 with ⟨e, rfl⟩ | ⟨g, cap, cur, e, _⟩
  · exact ⟨_, _, e⟩
  · exact ⟨_, _, e⟩

/-- What gapsOf returns. -/
def GapsSaid (ps : List Pce) (t : Gp) (w : World) (e : Ending) (w' : World) : Prop := ∃ a c l, e = .returned (.slice a l.length c) ∧ w'.ownsRow (w.heap.size + 2) 87 2 (.slice a l.length c) l.length (l.flatMap cellsGp) ∧ GapsOk ps t l ∧ l.length ≤ 20010 ∧ Below w.heap.size w w'
theorem own_lt {w : World} {base sz n : Nat} {t : TypeId} {v : Value} {xs : List Value} (h : w.ownsRow base t sz v n xs) {k : Nat} (hk : v.ownBlock = some k) : base ≤ k ∧ k < w.heap.size ∧ ∃ cs, w.heap[k]? = some (.cells cs t (0, 0)) := by
  rcases h.2 with ⟨rfl, _⟩ | ⟨g, cap, cur, rfl, hb, hg, _⟩
  · cases hk
  · cases hk
    exact ⟨hb, (Array.getElem?_eq_some_iff.1 hg).1, _, hg⟩
/-- The memory of gapsOf: its ridge's box, its table, its list, the marks of the ranges that have ended. -/
structure GM (w : World) (R : Array Value) (l : List Gp) (f : Nat → Bool) (v : Value) (Ds : List Nat) (W : World) : Prop where
  below : Below w.heap.size w W
  size : w.heap.size + 2 ≤ W.heap.size
  box : Blk W w.heap.size R 24
  tab : TabB W (w.heap.size + 1) f
  own : W.ownsRow (w.heap.size + 2) 87 2 v l.length (l.flatMap cellsGp)
  marks : Marks (w.heap.size + 2) W Ds
/-- What holds at the head of the loops of gapsOf. -/
structure GW (w : World) (R : Array Value) (ps : List Pce) (t : Gp) (m p : Nat) (l : List Gp) (f : Nat → Bool) (v : Value) (Ds : List Nat) (W : World) : Prop where
  mem : GM w R l f v Ds W
  inv : GInv ps t m p l f
theorem GM.after {w : World} {R : Array Value} {l : List Gp} {f : Nat → Bool} {v : Value} {Ds : List Nat} {W W' : World} (h : GM w R l f v Ds W) (hb : Below W.heap.size W W') : GM w R l f v Ds W' :=
  ⟨h.below.trans (hb.mono h.below.size), Nat.le_trans h.size hb.size, h.box.belowS hb, h.tab.of_block (hb.block _ h.tab.lt), row_keep h.own (fun k _ hk _ => hb.block k hk), h.marks.keep (fun D hD => hb.block D (h.marks.lt hD))⟩
theorem GM.push {w : World} {R : Array Value} {l : List Gp} {f : Nat → Bool} {v v' : Value} {Ds : List Nat} {W W' : World} (h : GM w R l f v Ds W) (g : Gp) (hown : W'.ownsRow (w.heap.size + 2) 87 2 v' (l.length + 1) (l.flatMap cellsGp ++ [.int .i64 (g.n : Int), .int .i64 (g.p : Int)])) (hg : W.grownBy W' v.ownBlock) : GM w R (l ++ [g]) f v' Ds W' := by
  have hk : ∀ k, k < W.heap.size → (k < w.heap.size + 2 ∨ W.heap[k]? = some (.deferred (some []))) → W'.heap[k]? = W.heap[k]? := fun k hk hc => hg.block k hk fun e => by
    obtain ⟨h1, _, cs, h2⟩ := own_lt h.own e.symm
    rcases hc with hc | hc
    · omega
    · rw [hc] at h2; cases h2
  refine ⟨h.below.grown hg h.below.size (fun k e => by have := (own_lt h.own e).1; omega), Nat.le_trans h.size hg.size, (hk _ h.box.lt (.inl (by omega))).trans h.box, h.tab.of_block (hk _ h.tab.lt (.inl (by omega))), ?_, h.marks.keep (fun D hD => hk D (h.marks.lt hD) (.inr (h.marks.at_ D hD).2))⟩
  rw [List.length_append, List.flatMap_append]
  exact hown

/-- The frame of 'gapsOf'. -/
def gaA (x0 x1 x2 x3 x4 x5 x6 x7 x8 x9 x10 x11 x12 x13 x14 x15 x16 x17 x18 x19 x20 x21 x22 x23 x24 x25 x26 x27 x28 x29 x30 x31 x32 x33 x34 x35 x36 x37 x38 x39 x40 x41 x42 x43 x44 x45 : Value) (ds : List Deferred) : Act := { tmps := #[x0, x1, x2, x3, x4, x5, x6, x7, x8, x9, x10, x11, x12, x13, x14, x15, x16, x17, x18, x19, x20, x21, x22, x23, x24, x25, x26, x27, x28, x29, x30, x31, x32, x33, x34, x35, x36, x37, x38, x39, x40, x41, x42, x43, x44, x45], defers := ds }

set_option maxRecDepth 100000 in
set_option maxHeartbeats 16000000 in
theorem gapsOf_any (t : Gp) (en : Int) (pa : Option Addr) (pc : Nat) (ps : List Pce) (w : World) (ht : t.ok) (hok : ∀ x ∈ ps, x.ok) (hrow : IsPcs w pa pc ps) :
    Calls Try.prog 102 #[.agg #[.int .i64 (t.n : Int), .int .i64 (t.p : Int), .int .i64 en, .slice pa ps.length pc]] w (GapsSaid ps t w) := by
  refine (callsIn_wide (n := 5)).1 ?_
  refine callsIn_of_wp_marks Try.func102 rfl trivial ?_ rfl
  have hal := run_allocB
  have HOK := Lib.hid hok
  have HT := Lib.hid ht
  have HROW := Lib.hid hrow
  clear hok ht hrow
  simp only [Try.ntmps102, List.size_toArray, List.length_cons, List.length_nil, Nat.reduceAdd, Nat.reduceSub, Array.replicate_succ, Array.replicate_zero, List.push_toArray, List.append_toArray, List.nil_append, List.cons_append]
  gi_wp2_with fail
  clear hal
  have k1 := (Blk.new w 24 #[.int .i64 (t.n : Int), .int .i64 (t.p : Int), .int .i64 en, .slice pa ps.length pc]).alloc (.cells Try.zeroCells126 126)
  have hT := TabB.new (w.alloc (.cells #[.int .i64 (t.n : Int), .int .i64 (t.p : Int), .int .i64 en, .slice pa ps.length pc] 24))
  have hb1 : Below w.heap.size w ((w.alloc (.cells #[.int .i64 (t.n : Int), .int .i64 (t.p : Int), .int .i64 en, .slice pa ps.length pc] 24)).alloc (.cells Try.zeroCells126 126)) := ((Below.refl _ w).alloc (Nat.le_refl _) _).alloc (by simp) _
  rw [World.size_alloc] at hT
  have hs1 : ((w.alloc (.cells #[.int .i64 (t.n : Int), .int .i64 (t.p : Int), .int .i64 en, .slice pa ps.length pc] 24)).alloc (.cells Try.zeroCells126 126)).heap.size = w.heap.size + 2 := by simp
  generalize ((w.alloc (.cells #[.int .i64 (t.n : Int), .int .i64 (t.p : Int), .int .i64 en, .slice pa ps.length pc] 24)).alloc (.cells Try.zeroCells126 126)) = w1 at *
  have HS1 := Lib.hid hs1
  clear hs1
  refine ⟨trivial, ?_⟩
  refine (callsIn_wide.2 (whole_any ⟨t.n, t.p, en, pa, pc, ps⟩ _)).mono ?_
  rintro e w2 ⟨rfl, hb2⟩
  have k2 := k1.belowS hb2
  have hT2 := hT.of_block (hb2.block _ hT.lt)
  have HB2 := Lib.hid (hb1.trans (hb2.mono hb1.size))
  have HS2 := Lib.hid (show w.heap.size + 2 ≤ w2.heap.size by have := hb2.size; have := HS1.out; omega)
  clear k1 hT hb1 hb2 HS1
  dsimp only
  gi_wp2_with fail
  refine ⟨trivial, ?_⟩
  refine (callsIn_wide.2 (atB_any (w.heap.size + 1) t _ HT.out)).mono ?_
  rintro e w3 ⟨rfl, hb3⟩
  have k3 := k2.belowS hb3
  have hT3 := hT2.of_block (hb3.block _ hT2.lt)
  have HB3 := Lib.hid (HB2.out.trans (hb3.mono HB2.out.size))
  have HS3 := Lib.hid (Nat.le_trans HS2.out hb3.size)
  clear k2 hT2 hb3 HB2 HS2
  have hix := ix_lt HT.out
  have hc := hT3.cell hix
  have hz := hT3.frozen t.ix
  have hl := hT3.lt
  obtain ⟨r0, r1, r2, r3⟩ := rdg_cells (R := ⟨t.n, t.p, en, pa, pc, ps⟩) k3
  have hlr := k3.lt
  have ho0 : (w3.setCell ⟨w.heap.size + 1, t.ix, none⟩ (.bool true)).cell? ⟨w.heap.size, 0, none⟩ = some (.int .i64 (t.n : Int)) := (k3.other (by omega) _).cell 0
  have KR := Lib.hid (k3.other (B' := w.heap.size + 1) (i := t.ix) (by omega) (.bool true))
  have HTB := Lib.hid (hT3.set t.ix true)
  have hsz4 : (w3.setCell ⟨w.heap.size + 1, t.ix, none⟩ (.bool true)).heap.size = w3.heap.size := by simp [World.setCell]
  have HB4 := Lib.hid (HB3.out.setCell (p := ⟨w.heap.size + 1, t.ix, none⟩) (by show w.heap.size ≤ w.heap.size + 1; omega) (.bool true))
  clear k3 hT3 r0 r1 r2 r3 hix
  gi_wp2_with fail
  generalize w3.setCell ⟨w.heap.size + 1, t.ix, none⟩ (.bool true) = w4 at *
  have hI0 : GW w #[.int .i64 (t.n : Int), .int .i64 (t.p : Int), .int .i64 en, .slice pa ps.length pc] ps t (t.n + 1) 0 [] (setF (fun _ => false) t.ix true) (.slice none 0 0) [] w4 :=
    ⟨⟨HB4.out, by rw [hsz4]; exact HS3.out, KR.out, HTB.out, ⟨rfl, .inl ⟨rfl, rfl⟩⟩, Marks.nil _ _⟩, GInv.init ps HT.out⟩
  clear hc hz hl hlr ho0 hsz4
  refine wpIn_loop (fun a W => ∃ (m : Nat) (l : List Gp) (f : Nat → Bool) (v : Value) (Ds : List Nat) (u6 u7 u8 u9 u16 u17 u18 u19 u20 u21 u22 u23 u24 u25 u26 u27 u28 u29 u30 u31 u32 u33 u34 u35 u36 u37 u38 u39 u40 u41 u42 u43 u44 u45 : Value), m ≤ t.n + 1 ∧ GW w #[.int .i64 (t.n : Int), .int .i64 (t.p : Int), .int .i64 en, .slice pa ps.length pc] ps t m 0 l f v Ds W ∧ a = (gaA (.agg #[.int .i64 (t.n : Int), .int .i64 (t.p : Int), .int .i64 en, .slice pa ps.length pc]) (.pointer (some ⟨w.heap.size, 0, none⟩)) (.slice none 0 0) v (.pointer (some ⟨w.heap.size + 1, 0, none⟩)) (.int .i64 ((m : Int) - 1)) u6 u7 u8 u9 (.agg #[.int .i64 (t.n : Int), .int .i64 (t.p : Int), .int .i64 en, .slice pa ps.length pc]) (.agg #[.int .i64 (t.n : Int), .int .i64 (t.p : Int)]) (.pointer (some ⟨w.heap.size + 1, t.ix, none⟩)) (.pointer (some ⟨w.heap.size + 1, t.ix, none⟩)) (.pointer (some ⟨w.heap.size, 0, none⟩)) (.int .i64 (t.n : Int)) u16 u17 u18 u19 u20 u21 u22 u23 u24 u25 u26 u27 u28 u29 u30 u31 u32 u33 u34 u35 u36 u37 u38 u39 u40 u41 u42 u43 u44 u45 (Ds.map markD)))
    (fun a _ => (intOf (a.tmps.getD 5 undef) + 1).toNat) ⟨t.n + 1, [], _, .slice none 0 0, [], undef, undef, undef, undef, undef, undef, undef, undef, undef, undef, undef, undef, undef, undef, undef, undef, undef, undef, undef, undef, undef, undef, undef, undef, undef, undef, undef, undef, undef, undef, undef, undef, undef, undef, Nat.le_refl _, hI0, (by rw [show ((t.n + 1 : Nat) : Int) - 1 = (t.n : Int) by omega]; rfl)⟩ ?round
  case round =>
    rintro a wr ⟨m, l, f, v, Ds, u6, u7, u8, u9, u16, u17, u18, u19, u20, u21, u22, u23, u24, u25, u26, u27, u28, u29, u30, u31, u32, u33, u34, u35, u36, u37, u38, u39, u40, u41, u42, u43, u44, u45, hm, hI, rfl⟩
    clear hI0 KR HTB HB4
    unfold gaA
    cases m with
    | zero =>
      gi_wp2
      refine leaves_marks (by simp) Ds _ hI.mem.marks hI.mem.size (fun W hb hk => ?_)
      obtain ⟨a, c, rfl⟩ := own_form hI.mem.own
      exact ⟨.slice a l.length c, by simp [results, Try.results102, go_sem], a, c, l, rfl, row_keep hI.mem.own (fun k _ _ ⟨cs, hcs⟩ => (hk k _ hcs (by simp)).trans hcs.symm), hI.inv.done HT.out HOK.out, hI.inv.len HT.out, hI.mem.below.trans (hb.mono (by omega))⟩
    | succ m =>
      have hmt : m ≤ t.n := by omega
      have hci : ((m + 1 : Nat) : Int) - 1 = (m : Int) := by omega
      rw [hci]
      have g0 : (0 : Int) ≤ (m : Int) := by omega
      clear hci
      gi_wp2_with fail
      refine wpIn_loop (fun a W => ∃ (p : Nat) (l : List Gp) (f : Nat → Bool) (v : Value) (Ds : List Nat) (u6 u7 u9 u21 u22 u23 u24 u25 u26 u27 u28 u29 u30 u31 u32 u33 u34 u35 u36 u37 u38 u39 u40 u41 u42 u43 u44 u45 : Value), p ≤ 10 ∧ GW w #[.int .i64 (t.n : Int), .int .i64 (t.p : Int), .int .i64 en, .slice pa ps.length pc] ps t (m + 1) p l f v Ds W ∧ a = (gaA (.agg #[.int .i64 (t.n : Int), .int .i64 (t.p : Int), .int .i64 en, .slice pa ps.length pc]) (.pointer (some ⟨w.heap.size, 0, none⟩)) (.slice none 0 0) v (.pointer (some ⟨w.heap.size + 1, 0, none⟩)) (.int .i64 (m : Int)) u6 u7 u8 u9 (.agg #[.int .i64 (t.n : Int), .int .i64 (t.p : Int), .int .i64 en, .slice pa ps.length pc]) (.agg #[.int .i64 (t.n : Int), .int .i64 (t.p : Int)]) (.pointer (some ⟨w.heap.size + 1, t.ix, none⟩)) (.pointer (some ⟨w.heap.size + 1, t.ix, none⟩)) (.pointer (some ⟨w.heap.size, 0, none⟩)) (.int .i64 (t.n : Int)) (.int .i64 (m : Int)) (.bool true) u18 u19 (.int .i64 (p : Int)) u21 u22 u23 u24 u25 u26 u27 u28 u29 u30 u31 u32 u33 u34 u35 u36 u37 u38 u39 u40 u41 u42 u43 u44 u45 (Ds.map markD)))
        (fun a _ => 10 - (intOf (a.tmps.getD 20 undef)).toNat) ⟨0, l, f, v, Ds, u6, u7, u9, u21, u22, u23, u24, u25, u26, u27, u28, u29, u30, u31, u32, u33, u34, u35, u36, u37, u38, u39, u40, u41, u42, u43, u44, u45, Nat.zero_le _, hI, rfl⟩ ?inner
      case inner =>
        clear hI
        rintro a wr ⟨p, l, f, v, Ds, u6, u7, u9, u21, u22, u23, u24, u25, u26, u27, u28, u29, u30, u31, u32, u33, u34, u35, u36, u37, u38, u39, u40, u41, u42, u43, u44, u45, hp, hI, rfl⟩
        unfold gaA
        by_cases hp9 : p < 10
        · have g1 : (p : Int) < 10 := by omega
          obtain ⟨hM, hV⟩ := hI
          have hg : (Gp.mk m p).ok := ⟨by have := HT.out.1; show m ≤ 2000; omega, by show p ≤ 9; omega⟩
          obtain ⟨a, c, rfl⟩ := own_form hM.own
          have hcp : ((p + 1 : Nat) : Int) = (p : Int) + 1 := by omega
          have HG := Lib.hid hg
          have HV := Lib.hid hV
          have HCP := Lib.hid hcp
          clear hV hcp hg
          gi_wp2_with fail
          have kG := Blk.new wr 87 #[.int .i64 (m : Int), .int .i64 (p : Int)]
          have hb0 : Below wr.heap.size wr (wr.alloc (.cells #[.int .i64 (m : Int), .int .i64 (p : Int)] 87)) := (Below.refl _ wr).alloc (Nat.le_refl _) _
          refine ⟨trivial, ?_⟩
          refine (callsIn_wide.2 (atB_any (w.heap.size + 1) ⟨m, p⟩ _ HG.out)).mono ?_
          rintro e w2 ⟨rfl, hbt⟩
          have hb2 := hb0.trans (hbt.mono hb0.size)
          have hM2 := hM.after hb2
          have kG2 := kG.belowS hbt
          have hlG := kG2.lt
          have hc := hM2.tab.cell (ix_lt HG.out)
          have hl := hM2.tab.lt
          have HM0 := Lib.hid hM
          have HM := Lib.hid hM2
          have HB2 := Lib.hid hb2
          have KG := Lib.hid kG2
          clear hM hM2 kG kG2 hb0 hbt hb2
          cases hF : f (Gp.mk m p).ix with
          | false =>
            rw [hF] at hc
            have HF := Lib.hid hF
            clear hF
            gi_wp2_with fail
            refine ⟨⟨p + 1, l, f, .slice a l.length c, Ds, ?_⟩, by simp [intOf]; omega⟩
            rw [HCP.out]
            repeat apply Exists.intro
            exact ⟨by omega, ⟨HM.out, HV.out.no HF.out⟩, rfl⟩
          | true =>
            rw [hF] at hc
            have HF := Lib.hid hF
            clear hF
            obtain ⟨d0, d1⟩ := gp_cells (g := ⟨m, p⟩) KG.out
            simp only at d0 d1
            obtain ⟨i0, hi, hz0, hz1, hz2⟩ := info_gap
            have hll := HV.out.len HT.out
            have hmx : l.length + 1 ≤ maxLen := by unfold maxLen; omega
            have HLL := Lib.hid hll
            clear hll
            have hgrow0 : ∀ k, (Value.slice a l.length c).ownBlock = some k → k < wr.heap.size := fun k hk => (own_lt HM0.out.own hk).2.1
            have HG0 := Lib.hid hgrow0
            clear hgrow0
            have HHI := Lib.hid (And.intro hi (And.intro hz0 (And.intro hz1 hz2)))
            clear hi hz0 hz1 hz2
            have kE := Blk.new w2 87 #[.int .i64 (m : Int), .int .i64 (p : Int)]
            have hb3 : Below w2.heap.size w2 (w2.alloc (.cells #[.int .i64 (m : Int), .int .i64 (p : Int)] 87)) := (Below.refl _ w2).alloc (Nat.le_refl _) _
            have HM3 := Lib.hid (HM.out.after hb3)
            have KG3 := Lib.hid (KG.out.belowS hb3)
            have HWS := Lib.hid (show w.heap.size + 2 ≤ (w2.alloc (.cells #[.int .i64 (m : Int), .int .i64 (p : Int)] 87)).heap.size from HM3.out.size)
            clear hb3
            gi_wp2_with (gi_at_builtin; refine wpListIn_append_own_at _ rfl _ _ 118 rfl (w.heap.size + 2) 87 i0 (.agg #[.int .i64 0, .int .i64 0]) 2 16 Try.underlying118 HHI.out.1 HHI.out.2.1 HHI.out.2.2.1 HHI.out.2.2.2 rfl (by decide) (.slice a l.length c) l.length _ rfl HM3.out.own ⟨w2.heap.size, 0, none⟩ 1 1 [.int .i64 (m : Int), .int .i64 (p : Int)] rfl rfl (World.news_of_block kE) (by simp [Value.oneCell']) hmx (by have := HLL.out; omega) HWS.out ?_; intro v' w6 hown6 hgrow _ _; have hM6 := HM3.out.push ⟨m, p⟩ hown6 hgrow; have kG6 := KG3.out.kept hgrow (fun e => by have := HG0.out _ e.symm; omega); obtain ⟨d0, d1⟩ := gp_cells (g := ⟨m, p⟩) kG6; simp only at d0 d1; obtain ⟨r0, r1, r2, r3⟩ := rdg_cells (R := ⟨t.n, t.p, en, pa, pc, ps⟩) hM6.box; have hlb := hM6.box.lt; have hlg := kG6.lt; have HM6 := Lib.hid hM6; have KG6 := Lib.hid kG6; clear hM6 kG6 hown6 hgrow kE hmx)
            refine ⟨trivial, ?_⟩
            refine (callsIn_wide.2 (next_any ⟨m, p⟩ _ _ _ _)).mono ?_
            rintro e w7 ⟨rfl, hw7⟩
            have kg7 : Blk w7 w6.heap.size #[.int .i64 (m : Int), .int .i64 (p : Int)] 87 := by rw [hw7]; exact (Blk.new w6 _ _).alloc _
            have ks7 : Blk w7 (w6.heap.size + 1) #[.slice pa ps.length pc] 22 := by rw [hw7]; have := Blk.new (w6.alloc (.cells #[.int .i64 (m : Int), .int .i64 (p : Int)] 87)) 22 #[.slice pa ps.length pc]; rwa [World.size_alloc] at this
            have hb7 : Below w6.heap.size w6 w7 := by rw [hw7]; exact ((Below.refl _ _).alloc (Nat.le_refl _) _).alloc (by simp) _
            have hsz7 : w7.heap.size = w6.heap.size + 2 := by rw [hw7]; simp
            have hM7 := HM6.out.after hb7
            have hrow7 := HROW.out.belowS hM7.below
            have HM7 := Lib.hid hM7
            have HS7 := Lib.hid hsz7
            have KG7 := Lib.hid kg7
            have KS7 := Lib.hid ks7
            have hS : ∀ k, (k < w7.heap.size ∧ k ≠ w.heap.size + 1) → k < w7.heap.size := fun k hk => hk.1
            have hw6 := HM6.out.size
            have hpin : PcsIn (fun k => k < w7.heap.size ∧ k ≠ w.heap.size + 1) w7 pa pc ps := by
              rcases HROW.out with h | ⟨b, off, e, hl, hc, hc', hp⟩
              · exact .inl h
              · exact .inr ⟨b, off, e, ⟨by have := hM7.below.size; omega, by omega⟩, hc, hc', fun j x hj => PceAt.keep (bcell hM7.below).1 _ _ _ hl (hp j x hj)⟩
            clear hw7 kg7 ks7 hb7 hsz7 hM7 hrow7 d0 d1 r0 r1 r2 r3 hlb hlg
            dsimp only
            gi_wp2_with fail
            refine next_law (n := 5) (by omega) (Bs := w6.heap.size + 1) (Bg := w6.heap.size) rfl (fun k => k < w7.heap.size ∧ k ≠ w.heap.size + 1) (G := ⟨m, p⟩) HG.out HOK.out ⟨KS7.out.lt, by have := HM6.out.size; omega⟩ ⟨KG7.out.lt, by have := HM6.out.size; omega⟩ hS (KS7.out.cell 0) (KG7.out.cell 0) (KG7.out.cell 1) hpin rfl
              (fun pre W => TabB W (w.heap.size + 1) (markL f pre) ∧ (Keeps (fun k => k < w7.heap.size ∧ k ≠ w.heap.size + 1) w7 W ∧ Below w.heap.size w W))
              (fun _ _ _ => False)
              ((own_tabB _ _ (fun pre => markL f pre)).and ((ownFrom_keeps (S := fun k => k < w7.heap.size ∧ k ≠ w.heap.size + 1) hS hS).and (ownFrom_below (Nat.le_refl _) (by have := HM7.out.below.size; omega))))
              (fun c => ownFrom_pure _ (fun _ => False)) ⟨HM7.out.tab, Keeps.refl _ _, HM7.out.below⟩
              (fun x Bx => { tmps := #[(.agg #[.int .i64 (t.n : Int), .int .i64 (t.p : Int), .int .i64 en, .slice pa ps.length pc]), (.pointer (some ⟨w.heap.size, 0, none⟩)), (.slice none 0 0), v', (.pointer (some ⟨w.heap.size + 1, 0, none⟩)), (.int .i64 (m : Int)), (.int .i64 (p : Int)), (.pointer (some ⟨wr.heap.size, 0, none⟩)), u8, (.pointer (some ⟨Bx, 0, none⟩)), (.agg #[.int .i64 (t.n : Int), .int .i64 (t.p : Int), .int .i64 en, .slice pa ps.length pc]), (.agg #[.int .i64 (t.n : Int), .int .i64 (t.p : Int)]), (.pointer (some ⟨w.heap.size + 1, t.ix, none⟩)), (.pointer (some ⟨w.heap.size + 1, t.ix, none⟩)), (.pointer (some ⟨w.heap.size, 0, none⟩)), (.int .i64 (t.n : Int)), (.int .i64 (m : Int)), (.bool true), u18, u19, (.int .i64 (p : Int)), (.bool true), (.int .i64 (p : Int)), (.int .i64 (m : Int)), (.int .i64 (p : Int)), (.agg #[.int .i64 (m : Int), .int .i64 (p : Int)]), (.agg #[.int .i64 (m : Int), .int .i64 (p : Int)]), (.pointer (some ⟨w.heap.size + 1, (Gp.mk m p).ix, none⟩)), (.pointer (some ⟨w.heap.size + 1, (Gp.mk m p).ix, none⟩)), (.bool true), (.bool false), (.slice a l.length c), (.agg #[.int .i64 (m : Int), .int .i64 (p : Int)]), (.slice (some ⟨w2.heap.size, 0, none⟩) 1 1), v', (.agg #[.int .i64 (m : Int), .int .i64 (p : Int)]), (.pointer (some ⟨w.heap.size, 3, none⟩)), (.slice pa ps.length pc), (.func (.func 103) #[] #[.pointer (some ⟨w6.heap.size + 1, 0, none⟩), .pointer (some ⟨w6.heap.size, 0, none⟩)]), (.int .i64 (x.1.1 : Int)), (.agg #[.int .i64 ((nxB ⟨m, p⟩ ps x).n : Int), .int .i64 ((nxB ⟨m, p⟩ ps x).p : Int)]), u41, u42, u43, u44, u45], defers := [] }) ?assign ?body ?done ?stop
            case assign =>
              intro L x W K hK
              unfold encN at *
              gi_wp2
              exact hK
            case body =>
              rintro L pre x Bx W hBx hWs hE ⟨hm, hk, hb⟩ hlt
              have hYo : (nxB ⟨m, p⟩ ps x).ok := behG_ok HG.out (HOK.out _ (List.get_mem _ _))
              have hmk := markL_snoc f pre x
              generalize nxB (Gp.mk m p) ps x = Y at *
              obtain ⟨e0, e1⟩ := gp_cells (g := Y) hE
              have lE := hE.lt
              have HMK := Lib.hid hmk
              have HYO := Lib.hid hYo
              have hST := HM7.out.tab.lt
              clear hmk hYo
              gi_wp2_with fail
              refine ⟨trivial, ?_⟩
              refine (callsIn_wide.2 (atB_any (w.heap.size + 1) Y _ HYO.out)).mono ?_
              rintro e W2 ⟨rfl, hb2⟩
              have hm2 := hm.of_block (hb2.block _ hm.lt)
              have hc := hm2.cell (ix_lt HYO.out)
              have hz := hm2.frozen Y.ix
              have hl := hm2.lt
              clear e0 e1
              gi_wp2_with fail
              have hks : Keeps (fun k => k < w7.heap.size ∧ k ≠ w.heap.size + 1) W (W2.setCell ⟨w.heap.size + 1, Y.ix, none⟩ (.bool true)) := (Keeps.of_below hb2 (fun k h => Nat.lt_of_lt_of_le h.1 hWs)).setCell (fun h => h.2 rfl) _
              exact ⟨((others_of hb2).trans (KeepsOthers.setCell _ _ _)).from _, hks, by rw [HMK.out]; exact hm2.set Y.ix true, hk.trans hks, (hb.trans (hb2.mono hb.size)).setCell (by show w.heap.size ≤ w.heap.size + 1; omega) _⟩
            case done =>
              rintro D W hD ⟨hm, hk, hb⟩ hDef
              have hM8 : GM w #[.int .i64 (t.n : Int), .int .i64 (t.p : Int), .int .i64 en, .slice pa ps.length pc] (l ++ [⟨m, p⟩]) (markL f (nxL ⟨m, p⟩ ps)) v' (D :: Ds) W :=
                ⟨hb, Nat.le_trans HM7.out.size hk.size, (hk.block _ ⟨HM7.out.box.lt, by omega⟩).trans HM7.out.box, hm, row_keep HM7.out.own (fun k h1 h2 _ => hk.block k ⟨h2, by omega⟩),
                  (HM7.out.marks.keep (fun E hE => hk.block E ⟨HM7.out.marks.lt hE, by have := (HM7.out.marks.at_ E hE).1; omega⟩)).cons (Nat.le_trans HM7.out.size hD) hDef (fun hDD => by have := HM7.out.marks.lt hDD; omega)⟩
              clear hm hk hb hDef hpin hS
              gi_wp2
              refine ⟨⟨p + 1, l ++ [⟨m, p⟩], markL f (nxL ⟨m, p⟩ ps), v', D :: Ds, ?_⟩, by simp [intOf]; omega⟩
              rw [HCP.out]
              repeat apply Exists.intro
              exact ⟨by omega, ⟨hM8, HV.out.yes HT.out HOK.out (by omega) hmt HF.out⟩, rfl⟩
            case stop =>
              rintro D c k W hD hk h hDef
              exact h.elim
        · obtain rfl : p = 10 := by omega
          have g2 : (m : Int) ≤ 2000 := by have := HT.out.1; omega
          gi_wp2_with fail
          refine ⟨⟨m, l, f, v, Ds, ?_⟩, by simp [intOf]⟩
          repeat apply Exists.intro
          exact ⟨by omega, ⟨hI.mem, hI.inv.row⟩, rfl⟩
end Go.Proofs.Ytmcmhgjlpffcnaa
