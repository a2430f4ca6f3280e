/- The row with a number (rows.nth). No condition but that there is such a row, and that the table tells in how many ways gaps can be filled. -/
import Derived.Test.YtmcmhgjlpffcnaaQR
import Derived.Sort.CutIn
set_option linter.unusedSimpArgs false
namespace Go.Proofs.Ytmcmhgjlpffcnaa
open Go.RowKit Go.Shelf
attribute [local go_sem] Oper.semAt_some

theorem ownsRow_set {w : World} {base : Nat} {e : TypeId} {size : Nat} {v : Value} {n : Nat} {xs : List Value} (h : w.ownsRow base e size v n xs) {L c : Nat} (hL : L < base) (z : Value) : (w.setCell ⟨L, c, none⟩ z).ownsRow base e size v n xs := by
  refine ⟨h.1, ?_⟩
  rcases h.2 with h0 | ⟨g, cap, cur, hv, hb, hg, hr⟩
  · exact .inl h0
  · exact .inr ⟨g, cap, cur, hv, hb, (Below.heap_setCell w ⟨L, c, none⟩ z g (by show g ≠ L; omega)).trans hg, hr⟩
theorem own_other {w : World} {base : Nat} {e : TypeId} {size : Nat} {v : Value} {n : Nat} {xs : List Value} (h : w.ownsRow base e size v n xs) {L c : Nat} (hL : v.ownBlock ≠ some L) (z : Value) : (w.setCell ⟨L, c, none⟩ z).ownsRow base e size v n xs := by
  refine ⟨h.1, ?_⟩
  rcases h.2 with h0 | ⟨g, cap, cur, hv, hb, hg, hr⟩
  · exact .inl h0
  · subst hv
    exact .inr ⟨g, cap, cur, rfl, hb, (Below.heap_setCell w ⟨L, c, none⟩ z g (by show g ≠ L; intro e; exact hL (by rw [← e]; rfl))).trans hg, hr⟩
/-- The memory of nth: the rows, the number that is left, the row that has been made, the gap. -/
structure NMem (w : World) (RW : Array Value) (kk : Nat) (v : Value) (l : List Int) (Bg : Nat) (g : Gp) (W : World) : Prop where
  below : Below w.heap.size w W
  size : w.heap.size + 3 ≤ W.heap.size
  rows : Blk W w.heap.size RW 67
  kb : Blk W (w.heap.size + 1) #[.int .i64 (kk : Int)] 3
  rb : Blk W (w.heap.size + 2) #[v] 25
  own : W.ownsRow (w.heap.size + 3) 3 1 v l.length (l.flatMap cellsI)
  gb : Blk W Bg (gpC g) 87
  gB : w.heap.size + 3 ≤ Bg
theorem NMem.after {w : World} {RW : Array Value} {kk : Nat} {v : Value} {l : List Int} {Bg : Nat} {g : Gp} {W W' : World} (h : NMem w RW kk v l Bg g W) (hb : Below W.heap.size W W') : NMem w RW kk v l Bg g W' :=
  ⟨h.below.trans (hb.mono h.below.size), Nat.le_trans h.size hb.size, h.rows.belowS hb, h.kb.belowS hb, h.rb.belowS hb, row_keep h.own (fun k _ hk _ => hb.block k hk), h.gb.belowS hb, h.gB⟩
theorem NMem.grow {w : World} {RW : Array Value} {kk : Nat} {v : Value} {l : List Int} {Bg : Nat} {g : Gp} {X Y : World} {B : Nat} {row : Option Nat} (h : NMem w RW kk v l Bg g X) (hB : w.heap.size ≤ B) (hg : X.grownBy Y row) (hr : ∀ r, row = some r → B ≤ r ∧ ∃ o : Obj, X.heap[r]? = some o ∧ o.isCells = false) : NMem w RW kk v l Bg g Y := by
  have kp : ∀ b cs t, Blk X b cs t → Blk Y b cs t := fun b cs t hb => own_blk B b t (fun _ : Unit => cs) () X Y row hb hg hr
  refine ⟨h.below.grown hg h.below.size (fun k e => by have := (hr k e).1; omega), Nat.le_trans h.size hg.size, kp _ _ _ h.rows, kp _ _ _ h.kb, kp _ _ _ h.rb, h.own.kept hg ?_, kp _ _ _ h.gb, h.gB⟩
  cases hv : v.ownBlock with
  | none => exact .inl rfl
  | some b =>
    refine .inr fun e => ?_
    obtain ⟨_, o, ho, hc⟩ := hr b e.symm
    obtain ⟨_, _, cs, hcs⟩ := own_lt h.own hv
    rw [hcs] at ho
    cases ho
    cases hc
theorem NMem.apart {w : World} {RW : Array Value} {kk : Nat} {v : Value} {l : List Int} {Bg : Nat} {g : Gp} {W : World} (h : NMem w RW kk v l Bg g W) {b : Nat} {cs : Array Value} (hk : Blk W b cs 87) : some b ≠ v.ownBlock := fun e => by
  obtain ⟨_, _, cs', hcs⟩ := own_lt h.own e.symm
  rw [show W.heap[b]? = _ from hk] at hcs
  cases hcs
theorem NMem.setK {w : World} {RW : Array Value} {kk : Nat} {v : Value} {l : List Int} {Bg : Nat} {g : Gp} {W : World} (h : NMem w RW kk v l Bg g W) (k2 : Nat) : NMem w RW k2 v l Bg g (W.setCell ⟨w.heap.size + 1, 0, none⟩ (.int .i64 (k2 : Int))) := by
  have hs : (W.setCell ⟨w.heap.size + 1, 0, none⟩ (.int .i64 (k2 : Int))).heap.size = W.heap.size := by simp [World.setCell]
  have hB := h.gB
  refine ⟨h.below.setCell (p := ⟨w.heap.size + 1, 0, none⟩) (by show w.heap.size ≤ w.heap.size + 1; omega) _, by rw [hs]; exact h.size, h.rows.other (by omega) _, h.kb.set 0 _, h.rb.other (by omega) _, ownsRow_set h.own (by show w.heap.size + 1 < w.heap.size + 3; omega) _, h.gb.other (by omega) _, hB⟩
/-- The list and the gap behind a piece. -/
theorem NMem.push {w : World} {RW : Array Value} {kk : Nat} {v v' : Value} {l : List Int} {Bg : Nat} {g : Gp} {W W6 : World} (h : NMem w RW kk v l Bg g W) (n : Int) (g' : Gp) (hown : W6.ownsRow (w.heap.size + 3) 3 1 v' (l.length + 1) (l.flatMap cellsI ++ [.int .i64 n])) (hg : W.grownBy W6 v.ownBlock) :
    NMem w RW kk v' (l ++ [n]) Bg g' (((W6.setCell ⟨w.heap.size + 2, 0, none⟩ v').setCell ⟨Bg, 0, none⟩ (.int .i64 (g'.n : Int))).setCell ⟨Bg, 1, none⟩ (.int .i64 (g'.p : Int))) := by
  have hB := h.gB
  have far : ∀ q, q < w.heap.size + 3 → some q ≠ v.ownBlock := fun q hq e => by have := (own_lt h.own e.symm).1; omega
  have hs : (((W6.setCell ⟨w.heap.size + 2, 0, none⟩ v').setCell ⟨Bg, 0, none⟩ (.int .i64 (g'.n : Int))).setCell ⟨Bg, 1, none⟩ (.int .i64 (g'.p : Int))).heap.size = W6.heap.size := by simp [World.setCell]
  have kg := h.gb.kept hg (h.apart h.gb)
  have hgo : v'.ownBlock ≠ some Bg := fun e => by
    obtain ⟨_, _, cs', hcs⟩ := own_lt hown e
    rw [show W6.heap[Bg]? = _ from kg] at hcs
    cases hcs
  refine ⟨(((h.below.grown hg h.below.size (fun k e => by have := (own_lt h.own e).1; omega)).setCell (p := ⟨w.heap.size + 2, 0, none⟩) (by show w.heap.size ≤ w.heap.size + 2; omega) _).setCell (p := ⟨Bg, 0, none⟩) (by show w.heap.size ≤ Bg; omega) _).setCell (p := ⟨Bg, 1, none⟩) (by show w.heap.size ≤ Bg; omega) _,
    by rw [hs]; exact Nat.le_trans h.size hg.size,
    ((((h.rows.kept hg (far _ (by omega))).other (by omega) _).other (by omega) _).other (by omega) _),
    ((((h.kb.kept hg (far _ (by omega))).other (by omega) _).other (by omega) _).other (by omega) _),
    (((h.rb.kept hg (far _ (by omega))).set 0 v').other (by omega) _).other (by omega) _, ?_,
    (((kg.other (by omega) _).set 0 _).set 1 _), hB⟩
  rw [List.length_append, List.flatMap_append]
  refine own_other (own_other (ownsRow_set hown (by show w.heap.size + 2 < w.heap.size + 3; omega) _) hgo _) hgo _

def nhA (x0 x1 x2 x3 x4 x5 x6 x7 x8 x9 x10 x11 x12 x13 x14 x15 x16 x17 x18 x19 x20 x21 x22 x23 x24 x25 x26 x27 x28 x29 x30 x31 x32 x33 x34 x35 x36 x37 x38 x39 x40 x41 : Value) (ds : List Deferred) : Act := { tmps := #[x0, x1, x2, x3, x4, x5, x6, x7, x8, x9, x10, x11, x12, x13, x14, x15, x16, x17, x18, x19, x20, x21, x22, x23, x24, x25, x26, x27, x28, x29, x30, x31, x32, x33, x34, x35, x36, x37, x38, x39, x40, x41], defers := ds }
/-- What nth returns. -/
def NthSaid (R : Rdg) (k0 : Nat) (w : World) (e : Ending) (w' : World) : Prop := ∃ a c, e = .returned (.slice a (nthR R k0).length c) ∧ IsInts w' a c (nthR R k0) ∧ (∀ p, a = some p → w.heap.size ≤ p.block) ∧ Below w.heap.size w w'
/-- Where the walk stands: a gap that pieces leave, a number that a filling of it has, and the row so far. -/
structure NAt (R : Rdg) (k0 : Nat) (g : Gp) (kk : Nat) (l : List Int) : Prop where
  ok : g.ok
  rch : Rch R.ps R.top g
  lt : kk < wy R.ps R.en.toNat g
  row : l ++ nthG R.ps R.en.toNat g kk = nthR R k0
  len : l.length + g.n ≤ R.top.n
theorem NAt.step {R : Rdg} {k0 : Nat} {g : Gp} {kk : Nat} {l : List Int} (h : NAt R k0 g kk l) (hR : R.ok) (h0 : g.n ≠ 0) (x : Nx g R.ps) (h1 : preN R.ps R.en.toNat x ≤ kk) (h2 : kk - preN R.ps R.en.toNat x < wy R.ps R.en.toNat (nxB g R.ps x)) :
    NAt R k0 (nxB g R.ps x) (kk - preN R.ps R.en.toNat x) (l ++ [(x.1.1 : Int)]) := by
  have hx := hR.2.2.2.2 _ (List.get_mem R.ps x.1)
  have hl : (nxB g R.ps x).n < g.n := behG_lt hx x.2
  refine ⟨behG_ok h.ok hx, .step h.rch (List.get_mem _ _) x.2, h2, ?_, by have := h.len; rw [List.length_append]; simp only [List.length_cons, List.length_nil]; omega⟩
  rw [← h.row, nth_pick hR.2.2.2.2 _ h0 x h1 h2, List.append_assoc]
  rfl
def nthM (a : Act) (W : World) : Nat := match a.tmps.getD 6 undef with | .pointer (some p) => (intOf ((W.cell? p).getD undef)).toNat | _ => 0

set_option maxRecDepth 100000 in
set_option maxHeartbeats 16000000 in
theorem nth_any (R : Rdg) (T : Nat) (f : Nat → Int) (k0 : Nat) (w : World) (hR : R.ok) (hrow : IsPcs w R.pa R.pc R.ps) (hT : TabI w T f) (hf : ∀ g, Rch R.ps R.top g → f g.ix = (wy R.ps R.en.toNat g : Int)) (hM : wy R.ps R.en.toNat R.top ≤ MW) (hk : k0 < wy R.ps R.en.toNat R.top) :
    Calls Try.prog 62 #[.agg #[.int .i64 R.len, .int .i64 R.st, .int .i64 R.en, .slice R.pa R.ps.length R.pc, .pointer (some ⟨T, 0, none⟩)], .int .i64 (k0 : Int)] w (NthSaid R k0 w) := by
  refine (callsIn_wide (n := 5)).1 ?_
  refine callsIn_of_wp_marks Try.func62 rfl trivial ?_ rfl
  have hts : R.len = (R.top.n : Int) ∧ R.st = (R.top.p : Int) := by
    obtain ⟨⟨h1, h2⟩, ⟨h3, h4⟩, -⟩ := hR
    simp only [Rdg.top]
    omega
  have HR := Lib.hid hR
  have HROW := Lib.hid hrow
  have HTAB := Lib.hid hT
  have HF := Lib.hid hf
  have HM := Lib.hid hM
  have HAT := Lib.hid (show NAt R k0 R.top k0 [] from ⟨hR.top, .top, hk, by simp [nthR], by simp⟩)
  have HTS := Lib.hid hts
  have hTl := hT.lt
  clear hR hrow hT hf hM hk hts
  simp only [Try.ntmps62, List.size_toArray, List.length_cons, List.length_nil, Nat.reduceAdd, Nat.reduceSub, Array.replicate_succ, Array.replicate_zero, List.push_toArray, List.append_toArray, List.nil_append, List.cons_append]
  gi_wp2_with fail
  have k1 := ((Blk.new w 67 #[.int .i64 R.len, .int .i64 R.st, .int .i64 R.en, .slice R.pa R.ps.length R.pc, .pointer (some ⟨T, 0, none⟩)]).alloc (.cells #[.int .i64 (k0 : Int)] 3)).alloc (.cells #[.slice none 0 0] 25)
  have k2 := (Blk.new (w.alloc (.cells #[.int .i64 R.len, .int .i64 R.st, .int .i64 R.en, .slice R.pa R.ps.length R.pc, .pointer (some ⟨T, 0, none⟩)] 67)) 3 #[.int .i64 (k0 : Int)]).alloc (.cells #[.slice none 0 0] 25)
  have k3 := Blk.new ((w.alloc (.cells #[.int .i64 R.len, .int .i64 R.st, .int .i64 R.en, .slice R.pa R.ps.length R.pc, .pointer (some ⟨T, 0, none⟩)] 67)).alloc (.cells #[.int .i64 (k0 : Int)] 3)) 25 #[.slice none 0 0]
  have hb1 : Below w.heap.size w (((w.alloc (.cells #[.int .i64 R.len, .int .i64 R.st, .int .i64 R.en, .slice R.pa R.ps.length R.pc, .pointer (some ⟨T, 0, none⟩)] 67)).alloc (.cells #[.int .i64 (k0 : Int)] 3)).alloc (.cells #[.slice none 0 0] 25)) := (((Below.refl _ w).alloc (Nat.le_refl _) _).alloc (by simp) _).alloc (by simp; omega) _
  have hs1 : (((w.alloc (.cells #[.int .i64 R.len, .int .i64 R.st, .int .i64 R.en, .slice R.pa R.ps.length R.pc, .pointer (some ⟨T, 0, none⟩)] 67)).alloc (.cells #[.int .i64 (k0 : Int)] 3)).alloc (.cells #[.slice none 0 0] 25)).heap.size = w.heap.size + 3 := by simp
  simp only [World.size_alloc, Nat.add_assoc, Nat.reduceAdd] at k1 k2 k3
  generalize (((w.alloc (.cells #[.int .i64 R.len, .int .i64 R.st, .int .i64 R.en, .slice R.pa R.ps.length R.pc, .pointer (some ⟨T, 0, none⟩)] 67)).alloc (.cells #[.int .i64 (k0 : Int)] 3)).alloc (.cells #[.slice none 0 0] 25)) = w1 at *
  refine ⟨trivial, ?_⟩
  refine (callsIn_wide.2 (whole_any R _)).mono ?_
  rintro e w2 ⟨rfl, hb2⟩
  have kG := Blk.new w2 87 #[.int .i64 R.len, .int .i64 R.st]
  have hb3 : Below w2.heap.size w2 (w2.alloc (.cells #[.int .i64 R.len, .int .i64 R.st] 87)) := (Below.refl _ w2).alloc (Nat.le_refl _) _
  have hbb := hb2.trans (hb3.mono hb2.size)
  have hI0 : NMem w #[.int .i64 R.len, .int .i64 R.st, .int .i64 R.en, .slice R.pa R.ps.length R.pc, .pointer (some ⟨T, 0, none⟩)] k0 (.slice none 0 0) [] w2.heap.size R.top (w2.alloc (.cells #[.int .i64 R.len, .int .i64 R.st] 87)) :=
    ⟨hb1.trans (hbb.mono hb1.size), by rw [World.size_alloc]; have := hb2.size; omega, k1.belowS hbb, k2.belowS hbb, k3.belowS hbb, World.ownsRow_nil _ _ _ _, by show Blk _ _ #[.int .i64 (R.top.n : Int), .int .i64 (R.top.p : Int)] _; rw [← HTS.out.1, ← HTS.out.2]; exact kG, by have := hb2.size; omega⟩
  have HI0 := Lib.hid hI0
  clear k1 k2 k3 hb1 hs1 hb2 kG hb3 hbb hI0
  dsimp only
  gi_wp2_with fail
  generalize w2.alloc (.cells #[.int .i64 R.len, .int .i64 R.st] 87) = w3 at *
  refine wpIn_loop (fun a W => ∃ (g : Gp) (kk : Nat) (l : List Int) (v : Value) (Bg : Nat) (Ds : List Nat) (u7 u8 u9 u13 u14 u15 u16 u17 u18 u19 u20 u21 u22 u23 u24 u25 u26 u27 u28 u29 u30 u31 u32 u33 u34 u35 u36 u37 u38 u39 u40 u41 : Value), NAt R k0 g kk l ∧ NMem w #[.int .i64 R.len, .int .i64 R.st, .int .i64 R.en, .slice R.pa R.ps.length R.pc, .pointer (some ⟨T, 0, none⟩)] kk v l Bg g W ∧ Marks (w.heap.size + 3) W Ds ∧ a = nhA (.agg #[.int .i64 R.len, .int .i64 R.st, .int .i64 R.en, .slice R.pa R.ps.length R.pc, .pointer (some ⟨T, 0, none⟩)]) (.int .i64 (k0 : Int)) (.pointer (some ⟨w.heap.size, 0, none⟩)) (.pointer (some ⟨w.heap.size + 1, 0, none⟩)) (.slice none 0 0) (.pointer (some ⟨w.heap.size + 2, 0, none⟩)) (.pointer (some ⟨Bg, 0, none⟩)) u7 u8 u9 (.pointer (some ⟨w.heap.size, 0, none⟩)) (.agg #[.int .i64 R.len, .int .i64 R.st, .int .i64 R.en, .slice R.pa R.ps.length R.pc]) (.agg #[.int .i64 R.len, .int .i64 R.st]) u13 u14 u15 u16 u17 u18 u19 u20 u21 u22 u23 u24 u25 u26 u27 u28 u29 u30 u31 u32 u33 u34 u35 u36 u37 u38 u39 u40 u41 (Ds.map markD)) nthM
    ⟨R.top, k0, [], .slice none 0 0, w2.heap.size, [], undef, undef, undef, undef, undef, undef, undef, undef, undef, undef, undef, undef, undef, undef, undef, undef, undef, undef, undef, undef, undef, undef, undef, undef, undef, undef, undef, undef, undef, undef, undef, undef, HAT.out, HI0.out, Marks.nil _ _, rfl⟩ ?round
  case round =>
    rintro a wr ⟨g, kk, l, v, Bg, Ds, u7, u8, u9, u13, u14, u15, u16, u17, u18, u19, u20, u21, u22, u23, u24, u25, u26, u27, u28, u29, u30, u31, u32, u33, u34, u35, u36, u37, u38, u39, u40, u41, hN, hM, hD, rfl⟩
    unfold nhA
    obtain ⟨a, c, rfl⟩ := own_form hM.own
    obtain ⟨d0, d1⟩ := gp_cells (g := g) hM.gb
    have lG := hM.gb.lt
    have c5 : wr.cell? ⟨w.heap.size + 2, 0, none⟩ = some (.slice a l.length c) := hM.rb.cell 0
    have l5 := hM.rb.lt
    have HN := Lib.hid hN
    have HMM := Lib.hid hM
    have HD := Lib.hid hD
    clear hM hD HI0 HAT
    by_cases h0 : g.n = 0
    · have g0 : ¬ (0 : Int) < (g.n : Int) := by omega
      have hrow := hN.row
      rw [nth_none R.ps R.en.toNat kk h0, List.append_nil] at hrow
      have HROWN := Lib.hid hrow
      clear hN h0 hrow
      gi_wp2
      refine leaves_marks (by simp) Ds _ HD.out HMM.out.size (fun W hb hk => ?_)
      have how : W.ownsRow (w.heap.size + 3) 3 1 (.slice a l.length c) l.length (l.flatMap cellsI) := row_keep HMM.out.own (fun k _ _ ⟨cs, hcs⟩ => (hk k _ hcs (by simp)).trans hcs.symm)
      exact ⟨.slice a l.length c, by simp [results, Try.results62, go_sem], a, c, by rw [← HROWN.out], by rw [← HROWN.out]; exact isInts_own how, fun p e => by subst e; have := (own_lt how (k := p.block) rfl).1; omega, HMM.out.below.trans (hb.mono (by omega))⟩
    · have g0 : (0 : Int) < (g.n : Int) := by omega
      have r0 := HMM.out.rows.cell 0
      have r1 := HMM.out.rows.cell 1
      have r2 := HMM.out.rows.cell 2
      have r3 := HMM.out.rows.cell 3
      have r4 := HMM.out.rows.cell 4
      have lR := HMM.out.rows.lt
      simp only [List.getElem?_toArray, List.getElem?_cons_zero, List.getElem?_cons_succ] at r0 r1 r2 r3 r4
      have HG0 := Lib.hid h0
      clear hN h0
      gi_wp2_with fail
      refine ⟨trivial, ?_⟩
      refine (callsIn_wide.2 (next_any g _ _ _ _)).mono ?_
      rintro e w7 ⟨rfl, hw7⟩
      have kg7 : Blk w7 wr.heap.size #[.int .i64 (g.n : Int), .int .i64 (g.p : Int)] 87 := by rw [hw7]; exact (Blk.new wr _ _).alloc _
      have ks7 : Blk w7 (wr.heap.size + 1) #[.slice R.pa R.ps.length R.pc] 22 := by rw [hw7]; have := Blk.new (wr.alloc (.cells #[.int .i64 (g.n : Int), .int .i64 (g.p : Int)] 87)) 22 #[.slice R.pa R.ps.length R.pc]; rwa [World.size_alloc] at this
      have hb7 : Below wr.heap.size wr w7 := by rw [hw7]; exact ((Below.refl _ _).alloc (Nat.le_refl _) _).alloc (by simp) _
      have hsz7 : w7.heap.size = wr.heap.size + 2 := by rw [hw7]; simp
      have hM7 := HMM.out.after hb7
      have hD7 := HD.out.keep (fun D hD => hb7.block D (HD.out.lt hD))
      have HM7 := Lib.hid hM7
      have HD7 := Lib.hid hD7
      have HS7 := Lib.hid hsz7
      have KG7 := Lib.hid kg7
      have KS7 := Lib.hid ks7
      have hS : ∀ k, (k < w7.heap.size ∧ k ≠ w.heap.size + 1 ∧ k ≠ w.heap.size + 2 ∧ k ≠ Bg ∧ (Value.slice a l.length c).ownBlock ≠ some k) → k < w7.heap.size := fun k hk => hk.1
      have hwr := HMM.out.size
      have hown : ∀ k, (Value.slice a l.length c).ownBlock = some k → w.heap.size + 3 ≤ k ∧ k < wr.heap.size := fun k hk => ⟨(own_lt HMM.out.own hk).1, (own_lt HMM.out.own hk).2.1⟩
      have hgB := HMM.out.gB
      have HLG := Lib.hid lG
      have hpin : PcsIn (fun k => k < w7.heap.size ∧ k ≠ w.heap.size + 1 ∧ k ≠ w.heap.size + 2 ∧ k ≠ Bg ∧ (Value.slice a l.length c).ownBlock ≠ some k) w7 R.pa R.pc R.ps := by
        rcases HROW.out with h | ⟨b, off, e, hl, hc, hc', hp⟩
        · exact .inl h
        · exact .inr ⟨b, off, e, ⟨by omega, by omega, by omega, by omega, fun e => by have := (hown b e).1; omega⟩, hc, hc', fun j x hj => PceAt.keep (bcell hM7.below).1 _ _ _ hl (hp j x hj)⟩
      have hnBs : ∀ k, wr.heap.size ≤ k → (Value.slice a l.length c).ownBlock ≠ some k := fun k hk e => by have := (hown k e).2; omega
      have HNB := Lib.hid hnBs
      have HOWN := Lib.hid hown
      have hsum0 : kk - sumN R.ps R.en.toNat g [] = kk := rfl
      clear hsz7 hw7 kg7 ks7 hb7 hM7 hD7 d0 d1 r0 r1 r2 r3 r4 lR lG c5 l5 hown hnBs
      dsimp only
      gi_wp2_with fail
      refine next_law (n := 5) (by omega) (Bs := wr.heap.size + 1) (Bg := wr.heap.size) rfl (fun k => k < w7.heap.size ∧ k ≠ w.heap.size + 1 ∧ k ≠ w.heap.size + 2 ∧ k ≠ Bg ∧ (Value.slice a l.length c).ownBlock ≠ some k) (G := g) HN.out.ok HR.out.2.2.2.2 ⟨KS7.out.lt, by omega, by omega, by have := HLG.out; omega, HNB.out _ (by omega)⟩ ⟨KG7.out.lt, by omega, by omega, by have := HLG.out; omega, HNB.out _ (by omega)⟩ hS (KS7.out.cell 0) (KG7.out.cell 0) (KG7.out.cell 1) hpin rfl
        (fun pre W => sumN R.ps R.en.toNat g pre ≤ kk ∧ NMem w #[.int .i64 R.len, .int .i64 R.st, .int .i64 R.en, .slice R.pa R.ps.length R.pc, .pointer (some ⟨T, 0, none⟩)] (kk - sumN R.ps R.en.toNat g pre) (.slice a l.length c) l Bg g W ∧ Keeps (fun k => k < w7.heap.size ∧ k ≠ w.heap.size + 1 ∧ k ≠ w.heap.size + 2 ∧ k ≠ Bg ∧ (Value.slice a l.length c).ownBlock ≠ some k) w7 W)
        (fun cd lst W => cd = .exit 2 ∧ ∃ pre x v', lst = pre ++ [x] ∧ sumN R.ps R.en.toNat g pre ≤ kk ∧ kk - sumN R.ps R.en.toNat g pre < wy R.ps R.en.toNat (nxB g R.ps x) ∧ NMem w #[.int .i64 R.len, .int .i64 R.st, .int .i64 R.en, .slice R.pa R.ps.length R.pc, .pointer (some ⟨T, 0, none⟩)] (kk - sumN R.ps R.en.toNat g pre) v' (l ++ [(x.1.1 : Int)]) Bg (nxB g R.ps x) W ∧ Keeps (fun k => k < w7.heap.size ∧ k ≠ w.heap.size + 1 ∧ k ≠ w.heap.size + 2 ∧ k ≠ Bg ∧ (Value.slice a l.length c).ownBlock ≠ some k) w7 W)
        (fun pre X Y row h hg hr => ⟨h.1, h.2.1.grow (by have := HM7.out.size; omega) hg hr, ownFrom_keeps (β := Unit) hS hS () X Y row h.2.2 hg hr⟩)
        (fun cd pre X Y row h hg hr => by
          obtain ⟨hc, pre, x, v', h1, h2, h3, h4, h5⟩ := h
          exact ⟨hc, pre, x, v', h1, h2, h3, h4.grow (by have := HM7.out.size; omega) hg hr, ownFrom_keeps (β := Unit) hS hS () X Y row h5 hg hr⟩)
        ⟨Nat.zero_le _, HM7.out, Keeps.refl _ _⟩
        (fun x Bx => { tmps := #[.agg #[.int .i64 R.len, .int .i64 R.st, .int .i64 R.en, .slice R.pa R.ps.length R.pc, .pointer (some ⟨T, 0, none⟩)], .int .i64 (k0 : Int), .pointer (some ⟨w.heap.size, 0, none⟩), .pointer (some ⟨w.heap.size + 1, 0, none⟩), .slice none 0 0, .pointer (some ⟨w.heap.size + 2, 0, none⟩), .pointer (some ⟨Bg, 0, none⟩), .int .i64 (x.1.1 : Int), .pointer (some ⟨Bx, 0, none⟩), u9, .pointer (some ⟨w.heap.size, 0, none⟩), .agg #[.int .i64 R.len, .int .i64 R.st, .int .i64 R.en, .slice R.pa R.ps.length R.pc], .agg #[.int .i64 R.len, .int .i64 R.st], .pointer (some ⟨Bg, 0, none⟩), .int .i64 (g.n : Int), .bool true, .agg #[.int .i64 (g.n : Int), .int .i64 (g.p : Int)], .pointer (some ⟨w.heap.size, 0, none⟩), .pointer (some ⟨w.heap.size, 3, none⟩), .slice R.pa R.ps.length R.pc, .func (.func 103) #[] #[.pointer (some ⟨wr.heap.size + 1, 0, none⟩), .pointer (some ⟨wr.heap.size, 0, none⟩)], .int .i64 (x.1.1 : Int), .agg #[.int .i64 ((nxB g R.ps x).n : Int), .int .i64 ((nxB g R.ps x).p : Int)], u23, u24, u25, u26, u27, u28, u29, u30, u31, u32, u33, u34, u35, u36, u37, u38, u39, u40, u41], defers := [] }) ?assign ?body ?done ?stop
      case assign =>
        intro L x W K hK
        unfold encN at *
        gi_wp2
        exact hK
      case body =>
        rintro L pre x Bx W hBx hWs hE ⟨hsum, hm, hk⟩ hlt
        have hx := HR.out.2.2.2.2 _ (List.get_mem R.ps x.1)
        have hYo : (nxB g R.ps x).ok := behG_ok HN.out.ok hx
        have hrY : Rch R.ps R.top (nxB g R.ps x) := .step HN.out.rch (List.get_mem _ _) x.2
        have hTY := HF.out _ hrY
        have hwY : wy R.ps R.en.toNat (nxB g R.ps x) ≤ MW := Nat.le_trans (wy_rch HR.out.2.2.2.2 _ hrY) HM.out
        have hsn := sumN_snoc R.ps R.en.toNat g pre x
        have hkM : kk ≤ MW := Nat.le_of_lt (Nat.lt_of_lt_of_le HN.out.lt (Nat.le_trans (wy_rch HR.out.2.2.2.2 _ HN.out.rch) HM.out))
        have HIX := Lib.hid (fun (m : Nat) (v' : Value) (Z : World) (h2 : m = wy R.ps R.en.toNat (nxB g R.ps x)) (h3 : kk - sumN R.ps R.en.toNat g pre < m) (h4 : NMem w #[.int .i64 R.len, .int .i64 R.st, .int .i64 R.en, .slice R.pa R.ps.length R.pc, .pointer (some ⟨T, 0, none⟩)] (kk - sumN R.ps R.en.toNat g pre) v' (l ++ [(x.1.1 : Int)]) Bg (nxB g R.ps x) Z) (h5 : Keeps (fun k => k < w7.heap.size ∧ k ≠ w.heap.size + 1 ∧ k ≠ w.heap.size + 2 ∧ k ≠ Bg ∧ (Value.slice a l.length c).ownBlock ≠ some k) w7 Z) =>
          (show (Code.exit 2 : Code) = .exit 2 ∧ ∃ pre' x' v', pre ++ [x] = pre' ++ [x'] ∧ sumN R.ps R.en.toNat g pre' ≤ kk ∧ kk - sumN R.ps R.en.toNat g pre' < wy R.ps R.en.toNat (nxB g R.ps x') ∧ NMem w #[.int .i64 R.len, .int .i64 R.st, .int .i64 R.en, .slice R.pa R.ps.length R.pc, .pointer (some ⟨T, 0, none⟩)] (kk - sumN R.ps R.en.toNat g pre') v' (l ++ [(x'.1.1 : Int)]) Bg (nxB g R.ps x') Z ∧ Keeps (fun k => k < w7.heap.size ∧ k ≠ w.heap.size + 1 ∧ k ≠ w.heap.size + 2 ∧ k ≠ Bg ∧ (Value.slice a l.length c).ownBlock ≠ some k) w7 Z from ⟨rfl, pre, x, v', rfl, hsum, by rw [← h2]; exact h3, h4, h5⟩))
        generalize nxB g R.ps x = Y at *
        obtain ⟨m, hmw⟩ : ∃ m, wy R.ps R.en.toNat Y = m := ⟨_, rfl⟩
        obtain ⟨q, hq⟩ : ∃ q, kk - sumN R.ps R.en.toNat g pre = q := ⟨_, rfl⟩
        rw [hmw] at hTY hwY hsn HIX
        rw [hq] at hm HIX
        have hTW : TabI W T f := HTAB.out.of_block (hm.below.block _ hTl)
        obtain ⟨e0, e1⟩ := gp_cells (g := Y) hE
        have lE := hE.lt
        have r4 := hm.rows.cell 4
        have lR := hm.rows.lt
        simp only [List.getElem?_toArray, List.getElem?_cons_zero, List.getElem?_cons_succ] at r4
        have HYO := Lib.hid hYo
        have HTY := Lib.hid hTY
        have HMW := Lib.hid hm
        have HKS := Lib.hid hk
        have HTW := Lib.hid hTW
        have HEB := Lib.hid hE
        have HQ := Lib.hid (And.intro hq (And.intro hsn (And.intro hsum hmw)))
        have hqM : q ≤ MW := by omega
        clear hYo hrY hTY hsn hm hk hTW hE hsum hx hq hmw hkM
        gi_wp2_with fail
        refine ⟨trivial, ?_⟩
        refine (callsIn_wide.2 (atI_any T Y _ HYO.out)).mono ?_
        rintro e W2 ⟨rfl, hb2⟩
        have hm2 := HMW.out.after hb2
        have hT2 := HTW.out.of_block (hb2.block _ HTW.out.lt)
        have tc := hT2.cell (ix_lt HYO.out)
        rw [HTY.out] at tc
        have lT := hT2.lt
        have kc := hm2.kb.cell 0
        have kz := hm2.kb.frozen 0
        have kl := hm2.kb.lt
        simp only [List.getElem?_toArray, List.getElem?_cons_zero] at kc
        have HM2 := Lib.hid hm2
        have HB2 := Lib.hid hb2
        have HE2 := Lib.hid (HEB.out.belowS hb2)
        unfold MW at hwY hqM
        clear hm2 hT2 hb2 e0 e1 r4 lR lE
        dsimp only
        by_cases hqm : q < m
        · have g1 : (q : Int) < (m : Int) := by omega
          have c5 : W2.cell? ⟨w.heap.size + 2, 0, none⟩ = some (.slice a l.length c) := HM2.out.rb.cell 0
          have l5 := HM2.out.rb.lt
          obtain ⟨i0, hi, hz0, hz1, hz2⟩ := info_int
          have hll : l.length ≤ 2000 := by have := HN.out.len; have := HR.out.top.1; omega
          have hmx : l.length + 1 ≤ maxLen := by unfold maxLen; omega
          have kE := Blk.new W2 3 #[.int .i64 (x.1.1 : Int)]
          have hb3 : Below W2.heap.size W2 (W2.alloc (.cells #[.int .i64 (x.1.1 : Int)] 3)) := (Below.refl _ W2).alloc (Nat.le_refl _) _
          have HM3 := Lib.hid (HM2.out.after hb3)
          have HE3 := Lib.hid (HE2.out.belowS hb3)
          have HHI := Lib.hid (And.intro hi (And.intro hz0 (And.intro hz1 hz2)))
          have HWS := Lib.hid HM3.out.size
          have HLL := Lib.hid hll
          have HQM := Lib.hid hqm
          clear hi hz0 hz1 hz2 hb3 hll hqm
          gi_upto_region 10 with (gi_at_builtin; refine wpListIn_append_own_at _ rfl _ _ 25 rfl (w.heap.size + 3) 3 i0 (.int .i64 0) 1 8 Try.underlying25 HHI.out.1 HHI.out.2.1 HHI.out.2.2.1 HHI.out.2.2.2 rfl (by decide) (.slice a l.length c) l.length _ rfl HM3.out.own ⟨W2.heap.size, 0, none⟩ 1 1 [.int .i64 (x.1.1 : Int)] rfl rfl (World.news_of_block kE) (by simp [Value.oneCell']) hmx (by have := HLL.out; omega) HWS.out ?_; intro v' w6 hown6 hgrow _ _; obtain ⟨a6, cp6, rfl⟩ := own_form hown6; have hrb6 := HM3.out.rb.kept hgrow (fun e => by have := (own_lt HM3.out.own e.symm).1; omega); have c6 := hrb6.cell 0; have z6 := hrb6.frozen 0; have l6 := hrb6.lt; have HP := Lib.hid (HM3.out.push (x.1.1 : Int) Y hown6 hgrow); have HE6 := Lib.hid (HE3.out.kept hgrow (HM3.out.apart HE3.out)); have HG6 := Lib.hid (HM3.out.gb.kept hgrow (HM3.out.apart HM3.out.gb)); have HGR := Lib.hid hgrow; clear hown6 hgrow hrb6 kE hmx)
          have kB := HE6.out.other (B' := w.heap.size + 2) (i := 0) (by have := HS7.out; omega) (.slice a6 (l.length + 1) cp6)
          have kg := HG6.out.other (B' := w.heap.size + 2) (i := 0) (by omega) (.slice a6 (l.length + 1) cp6)
          obtain ⟨e0, e1⟩ := gp_cells (g := Y) kB
          have lB := kB.lt
          have zg0 := kg.frozen 0
          have zg1 := kg.frozen 1
          have lg := kg.lt
          have hSW : ∀ k, (fun k => k < w7.heap.size ∧ k ≠ w.heap.size + 1 ∧ k ≠ w.heap.size + 2 ∧ k ≠ Bg ∧ (Value.slice a l.length c).ownBlock ≠ some k) k → k < W.heap.size := HKS.out.lt hS
          have hks6 : Keeps (fun k => k < w7.heap.size ∧ k ≠ w.heap.size + 1 ∧ k ≠ w.heap.size + 2 ∧ k ≠ Bg ∧ (Value.slice a l.length c).ownBlock ≠ some k) w7 w6 := ((HKS.out.trans (Keeps.of_below HB2.out hSW)).trans (Keeps.of_below ((Below.refl _ W2).alloc (Nat.le_refl _) _) (fun k hk => Nat.lt_of_lt_of_le (hSW k hk) HB2.out.size))).trans ⟨HGR.out.size, fun k hk => HGR.out.block k (by have := hSW k hk; have := HB2.out.size; simp; omega) (fun e => hk.2.2.2.2 e.symm)⟩
          have HKF := Lib.hid (show KeepsFrom w7.heap.size W w6 from (((others_of HB2.out).trans (KeepsOthers.alloc _ _)).from _).trans (KeepsFrom.of_grownBy HGR.out (fun j e => by have := (HOWN.out j e).2; have := HS7.out; omega)))
          have HK6 := Lib.hid (((hks6.setCell (p := ⟨w.heap.size + 2, 0, none⟩) (fun h => h.2.2.1 rfl) (.slice a6 (l.length + 1) cp6)).setCell (p := ⟨Bg, 0, none⟩) (fun h => h.2.2.2.1 rfl) (.int .i64 (Y.n : Int))).setCell (p := ⟨Bg, 1, none⟩) (fun h => h.2.2.2.1 rfl) (.int .i64 (Y.p : Int)))
          obtain ⟨q0, q1⟩ := gp_cells (g := g) kg
          have HKF2 := Lib.hid (HKF.out.trans ((KeepsOthers.setCell w6 ⟨w.heap.size + 2, 0, none⟩ (.slice a6 (l.length + 1) cp6)).from _))
          clear kB kg hSW hks6 c5 l5 tc lT kc kz kl c6 z6 l6 HKF
          generalize w6.setCell ⟨w.heap.size + 2, 0, none⟩ (.slice a6 (l.length + 1) cp6) = w6b at *
          gi_wp2_with fail
          exact ⟨HKF2.out.trans (((KeepsOthers.setCell _ _ _).trans (KeepsOthers.setCell _ _ _)).from _), rfl, (HIX.out m _ _ rfl HQM.out HP.out HK6.out).2⟩
        · have g1 : ¬ (q : Int) < (m : Int) := by omega
          have ew : IntKind.i64.wrap ((q : Int) - (m : Int)) = ((q - m : Nat) : Int) := by rw [IntKind.wrap_i64]; omega
          have hSW : ∀ k, (fun k => k < w7.heap.size ∧ k ≠ w.heap.size + 1 ∧ k ≠ w.heap.size + 2 ∧ k ≠ Bg ∧ (Value.slice a l.length c).ownBlock ≠ some k) k → k < W.heap.size := HKS.out.lt hS
          have hks : Keeps (fun k => k < w7.heap.size ∧ k ≠ w.heap.size + 1 ∧ k ≠ w.heap.size + 2 ∧ k ≠ Bg ∧ (Value.slice a l.length c).ownBlock ≠ some k) W (W2.setCell ⟨w.heap.size + 1, 0, none⟩ (.int .i64 ((q - m : Nat) : Int))) := (Keeps.of_below HB2.out hSW).setCell (p := ⟨w.heap.size + 1, 0, none⟩) (fun h => h.2.1 rfl) _
          have HK6 := Lib.hid hks
          have hsm : sumN R.ps R.en.toNat g (pre ++ [x]) ≤ kk ∧ kk - sumN R.ps R.en.toNat g (pre ++ [x]) = q - m := by
            obtain ⟨q1, q2, q3, q4⟩ := HQ.out
            rw [q2]
            omega
          have HSM := Lib.hid hsm
          have HMK := Lib.hid (HM2.out.setK (q - m))
          clear hSW hks hsm
          gi_wp2_with fail
          exact ⟨((others_of HB2.out).trans (KeepsOthers.setCell _ _ _)).from _, HK6.out, HSM.out.1, by rw [HSM.out.2]; exact HMK.out, HKS.out.trans HK6.out⟩
      case done =>
        rintro D W hD ⟨hsum, hm, hk⟩ hDef
        have h1 := wy_sum HR.out.2.2.2.2 R.en.toNat HG0.out
        have h2 := HN.out.lt
        omega
      case stop =>
        rintro D c j W hD hj ⟨rfl, pre, x, v', he, h1, h2, hm, hk⟩ hDef
        have hpre := nx_split j pre [] hj he
        subst hpre
        have hN2 := HN.out.step HR.out HG0.out x h1 h2
        have hsl : (nxB g R.ps x).n < g.n := behG_lt (HR.out.2.2.2.2 _ (List.get_mem R.ps x.1)) x.2
        have hES : ∀ E ∈ Ds, E < w7.heap.size ∧ E ≠ w.heap.size + 1 ∧ E ≠ w.heap.size + 2 ∧ E ≠ Bg ∧ (Value.slice a l.length c).ownBlock ≠ some E := fun E hE => by
          obtain ⟨h3, h4⟩ := HD7.out.at_ E hE
          refine ⟨HD7.out.lt hE, by omega, by omega, fun e => ?_, fun e => ?_⟩
          · rw [e, show w7.heap[Bg]? = _ from HM7.out.gb] at h4
            cases h4
          · obtain ⟨_, _, cs, h5⟩ := own_lt HM7.out.own e
            rw [h4] at h5
            cases h5
        have hD2 : Marks (w.heap.size + 3) W (D :: Ds) :=
          (HD7.out.keep (fun E hE => hk.block E (hES E hE))).cons (by have := HM7.out.size; omega) hDef (fun hDD => by have := HD7.out.lt hDD; omega)
        have hN2' : NAt R k0 (nxB g R.ps x) (kk - sumN R.ps R.en.toNat g (nxTo g R.ps x.1.1)) (l ++ [(x.1.1 : Int)]) := hN2
        clear hN2 h1 h2 he hk hDef
        generalize nxB g R.ps x = Y at *
        obtain ⟨d0, d1⟩ := gp_cells (g := Y) hm.gb
        have lY := hm.gb.lt
        have HM8 := Lib.hid hm
        have HN8 := Lib.hid hN2'
        have HD8 := Lib.hid hD2
        clear hm hN2' hD2
        gi_wp2
        have hba : Below W.heap.size W (W.alloc (.cells #[.int .i64 (Y.n : Int), .int .i64 (Y.p : Int)] 87)) := (Below.refl _ _).alloc (Nat.le_refl _) _
        have h9 := HM8.out.after hba
        have kY := Blk.new W 87 #[.int .i64 (Y.n : Int), .int .i64 (Y.p : Int)]
        have hM9 : NMem w #[.int .i64 R.len, .int .i64 R.st, .int .i64 R.en, .slice R.pa R.ps.length R.pc, .pointer (some ⟨T, 0, none⟩)] (kk - sumN R.ps R.en.toNat g (nxTo g R.ps x.1.1)) v' (l ++ [(x.1.1 : Int)]) W.heap.size Y (W.alloc (.cells #[.int .i64 (Y.n : Int), .int .i64 (Y.p : Int)] 87)) :=
          ⟨h9.below, h9.size, h9.rows, h9.kb, h9.rb, h9.own, kY, HM8.out.size⟩
        have hD9 := HD8.out.keep (fun E hE => hba.block E (HD8.out.lt hE))
        refine ⟨?_, ?_⟩
        · refine ⟨Y, kk - sumN R.ps R.en.toNat g (nxTo g R.ps x.1.1), l ++ [(x.1.1 : Int)], v', W.heap.size, D :: Ds, ?_⟩
          repeat apply Exists.intro
          exact ⟨HN8.out, hM9, hD9, rfl⟩
        · have e1 : (W.alloc (.cells #[.int .i64 (Y.n : Int), .int .i64 (Y.p : Int)] 87)).cell? ⟨W.heap.size, 0, none⟩ = some (.int .i64 (Y.n : Int)) := kY.cell 0
          have e2 : wr.cell? ⟨Bg, 0, none⟩ = some (.int .i64 (g.n : Int)) := HMM.out.gb.cell 0
          simp [nthM, e1, e2, intOf]
          omega
end Go.Proofs.Ytmcmhgjlpffcnaa
