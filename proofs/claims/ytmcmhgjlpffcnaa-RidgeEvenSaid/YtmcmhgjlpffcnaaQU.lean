/- The number of a row (rows.rank). No condition but that the row fits, and that the table tells in how many ways gaps can be filled. -/
import Derived.Test.YtmcmhgjlpffcnaaQT
set_option linter.unusedSimpArgs false
namespace Go.Proofs.Ytmcmhgjlpffcnaa
open Go.RowKit Go.Shelf
attribute [local go_sem] Oper.semAt_some

theorem rank_lt {ps : List Pce} (hps : ∀ x ∈ ps, x.ok) (en : Nat) : ∀ (row : List Int) (g : Gp), runG ps g row = some ⟨0, en⟩ → rankF ps en g row < wy ps en g := by
  intro row
  induction row with
  | nil =>
    intro g e
    obtain rfl : g = ⟨0, en⟩ := by simpa [runG] using e
    rw [wy_end hps en rfl]
    simp [rankF]
  | cons a row ih =>
    intro g e
    rw [runG, List.foldlM_cons] at e
    cases hs : stepG ps g a with
    | none => rw [hs] at e; cases e
    | some g2 =>
      rw [hs] at e
      obtain ⟨x, ha, hx, ht, rfl⟩ := stepG_some hs
      have h1 := ih _ (show runG ps (behG g x) row = some ⟨0, en⟩ from e)
      have hi : a.toNat < ps.length := by omega
      have hget : ps.get ⟨a.toNat, hi⟩ = x := by
        rw [List.getElem?_eq_getElem hi] at hx
        exact Option.some.inj hx
      have hl := behG_lt (hps x (List.mem_of_getElem? hx)) ht
      have h0 : g.n ≠ 0 := by omega
      obtain ⟨rest, hr⟩ := nxL_at (g := g) (ps := ps) ⟨⟨a.toNat, hi⟩, by rw [hget]; exact ht⟩
      have hw := wy_sum hps en h0
      rw [hr] at hw
      simp only [sumN, List.map_append, List.sum_append, List.map_cons, List.sum_cons, nxB, hget] at hw
      simp only [rankF, hx, sumN, nxB]
      omega

/-- The memory of rank: the rows, what is ahead, the gap. -/
structure RMem (w : World) (RW : Array Value) (kk : Nat) (Bg : Nat) (g : Gp) (W : World) : Prop where
  below : Below w.heap.size w W
  size : w.heap.size + 2 ≤ W.heap.size
  rows : Blk W w.heap.size RW 67
  kb : Blk W (w.heap.size + 1) #[.int .i64 (kk : Int)] 3
  gb : Blk W Bg (gpC g) 87
  gB : w.heap.size + 2 ≤ Bg
theorem RMem.after {w : World} {RW : Array Value} {kk : Nat} {Bg : Nat} {g : Gp} {W W' : World} (h : RMem w RW kk Bg g W) (hb : Below W.heap.size W W') : RMem w RW kk Bg g W' :=
  ⟨h.below.trans (hb.mono h.below.size), Nat.le_trans h.size hb.size, h.rows.belowS hb, h.kb.belowS hb, h.gb.belowS hb, h.gB⟩
theorem RMem.grow {w : World} {RW : Array Value} {kk : Nat} {Bg : Nat} {g : Gp} {X Y : World} {B : Nat} {row : Option Nat} (h : RMem w RW kk Bg g X) (hB : w.heap.size ≤ B) (hg : X.grownBy Y row) (hr : ∀ r, row = some r → B ≤ r ∧ ∃ o : Obj, X.heap[r]? = some o ∧ o.isCells = false) : RMem w RW kk Bg g Y := by
  have kp : ∀ b cs t, Blk X b cs t → Blk Y b cs t := fun b cs t hb => own_blk B b t (fun _ : Unit => cs) () X Y row hb hg hr
  exact ⟨h.below.grown hg h.below.size (fun k e => by have := (hr k e).1; omega), Nat.le_trans h.size hg.size, kp _ _ _ h.rows, kp _ _ _ h.kb, kp _ _ _ h.gb, h.gB⟩
theorem RMem.setK {w : World} {RW : Array Value} {kk : Nat} {Bg : Nat} {g : Gp} {W : World} (h : RMem w RW kk Bg g W) (k2 : Nat) : RMem w RW k2 Bg g (W.setCell ⟨w.heap.size + 1, 0, none⟩ (.int .i64 (k2 : Int))) := by
  have hs : (W.setCell ⟨w.heap.size + 1, 0, none⟩ (.int .i64 (k2 : Int))).heap.size = W.heap.size := by simp [World.setCell]
  have hB := h.gB
  exact ⟨h.below.setCell (p := ⟨w.heap.size + 1, 0, none⟩) (by show w.heap.size ≤ w.heap.size + 1; omega) _, by rw [hs]; exact h.size, h.rows.other (by omega) _, h.kb.set 0 _, h.gb.other (by omega) _, hB⟩
theorem RMem.setG {w : World} {RW : Array Value} {kk : Nat} {Bg : Nat} {g : Gp} {W : World} (h : RMem w RW kk Bg g W) (g' : Gp) : RMem w RW kk Bg g' ((W.setCell ⟨Bg, 0, none⟩ (.int .i64 (g'.n : Int))).setCell ⟨Bg, 1, none⟩ (.int .i64 (g'.p : Int))) := by
  have hs : ((W.setCell ⟨Bg, 0, none⟩ (.int .i64 (g'.n : Int))).setCell ⟨Bg, 1, none⟩ (.int .i64 (g'.p : Int))).heap.size = W.heap.size := by simp [World.setCell]
  have hB := h.gB
  exact ⟨(h.below.setCell (p := ⟨Bg, 0, none⟩) (by show w.heap.size ≤ Bg; omega) _).setCell (p := ⟨Bg, 1, none⟩) (by show w.heap.size ≤ Bg; omega) _, by rw [hs]; exact h.size, (h.rows.other (by omega) _).other (by omega) _, (h.kb.other (by omega) _).other (by omega) _, (h.gb.set 0 _).set 1 _, hB⟩
def rhA (x0 x1 x2 x3 x4 x5 x6 x7 x8 x9 x10 x11 x12 x13 x14 x15 x16 x17 x18 x19 x20 x21 x22 x23 x24 x25 x26 x27 x28 x29 x30 x31 x32 x33 x34 x35 x36 x37 x38 x39 x40 : Value) (ds : List Deferred) : Act := { tmps := #[x0, x1, x2, x3, x4, x5, x6, x7, x8, x9, x10, x11, x12, x13, x14, x15, x16, x17, x18, x19, x20, x21, x22, x23, x24, x25, x26, x27, x28, x29, x30, x31, x32, x33, x34, x35, x36, x37, x38, x39, x40], defers := ds }
/-- Where the walk stands: a gap that pieces leave, what is ahead, and the rest of the row, which fills the gap. -/
structure RAt (R : Rdg) (row : List Int) (j : Nat) (g : Gp) (kk : Nat) : Prop where
  ok : g.ok
  rch : Rch R.ps R.top g
  run : runG R.ps g (row.drop j) = some ⟨0, R.en.toNat⟩
  sum : kk + rankF R.ps R.en.toNat g (row.drop j) = rankR R row
theorem RAt.step {R : Rdg} {row : List Int} {j : Nat} {g : Gp} {kk : Nat} (h : RAt R row j g kk) (hR : R.ok) {n : Nat} (hn : row[j]? = some (n : Int)) (x : Nx g R.ps) (hx : x.1.1 = n) :
    RAt R row (j + 1) (nxB g R.ps x) (kk + preN R.ps R.en.toNat x) := by
  have hxo := hR.2.2.2.2 _ (List.get_mem R.ps x.1)
  obtain ⟨hj, hv⟩ := List.getElem?_eq_some_iff.1 hn
  have hd : row.drop j = (n : Int) :: row.drop (j + 1) := by rw [List.drop_eq_getElem_cons hj, hv]
  have hs : stepG R.ps g (n : Int) = some (nxB g R.ps x) := by
    rw [← hx]
    exact stepG_of (List.getElem?_eq_getElem x.1.2) x.2
  have hr := h.run
  have hsum := h.sum
  rw [hd] at hr hsum
  rw [runG, List.foldlM_cons, hs] at hr
  refine ⟨behG_ok h.ok hxo, .step h.rch (List.get_mem _ _) x.2, hr, ?_⟩
  simp only [rankF, Int.toNat_natCast] at hsum
  rw [← hx, List.getElem?_eq_getElem x.1.2] at hsum
  show kk + sumN R.ps R.en.toNat g (nxTo g R.ps x.1.1) + rankF R.ps R.en.toNat (nxB g R.ps x) (row.drop (j + 1)) = _
  rw [Nat.add_assoc]
  exact hsum
theorem RAt.can {R : Rdg} {row : List Int} {j : Nat} {g : Gp} {kk : Nat} (h : RAt R row j g kk) {n : Nat} (hn : row[j]? = some (n : Int)) : ∃ x ∈ nxL g R.ps, x.1.1 = n := by
  obtain ⟨hj, hv⟩ := List.getElem?_eq_some_iff.1 hn
  have hr := h.run
  rw [List.drop_eq_getElem_cons hj, hv, runG, List.foldlM_cons] at hr
  cases hs : stepG R.ps g (n : Int) with
  | none => rw [hs] at hr; cases hr
  | some g2 =>
    obtain ⟨y, ha, hy, ht, -⟩ := stepG_some hs
    rw [Int.toNat_natCast] at hy
    have hi : n < R.ps.length := by omega
    have hget : R.ps.get ⟨n, hi⟩ = y := by
      rw [List.getElem?_eq_getElem hi] at hy
      exact Option.some.inj hy
    exact ⟨⟨⟨n, hi⟩, by rw [hget]; exact ht⟩, nxTo_mem.2 hi, rfl⟩
def RankSaid (R : Rdg) (row : List Int) (w : World) (e : Ending) (w' : World) : Prop := e = .returned (.int .i64 (rankR R row : Int)) ∧ Below w.heap.size w w'

set_option maxRecDepth 100000 in
set_option maxHeartbeats 16000000 in
theorem rank_any (R : Rdg) (T : Nat) (f : Nat → Int) (sa : Option Addr) (c : Nat) (row : List Int) (w : World) (hR : R.ok) (hrow : IsPcs w R.pa R.pc R.ps) (hT : TabI w T f) (hf : ∀ g, Rch R.ps R.top g → f g.ix = (wy R.ps R.en.toNat g : Int)) (hM : wy R.ps R.en.toNat R.top ≤ MW) (hfit : fitsB R row = true) (hns : IsInts w sa c row) :
    Calls Try.prog 64 #[.agg #[.int .i64 R.len, .int .i64 R.st, .int .i64 R.en, .slice R.pa R.ps.length R.pc, .pointer (some ⟨T, 0, none⟩)], .slice sa row.length c] w (RankSaid R row w) := by
  refine (callsIn_wide (n := 5)).1 ?_
  refine callsIn_of_wp_marks Try.func64 rfl trivial ?_ rfl
  have hts : R.len = (R.top.n : Int) ∧ R.st = (R.top.p : Int) := by
    obtain ⟨⟨h1, h2⟩, ⟨h3, h4⟩, -⟩ := hR
    simp only [Rdg.top]
    omega
  have hrl := ints_le hns
  have hrun := fitsB_iff.1 hfit
  have hlt : rankR R row < wy R.ps R.en.toNat R.top := rank_lt hR.2.2.2.2 _ row _ hrun
  have HINR := Lib.hid (fits_in hfit)
  have HR := Lib.hid hR
  have HROW := Lib.hid hrow
  have HTAB := Lib.hid hT
  have HF := Lib.hid hf
  have HM := Lib.hid hM
  have HNS := Lib.hid hns
  have HLT := Lib.hid hlt
  have HAT := Lib.hid (show RAt R row 0 R.top 0 from ⟨hR.top, .top, by rw [List.drop_zero]; exact hrun, by rw [List.drop_zero, Nat.zero_add]; rfl⟩)
  have HTS := Lib.hid hts
  have hTl := hT.lt
  clear hR hrow hT hf hM hns hfit hts hrun hlt
  simp only [Try.ntmps64, List.size_toArray, List.length_cons, List.length_nil, Nat.reduceAdd, Nat.reduceSub, Array.replicate_succ, Array.replicate_zero, List.push_toArray, List.append_toArray, List.nil_append, List.cons_append]
  gi_wp2_with fail
  have k1 := (Blk.new w 67 #[.int .i64 R.len, .int .i64 R.st, .int .i64 R.en, .slice R.pa R.ps.length R.pc, .pointer (some ⟨T, 0, none⟩)]).alloc (.cells #[.int .i64 0] 3)
  have k2 := Blk.new (w.alloc (.cells #[.int .i64 R.len, .int .i64 R.st, .int .i64 R.en, .slice R.pa R.ps.length R.pc, .pointer (some ⟨T, 0, none⟩)] 67)) 3 #[.int .i64 0]
  have hb1 : Below w.heap.size w ((w.alloc (.cells #[.int .i64 R.len, .int .i64 R.st, .int .i64 R.en, .slice R.pa R.ps.length R.pc, .pointer (some ⟨T, 0, none⟩)] 67)).alloc (.cells #[.int .i64 0] 3)) := ((Below.refl _ w).alloc (Nat.le_refl _) _).alloc (by simp) _
  have hs1 : ((w.alloc (.cells #[.int .i64 R.len, .int .i64 R.st, .int .i64 R.en, .slice R.pa R.ps.length R.pc, .pointer (some ⟨T, 0, none⟩)] 67)).alloc (.cells #[.int .i64 0] 3)).heap.size = w.heap.size + 2 := by simp
  simp only [World.size_alloc, Nat.add_assoc, Nat.reduceAdd] at k1 k2
  generalize ((w.alloc (.cells #[.int .i64 R.len, .int .i64 R.st, .int .i64 R.en, .slice R.pa R.ps.length R.pc, .pointer (some ⟨T, 0, none⟩)] 67)).alloc (.cells #[.int .i64 0] 3)) = w1 at *
  refine ⟨trivial, ?_⟩
  refine (callsIn_wide.2 (whole_any R _)).mono ?_
  rintro e w2 ⟨rfl, hb2⟩
  have kG := Blk.new w2 87 #[.int .i64 R.len, .int .i64 R.st]
  have hb3 : Below w2.heap.size w2 (w2.alloc (.cells #[.int .i64 R.len, .int .i64 R.st] 87)) := (Below.refl _ w2).alloc (Nat.le_refl _) _
  have hbb := hb2.trans (hb3.mono hb2.size)
  have hI0 : RMem w #[.int .i64 R.len, .int .i64 R.st, .int .i64 R.en, .slice R.pa R.ps.length R.pc, .pointer (some ⟨T, 0, none⟩)] 0 w2.heap.size R.top (w2.alloc (.cells #[.int .i64 R.len, .int .i64 R.st] 87)) :=
    ⟨hb1.trans (hbb.mono hb1.size), by rw [World.size_alloc]; have := hb2.size; omega, k1.belowS hbb, k2.belowS hbb, by show Blk _ _ #[.int .i64 (R.top.n : Int), .int .i64 (R.top.p : Int)] _; rw [← HTS.out.1, ← HTS.out.2]; exact kG, by have := hb2.size; omega⟩
  have HI0 := Lib.hid hI0
  clear k1 k2 hb1 hs1 hb2 kG hb3 hbb hI0
  dsimp only
  gi_wp2_with fail
  generalize w2.alloc (.cells #[.int .i64 R.len, .int .i64 R.st] 87) = w3 at *
  obtain ⟨Bg, hBg⟩ : ∃ Bg, w2.heap.size = Bg := ⟨_, rfl⟩
  rw [hBg] at HI0 ⊢
  clear hBg
  refine wpIn_loop (fun a W => ∃ (j : Nat) (g : Gp) (kk : Nat) (Ds : List Nat) (u8 u9 u10 u17 u18 u19 u20 u21 u22 u23 u24 u25 u26 u27 u28 u29 u30 u31 u32 u33 u34 u35 u36 u37 u38 u39 u40 : Value), j ≤ row.length ∧ RAt R row j g kk ∧ RMem w #[.int .i64 R.len, .int .i64 R.st, .int .i64 R.en, .slice R.pa R.ps.length R.pc, .pointer (some ⟨T, 0, none⟩)] kk Bg g W ∧ Marks (w.heap.size + 2) W Ds ∧ a = rhA (.agg #[.int .i64 R.len, .int .i64 R.st, .int .i64 R.en, .slice R.pa R.ps.length R.pc, .pointer (some ⟨T, 0, none⟩)]) (.slice sa row.length c) (.pointer (some ⟨w.heap.size, 0, none⟩)) (undef) (.int .i64 0) (.pointer (some ⟨w.heap.size + 1, 0, none⟩)) (.pointer (some ⟨Bg, 0, none⟩)) (undef) u8 u9 u10 (.pointer (some ⟨w.heap.size, 0, none⟩)) (.agg #[.int .i64 R.len, .int .i64 R.st, .int .i64 R.en, .slice R.pa R.ps.length R.pc]) (.agg #[.int .i64 R.len, .int .i64 R.st]) (.slice sa row.length c) (.int .i64 (row.length : Int)) (.int .i64 (j : Int)) u17 u18 u19 u20 u21 u22 u23 u24 u25 u26 u27 u28 u29 u30 u31 u32 u33 u34 u35 u36 u37 u38 u39 u40 (Ds.map markD)) (fun a _ => row.length - (intOf (a.tmps.getD 16 undef)).toNat)
    ⟨0, R.top, 0, [], undef, undef, undef, undef, undef, undef, undef, undef, undef, undef, undef, undef, undef, undef, undef, undef, undef, undef, undef, undef, undef, undef, undef, undef, undef, undef, undef, Nat.zero_le _, HAT.out, HI0.out, Marks.nil _ _, rfl⟩ ?round
  case round =>
    rintro a wr ⟨j, g, kk, Ds, u8, u9, u10, u17, u18, u19, u20, u21, u22, u23, u24, u25, u26, u27, u28, u29, u30, u31, u32, u33, u34, u35, u36, u37, u38, u39, u40, hj, hN, hM, hD, rfl⟩
    unfold rhA
    have c5 : wr.cell? ⟨w.heap.size + 1, 0, none⟩ = some (.int .i64 (kk : Int)) := hM.kb.cell 0
    have l5 := hM.kb.lt
    have HN := Lib.hid hN
    have HMM := Lib.hid hM
    have HD := Lib.hid hD
    clear hM hD HI0 HAT
    by_cases hlj : j < row.length
    rotate_left
    · obtain rfl : j = row.length := by omega
      have g0 : ¬ (row.length : Int) < (row.length : Int) := by omega
      have hsum := hN.sum
      rw [List.drop_length] at hsum
      have HSUM := Lib.hid (show kk = rankR R row by simpa [rankF] using hsum)
      clear hN hsum hlj hj
      gi_wp2
      refine leaves_marks (by simp) Ds _ HD.out HMM.out.size (fun W hb hk => ?_)
      exact ⟨.int .i64 (kk : Int), by simp [results, Try.results64, go_sem], by rw [HSUM.out], HMM.out.below.trans (hb.mono (by omega))⟩
    · have g0 : (j : Int) < (row.length : Int) := by omega
      have hj0 : (0 : Int) ≤ (j : Int) := Int.natCast_nonneg _
      have hq : row[j]? = some row[j] := List.getElem?_eq_getElem hlj
      have hnr := HINR.out _ (List.mem_of_getElem? hq)
      obtain ⟨b, off, e, hbw, hc1, hc2, hp⟩ := HNS.out.at hq
      obtain ⟨n, hn⟩ : ∃ n : Nat, row[j] = (n : Int) := ⟨row[j].toNat, by omega⟩
      rw [hn] at hq hp
      have hbl : b < wr.heap.size := Nat.lt_of_lt_of_le hbw HMM.out.below.size
      have c0 : wr.cell? ⟨b, off + j * 1, none⟩ = some (.int .i64 (n : Int)) := (HMM.out.below.cell (p := ⟨b, off + j * 1, none⟩) hbw).trans hp
      rw [Nat.mul_one] at c0
      have HQ := Lib.hid hq
      have hkr : kk ≤ rankR R row := by have := hN.sum; omega
      have hkM : kk ≤ MW := by have := HLT.out; have := HM.out; omega
      obtain ⟨d0, d1⟩ := gp_cells (g := g) HMM.out.gb
      have lG := HMM.out.gb.lt
      have r0 := HMM.out.rows.cell 0
      have r1 := HMM.out.rows.cell 1
      have r2 := HMM.out.rows.cell 2
      have r3 := HMM.out.rows.cell 3
      have r4 := HMM.out.rows.cell 4
      have lR := HMM.out.rows.lt
      simp only [List.getElem?_toArray, List.getElem?_cons_zero, List.getElem?_cons_succ] at r0 r1 r2 r3 r4
      subst e
      clear hN hnr hp hq hn hbw hkr
      gi_wp2_with fail
      have kN := Blk.new wr 3 #[.int .i64 (n : Int)]
      have hbx : Below wr.heap.size wr (wr.alloc (.cells #[.int .i64 (n : Int)] 3)) := (Below.refl _ wr).alloc (Nat.le_refl _) _
      have hszx : (wr.alloc (.cells #[.int .i64 (n : Int)] 3)).heap.size = wr.heap.size + 1 := by simp
      generalize wr.alloc (.cells #[.int .i64 (n : Int)] 3) = wx at *
      refine ⟨trivial, ?_⟩
      refine (callsIn_wide.2 (next_any g _ _ _ _)).mono ?_
      rintro e w7 ⟨rfl, hw7⟩
      have kg7 : Blk w7 wx.heap.size #[.int .i64 (g.n : Int), .int .i64 (g.p : Int)] 87 := by rw [hw7]; exact (Blk.new wx _ _).alloc _
      have ks7 : Blk w7 (wx.heap.size + 1) #[.slice R.pa R.ps.length R.pc] 22 := by rw [hw7]; have := Blk.new (wx.alloc (.cells #[.int .i64 (g.n : Int), .int .i64 (g.p : Int)] 87)) 22 #[.slice R.pa R.ps.length R.pc]; rwa [World.size_alloc] at this
      have hb7x : Below wx.heap.size wx w7 := by rw [hw7]; exact ((Below.refl _ _).alloc (Nat.le_refl _) _).alloc (by simp) _
      have hsz7 : w7.heap.size = wx.heap.size + 2 := by rw [hw7]; simp
      have hb7 : Below wr.heap.size wr w7 := hbx.trans (hb7x.mono hbx.size)
      have hM7 := HMM.out.after hb7
      have hD7 := HD.out.keep (fun D hD => hb7.block D (HD.out.lt hD))
      have HM7 := Lib.hid hM7
      have HD7 := Lib.hid hD7
      have HS7 := Lib.hid (And.intro hsz7 hszx)
      have KG7 := Lib.hid kg7
      have KS7 := Lib.hid ks7
      have KN7 := Lib.hid (kN.belowS hb7x)
      have hS : ∀ k, (k < w7.heap.size ∧ k ≠ w.heap.size + 1 ∧ k ≠ Bg) → k < w7.heap.size := fun k hk => hk.1
      have hwr := HMM.out.size
      have hgB := HMM.out.gB
      have HLG := Lib.hid lG
      have hpin : PcsIn (fun k => k < w7.heap.size ∧ k ≠ w.heap.size + 1 ∧ k ≠ Bg) w7 R.pa R.pc R.ps := by
        rcases HROW.out with h | ⟨b, off, e, hl, hc, hc', hp⟩
        · exact .inl h
        · exact .inr ⟨b, off, e, ⟨by omega, by omega, by omega⟩, hc, hc', fun j x hj => PceAt.keep (bcell hM7.below).1 _ _ _ hl (hp j x hj)⟩
      have hBsS : (fun k => k < w7.heap.size ∧ k ≠ w.heap.size + 1 ∧ k ≠ Bg) (wx.heap.size + 1) := ⟨by omega, by omega, by omega⟩
      have hBgS : (fun k => k < w7.heap.size ∧ k ≠ w.heap.size + 1 ∧ k ≠ Bg) wx.heap.size := ⟨by omega, by omega, by omega⟩
      have hNS : (fun k => k < w7.heap.size ∧ k ≠ w.heap.size + 1 ∧ k ≠ Bg) wr.heap.size := ⟨by omega, by omega, by omega⟩
      have HNSS := Lib.hid hNS
      clear hw7 kg7 ks7 kN hb7 hb7x hbx hM7 hD7 d0 d1 r0 r1 r2 r3 r4 lR lG c5 l5 c0 hbl hsz7 hszx hNS
      dsimp only
      gi_wp2_with fail
      refine next_law (n := 5) (by omega) (Bs := wx.heap.size + 1) (Bg := wx.heap.size) rfl (fun k => k < w7.heap.size ∧ k ≠ w.heap.size + 1 ∧ k ≠ Bg) (G := g) HN.out.ok HR.out.2.2.2.2 hBsS hBgS hS (KS7.out.cell 0) (KG7.out.cell 0) (KG7.out.cell 1) hpin rfl
        (fun pre W => (∀ y ∈ pre, y.1.1 ≠ n) ∧ RMem w #[.int .i64 R.len, .int .i64 R.st, .int .i64 R.en, .slice R.pa R.ps.length R.pc, .pointer (some ⟨T, 0, none⟩)] (kk + sumN R.ps R.en.toNat g pre) Bg g W ∧ Keeps (fun k => k < w7.heap.size ∧ k ≠ w.heap.size + 1 ∧ k ≠ Bg) w7 W)
        (fun cd lst W => cd = .exit 2 ∧ ∃ pre x, lst = pre ++ [x] ∧ x.1.1 = n ∧ RMem w #[.int .i64 R.len, .int .i64 R.st, .int .i64 R.en, .slice R.pa R.ps.length R.pc, .pointer (some ⟨T, 0, none⟩)] (kk + sumN R.ps R.en.toNat g pre) Bg (nxB g R.ps x) W ∧ Keeps (fun k => k < w7.heap.size ∧ k ≠ w.heap.size + 1 ∧ k ≠ Bg) w7 W)
        (fun pre X Y row h hg hr => ⟨h.1, h.2.1.grow (by have := HM7.out.size; omega) hg hr, ownFrom_keeps (β := Unit) hS hS () X Y row h.2.2 hg hr⟩)
        (fun cd pre X Y row h hg hr => by
          obtain ⟨hc, pre, x, h1, h2, h4, h5⟩ := h
          exact ⟨hc, pre, x, h1, h2, h4.grow (by have := HM7.out.size; omega) hg hr, ownFrom_keeps (β := Unit) hS hS () X Y row h5 hg hr⟩)
        ⟨(fun y hy => by cases hy), HM7.out, Keeps.refl _ _⟩
        (fun x Bx => { tmps := #[.agg #[.int .i64 R.len, .int .i64 R.st, .int .i64 R.en, .slice R.pa R.ps.length R.pc, .pointer (some ⟨T, 0, none⟩)], .slice (some ⟨b, off, none⟩) row.length c, .pointer (some ⟨w.heap.size, 0, none⟩), undef, .int .i64 0, .pointer (some ⟨w.heap.size + 1, 0, none⟩), .pointer (some ⟨Bg, 0, none⟩), undef, .pointer (some ⟨wr.heap.size, 0, none⟩), .int .i64 (x.1.1 : Int), .pointer (some ⟨Bx, 0, none⟩), .pointer (some ⟨w.heap.size, 0, none⟩), .agg #[.int .i64 R.len, .int .i64 R.st, .int .i64 R.en, .slice R.pa R.ps.length R.pc], .agg #[.int .i64 R.len, .int .i64 R.st], .slice (some ⟨b, off, none⟩) row.length c, .int .i64 (row.length : Int), .int .i64 (j : Int), .bool true, .pointer (some ⟨b, off + j, none⟩), .int .i64 (n : Int), .agg #[.int .i64 (g.n : Int), .int .i64 (g.p : Int)], .pointer (some ⟨w.heap.size, 0, none⟩), .pointer (some ⟨w.heap.size, 3, none⟩), .slice R.pa R.ps.length R.pc, .func (.func 103) #[] #[.pointer (some ⟨wx.heap.size + 1, 0, none⟩), .pointer (some ⟨wx.heap.size, 0, none⟩)], .int .i64 (x.1.1 : Int), .agg #[.int .i64 ((nxB g R.ps x).n : Int), .int .i64 ((nxB g R.ps x).p : Int)], u27, u28, u29, u30, u31, u32, u33, u34, u35, u36, u37, u38, u39, u40], defers := [] }) ?assign ?body ?done ?stop
      case assign =>
        intro L x W K hK
        unfold encN at *
        gi_wp2
        exact hK
      case body =>
        rintro L pre x Bx W hBx hWs hE ⟨hne, hm, hk⟩ hlt
        have hx := HR.out.2.2.2.2 _ (List.get_mem R.ps x.1)
        have hYo : (nxB g R.ps x).ok := behG_ok HN.out.ok hx
        have hrY : Rch R.ps R.top (nxB g R.ps x) := .step HN.out.rch (List.get_mem _ _) x.2
        have hTY := HF.out _ hrY
        have hwY : wy R.ps R.en.toNat (nxB g R.ps x) ≤ MW := Nat.le_trans (wy_rch HR.out.2.2.2.2 _ hrY) HM.out
        have hsn := sumN_snoc R.ps R.en.toNat g pre x
        have hsl := sumN_le (M := MW) (fun y : Nx g R.ps => Nat.le_trans (wy_rch HR.out.2.2.2.2 _ (.step HN.out.rch (List.get_mem R.ps y.1) y.2)) HM.out) pre
        have hl10 := HR.out.2.2.2.1
        have hTW : TabI W T f := HTAB.out.of_block (hm.below.block _ hTl)
        have hnb : Blk W wr.heap.size #[.int .i64 (n : Int)] 3 := (hk.block _ HNSS.out).trans KN7.out
        have n0 : W.cell? ⟨wr.heap.size, 0, none⟩ = some (.int .i64 (n : Int)) := hnb.cell 0
        have ln := hnb.lt
        have HIX := Lib.hid (fun (Z : World) (h2 : x.1.1 = n) (h4 : RMem w #[.int .i64 R.len, .int .i64 R.st, .int .i64 R.en, .slice R.pa R.ps.length R.pc, .pointer (some ⟨T, 0, none⟩)] (kk + sumN R.ps R.en.toNat g pre) Bg (nxB g R.ps x) Z) (h5 : Keeps (fun k => k < w7.heap.size ∧ k ≠ w.heap.size + 1 ∧ k ≠ Bg) w7 Z) =>
          (show ∃ pre' x', pre ++ [x] = pre' ++ [x'] ∧ x'.1.1 = n ∧ RMem w #[.int .i64 R.len, .int .i64 R.st, .int .i64 R.en, .slice R.pa R.ps.length R.pc, .pointer (some ⟨T, 0, none⟩)] (kk + sumN R.ps R.en.toNat g pre') Bg (nxB g R.ps x') Z ∧ Keeps (fun k => k < w7.heap.size ∧ k ≠ w.heap.size + 1 ∧ k ≠ Bg) w7 Z from ⟨pre, x, rfl, h2, h4, h5⟩))
        have HTY := Lib.hid hTY
        have HYO := Lib.hid hYo
        generalize nxB g R.ps x = Y at *
        have HMW := Lib.hid hm
        have HKS := Lib.hid hk
        have HTW := Lib.hid hTW
        have HEB := Lib.hid hE
        have HNE := Lib.hid hne
        obtain ⟨e0, e1⟩ := gp_cells (g := Y) hE
        have lE := hE.lt
        have hSW : ∀ k, (fun k => k < w7.heap.size ∧ k ≠ w.heap.size + 1 ∧ k ≠ Bg) k → k < W.heap.size := HKS.out.lt hS
        clear hYo hrY hTY hm hk hTW hE hx hne hnb
        by_cases hxn : x.1.1 = n
        · have g1 : ((x.1.1 : Int) == (n : Int)) = true := by simpa using congrArg (Nat.cast : Nat → Int) hxn
          have hg := HMW.out.gb
          obtain ⟨q0, q1⟩ := gp_cells (g := g) hg
          have zg0 := hg.frozen 0
          have zg1 := hg.frozen 1
          have lg := hg.lt
          have HXN := Lib.hid hxn
          have HP := Lib.hid (HMW.out.setG Y)
          have HK6 := Lib.hid ((HKS.out.setCell (p := ⟨Bg, 0, none⟩) (fun h => h.2.2 rfl) (.int .i64 (Y.n : Int))).setCell (p := ⟨Bg, 1, none⟩) (fun h => h.2.2 rfl) (.int .i64 (Y.p : Int)))
          clear hg hsn hsl hxn hSW
          gi_wp2_with fail
          exact ⟨((KeepsOthers.setCell _ _ _).trans (KeepsOthers.setCell _ _ _)).from _, rfl, HIX.out _ HXN.out HP.out HK6.out⟩
        · have g1 : ((x.1.1 : Int) == (n : Int)) = false := by
            rw [beq_eq_false_iff_ne]
            intro e
            exact hxn (by omega)
          obtain ⟨m, hmw⟩ : ∃ m, wy R.ps R.en.toNat Y = m := ⟨_, rfl⟩
          obtain ⟨q, hq⟩ : ∃ q, kk + sumN R.ps R.en.toNat g pre = q := ⟨_, rfl⟩
          have hadd : IntKind.i64.wrap ((q : Int) + (m : Int)) = ((q + m : Nat) : Int) := by
            have h10 : MW * pre.length ≤ MW * 10 := Nat.mul_le_mul_left _ (by omega)
            rw [IntKind.wrap_i64]
            unfold MW at *
            omega
          have hsm : kk + sumN R.ps R.en.toNat g (pre ++ [x]) = q + m := by rw [hsn, hmw]; omega
          rw [hq] at HMW
          have htc : f Y.ix = (m : Int) := by rw [HTY.out, hmw]
          have HAD := Lib.hid hadd
          have HSM := Lib.hid hsm
          have HXN := Lib.hid hxn
          have HTC := Lib.hid htc
          have hcl : ∀ Z, Below W.heap.size W Z → (fun w' : World => w'.cell? ⟨w.heap.size + 1, 0, none⟩ = some (.int .i64 (q : Int)) ∧ w'.cell? ⟨w.heap.size, 4, none⟩ = some (.pointer (some ⟨T, 0, none⟩)) ∧ (w'.cell? ⟨Bx, 0, none⟩ = some (.int .i64 (Y.n : Int)) ∧ w'.cell? ⟨Bx, 1, none⟩ = some (.int .i64 (Y.p : Int))) ∧ w'.cell? ⟨T, Y.ix, none⟩ = some (.int .i64 (m : Int))) Z := fun Z h => by
            have h1 := HMW.out.after h
            have h2 := HEB.out.belowS h
            have h3 := (HTW.out.of_block (h.block _ HTW.out.lt)).cell (ix_lt HYO.out)
            rw [HTC.out] at h3
            exact ⟨h1.kb.cell 0, h1.rows.cell 4, gp_cells (g := Y) h2, h3⟩
          have HCL := Lib.hid hcl
          have hx : (fun w' : World => w'.cell? ⟨w.heap.size + 1, 0, none⟩ = some (.int .i64 (q : Int)) ∧ w'.cell? ⟨w.heap.size, 4, none⟩ = some (.pointer (some ⟨T, 0, none⟩)) ∧ (w'.cell? ⟨Bx, 0, none⟩ = some (.int .i64 (Y.n : Int)) ∧ w'.cell? ⟨Bx, 1, none⟩ = some (.int .i64 (Y.p : Int))) ∧ w'.cell? ⟨T, Y.ix, none⟩ = some (.int .i64 (m : Int))) W.drew := hcl _ (Below.refl _ _).drew
          have c5 : W.cell? ⟨w.heap.size + 1, 0, none⟩ = some (.int .i64 (q : Int)) := HMW.out.kb.cell 0
          clear hsn hsl hmw hq hadd hsm hxn htc hcl hwY
          gi_wp2_with fail
          refine wpIn_region_E 8 (fun w' => w'.cell? ⟨w.heap.size + 1, 0, none⟩ = some (.int .i64 (q : Int)) ∧ w'.cell? ⟨w.heap.size, 4, none⟩ = some (.pointer (some ⟨T, 0, none⟩)) ∧ (w'.cell? ⟨Bx, 0, none⟩ = some (.int .i64 (Y.n : Int)) ∧ w'.cell? ⟨Bx, 1, none⟩ = some (.int .i64 (Y.p : Int))) ∧ w'.cell? ⟨T, Y.ix, none⟩ = some (.int .i64 (m : Int))) (by kernel_rfl) (by kernel_rfl) (by rintro ⟨_, _, h⟩; exact h) ?_
          refine E_take (i := 0) (oi := _) (v := ?v1) rfl (by kernel_rfl) (by kernel_rfl) (by kernel_rfl) (by kernel_rfl) (fun _ _ _ h => h) hx (Or.inl ⟨by rfl, ?y1⟩) ?r1
          case y1 => (intro w' hSw; (try dsimp only at hSw); go_simp; try with_reducible rfl)
          try simp only [Act.put, List.getElem_toArray, List.getElem_cons_zero, List.getElem_cons_succ, List.setIfInBounds_toArray, List.set_cons_zero, List.set_cons_succ]
          refine E_take (i := 1) (oi := _) (v := ?v2) rfl (by kernel_rfl) (by kernel_rfl) (by kernel_rfl) (by kernel_rfl) (fun _ _ _ h => h) hx (Or.inl ⟨by rfl, ?y2⟩) ?r2
          case y2 => (intro w' hSw; (try dsimp only at hSw); go_simp; try with_reducible rfl)
          try simp only [Act.put, List.getElem_toArray, List.getElem_cons_zero, List.getElem_cons_succ, List.setIfInBounds_toArray, List.set_cons_zero, List.set_cons_succ]
          refine E_take (i := 2) (oi := _) (v := ?v3) rfl (by kernel_rfl) (by kernel_rfl) (by kernel_rfl) (by kernel_rfl) (fun _ _ _ h => h) hx (Or.inl ⟨by rfl, ?y3⟩) ?r3
          case y3 => (intro w' hSw; (try dsimp only at hSw); go_simp; try with_reducible rfl)
          try simp only [Act.put, List.getElem_toArray, List.getElem_cons_zero, List.getElem_cons_succ, List.setIfInBounds_toArray, List.set_cons_zero, List.set_cons_succ]
          refine E_take (i := 3) (oi := _) (v := ?v4) rfl (by kernel_rfl) (by kernel_rfl) (by kernel_rfl) (by kernel_rfl) (fun _ _ _ h => h) hx (Or.inl ⟨by rfl, ?y4⟩) ?r4
          case y4 => (intro w' hSw; (try dsimp only at hSw); go_simp; try with_reducible rfl)
          try simp only [Act.put, List.getElem_toArray, List.getElem_cons_zero, List.getElem_cons_succ, List.setIfInBounds_toArray, List.set_cons_zero, List.set_cons_succ]
          refine E_step (i := 4) (o := _) (by kernel_rfl) rfl (fun K hK => ?_)
          go_simp
          refine (atI_any T Y _ HYO.out).mono ?_
          rintro e w6 ⟨rfl, hb6⟩
          dsimp only
          have hb26 := (Below.refl W.heap.size W).drew.trans hb6
          have hx6 := HCL.out w6 hb26
          have HB6 := Lib.hid hb26
          refine hK.out _ _ (fun _ => hx6) ?_
          clear hK K hb6 hb26
          try simp only [Act.put, List.getElem_toArray, List.getElem_cons_zero, List.getElem_cons_succ, List.setIfInBounds_toArray, List.set_cons_zero, List.set_cons_succ]
          have hadd := HAD.out
          refine E_take (i := 5) (oi := _) (v := ?v5) rfl (by kernel_rfl) (by kernel_rfl) (by kernel_rfl) (by kernel_rfl) (fun _ _ _ h => h) hx6 (Or.inl ⟨by rfl, ?y5⟩) ?r5
          case y5 => (intro w' hSw; (try dsimp only at hSw); go_simp; try with_reducible rfl)
          try simp only [Act.put, List.getElem_toArray, List.getElem_cons_zero, List.getElem_cons_succ, List.setIfInBounds_toArray, List.set_cons_zero, List.set_cons_succ]
          refine E_take (i := 6) (oi := _) (v := ?v6) rfl (by kernel_rfl) (by kernel_rfl) (by kernel_rfl) (by kernel_rfl) (fun _ _ _ h => h) hx6 (Or.inl ⟨by rfl, ?y6⟩) ?r6
          case y6 => (intro w' hSw; (try dsimp only at hSw); go_simp; try with_reducible rfl)
          try simp only [Act.put, List.getElem_toArray, List.getElem_cons_zero, List.getElem_cons_succ, List.setIfInBounds_toArray, List.set_cons_zero, List.set_cons_succ]
          refine E_take (i := 7) (oi := _) (v := ?v7) rfl (by kernel_rfl) (by kernel_rfl) (by kernel_rfl) (by kernel_rfl) (fun _ _ _ h => h) hx6 (Or.inl ⟨by rfl, ?y7⟩) ?r7
          case y7 => (intro w' hSw; (try dsimp only at hSw); go_simp; try with_reducible rfl)
          try simp only [Act.put, List.getElem_toArray, List.getElem_cons_zero, List.getElem_cons_succ, List.setIfInBounds_toArray, List.set_cons_zero, List.set_cons_succ]
          have hm6 := HMW.out.after HB6.out
          have kz := hm6.kb.frozen 0
          have kc := hm6.kb.cell 0
          have kl := hm6.kb.lt
          simp only [List.getElem?_toArray, List.getElem?_cons_zero] at kc
          refine E_step (i := 8) (o := _) (by kernel_rfl) rfl (fun K hK => ?_)
          go_simp
          refine hK.out _ _ (fun h => absurd rfl h) ?_
          clear hK K
          try simp only [Act.put, List.getElem_toArray, List.getElem_cons_zero, List.getElem_cons_succ, List.setIfInBounds_toArray, List.set_cons_zero, List.set_cons_succ]
          refine E_done (by kernel_rfl) ?_ _
          have hks : Keeps (fun k => k < w7.heap.size ∧ k ≠ w.heap.size + 1 ∧ k ≠ Bg) W (w6.setCell ⟨w.heap.size + 1, 0, none⟩ (.int .i64 ((q + m : Nat) : Int))) := (Keeps.of_below HB6.out hSW).setCell (p := ⟨w.heap.size + 1, 0, none⟩) (fun h => h.2.1 rfl) _
          refine ⟨((others_of HB6.out).trans (KeepsOthers.setCell _ _ _)).from _, hks, ?_, ?_, HKS.out.trans hks⟩
          · intro y hy
            rcases List.mem_append.1 hy with hy | hy
            · exact HNE.out y hy
            · obtain rfl := List.mem_singleton.1 hy
              exact HXN.out
          · rw [HSM.out]
            exact hm6.setK (q + m)
      case done =>
        rintro D W hD ⟨hne, hm, hk⟩ hDef
        obtain ⟨x, hx, hxn⟩ := HN.out.can HQ.out
        exact absurd hxn (hne x hx)
      case stop =>
        rintro D cd i W hD hi ⟨rfl, pre, x, he, hxn, hm, hk⟩ hDef
        have hpre := nx_split i pre [] hi he
        subst hpre
        have hN2 := HN.out.step HR.out HQ.out x hxn
        have hES : ∀ E ∈ Ds, E < w7.heap.size ∧ E ≠ w.heap.size + 1 ∧ E ≠ Bg := fun E hE => by
          obtain ⟨h3, h4⟩ := HD7.out.at_ E hE
          refine ⟨HD7.out.lt hE, by omega, fun e => ?_⟩
          rw [e, show w7.heap[Bg]? = _ from HM7.out.gb] at h4
          cases h4
        have hD2 : Marks (w.heap.size + 2) W (D :: Ds) :=
          (HD7.out.keep (fun E hE => hk.block E (hES E hE))).cons (by have := HM7.out.size; omega) hDef (fun hDD => by have := HD7.out.lt hDD; omega)
        have hN2' : RAt R row (j + 1) (nxB g R.ps x) (kk + sumN R.ps R.en.toNat g (nxTo g R.ps x.1.1)) := hN2
        have hjs : IntKind.i64.wrap ((j : Int) + 1) = ((j + 1 : Nat) : Int) := by rw [IntKind.wrap_i64]; omega
        have HJS := Lib.hid hjs
        clear hN2 he hk hDef
        generalize nxB g R.ps x = Y at *
        have HM8 := Lib.hid hm
        have HN8 := Lib.hid hN2'
        have HD8 := Lib.hid hD2
        clear hm hN2' hD2
        gi_wp2
        refine ⟨?_, ?_⟩
        · refine ⟨j + 1, Y, kk + sumN R.ps R.en.toNat g (nxTo g R.ps x.1.1), D :: Ds, ?_⟩
          repeat apply Exists.intro
          exact ⟨hlj, HN8.out, HM8.out, HD8.out, rfl⟩
        · simp [intOf]
          omega
end Go.Proofs.Ytmcmhgjlpffcnaa
