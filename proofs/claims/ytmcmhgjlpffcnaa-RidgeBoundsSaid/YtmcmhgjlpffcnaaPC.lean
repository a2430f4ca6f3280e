/- The iterators of package ridge: the pieces that may come next, and a list of gaps from its end; their contracts, for bodies that may stop or panic. -/
import Derived.Test.YtmcmhgjlpffcnaaPB
set_option linter.unusedSimpArgs false
namespace Go.Proofs.Ytmcmhgjlpffcnaa
open Go.RowKit Go.Shelf
attribute [local go_sem] Oper.semAt_some

theorem next_any (g : Gp) (a : Option Addr) (n c : Nat) (w : World) :
    Calls Try.prog 88 #[.agg #[.int .i64 (g.n : Int), .int .i64 (g.p : Int)], .slice a n c] w fun e w' =>
      e = .returned (.func (.func 103) #[] #[.pointer (some ⟨w.heap.size + 1, 0, none⟩), .pointer (some ⟨w.heap.size, 0, none⟩)]) ∧ w' = (w.alloc (.cells #[.int .i64 (g.n : Int), .int .i64 (g.p : Int)] 87)).alloc (.cells #[.slice a n c] 22) := by
  go_enter Try.func88, Try.ntmps88
  go_wp2
  go_ret
  exact ⟨by simp, rfl⟩
theorem backward_any (a : Option Addr) (n c : Nat) (w : World) :
    Calls Try.prog 101 #[.slice a n c] w fun e w' =>
      e = .returned (.func (.func 107) #[] #[.pointer (some ⟨w.heap.size, 0, none⟩)]) ∧ w' = w.alloc (.cells #[.slice a n c] 118) := by
  go_enter Try.func101, Try.ntmps101
  go_wp2
  go_ret
  exact ⟨rfl, rfl⟩

/-! ### The pieces that may come next -/
/-- The number of a piece that may come next. -/
abbrev Nx (g : Gp) (ps : List Pce) : Type := {i : Fin ps.length // takB g (ps.get i) = true}
def nxB (g : Gp) (ps : List Pce) (x : Nx g ps) : Gp := behG g (ps.get x.1)
def encN (g : Gp) (ps : List Pce) (x : Nx g ps) : Array Value := #[.int .i64 (x.1.1 : Int), .agg #[.int .i64 ((nxB g ps x).n : Int), .int .i64 ((nxB g ps x).p : Int)]]
def nxTo (g : Gp) (ps : List Pce) (k : Nat) : List (Nx g ps) := ((List.finRange ps.length).take k).filterMap (fun i => if h : takB g (ps.get i) = true then some ⟨i, h⟩ else none)
def nxL (g : Gp) (ps : List Pce) : List (Nx g ps) := nxTo g ps ps.length
theorem nxTo_zero (g : Gp) (ps : List Pce) : nxTo g ps 0 = [] := by simp [nxTo]
theorem nxTo_yes {g : Gp} {ps : List Pce} {k : Nat} (h : k < ps.length) (ht : takB g (ps.get ⟨k, h⟩) = true) : nxTo g ps (k + 1) = nxTo g ps k ++ [⟨⟨k, h⟩, ht⟩] := by
  unfold nxTo
  rw [fin_take_succ _ _ h, List.filterMap_append]
  simp only [List.filterMap_cons, List.filterMap_nil]
  rw [dif_pos ht]
theorem nxTo_no {g : Gp} {ps : List Pce} {k : Nat} (h : k < ps.length) (ht : ¬ takB g (ps.get ⟨k, h⟩) = true) : nxTo g ps (k + 1) = nxTo g ps k := by
  unfold nxTo
  rw [fin_take_succ _ _ h, List.filterMap_append]
  simp only [List.filterMap_cons, List.filterMap_nil]
  rw [dif_neg ht]
  simp
theorem nxTo_len (g : Gp) (ps : List Pce) (k : Nat) : (nxTo g ps k).length ≤ k := by
  unfold nxTo
  exact Nat.le_trans (List.length_filterMap_le _ _) (by rw [List.length_take]; omega)
/-- Rows that lie in blocks of a set. -/
def PcsIn (S : Nat → Prop) (w : World) (a : Option Addr) (c : Nat) (l : List Pce) : Prop := l = [] ∨ ∃ b off, a = some ⟨b, off, none⟩ ∧ S b ∧ l.length ≤ c ∧ c ≤ 9223372036854775807 ∧ ∀ j x, l[j]? = some x → PceAt w b (off + j * 5) x
theorem IsPcs.toIn {S : Nat → Prop} {w : World} {a : Option Addr} {c : Nat} {l : List Pce} (h : IsPcs w a c l) (hS : ∀ k, k < w.heap.size → S k) : PcsIn S w a c l := by
  rcases h with h | ⟨b, off, e, hl, hc, hc', hp⟩
  · exact .inl h
  · exact .inr ⟨b, off, e, hS _ hl, hc, hc', hp⟩
theorem PcsIn.keeps {S : Nat → Prop} {w w' : World} {a : Option Addr} {c : Nat} {l : List Pce} (h : PcsIn S w a c l) (hk : Keeps S w w') : PcsIn S w' a c l := by
  rcases h with h | ⟨b, off, e, hl, hc, hc', hp⟩
  · exact .inl h
  · refine .inr ⟨b, off, e, hl, hc, hc', fun j x hj => ?_⟩
    obtain ⟨h0, h1, h2, h3, h4⟩ := hp j x hj
    exact ⟨(hk.cell (p := ⟨b, _, none⟩) hl).trans h0, (hk.cell (p := ⟨b, _, none⟩) hl).trans h1, (hk.cell (p := ⟨b, _, none⟩) hl).trans h2, (hk.cell (p := ⟨b, _, none⟩) hl).trans h3, (hk.cell (p := ⟨b, _, none⟩) hl).trans h4⟩

set_option maxRecDepth 100000 in
set_option maxHeartbeats 4000000 in
theorem next1_in (n : Nat) (hn : 1 ≤ n) (L Bs Bg : Nat) (S : Nat → Prop) (a : Option Addr) (c : Nat) (ps : List Pce) (g : Gp) (hg : g.ok) (hok : ∀ x ∈ ps, x.ok) (hBg : S Bg) (J Jx : List (Nx g ps) → World → Prop) (Jp : List PanicEntry → World → Prop)
    (hY : ∀ pre x W, (∃ k, k ≤ ps.length ∧ pre ++ [x] = nxTo g ps k) → J pre W → pre.length < ps.length → YieldAt Fence.wide (n - 1) Try.prog L (encN g ps x) W fun e W' =>
      (e = .returned (.bool true) ∧ J (pre ++ [x]) W' ∧ Keeps S W W') ∨ (e = .returned (.bool false) ∧ Jx (pre ++ [x]) W') ∨ (∃ ch, e = .panicked ch ∧ Jp ch W'))
    (hJ : ∀ pre A B, J pre A → Below A.heap.size A B → J pre B)
    (W : World) (hS : ∀ k, S k → k < W.heap.size) (hcs : W.cell? ⟨Bs, 0, none⟩ = some (.slice a ps.length c)) (hcg : W.cell? ⟨Bg, 0, none⟩ = some (.int .i64 (g.n : Int))) (hcg2 : W.cell? ⟨Bg, 1, none⟩ = some (.int .i64 (g.p : Int))) (hrow : PcsIn S W a c ps) (h0 : J [] W) :
    CallsIn Fence.wide n Try.prog 103 #[.func (.yield L) #[] #[], .pointer (some ⟨Bs, 0, none⟩), .pointer (some ⟨Bg, 0, none⟩)] W fun e W' => ((∃ v, e = .returned v) ∧
      ((∃ ys, ys = nxL g ps ∧ J ys W') ∨ (∃ pre, (∃ k, k ≤ ps.length ∧ pre = nxTo g ps k) ∧ Jx pre W'))) ∨ (∃ ch, e = .panicked ch ∧ Jp ch W') := by
  have HR := Lib.hid hrow
  have HOK := Lib.hid hok
  have HG := Lib.hid hg
  clear hrow hok hg
  refine callsIn_of_wp Try.func103 rfl trivial ?_ rfl
  simp only [Try.ntmps103, List.size_toArray, List.length_cons, List.length_nil, Nat.reduceAdd, Nat.reduceSub, Array.replicate_succ, Array.replicate_zero, List.push_toArray, List.append_toArray, List.nil_append, List.cons_append]
  gi_wp2
  gi_loopw [8, 4, 5] (fun i _ _ wr => ∃ k : Nat, k ≤ ps.length ∧ i = .int .i64 k ∧ J (nxTo g ps k) wr ∧ Keeps S W wr)
    (fun i _ _ _ => ps.length - (intOf i).toNat)
  case atStart => exact ⟨0, Nat.zero_le _, rfl, by rw [nxTo_zero]; exact h0, Keeps.refl _ _⟩
  case round =>
    obtain ⟨k, hk, rfl, hJs, hnx⟩ := hrel
    have hb2 : Bg < wr.heap.size := Nat.lt_of_lt_of_le (hS _ hBg) hnx.size
    have d0 := (hnx.cell (p := ⟨Bg, 0, none⟩) hBg).trans hcg
    have d1 := (hnx.cell (p := ⟨Bg, 1, none⟩) hBg).trans hcg2
    have HJs := Lib.hid hJs
    have HNX := Lib.hid hnx
    clear hJs
    by_cases hlt : k < ps.length
    · rcases (HR.out).keeps hnx with h | ⟨b, off, e, hb, hc1, hc2, hp⟩
      · rw [h] at hlt
        simp at hlt
      subst e
      obtain ⟨X, hX⟩ : ∃ X, ps.get ⟨k, hlt⟩ = X := ⟨_, rfl⟩
      have hxo : X.ok := hX ▸ HOK.out _ (List.get_mem _ _)
      obtain ⟨q0, q1, q2, q3, q4⟩ := hp k X (by rw [List.getElem?_eq_getElem hlt]; exact congrArg some hX)
      have hbl : b < wr.heap.size := Nat.lt_of_lt_of_le (hS _ hb) hnx.size
      have HXO := Lib.hid hxo
      have HX := Lib.hid hX
      clear hp hX hxo hnx
      gi_wp2_with fail
      have hbw : Below wr.heap.size wr (wr.alloc (.cells #[.string X.name, .int .i64 X.wd, .int .i64 X.lf, .int .i64 X.rt, .int .i64 X.mr] 54)) := (Below.refl _ wr).alloc (Nat.le_refl _) _
      have kX := Blk.new wr 54 #[.string X.name, .int .i64 X.wd, .int .i64 X.lf, .int .i64 X.rt, .int .i64 X.mr]
      refine ⟨trivial, ?_⟩
      refine (callsIn_wide.2 (takes_any g X _)).mono ?_
      rintro e w2 ⟨rfl, hbt⟩
      have e0 := (hbt.cell (p := ⟨Bg, 0, none⟩) (by simp; omega)).trans ((hbw.cell (p := ⟨Bg, 0, none⟩) hb2).trans d0)
      have e1 := (hbt.cell (p := ⟨Bg, 1, none⟩) (by simp; omega)).trans ((hbw.cell (p := ⟨Bg, 1, none⟩) hb2).trans d1)
      obtain ⟨x0, x1, x2, x3, x4⟩ := pce_cells (x := X) (kX.belowS hbt)
      have hw2 : wr.heap.size < w2.heap.size := (kX.belowS hbt).lt
      have HBT := Lib.hid (hbw.trans (hbt.mono hbw.size))
      clear hbt hbw kX d0 d1 q0 q1 q2 q3 q4
      cases hT : takB g X with
      | false =>
        have HT := Lib.hid hT
        clear hT
        gi_wp2_with fail
        refine ⟨trivial, ?_⟩
        gi_wp2_with fail
        refine ⟨fun _ _ => trivial, ?_⟩
        gi_wp2_with fail
        go_roundw
        case rel => exact ⟨k + 1, by omega, by simp, by rw [nxTo_no hlt (by rw [HX.out, HT.out]; simp)]; exact hJ _ _ _ HJs.out HBT.out, HNX.out.trans (Keeps.of_below HBT.out (HNX.out.lt hS))⟩
        case measure => simp [intOf]; omega
      | true =>
        have HT := Lib.hid hT
        clear hT
        gi_wp2_with fail
        refine ⟨trivial, ?_⟩
        refine (callsIn_wide.2 (behind_any g X _ HG.out HXO.out HT.out)).mono ?_
        rintro e w3 ⟨rfl, hbb⟩
        have HB3 := Lib.hid (HBT.out.trans (hbb.mono HBT.out.size))
        have ht : takB g (ps.get ⟨k, hlt⟩) = true := by rw [HX.out]; exact HT.out
        obtain ⟨fn, tmps, assign, body, hy, hRd⟩ := hY _ ⟨⟨k, hlt⟩, ht⟩ w3 ⟨k + 1, hlt, (nxTo_yes hlt ht).symm⟩ (hJ _ _ _ HJs.out HB3.out) (Nat.lt_of_le_of_lt (nxTo_len g ps k) hlt)
        simp only [encN, nxB, HX.out] at hy
        gi_wp2_with fail
        refine hRd.mono ?_
        rintro e W3 (⟨rfl, hJ3, hk3⟩ | ⟨rfl, hJx3⟩ | ⟨ch, rfl, hp⟩)
        · gi_wp2
          go_roundw
          case rel => exact ⟨k + 1, by omega, by simp, by rw [nxTo_yes hlt ht]; exact hJ3, (HNX.out.trans (Keeps.of_below HB3.out (HNX.out.lt hS))).trans hk3⟩
          case measure => simp [intOf]; omega
        · gi_wp2
          refine bodyPost_ret (results_none rfl _ _ _) rfl ?_
          exact .inl ⟨⟨_, rfl⟩, .inr ⟨_, ⟨k + 1, by omega, (nxTo_yes hlt ht).symm⟩, hJx3⟩⟩
        · exact ⟨rfl, .inr ⟨ch, rfl, hp⟩⟩
    · obtain rfl : k = ps.length := by omega
      gi_wp2
      go_end0
      exact .inl ⟨⟨_, rfl⟩, .inl ⟨_, rfl, HJs.out⟩⟩

theorem next_seq (n : Nat) (hn : 1 ≤ n) (Bs Bg : Nat) (S : Nat → Prop) (a : Option Addr) (c : Nat) (ps : List Pce) (g : Gp) (hg : g.ok) (hok : ∀ x ∈ ps, x.ok) (hBs : S Bs) (hBg : S Bg) (w : World) (hS : ∀ k, S k → k < w.heap.size)
    (hcs : w.cell? ⟨Bs, 0, none⟩ = some (.slice a ps.length c)) (hcg : w.cell? ⟨Bg, 0, none⟩ = some (.int .i64 (g.n : Int))) (hcg2 : w.cell? ⟨Bg, 1, none⟩ = some (.int .i64 (g.p : Int))) (hrow : PcsIn S w a c ps) :
    SeqP n Try.prog 103 #[.pointer (some ⟨Bs, 0, none⟩), .pointer (some ⟨Bg, 0, none⟩)] (encN g ps) (Keeps S) (fun ys => ys = nxL g ps) (fun pre => ∃ k, k ≤ ps.length ∧ pre = nxTo g ps k) ps.length w := fun L J Jx Jp W hW hJ _ hY h0 => by
  have hW' := Keeps.of_below hW hS
  exact next1_in n hn L Bs Bg S a c ps g hg hok hBg J Jx Jp hY
    (fun pre A B hs hb' => hJ pre A B none hs ⟨hb'.os, hb'.tape, hb'.output, hb'.size, fun k hk _ => hb'.block k hk⟩ (fun r e => by cases e))
    W (hW'.lt hS) ((hW'.cell (p := ⟨Bs, 0, none⟩) hBs).trans hcs) ((hW'.cell (p := ⟨Bg, 0, none⟩) hBg).trans hcg) ((hW'.cell (p := ⟨Bg, 1, none⟩) hBg).trans hcg2) (hrow.keeps hW') h0

/-! ### A list of gaps from its end -/
def GpsIn (S : Nat → Prop) (w : World) (a : Option Addr) (c : Nat) (l : List Gp) : Prop := l = [] ∨ ∃ b off, a = some ⟨b, off, none⟩ ∧ S b ∧ l.length ≤ c ∧ c ≤ 9223372036854775807 ∧
  ∀ (j : Nat) x, l[j]? = some x → w.cell? ⟨b, off + j * 2, none⟩ = some (.int .i64 (x.n : Int)) ∧ w.cell? ⟨b, off + j * 2 + 1, none⟩ = some (.int .i64 (x.p : Int))
theorem GpsIn.keeps {S : Nat → Prop} {w w' : World} {a : Option Addr} {c : Nat} {l : List Gp} (h : GpsIn S w a c l) (hk : Keeps S w w') : GpsIn S w' a c l := by
  rcases h with h | ⟨b, off, e, hl, hc, hc', hp⟩
  · exact .inl h
  · refine .inr ⟨b, off, e, hl, hc, hc', fun j x hj => ?_⟩
    obtain ⟨h0, h1⟩ := hp j x hj
    exact ⟨(hk.cell (p := ⟨b, _, none⟩) hl).trans h0, (hk.cell (p := ⟨b, _, none⟩) hl).trans h1⟩
/-- What is handed over at the gap with the number i. -/
def encG (l : List Gp) (i : Fin l.length) : Array Value := #[.int .i64 (i.1 : Int), .agg #[.int .i64 ((l.get i).n : Int), .int .i64 ((l.get i).p : Int)]]
/-- The numbers from the last one down to k. -/
def backTo {α : Type} (l : List α) (k : Nat) : List (Fin l.length) := ((List.finRange l.length).drop k).reverse
theorem backTo_all {α : Type} (l : List α) : backTo l l.length = [] := by simp [backTo, List.drop_of_length_le]
theorem backTo_step {α : Type} {l : List α} {k : Nat} (h : k < l.length) : backTo l k = backTo l (k + 1) ++ [⟨k, h⟩] := by
  unfold backTo
  rw [List.drop_eq_getElem_cons (by simpa using h), List.reverse_cons]
  simp
theorem backTo_len {α : Type} (l : List α) (k : Nat) : (backTo l k).length = l.length - k := by simp [backTo]

set_option maxRecDepth 100000 in
set_option maxHeartbeats 4000000 in
theorem back1_in (n : Nat) (hn : 1 ≤ n) (L Bs : Nat) (S : Nat → Prop) (a : Option Addr) (c : Nat) (l : List Gp) (hlen : l.length ≤ 1000000) (hBs : S Bs) (J Jx : List (Fin l.length) → World → Prop) (Jp : List PanicEntry → World → Prop)
    (hY : ∀ pre x W, (∃ k, k ≤ l.length ∧ pre ++ [x] = backTo l k) → J pre W → pre.length < l.length → YieldAt Fence.wide (n - 1) Try.prog L (encG l x) W fun e W' =>
      (e = .returned (.bool true) ∧ J (pre ++ [x]) W' ∧ Keeps S W W') ∨ (e = .returned (.bool false) ∧ Jx (pre ++ [x]) W') ∨ (∃ ch, e = .panicked ch ∧ Jp ch W'))
    (W : World) (hS : ∀ k, S k → k < W.heap.size) (hcs : W.cell? ⟨Bs, 0, none⟩ = some (.slice a l.length c)) (hrow : GpsIn S W a c l) (h0 : J [] W) :
    CallsIn Fence.wide n Try.prog 107 #[.func (.yield L) #[] #[], .pointer (some ⟨Bs, 0, none⟩)] W fun e W' => ((∃ v, e = .returned v) ∧
      ((∃ ys, ys = backTo l 0 ∧ J ys W') ∨ (∃ pre, (∃ k, k ≤ l.length ∧ pre = backTo l k) ∧ Jx pre W'))) ∨ (∃ ch, e = .panicked ch ∧ Jp ch W') := by
  have HR := Lib.hid hrow
  have w0 : IntKind.i64.wrap ((l.length : Int) - 1) = (l.length : Int) - 1 := by rw [IntKind.wrap_i64]; omega
  clear hrow
  refine callsIn_of_wp Try.func107 rfl trivial ?_ rfl
  simp only [Try.ntmps107, List.size_toArray, List.length_cons, List.length_nil, Nat.reduceAdd, Nat.reduceSub, Array.replicate_succ, Array.replicate_zero, List.push_toArray, List.append_toArray, List.nil_append, List.cons_append]
  gi_wp2
  gi_loopw [3] (fun i wr => ∃ k : Nat, k ≤ l.length ∧ i = .int .i64 ((k : Int) - 1) ∧ J (backTo l k) wr ∧ Keeps S W wr)
    (fun i _ => (intOf i + 1).toNat)
  case atStart => exact ⟨l.length, Nat.le_refl _, rfl, by rw [backTo_all]; exact h0, Keeps.refl _ _⟩
  case round =>
    obtain ⟨k, hk, rfl, hJs, hnx⟩ := hrel
    have d0 := (hnx.cell (p := ⟨Bs, 0, none⟩) hBs).trans hcs
    have hbs : Bs < wr.heap.size := Nat.lt_of_lt_of_le (hS _ hBs) hnx.size
    have HJs := Lib.hid hJs
    have HNX := Lib.hid hnx
    clear hJs w0
    rcases k with _ | k
    · gi_wp2
      go_end0
      exact .inl ⟨⟨_, rfl⟩, .inl ⟨_, rfl, HJs.out⟩⟩
    · have hlt : k < l.length := by omega
      rcases (HR.out).keeps hnx with h | ⟨b, off, e, hb, hc1, hc2, hp⟩
      · rw [h] at hlt
        simp at hlt
      subst e
      obtain ⟨X, hX⟩ : ∃ X, l.get ⟨k, hlt⟩ = X := ⟨_, rfl⟩
      obtain ⟨q0, q1⟩ := hp k X (by rw [List.getElem?_eq_getElem hlt]; exact congrArg some hX)
      have hbl : b < wr.heap.size := Nat.lt_of_lt_of_le (hS _ hb) hnx.size
      obtain ⟨fn, tmps, assign, body, hy, hRd⟩ := hY _ ⟨k, hlt⟩ wr ⟨k, by omega, (backTo_step hlt).symm⟩ HJs.out (by rw [backTo_len]; omega)
      simp only [encG, hX] at hy
      have hci : ((k + 1 : Nat) : Int) - 1 = (k : Int) := by omega
      rw [hci]
      have g0 : (0 : Int) ≤ (k : Int) := by omega
      have g1 : (k : Int) < (l.length : Int) := by omega
      have wk : IntKind.i64.wrap ((k : Int) - 1) = (k : Int) - 1 := by rw [IntKind.wrap_i64]; omega
      clear hp hnx hci
      gi_wp2_with fail
      refine hRd.mono ?_
      rintro e W3 (⟨rfl, hJ3, hk3⟩ | ⟨rfl, hJx3⟩ | ⟨ch, rfl, hp⟩)
      · gi_wp2
        go_roundw
        case rel => exact ⟨k, by omega, rfl, by rw [backTo_step hlt]; exact hJ3, HNX.out.trans hk3⟩
        case measure => simp [intOf]
      · gi_wp2
        refine bodyPost_ret (results_none rfl _ _ _) rfl ?_
        exact .inl ⟨⟨_, rfl⟩, .inr ⟨_, ⟨k, by omega, (backTo_step hlt).symm⟩, hJx3⟩⟩
      · exact ⟨rfl, .inr ⟨ch, rfl, hp⟩⟩
theorem back_seq (n : Nat) (hn : 1 ≤ n) (Bs : Nat) (S : Nat → Prop) (a : Option Addr) (c : Nat) (l : List Gp) (hlen : l.length ≤ 1000000) (hBs : S Bs) (w : World) (hS : ∀ k, S k → k < w.heap.size)
    (hcs : w.cell? ⟨Bs, 0, none⟩ = some (.slice a l.length c)) (hrow : GpsIn S w a c l) :
    SeqP n Try.prog 107 #[.pointer (some ⟨Bs, 0, none⟩)] (encG l) (Keeps S) (fun ys => ys = backTo l 0) (fun pre => ∃ k, k ≤ l.length ∧ pre = backTo l k) l.length w := fun L J Jx Jp W hW _ _ hY h0 => by
  have hW' := Keeps.of_below hW hS
  exact back1_in n hn L Bs S a c l hlen hBs J Jx Jp hY W (hW'.lt hS) ((hW'.cell (p := ⟨Bs, 0, none⟩) hBs).trans hcs) (hrow.keeps hW') h0
end Go.Proofs.Ytmcmhgjlpffcnaa
