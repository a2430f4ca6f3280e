/- taken: the range over some loads of parts; put: parts behind those of a list. -/
import Derived.Test.YtfhalmlpnoepcaaGreatGV
import Derived.Test.YtfhalmlpnoepcaaGreatGW
import Derived.RangeFuncNested
import Derived.RangeFuncBound
import Derived.RangeFuncCalls
import Derived.RangeFuncLeaves
import Derived.Shelf.Abstract
import Derived.Shelf.RegionOpen
import Derived.OwnWalkIn
import Derived.TacticsInMore
import Derived.LoopNIn
import Derived.LoopIn
import Derived.Sort.CutIn
namespace Go.Proofs.YtfhalmlpnoepcaaGreat
open Go.RowKit Go.Shelf
attribute [local go_sem] Oper.semAt_some

/-- The blocks of a set lie as they lay. -/
structure Keeps (S : Nat → Prop) (w w' : World) : Prop where
  size : w.heap.size ≤ w'.heap.size
  block : ∀ k, S k → w'.heap[k]? = w.heap[k]?
theorem Keeps.refl (S : Nat → Prop) (w : World) : Keeps S w w := ⟨Nat.le_refl _, fun _ _ => rfl⟩
theorem Keeps.trans {S : Nat → Prop} {A B C : World} (h : Keeps S A B) (k : Keeps S B C) : Keeps S A C := ⟨Nat.le_trans h.size k.size, fun i hi => (k.block i hi).trans (h.block i hi)⟩
theorem Keeps.cell {S : Nat → Prop} {w w' : World} (h : Keeps S w w') {p : Addr} (hp : S p.block) : w'.cell? p = w.cell? p := World.cell?_of_block (w := w) (h.block p.block hp)
theorem Keeps.of_below {S : Nat → Prop} {w w' : World} (h : Below w.heap.size w w') (hS : ∀ k, S k → k < w.heap.size) : Keeps S w w' := ⟨h.size, fun k hk => h.block k (hS k hk)⟩
theorem Keeps.setCell {S : Nat → Prop} {w w' : World} (h : Keeps S w w') {p : Addr} (hp : ¬ S p.block) (u : Value) : Keeps S w (w'.setCell p u) :=
  h.trans ⟨by simp [World.setCell], fun k hk => Below.heap_setCell _ _ _ _ (fun e => hp (e ▸ hk))⟩
theorem Keeps.lt {S : Nat → Prop} {w w' : World} (h : Keeps S w w') (hS : ∀ k, S k → k < w.heap.size) : ∀ k, S k → k < w'.heap.size := fun k hk => Nat.lt_of_lt_of_le (hS k hk) h.size
theorem keeps_b {S : Nat → Prop} {w : World} (hS : ∀ k, S k → k < w.heap.size) (W : World) (l : Nat) (o o' : Obj) (hl : w.heap.size ≤ l) (_ : W.heap[l]? = some o) (_ : o.isCells = false) (_ : o.isWalk = false) : Keeps S W (W.putObj l o') :=
  ⟨by simp, fun k hk => World.putObj_heap_other (fun e => by have := hS k hk; omega)⟩
theorem others_of {W W' : World} (h : Below W.heap.size W W') : KeepsOthers W W' :=
  ⟨h.size, fun k _ hk _ => (h.block k (Array.getElem?_eq_some_iff.1 hk).1).trans hk⟩
theorem below_putObj {w W : World} {n D : Nat} (h : Below n w W) (o' : Obj) (hD : n ≤ D) (hs : n ≤ W.heap.size) : Below n w (W.putObj D o') :=
  h.grown (grownBy_putObj' W D o') hs (fun k e => by cases e; exact hD)
theorem own_blk {β : Type} (n B : Nat) (t : TypeId) (f : β → Array Value) : OwnFrom n (fun s W => Blk W B (f s) t) := fun s X Y row hs hg hrow =>
  hs.kept hg (fun e' => by obtain ⟨_, o, ho, hc⟩ := hrow B e'.symm; rw [show X.heap[B]? = _ from hs] at ho; cases ho; cases hc)

/-- A part with loads. -/
abbrev Por := { p : Prt // 1 ≤ p.loads ∧ p.loads ≤ 100000 }
def encP (x : Por) : Array Value := #[.agg #[.int .i64 x.1.plot, .int .i64 x.1.loads]]
/-- A list of parts that lies in blocks of a set. -/
def PrtsIn (S : Nat → Prop) (w : World) (a : Option Addr) (c : Nat) (l : List Prt) : Prop := l = [] ∨ ∃ b off, a = some ⟨b, off, none⟩ ∧ S b ∧ l.length ≤ c ∧ c ≤ 9223372036854775807 ∧ ∀ j x, l[j]? = some x → PrtAt w b (off + j * 2) x
theorem PrtsIn.keep {S : Nat → Prop} {w w' : World} {a : Option Addr} {c : Nat} {l : List Prt} (h : PrtsIn S w a c l) (hk : Keeps S w w') : PrtsIn S w' a c l := by
  rcases h with h | ⟨b, off, e, hs, h1, h2, hp⟩
  · exact .inl h
  · exact .inr ⟨b, off, e, hs, h1, h2, fun j x hj => ⟨(hk.cell (p := ⟨b, _, none⟩) hs).trans (hp j x hj).1, (hk.cell (p := ⟨b, _, none⟩) hs).trans (hp j x hj).2⟩⟩
theorem PrtsIn.at {S : Nat → Prop} {w : World} {a : Option Addr} {c : Nat} {l : List Prt} (h : PrtsIn S w a c l) {j : Nat} {x : Prt} (hj : l[j]? = some x) :
    ∃ b off, a = some ⟨b, off, none⟩ ∧ S b ∧ l.length ≤ c ∧ c ≤ 9223372036854775807 ∧ PrtAt w b (off + j * 2) x := by
  rcases h with rfl | ⟨b, off, e, hs, h1, h2, hp⟩
  · simp at hj
  · exact ⟨b, off, e, hs, h1, h2, hp j x hj⟩
theorem PrtsIn.of {S : Nat → Prop} {w : World} {a : Option Addr} {c : Nat} {l : List Prt} (h : IsPrts w a c l) (hS : ∀ k, k < w.heap.size → S k) : PrtsIn S w a c l := by
  rcases h with h | ⟨b, off, e, hl, h1, h2, hp⟩
  · exact .inl h
  · exact .inr ⟨b, off, e, hS b hl, h1, h2, hp⟩

theorem taken_any (a : Option Addr) (n c : Nat) (skip left : Int) (w : World) :
    Calls Tryz.prog 104 #[.slice a n c, .int .i64 skip, .int .i64 left] w fun e w' => e = .returned (.func (.func 108) #[] #[.pointer (some ⟨w.heap.size + 1, 0, none⟩), .pointer (some ⟨w.heap.size + 1 + 1, 0, none⟩), .pointer (some ⟨w.heap.size, 0, none⟩)]) ∧
      w' = ((w.alloc (.cells #[.slice a n c] 27)).alloc (.cells #[.int .i64 skip] 3)).alloc (.cells #[.int .i64 left] 3) := by
  go_enter Tryz.func104, Tryz.ntmps104
  go_wp2
  go_ret
  exact ⟨rfl, rfl⟩

theorem taken_step {l : List Prt} {p : Prt} {j : Nat} (h : l[j]? = some p) (over left : Int) : takenL over left (l.drop j) =
    (if 0 < min left (p.loads - min over p.loads) then [⟨p.plot, min left (p.loads - min over p.loads)⟩] else []) ++ takenL (over - min over p.loads) (left - min left (p.loads - min over p.loads)) (l.drop (j + 1)) := by
  obtain ⟨hlt, rfl⟩ := List.getElem?_eq_some_iff.1 h
  rw [List.drop_eq_getElem_cons hlt]
  rfl

set_option maxRecDepth 100000 in
set_option maxHeartbeats 4000000 in
theorem taken1_in (n : Nat) (hn : 1 ≤ n) (L Ba Bs Bl : Nat) (a : Option Addr) (c : Nat) (S : Nat → Prop) (l : List Prt) (skip left : Int) (hs0 : 0 ≤ skip) (hs1 : skip ≤ 100000000000) (hl0 : 0 ≤ left) (hl1 : left ≤ 100000000000)
    (hok : ∀ p ∈ l, 1 ≤ p.loads ∧ p.loads ≤ 100000) (hBa : S Ba) (hBs : S Bs) (hBl : S Bl) (J Jx : List Por → World → Prop)
    (hY : ∀ pre x W, J pre W → pre.length < l.length → YieldAt Fence.wide (n - 1) Tryz.prog L (encP x) W fun e W' =>
      (e = .returned (.bool true) ∧ J (pre ++ [x]) W' ∧ Keeps S W W') ∨ (e = .returned (.bool false) ∧ Jx (pre ++ [x]) W'))
    (hJ : ∀ pre A B, J pre A → Below A.heap.size A B → J pre B)
    (W : World) (hS : ∀ k, S k → k < W.heap.size) (ca : W.cell? ⟨Ba, 0, none⟩ = some (.slice a l.length c)) (cs : W.cell? ⟨Bs, 0, none⟩ = some (.int .i64 skip)) (cl : W.cell? ⟨Bl, 0, none⟩ = some (.int .i64 left)) (hc : PrtsIn S W a c l) (h0 : J [] W) :
    CallsIn Fence.wide n Tryz.prog 108 #[.func (.yield L) #[] #[], .pointer (some ⟨Bs, 0, none⟩), .pointer (some ⟨Bl, 0, none⟩), .pointer (some ⟨Ba, 0, none⟩)] W fun e W' => (∃ v, e = .returned v) ∧
      ((∃ ys : List Por, ys.map (·.1) = takenL skip left l ∧ J ys W') ∨ (∃ pre : List Por, (∃ q, pre.map (·.1) ++ q = takenL skip left l) ∧ Jx pre W')) := by
  have lBs := hS _ hBs
  have lBl := hS _ hBl
  have lBa := hS _ hBa
  refine callsIn_of_wp Tryz.func108 rfl trivial ?_ rfl
  simp only [Tryz.ntmps108, List.size_toArray, List.length_cons, List.length_nil, Nat.reduceAdd, Nat.reduceSub, Array.replicate_succ, Array.replicate_zero, List.push_toArray, List.append_toArray, List.nil_append, List.cons_append]
  gi_wp2_with fail
  gi_quiet (fail)
  have hk0 : Keeps S W (W.drewN nq) := Keeps.of_below (below_drewN' _ _ _) hS
  have h0' := hJ _ _ _ h0 (below_drewN' _ W nq)
  have ca' := (hk0.cell (p := ⟨Ba, 0, none⟩) hBa).trans ca
  have hc' := hc.keep hk0
  have hS' := hk0.lt hS
  clear hk0 h0 ca hc cs cl hS lBs lBl lBa
  generalize W.drewN nq = W1 at *
  have lBa := hS' _ hBa
  have hll : l.length ≤ 9223372036854775807 := by
    rcases hc' with rfl | ⟨_, _, _, _, h1, h2, _⟩
    · simp
    · omega
  have HJ := Lib.hid hJ
  have HY := Lib.hid hY
  have HC := Lib.hid hc'
  have HOK := Lib.hid hok
  clear hJ hY hc' hok
  gi_wp2_with fail
  gi_loopw [15, 5, 6, 8, 9, 10] (fun i ov lf _ _ _ wr => ∃ (j : Nat) (over lft : Int) (pre : List Por), j ≤ l.length ∧ i = .int .i64 j ∧ ov = .int .i64 over ∧ lf = .int .i64 lft ∧ (0 ≤ over ∧ over ≤ skip) ∧ (0 ≤ lft ∧ lft ≤ left) ∧ pre.length ≤ j ∧ pre.map (·.1) ++ takenL over lft (l.drop j) = takenL skip left l ∧ J pre wr ∧ Keeps S W1 wr) (fun i _ _ _ _ _ _ => l.length - (intOf i).toNat)
  case atStart => exact ⟨0, skip, left, [], Nat.zero_le _, rfl, rfl, rfl, ⟨hs0, Int.le_refl _⟩, ⟨hl0, Int.le_refl _⟩, Nat.le_refl _, by simp, h0', Keeps.refl _ _⟩
  case round =>
    obtain ⟨j, over, lft, pre, hj, rfl, rfl, rfl, ⟨ho0, ho1⟩, ⟨hf0, hf1⟩, hpl, heq, hJs, hkr⟩ := hrel
    by_cases hlj : j < l.length
    · have hq : l[j]? = some l[j] := List.getElem?_eq_getElem hlj
      obtain ⟨y0, y1⟩ := HOK.out _ (List.getElem_mem hlj)
      have hst := taken_step hq over lft
      obtain ⟨b, off, hea, hSb, hcap, hcx, p0, p1⟩ := (HC.out.keep hkr).at hq
      have hbl := (hkr.lt hS') b hSb
      subst hea
      generalize l[j] = p at *
      obtain ⟨pl, ld⟩ := p
      dsimp only at y0 y1 p0 p1 hst
      rw [hst] at heq
      have HEQ := Lib.hid heq
      have HJS := Lib.hid hJs
      have hj0 : (0 : Int) ≤ (j : Int) := Int.natCast_nonneg _
      have hj1 : (j : Int) < (l.length : Int) := by omega
      have kP := Blk.new wr 79 #[.int .i64 pl, .int .i64 ld]
      have hb1 : Below wr.heap.size wr (wr.alloc (.cells #[.int .i64 pl, .int .i64 ld] 79)) := (Below.refl _ _).alloc (Nat.le_refl _) _
      clear hq hst heq hJs
      gi_upto_region 4 with fail
      generalize wr.alloc (.cells #[.int .i64 pl, .int .i64 ld] 79) = w1 at *
      have lP := kP.lt
      have e0 := kP.cell 0
      have e1 := kP.cell 1
      simp only [List.getElem?_toArray, List.getElem?_cons_zero, List.getElem?_cons_succ] at e0 e1
      gi_upto_region 8 with fail
      have m1 : (if ld < over then ld else over) = min over ld := by split <;> omega
      simp only [m1]
      have g1 : 0 ≤ min over ld ∧ min over ld ≤ over ∧ min over ld ≤ ld := by omega
      generalize min over ld = ps at *
      have m2 : (if ld - ps < lft then ld - ps else lft) = min lft (ld - ps) := by split <;> omega
      simp only [m2]
      have g2 : 0 ≤ min lft (ld - ps) ∧ min lft (ld - ps) ≤ lft ∧ min lft (ld - ps) ≤ ld - ps := by omega
      generalize min lft (ld - ps) = nn at *
      clear m1 m2
      obtain ⟨g10, g11, g12⟩ := g1
      obtain ⟨g20, g21, g22⟩ := g2
      have hk1 := hkr.trans (Keeps.of_below hb1 (hkr.lt hS'))
      by_cases hn0 : 0 < nn
      · have heq := HEQ.out
        rw [if_pos hn0] at heq
        have HEQ2 := Lib.hid heq
        obtain ⟨fn, tmps, assign, body, hy, hR⟩ := HY.out pre ⟨⟨pl, nn⟩, by show 1 ≤ nn; omega, by show nn ≤ 100000; omega⟩ w1 (HJ.out pre wr w1 HJS.out hb1) (by omega)
        dsimp only [encP] at hy
        clear heq
        gi_wp2_with fail
        refine hR.mono ?_
        rintro e W3 (⟨rfl, hJ3, hk3⟩ | ⟨rfl, hJx3⟩)
        · gi_wp2
          go_roundw
          case rel => exact ⟨j + 1, over - ps, lft - nn, pre ++ [⟨⟨pl, nn⟩, _⟩], by omega, by simp, rfl, rfl, ⟨by omega, by omega⟩, ⟨by omega, by omega⟩, by simp; omega, by rw [← HEQ2.out]; simp, hJ3, hk1.trans hk3⟩
          case measure => simp [intOf]; omega
        · gi_wp2
          refine bodyPost_ret (results_none rfl _ _ _) rfl ?_
          exact ⟨⟨_, rfl⟩, .inr ⟨_, ⟨takenL (over - ps) (lft - nn) (l.drop (j + 1)), by rw [← HEQ2.out]; simp⟩, hJx3⟩⟩
      · have heq := HEQ.out
        rw [if_neg hn0, List.nil_append] at heq
        have HEQ2 := Lib.hid heq
        have hJ1 := HJ.out pre wr w1 HJS.out hb1
        have HJ1 := Lib.hid hJ1
        clear heq hJ1
        gi_wp2_with fail
        refine ⟨fun _ h => (by cases h), ?_⟩
        gi_wp2
        go_roundw
        case rel => exact ⟨j + 1, over - ps, lft - nn, pre, by omega, by simp, rfl, rfl, ⟨by omega, by omega⟩, ⟨by omega, by omega⟩, by omega, HEQ2.out, HJ1.out, hk1⟩
        case measure => simp [intOf]; omega
    · obtain rfl : j = l.length := by omega
      have heq : pre.map (·.1) = takenL skip left l := by rw [← heq, List.drop_length]; simp [takenL]
      have HEQ := Lib.hid heq
      clear heq
      gi_wp2
      go_end0
      exact ⟨⟨_, rfl⟩, .inl ⟨pre, HEQ.out, hJs⟩⟩

/-- The range over some loads of parts keeps its word to every loop body that keeps the parts' blocks. -/
theorem taken_stops (n : Nat) (hn : 1 ≤ n) (Ba Bs Bl : Nat) (a : Option Addr) (c : Nat) (S : Nat → Prop) (l : List Prt) (skip left : Int) (hs0 : 0 ≤ skip) (hs1 : skip ≤ 100000000000) (hl0 : 0 ≤ left) (hl1 : left ≤ 100000000000)
    (hok : ∀ p ∈ l, 1 ≤ p.loads ∧ p.loads ≤ 100000) (hBa : S Ba) (hBs : S Bs) (hBl : S Bl) (w : World) (hS : ∀ k, S k → k < w.heap.size)
    (ca : w.cell? ⟨Ba, 0, none⟩ = some (.slice a l.length c)) (cs : w.cell? ⟨Bs, 0, none⟩ = some (.int .i64 skip)) (cl : w.cell? ⟨Bl, 0, none⟩ = some (.int .i64 left)) (hc : PrtsIn S w a c l) :
    SeqStopsK Fence.wide n Tryz.prog 108 #[.pointer (some ⟨Bs, 0, none⟩), .pointer (some ⟨Bl, 0, none⟩), .pointer (some ⟨Ba, 0, none⟩)] encP (Keeps S) (fun ys => ys.map (·.1) = takenL skip left l)
      (fun pre => ∃ q, pre.map (·.1) ++ q = takenL skip left l) l.length w := fun L J Jx W hW hJ _ hY h0 => by
  have hW' := Keeps.of_below hW hS
  exact taken1_in n hn L Ba Bs Bl a c S l skip left hs0 hs1 hl0 hl1 hok hBa hBs hBl J Jx hY
    (fun pre A B hs hb' => hJ pre A B none hs ⟨hb'.os, hb'.tape, hb'.output, hb'.size, fun k hk _ => hb'.block k hk⟩ (fun r e => by cases e))
    W (hW'.lt hS) ((hW'.cell (p := ⟨Ba, 0, none⟩) hBa).trans ca) ((hW'.cell (p := ⟨Bs, 0, none⟩) hBs).trans cs) ((hW'.cell (p := ⟨Bl, 0, none⟩) hBl).trans cl) (hc.keep hW') h0
end Go.Proofs.YtfhalmlpnoepcaaGreat
