/- Leaf functions of package roof: signs, ranges, sides of edges. Contracts: what each call returns, and that nothing that lay before it has turned, Lists of points in memory; edges of an outline; the range over an outline's edges, The range over an outline's edges: the iterator's contract, for every loop body that keeps the blocks of the outline. -/
import Derived.Test.YtmcmhgjlpffcnaaRows
import Derived.WalkKit
import Derived.ProofKit
import Derived.RangeFuncNested
import Derived.BigQuiet
import Derived.Deep.QuietTactic
import Derived.Lib.Hide
import Derived.RangeFuncBound
import Derived.RangeFuncCalls
import Derived.RangeFuncLeaves
import Derived.Shelf.Abstract
import Derived.Shelf.RegionOpen
import Derived.OwnWalkIn
import Derived.TacticsInMore
import Derived.LoopNIn
import Derived.LoopIn
namespace Go.Proofs.Ytmcmhgjlpffcnaa

/-! ### Leaf functions of package roof: signs, ranges, sides of edges. Contracts: what each call returns, and that nothing that lay before it has turned. -/
section
open Go.RowKit

theorem bcell {W w1 : World} (hb : Below W.heap.size W w1) : (∀ b o, b < W.heap.size → w1.cell? ⟨b, o, none⟩ = W.cell? ⟨b, o, none⟩) ∧ (∀ b o, b < W.heap.size → w1.frozen? ⟨b, o, none⟩ = W.frozen? ⟨b, o, none⟩) :=
  ⟨fun b o h => hb.cell (p := ⟨b, o, none⟩) h, fun b o h => hb.frozen (p := ⟨b, o, none⟩) h⟩

theorem others_of {W W' : World} (h : Below W.heap.size W W') : KeepsOthers W W' :=
  ⟨h.size, fun k _ hk _ => (h.block k (Array.getElem?_eq_some_iff.1 hk).1).trans hk⟩

theorem ret_int {k : IntKind} {a b : Int} (h : a = b) : Ending.returned (.int k a) = .returned (.int k b) := by rw [h]
theorem ret_bool {a b : Bool} (h : a = b) : Ending.returned (.bool a) = .returned (.bool b) := by rw [h]

/-- The sign of a number, as Go's cmp.Compare tells it. -/
def sgn (n : Int) : Int := if n < 0 then -1 else if 0 < n then 1 else 0
theorem sgn_neg {n : Int} (h : n < 0) : sgn n = -1 := by simp [sgn, h]
theorem sgn_pos {n : Int} (h : 0 < n) : sgn n = 1 := by unfold sgn; rw [if_neg (by omega), if_pos h]
theorem sgn_zero {n : Int} (h : n = 0) : sgn n = 0 := by subst h; rfl

def isFromB (n lo hi : Int) : Bool := decide (lo ≤ n) && decide (n ≤ hi)
def inPlanB (x y : Int) : Bool := isFromB x 0 10000 && isFromB y 0 10000
theorem inPlanB_iff {x y : Int} : inPlanB x y = true ↔ (0 ≤ x ∧ x ≤ 10000) ∧ 0 ≤ y ∧ y ≤ 10000 := by simp [inPlanB, isFromB]

theorem isFrom_any (n lo hi : Int) (w : World) :
    Calls Try.prog 61 #[.int .i64 n, .int .i64 lo, .int .i64 hi] w fun e w' => e = .returned (.bool (isFromB n lo hi)) ∧ w = w' := by
  by_cases h : lo ≤ n
  all_goals by_cases h2 : n ≤ hi
  all_goals
    go_enter Try.func61, Try.ntmps61
    go_wp2
    all_goals go_ret
    all_goals refine ⟨?_, rfl⟩
    all_goals simp [isFromB, h, h2]

/-! ### Points and edges -/
structure Pnt where
  x : Int
  y : Int
deriving DecidableEq
/-- Within the limits of the plan. -/
def Pnt.ok (p : Pnt) : Prop := (0 ≤ p.x ∧ p.x ≤ 10000) ∧ 0 ≤ p.y ∧ p.y ≤ 10000
def Pnt.okB (p : Pnt) : Bool := inPlanB p.x p.y
theorem Pnt.okB_iff {p : Pnt} : p.okB = true ↔ p.ok := inPlanB_iff
structure Edg where
  a : Pnt
  b : Pnt
deriving DecidableEq
def Edg.ok (e : Edg) : Prop := e.a.ok ∧ e.b.ok
/-- On which side of the edge's line a point lies: above 0 to the left. -/
def Edg.side (e : Edg) (p : Pnt) : Int := (e.b.x - e.a.x) * (p.y - e.a.y) - (e.b.y - e.a.y) * (p.x - e.a.x)
def Edg.along (e : Edg) (p : Pnt) : Int := (e.b.x - e.a.x) * (p.x - e.a.x) + (e.b.y - e.a.y) * (p.y - e.a.y)

theorem mul_bd {a b m n : Int} (ha : -m ≤ a) (ha' : a ≤ m) (hb : -n ≤ b) (hb' : b ≤ n) : -(m * n) ≤ a * b ∧ a * b ≤ m * n := by
  have hm : 0 ≤ m := by omega
  have hn : 0 ≤ n := by omega
  rcases Int.le_total 0 a with h | h <;> rcases Int.le_total 0 b with k | k
  · have h1 := Int.mul_le_mul ha' hb' k hm
    have h2 := Int.mul_nonneg h k
    omega
  · have h1 := Int.mul_le_mul ha' (show -b ≤ n by omega) (by omega) hm
    have h2 := Int.mul_nonneg h (show 0 ≤ -b by omega)
    rw [Int.mul_neg] at h1 h2
    omega
  · have h1 := Int.mul_le_mul (show -a ≤ m by omega) hb' k hm
    have h2 := Int.mul_nonneg (show 0 ≤ -a by omega) k
    rw [Int.neg_mul] at h1 h2
    omega
  · have h1 := Int.mul_le_mul (show -a ≤ m by omega) (show -b ≤ n by omega) (by omega) hm
    have h2 := Int.mul_nonneg (show 0 ≤ -a by omega) (show 0 ≤ -b by omega)
    rw [Int.neg_mul_neg] at h1 h2
    omega

theorem mul_bd4 {a b : Int} (ha : -10000 ≤ a) (ha' : a ≤ 10000) (hb : -10000 ≤ b) (hb' : b ≤ 10000) : -100000000 ≤ a * b ∧ a * b ≤ 100000000 := by
  have := mul_bd ha ha' hb hb'
  omega

theorem w64 {n : Int} (h : -9223372036854775808 ≤ n) (h' : n ≤ 9223372036854775807) : wrap64 n = n := IntWalk.wrap64_in n ⟨h, h'⟩

end

/-! ### Lists of points in memory; edges of an outline; the range over an outline's edges. -/
section
open Go.RowKit

/-- The cells of a list of points from an address on. -/
def PtsAt (w : World) (b off : Nat) (l : List Pnt) : Prop :=
  ∀ j p, l[j]? = some p → w.cell? ⟨b, off + j * 2, none⟩ = some (.int .i64 p.x) ∧ w.cell? ⟨b, off + j * 2 + 1, none⟩ = some (.int .i64 p.y)

theorem PtsAt.below {w w' : World} {B b off : Nat} {l : List Pnt} (h : PtsAt w b off l) (hb : Below B w w') (hlt : b < B) : PtsAt w' b off l :=
  fun j p hj => ⟨(hb.cell (p := ⟨b, _, none⟩) hlt).trans (h j p hj).1, (hb.cell (p := ⟨b, _, none⟩) hlt).trans (h j p hj).2⟩

/-- The edge of an outline that begins at corner k. -/
def edgN (l : List Pnt) (k : Nat) : Edg := ⟨l[k]?.getD ⟨0, 0⟩, l[(k + 1) % l.length]?.getD ⟨0, 0⟩⟩

/-- A slice value that holds a list of points. -/
def IsPts (w : World) (v : Value) (l : List Pnt) : Prop :=
  ((∃ a c, v = .slice a 0 c) ∧ l = []) ∨ ∃ b off cap, v = .slice (some ⟨b, off, none⟩) l.length cap ∧ b < w.heap.size ∧ l.length ≤ cap ∧ cap ≤ 9223372036854775807 ∧ PtsAt w b off l

theorem IsPts.below {w w' : World} {v : Value} {l : List Pnt} (h : IsPts w v l) (hb : Below w.heap.size w w') : IsPts w' v l := by
  rcases h with h | ⟨b, off, cap, e, hl, hc, hc', hp⟩
  · exact .inl h
  · exact .inr ⟨b, off, cap, e, Nat.lt_of_lt_of_le hl hb.size, hc, hc', hp.below hb hl⟩

end

/-! ### The range over an outline's edges: the iterator's contract, for every loop body that keeps the blocks of the outline. -/
section
open Go.RowKit Go.Shelf
attribute [local go_sem] Oper.semAt_some

/-- The blocks of a set lie as they lay. -/
structure Keeps (S : Nat → Prop) (w w' : World) : Prop where
  size : w.heap.size ≤ w'.heap.size
  block : ∀ k, S k → w'.heap[k]? = w.heap[k]?
theorem Keeps.refl (S : Nat → Prop) (w : World) : Keeps S w w := ⟨Nat.le_refl _, fun _ _ => rfl⟩
theorem Keeps.trans {S : Nat → Prop} {A B C : World} (h : Keeps S A B) (k : Keeps S B C) : Keeps S A C := ⟨Nat.le_trans h.size k.size, fun i hi => (k.block i hi).trans (h.block i hi)⟩
theorem Keeps.cell {S : Nat → Prop} {w w' : World} (h : Keeps S w w') {p : Addr} (hp : S p.block) : w'.cell? p = w.cell? p := World.cell?_of_block (w := w) (h.block p.block hp)
theorem Keeps.of_below {S : Nat → Prop} {w w' : World} (h : Below w.heap.size w w') (hS : ∀ k, S k → k < w.heap.size) : Keeps S w w' := ⟨h.size, fun k hk => h.block k (hS k hk)⟩
theorem Keeps.setCell {S : Nat → Prop} {w w' : World} (h : Keeps S w w') {p : Addr} (hp : ¬ S p.block) (u : Value) : Keeps S w (w'.setCell p u) :=
  h.trans ⟨by simp [World.setCell], fun k hk => Below.heap_setCell _ _ _ _ (fun e => hp (e ▸ hk))⟩
theorem Keeps.lt {S : Nat → Prop} {w w' : World} (h : Keeps S w w') (hS : ∀ k, S k → k < w.heap.size) : ∀ k, S k → k < w'.heap.size := fun k hk => Nat.lt_of_lt_of_le (hS k hk) h.size
theorem keeps_b {S : Nat → Prop} {w : World} (hS : ∀ k, S k → k < w.heap.size) (W : World) (l : Nat) (o o' : Obj) (hl : w.heap.size ≤ l) (_ : W.heap[l]? = some o) (_ : o.isCells = false) (_ : o.isWalk = false) : Keeps S W (W.putObj l o') :=
  ⟨by simp, fun k hk => World.putObj_heap_other (fun e => by have := hS k hk; omega)⟩
theorem PtsAt.keeps {S : Nat → Prop} {w w' : World} {b off : Nat} {l : List Pnt} (h : PtsAt w b off l) (hb : Keeps S w w') (hS : S b) : PtsAt w' b off l :=
  fun j p hj => ⟨(hb.cell (p := ⟨b, _, none⟩) hS).trans (h j p hj).1, (hb.cell (p := ⟨b, _, none⟩) hS).trans (h j p hj).2⟩

/-- What the iterator hands over at corner k. -/
def encE (l : List Pnt) (k : Fin l.length) : Array Value :=
  #[.int .i64 (k.1 : Int), .agg #[.int .i64 (edgN l k.1).a.x, .int .i64 (edgN l k.1).a.y, .int .i64 (edgN l k.1).b.x, .int .i64 (edgN l k.1).b.y]]

theorem fin_take_succ (n k : Nat) (h : k < n) : (List.finRange n).take (k + 1) = (List.finRange n).take k ++ [⟨k, h⟩] := by
  rw [List.take_succ_eq_append_getElem (by simpa using h)]
  simp

/-! ### A block of the call's own -/
def Blk (W : World) (B : Nat) (cs : Array Value) (t : TypeId) : Prop := W.heap[B]? = some (.cells cs t (0, 0))
theorem Blk.lt {W : World} {B : Nat} {cs : Array Value} {t : TypeId} (h : Blk W B cs t) : B < W.heap.size := (Array.getElem?_eq_some_iff.1 h).1
theorem Blk.cell {W : World} {B : Nat} {cs : Array Value} {t : TypeId} (h : Blk W B cs t) (i : Nat) : W.cell? ⟨B, i, none⟩ = cs[i]? := by simp [World.cell?, show W.heap[B]? = _ from h]
theorem Blk.frozen {W : World} {B : Nat} {cs : Array Value} {t : TypeId} (h : Blk W B cs t) (i : Nat) : W.frozen? ⟨B, i, none⟩ = false := by simp [World.frozen?, show W.heap[B]? = _ from h]
theorem Blk.new (W : World) (t : TypeId) (cs : Array Value) : Blk (W.alloc (.cells cs t)) W.heap.size cs t := World.alloc_heap_new W _
theorem Blk.kept {W W' : World} {row : Option Nat} {B : Nat} {cs : Array Value} {t : TypeId} (h : Blk W B cs t) (hg : W.grownBy W' row) (hne : some B ≠ row) : Blk W' B cs t := (hg.block B h.lt hne).trans h
theorem Blk.alloc {W : World} {B : Nat} {cs : Array Value} {t : TypeId} (h : Blk W B cs t) (o : Obj) : Blk (W.alloc o) B cs t := h.kept (World.grownBy_alloc W o none) (by simp)
theorem Blk.below {W W' : World} {B n : Nat} {cs : Array Value} {t : TypeId} (h : Blk W B cs t) (hb : Below n W W') (hn : B < n) : Blk W' B cs t := (hb.block B hn).trans h
theorem Blk.belowS {W W' : World} {B : Nat} {cs : Array Value} {t : TypeId} (h : Blk W B cs t) (hb : Below W.heap.size W W') : Blk W' B cs t := h.below hb h.lt
theorem Blk.set {W : World} {B : Nat} {cs : Array Value} {t : TypeId} (h : Blk W B cs t) (i : Nat) (v : Value) : Blk (W.setCell ⟨B, i, none⟩ v) B (cs.setIfInBounds i v) t := by
  obtain ⟨hlt, hk⟩ := Array.getElem?_eq_some_iff.1 h
  show (W.heap.modify B _)[B]? = _
  rw [Array.getElem?_eq_getElem (by rw [Array.size_modify]; exact hlt), Array.getElem_modify_self, hk]
  rfl
theorem Blk.other {W : World} {B B' i : Nat} {cs : Array Value} {t : TypeId} (h : Blk W B cs t) (hne : B ≠ B') (v : Value) : Blk (W.setCell ⟨B', i, none⟩ v) B cs t := (Below.heap_setCell W ⟨B', i, none⟩ v B hne).trans h
theorem Blk.putObj {W : World} {B D : Nat} {cs : Array Value} {t : TypeId} {o : Obj} (h : Blk W B cs t) (o' : Obj) (hK : W.heap[D]? = some o) (ho : o.isCells = false) : Blk (W.putObj D o') B cs t :=
  (World.putObj_heap_other (fun e => by rw [← e, show W.heap[B]? = _ from h] at hK; cases hK; cases ho)).trans h
theorem below_putObj {w W : World} {n D : Nat} (h : Below n w W) (o' : Obj) (hD : n ≤ D) (hs : n ≤ W.heap.size) : Below n w (W.putObj D o') :=
  h.grown (grownBy_putObj' W D o') hs (fun k e => by cases e; exact hD)
theorem own_blk {β : Type} (n B : Nat) (t : TypeId) (f : β → Array Value) : OwnFrom n (fun s W => Blk W B (f s) t) := fun s X Y row hs hg hrow =>
  hs.kept hg (fun e' => by obtain ⟨_, o, ho, hc⟩ := hrow B e'.symm; rw [show X.heap[B]? = _ from hs] at ho; cases ho; cases hc)

def edgC (e : Edg) : Array Value := #[.int .i64 e.a.x, .int .i64 e.a.y, .int .i64 e.b.x, .int .i64 e.b.y]

end
end Go.Proofs.Ytmcmhgjlpffcnaa
