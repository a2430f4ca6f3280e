/- Leaf functions of package roof: signs, ranges, sides of edges. Contracts: what each call returns, and that nothing that lay before it has turned, Lists of points in memory; edges of an outline; the range over an outline's edges, The range over an outline's edges: the iterator's contract, for every loop body that keeps the blocks of the outline. -/
import Derived.Test.YtpdgcajbdaleeaaRows
import Derived.WalkKit
import Derived.ProofKit
import Derived.RangeFuncNested
import Derived.BigQuiet
import Derived.Deep.QuietTactic
import Derived.Lib.Hide
import Derived.RangeFuncBound
import Derived.RangeFuncCalls
import Derived.RangeFuncLeaves
import Derived.Shelf.Abstract
import Derived.Shelf.RegionOpen
import Derived.OwnWalkIn
import Derived.TacticsInMore
import Derived.LoopNIn
import Derived.LoopIn
namespace Go.Proofs.Ytpdgcajbdaleeaa

/-! ### Leaf functions of package roof: signs, ranges, sides of edges. Contracts: what each call returns, and that nothing that lay before it has turned. -/
section
open Go.RowKit

theorem bcell {W w1 : World} (hb : Below W.heap.size W w1) : (∀ b o, b < W.heap.size → w1.cell? ⟨b, o, none⟩ = W.cell? ⟨b, o, none⟩) ∧ (∀ b o, b < W.heap.size → w1.frozen? ⟨b, o, none⟩ = W.frozen? ⟨b, o, none⟩) :=
  ⟨fun b o h => hb.cell (p := ⟨b, o, none⟩) h, fun b o h => hb.frozen (p := ⟨b, o, none⟩) h⟩

theorem others_of {W W' : World} (h : Below W.heap.size W W') : KeepsOthers W W' :=
  ⟨h.size, fun k _ hk _ => (h.block k (Array.getElem?_eq_some_iff.1 hk).1).trans hk⟩

theorem ret_int {k : IntKind} {a b : Int} (h : a = b) : Ending.returned (.int k a) = .returned (.int k b) := by rw [h]
theorem ret_bool {a b : Bool} (h : a = b) : Ending.returned (.bool a) = .returned (.bool b) := by rw [h]

/-- The sign of a number, as Go's cmp.Compare tells it. -/
def sgn (n : Int) : Int := if n < 0 then -1 else if 0 < n then 1 else 0
theorem sgn_neg {n : Int} (h : n < 0) : sgn n = -1 := by simp [sgn, h]
theorem sgn_pos {n : Int} (h : 0 < n) : sgn n = 1 := by unfold sgn; rw [if_neg (by omega), if_pos h]
theorem sgn_zero {n : Int} (h : n = 0) : sgn n = 0 := by subst h; rfl

def isFromB (n lo hi : Int) : Bool := decide (lo ≤ n) && decide (n ≤ hi)
def inPlanB (x y : Int) : Bool := isFromB x 0 10000 && isFromB y 0 10000
theorem inPlanB_iff {x y : Int} : inPlanB x y = true ↔ (0 ≤ x ∧ x ≤ 10000) ∧ 0 ≤ y ∧ y ≤ 10000 := by simp [inPlanB, isFromB]

theorem isFrom_any (n lo hi : Int) (w : World) :
    Calls Try.prog 56 #[.int .i64 n, .int .i64 lo, .int .i64 hi] w fun e w' => e = .returned (.bool (isFromB n lo hi)) ∧ w = w' := by
  by_cases h : lo ≤ n
  all_goals by_cases h2 : n ≤ hi
  all_goals
    go_enter Try.func56, Try.ntmps56
    go_wp2
    all_goals go_ret
    all_goals refine ⟨?_, rfl⟩
    all_goals simp [isFromB, h, h2]

theorem isFromSide_any (n lo hi : Int) (w : World) :
    Calls Try.prog 80 #[.int .i64 n, .int .i64 lo, .int .i64 hi] w fun e w' => e = .returned (.bool (isFromB n lo hi)) ∧ w = w' := by
  by_cases h : lo ≤ n
  all_goals by_cases h2 : n ≤ hi
  all_goals
    go_enter Try.func80, Try.ntmps80
    go_wp2
    all_goals go_ret
    all_goals refine ⟨?_, rfl⟩
    all_goals simp [isFromB, h, h2]

theorem inPlan_any (x y : Int) (w : World) :
    Calls Try.prog 33 #[.agg #[.int .i64 x, .int .i64 y]] w fun e w' => e = .returned (.bool (inPlanB x y)) ∧ Below w.heap.size w w' := by
  by_cases h : isFromB x 0 10000 = true
  · go_enter Try.func33, Try.ntmps33
    go_wp2_with fail
    refine (isFrom_any _ _ _ _).mono ?_
    rintro e w' ⟨rfl, rfl⟩
    go_wp2_with fail
    refine (isFrom_any _ _ _ _).mono ?_
    rintro e w' ⟨rfl, rfl⟩
    go_wp2
    go_ret
    exact ⟨by simp [inPlanB, h], (Below.refl _ _).alloc (Nat.le_refl _) _⟩
  · have h' : isFromB x 0 10000 = false := by simpa using h
    clear h
    go_enter Try.func33, Try.ntmps33
    go_wp2_with fail
    refine (isFrom_any _ _ _ _).mono ?_
    rintro e w' ⟨rfl, rfl⟩
    go_wp2_with fail
    go_ret
    exact ⟨by simp [inPlanB, h'], (Below.refl _ _).alloc (Nat.le_refl _) _⟩

theorem isNaN_any (a : Int) (w : World) :
    Calls Try.prog 132 #[.int .i64 a] w fun e w' => e = .returned (.bool false) ∧ w = w' := by
  go_enter Try.func132, Try.ntmps132
  go_wp2
  go_ret
  exact ⟨by simp, rfl⟩

theorem cmp_any (a b : Int) (w : World) :
    Calls Try.prog 124 #[.int .i64 a, .int .i64 b] w fun e w' => e = .returned (.int .i64 (sgn (a - b))) ∧ w = w' := by
  rcases Int.lt_trichotomy a b with h | h | h
  · have hs := sgn_neg (n := a - b) (by omega)
    have Hs := Lib.hid hs
    clear hs
    go_enter Try.func124, Try.ntmps124
    go_wp2_with (go_at_call 132; refine (isNaN_any _ _).mono ?_; rintro e w' ⟨rfl, rfl⟩)
    go_ret
    exact ⟨by rw [Hs.out]; rfl, rfl⟩
  · subst h
    have hs := sgn_zero (n := a - a) (by omega)
    have Hs := Lib.hid hs
    clear hs
    go_enter Try.func124, Try.ntmps124
    go_wp2_with (go_at_call 132; refine (isNaN_any _ _).mono ?_; rintro e w' ⟨rfl, rfl⟩)
    go_ret
    exact ⟨by rw [Hs.out]; rfl, rfl⟩
  · have hs := sgn_pos (n := a - b) (by omega)
    have Hs := Lib.hid hs
    clear hs
    go_enter Try.func124, Try.ntmps124
    go_wp2_with (go_at_call 132; refine (isNaN_any _ _).mono ?_; rintro e w' ⟨rfl, rfl⟩)
    go_ret
    exact ⟨by rw [Hs.out]; rfl, rfl⟩

theorem signOf_any (a : Int) (w : World) :
    Calls Try.prog 103 #[.int .i64 a] w fun e w' => e = .returned (.int .i64 (sgn a)) ∧ w = w' := by
  go_enter Try.func103, Try.ntmps103
  go_wp2_with (go_at_call 124; refine (cmp_any _ _ _).mono ?_; rintro e w' ⟨rfl, rfl⟩)
  go_ret
  exact ⟨by simp, rfl⟩

theorem minus_any (a : Int) (w : World) :
    Calls Try.prog 69 #[.int .i64 a] w fun e w' => e = .returned (.bool (decide (a < 0))) ∧ w = w' := by
  go_enter Try.func69, Try.ntmps69
  go_wp2
  go_ret
  exact ⟨rfl, rfl⟩

theorem plus_any (a : Int) (w : World) :
    Calls Try.prog 116 #[.int .i64 a] w fun e w' => e = .returned (.bool (decide (0 < a))) ∧ w = w' := by
  go_enter Try.func116, Try.ntmps116
  go_wp2
  go_ret
  exact ⟨rfl, rfl⟩

theorem zero_any (a : Int) (w : World) :
    Calls Try.prog 121 #[.int .i64 a] w fun e w' => e = .returned (.bool (a == 0)) ∧ w = w' := by
  go_enter Try.func121, Try.ntmps121
  go_wp2
  go_ret
  exact ⟨rfl, rfl⟩

/-! ### Points and edges -/
structure Pnt where
  x : Int
  y : Int
deriving DecidableEq
/-- Within the limits of the plan. -/
def Pnt.ok (p : Pnt) : Prop := (0 ≤ p.x ∧ p.x ≤ 10000) ∧ 0 ≤ p.y ∧ p.y ≤ 10000
def Pnt.okB (p : Pnt) : Bool := inPlanB p.x p.y
theorem Pnt.okB_iff {p : Pnt} : p.okB = true ↔ p.ok := inPlanB_iff
structure Edg where
  a : Pnt
  b : Pnt
deriving DecidableEq
def Edg.ok (e : Edg) : Prop := e.a.ok ∧ e.b.ok
/-- On which side of the edge's line a point lies: above 0 to the left. -/
def Edg.side (e : Edg) (p : Pnt) : Int := (e.b.x - e.a.x) * (p.y - e.a.y) - (e.b.y - e.a.y) * (p.x - e.a.x)
def Edg.along (e : Edg) (p : Pnt) : Int := (e.b.x - e.a.x) * (p.x - e.a.x) + (e.b.y - e.a.y) * (p.y - e.a.y)

theorem mul_bd {a b m n : Int} (ha : -m ≤ a) (ha' : a ≤ m) (hb : -n ≤ b) (hb' : b ≤ n) : -(m * n) ≤ a * b ∧ a * b ≤ m * n := by
  have hm : 0 ≤ m := by omega
  have hn : 0 ≤ n := by omega
  rcases Int.le_total 0 a with h | h <;> rcases Int.le_total 0 b with k | k
  · have h1 := Int.mul_le_mul ha' hb' k hm
    have h2 := Int.mul_nonneg h k
    omega
  · have h1 := Int.mul_le_mul ha' (show -b ≤ n by omega) (by omega) hm
    have h2 := Int.mul_nonneg h (show 0 ≤ -b by omega)
    rw [Int.mul_neg] at h1 h2
    omega
  · have h1 := Int.mul_le_mul (show -a ≤ m by omega) hb' k hm
    have h2 := Int.mul_nonneg (show 0 ≤ -a by omega) k
    rw [Int.neg_mul] at h1 h2
    omega
  · have h1 := Int.mul_le_mul (show -a ≤ m by omega) (show -b ≤ n by omega) (by omega) hm
    have h2 := Int.mul_nonneg (show 0 ≤ -a by omega) (show 0 ≤ -b by omega)
    rw [Int.neg_mul_neg] at h1 h2
    omega

theorem mul_bd4 {a b : Int} (ha : -10000 ≤ a) (ha' : a ≤ 10000) (hb : -10000 ≤ b) (hb' : b ≤ 10000) : -100000000 ≤ a * b ∧ a * b ≤ 100000000 := by
  have := mul_bd ha ha' hb hb'
  omega

theorem w64 {n : Int} (h : -9223372036854775808 ≤ n) (h' : n ≤ 9223372036854775807) : wrap64 n = n := IntWalk.wrap64_in n ⟨h, h'⟩

theorem side_any (e : Edg) (p : Pnt) (he : e.ok) (hp : p.ok) (w : World) :
    Calls Try.prog 68 #[.agg #[.int .i64 e.a.x, .int .i64 e.a.y, .int .i64 e.b.x, .int .i64 e.b.y], .agg #[.int .i64 p.x, .int .i64 p.y]] w fun r w' => r = .returned (.int .i64 (sgn (e.side p))) ∧ Below w.heap.size w w' := by
  obtain ⟨⟨fx, fy⟩, ⟨tx, ty⟩⟩ := e
  obtain ⟨px, py⟩ := p
  simp only [Edg.ok, Pnt.ok] at he hp
  obtain ⟨⟨⟨h1, h2⟩, h3, h4⟩, ⟨h5, h6⟩, h7, h8⟩ := he
  obtain ⟨⟨h9, h10⟩, h11, h12⟩ := hp
  have b1 := mul_bd4 (a := tx - fx) (b := py - fy) (by omega) (by omega) (by omega) (by omega)
  have b2 := mul_bd4 (a := ty - fy) (b := px - fx) (by omega) (by omega) (by omega) (by omega)
  simp only [Edg.side]
  go_enter Try.func68, Try.ntmps68
  go_wp2_with fail
  refine (signOf_any _ _).mono ?_
  rintro e w' ⟨rfl, rfl⟩
  go_wp2
  go_ret
  exact ⟨rfl, ((Below.refl _ _).alloc (Nat.le_refl _) _).alloc (by simp) _⟩

theorem along_any (e : Edg) (p : Pnt) (he : e.ok) (hp : p.ok) (w : World) :
    Calls Try.prog 130 #[.agg #[.int .i64 e.a.x, .int .i64 e.a.y, .int .i64 e.b.x, .int .i64 e.b.y], .agg #[.int .i64 p.x, .int .i64 p.y]] w fun r w' => r = .returned (.int .i64 (e.along p)) ∧ Below w.heap.size w w' := by
  obtain ⟨⟨fx, fy⟩, ⟨tx, ty⟩⟩ := e
  obtain ⟨px, py⟩ := p
  simp only [Edg.ok, Pnt.ok] at he hp
  obtain ⟨⟨⟨h1, h2⟩, h3, h4⟩, ⟨h5, h6⟩, h7, h8⟩ := he
  obtain ⟨⟨h9, h10⟩, h11, h12⟩ := hp
  have b1 := mul_bd4 (a := tx - fx) (b := px - fx) (by omega) (by omega) (by omega) (by omega)
  have b2 := mul_bd4 (a := ty - fy) (b := py - fy) (by omega) (by omega) (by omega) (by omega)
  simp only [Edg.along]
  go_enter Try.func130, Try.ntmps130
  go_wp2
  go_ret
  exact ⟨rfl, ((Below.refl _ _).alloc (Nat.le_refl _) _).alloc (by simp) _⟩

theorem back_any (fx fy tx ty : Int) (w : World) :
    Calls Try.prog 76 #[.agg #[.int .i64 fx, .int .i64 fy, .int .i64 tx, .int .i64 ty]] w fun r w' => r = .returned (.agg #[.int .i64 tx, .int .i64 ty, .int .i64 fx, .int .i64 fy]) ∧ Below w.heap.size w w' := by
  go_enter Try.func76, Try.ntmps76
  go_wp2
  exact bodyPost_ret (v := .agg #[.int .i64 tx, .int .i64 ty, .int .i64 fx, .int .i64 fy]) (by simp [results, Try.results76, go_sem]) rfl ⟨rfl, ((Below.refl _ _).alloc (Nat.le_refl _) _).alloc (by simp) _⟩
end

/-! ### Lists of points in memory; edges of an outline; the range over an outline's edges. -/
section
open Go.RowKit

/-- The cells of a list of points from an address on. -/
def PtsAt (w : World) (b off : Nat) (l : List Pnt) : Prop :=
  ∀ j p, l[j]? = some p → w.cell? ⟨b, off + j * 2, none⟩ = some (.int .i64 p.x) ∧ w.cell? ⟨b, off + j * 2 + 1, none⟩ = some (.int .i64 p.y)

theorem PtsAt.below {w w' : World} {B b off : Nat} {l : List Pnt} (h : PtsAt w b off l) (hb : Below B w w') (hlt : b < B) : PtsAt w' b off l :=
  fun j p hj => ⟨(hb.cell (p := ⟨b, _, none⟩) hlt).trans (h j p hj).1, (hb.cell (p := ⟨b, _, none⟩) hlt).trans (h j p hj).2⟩

theorem edgeAt_any (b off len cap i k : Nat) (p q : Pnt) (w : World) (hi : i < len) (hl : len ≤ 1000) (hk : ((i : Int) + 1) % (len : Int) = (k : Int)) (hkl : k < len)
    (hp : w.cell? ⟨b, off + i * 2, none⟩ = some (.int .i64 p.x)) (hp' : w.cell? ⟨b, off + i * 2 + 1, none⟩ = some (.int .i64 p.y))
    (hq : w.cell? ⟨b, off + k * 2, none⟩ = some (.int .i64 q.x)) (hq' : w.cell? ⟨b, off + k * 2 + 1, none⟩ = some (.int .i64 q.y)) :
    Calls Try.prog 91 #[.slice (some ⟨b, off, none⟩) len cap, .int .i64 i] w fun r w' => r = .returned (.agg #[.int .i64 p.x, .int .i64 p.y, .int .i64 q.x, .int .i64 q.y]) ∧ Below w.heap.size w w' := by
  have hb : b < w.heap.size := World.block_lt_of_cell? _ _ hp
  go_enter Try.func91, Try.ntmps91
  go_wp2
  go_region
  all_goals go_wp2
  all_goals exact bodyPost_ret (v := .agg #[.int .i64 p.x, .int .i64 p.y, .int .i64 q.x, .int .i64 q.y]) (by simp [results, Try.results91, go_sem]) rfl ⟨rfl, ((Below.refl _ _).alloc (Nat.le_refl _) _).drew⟩

/-- The edge of an outline that begins at corner k. -/
def edgN (l : List Pnt) (k : Nat) : Edg := ⟨l[k]?.getD ⟨0, 0⟩, l[(k + 1) % l.length]?.getD ⟨0, 0⟩⟩

theorem edgeAt_pts (b off cap i : Nat) (l : List Pnt) (w : World) (hi : i < l.length) (hl : l.length ≤ 1000) (h : PtsAt w b off l) :
    Calls Try.prog 91 #[.slice (some ⟨b, off, none⟩) l.length cap, .int .i64 i] w fun r w' =>
      r = .returned (.agg #[.int .i64 (edgN l i).a.x, .int .i64 (edgN l i).a.y, .int .i64 (edgN l i).b.x, .int .i64 (edgN l i).b.y]) ∧ Below w.heap.size w w' := by
  have hk : (i + 1) % l.length < l.length := Nat.mod_lt _ (by omega)
  have e1 : l[i]? = some (edgN l i).a := by simp [edgN, hi]
  have e2 : l[(i + 1) % l.length]? = some (edgN l i).b := by simp [edgN, hk]
  exact edgeAt_any b off l.length cap i ((i + 1) % l.length) _ _ w hi hl (by push_cast; rfl) hk (h _ _ e1).1 (h _ _ e1).2 (h _ _ e2).1 (h _ _ e2).2

/-- A slice value that holds a list of points. -/
def IsPts (w : World) (v : Value) (l : List Pnt) : Prop :=
  ((∃ a c, v = .slice a 0 c) ∧ l = []) ∨ ∃ b off cap, v = .slice (some ⟨b, off, none⟩) l.length cap ∧ b < w.heap.size ∧ l.length ≤ cap ∧ cap ≤ 9223372036854775807 ∧ PtsAt w b off l

theorem IsPts.below {w w' : World} {v : Value} {l : List Pnt} (h : IsPts w v l) (hb : Below w.heap.size w w') : IsPts w' v l := by
  rcases h with h | ⟨b, off, cap, e, hl, hc, hc', hp⟩
  · exact .inl h
  · exact .inr ⟨b, off, cap, e, Nat.lt_of_lt_of_le hl hb.size, hc, hc', hp.below hb hl⟩

theorem walk_any (a : Option Addr) (len cap : Nat) (w : World) :
    Calls Try.prog 67 #[.slice a len cap] w fun e w' => e = .returned (.func (.func 102) #[] #[.pointer (some ⟨w.heap.size, 0, none⟩)]) ∧ w' = w.alloc (.cells #[.slice a len cap] 70) := by
  go_enter Try.func67, Try.ntmps67
  go_wp2
  go_ret
  exact ⟨rfl, rfl⟩
end

/-! ### The range over an outline's edges: the iterator's contract, for every loop body that keeps the blocks of the outline. -/
section
open Go.RowKit Go.Shelf
attribute [local go_sem] Oper.semAt_some

/-- The blocks of a set lie as they lay. -/
structure Keeps (S : Nat → Prop) (w w' : World) : Prop where
  size : w.heap.size ≤ w'.heap.size
  block : ∀ k, S k → w'.heap[k]? = w.heap[k]?
theorem Keeps.refl (S : Nat → Prop) (w : World) : Keeps S w w := ⟨Nat.le_refl _, fun _ _ => rfl⟩
theorem Keeps.trans {S : Nat → Prop} {A B C : World} (h : Keeps S A B) (k : Keeps S B C) : Keeps S A C := ⟨Nat.le_trans h.size k.size, fun i hi => (k.block i hi).trans (h.block i hi)⟩
theorem Keeps.cell {S : Nat → Prop} {w w' : World} (h : Keeps S w w') {p : Addr} (hp : S p.block) : w'.cell? p = w.cell? p := World.cell?_of_block (w := w) (h.block p.block hp)
theorem Keeps.of_below {S : Nat → Prop} {w w' : World} (h : Below w.heap.size w w') (hS : ∀ k, S k → k < w.heap.size) : Keeps S w w' := ⟨h.size, fun k hk => h.block k (hS k hk)⟩
theorem Keeps.setCell {S : Nat → Prop} {w w' : World} (h : Keeps S w w') {p : Addr} (hp : ¬ S p.block) (u : Value) : Keeps S w (w'.setCell p u) :=
  h.trans ⟨by simp [World.setCell], fun k hk => Below.heap_setCell _ _ _ _ (fun e => hp (e ▸ hk))⟩
theorem Keeps.lt {S : Nat → Prop} {w w' : World} (h : Keeps S w w') (hS : ∀ k, S k → k < w.heap.size) : ∀ k, S k → k < w'.heap.size := fun k hk => Nat.lt_of_lt_of_le (hS k hk) h.size
theorem keeps_b {S : Nat → Prop} {w : World} (hS : ∀ k, S k → k < w.heap.size) (W : World) (l : Nat) (o o' : Obj) (hl : w.heap.size ≤ l) (_ : W.heap[l]? = some o) (_ : o.isCells = false) (_ : o.isWalk = false) : Keeps S W (W.putObj l o') :=
  ⟨by simp, fun k hk => World.putObj_heap_other (fun e => by have := hS k hk; omega)⟩
theorem PtsAt.keeps {S : Nat → Prop} {w w' : World} {b off : Nat} {l : List Pnt} (h : PtsAt w b off l) (hb : Keeps S w w') (hS : S b) : PtsAt w' b off l :=
  fun j p hj => ⟨(hb.cell (p := ⟨b, _, none⟩) hS).trans (h j p hj).1, (hb.cell (p := ⟨b, _, none⟩) hS).trans (h j p hj).2⟩

/-- What the iterator hands over at corner k. -/
def encE (l : List Pnt) (k : Fin l.length) : Array Value :=
  #[.int .i64 (k.1 : Int), .agg #[.int .i64 (edgN l k.1).a.x, .int .i64 (edgN l k.1).a.y, .int .i64 (edgN l k.1).b.x, .int .i64 (edgN l k.1).b.y]]

theorem fin_take_succ (n k : Nat) (h : k < n) : (List.finRange n).take (k + 1) = (List.finRange n).take k ++ [⟨k, h⟩] := by
  rw [List.take_succ_eq_append_getElem (by simpa using h)]
  simp

set_option maxRecDepth 100000 in
set_option maxHeartbeats 2000000 in
theorem walk1_in (n : Nat) (hn : 1 ≤ n) (L Bs b off cap : Nat) (S : Nat → Prop) (l : List Pnt) (hl : l.length ≤ 1000) (hb : S b) (hBn : S Bs) (J Jx : List (Fin l.length) → World → Prop)
    (hY : ∀ pre x W, J pre W → pre.length < l.length → YieldAt Fence.wide (n - 1) Try.prog L (encE l x) W fun e W' =>
      (e = .returned (.bool true) ∧ J (pre ++ [x]) W' ∧ Keeps S W W') ∨ (e = .returned (.bool false) ∧ Jx (pre ++ [x]) W'))
    (hJ : ∀ pre A B, J pre A → Below A.heap.size A B → J pre B)
    (W : World) (hS : ∀ k, S k → k < W.heap.size) (hBs : W.cell? ⟨Bs, 0, none⟩ = some (.slice (some ⟨b, off, none⟩) l.length cap)) (hc : PtsAt W b off l) (h0 : J [] W) :
    CallsIn Fence.wide n Try.prog 102 #[.func (.yield L) #[] #[], .pointer (some ⟨Bs, 0, none⟩)] W fun e W' => (∃ v, e = .returned v) ∧
      ((∃ ys, ys = List.finRange l.length ∧ J ys W') ∨ (∃ pre, (∃ k, k ≤ l.length ∧ pre = (List.finRange l.length).take k) ∧ Jx pre W')) := by
  refine callsIn_of_wp Try.func102 rfl trivial ?_ rfl
  simp only [Try.ntmps102, List.size_toArray, List.length_cons, List.length_nil, Nat.reduceAdd, Nat.reduceSub, Array.replicate_succ, Array.replicate_zero, List.push_toArray, List.append_toArray, List.nil_append, List.cons_append]
  gi_wp2
  gi_loopw [6, 3] (fun i _ wr => ∃ k : Nat, k ≤ l.length ∧ i = .int .i64 k ∧ J ((List.finRange l.length).take k) wr ∧ Keeps S W wr)
    (fun i _ _ => l.length - (intOf i).toNat)
  case atStart => exact ⟨0, Nat.zero_le _, rfl, h0, Keeps.refl _ _⟩
  case round =>
    obtain ⟨k, hk, rfl, hJs, hnx⟩ := hrel
    have hbs := (hnx.cell (p := ⟨Bs, 0, none⟩) hBn).trans hBs
    by_cases hlt : k < l.length
    · have hcr := hc.keeps hnx hb
      gi_wp2_with fail
      refine ⟨trivial, ?_⟩
      refine (callsIn_wide.2 (edgeAt_pts b off cap k l _ hlt hl hcr)).mono ?_
      rintro e w2 ⟨rfl, hb2⟩
      obtain ⟨fn, tmps, assign, body, hy, hR⟩ := hY _ ⟨k, hlt⟩ w2 (hJ _ _ _ hJs hb2) (by simp [List.length_take]; omega)
      dsimp only [encE] at hy
      gi_wp2_with fail
      refine hR.mono ?_
      rintro e W3 (⟨rfl, hJ3, hk3⟩ | ⟨rfl, hJx3⟩)
      · gi_wp2
        go_roundw
        case rel => exact ⟨k + 1, by omega, by simp, by rw [fin_take_succ _ _ hlt]; exact hJ3, (hnx.trans (Keeps.of_below hb2 (hnx.lt hS))).trans hk3⟩
        case measure => simp [intOf]; omega
      · gi_wp2
        refine bodyPost_ret (results_none rfl _ _ _) rfl ?_
        exact ⟨⟨_, rfl⟩, .inr ⟨_, ⟨k + 1, by omega, (fin_take_succ _ _ hlt).symm⟩, hJx3⟩⟩
    · obtain rfl : k = l.length := by omega
      gi_wp2
      go_end0
      exact ⟨⟨_, rfl⟩, .inl ⟨_, by rw [List.take_of_length_le (by simp)], hJs⟩⟩

set_option maxRecDepth 100000 in
set_option maxHeartbeats 1000000 in
theorem walk1_nil_in (n : Nat) (L Bs : Nat) (sa : Option Addr) (sc : Nat) {α : Type} (J : List α → World → Prop) (W : World) (hBs : W.cell? ⟨Bs, 0, none⟩ = some (.slice sa 0 sc)) (h0 : J [] W) :
    CallsIn Fence.wide n Try.prog 102 #[.func (.yield L) #[] #[], .pointer (some ⟨Bs, 0, none⟩)] W fun e W' => (∃ v, e = .returned v) ∧ J [] W' := by
  refine callsIn_of_wp Try.func102 rfl trivial ?_ rfl
  simp only [Try.ntmps102, List.size_toArray, List.length_cons, List.length_nil, Nat.reduceAdd, Nat.reduceSub, Array.replicate_succ, Array.replicate_zero, List.push_toArray, List.append_toArray, List.nil_append, List.cons_append]
  gi_wp2
  gi_loopw [6, 3] (fun i _ wr => i = .int .i64 0 ∧ J [] wr) (fun _ _ _ => 0)
  case atStart => exact ⟨rfl, h0⟩
  case round =>
    obtain ⟨rfl, hJs⟩ := hrel
    gi_wp2
    go_end0
    exact ⟨⟨_, rfl⟩, hJs⟩

/-- The range over an outline's edges keeps its word to every loop body that keeps the outline's blocks. -/
theorem walk_stops (n : Nat) (hn : 1 ≤ n) (Bs : Nat) (S : Nat → Prop) (sv : Value) (l : List Pnt) (hl : l.length ≤ 1000) (w : World) (hBs : S Bs) (hS : ∀ k, S k → k < w.heap.size)
    (hc : w.cell? ⟨Bs, 0, none⟩ = some sv) (hI : ((∃ a c, sv = .slice a 0 c) ∧ l = []) ∨ ∃ b off cap, sv = .slice (some ⟨b, off, none⟩) l.length cap ∧ S b ∧ PtsAt w b off l) :
    SeqStopsK Fence.wide n Try.prog 102 #[.pointer (some ⟨Bs, 0, none⟩)] (encE l) (Keeps S) (fun ys => ys = List.finRange l.length)
      (fun pre => ∃ k, k ≤ l.length ∧ pre = (List.finRange l.length).take k) l.length w := fun L J Jx W hW hJ _ hY h0 => by
  have hW' := Keeps.of_below hW hS
  have hc' := (hW'.cell (p := ⟨Bs, 0, none⟩) hBs).trans hc
  rcases hI with ⟨⟨sa, sc, rfl⟩, rfl⟩ | ⟨b, off, cap, rfl, hb, hcs⟩
  · exact (walk1_nil_in n L Bs sa sc J W hc' h0).mono fun e W' ⟨he, hj⟩ => ⟨he, .inl ⟨_, by simp, hj⟩⟩
  · exact walk1_in n hn L Bs b off cap S l hl hb hBs J Jx hY
      (fun pre A B hs hb' => hJ pre A B none hs ⟨hb'.os, hb'.tape, hb'.output, hb'.size, fun k hk _ => hb'.block k hk⟩ (fun r e => by cases e))
      W (hW'.lt hS) hc' (hcs.keeps hW' hb) h0

/-! ### A block of the call's own -/
def Blk (W : World) (B : Nat) (cs : Array Value) (t : TypeId) : Prop := W.heap[B]? = some (.cells cs t (0, 0))
theorem Blk.lt {W : World} {B : Nat} {cs : Array Value} {t : TypeId} (h : Blk W B cs t) : B < W.heap.size := (Array.getElem?_eq_some_iff.1 h).1
theorem Blk.cell {W : World} {B : Nat} {cs : Array Value} {t : TypeId} (h : Blk W B cs t) (i : Nat) : W.cell? ⟨B, i, none⟩ = cs[i]? := by simp [World.cell?, show W.heap[B]? = _ from h]
theorem Blk.frozen {W : World} {B : Nat} {cs : Array Value} {t : TypeId} (h : Blk W B cs t) (i : Nat) : W.frozen? ⟨B, i, none⟩ = false := by simp [World.frozen?, show W.heap[B]? = _ from h]
theorem Blk.new (W : World) (t : TypeId) (cs : Array Value) : Blk (W.alloc (.cells cs t)) W.heap.size cs t := World.alloc_heap_new W _
theorem Blk.kept {W W' : World} {row : Option Nat} {B : Nat} {cs : Array Value} {t : TypeId} (h : Blk W B cs t) (hg : W.grownBy W' row) (hne : some B ≠ row) : Blk W' B cs t := (hg.block B h.lt hne).trans h
theorem Blk.alloc {W : World} {B : Nat} {cs : Array Value} {t : TypeId} (h : Blk W B cs t) (o : Obj) : Blk (W.alloc o) B cs t := h.kept (World.grownBy_alloc W o none) (by simp)
theorem Blk.below {W W' : World} {B n : Nat} {cs : Array Value} {t : TypeId} (h : Blk W B cs t) (hb : Below n W W') (hn : B < n) : Blk W' B cs t := (hb.block B hn).trans h
theorem Blk.belowS {W W' : World} {B : Nat} {cs : Array Value} {t : TypeId} (h : Blk W B cs t) (hb : Below W.heap.size W W') : Blk W' B cs t := h.below hb h.lt
theorem Blk.set {W : World} {B : Nat} {cs : Array Value} {t : TypeId} (h : Blk W B cs t) (i : Nat) (v : Value) : Blk (W.setCell ⟨B, i, none⟩ v) B (cs.setIfInBounds i v) t := by
  obtain ⟨hlt, hk⟩ := Array.getElem?_eq_some_iff.1 h
  show (W.heap.modify B _)[B]? = _
  rw [Array.getElem?_eq_getElem (by rw [Array.size_modify]; exact hlt), Array.getElem_modify_self, hk]
  rfl
theorem Blk.other {W : World} {B B' i : Nat} {cs : Array Value} {t : TypeId} (h : Blk W B cs t) (hne : B ≠ B') (v : Value) : Blk (W.setCell ⟨B', i, none⟩ v) B cs t := (Below.heap_setCell W ⟨B', i, none⟩ v B hne).trans h
theorem Blk.putObj {W : World} {B D : Nat} {cs : Array Value} {t : TypeId} {o : Obj} (h : Blk W B cs t) (o' : Obj) (hK : W.heap[D]? = some o) (ho : o.isCells = false) : Blk (W.putObj D o') B cs t :=
  (World.putObj_heap_other (fun e => by rw [← e, show W.heap[B]? = _ from h] at hK; cases hK; cases ho)).trans h
theorem below_putObj {w W : World} {n D : Nat} (h : Below n w W) (o' : Obj) (hD : n ≤ D) (hs : n ≤ W.heap.size) : Below n w (W.putObj D o') :=
  h.grown (grownBy_putObj' W D o') hs (fun k e => by cases e; exact hD)
theorem own_blk {β : Type} (n B : Nat) (t : TypeId) (f : β → Array Value) : OwnFrom n (fun s W => Blk W B (f s) t) := fun s X Y row hs hg hrow =>
  hs.kept hg (fun e' => by obtain ⟨_, o, ho, hc⟩ := hrow B e'.symm; rw [show X.heap[B]? = _ from hs] at ho; cases ho; cases hc)

def edgC (e : Edg) : Array Value := #[.int .i64 e.a.x, .int .i64 e.a.y, .int .i64 e.b.x, .int .i64 e.b.y]

/-- **'for k, e := range walk(corners) { .. }'**, the edge in a box of its own. -/
theorem walk_law {n : Nat} (hn : 3 ≤ n) {g : Operand} {ps : Array Tmp} {assign body : Code} {Q : Exit → Act → World → Prop} {a : Act} {w : World} {Bs : Nat}
    (hg : a.eval g = .func (.func 102) #[] #[.pointer (some ⟨Bs, 0, none⟩)]) (S : Nat → Prop) {sv : Value} (l : List Pnt) (hl : l.length ≤ 1000) (hBs : S Bs) (hS : ∀ k, S k → k < w.heap.size)
    (hc : w.cell? ⟨Bs, 0, none⟩ = some sv) (hsv : ((∃ a c, sv = .slice a 0 c) ∧ l = []) ∨ ∃ b off cap, sv = .slice (some ⟨b, off, none⟩) l.length cap ∧ S b ∧ PtsAt w b off l) (hps : ps.size = 2)
    (I : List (Fin l.length) → World → Prop) (Ix : Code → List (Fin l.length) → World → Prop) (hI : OwnFrom w.heap.size I) (hIx : ∀ c, OwnFrom w.heap.size (Ix c)) (h0 : I [] w) (A : Fin l.length → Nat → Act)
    (hassign : ∀ (L : Nat) (x : Fin l.length) (W : World) (K : Act → World → Prop), K (A x W.heap.size) (W.alloc (.cells (edgC (edgN l x.1)) 122)) →
      assign.wpIn (Fence.wide.inRound L) (n - 1 - 1) Try.prog (Exit.then K (fun _ _ _ => False)) { tmps := (ps.zip (encE l x)).foldl (fun t (p, v) => t.setIfInBounds p v) a.tmps, defers := [] } W)
    (hbody : ∀ (L : Nat) (pre : List (Fin l.length)) (x : Fin l.length) (Bx : Nat) (W : World), w.heap.size ≤ Bx → w.heap.size ≤ W.heap.size → Blk W Bx (edgC (edgN l x.1)) 122 → I pre W → pre.length < l.length →
      body.wpIn (Fence.wide.inRound L) (n - 1 - 1) Try.prog (ownPostG w.heap.size (Keeps S) I Ix (pre ++ [x]) W) (A x Bx) W)
    (hdone : ∀ (D : Nat) (W : World), w.heap.size ≤ D → I (List.finRange l.length) W → W.heap[D]? = some (.deferred (some [])) → Q .normal { a with defers := { target := .collected D, args := #[] } :: a.defers } W)
    (hstop : ∀ (D : Nat) (c : Code) (k : Nat) (W : World), w.heap.size ≤ D → k ≤ l.length → Ix c ((List.finRange l.length).take k) W → W.heap[D]? = some (.deferred (some [])) → c.wpIn Fence.wide n Try.prog Q { a with defers := { target := .collected D, args := #[] } :: a.defers } W) :
    (Code.rangeFunc g ps assign body).wpIn Fence.wide n Try.prog Q a w := by
  refine wpIn_rangeFunc_ownH rfl (by omega) (gf := 102) (lb := #[.pointer (some ⟨Bs, 0, none⟩)]) hg trivial (enters_of Try.func102 (by kernel_rfl) rfl)
    (walk_stops (n - 1) (by omega) Bs S sv l hl w hBs hS hc hsv) (fun h k => h.trans k) (keeps_b hS) (Below.refl _ _) (fun _ => by rw [hps]; rfl)
    (fun pre W => I pre W ∧ w.heap.size ≤ W.heap.size) Ix (hI.and (fun _ _ _ _ hs hg _ => Nat.le_trans hs hg.size)) hIx ⟨h0, Nat.le_refl _⟩ (fun x a' W => ∃ Bx, w.heap.size ≤ Bx ∧ Blk W Bx (edgC (edgN l x.1)) 122 ∧ a' = A x Bx)
    (fun x a' s X Y row hs hg hr => by obtain ⟨Bx, h1, h2, h3⟩ := hs; exact ⟨Bx, h1, own_blk w.heap.size Bx _ (fun _ : Unit => edgC (edgN l x.1)) () X Y row h2 hg hr, h3⟩)
    ?assign ?body ?done ?stop
  case assign =>
    intro L pre x W K hi hK
    exact hassign L x W K (hK _ _ ((KeepsOthers.alloc _ _).from _) ⟨by simp, fun k hk => Below.heap_alloc _ _ _ (Nat.lt_of_lt_of_le (hS k hk) hi.2)⟩ ⟨hI.alloc _ hi.1, by have := hi.2; simp; omega⟩ ⟨W.heap.size, hi.2, Blk.new _ _ _, rfl⟩)
  case body =>
    rintro L pre x a' W hl' hr hi ⟨Bx, h1, h2, rfl⟩ hlt
    refine wpIn_mono (hbody L pre x Bx W h1 hi.2 h2 hi.1 hlt) ?_
    rintro e a3 W3 hp
    cases e with
    | normal => exact ⟨hp.1, hp.2.1, hp.2.2, Nat.le_trans hi.2 hp.1.size⟩
    | ret => exact hp
    | exit id => exact hp
    | goto t => exact hp
    | panic ch => exact hp
    | outgrown => exact hp
  case done =>
    rintro D xs W hD rfl hi hK
    exact hdone D W hD hi.1 hK
  case stop =>
    rintro D c pre W hD ⟨k, hk, rfl⟩ hi hK
    exact hstop D c k W hD hk hi hK
end
end Go.Proofs.Ytpdgcajbdaleeaa
