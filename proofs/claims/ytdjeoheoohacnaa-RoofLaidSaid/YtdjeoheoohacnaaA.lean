/- Leaf functions of package roof: signs, ranges, sides of edges. Contracts: what each call returns, and that nothing that lay before it has turned. -/
import Derived.Test.YtdjeoheoohacnaaRows
import Derived.WalkKit
import Derived.ProofKit
import Derived.RangeFuncNested
import Derived.BigQuiet
import Derived.Deep.QuietTactic
import Derived.Lib.Hide
namespace Go.Proofs.Ytdjeoheoohacnaa
open Go.RowKit

theorem bcell {W w1 : World} (hb : Below W.heap.size W w1) : (∀ b o, b < W.heap.size → w1.cell? ⟨b, o, none⟩ = W.cell? ⟨b, o, none⟩) ∧ (∀ b o, b < W.heap.size → w1.frozen? ⟨b, o, none⟩ = W.frozen? ⟨b, o, none⟩) :=
  ⟨fun b o h => hb.cell (p := ⟨b, o, none⟩) h, fun b o h => hb.frozen (p := ⟨b, o, none⟩) h⟩

theorem others_of {W W' : World} (h : Below W.heap.size W W') : KeepsOthers W W' :=
  ⟨h.size, fun k _ hk _ => (h.block k (Array.getElem?_eq_some_iff.1 hk).1).trans hk⟩

theorem ret_int {k : IntKind} {a b : Int} (h : a = b) : Ending.returned (.int k a) = .returned (.int k b) := by rw [h]
theorem ret_bool {a b : Bool} (h : a = b) : Ending.returned (.bool a) = .returned (.bool b) := by rw [h]

/-- The sign of a number, as Go's cmp.Compare tells it. -/
def sgn (n : Int) : Int := if n < 0 then -1 else if 0 < n then 1 else 0
theorem sgn_neg {n : Int} (h : n < 0) : sgn n = -1 := by simp [sgn, h]
theorem sgn_pos {n : Int} (h : 0 < n) : sgn n = 1 := by unfold sgn; rw [if_neg (by omega), if_pos h]
theorem sgn_zero {n : Int} (h : n = 0) : sgn n = 0 := by subst h; rfl

def isFromB (n lo hi : Int) : Bool := decide (lo ≤ n) && decide (n ≤ hi)
def inPlanB (x y : Int) : Bool := isFromB x 0 10000 && isFromB y 0 10000
theorem inPlanB_iff {x y : Int} : inPlanB x y = true ↔ (0 ≤ x ∧ x ≤ 10000) ∧ 0 ≤ y ∧ y ≤ 10000 := by simp [inPlanB, isFromB]

theorem isFrom_any (n lo hi : Int) (w : World) :
    Calls Try.prog 51 #[.int .i64 n, .int .i64 lo, .int .i64 hi] w fun e w' => e = .returned (.bool (isFromB n lo hi)) ∧ w = w' := by
  by_cases h : lo ≤ n
  all_goals by_cases h2 : n ≤ hi
  all_goals
    go_enter Try.func51, Try.ntmps51
    go_wp2
    all_goals go_ret
    all_goals refine ⟨?_, rfl⟩
    all_goals simp [isFromB, h, h2]

theorem isFromSide_any (n lo hi : Int) (w : World) :
    Calls Try.prog 57 #[.int .i64 n, .int .i64 lo, .int .i64 hi] w fun e w' => e = .returned (.bool (isFromB n lo hi)) ∧ w = w' := by
  by_cases h : lo ≤ n
  all_goals by_cases h2 : n ≤ hi
  all_goals
    go_enter Try.func57, Try.ntmps57
    go_wp2
    all_goals go_ret
    all_goals refine ⟨?_, rfl⟩
    all_goals simp [isFromB, h, h2]

theorem inPlan_any (x y : Int) (w : World) :
    Calls Try.prog 32 #[.agg #[.int .i64 x, .int .i64 y]] w fun e w' => e = .returned (.bool (inPlanB x y)) ∧ Below w.heap.size w w' := by
  by_cases h : isFromB x 0 10000 = true
  · go_enter Try.func32, Try.ntmps32
    go_wp2_with fail
    refine (isFrom_any _ _ _ _).mono ?_
    rintro e w' ⟨rfl, rfl⟩
    go_wp2_with fail
    refine (isFrom_any _ _ _ _).mono ?_
    rintro e w' ⟨rfl, rfl⟩
    go_wp2
    go_ret
    exact ⟨by simp [inPlanB, h], (Below.refl _ _).alloc (Nat.le_refl _) _⟩
  · have h' : isFromB x 0 10000 = false := by simpa using h
    clear h
    go_enter Try.func32, Try.ntmps32
    go_wp2_with fail
    refine (isFrom_any _ _ _ _).mono ?_
    rintro e w' ⟨rfl, rfl⟩
    go_wp2_with fail
    go_ret
    exact ⟨by simp [inPlanB, h'], (Below.refl _ _).alloc (Nat.le_refl _) _⟩

theorem isNaN_any (a : Int) (w : World) :
    Calls Try.prog 117 #[.int .i64 a] w fun e w' => e = .returned (.bool false) ∧ w = w' := by
  go_enter Try.func117, Try.ntmps117
  go_wp2
  go_ret
  exact ⟨by simp, rfl⟩

theorem cmp_any (a b : Int) (w : World) :
    Calls Try.prog 113 #[.int .i64 a, .int .i64 b] w fun e w' => e = .returned (.int .i64 (sgn (a - b))) ∧ w = w' := by
  rcases Int.lt_trichotomy a b with h | h | h
  · have hs := sgn_neg (n := a - b) (by omega)
    have Hs := Lib.hid hs
    clear hs
    go_enter Try.func113, Try.ntmps113
    go_wp2_with (go_at_call 117; refine (isNaN_any _ _).mono ?_; rintro e w' ⟨rfl, rfl⟩)
    go_ret
    exact ⟨by rw [Hs.out]; rfl, rfl⟩
  · subst h
    have hs := sgn_zero (n := a - a) (by omega)
    have Hs := Lib.hid hs
    clear hs
    go_enter Try.func113, Try.ntmps113
    go_wp2_with (go_at_call 117; refine (isNaN_any _ _).mono ?_; rintro e w' ⟨rfl, rfl⟩)
    go_ret
    exact ⟨by rw [Hs.out]; rfl, rfl⟩
  · have hs := sgn_pos (n := a - b) (by omega)
    have Hs := Lib.hid hs
    clear hs
    go_enter Try.func113, Try.ntmps113
    go_wp2_with (go_at_call 117; refine (isNaN_any _ _).mono ?_; rintro e w' ⟨rfl, rfl⟩)
    go_ret
    exact ⟨by rw [Hs.out]; rfl, rfl⟩

theorem signOf_any (a : Int) (w : World) :
    Calls Try.prog 88 #[.int .i64 a] w fun e w' => e = .returned (.int .i64 (sgn a)) ∧ w = w' := by
  go_enter Try.func88, Try.ntmps88
  go_wp2_with (go_at_call 113; refine (cmp_any _ _ _).mono ?_; rintro e w' ⟨rfl, rfl⟩)
  go_ret
  exact ⟨by simp, rfl⟩

theorem minus_any (a : Int) (w : World) :
    Calls Try.prog 54 #[.int .i64 a] w fun e w' => e = .returned (.bool (decide (a < 0))) ∧ w = w' := by
  go_enter Try.func54, Try.ntmps54
  go_wp2
  go_ret
  exact ⟨rfl, rfl⟩

theorem plus_any (a : Int) (w : World) :
    Calls Try.prog 96 #[.int .i64 a] w fun e w' => e = .returned (.bool (decide (0 < a))) ∧ w = w' := by
  go_enter Try.func96, Try.ntmps96
  go_wp2
  go_ret
  exact ⟨rfl, rfl⟩

theorem zero_any (a : Int) (w : World) :
    Calls Try.prog 112 #[.int .i64 a] w fun e w' => e = .returned (.bool (a == 0)) ∧ w = w' := by
  go_enter Try.func112, Try.ntmps112
  go_wp2
  go_ret
  exact ⟨rfl, rfl⟩

/-! ### Points and edges -/
structure Pnt where
  x : Int
  y : Int
deriving DecidableEq
/-- Within the limits of the plan. -/
def Pnt.ok (p : Pnt) : Prop := (0 ≤ p.x ∧ p.x ≤ 10000) ∧ 0 ≤ p.y ∧ p.y ≤ 10000
def Pnt.okB (p : Pnt) : Bool := inPlanB p.x p.y
theorem Pnt.okB_iff {p : Pnt} : p.okB = true ↔ p.ok := inPlanB_iff
structure Edg where
  a : Pnt
  b : Pnt
deriving DecidableEq
def Edg.ok (e : Edg) : Prop := e.a.ok ∧ e.b.ok
/-- On which side of the edge's line a point lies: above 0 to the left. -/
def Edg.side (e : Edg) (p : Pnt) : Int := (e.b.x - e.a.x) * (p.y - e.a.y) - (e.b.y - e.a.y) * (p.x - e.a.x)
def Edg.along (e : Edg) (p : Pnt) : Int := (e.b.x - e.a.x) * (p.x - e.a.x) + (e.b.y - e.a.y) * (p.y - e.a.y)

theorem mul_bd {a b m n : Int} (ha : -m ≤ a) (ha' : a ≤ m) (hb : -n ≤ b) (hb' : b ≤ n) : -(m * n) ≤ a * b ∧ a * b ≤ m * n := by
  have hm : 0 ≤ m := by omega
  have hn : 0 ≤ n := by omega
  rcases Int.le_total 0 a with h | h <;> rcases Int.le_total 0 b with k | k
  · have h1 := Int.mul_le_mul ha' hb' k hm
    have h2 := Int.mul_nonneg h k
    omega
  · have h1 := Int.mul_le_mul ha' (show -b ≤ n by omega) (by omega) hm
    have h2 := Int.mul_nonneg h (show 0 ≤ -b by omega)
    rw [Int.mul_neg] at h1 h2
    omega
  · have h1 := Int.mul_le_mul (show -a ≤ m by omega) hb' k hm
    have h2 := Int.mul_nonneg (show 0 ≤ -a by omega) k
    rw [Int.neg_mul] at h1 h2
    omega
  · have h1 := Int.mul_le_mul (show -a ≤ m by omega) (show -b ≤ n by omega) (by omega) hm
    have h2 := Int.mul_nonneg (show 0 ≤ -a by omega) (show 0 ≤ -b by omega)
    rw [Int.neg_mul_neg] at h1 h2
    omega

theorem mul_bd4 {a b : Int} (ha : -10000 ≤ a) (ha' : a ≤ 10000) (hb : -10000 ≤ b) (hb' : b ≤ 10000) : -100000000 ≤ a * b ∧ a * b ≤ 100000000 := by
  have := mul_bd ha ha' hb hb'
  omega

theorem w64 {n : Int} (h : -9223372036854775808 ≤ n) (h' : n ≤ 9223372036854775807) : wrap64 n = n := IntWalk.wrap64_in n ⟨h, h'⟩

theorem side_any (e : Edg) (p : Pnt) (he : e.ok) (hp : p.ok) (w : World) :
    Calls Try.prog 53 #[.agg #[.int .i64 e.a.x, .int .i64 e.a.y, .int .i64 e.b.x, .int .i64 e.b.y], .agg #[.int .i64 p.x, .int .i64 p.y]] w fun r w' => r = .returned (.int .i64 (sgn (e.side p))) ∧ Below w.heap.size w w' := by
  obtain ⟨⟨fx, fy⟩, ⟨tx, ty⟩⟩ := e
  obtain ⟨px, py⟩ := p
  simp only [Edg.ok, Pnt.ok] at he hp
  obtain ⟨⟨⟨h1, h2⟩, h3, h4⟩, ⟨h5, h6⟩, h7, h8⟩ := he
  obtain ⟨⟨h9, h10⟩, h11, h12⟩ := hp
  have b1 := mul_bd4 (a := tx - fx) (b := py - fy) (by omega) (by omega) (by omega) (by omega)
  have b2 := mul_bd4 (a := ty - fy) (b := px - fx) (by omega) (by omega) (by omega) (by omega)
  simp only [Edg.side]
  go_enter Try.func53, Try.ntmps53
  go_wp2_with fail
  refine (signOf_any _ _).mono ?_
  rintro e w' ⟨rfl, rfl⟩
  go_wp2
  go_ret
  exact ⟨rfl, ((Below.refl _ _).alloc (Nat.le_refl _) _).alloc (by simp) _⟩

theorem along_any (e : Edg) (p : Pnt) (he : e.ok) (hp : p.ok) (w : World) :
    Calls Try.prog 115 #[.agg #[.int .i64 e.a.x, .int .i64 e.a.y, .int .i64 e.b.x, .int .i64 e.b.y], .agg #[.int .i64 p.x, .int .i64 p.y]] w fun r w' => r = .returned (.int .i64 (e.along p)) ∧ Below w.heap.size w w' := by
  obtain ⟨⟨fx, fy⟩, ⟨tx, ty⟩⟩ := e
  obtain ⟨px, py⟩ := p
  simp only [Edg.ok, Pnt.ok] at he hp
  obtain ⟨⟨⟨h1, h2⟩, h3, h4⟩, ⟨h5, h6⟩, h7, h8⟩ := he
  obtain ⟨⟨h9, h10⟩, h11, h12⟩ := hp
  have b1 := mul_bd4 (a := tx - fx) (b := px - fx) (by omega) (by omega) (by omega) (by omega)
  have b2 := mul_bd4 (a := ty - fy) (b := py - fy) (by omega) (by omega) (by omega) (by omega)
  simp only [Edg.along]
  go_enter Try.func115, Try.ntmps115
  go_wp2
  go_ret
  exact ⟨rfl, ((Below.refl _ _).alloc (Nat.le_refl _) _).alloc (by simp) _⟩

theorem back_any (fx fy tx ty : Int) (w : World) :
    Calls Try.prog 84 #[.agg #[.int .i64 fx, .int .i64 fy, .int .i64 tx, .int .i64 ty]] w fun r w' => r = .returned (.agg #[.int .i64 tx, .int .i64 ty, .int .i64 fx, .int .i64 fy]) ∧ Below w.heap.size w w' := by
  go_enter Try.func84, Try.ntmps84
  go_wp2
  exact bodyPost_ret (v := .agg #[.int .i64 tx, .int .i64 ty, .int .i64 fx, .int .i64 fy]) (by simp [results, Try.results84, go_sem]) rfl ⟨rfl, ((Below.refl _ _).alloc (Nat.le_refl _) _).alloc (by simp) _⟩
end Go.Proofs.Ytdjeoheoohacnaa
