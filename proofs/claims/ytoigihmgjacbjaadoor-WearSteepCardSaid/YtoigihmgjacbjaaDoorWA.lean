/- Leaf functions of packages wear and plane: what each call returns, and that nothing that lay before it has turned. No condition. -/
import Derived.Test.YtoigihmgjacbjaaDoorC
import Derived.Recover
import Derived.WalkSmall
import Derived.Deep.RegionHeld3
import Derived.Deep.DeepCutAuto
import Derived.Deep.CutRange
import Derived.Deep.RegionWith
set_option linter.unusedSimpArgs false
namespace Go.Proofs.YtoigihmgjacbjaaDoor
open Go.RowKit

/-! ### What is required -/
abbrev chain (x : Int) : Ending := .panicked [{ v := .iface 35 (.int .i64 x), recovered := false }]
theorem require_yes (x : Int) (w : World) : Calls Tryd.prog 42 #[.bool true, .int .i64 x] w fun e w' => e = .returned (.tuple #[]) ∧ w' = w := by
  go_enter Tryd.func42, Tryd.ntmps42
  go_wp2
  go_end0
  exact ⟨rfl, rfl⟩
theorem require_no (x : Int) (w : World) : Calls Tryd.prog 42 #[.bool false, .int .i64 x] w fun e w' => e = .panicked [{ v := .iface 35 (.int .i64 x), recovered := false }] ∧ w' = w := by
  go_enter Tryd.func42, Tryd.ntmps42
  go_wp2
  exact ⟨rfl, rfl, rfl⟩
theorem require_any (b : Bool) (x : Int) (w : World) : Calls Tryd.prog 42 #[.bool b, .int .i64 x] w fun e w' =>
    ((b = true ∧ e = .returned (.tuple #[])) ∨ (b = false ∧ e = chain x)) ∧ w' = w := by
  cases b with
  | true => exact (require_yes x w).mono fun _ _ ⟨h, h2⟩ => ⟨.inl ⟨rfl, h⟩, h2⟩
  | false => exact (require_no x w).mono fun _ _ ⟨h, h2⟩ => ⟨.inr ⟨rfl, h⟩, h2⟩

theorem raise_ok (w : World) : Calls Tryd.prog 83 #[.int .i64 0] w fun e w' => e = .returned (.tuple #[]) ∧ w' = w := by
  go_enter Tryd.func83, Tryd.ntmps83
  go_wp2_with fail
  refine (require_yes 0 _).mono ?_
  rintro e w2 ⟨rfl, rfl⟩
  go_wp2_with fail
  go_end0
  exact ⟨rfl, rfl⟩
theorem raise_no (x : Int) (hx : x ≠ 0) (w : World) : Calls Tryd.prog 83 #[.int .i64 x] w fun e w' => e = .panicked [{ v := .iface 35 (.int .i64 x), recovered := false }] ∧ w' = w := by
  have q : (x == 0) = false := by rw [beq_eq_false_iff_ne]; exact hx
  go_enter Tryd.func83, Tryd.ntmps83
  go_wp2_with fail
  refine (require_no x _).mono ?_
  rintro e w2 ⟨rfl, rfl⟩
  go_wp2_with fail
  exact ⟨rfl, rfl, rfl⟩
/-! ### Points -/
def pointB (p : Pnt) : Bool := isFromB p.x 0 400 && isFromB p.y 0 400
theorem pointB_iff {p : Pnt} : pointB p = true ↔ (0 ≤ p.x ∧ p.x ≤ 400) ∧ 0 ≤ p.y ∧ p.y ≤ 400 := by simp [pointB, isFromB]
theorem planePoint_any (p : Pnt) (w : World) :
    Calls Tryd.prog 89 #[.agg #[.int .i64 p.x, .int .i64 p.y]] w fun e w' => e = .returned (.bool (pointB p)) ∧ Below w.heap.size w w' := by
  by_cases h : isFromB p.x 0 400 = true
  · go_enter Tryd.func89, Tryd.ntmps89
    go_wp2_with fail
    refine (isFrom_any _ _ _ _).mono ?_
    rintro e w' ⟨rfl, rfl⟩
    go_wp2_with fail
    refine (isFrom_any _ _ _ _).mono ?_
    rintro e w' ⟨rfl, rfl⟩
    go_wp2
    go_ret
    exact ⟨by simp [pointB, h], (Below.refl _ _).alloc (Nat.le_refl _) _⟩
  · have h' : isFromB p.x 0 400 = false := by simpa using h
    clear h
    go_enter Tryd.func89, Tryd.ntmps89
    go_wp2_with fail
    refine (isFrom_any _ _ _ _).mono ?_
    rintro e w' ⟨rfl, rfl⟩
    go_wp2_with fail
    go_ret
    exact ⟨by simp [pointB, h'], (Below.refl _ _).alloc (Nat.le_refl _) _⟩
theorem side_bd {a b p : Pnt} (ha : pointB a = true) (hb : pointB b = true) (hp : pointB p = true) : -320000 ≤ (Edg.mk a b).side p ∧ (Edg.mk a b).side p ≤ 320000 := by
  obtain ⟨⟨h1, h2⟩, h3, h4⟩ := pointB_iff.1 ha
  obtain ⟨⟨h5, h6⟩, h7, h8⟩ := pointB_iff.1 hb
  obtain ⟨⟨h9, h10⟩, h11, h12⟩ := pointB_iff.1 hp
  have b1 := mul_bd (a := b.x - a.x) (b := p.y - a.y) (m := 400) (n := 400) (by omega) (by omega) (by omega) (by omega)
  have b2 := mul_bd (a := b.y - a.y) (b := p.x - a.x) (m := 400) (n := 400) (by omega) (by omega) (by omega) (by omega)
  simp only [Edg.side]
  omega
theorem leftOf_any (a b p : Pnt) (ha : pointB a = true) (hb : pointB b = true) (hp : pointB p = true) (w : World) :
    Calls Tryd.prog 93 #[.agg #[.int .i64 a.x, .int .i64 a.y], .agg #[.int .i64 b.x, .int .i64 b.y], .agg #[.int .i64 p.x, .int .i64 p.y]] w fun r w' => r = .returned (.int .i64 ((Edg.mk a b).side p)) ∧ Below w.heap.size w w' := by
  obtain ⟨fx, fy⟩ := a
  obtain ⟨tx, ty⟩ := b
  obtain ⟨px, py⟩ := p
  obtain ⟨⟨h1, h2⟩, h3, h4⟩ := pointB_iff.1 ha
  obtain ⟨⟨h5, h6⟩, h7, h8⟩ := pointB_iff.1 hb
  obtain ⟨⟨h9, h10⟩, h11, h12⟩ := pointB_iff.1 hp
  clear ha hb hp
  simp only at h1 h2 h3 h4 h5 h6 h7 h8 h9 h10 h11 h12
  have b1 := mul_bd (a := tx - fx) (b := py - fy) (m := 400) (n := 400) (by omega) (by omega) (by omega) (by omega)
  have b2 := mul_bd (a := ty - fy) (b := px - fx) (m := 400) (n := 400) (by omega) (by omega) (by omega) (by omega)
  simp only [Edg.side]
  go_enter Tryd.func93, Tryd.ntmps93
  go_wp2
  go_ret
  exact ⟨rfl, (((Below.refl _ _).alloc (Nat.le_refl _) _).alloc (by simp) _).alloc (by simp; omega) _⟩

/-! ### Spans -/
structure Spn where
  lo : Int
  hi : Int
deriving DecidableEq
abbrev spnV (s : Spn) : Value := .agg #[.int .i64 s.lo, .int .i64 s.hi]
def isSpanB (s : Spn) (lo hi : Int) : Bool := decide (lo ≤ s.lo) && (decide (s.lo ≤ s.hi) && decide (s.hi ≤ hi))
theorem isSpanB_iff {s : Spn} {lo hi : Int} : isSpanB s lo hi = true ↔ lo ≤ s.lo ∧ s.lo ≤ s.hi ∧ s.hi ≤ hi := by simp [isSpanB]
def nothingS : Spn := ⟨0, -1⟩
def comM (a b : Spn) : Spn := if min a.hi b.hi < max a.lo b.lo then nothingS else ⟨max a.lo b.lo, min a.hi b.hi⟩
def widM (s : Spn) (by' : Int) : Spn := ⟨s.lo - by', s.hi + by'⟩
def distM (p q : Pnt) : Int := max (p.x - q.x) (q.x - p.x) + max (p.y - q.y) (q.y - p.y)

theorem isSpan_any (s : Spn) (lo hi : Int) (w : World) :
    Calls Tryd.prog 78 #[.agg #[.int .i64 s.lo, .int .i64 s.hi], .int .i64 lo, .int .i64 hi] w fun e w' => e = .returned (.bool (isSpanB s lo hi)) ∧ Below w.heap.size w w' := by
  by_cases h1 : lo ≤ s.lo
  all_goals by_cases h2 : s.lo ≤ s.hi
  all_goals by_cases h3 : s.hi ≤ hi
  all_goals
    go_enter Tryd.func78, Tryd.ntmps78
    go_wp2
    all_goals go_ret
    all_goals refine ⟨?_, (Below.refl _ _).alloc (Nat.le_refl _) _⟩
    all_goals simp [isSpanB, h1, h2, h3]
theorem areThick_any (s : Spn) (w : World) :
    Calls Tryd.prog 59 #[.agg #[.int .i64 s.lo, .int .i64 s.hi]] w fun e w' => e = .returned (.bool (isSpanB s 0 2000)) ∧ Below w.heap.size w w' := by
  have hb1 : Below w.heap.size w (w.alloc (.cells #[.int .i64 s.lo, .int .i64 s.hi] 27)) := (Below.refl _ _).alloc (Nat.le_refl _) _
  go_enter Tryd.func59, Tryd.ntmps59
  go_wp2_with fail
  refine (isSpan_any s _ _ _).mono ?_
  rintro e w' ⟨rfl, hb⟩
  go_wp2_with fail
  go_ret
  exact ⟨rfl, hb1.trans (hb.mono hb1.size)⟩
theorem isThick_any (n : Int) (w : World) : Calls Tryd.prog 43 #[.int .i64 n] w fun e w' => e = .returned (.bool (isFromB n 0 2000)) ∧ w = w' := by
  go_enter Tryd.func43, Tryd.ntmps43
  go_wp2_with fail
  refine (isFrom_any _ _ _ _).mono ?_
  rintro e w' ⟨rfl, rfl⟩
  go_wp2_with fail
  go_ret
  exact ⟨rfl, rfl⟩
theorem dist_bd {p q : Pnt} (hp : pointB p = true) (hq : pointB q = true) : 0 ≤ distM p q ∧ distM p q ≤ 800 := by
  obtain ⟨⟨h1, h2⟩, h3, h4⟩ := pointB_iff.1 hp
  obtain ⟨⟨h5, h6⟩, h7, h8⟩ := pointB_iff.1 hq
  unfold distM
  omega
theorem distance_any (p q : Pnt) (hp : pointB p = true) (hq : pointB q = true) (w : World) :
    Calls Tryd.prog 74 #[.agg #[.int .i64 p.x, .int .i64 p.y], .agg #[.int .i64 q.x, .int .i64 q.y]] w fun e w' => e = .returned (.int .i64 (distM p q)) ∧ Below w.heap.size w w' := by
  obtain ⟨a, b⟩ := p
  obtain ⟨c, d⟩ := q
  obtain ⟨⟨h1, h2⟩, h3, h4⟩ := pointB_iff.1 hp
  obtain ⟨⟨h5, h6⟩, h7, h8⟩ := pointB_iff.1 hq
  clear hp hq
  simp only at h1 h2 h3 h4 h5 h6 h7 h8
  have w1 : IntKind.i64.wrap (a - c) = a - c := by rw [IntKind.wrap_i64]; omega
  have w2 : IntKind.i64.wrap (c - a) = c - a := by rw [IntKind.wrap_i64]; omega
  have w3 : IntKind.i64.wrap (b - d) = b - d := by rw [IntKind.wrap_i64]; omega
  have w4 : IntKind.i64.wrap (d - b) = d - b := by rw [IntKind.wrap_i64]; omega
  have H0 := Lib.hid (And.intro (And.intro h1 h2) (And.intro (And.intro h3 h4) (And.intro (And.intro h5 h6) (And.intro h7 h8))))
  clear h1 h2 h3 h4 h5 h6 h7 h8
  go_enter Tryd.func74, Tryd.ntmps74
  go_wp2
  all_goals go_ret
  all_goals refine ⟨?_, ((Below.refl _ _).alloc (Nat.le_refl _) _).alloc (by simp) _⟩
  all_goals
    obtain ⟨⟨h1, h2⟩, ⟨h3, h4⟩, ⟨h5, h6⟩, h7, h8⟩ := H0.out
    refine ret_int (k := .i64) ?_
    refine (w64 (by omega) (by omega)).trans ?_
    simp only [distM]
    omega
theorem widened_any (s : Spn) (n : Int) (h : -9223372036854775808 ≤ s.lo - n ∧ s.lo - n ≤ 9223372036854775807 ∧ -9223372036854775808 ≤ s.hi + n ∧ s.hi + n ≤ 9223372036854775807) (w : World) :
    Calls Tryd.prog 72 #[.agg #[.int .i64 s.lo, .int .i64 s.hi], .int .i64 n] w fun e w' => e = .returned (.agg #[.int .i64 (widM s n).lo, .int .i64 (widM s n).hi]) ∧ Below w.heap.size w w' := by
  obtain ⟨lo, hi⟩ := s
  obtain ⟨h1, h2, h3, h4⟩ := h
  simp only at h1 h2 h3 h4
  have w1 : IntKind.i64.wrap (lo - n) = lo - n := by rw [IntKind.wrap_i64]; omega
  have w2 : IntKind.i64.wrap (hi + n) = hi + n := by rw [IntKind.wrap_i64]; omega
  clear h1 h2 h3 h4
  simp only [widM]
  go_enter Tryd.func72, Tryd.ntmps72
  go_wp2
  exact bodyPost_ret (v := .agg #[.int .i64 (lo - n), .int .i64 (hi + n)]) (by simp [results, Tryd.results72, go_sem]) rfl ⟨rfl, ((Below.refl _ _).alloc (Nat.le_refl _) _).alloc (by simp) _⟩
/-- The package's own variable: what two spans have in common that have nothing in common. -/
def Laid (w : World) : Prop := w.cell? ⟨0, 0, none⟩ = some (.int .i64 0) ∧ w.cell? ⟨0, 1, none⟩ = some (.int .i64 (-1)) ∧ 0 < w.heap.size
theorem Laid.below {w w' : World} (h : Laid w) (hb : Below w.heap.size w w') : Laid w' :=
  ⟨(hb.cell (p := ⟨0, 0, none⟩) h.2.2).trans h.1, (hb.cell (p := ⟨0, 1, none⟩) h.2.2).trans h.2.1, Nat.lt_of_lt_of_le h.2.2 hb.size⟩
set_option maxHeartbeats 2000000 in
theorem common_any (a b : Spn) (w : World) (hg : Laid w) :
    Calls Tryd.prog 71 #[.agg #[.int .i64 a.lo, .int .i64 a.hi], .agg #[.int .i64 b.lo, .int .i64 b.hi]] w fun e w' => e = .returned (.agg #[.int .i64 (comM a b).lo, .int .i64 (comM a b).hi]) ∧ Below w.heap.size w w' := by
  obtain ⟨g0, g1, g2⟩ := hg
  obtain ⟨L, hL⟩ : ∃ L, max a.lo b.lo = L := ⟨_, rfl⟩
  obtain ⟨K, hK⟩ : ∃ K, min a.hi b.hi = K := ⟨_, rfl⟩
  have hc : comM a b = if K < L then nothingS else ⟨L, K⟩ := by unfold comM; rw [hL, hK]
  have HC := Lib.hid hc
  clear hc
  obtain ⟨al, ah⟩ := a
  obtain ⟨bl, bh⟩ := b
  by_cases h : K < L
  · have HH := Lib.hid (show comM ⟨al, ah⟩ ⟨bl, bh⟩ = nothingS by rw [HC.out, if_pos h])
    by_cases h1 : al < bl
    all_goals by_cases h2 : bh < ah
    all_goals
      have e1 := hL
      have e2 := hK
      simp only at e1 e2
      first | (have q1 : L = bl := by omega) | (have q1 : L = al := by omega)
      first | (have q2 : K = bh := by omega) | (have q2 : K = ah := by omega)
      clear e1 e2 hL hK HC
      subst q1 q2
      go_enter Tryd.func71, Tryd.ntmps71
      go_wp2
    all_goals
      exact bodyPost_ret (v := .agg #[.int .i64 0, .int .i64 (-1)]) (by simp [results, Tryd.results71, go_sem]) rfl ⟨by rw [HH.out]; rfl, ((((Below.refl _ _).alloc (Nat.le_refl _) _).alloc (by simp) _).alloc (by simp; omega) _).alloc (by simp; omega) _⟩
  · have HH := Lib.hid (show comM ⟨al, ah⟩ ⟨bl, bh⟩ = ⟨L, K⟩ by rw [HC.out, if_neg h])
    by_cases h1 : al < bl
    all_goals by_cases h2 : bh < ah
    all_goals
      have e1 := hL
      have e2 := hK
      simp only at e1 e2
      first | (have q1 : L = bl := by omega) | (have q1 : L = al := by omega)
      first | (have q2 : K = bh := by omega) | (have q2 : K = ah := by omega)
      clear e1 e2 hL hK HC
      subst q1 q2
      go_enter Tryd.func71, Tryd.ntmps71
      go_wp2
    all_goals
      exact bodyPost_ret (v := .agg #[.int .i64 L, .int .i64 K]) (by simp [results, Tryd.results71, go_sem]) rfl ⟨by rw [HH.out], ((((Below.refl _ _).alloc (Nat.le_refl _) _).alloc (by simp) _).alloc (by simp; omega) _).alloc (by simp; omega) _⟩
end Go.Proofs.YtoigihmgjacbjaaDoor
