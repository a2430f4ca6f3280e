/- Leaf functions of thatchref07. No condition. -/
import Derived.Test.YtoigihmgjacbjaaDoorVM
import Derived.Test.YtoigihmgjacbjaaDoorVG
set_option linter.unusedSimpArgs false
namespace Go.Proofs.YtoigihmgjacbjaaDoor
open Go.RowKit

theorem refIn_any (n lo hi : Int) (w : World) :
    Calls Tryd.prog 37 #[.int .i64 n, .int .i64 lo, .int .i64 hi] w fun e w' => e = .returned (.bool (isFromB n lo hi)) ∧ w = w' := by
  by_cases h : lo ≤ n
  all_goals by_cases h2 : n ≤ hi
  all_goals
    go_enter Tryd.func37, Tryd.ntmps37
    go_wp2
    all_goals go_ret
    all_goals refine ⟨?_, rfl⟩
    all_goals simp [isFromB, h, h2]
theorem refSpan_any (s : Spn) (most : Int) (w : World) :
    Calls Tryd.prog 36 #[.agg #[.int .i64 s.lo, .int .i64 s.hi], .int .i64 most] w fun e w' => e = .returned (.bool (isSpanB s 0 most)) ∧ Below w.heap.size w w' := by
  by_cases h1 : 0 ≤ s.lo
  all_goals by_cases h2 : s.lo ≤ s.hi
  all_goals by_cases h3 : s.hi ≤ most
  all_goals
    go_enter Tryd.func36, Tryd.ntmps36
    go_wp2
    all_goals go_ret
    all_goals refine ⟨?_, (Below.refl _ _).alloc (Nat.le_refl _) _⟩
    all_goals simp [isSpanB, h1, h2, h3]
theorem refLeft_any (a b p : Pnt) (ha : pointB a = true) (hb : pointB b = true) (hp : pointB p = true) (w : World) :
    Calls Tryd.prog 77 #[.agg #[.int .i64 a.x, .int .i64 a.y], .agg #[.int .i64 b.x, .int .i64 b.y], .agg #[.int .i64 p.x, .int .i64 p.y]] w fun r w' => r = .returned (.int .i64 ((Edg.mk a b).side p)) ∧ Below w.heap.size w w' := by
  obtain ⟨fx, fy⟩ := a
  obtain ⟨tx, ty⟩ := b
  obtain ⟨px, py⟩ := p
  obtain ⟨⟨h1, h2⟩, h3, h4⟩ := pointB_iff.1 ha
  obtain ⟨⟨h5, h6⟩, h7, h8⟩ := pointB_iff.1 hb
  obtain ⟨⟨h9, h10⟩, h11, h12⟩ := pointB_iff.1 hp
  clear ha hb hp
  simp only at h1 h2 h3 h4 h5 h6 h7 h8 h9 h10 h11 h12
  have b1 := mul_bd (a := tx - fx) (b := py - fy) (m := 400) (n := 400) (by omega) (by omega) (by omega) (by omega)
  have b2 := mul_bd (a := ty - fy) (b := px - fx) (m := 400) (n := 400) (by omega) (by omega) (by omega) (by omega)
  simp only [Edg.side]
  go_enter Tryd.func77, Tryd.ntmps77
  go_wp2
  go_ret
  exact ⟨rfl, (((Below.refl _ _).alloc (Nat.le_refl _) _).alloc (by simp) _).alloc (by simp; omega) _⟩

theorem refFar_any (p q : Pnt) (hp : pointB p = true) (hq : pointB q = true) (w : World) :
    Calls Tryd.prog 76 #[.agg #[.int .i64 p.x, .int .i64 p.y], .agg #[.int .i64 q.x, .int .i64 q.y]] w fun e w' => e = .returned (.int .i64 (distM p q)) ∧ Below w.heap.size w w' := by
  obtain ⟨a, b⟩ := p
  obtain ⟨c, d⟩ := q
  obtain ⟨⟨h1, h2⟩, h3, h4⟩ := pointB_iff.1 hp
  obtain ⟨⟨h5, h6⟩, h7, h8⟩ := pointB_iff.1 hq
  clear hp hq
  simp only at h1 h2 h3 h4 h5 h6 h7 h8
  have w1 : IntKind.i64.wrap (a - c) = a - c := by rw [IntKind.wrap_i64]; omega
  have w2 : IntKind.i64.wrap (c - a) = c - a := by rw [IntKind.wrap_i64]; omega
  have w3 : IntKind.i64.wrap (b - d) = b - d := by rw [IntKind.wrap_i64]; omega
  have w4 : IntKind.i64.wrap (d - b) = d - b := by rw [IntKind.wrap_i64]; omega
  have H0 := Lib.hid (And.intro (And.intro h1 h2) (And.intro (And.intro h3 h4) (And.intro (And.intro h5 h6) (And.intro h7 h8))))
  clear h1 h2 h3 h4 h5 h6 h7 h8
  go_enter Tryd.func76, Tryd.ntmps76
  go_wp2
  all_goals go_ret
  all_goals refine ⟨?_, ((Below.refl _ _).alloc (Nat.le_refl _) _).alloc (by simp) _⟩
  all_goals
    obtain ⟨⟨h1, h2⟩, ⟨h3, h4⟩, ⟨h5, h6⟩, h7, h8⟩ := H0.out
    refine ret_int (k := .i64) ?_
    refine (w64 (by omega) (by omega)).trans ?_
    simp only [distM]
    omega
set_option maxHeartbeats 2000000 in
theorem refLess_any (s t : Spn) (hs : isSpanB s 0 2000 = true) (ht : isSpanB t 0 2000 = true) (w : World) :
    Calls Tryd.prog 39 #[.agg #[.int .i64 s.lo, .int .i64 s.hi], .agg #[.int .i64 t.lo, .int .i64 t.hi]] w fun e w' => e = .returned (.agg #[.int .i64 (lessS s t).lo, .int .i64 (lessS s t).hi]) ∧ Below w.heap.size w w' := by
  rw [isSpanB_iff] at hs ht
  obtain ⟨al, ah⟩ := s
  obtain ⟨bl, bh⟩ := t
  simp only at hs ht
  have w1 : IntKind.i64.wrap (al - bh) = al - bh := by rw [IntKind.wrap_i64]; omega
  have w2 : IntKind.i64.wrap (ah - bl) = ah - bl := by rw [IntKind.wrap_i64]; omega
  obtain ⟨L, hL⟩ : ∃ L, max 0 (al - bh) = L := ⟨_, rfl⟩
  obtain ⟨K, hK⟩ : ∃ K, max 0 (ah - bl) = K := ⟨_, rfl⟩
  have HH := Lib.hid (show lessS ⟨al, ah⟩ ⟨bl, bh⟩ = ⟨L, K⟩ by simp only [lessS, hL, hK])
  clear hs ht
  by_cases h1 : 0 < al - bh
  all_goals by_cases h2 : 0 < ah - bl
  all_goals
    have e1 := hL
    have e2 := hK
    first | (have q1 : L = al - bh := by omega) | (have q1 : L = 0 := by omega)
    first | (have q2 : K = ah - bl := by omega) | (have q2 : K = 0 := by omega)
    clear e1 e2 hL hK
    subst q1 q2
    go_enter Tryd.func39, Tryd.ntmps39
    go_wp2
  all_goals
    exact bodyPost_ret (v := .agg #[.int .i64 (lessS ⟨al, ah⟩ ⟨bl, bh⟩).lo, .int .i64 (lessS ⟨al, ah⟩ ⟨bl, bh⟩).hi]) (by rw [HH.out]; simp [results, Tryd.results39, go_sem]) rfl ⟨rfl, (((Below.refl _ _).alloc (Nat.le_refl _) _).alloc (by simp) _).alloc (by simp; omega) _⟩

theorem refBehind_any (p q : Pnt) (w : World) :
    Calls Tryd.prog 52 #[.agg #[.int .i64 p.x, .int .i64 p.y], .agg #[.int .i64 q.x, .int .i64 q.y]] w fun e w' => e = .returned (.bool (decide (plt q p))) ∧ Below w.heap.size w w' := by
  obtain ⟨px, py⟩ := p
  obtain ⟨qx, qy⟩ := q
  have hb : Below w.heap.size w ((w.alloc (.cells #[.int .i64 px, .int .i64 py] 45)).alloc (.cells #[.int .i64 qx, .int .i64 qy] 45)) := ((Below.refl _ _).alloc (Nat.le_refl _) _).alloc (by simp) _
  have HB := Lib.hid hb
  clear hb
  by_cases h1 : qy < py
  · have HV := Lib.hid (show decide (plt ⟨qx, qy⟩ ⟨px, py⟩) = true from decide_eq_true (.inl h1))
    go_enter Tryd.func52, Tryd.ntmps52
    go_wp2
    go_ret
    exact ⟨by rw [HV.out]; rfl, HB.out⟩
  by_cases h2 : py = qy
  · subst h2
    by_cases h3 : qx < px
    · have HV := Lib.hid (show decide (plt ⟨qx, py⟩ ⟨px, py⟩) = true from decide_eq_true (.inr ⟨rfl, h3⟩))
      go_enter Tryd.func52, Tryd.ntmps52
      go_wp2
      go_ret
      exact ⟨by rw [HV.out]; simp [h3], HB.out⟩
    · have HV := Lib.hid (show decide (plt ⟨qx, py⟩ ⟨px, py⟩) = false from decide_eq_false (by simp only [plt]; omega))
      go_enter Tryd.func52, Tryd.ntmps52
      go_wp2
      go_ret
      exact ⟨by rw [HV.out]; simp [h3], HB.out⟩
  · have HV := Lib.hid (show decide (plt ⟨qx, qy⟩ ⟨px, py⟩) = false from decide_eq_false (by simp only [plt]; omega))
    have e1 : (py == qy) = false := by rw [beq_eq_false_iff_ne]; exact h2
    go_enter Tryd.func52, Tryd.ntmps52
    go_wp2
    go_ret
    exact ⟨by rw [HV.out]; rfl, HB.out⟩
end Go.Proofs.YtoigihmgjacbjaaDoor
