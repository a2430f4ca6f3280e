/- The deferred closure of Do: an error that is recovered. -/
import Derived.Test.YtmnfapdfdpglgaaJT
import Derived.Defers
import Derived.Recover
import Derived.Laws.Pointers
set_option linter.unusedSimpArgs false
namespace Go.Proofs.Ytmnfapdfdpglgaa
open Go.RowKit

theorem assert_is (x : Int) (w : World) : (Instr.typeAssert (.iface 38 (.int .i64 x)) 20 38 true).run Try.prog w = .ok (.tuple #[.int .i64 x, .bool true]) w := by kernel_rfl
theorem assert_not (w : World) : (Instr.typeAssert .nilIface 20 38 true).run Try.prog w = .ok (.tuple #[.int .i64 0, .bool false]) w := by kernel_rfl
abbrev zeroS : Array Value := #[.int .i64 0, .slice none 0 0, .slice none 0 0, .slice none 0 0, .slice none 0 0, .slice none 0 0]
set_option maxRecDepth 100000 in
set_option maxHeartbeats 4000000 in
theorem catch_panicking (E1 E2 : Nat) (x : Int) (older : List PanicEntry) (v0 v1 v2 v3 v4 v5 u0 : Value) (w : World) (k1 : Blk w E1 #[v0, v1, v2, v3, v4, v5] 29) (k2 : Blk w E2 #[u0] 38) (hne : E1 ≠ E2) :
    CallsD Try.prog 31 #[.pointer (some ⟨E1, 0, none⟩), .pointer (some ⟨E2, 0, none⟩)] (.panicking ({ v := .iface 38 (.int .i64 x), recovered := false } :: older)) w fun e u' w' =>
      e = .returned (.tuple #[]) ∧ u' = .panicking ({ v := .iface 38 (.int .i64 x), recovered := true } :: older) ∧ Blk w' E1 zeroS 29 ∧ Blk w' E2 #[.int .i64 x] 38 ∧ Turn (fun k => k = E1 ∨ k = E2) w w' := by
  have c0 := k1.cell 0
  have c1 := k1.cell 1
  have c2 := k1.cell 2
  have c3 := k1.cell 3
  have c4 := k1.cell 4
  have c5 := k1.cell 5
  have d0 := k2.cell 0
  simp only [List.getElem?_toArray, List.getElem?_cons_zero, List.getElem?_cons_succ] at c0 c1 c2 c3 c4 c5 d0
  have z0 := k1.frozen 0
  have z1 := k1.frozen 1
  have z2 := k1.frozen 2
  have z3 := k1.frozen 3
  have z4 := k1.frozen 4
  have z5 := k1.frozen 5
  have y0 := k2.frozen 0
  refine callsD_of_wpS Try.func31 rfl fun c₀ cs hu => ?_
  apply wpS_seq
  apply wpS_region
  simp [wpOpsS, go_sem, recoverD, hu, Try.ntmps31, Exit.thenS, assert_is, assert_not]
  apply wpS_seq
  apply wpS_region
  simp [wpOpsS, go_sem, Exit.thenS]
  refine wpS_cond (t := true) (by simp [Act.eval, Array.replicate]) ?_
  simp only [if_true]
  apply wpS_region
  simp [wpOpsS, go_sem, c0, c1, c2, c3, c4, c5, z0, z1, z2, z3, z4, z5, d0, y0, hne, Ne.symm hne, bodyPostS, results, Try.results31]
  refine ⟨((((((k1.set 0 _).set 1 _).set 2 _).set 3 _).set 4 _).set 5 _).other hne _, ((((((k2.other hne.symm _).other hne.symm _).other hne.symm _).other hne.symm _).other hne.symm _).other hne.symm _).set 0 _, ?_⟩
  exact (((((((Turn.of_below (X := fun k => k = E1 ∨ k = E2) (Below.refl _ w)).setCell (B := E1) (.inl rfl) _ _).setCell (B := E1) (.inl rfl) _ _).setCell (B := E1) (.inl rfl) _ _).setCell (B := E1) (.inl rfl) _ _).setCell (B := E1) (.inl rfl) _ _).setCell (B := E1) (.inl rfl) _ _).setCell (B := E2) (.inr rfl) _ _
set_option maxRecDepth 100000 in
set_option maxHeartbeats 4000000 in
theorem catch_idle (E1 E2 : Nat) (w : World) :
    CallsD Try.prog 31 #[.pointer (some ⟨E1, 0, none⟩), .pointer (some ⟨E2, 0, none⟩)] .returning w fun e u' w' => e = .returned (.tuple #[]) ∧ u' = .returning ∧ w' = w := by
  refine callsD_of_wpS Try.func31 rfl fun c₀ cs hu => ?_
  apply wpS_seq
  apply wpS_region
  simp [wpOpsS, go_sem, recoverD, hu, Try.ntmps31, Exit.thenS, assert_is, assert_not]
  apply wpS_seq
  apply wpS_region
  simp [wpOpsS, go_sem, Exit.thenS]
  refine wpS_cond (t := false) (by simp [Act.eval, Array.replicate]) ?_
  simp only [Bool.false_eq_true, if_false]
  refine wpS_of_wp (wp_skip ?_)
  cases c₀
  simp_all [bodyPostS, results, Try.results31]
end Go.Proofs.Ytmnfapdfdpglgaa
