/- The map of chores, and what it holds at a kind. -/
import Derived.Test.YtfhalmlpnoepcaaGreatJI
import Derived.Carry
import Derived.WideMake
set_option linter.unusedSimpArgs false
namespace Go.Proofs.YtfhalmlpnoepcaaGreat
open Go.RowKit

theorem alloc_set (w : World) (o o' : Obj) : { w.alloc o with heap := (w.alloc o).heap.setIfInBounds w.heap.size o' } = w.alloc o' := by
  unfold World.alloc
  simp only
  congr 1
  rw [Array.setIfInBounds_def]
  simp [Array.set_push]
theorem ins_run (w : World) (es : Array MapEntry) (n : Nat) (k : Int) (v : Value) (hk : Instr.findNow (.int .i64) (.int .i64 k) es.toList 0 = some none) :
    (Instr.mapUpdate 83 (.map (some w.heap.size)) (.int .i64 k) v).run Tryz.prog (w.alloc (.map es n)) = .ok () (w.alloc (.map (es.push { key := .int .i64 k, val := v, born := n }) (n + 1))) := by
  have hb : (w.alloc (.map es n)).heap[w.heap.size]? = some (.map es n) := heap_alloc_new w _
  have hc : (Instr.checkKey false 10000 30 (.int .i64 k)).run Tryz.prog (w.alloc (.map es n)) = .ok () (w.alloc (.map es n)) := MapKept.run_checkKey (k := .int .i64 k) Tryz.underlying30 (by simp [MapKept.IsKey]) false 9999
  rw [← alloc_set w (.map es n) (.map (es.push { key := .int .i64 k, val := v, born := n }) (n + 1))]
  simp [Instr.mapUpdate, run_underlying Tryz.underlying83, MapKept.run_getObj_map hb, hc, MapKept.run_findKey Tryz.underlying30 hk, MapKept.run_setObj_map _ hb, Result.andThen]

/-- The entries. -/
def chE (k : Int) (f : Nat) (n : Nat) : MapEntry := { key := .int .i64 k, val := .func (.func f) #[] #[], born := n }
def chEs : Array MapEntry := #[chE 1 61 0, chE 2 62 1, chE 3 63 2, chE 4 64 3, chE 5 65 4, chE 6 66 5, chE 7 67 6, chE 8 68 7]
/-- The chore of a kind. -/
def chN (x : Int) : Nat := if x = 1 then 61 else if x = 2 then 62 else if x = 3 then 63 else if x = 4 then 64 else if x = 5 then 65 else if x = 6 then 66 else if x = 7 then 67 else 68

set_option maxRecDepth 100000 in
set_option maxHeartbeats 4000000 in
theorem chores_any (w : World) : Calls Tryz.prog 36 #[] w fun e w' => e = .returned (.map (some w.heap.size)) ∧ w' = w.alloc (.map chEs 8) := by
  have hmm := @run_makeMap Tryz.prog
  have h1 := ins_run w #[] 0 1 (.func (.func 61) #[] #[]) rfl
  have h2 := ins_run w #[chE 1 61 0] 1 2 (.func (.func 62) #[] #[]) rfl
  have h3 := ins_run w #[chE 1 61 0, chE 2 62 1] 2 3 (.func (.func 63) #[] #[]) rfl
  have h4 := ins_run w #[chE 1 61 0, chE 2 62 1, chE 3 63 2] 3 4 (.func (.func 64) #[] #[]) rfl
  have h5 := ins_run w #[chE 1 61 0, chE 2 62 1, chE 3 63 2, chE 4 64 3] 4 5 (.func (.func 65) #[] #[]) rfl
  have h6 := ins_run w #[chE 1 61 0, chE 2 62 1, chE 3 63 2, chE 4 64 3, chE 5 65 4] 5 6 (.func (.func 66) #[] #[]) rfl
  have h7 := ins_run w #[chE 1 61 0, chE 2 62 1, chE 3 63 2, chE 4 64 3, chE 5 65 4, chE 6 66 5] 6 7 (.func (.func 67) #[] #[]) rfl
  have h8 := ins_run w #[chE 1 61 0, chE 2 62 1, chE 3 63 2, chE 4 64 3, chE 5 65 4, chE 6 66 5, chE 7 67 6] 7 8 (.func (.func 68) #[] #[]) rfl
  simp only [List.push_toArray, List.cons_append, List.nil_append] at h1 h2 h3 h4 h5 h6 h7 h8
  change _ = Result.ok () (w.alloc (.map #[chE 1 61 0] 1)) at h1
  change _ = Result.ok () (w.alloc (.map #[chE 1 61 0, chE 2 62 1] 2)) at h2
  change _ = Result.ok () (w.alloc (.map #[chE 1 61 0, chE 2 62 1, chE 3 63 2] 3)) at h3
  change _ = Result.ok () (w.alloc (.map #[chE 1 61 0, chE 2 62 1, chE 3 63 2, chE 4 64 3] 4)) at h4
  change _ = Result.ok () (w.alloc (.map #[chE 1 61 0, chE 2 62 1, chE 3 63 2, chE 4 64 3, chE 5 65 4] 5)) at h5
  change _ = Result.ok () (w.alloc (.map #[chE 1 61 0, chE 2 62 1, chE 3 63 2, chE 4 64 3, chE 5 65 4, chE 6 66 5] 6)) at h6
  change _ = Result.ok () (w.alloc (.map #[chE 1 61 0, chE 2 62 1, chE 3 63 2, chE 4 64 3, chE 5 65 4, chE 6 66 5, chE 7 67 6] 7)) at h7
  change _ = Result.ok () (w.alloc (.map chEs 8)) at h8
  go_enter Tryz.func36, Tryz.ntmps36
  go_wp2
  go_ret
  exact ⟨rfl, rfl⟩

theorem look_run (w : World) (R : Nat) (x : Int) (v : Option (Nat × Value)) (hb : w.heap[R]? = some (.map chEs 8)) (hk : Instr.findNow (.int .i64) (.int .i64 x) chEs.toList 0 = some v) :
    (Instr.lookup 83 (.map (some R)) (.int .i64 x) true).run Tryz.prog w = .ok (match v with | some (_, v) => .tuple #[v, .bool true] | none => .tuple #[Value.nilFunc, .bool false]) w := by
  have hc : (Instr.checkKey chEs.isEmpty 10000 30 (.int .i64 x)).run Tryz.prog w = .ok () w := MapKept.run_checkKey (k := .int .i64 x) Tryz.underlying30 (by simp [MapKept.IsKey]) _ 9999
  have hz : (zeroValue 81).run Tryz.prog w = .ok Value.nilFunc w := by kernel_rfl
  cases v with
  | none => simp [Instr.lookup, run_underlying Tryz.underlying83, MapKept.run_getObj_map hb, hc, MapKept.run_findKey Tryz.underlying30 hk, hz, Result.andThen]
  | some p => obtain ⟨i, v⟩ := p; simp [Instr.lookup, run_underlying Tryz.underlying83, MapKept.run_getObj_map hb, hc, MapKept.run_findKey Tryz.underlying30 hk, Result.andThen]
theorem look_hit (w : World) (R : Nat) (x : Int) (hb : w.heap[R]? = some (.map chEs 8)) (hx : 1 ≤ x ∧ x ≤ 8) :
    (Instr.lookup 83 (.map (some R)) (.int .i64 x) true).run Tryz.prog w = .ok (.tuple #[.func (.func (chN x)) #[] #[], .bool true]) w := by
  obtain ⟨h1, h2⟩ := hx
  rcases (show x = 1 ∨ x = 2 ∨ x = 3 ∨ x = 4 ∨ x = 5 ∨ x = 6 ∨ x = 7 ∨ x = 8 by omega) with rfl | rfl | rfl | rfl | rfl | rfl | rfl | rfl
  · exact look_run w R 1 (some (0, _)) hb rfl
  · exact look_run w R 2 (some (1, _)) hb rfl
  · exact look_run w R 3 (some (2, _)) hb rfl
  · exact look_run w R 4 (some (3, _)) hb rfl
  · exact look_run w R 5 (some (4, _)) hb rfl
  · exact look_run w R 6 (some (5, _)) hb rfl
  · exact look_run w R 7 (some (6, _)) hb rfl
  · exact look_run w R 8 (some (7, _)) hb rfl
theorem look_miss (w : World) (R : Nat) (x : Int) (hb : w.heap[R]? = some (.map chEs 8)) (hx : ¬ (1 ≤ x ∧ x ≤ 8)) :
    (Instr.lookup 83 (.map (some R)) (.int .i64 x) true).run Tryz.prog w = .ok (.tuple #[Value.nilFunc, .bool false]) w := by
  refine look_run w R x none hb ?_
  have h : ∀ k : Int, 1 ≤ k → k ≤ 8 → (x == k) = false := fun k h1 h2 => by simp; omega
  simp [chEs, chE, Instr.findNow, Instr.sameNow, h 1, h 2, h 3, h 4, h 5, h 6, h 7, h 8]
end Go.Proofs.YtfhalmlpnoepcaaGreat
