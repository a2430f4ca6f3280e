/- isEnough, slices.Clone of numbers. -/
import Derived.Test.YtmaehiomljnkgaaFB
import Derived.Deep.AppendLies
namespace Go.Proofs.Ytmaehiomljnkgaa
open Go.RowKit

theorem isEnough_any (c : Sur) (n : Ned) (w : World) :
    Calls Try.prog 63 #[.agg #[.int .i64 c.z, .int .i64 c.r, .int .i64 c.s, .int .i64 c.h], .agg #[.int .i64 n.reed, .int .i64 n.straw, .int .i64 n.heather]] w fun e w' => e = .returned (.bool (c.enough n)) ∧ Below w.heap.size w w' := by
  obtain ⟨z, r, s, h⟩ := c
  obtain ⟨a, b, d⟩ := n
  by_cases h1 : a ≤ r
  all_goals by_cases h2 : b ≤ s
  all_goals by_cases h3 : d ≤ h
  all_goals
    go_enter Try.func63, Try.ntmps63
    go_wp2_with fail
    all_goals go_ret
    all_goals refine ⟨?_, by first | exact Below.refl _ _ | exact (Below.refl _ _).alloc (Nat.le_refl _) _ | exact ((Below.refl _ _).alloc (Nat.le_refl _) _).alloc (by simp) _⟩
    all_goals simp [Sur.enough, h1, h2, h3]

/-- The value of a list of numbers' cells. -/
def natsV (l : List Nat) : List Value := l.map (fun (k : Nat) => Value.int .i64 (k : Int))
theorem natsV_len (l : List Nat) : (natsV l).length = l.length := by simp [natsV]
theorem natsV_one (l : List Nat) : ∀ u ∈ natsV l, u.oneCell' = true := by
  intro u hu
  obtain ⟨k, _, rfl⟩ := List.mem_map.1 hu
  rfl

set_option maxRecDepth 100000 in
set_option maxHeartbeats 1000000 in
theorem clone_any (g cap : Nat) (l : List Nat) (B : Nat) (w : World) (hown : w.ownsRow B 3 1 (.slice (some ⟨g, 0, none⟩) l.length cap) l.length (natsV l)) (hm : 0 < l.length) (hl : l.length ≤ 1000) :
    Calls Try.prog 47 #[.slice (some ⟨g, 0, none⟩) l.length cap] w fun e w' => (∃ v, e = .returned v ∧ w'.ownsRow w.heap.size 3 1 v l.length (natsV l)) ∧ Below w.heap.size w w' := by
  obtain ⟨i0, hi0, hz0, hz1, hz2⟩ : ∃ i, Try.prog.info? 3 = some i ∧ i.zero = some (.int .i64 0) ∧ i.size = 1 ∧ i.bytes = 8 := ⟨_, rfl, rfl, rfl, rfl⟩
  have hnil : ∀ w, (binOp BinOp.eql 25 (Value.slice (some ⟨g, 0, none⟩) l.length cap) (Value.slice none 0 0)).run Try.prog w = .ok (.bool false) w := fun w => rfl
  have HOWN := Lib.hid hown
  clear hown
  go_enter Try.func47, Try.ntmps47
  have hmk : (w.alloc (.cells #[] 3)).ownsRow w.heap.size 3 1 (.slice (some ⟨w.heap.size, 0, none⟩) 0 0) 0 [] := World.ownsRow_made w #[] 0 (Nat.le_refl _) (by decide) rfl
  have hmx : 0 + l.length ≤ maxLen := by unfold maxLen; omega
  have hB : Below w.heap.size w (w.alloc (.cells #[] 3)) := (Below.refl _ _).alloc (Nat.le_refl _) _
  have hnw : ∀ (j : Nat) (u : Value), (natsV l)[j]? = some u → (w.alloc (.cells #[] 3)).cell? ((⟨g, 0, none⟩ : Addr).add j) = some u := (HOWN.out.alloc _).cells rfl
  go_wp2_with (first | (rw [hnil]) | (at_builtin; refine wpList_append_lies _ rfl _ _ 25 rfl w.heap.size 3 i0 (.int .i64 0) 1 8 Try.underlying25 hi0 hz0 hz1 hz2 rfl (by decide) _ _ _ rfl hmk ⟨g, 0, none⟩ l.length cap (natsV l) rfl (by simp [natsV]) hnw (natsV_one l) hm hmx (by omega) (by simp) _ rfl ?_; intro g2 cap2 w6 hown6 hgrow hat hlt6; have HOWN6 := Lib.hid hown6; have HGR := Lib.hid hgrow; clear hown6 hgrow hat))
  go_ret
  refine ⟨⟨_, rfl, ?_⟩, hB.grown HGR.out (by simp) (fun k e => by cases e; exact Nat.le_refl _)⟩
  have := HOWN6.out
  simpa using this
end Go.Proofs.Ytmaehiomljnkgaa
