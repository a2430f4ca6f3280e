/- A region that draws its order, told by its states: whatever order is picked, it goes from state to state, till all has come up. Inside a fence, and in a round. -/
import Derived.Test.YtpdgcajbdaleeaaZP
namespace Go.Proofs.Ytpdgcajbdaleeaa
open Go.RowKit

section
variable {P : Program} {ops : Array Oper} {md : Region.Mode}
theorem ready_not {listed : Array Bool} {i : Nat} (hi : i ∈ Region.ready md ops listed) : listed.getD i true = false := (mem_ready.1 hi).1
theorem ready_pre {listed : Array Bool} {i : Nat} (hi : i ∈ Region.ready md ops listed) (j : Nat) (hj : (((ops[i]?).map fun o => o.after.any fun e => Region.binds md e && e.on == j).getD false) = true) : listed.getD j false = true := by
  obtain ⟨_, o, ho, he⟩ := mem_ready.1 hi
  rw [ho] at hj
  simp only [Option.map_some, Option.getD_some, Array.any_eq_true, Bool.and_eq_true, beq_iff_eq] at hj
  obtain ⟨k, hk, hb, hon⟩ := hj
  rw [← hon]
  exact he _ (Array.getElem_mem hk) hb
theorem ready_lt {listed : Array Bool} {i : Nat} (hi : i ∈ Region.ready md ops listed) : i < ops.size := by
  obtain ⟨_, o, ho, _⟩ := mem_ready.1 hi
  exact (Array.getElem?_eq_some_iff.1 ho).1
/-- All that binds an operation stands ahead of it. -/
def backB (md : Region.Mode) (ops : Array Oper) : Bool := (List.range ops.size).all fun i => ((ops[i]?).map fun o => o.after.all fun e => !Region.binds md e || decide (e.on < i)).getD true
theorem ready_none {listed : Array Bool} (hb : backB md ops = true) (hl : listed.size = ops.size) (h : Region.ready md ops listed = []) : ∀ i, i < ops.size → listed.getD i false = true := by
  intro i
  induction i using Nat.strongRecOn with
  | _ i ih =>
    intro hi
    cases hv : listed.getD i false with
    | true => rfl
    | false =>
      exfalso
      have hmem : i ∈ Region.ready md ops listed := by
        rw [mem_ready]
        refine ⟨?_, ops[i], Array.getElem?_eq_getElem hi, fun e he hbe => ?_⟩
        · simp only [Array.getD, hl, hi, dite_true] at hv ⊢
          exact hv
        · have h1 := List.all_eq_true.1 hb i (List.mem_range.2 hi)
          rw [Array.getElem?_eq_getElem hi] at h1
          simp only [Option.map_some, Option.getD_some] at h1
          have h2 := Array.all_eq_true'.1 h1 e he
          rw [hbe] at h2
          have h3 : e.on < i := by simpa using h2
          exact ih e.on h3 (by omega)
      rw [h] at hmem
      cases hmem

variable {F : Fence} {n : Nat} {Q : Exit → Act → World → Prop}
theorem wpAnyIn_states {σ : Type} (L : σ → Array Bool) (A : σ → Act) (I : σ → World → Prop) (μ : σ → Nat)
    (hnil : ∀ s w, I s w → Region.ready md ops (L s) = [] → Q .normal (A s) w) (hz : ∀ s, μ s = 0 → Region.ready md ops (L s) = [])
    (hstep : ∀ s w, I s w → ∀ i, i ∈ Region.ready md ops (L s) → wpOpIn F n P ops Q i (fun a' w' => ∃ s', a' = A s' ∧ (L s).setIfInBounds i true = L s' ∧ μ s = μ s' + 1 ∧ I s' w') (A s) w) :
    ∀ k s w, μ s = k → I s w → wpAnyIn F n P md ops Q (μ s) (L s) (A s) w := by
  intro k
  induction k with
  | zero =>
    intro s w hk hI
    rw [hk]
    exact ⟨hz s hk, hnil s w hI (hz s hk)⟩
  | succ k ih =>
    intro s w hk hI
    rw [hk]
    refine ⟨hnil s w hI, fun i hi => wpOpIn_mono ?_ (hstep s w hI i hi)⟩
    rintro a' w' ⟨s', rfl, hL, hm, hI'⟩
    rw [hL, show k = μ s' by omega]
    exact ih s' w' (by omega) hI'
end
/-- What a slot holds, by whether its operation has come up. -/
def valU (b : Bool) (v u : Value) : Value := match b with | true => v | false => u
def ptrU (p : Option Nat) (u : Value) : Value := match p with | some A => .pointer (some ⟨A, 0, none⟩) | none => u
def nB (b : Bool) : Nat := match b with | true => 0 | false => 1
end Go.Proofs.Ytpdgcajbdaleeaa
