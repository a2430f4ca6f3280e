/- A region whose orders come to one end, told by its states; how far an edge leads to the right and up, in the own measure of a face. -/
import Derived.Test.YtpdgcajbdaleeaaU
import Derived.Deep.RegionHeld3
namespace Go.Proofs.Ytpdgcajbdaleeaa
open Go.RowKit

section
variable {P : Program} {ops : Array Oper} {Q : Exit → Act → World → Prop} {md : Region.Mode} {S : World → Prop}
/-- Whatever order is picked, the region goes from state to state. -/
theorem wpAnyH_states {σ : Type} (L : σ → Array Bool) (A : σ → Act) (I : σ → World → Prop) (μ : σ → Nat) (rd : σ → List Nat) (hrd : ∀ s, Region.ready md ops (L s) = rd s) (hS : ∀ s w, I s w → S w)
    (hstep : ∀ s w, I s w → wpAnyH P md ops Q S (μ s) (L s) (A s) w ∨ (rd s ≠ [] ∧ 1 ≤ μ s ∧ ∀ i ∈ rd s, wpOp P ops Q i (fun a' w' => ∃ s', a' = A s' ∧ (L s).setIfInBounds i true = L s' ∧ μ s = μ s' + 1 ∧ I s' w') (A s) w)) :
    ∀ n s w, μ s = n → I s w → wpAnyH P md ops Q S (μ s) (L s) (A s) w := by
  intro n
  induction n with
  | zero =>
    intro s w hn hI
    rcases hstep s w hI with h | ⟨_, h, _⟩
    · exact h
    · omega
  | succ n ih =>
    intro s w hn hI
    rcases hstep s w hI with h | ⟨hne, _, h⟩
    · exact h
    · rw [hn]
      refine wpAnyH_all (hrd s) hne (fun i hi => wpOp_mono ?_ (h i hi))
      rintro a' w' ⟨s', rfl, hL, hm, hI'⟩
      refine ⟨hS _ _ hI', ?_⟩
      rw [hL, show n = μ s' by omega]
      exact ih s' w' (by omega) hI'
end

def seenU (s : Int) (e : Edg) : Int := ownU s e.b - ownU s e.a
def seenV (s : Int) (e : Edg) : Int := ownV s e.b - ownV s e.a
def facV (f : Fac) : Value := .agg #[.string f.name, .int .i64 f.side, .int .i64 f.foot, .int .i64 f.base, .int .i64 f.rise, .int .i64 f.run, .slice f.ca f.cs.length f.cc]

/-- What stands in a slot once a variable is made. -/
def ptrO (A : Option Nat) : Value := match A with | none => undef | some A => .pointer (some ⟨A, 0, none⟩)
def valB (b : Bool) (v : Value) : Value := match b with | true => v | false => undef
structure StS where
  c1 : Bool
  c2 : Bool
  p1 : Option Nat
  p2 : Option Nat
def StS.rd (s : StS) : List Nat :=
  (match s.c1, s.c2 with | false, _ => [3] | true, false => [7] | true, true => []) ++ ((if s.p1.isSome then [] else [8]) ++ ((if s.p2.isSome then [] else [9]) ++ (if s.c1 && (s.c2 && (s.p1.isSome && s.p2.isSome)) then [10] else [])))
theorem StS.rd_mem {s : StS} {i : Nat} (hfin : ¬ (s.c1 = true ∧ (s.c2 = true ∧ (s.p1.isSome = true ∧ s.p2.isSome = true)))) (hi : i ∈ s.rd) : (i = 3 ∧ s.c1 = false) ∨ (i = 7 ∧ s.c2 = false) ∨ (i = 8 ∧ s.p1 = none) ∨ (i = 9 ∧ s.p2 = none) := by
  obtain ⟨c1, c2, p1, p2⟩ := s
  cases c1 <;> cases c2 <;> cases p1 <;> cases p2 <;> simp [StS.rd] at hfin hi <;> simp <;> omega
theorem StS.rd_ne {s : StS} (hfin : ¬ (s.c1 = true ∧ (s.c2 = true ∧ (s.p1.isSome = true ∧ s.p2.isSome = true)))) : s.rd ≠ [] := by
  obtain ⟨c1, c2, p1, p2⟩ := s
  cases c1 <;> cases c2 <;> cases p1 <;> cases p2 <;> simp [StS.rd] at hfin ⊢
def StS.mu (s : StS) : Nat := 2 + ((if s.c1 then 0 else 1) + ((if s.c2 then 0 else 1) + ((if s.p1.isSome then 0 else 1) + (if s.p2.isSome then 0 else 1))))
/-- What holds in a state: only new memory has turned; the variables that are made hold nothing yet. -/
structure StS.holds (W : World) (t : TypeId) (z : Array Value) (s : StS) (w : World) : Prop where
  below : Below W.heap.size W w
  one : ∀ A, s.p1 = some A → W.heap.size ≤ A ∧ Blk w A z t
  two : ∀ A, s.p2 = some A → W.heap.size ≤ A ∧ Blk w A z t
  far : ∀ A B, s.p1 = some A → s.p2 = some B → A ≠ B
theorem StS.holds.call {W w w' : World} {t : TypeId} {z : Array Value} {s s' : StS} (h : s.holds W t z w) (hb : Below w.heap.size w w') (h1 : s'.p1 = s.p1) (h2 : s'.p2 = s.p2) : s'.holds W t z w' :=
  ⟨h.below.trans (hb.mono h.below.size), fun A e => ⟨(h.one A (h1 ▸ e)).1, (h.one A (h1 ▸ e)).2.belowS hb⟩, fun A e => ⟨(h.two A (h2 ▸ e)).1, (h.two A (h2 ▸ e)).2.belowS hb⟩, fun A B e f => h.far A B (h1 ▸ e) (h2 ▸ f)⟩
theorem StS.holds.new1 {W w : World} {t : TypeId} {z : Array Value} {c1 c2 : Bool} {p : Option Nat} (h : (⟨c1, c2, none, p⟩ : StS).holds W t z w) : (⟨c1, c2, some w.heap.size, p⟩ : StS).holds W t z (w.alloc (.cells z t)) :=
  ⟨h.below.alloc h.below.size _, fun A e => by cases e; exact ⟨h.below.size, Blk.new _ _ _⟩, fun A e => ⟨(h.two A e).1, (h.two A e).2.alloc _⟩, fun A B e f => by cases e; have := (h.two B f).2.lt; omega⟩
theorem StS.holds.new2 {W w : World} {t : TypeId} {z : Array Value} {c1 c2 : Bool} {p : Option Nat} (h : (⟨c1, c2, p, none⟩ : StS).holds W t z w) : (⟨c1, c2, p, some w.heap.size⟩ : StS).holds W t z (w.alloc (.cells z t)) :=
  ⟨h.below.alloc h.below.size _, fun A e => ⟨(h.one A e).1, (h.one A e).2.alloc _⟩, fun A e => by cases e; exact ⟨h.below.size, Blk.new _ _ _⟩, fun A B e f => by cases f; have := (h.one A e).2.lt; omega⟩
/-- The frame of 'seen' before its two calls. -/
def seenA (t0 t1 t2 t3 t4 f t8 t9 t10 x6 x7 x11 x12 x13 x14 x15 x16 x17 x18 : Value) : Act :=
  { tmps := #[t0, t1, t2, t3, t4, f, x6, x7, t8, t9, t10, x11, x12, x13, x14, x15, x16, x17, x18, undef, undef, undef, undef, undef, undef, undef, undef, undef, undef, undef], defers := [] }
end Go.Proofs.Ytpdgcajbdaleeaa
