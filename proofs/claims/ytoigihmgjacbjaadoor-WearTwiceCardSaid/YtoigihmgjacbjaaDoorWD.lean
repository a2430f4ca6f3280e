/- The law of a loop over the sides of an outline. No condition. -/
import Derived.Test.YtoigihmgjacbjaaDoorWC
namespace Go.Proofs.YtoigihmgjacbjaaDoor
section
open Go.RowKit Go.Shelf
attribute [local go_sem] Oper.semAt_some

def pntC (p : Pnt) : Array Value := #[.int .i64 p.x, .int .i64 p.y]

/-- **'for from, to := range plane.Around(outline) { .. }'**, both points in boxes of their own. -/
theorem around_law {n : Nat} (hn : 3 ≤ n) {g : Operand} {ps : Array Tmp} {assign body : Code} {Q : Exit → Act → World → Prop} {a : Act} {w : World} {Bs : Nat}
    (hg : a.eval g = .func (.func 99) #[] #[.pointer (some ⟨Bs, 0, none⟩)]) (S : Nat → Prop) {sv : Value} (l : List Pnt) (hl : l.length ≤ 1000) (hBs : S Bs) (hS : ∀ k, S k → k < w.heap.size)
    (hc : w.cell? ⟨Bs, 0, none⟩ = some sv) (hsv : ((∃ a c, sv = .slice a 0 c) ∧ l = []) ∨ ∃ b off cap, sv = .slice (some ⟨b, off, none⟩) l.length cap ∧ S b ∧ PtsAt w b off l) (hps : ps.size = 2)
    (I : List (Fin l.length) → World → Prop) (Ix : Code → List (Fin l.length) → World → Prop) (hI : OwnFrom w.heap.size I) (hIx : ∀ c, OwnFrom w.heap.size (Ix c)) (h0 : I [] w) (A : Fin l.length → Nat → Act)
    (hassign : ∀ (L : Nat) (x : Fin l.length) (W : World) (K : Act → World → Prop), K (A x W.heap.size) ((W.alloc (.cells (pntC (edgN l x.1).a) 45)).alloc (.cells (pntC (edgN l x.1).b) 45)) →
      assign.wpIn (Fence.wide.inRound L) (n - 1 - 1) Tryd.prog (Exit.then K (fun _ _ _ => False)) { tmps := (ps.zip (encP l x)).foldl (fun t (p, v) => t.setIfInBounds p v) a.tmps, defers := [] } W)
    (hbody : ∀ (L : Nat) (pre : List (Fin l.length)) (x : Fin l.length) (Bx : Nat) (W : World), w.heap.size ≤ Bx → w.heap.size ≤ W.heap.size → Blk W Bx (pntC (edgN l x.1).a) 45 → Blk W (Bx + 1) (pntC (edgN l x.1).b) 45 → I pre W → pre.length < l.length →
      body.wpIn (Fence.wide.inRound L) (n - 1 - 1) Tryd.prog (ownPostG w.heap.size (Keeps S) I Ix (pre ++ [x]) W) (A x Bx) W)
    (hdone : ∀ (D : Nat) (W : World), w.heap.size ≤ D → I (List.finRange l.length) W → W.heap[D]? = some (.deferred (some [])) → Q .normal { a with defers := { target := .collected D, args := #[] } :: a.defers } W)
    (hstop : ∀ (D : Nat) (c : Code) (k : Nat) (W : World), w.heap.size ≤ D → k ≤ l.length → Ix c ((List.finRange l.length).take k) W → W.heap[D]? = some (.deferred (some [])) → c.wpIn Fence.wide n Tryd.prog Q { a with defers := { target := .collected D, args := #[] } :: a.defers } W) :
    (Code.rangeFunc g ps assign body).wpIn Fence.wide n Tryd.prog Q a w := by
  refine wpIn_rangeFunc_ownH rfl (by omega) (gf := 99) (lb := #[.pointer (some ⟨Bs, 0, none⟩)]) hg trivial (enters_of Tryd.func99 (by kernel_rfl) rfl)
    (around_stops (n - 1) (by omega) Bs S sv l hl w hBs hS hc hsv) (fun h k => h.trans k) (keeps_b hS) (Below.refl _ _) (fun _ => by rw [hps]; rfl)
    (fun pre W => I pre W ∧ w.heap.size ≤ W.heap.size) Ix (hI.and (fun _ _ _ _ hs hg _ => Nat.le_trans hs hg.size)) hIx ⟨h0, Nat.le_refl _⟩ (fun x a' W => ∃ Bx, w.heap.size ≤ Bx ∧ Blk W Bx (pntC (edgN l x.1).a) 45 ∧ Blk W (Bx + 1) (pntC (edgN l x.1).b) 45 ∧ a' = A x Bx)
    (fun x a' s X Y row hs hg hr => by obtain ⟨Bx, h1, h2, h4, h3⟩ := hs; exact ⟨Bx, h1, own_blk w.heap.size Bx _ (fun _ : Unit => pntC (edgN l x.1).a) () X Y row h2 hg hr, own_blk w.heap.size (Bx + 1) _ (fun _ : Unit => pntC (edgN l x.1).b) () X Y row h4 hg hr, h3⟩)
    ?assign ?body ?done ?stop
  case assign =>
    intro L pre x W K hi hK
    refine hassign L x W K (hK _ _ (((KeepsOthers.alloc _ _).trans (KeepsOthers.alloc _ _)).from _) ⟨by simp; omega, fun k hk => ?_⟩ ⟨hI.alloc _ (hI.alloc _ hi.1), by have := hi.2; simp; omega⟩ ⟨W.heap.size, hi.2, (Blk.new _ _ _).alloc _, ?_, rfl⟩)
    · have hk' : k < W.heap.size := Nat.lt_of_lt_of_le (hS k hk) hi.2
      exact (Below.heap_alloc _ _ _ (by simp; omega)).trans (Below.heap_alloc _ _ _ hk')
    · have := Blk.new (W.alloc (.cells (pntC (edgN l x.1).a) 45)) 45 (pntC (edgN l x.1).b)
      rwa [World.size_alloc] at this
  case body =>
    rintro L pre x a' W hl' hr hi ⟨Bx, h1, h2, h4, rfl⟩ hlt
    refine wpIn_mono (hbody L pre x Bx W h1 hi.2 h2 h4 hi.1 hlt) ?_
    rintro e a3 W3 hp
    cases e with
    | normal => exact ⟨hp.1, hp.2.1, hp.2.2, Nat.le_trans hi.2 hp.1.size⟩
    | ret => exact hp
    | exit id => exact hp
    | goto t => exact hp
    | panic ch => exact hp
    | outgrown => exact hp
  case done =>
    rintro D xs W hD rfl hi hK
    exact hdone D W hD hi.1 hK
  case stop =>
    rintro D c pre W hD ⟨k, hk, rfl⟩ hi hK
    exact hstop D c k W hD hk hi hK
end
end Go.Proofs.YtoigihmgjacbjaaDoor
