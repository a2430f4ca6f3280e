/- The range over edges: with the loop's record told; and within a round of another one. -/
import Derived.Test.YtdjeoheoohacnaaG
namespace Go.Proofs.Ytdjeoheoohacnaa
open Go.RowKit Go.Shelf
attribute [local go_sem] Oper.semAt_some

/-- **'for k, e := range walk(corners) { .. }'**, the edge in a box of its own. -/
theorem walk_law2 {n : Nat} (hn : 3 ≤ n) {g : Operand} {ps : Array Tmp} {assign body : Code} {Q : Exit → Act → World → Prop} {a : Act} {w : World} {Bs : Nat}
    (hg : a.eval g = .func (.func 87) #[] #[.pointer (some ⟨Bs, 0, none⟩)]) (S : Nat → Prop) {sv : Value} (l : List Pnt) (hl : l.length ≤ 1000) (hBs : S Bs) (hS : ∀ k, S k → k < w.heap.size)
    (hc : w.cell? ⟨Bs, 0, none⟩ = some sv) (hsv : ((∃ a c, sv = .slice a 0 c) ∧ l = []) ∨ ∃ b off cap, sv = .slice (some ⟨b, off, none⟩) l.length cap ∧ S b ∧ PtsAt w b off l) (hps : ps.size = 2)
    (I : List (Fin l.length) → World → Prop) (Ix : Code → List (Fin l.length) → World → Prop) (hI : OwnFrom w.heap.size I) (hIx : ∀ c, OwnFrom w.heap.size (Ix c)) (h0 : I [] w) (A : Fin l.length → Nat → Act)
    (hassign : ∀ (L : Nat) (x : Fin l.length) (W : World) (K : Act → World → Prop), K (A x W.heap.size) (W.alloc (.cells (edgC (edgN l x.1)) 104)) →
      assign.wpIn (Fence.wide.inRound L) (n - 1 - 1) Try.prog (Exit.then K (fun _ _ _ => False)) { tmps := (ps.zip (encE l x)).foldl (fun t (p, v) => t.setIfInBounds p v) a.tmps, defers := [] } W)
    (hbody : ∀ (L : Nat) (pre : List (Fin l.length)) (x : Fin l.length) (Bx : Nat) (W : World), w.heap.size ≤ L → (∃ r, W.heap[L]? = some (.loop r)) → w.heap.size ≤ Bx → w.heap.size ≤ W.heap.size → Blk W Bx (edgC (edgN l x.1)) 104 → I pre W → pre.length < l.length →
      body.wpIn (Fence.wide.inRound L) (n - 1 - 1) Try.prog (ownPostG w.heap.size (Keeps S) I Ix (pre ++ [x]) W) (A x Bx) W)
    (hdone : ∀ (D : Nat) (W : World), w.heap.size ≤ D → I (List.finRange l.length) W → W.heap[D]? = some (.deferred (some [])) → Q .normal { a with defers := { target := .collected D, args := #[] } :: a.defers } W)
    (hstop : ∀ (D : Nat) (c : Code) (k : Nat) (W : World), w.heap.size ≤ D → k ≤ l.length → Ix c ((List.finRange l.length).take k) W → W.heap[D]? = some (.deferred (some [])) → c.wpIn Fence.wide n Try.prog Q { a with defers := { target := .collected D, args := #[] } :: a.defers } W) :
    (Code.rangeFunc g ps assign body).wpIn Fence.wide n Try.prog Q a w := by
  refine wpIn_rangeFunc_ownH rfl (by omega) (gf := 87) (lb := #[.pointer (some ⟨Bs, 0, none⟩)]) hg trivial (enters_of Try.func87 (by kernel_rfl) rfl)
    (walk_stops (n - 1) (by omega) Bs S sv l hl w hBs hS hc hsv) (fun h k => h.trans k) (keeps_b hS) (Below.refl _ _) (fun _ => by rw [hps]; rfl)
    (fun pre W => I pre W ∧ w.heap.size ≤ W.heap.size) Ix (hI.and (fun _ _ _ _ hs hg _ => Nat.le_trans hs hg.size)) hIx ⟨h0, Nat.le_refl _⟩ (fun x a' W => ∃ Bx, w.heap.size ≤ Bx ∧ Blk W Bx (edgC (edgN l x.1)) 104 ∧ a' = A x Bx)
    (fun x a' s X Y row hs hg hr => by obtain ⟨Bx, h1, h2, h3⟩ := hs; exact ⟨Bx, h1, own_blk w.heap.size Bx _ (fun _ : Unit => edgC (edgN l x.1)) () X Y row h2 hg hr, h3⟩)
    ?assign ?body ?done ?stop
  case assign =>
    intro L pre x W K hi hK
    exact hassign L x W K (hK _ _ ((KeepsOthers.alloc _ _).from _) ⟨by simp, fun k hk => Below.heap_alloc _ _ _ (Nat.lt_of_lt_of_le (hS k hk) hi.2)⟩ ⟨hI.alloc _ hi.1, by have := hi.2; simp; omega⟩ ⟨W.heap.size, hi.2, Blk.new _ _ _, rfl⟩)
  case body =>
    rintro L pre x a' W hl' hr hi ⟨Bx, h1, h2, rfl⟩ hlt
    refine wpIn_mono (hbody L pre x Bx W hl' hr h1 hi.2 h2 hi.1 hlt) ?_
    rintro e a3 W3 hp
    cases e with
    | normal => exact ⟨hp.1, hp.2.1, hp.2.2, Nat.le_trans hi.2 hp.1.size⟩
    | ret => exact hp
    | exit id => exact hp
    | goto t => exact hp
    | panic ch => exact hp
    | outgrown => exact hp
  case done =>
    rintro D xs W hD rfl hi hK
    exact hdone D W hD hi.1 hK
  case stop =>
    rintro D c pre W hD ⟨k, hk, rfl⟩ hi hK
    exact hstop D c k W hD hk hi hK

/-- **'for k, e := range walk(corners) { .. }'**, the edge in a box of its own. -/
theorem walk_lawN {L₀ : Nat} {r₀ : Loop} {n : Nat} (hn : 3 ≤ n) {g : Operand} {ps : Array Tmp} {assign body : Code} {Q : Exit → Act → World → Prop} {a : Act} {w : World} {Bs : Nat} (hr₀ : w.heap[L₀]? = some (.loop r₀))
    (hg : a.eval g = .func (.func 87) #[] #[.pointer (some ⟨Bs, 0, none⟩)]) (S : Nat → Prop) {sv : Value} (l : List Pnt) (hl : l.length ≤ 1000) (hBs : S Bs) (hS : ∀ k, S k → k < w.heap.size)
    (hc : w.cell? ⟨Bs, 0, none⟩ = some sv) (hsv : ((∃ a c, sv = .slice a 0 c) ∧ l = []) ∨ ∃ b off cap, sv = .slice (some ⟨b, off, none⟩) l.length cap ∧ S b ∧ PtsAt w b off l) (hps : ps.size = 2)
    (I : List (Fin l.length) → World → Prop) (Ix : Code → List (Fin l.length) → World → Prop) (hI : OwnFrom w.heap.size I) (hIx : ∀ c, OwnFrom w.heap.size (Ix c)) (h0 : I [] w) (A : Fin l.length → Nat → Act)
    (hassign : ∀ (L : Nat) (x : Fin l.length) (W : World) (K : Act → World → Prop), K (A x W.heap.size) (W.alloc (.cells (edgC (edgN l x.1)) 104)) →
      assign.wpIn ((Fence.wide.inRound L₀).inRound L) (n - 1 - 1) Try.prog (Exit.then K (fun _ _ _ => False)) { tmps := (ps.zip (encE l x)).foldl (fun t (p, v) => t.setIfInBounds p v) a.tmps, defers := [] } W)
    (hbody : ∀ (L : Nat) (pre : List (Fin l.length)) (x : Fin l.length) (Bx : Nat) (W : World), w.heap.size ≤ Bx → w.heap.size ≤ W.heap.size → Blk W Bx (edgC (edgN l x.1)) 104 → I pre W → pre.length < l.length →
      body.wpIn ((Fence.wide.inRound L₀).inRound L) (n - 1 - 1) Try.prog (ownPostG w.heap.size (Keeps S) I Ix (pre ++ [x]) W) (A x Bx) W)
    (hdone : ∀ (W : World), I (List.finRange l.length) W → Q .normal a W)
    (hstop : ∀ (c : Code) (k : Nat) (W : World), k ≤ l.length → Ix c ((List.finRange l.length).take k) W → c.wpIn (Fence.wide.inRound L₀) n Try.prog Q a W) :
    (Code.rangeFunc g ps assign body).wpIn (Fence.wide.inRound L₀) n Try.prog Q a w := by
  refine wpIn_rangeFunc_ownN (l₀ := L₀) (r₀ := r₀) rfl hr₀ (by omega) (gf := 87) (lb := #[.pointer (some ⟨Bs, 0, none⟩)]) hg trivial (enters_of Try.func87 (by kernel_rfl) rfl)
    ((walk_stops (n - 1) (by omega) Bs S sv l hl w hBs hS hc hsv).inRound L₀) (fun h k => h.trans k) (keeps_b hS) (Below.refl _ _) (fun _ => by rw [hps]; rfl)
    (fun pre W => I pre W ∧ w.heap.size ≤ W.heap.size) Ix (hI.and (fun _ _ _ _ hs hg _ => Nat.le_trans hs hg.size)) hIx ⟨h0, Nat.le_refl _⟩ (fun x a' W => ∃ Bx, w.heap.size ≤ Bx ∧ Blk W Bx (edgC (edgN l x.1)) 104 ∧ a' = A x Bx)
    (fun x a' s X Y row hs hg hr => by obtain ⟨Bx, h1, h2, h3⟩ := hs; exact ⟨Bx, h1, own_blk w.heap.size Bx _ (fun _ : Unit => edgC (edgN l x.1)) () X Y row h2 hg hr, h3⟩)
    ?assign ?body ?done ?stop
  case assign =>
    intro L pre x W K hi hK
    exact hassign L x W K (hK _ _ ((KeepsOthers.alloc _ _).from _) ⟨by simp, fun k hk => Below.heap_alloc _ _ _ (Nat.lt_of_lt_of_le (hS k hk) hi.2)⟩ ⟨hI.alloc _ hi.1, by have := hi.2; simp; omega⟩ ⟨W.heap.size, hi.2, Blk.new _ _ _, rfl⟩)
  case body =>
    rintro L pre x a' W _ _ hi ⟨Bx, h1, h2, rfl⟩ hlt
    refine wpIn_mono (hbody L pre x Bx W h1 hi.2 h2 hi.1 hlt) ?_
    rintro e a3 W3 hp
    cases e with
    | normal => exact ⟨hp.1, hp.2.1, hp.2.2, Nat.le_trans hi.2 hp.1.size⟩
    | ret => exact hp
    | exit id => exact hp
    | goto t => exact hp
    | panic ch => exact hp
    | outgrown => exact hp
  case done =>
    rintro xs W rfl hi
    exact hdone W hi.1
  case stop =>
    rintro c pre W ⟨k, hk, rfl⟩ hi
    exact hstop c k W hk hi

/-! ### Points and edges compared -/
theorem run_equalIn_at (d : Nat) (p q : Pnt) (w : World) : (Op.equalIn (d + 2) 27 (.agg #[.int .i64 p.x, .int .i64 p.y]) (.agg #[.int .i64 q.x, .int .i64 q.y])).run Try.prog w = .ok (decide (p = q)) w := by
  rw [run_equalIn_struct w (d + 1) 27 _ _ (by kernel_rfl) (by kernel_rfl)]
  obtain ⟨px, py⟩ := p
  obtain ⟨qx, qy⟩ := q
  by_cases h1 : px = qx <;> by_cases h2 : py = qy
  all_goals simp [Program.fieldsOf, Try.underlying27, Op.eqFields, go_sem, h1, h2]
theorem run_equalIn_edge (d : Nat) (e o : Edg) (w : World) : (Op.equalIn (d + 3) 104 (.agg (edgC e)) (.agg (edgC o))).run Try.prog w = .ok (decide (e = o)) w := by
  rw [run_equalIn_struct w (d + 2) 104 _ _ (by kernel_rfl) (by kernel_rfl)]
  obtain ⟨p, q⟩ := e
  obtain ⟨p', q'⟩ := o
  have h1 := run_equalIn_at d p p'
  have h2 := run_equalIn_at d q q'
  by_cases e1 : p = p' <;> by_cases e2 : q = q'
  all_goals simp [Program.fieldsOf, Try.underlying104, Op.eqFields, edgC, go_sem, h1, h2, e1, e2]
theorem run_neq_edge (e o : Edg) (w : World) : (binOp .neq 104 (.agg (edgC e)) (.agg (edgC o))).run Try.prog w = .ok (.bool (decide (e ≠ o))) w := by
  simp [binOp, Op.equal, Op.maxDepth, run_equalIn_edge 9997]
theorem run_eql_edge (e o : Edg) (w : World) : (binOp .eql 104 (.agg (edgC e)) (.agg (edgC o))).run Try.prog w = .ok (.bool (decide (e = o))) w := by
  simp [binOp, Op.equal, Op.maxDepth, run_equalIn_edge 9997]
theorem run_eql_at (e o : Pnt) (w : World) : (binOp .eql 27 (.agg #[.int .i64 e.x, .int .i64 e.y]) (.agg #[.int .i64 o.x, .int .i64 o.y])).run Try.prog w = .ok (.bool (decide (e = o))) w := by
  simp [binOp, Op.equal, Op.maxDepth, run_equalIn_at 9998]
end Go.Proofs.Ytdjeoheoohacnaa
