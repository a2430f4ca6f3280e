/- Iterators that write cells of their own between two rounds; the patterns that fit a rod. No condition but the limits of rods that may be. -/
import Derived.Test.YtmcmhgjlpffcnaaPM
set_option linter.unusedSimpArgs false
namespace Go.Proofs.Ytmcmhgjlpffcnaa
open Go.RowKit Go.Shelf
attribute [local go_sem] Oper.semAt_some

/-! ### An iterator's contract where it may write what it has made itself -/
def SeqB {α : Type} (n : Nat) (P : Program) (g : Nat) (lb : Array Value) (encs : α → Array Value) (Kp : Nat → World → World → Prop) (S Sp : List α → Prop) (N : Nat) (w : World) : Prop :=
  ∀ (l : Nat) (J Jx : List α → World → Prop) (Jp : List PanicEntry → World → Prop) (W : World) (B : Nat), W.heap.size = B → Below w.heap.size w W → (∀ s X Y, J s X → Below B X Y → J s Y) → (∀ s X Y, Jx s X → Below B X Y → Jx s Y) →
    (∀ pre x W1, Sp (pre ++ [x]) → J pre W1 → pre.length < N → YieldAt Fence.wide (n - 1) P l (encs x) W1 fun e W' =>
      (e = .returned (.bool true) ∧ J (pre ++ [x]) W' ∧ Kp B W1 W') ∨ (e = .returned (.bool false) ∧ Jx (pre ++ [x]) W') ∨ (∃ ch, e = .panicked ch ∧ Jp ch W')) →
    J [] W →
    CallsIn Fence.wide n P g (#[.func (.yield l) #[] #[]] ++ lb) W fun e W' => ((∃ v, e = .returned v) ∧ ((∃ xs, S xs ∧ J xs W') ∨ (∃ pre, Sp pre ∧ Jx pre W'))) ∨ (∃ ch, e = .panicked ch ∧ Jp ch W')

set_option maxHeartbeats 1000000 in
theorem wpF_rangeFunc_ownB {α : Type} {n : Nat} {P : Program} {g : Operand} {ps : Array Tmp} {assign body : Code} {Q : Exit → Act → World → Prop} {a : Act} {w : World}
    {gf : Nat} {lb : Array Value} (hg : a.eval g = .func (.func gf) #[] lb) (eg : ∀ args w, (callFunc gf args).run P w = .ok (.enter gf args) w)
    {encs : α → Array Value} {Kp : Nat → World → World → Prop} {S Sp : List α → Prop} {N : Nat} {w0 : World} (hseq : SeqB (n - 1) P gf lb encs Kp S Sp N w0)
    (hKt : ∀ {A B C : World}, Kp (w.heap.size + 2) A B → Kp (w.heap.size + 2) B C → Kp (w.heap.size + 2) A C) (hKb : ∀ (W : World) (l : Nat) (o o' : Obj), w.heap.size ≤ l → W.heap[l]? = some o → o.isCells = false → o.isWalk = false → Kp (w.heap.size + 2) W (W.putObj l o')) (hb0 : Below w0.heap.size w0 w) (hps : ∀ x, (encs x).size = ps.size)
    (I : List α → World → Prop) (Ix : Code → List α → World → Prop) (Ip : List PanicEntry → World → Prop) (hI : ∀ s X Y, I s X → Below w.heap.size X Y → I s Y) (hIx : ∀ c s X Y, Ix c s X → Below w.heap.size X Y → Ix c s Y) (h0 : I [] w) (Ax : α → Act → World → Prop) (hAx : ∀ x a', OwnFrom w.heap.size (fun (_ : Unit) W => Ax x a' W))
    (hassign : ∀ (l : Nat) (pre : List α) (x : α) (W : World) (K : Act → World → Prop), I pre W → (∀ a' W', KeepsFrom w.heap.size W W' → Kp (w.heap.size + 2) W W' → I pre W' → Ax x a' W' → K a' W') →
      assign.wpIn (Fence.wide.inRound l) (n - 1 - 1) P (Exit.then K (fun _ _ _ => False)) { tmps := (ps.zip (encs x)).foldl (fun t (p, v) => t.setIfInBounds p v) a.tmps, defers := [] } W)
    (hbody : ∀ (l : Nat) (pre : List α) (x : α) (a' : Act) (W : World), w.heap.size ≤ l → (∃ r, W.heap[l]? = some (.loop r)) → Sp (pre ++ [x]) → I pre W → Ax x a' W → pre.length < N → body.wpIn (Fence.wide.inRound l) (n - 1 - 1) P (ownPostP w.heap.size (Kp (w.heap.size + 2)) I Ix Ip (pre ++ [x]) W) a' W)
    (hdone : ∀ (D : Nat) (xs : List α) (W : World), w.heap.size ≤ D → S xs → I xs W → W.heap[D]? = some (.deferred (some [])) → Q .normal { a with defers := { target := .collected D, args := #[] } :: a.defers } W)
    (hstop : ∀ (D : Nat) (c : Code) (pre : List α) (W : World), w.heap.size ≤ D → Sp pre → Ix c pre W → W.heap[D]? = some (.deferred (some [])) → c.wpIn Fence.wide n P Q { a with defers := { target := .collected D, args := #[] } :: a.defers } W)
    (hpanic : ∀ (D : Nat) (ch : List PanicEntry) (W : World), w.heap.size ≤ D → Ip ch W → W.heap[D]? = some (.deferred (some [])) → Q (.panic ch) { a with defers := { target := .collected D, args := #[] } :: a.defers } W) :
    wpF n P (Code.rangeFunc g ps assign body) Q a w := by
  refine wpF_rangeFunc (fun fn hfn => ?_)
  obtain ⟨rec, hrec⟩ : ∃ rec : LoopState → Option Code → Loop, rec = fun st pe => { state := st, pending := pe, fn, tmps := a.tmps, params := ps, assign, body, defers := w.heap.size } := ⟨_, rfl⟩
  have hrd : ∀ s p, { rec s p with state := .busy } = rec .busy p := fun s p => by rw [hrec]
  obtain ⟨W1, hW1⟩ : ∃ W1, (w.alloc (.deferred (some []))).alloc (.loop (rec .ready none)) = W1 := ⟨_, rfl⟩
  have hsz : W1.heap.size = w.heap.size + 2 := by rw [← hW1]; simp
  have hL1 : W1.heap[w.heap.size + 1]? = some (.loop (rec .ready none)) := by
    have := World.alloc_heap_new (w.alloc (.deferred (some []))) (.loop (rec .ready none))
    rwa [World.size_alloc, hW1] at this
  have hK1 : W1.heap[w.heap.size]? = some (.deferred (some [])) := by
    rw [← hW1]; exact (Below.heap_alloc _ _ _ (by simp)).trans (World.alloc_heap_new w _)
  have hI1 : I [] W1 := hI _ _ _ h0 (by rw [← hW1]; exact ((Below.refl _ w).alloc (Nat.le_refl _) _).alloc (by simp) _)
  have hb1 : Below w0.heap.size w0 W1 := by
    rw [← hW1]; exact hb0.trans ((((Below.refl _ w).alloc (Nat.le_refl _) _).alloc (by simp) _).mono hb0.size)
  -- the two blocks of book-keeping
  obtain ⟨Bk, hBk⟩ : ∃ Bk : LoopState → Option Code → World → Prop, Bk = fun st pe W => W.heap[w.heap.size + 1]? = some (.loop (rec st pe)) ∧ W.heap[w.heap.size]? = some (.deferred (some [])) := ⟨_, rfl⟩
  have bkB : ∀ {st pe} {A B : World}, Bk st pe A → Below W1.heap.size A B → Bk st pe B := by
    intro st pe A B h hb
    rw [hBk] at h ⊢
    exact ⟨(hb.block _ (by omega)).trans h.1, (hb.block _ (by omega)).trans h.2⟩
  have bkF : ∀ {st pe} {A B : World}, Bk st pe A → KeepsFrom w.heap.size A B → Bk st pe B := by
    intro st pe A B h hk
    rw [hBk] at h ⊢
    exact ⟨hk.same _ _ (by omega) h.1 rfl, hk.same _ _ (Nat.le_refl _) h.2 rfl⟩
  have bkP : ∀ {st pe} {A : World} (st' pe'), Bk st pe A → Bk st' pe' (A.putObj (w.heap.size + 1) (.loop (rec st' pe'))) := by
    intro st pe A st' pe' h
    rw [hBk] at h ⊢
    exact ⟨World.putObj_heap_same (Array.getElem?_eq_some_iff.1 h.1).1, (World.putObj_heap_other (by omega)).trans h.2⟩
  have bkl : ∀ {st pe} {A : World}, Bk st pe A → A.heap[w.heap.size + 1]? = some (.loop (rec st pe)) := by
    intro st pe A h
    rw [hBk] at h
    exact h.1
  have bkd : ∀ {st pe} {A : World}, Bk st pe A → A.heap[w.heap.size]? = some (.deferred (some [])) := by
    intro st pe A h
    rw [hBk] at h
    exact h.2
  have pO : ∀ {st pe} {A : World}, Bk st pe A → ∀ o', Below w.heap.size A (A.putObj (w.heap.size + 1) o') := fun h o' => (Below.refl _ _).grown (grownBy_putObj' _ _ _) (by have := (Array.getElem?_eq_some_iff.1 (bkl h)).1; omega) (fun k e => by cases e; omega)
  refine ⟨w.heap.size + 1, [{ target := .collected w.heap.size, args := #[] }], W1, { target := .fn (.func gf) lb, args := #[.func (.yield (w.heap.size + 1)) #[] #[]] }, W1, gf,
    #[.func (.yield (w.heap.size + 1)) #[] #[]] ++ lb, W1, ?_, ?_, ?_, ?_⟩
  · rw [← hW1, hrec]; exact run_enterLoop_outer _ _ _ _ _
  · simp only [resolve, hg]
    simp [go_sem]
  · simp [invoke, go_sem, eg]
  refine (hseq (w.heap.size + 1) (fun pre W => I pre W ∧ Bk .ready none W) (fun pre W => ∃ c, Ix c pre W ∧ Bk .done (some c) W) (fun ch W => Ip ch W ∧ W.heap[w.heap.size]? = some (.deferred (some []))) W1 (w.heap.size + 2) hsz hb1
    (fun s A B hs hb => ⟨hI s A B hs.1 (hb.mono (by omega)), bkB hs.2 (by rw [hsz]; exact hb)⟩)
    (fun s A B hs hb => by
      obtain ⟨c, hc, hk⟩ := hs
      exact ⟨c, hIx c s A B hc (hb.mono (by omega)), bkB hk (by rw [hsz]; exact hb)⟩)
    ?_ ⟨hI1, by rw [hBk]; exact ⟨hL1, hK1⟩⟩).mono ?_
  · rintro pre x W hsp ⟨hi, hk⟩ hlen
    have hy := run_yield (P := P) (args := encs x) (bkl hk) (by rw [hrec]; exact hps x)
    rw [hrec] at hy
    refine ⟨fn, _, assign, body, hy, roundIn_panic hfn (hassign _ pre x W _ hi ?_)⟩
    clear hy
    intro a' Wa hkfa hkpa hia hax
    have hka := bkF hk hkfa
    have hk2 := bkP .busy none hka
    refine ⟨_, run_beginRound (bkl hka) (by rw [hrec]), ?_⟩
    rw [hrd]
    have hw2 : Kp (w.heap.size + 2) Wa (Wa.putObj (w.heap.size + 1) (.loop (rec .busy none))) := hKb _ _ _ _ (by omega) (bkl hka) rfl rfl
    refine wpIn_mono (hbody _ pre x a' _ (by omega) ⟨_, bkl hk2⟩ hsp (hI _ _ _ hia (pO hka _)) ((hAx x a').putObj (s := ()) _ hax (by omega) (bkl hka) rfl) hlen) ?_
    have fin : ∀ (jump : Option Code) (W3 : World), KeepsFrom w.heap.size (Wa.putObj (w.heap.size + 1) (.loop (rec .busy none))) W3 →
        (Instr.endRound (w.heap.size + 1) jump).run P W3 = .ok (.bool jump.isNone) (W3.putObj (w.heap.size + 1) (.loop (rec (if jump.isNone then .ready else .done) jump))) ∧ Bk .busy none W3 := fun jump W3 hk3 => by
      have h3 := bkF hk2 hk3
      have := run_endRound (P := P) jump (bkl h3)
      rw [hrec] at this ⊢
      exact ⟨this, h3⟩
    rintro e a3 W3 hp
    cases e with
    | normal =>
      obtain ⟨hk3, hkp3, hi3⟩ := hp
      obtain ⟨hr, h3⟩ := fin none W3 hk3
      exact ⟨_, _, hr, .inl ⟨rfl, ⟨hI _ _ _ hi3 (pO h3 _), bkP _ _ h3⟩, hKt hkpa (hKt (hKt hw2 hkp3) (hKb _ _ _ _ (by omega) (bkl h3) rfl rfl))⟩⟩
    | ret =>
      obtain ⟨hr, h3⟩ := fin (some .ret) W3 hp.1
      exact ⟨_, _, hr, .inr (.inl ⟨rfl, .ret, hIx _ _ _ _ hp.2 (pO h3 _), bkP _ _ h3⟩)⟩
    | exit id =>
      obtain ⟨hr, h3⟩ := fin (some (.exit id)) W3 hp.1
      exact ⟨_, _, hr, .inr (.inl ⟨rfl, .exit id, hIx _ _ _ _ hp.2 (pO h3 _), bkP _ _ h3⟩)⟩
    | goto t =>
      obtain ⟨hr, h3⟩ := fin (some (.goto t)) W3 hp.1
      exact ⟨_, _, hr, .inr (.inl ⟨rfl, .goto t, hIx _ _ _ _ hp.2 (pO h3 _), bkP _ _ h3⟩)⟩
    | panic ch => exact ⟨hp.1, .inr (.inr ⟨ch, rfl, hp.2.2, bkd (bkF hk2 hp.2.1)⟩)⟩
    | outgrown => exact hp.elim
  · rintro e W2 (⟨⟨v, rfl⟩, (⟨xs, hS, hi, hk⟩ | ⟨pre, hSp, c, hi, hk⟩)⟩ | ⟨ch, rfl, hp, hk⟩)
    · have hr := run_endLoop (P := P) (bkl hk) (by rw [hrec]; simp)
      rw [hrec] at hr
      have hk' := bkP .exhausted none hk
      rw [hrec] at hk'
      exact ⟨none, _, hr, hdone _ xs _ (Nat.le_refl _) hS (hI _ _ _ hi (pO hk _)) (bkd hk')⟩
    · have hr := run_endLoop (P := P) (bkl hk) (by rw [hrec]; simp)
      rw [hrec] at hr
      have hk' := bkP .exhausted (some c) hk
      rw [hrec] at hk'
      exact ⟨some c, _, hr, hstop _ c pre _ (Nat.le_refl _) hSp (hIx c _ _ _ hi (pO hk _)) (bkd hk')⟩
    · exact hpanic _ ch _ (Nat.le_refl _) hp hk

end Go.Proofs.Ytmcmhgjlpffcnaa
