/- Chores one behind the other: mathematics, chores in memory, how many parts there are. -/
import Derived.Test.YtmnfapdfdpglgaaKG
set_option linter.unusedSimpArgs false
namespace Go.Proofs.Ytmnfapdfdpglgaa
open Go.RowKit

def ChrAt (w : World) (b o : Nat) (x : Chr) : Prop :=
  (w.cell? ⟨b, o, none⟩ = some (.int .i64 x.kind) ∧ w.cell? ⟨b, o + 1, none⟩ = some (.int .i64 x.plot) ∧ w.cell? ⟨b, o + 2, none⟩ = some (.int .i64 x.loads) ∧ w.cell? ⟨b, o + 3, none⟩ = some (.string x.name) ∧ w.cell? ⟨b, o + 4, none⟩ = some (.string x.other) ∧
    w.cell? ⟨b, o + 5, none⟩ = some (.int .i64 x.days) ∧ w.cell? ⟨b, o + 6, none⟩ = some (.int .i64 x.per) ∧ w.cell? ⟨b, o + 7, none⟩ = some (.int .i64 x.rlo) ∧ w.cell? ⟨b, o + 8, none⟩ = some (.int .i64 x.rhi)) ∧ x.name.size ≤ maxLen ∧ x.other.size ≤ maxLen
abbrev IsChrs (w : World) (a : Option Addr) (c : Nat) (l : List Chr) : Prop := IsRow 9 ChrAt w a c l
theorem ChrAt.keep {w w' : World} (hb : Below w.heap.size w w') (b o : Nat) (x : Chr) (hl : b < w.heap.size) (h : ChrAt w b o x) : ChrAt w' b o x := by
  have c : ∀ i, w'.cell? ⟨b, i, none⟩ = w.cell? ⟨b, i, none⟩ := fun i => hb.cell (p := ⟨b, i, none⟩) hl
  obtain ⟨⟨h0, h1, h2, h3, h4, h5, h6, h7, h8⟩, hn⟩ := h
  exact ⟨⟨(c _).trans h0, (c _).trans h1, (c _).trans h2, (c _).trans h3, (c _).trans h4, (c _).trans h5, (c _).trans h6, (c _).trans h7, (c _).trans h8⟩, hn⟩
theorem IsChrs.belowS {w w' : World} {a : Option Addr} {c : Nat} {l : List Chr} (h : IsChrs w a c l) (hb : Below w.heap.size w w') : IsChrs w' a c l := IsRow.below h hb (ChrAt.keep hb)

/-- Chores in order: the store, how many are done, the first error. -/
def runL (F : Frm) : Sto → List Chr → Sto × Nat × Int
  | S, [] => (S, 0, 0)
  | S, a :: l => if (doD F S a).1 = 0 then ((runL F (doD F S a).2 l).1, (runL F (doD F S a).2 l).2.1 + 1, (runL F (doD F S a).2 l).2.2) else (S, 0, (doD F S a).1)
def runD (F : Frm) (S : Sto) (l : List Chr) : Sto × Nat × Int := if ¬ storeE F S = 0 then (emptyS, 0, storeE F S) else if 200 < l.length then (emptyS, 0, 3) else runL F S l
/-- All chores of a list are done. -/
def allD (F : Frm) (S : Sto) (l : List Chr) (T : Sto) : Prop := runL F S l = (T, l.length, 0)
theorem allD_nil (F : Frm) (S : Sto) : allD F S [] S := rfl
theorem allD_snoc {F : Frm} {S T : Sto} {l : List Chr} {a : Chr} (h : allD F S l T) (ha : (doD F T a).1 = 0) : allD F S (l ++ [a]) (doD F T a).2 := by
  unfold allD at h ⊢
  induction l generalizing S with
  | nil => cases h; simp only [List.nil_append, runL, if_pos ha]; rfl
  | cons b l ih =>
    simp only [runL] at h
    split at h
    · next hb =>
      simp only [Prod.mk.injEq, List.length_cons, Nat.add_right_cancel_iff] at h
      have h2 := ih (S := (doD F S b).2) (by rw [← h.1, ← h.2.1, ← h.2.2])
      simp only [List.cons_append, runL, if_pos hb, h2]
      simp
    · simp at h
theorem runL_done {F : Frm} {S T : Sto} {l m : List Chr} (h : allD F S l T) : runL F S (l ++ m) = ((runL F T m).1, l.length + (runL F T m).2.1, (runL F T m).2.2) := by
  unfold allD at h
  induction l generalizing S with
  | nil => cases h; simp
  | cons b l ih =>
    simp only [runL] at h
    split at h
    · next hb =>
      simp only [Prod.mk.injEq, List.length_cons, Nat.add_right_cancel_iff] at h
      have h2 := ih (S := (doD F S b).2) (by rw [← h.1, ← h.2.1, ← h.2.2])
      simp only [List.cons_append, runL, if_pos hb, h2, List.length_cons]
      refine Prod.ext rfl (Prod.ext ?_ rfl)
      show l.length + (runL F T m).2.1 + 1 = l.length + 1 + (runL F T m).2.1
      omega
    · simp at h

/-- How many parts and heaps there are. -/
def ptot : List Hep → Nat
  | [] => 0
  | h :: l => h.parts.length + 1 + ptot l
def tot (S : Sto) : Nat := S.used.length + S.waste.length + ptot S.heaps
theorem ptot_append (l m : List Hep) : ptot (l ++ m) = ptot l + ptot m := by
  induction l with
  | nil => simp [ptot]
  | cons h l ih => simp only [List.cons_append, ptot, ih]; omega
theorem ptot_set (l : List Hep) : ∀ (i : Nat) (x y : Hep), l[i]? = some x → ptot (l.set i y) + x.parts.length = ptot l + y.parts.length := by
  induction l with
  | nil => intro i x y h; simp at h
  | cons h l ih =>
    intro i x y hx
    cases i with
    | zero => obtain rfl : h = x := by simpa using hx
              simp only [List.set_cons_zero, ptot]; omega
    | succ i => have := ih i x y (by simpa using hx); simp only [List.set_cons_succ, ptot]; omega
theorem ptot_erase (l : List Hep) : ∀ (i : Nat) (x : Hep), l[i]? = some x → ptot (l.eraseIdx i) + x.parts.length + 1 = ptot l := by
  induction l with
  | nil => intro i x h; simp at h
  | cons h l ih =>
    intro i x hx
    cases i with
    | zero => obtain rfl : h = x := by simpa using hx
              simp only [List.eraseIdx_cons_zero, ptot]; omega
    | succ i => have := ih i x (by simpa using hx); simp only [List.eraseIdx_cons_succ, ptot]; omega
theorem ptot_fit {S : Sto} (h : tot S ≤ 1000) : S.fit := by
  unfold tot at h
  have key : ∀ l : List Hep, l.length ≤ ptot l ∧ ∀ x ∈ l, x.parts.length ≤ ptot l := fun l => by
    induction l with
    | nil => simp
    | cons y l ih =>
      refine ⟨by simp only [List.length_cons, ptot]; omega, fun x hx => ?_⟩
      rcases List.mem_cons.1 hx with rfl | hx
      · simp only [ptot]; omega
      · have := ih.2 x hx; simp only [ptot]; omega
  obtain ⟨k1, k2⟩ := key S.heaps
  exact ⟨by omega, by omega, by omega, fun x hx => by have := k2 x hx; omega⟩
theorem cut_lens {l : List Prt} (h : ∀ p ∈ l, 1 ≤ p.loads) : ∀ {n : Int}, 0 ≤ n → (cutT n l).length + (cutR n l).length ≤ l.length + 1 ∧ (n = 0 → (cutT n l).length = 0) := by
  induction l with
  | nil => intro n _; simp [cutT, cutR]
  | cons p l ih =>
    intro n hn
    have hp := h p (by simp)
    have ih := fun m => @ih (fun q hq => h q (by simp [hq])) m
    have hr := cutR_len l
    simp only [cutT, cutR, List.length_append, List.length_cons]
    refine ⟨?_, fun h0 => ?_⟩
    · by_cases h1 : n < p.loads
      · have e1 : min n p.loads = n := by omega
        rw [e1, Int.sub_self]
        have h2 := (ih 0 (by omega)).2 rfl
        have h3 := hr 0
        rw [if_pos h1]
        split <;> simp <;> omega
      · have e1 : min n p.loads = p.loads := by omega
        rw [e1]
        have h2 := (ih (n - p.loads) (by omega)).1
        rw [if_pos (by omega), if_neg (by omega)]
        simp; omega
    · subst h0
      have e1 : min (0 : Int) p.loads = 0 := by omega
      rw [e1, if_neg (by omega)]
      simpa using (ih (0 - 0) (by omega)).2 (by omega)
theorem ptot_move {l : List Hep} {i : Nat} {x : Hep} {n : Int} (hx : l[i]? = some x) (h : ∀ p ∈ x.parts, 1 ≤ p.loads) (hn : 0 ≤ n) : ptot (moveH l i n) + (cutT n x.parts).length ≤ ptot l + 1 := by
  have h1 := (cut_lens h hn).1
  unfold moveH
  rw [hx]
  simp only
  split
  · next e =>
    have := ptot_erase l i x hx
    rw [e] at h1
    simp at h1
    omega
  · have := ptot_set l i x { x with parts := cutR n x.parts } hx
    simp only at this
    omega
theorem putL_le (l m : List Prt) : (putL l m).length ≤ l.length + m.length := putL_len l m
end Go.Proofs.Ytmnfapdfdpglgaa
