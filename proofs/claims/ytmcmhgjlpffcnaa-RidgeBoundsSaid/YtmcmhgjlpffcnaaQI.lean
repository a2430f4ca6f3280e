/- Rows of numbers that are made by appends. No condition. -/
import Derived.Test.YtmcmhgjlpffcnaaQH
set_option linter.unusedSimpArgs false
namespace Go.Proofs.Ytmcmhgjlpffcnaa
open Go.RowKit

theorem info_int : ∃ i, (Try.prog : Program).info? 3 = some i ∧ i.zero = some (.int .i64 0) ∧ i.size = 1 ∧ i.bytes = 8 := by
  have h : ((Try.prog : Program).info? 3).map (fun i => (i.zero, i.size, i.bytes)) = some (some (.int .i64 0), 1, 8) := by kernel_rfl
  obtain ⟨i, h1, h2⟩ := Option.map_eq_some_iff.1 h
  simp only [Prod.mk.injEq] at h2
  exact ⟨i, h1, h2.1, h2.2.1, h2.2.2⟩
theorem flat_at {α : Type} (f : α → List Value) (n : Nat) (hf : ∀ x, (f x).length = n) (l : List α) : ∀ (j i : Nat) (x : α), l[j]? = some x → i < n → (l.flatMap f)[j * n + i]? = (f x)[i]? := by
  induction l with
  | nil => intro j i x h _; simp at h
  | cons y l ih =>
    intro j i x h hi
    cases j with
    | zero =>
      obtain rfl : y = x := by simpa using h
      rw [List.flatMap_cons, List.getElem?_append_left (by rw [hf]; omega)]
      simp
    | succ j =>
      rw [List.flatMap_cons, List.getElem?_append_right (by rw [hf, Nat.succ_mul]; omega), hf, show (j + 1) * n + i - n = j * n + i by rw [Nat.succ_mul]; omega]
      exact ih j i x (by simpa using h) hi
/-- The cells of a row that was made by appends of whole elements. -/
theorem row_at {α : Type} (f : α → List Value) (n : Nat) (hf : ∀ x, (f x).length = n) {w : World} {base : Nat} {t : TypeId} {v : Value} {l : List α} (h : w.ownsRow base t n v l.length (l.flatMap f)) :
    (v = .slice none 0 0 ∧ l = []) ∨ ∃ g cap, v = .slice (some ⟨g, 0, none⟩) l.length cap ∧ base ≤ g ∧ g < w.heap.size ∧ l.length ≤ cap ∧ cap ≤ 9223372036854775807 ∧ ∀ j x, l[j]? = some x → ∀ i, i < n → w.cell? ⟨g, j * n + i, none⟩ = (f x)[i]? := by
  rcases h.2 with ⟨rfl, h0⟩ | ⟨g, cap, cur, hv, hb, hg, h1, h2, h3, h4⟩
  · exact .inl ⟨rfl, List.eq_nil_of_length_eq_zero h0⟩
  · refine .inr ⟨g, cap, hv, hb, (Array.getElem?_eq_some_iff.1 hg).1, h1, by unfold maxLen at h2; omega, fun j x hj i hi => ?_⟩
    have hjl : j < l.length := (List.getElem?_eq_some_iff.1 hj).1
    have hjn : j * n + i < l.length * n := by
      have := Nat.mul_le_mul_right n (Nat.succ_le_of_lt hjl)
      rw [Nat.succ_mul] at this
      omega
    have e1 : w.cell? ⟨g, j * n + i, none⟩ = cur[j * n + i]? := by simp [World.cell?, hg]
    have e2 : cur[j * n + i]? = (cur.toList.take (l.length * n))[j * n + i]? := by
      rw [List.getElem?_take_of_lt hjn]
      simp
    rw [e1, e2, h4, flat_at f n hf l j i x hj hi]
def cellsI (x : Int) : List Value := [.int .i64 x]
theorem isInts_own {w : World} {base c : Nat} {t : TypeId} {a : Option Addr} {l : List Int} (h : w.ownsRow base t 1 (.slice a l.length c) l.length (l.flatMap cellsI)) : IsInts w a c l := by
  rcases row_at cellsI 1 (fun _ => rfl) h with ⟨e, rfl⟩ | ⟨g, cap, hv, _, hg, h1, h2, key⟩
  · obtain ⟨rfl, _, rfl⟩ := slice_inj e
    exact .inl rfl
  · obtain ⟨rfl, _, rfl⟩ := slice_inj hv
    refine .inr ⟨g, 0, rfl, hg, h1, h2, fun j x hj => ?_⟩
    have := key j x hj 0 (by omega)
    show w.cell? ⟨g, 0 + j * 1, none⟩ = _
    rw [Nat.zero_add]
    exact this
theorem own_below {w w' : World} {base : Nat} {e : TypeId} {size : Nat} {v : Value} {n : Nat} {xs : List Value} (h : w.ownsRow base e size v n xs) (hb : Below w.heap.size w w') : w'.ownsRow base e size v n xs :=
  h.kept (row := none) ⟨hb.os, hb.tape, hb.output, hb.size, fun k hk _ => hb.block k hk⟩ (by cases v.ownBlock <;> simp)
end Go.Proofs.Ytmcmhgjlpffcnaa
