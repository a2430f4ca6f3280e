/- Rows that are made by appends; slices.Clone of points, holes and marks: a row of the call's own with the same cells. No condition. -/
import Derived.Test.YtoigihmgjacbjaaDoorWH
import Derived.Deep.AppendLies
import Derived.Deep.Upon
import Derived.Laws.OwnMore
import Derived.Lib.SliceRun
set_option linter.unusedSimpArgs false
namespace Go.Proofs.YtoigihmgjacbjaaDoor
open Go.RowKit

theorem rowOf_own' (a : Option Addr) (l c : Nat) : (Value.slice a l c).ownBlock = a.map (·.block) := by cases a <;> rfl
theorem flat_at {α : Type} (f : α → List Value) (n : Nat) (hf : ∀ x, (f x).length = n) (l : List α) : ∀ (j i : Nat) (x : α), l[j]? = some x → i < n → (l.flatMap f)[j * n + i]? = (f x)[i]? := by
  induction l with
  | nil => intro j i x h _; simp at h
  | cons y l ih =>
    intro j i x h hi
    cases j with
    | zero =>
      obtain rfl : y = x := by simpa using h
      rw [List.flatMap_cons, List.getElem?_append_left (by rw [hf]; omega)]
      simp
    | succ j =>
      rw [List.flatMap_cons, List.getElem?_append_right (by rw [hf, Nat.succ_mul]; omega), hf, show (j + 1) * n + i - n = j * n + i by rw [Nat.succ_mul]; omega]
      exact ih j i x (by simpa using h) hi
/-- The cells of a row that was made by appends of whole elements. -/
theorem row_at {α : Type} (f : α → List Value) (n : Nat) (hf : ∀ x, (f x).length = n) {w : World} {base : Nat} {t : TypeId} {v : Value} {l : List α} (h : w.ownsRow base t n v l.length (l.flatMap f)) :
    (v = .slice none 0 0 ∧ l = []) ∨ ∃ g cap, v = .slice (some ⟨g, 0, none⟩) l.length cap ∧ base ≤ g ∧ g < w.heap.size ∧ l.length ≤ cap ∧ cap ≤ 9223372036854775807 ∧ ∀ j x, l[j]? = some x → ∀ i, i < n → w.cell? ⟨g, j * n + i, none⟩ = (f x)[i]? := by
  rcases h.2 with ⟨rfl, h0⟩ | ⟨g, cap, cur, hv, hb, hg, h1, h2, h3, h4⟩
  · exact .inl ⟨rfl, List.eq_nil_of_length_eq_zero h0⟩
  · refine .inr ⟨g, cap, hv, hb, (Array.getElem?_eq_some_iff.1 hg).1, h1, by unfold maxLen at h2; omega, fun j x hj i hi => ?_⟩
    have hjl : j < l.length := (List.getElem?_eq_some_iff.1 hj).1
    have hjn : j * n + i < l.length * n := by
      have := Nat.mul_le_mul_right n (Nat.succ_le_of_lt hjl)
      rw [Nat.succ_mul] at this
      omega
    have e1 : w.cell? ⟨g, j * n + i, none⟩ = cur[j * n + i]? := by simp [World.cell?, hg]
    have e2 : cur[j * n + i]? = (cur.toList.take (l.length * n))[j * n + i]? := by
      rw [List.getElem?_take_of_lt hjn]
      simp
    rw [e1, e2, h4, flat_at f n hf l j i x hj hi]
/-- The cells of a row that came in, as they are appended. -/
theorem news_of {α : Type} (f : α → List Value) (n : Nat) (hn : 0 < n) (hf : ∀ x, (f x).length = n) {w : World} {l : List α} {b off : Nat} (h : ∀ j x, l[j]? = some x → ∀ i u, (f x)[i]? = some u → w.cell? ⟨b, off + j * n + i, none⟩ = some u) :
    ∀ j u, (l.flatMap f)[j]? = some u → w.cell? ((⟨b, off, none⟩ : Addr).add j) = some u := by
  intro j u hu
  have hlen : (l.flatMap f).length = l.length * n := by
    clear hu h
    induction l with
    | nil => simp
    | cons x l ih => rw [List.flatMap_cons, List.length_append, hf, ih, List.length_cons, Nat.succ_mul, Nat.add_comm]
  have hj : j < l.length * n := by rw [← hlen]; exact (List.getElem?_eq_some_iff.1 hu).1
  have hq : j / n < l.length := Nat.div_lt_of_lt_mul (by rw [Nat.mul_comm]; exact hj)
  have hr : j % n < n := Nat.mod_lt _ hn
  have he : j / n * n + j % n = j := by rw [Nat.mul_comm]; exact Nat.div_add_mod j n
  have hx : l[j / n]? = some l[j / n] := List.getElem?_eq_getElem hq
  have h1 := flat_at f n hf l (j / n) (j % n) _ hx hr
  rw [he, hu] at h1
  have h2 := h (j / n) _ hx (j % n) u h1.symm
  rw [Nat.add_assoc, he] at h2
  have hadd : (⟨b, off, none⟩ : Addr).add j = ⟨b, off + j, none⟩ := by unfold Addr.add; split <;> simp_all
  rw [hadd]
  exact h2
theorem flat_len {α : Type} (f : α → List Value) (n : Nat) (hf : ∀ x, (f x).length = n) (l : List α) : (l.flatMap f).length = l.length * n := by
  induction l with
  | nil => simp
  | cons x l ih => rw [List.flatMap_cons, List.length_append, hf, ih, List.length_cons, Nat.succ_mul, Nat.add_comm]


theorem info_parts3 {P : Program} {t : TypeId} {z : Value} {n b : Nat} (h : (P.info? t).map (fun i => (i.zero, i.size, i.bytes)) = some (some z, n, b)) : ∃ i, P.info? t = some i ∧ i.zero = some z ∧ i.size = n ∧ i.bytes = b := by
  cases hi : P.info? t with
  | none => rw [hi] at h; simp at h
  | some i =>
    rw [hi] at h
    simp only [Option.map_some, Option.some.injEq, Prod.mk.injEq] at h
    exact ⟨i, rfl, h.1, h.2.1, h.2.2⟩
def pntL (p : Pnt) : List Value := [.int .i64 p.x, .int .i64 p.y]
def holL (h : Hol) : List Value := [.int .i64 h.a.x, .int .i64 h.a.y, .int .i64 h.b.x, .int .i64 h.b.y]
def mrkL (m : Mrk) : List Value := [.int .i64 m.at_.x, .int .i64 m.at_.y, .int .i64 m.th.lo, .int .i64 m.th.hi]
theorem info_pts : ((Tryd.prog : Program).info? 45).map (fun i => (i.zero, i.size, i.bytes)) = some (some (.agg #[.int .i64 0, .int .i64 0]), 2, 16) := by kernel_rfl

set_option maxRecDepth 100000 in
set_option maxHeartbeats 4000000 in
theorem clone_pts (a : Option Addr) (c : Nat) (l : List Pnt) (w : World) (hl : l = [] ∨ ∃ b off, a = some ⟨b, off, none⟩ ∧ b < w.heap.size ∧ l.length ≤ c ∧ c ≤ 9223372036854775807 ∧ ∀ j x, l[j]? = some x → ∀ i u, (pntL x)[i]? = some u → w.cell? ⟨b, off + j * 2 + i, none⟩ = some u) (hlen : l.length ≤ 100000) :
    Calls Tryd.prog 80 #[.slice a l.length c] w fun e w' => (∃ a' c', e = .returned (.slice a' l.length c') ∧ w'.ownsRow w.heap.size 45 2 (.slice a' l.length c') l.length (l.flatMap pntL)) ∧ Below w.heap.size w w' := by
  obtain ⟨i0, hi, hz0, hz1, hz2⟩ := info_parts3 info_pts
  have hb1 : Below w.heap.size w (w.alloc (.cells #[] 45)) := (Below.refl _ w).alloc (by simp) _
  have hown1 : (w.alloc (.cells #[] 45)).ownsRow w.heap.size 45 2 (.slice (some ⟨w.heap.size, 0, none⟩) 0 0) 0 [] := World.ownsRow_lit w #[] 0 (Nat.le_refl _) (by unfold maxLen; omega) rfl
  cases a with
  | none =>
    have h0 : l = [] := by
      rcases hl with h | ⟨_, _, h, _⟩
      · exact h
      · cases h
    subst h0
    have heq := fun w' => Lib.run_eql_slice_nil (P := Tryd.prog) w' 22 45 none 0 c 0 0 Tryd.underlying22
    simp only [Option.isNone_none] at heq
    go_enter Tryd.func80, Tryd.ntmps80
    go_wp2_with fail
    go_ret
    exact ⟨⟨none, 0, rfl, World.ownsRow_nil _ _ _ _⟩, Below.refl _ _⟩
  | some p =>
    have heq := fun w' n => Lib.run_eql_slice_nil (P := Tryd.prog) w' 22 45 (some p) n c 0 0 Tryd.underlying22
    simp only [Option.isNone_some] at heq
    by_cases h0 : l = []
    · subst h0
      have hap : ∀ w', (Builtin.append_ #[22, 22] 22 #[.slice (some ⟨w.heap.size, 0, none⟩) 0 0, .slice (some p) 0 c]).run Tryd.prog w' = .ok (.slice (some ⟨w.heap.size, 0, none⟩) 0 0) w' := fun w' =>
        run_append_nothing w' _ _ _ 45 i0 Tryd.underlying22 hi _ 0 0 (Nat.le_refl _) _ (Src.ofSlice w' Tryd.underlying22 p 0 c [] (by simp) (fun j u h => by simp at h) (fun u h => by cases h))
      go_enter Tryd.func80, Tryd.ntmps80
      go_wp2_with (rw [hap])
      go_ret
      exact ⟨⟨_, _, rfl, hown1⟩, hb1⟩
    · obtain ⟨b, off, hea, hlt, h1, h2, hp⟩ := hl.resolve_left h0
      obtain rfl : p = ⟨b, off, none⟩ := by injection hea
      have hpos : 0 < l.length := by cases l with | nil => exact absurd rfl h0 | cons _ _ => simp
      have hnews : ∀ j u, (l.flatMap pntL)[j]? = some u → (w.alloc (.cells #[] 45)).cell? ((⟨b, off, none⟩ : Addr).add j) = some u := fun j u hu => by
        have hadd : (⟨b, off, none⟩ : Addr).add j = ⟨b, off + j, none⟩ := by unfold Addr.add; split <;> simp_all
        have := news_of pntL 2 (by omega) (fun _ => rfl) hp j u hu
        rw [hadd] at this ⊢
        exact (hb1.cell (p := ⟨b, off + j, none⟩) hlt).trans this
      have hone : ∀ u ∈ l.flatMap pntL, u.oneCell' = true := fun u hu => by
        obtain ⟨x, _, hx⟩ := List.mem_flatMap.1 hu
        simp only [pntL, List.mem_cons, List.not_mem_nil, or_false] at hx
        rcases hx with rfl | rfl <;> rfl
      have HNEWS := Lib.hid hnews
      have HOWN := Lib.hid hown1
      have HONE := Lib.hid hone
      have HFL := Lib.hid (flat_len pntL 2 (fun _ => rfl) l)
      have HB := Lib.hid hb1
      clear hl hp hnews hown1 hone hb1
      go_enter Tryd.func80, Tryd.ntmps80
      go_wp2_with (at_builtin; refine wpList_append_lies _ rfl _ _ 22 rfl w.heap.size 45 i0 (.agg #[.int .i64 0, .int .i64 0]) 2 16 Tryd.underlying22 hi hz0 hz1 hz2 rfl (by decide) (.slice (some ⟨w.heap.size, 0, none⟩) 0 0) 0 [] rfl HOWN.out ⟨b, off, none⟩ l.length c (l.flatMap pntL) rfl HFL.out HNEWS.out HONE.out hpos (by unfold maxLen; omega) (by omega) (by simp) _ rfl ?_; intro g cap w6 hown6 hgrow hat hlt6; have HO6 := Lib.hid hown6; have HG6 := Lib.hid hgrow; clear hown6 hgrow hat hlt6)
      go_ret
      have ho := HO6.out
      rw [Nat.zero_add, List.nil_append] at ho
      exact ⟨⟨_, _, rfl, ho⟩, HB.out.grown HG6.out (by simp) (fun k e => by simp [Value.ownBlock] at e; omega)⟩

theorem info_box : ((Tryd.prog : Program).info? 64).map (fun i => (i.zero, i.size, i.bytes)) = some (some (.agg #[.int .i64 0, .int .i64 0, .int .i64 0, .int .i64 0]), 4, 32) := by kernel_rfl

set_option maxRecDepth 100000 in
set_option maxHeartbeats 4000000 in
theorem clone_box (a : Option Addr) (c : Nat) (l : List Hol) (w : World) (hl : l = [] ∨ ∃ b off, a = some ⟨b, off, none⟩ ∧ b < w.heap.size ∧ l.length ≤ c ∧ c ≤ 9223372036854775807 ∧ ∀ j x, l[j]? = some x → ∀ i u, (holL x)[i]? = some u → w.cell? ⟨b, off + j * 4 + i, none⟩ = some u) (hlen : l.length ≤ 100000) :
    Calls Tryd.prog 81 #[.slice a l.length c] w fun e w' => (∃ a' c', e = .returned (.slice a' l.length c') ∧ w'.ownsRow w.heap.size 64 4 (.slice a' l.length c') l.length (l.flatMap holL)) ∧ Below w.heap.size w w' := by
  obtain ⟨i0, hi, hz0, hz1, hz2⟩ := info_parts3 info_box
  have hb1 : Below w.heap.size w (w.alloc (.cells #[] 64)) := (Below.refl _ w).alloc (by simp) _
  have hown1 : (w.alloc (.cells #[] 64)).ownsRow w.heap.size 64 4 (.slice (some ⟨w.heap.size, 0, none⟩) 0 0) 0 [] := World.ownsRow_lit w #[] 0 (Nat.le_refl _) (by unfold maxLen; omega) rfl
  cases a with
  | none =>
    have h0 : l = [] := by
      rcases hl with h | ⟨_, _, h, _⟩
      · exact h
      · cases h
    subst h0
    have heq := fun w' => Lib.run_eql_slice_nil (P := Tryd.prog) w' 23 64 none 0 c 0 0 Tryd.underlying23
    simp only [Option.isNone_none] at heq
    go_enter Tryd.func81, Tryd.ntmps81
    go_wp2_with fail
    go_ret
    exact ⟨⟨none, 0, rfl, World.ownsRow_nil _ _ _ _⟩, Below.refl _ _⟩
  | some p =>
    have heq := fun w' n => Lib.run_eql_slice_nil (P := Tryd.prog) w' 23 64 (some p) n c 0 0 Tryd.underlying23
    simp only [Option.isNone_some] at heq
    by_cases h0 : l = []
    · subst h0
      have hap : ∀ w', (Builtin.append_ #[23, 23] 23 #[.slice (some ⟨w.heap.size, 0, none⟩) 0 0, .slice (some p) 0 c]).run Tryd.prog w' = .ok (.slice (some ⟨w.heap.size, 0, none⟩) 0 0) w' := fun w' =>
        run_append_nothing w' _ _ _ 64 i0 Tryd.underlying23 hi _ 0 0 (Nat.le_refl _) _ (Src.ofSlice w' Tryd.underlying23 p 0 c [] (by simp) (fun j u h => by simp at h) (fun u h => by cases h))
      go_enter Tryd.func81, Tryd.ntmps81
      go_wp2_with (rw [hap])
      go_ret
      exact ⟨⟨_, _, rfl, hown1⟩, hb1⟩
    · obtain ⟨b, off, hea, hlt, h1, h2, hp⟩ := hl.resolve_left h0
      obtain rfl : p = ⟨b, off, none⟩ := by injection hea
      have hpos : 0 < l.length := by cases l with | nil => exact absurd rfl h0 | cons _ _ => simp
      have hnews : ∀ j u, (l.flatMap holL)[j]? = some u → (w.alloc (.cells #[] 64)).cell? ((⟨b, off, none⟩ : Addr).add j) = some u := fun j u hu => by
        have hadd : (⟨b, off, none⟩ : Addr).add j = ⟨b, off + j, none⟩ := by unfold Addr.add; split <;> simp_all
        have := news_of holL 4 (by omega) (fun _ => rfl) hp j u hu
        rw [hadd] at this ⊢
        exact (hb1.cell (p := ⟨b, off + j, none⟩) hlt).trans this
      have hone : ∀ u ∈ l.flatMap holL, u.oneCell' = true := fun u hu => by
        obtain ⟨x, _, hx⟩ := List.mem_flatMap.1 hu
        simp only [holL, List.mem_cons, List.not_mem_nil, or_false] at hx
        rcases hx with rfl | rfl | rfl | rfl <;> rfl
      have HNEWS := Lib.hid hnews
      have HOWN := Lib.hid hown1
      have HONE := Lib.hid hone
      have HFL := Lib.hid (flat_len holL 4 (fun _ => rfl) l)
      have HB := Lib.hid hb1
      clear hl hp hnews hown1 hone hb1
      go_enter Tryd.func81, Tryd.ntmps81
      go_wp2_with (at_builtin; refine wpList_append_lies _ rfl _ _ 23 rfl w.heap.size 64 i0 (.agg #[.int .i64 0, .int .i64 0, .int .i64 0, .int .i64 0]) 4 32 Tryd.underlying23 hi hz0 hz1 hz2 rfl (by decide) (.slice (some ⟨w.heap.size, 0, none⟩) 0 0) 0 [] rfl HOWN.out ⟨b, off, none⟩ l.length c (l.flatMap holL) rfl HFL.out HNEWS.out HONE.out hpos (by unfold maxLen; omega) (by omega) (by simp) _ rfl ?_; intro g cap w6 hown6 hgrow hat hlt6; have HO6 := Lib.hid hown6; have HG6 := Lib.hid hgrow; clear hown6 hgrow hat hlt6)
      go_ret
      have ho := HO6.out
      rw [Nat.zero_add, List.nil_append] at ho
      exact ⟨⟨_, _, rfl, ho⟩, HB.out.grown HG6.out (by simp) (fun k e => by simp [Value.ownBlock] at e; omega)⟩

theorem info_mrk : ((Tryd.prog : Program).info? 61).map (fun i => (i.zero, i.size, i.bytes)) = some (some (.agg #[.int .i64 0, .int .i64 0, .int .i64 0, .int .i64 0]), 4, 32) := by kernel_rfl

set_option maxRecDepth 100000 in
set_option maxHeartbeats 4000000 in
theorem clone_mrk (a : Option Addr) (c : Nat) (l : List Mrk) (w : World) (hl : l = [] ∨ ∃ b off, a = some ⟨b, off, none⟩ ∧ b < w.heap.size ∧ l.length ≤ c ∧ c ≤ 9223372036854775807 ∧ ∀ j x, l[j]? = some x → ∀ i u, (mrkL x)[i]? = some u → w.cell? ⟨b, off + j * 4 + i, none⟩ = some u) (hlen : l.length ≤ 100000) :
    Calls Tryd.prog 82 #[.slice a l.length c] w fun e w' => (∃ a' c', e = .returned (.slice a' l.length c') ∧ w'.ownsRow w.heap.size 61 4 (.slice a' l.length c') l.length (l.flatMap mrkL)) ∧ Below w.heap.size w w' := by
  obtain ⟨i0, hi, hz0, hz1, hz2⟩ := info_parts3 info_mrk
  have hb1 : Below w.heap.size w (w.alloc (.cells #[] 61)) := (Below.refl _ w).alloc (by simp) _
  have hown1 : (w.alloc (.cells #[] 61)).ownsRow w.heap.size 61 4 (.slice (some ⟨w.heap.size, 0, none⟩) 0 0) 0 [] := World.ownsRow_lit w #[] 0 (Nat.le_refl _) (by unfold maxLen; omega) rfl
  cases a with
  | none =>
    have h0 : l = [] := by
      rcases hl with h | ⟨_, _, h, _⟩
      · exact h
      · cases h
    subst h0
    have heq := fun w' => Lib.run_eql_slice_nil (P := Tryd.prog) w' 28 61 none 0 c 0 0 Tryd.underlying28
    simp only [Option.isNone_none] at heq
    go_enter Tryd.func82, Tryd.ntmps82
    go_wp2_with fail
    go_ret
    exact ⟨⟨none, 0, rfl, World.ownsRow_nil _ _ _ _⟩, Below.refl _ _⟩
  | some p =>
    have heq := fun w' n => Lib.run_eql_slice_nil (P := Tryd.prog) w' 28 61 (some p) n c 0 0 Tryd.underlying28
    simp only [Option.isNone_some] at heq
    by_cases h0 : l = []
    · subst h0
      have hap : ∀ w', (Builtin.append_ #[28, 28] 28 #[.slice (some ⟨w.heap.size, 0, none⟩) 0 0, .slice (some p) 0 c]).run Tryd.prog w' = .ok (.slice (some ⟨w.heap.size, 0, none⟩) 0 0) w' := fun w' =>
        run_append_nothing w' _ _ _ 61 i0 Tryd.underlying28 hi _ 0 0 (Nat.le_refl _) _ (Src.ofSlice w' Tryd.underlying28 p 0 c [] (by simp) (fun j u h => by simp at h) (fun u h => by cases h))
      go_enter Tryd.func82, Tryd.ntmps82
      go_wp2_with (rw [hap])
      go_ret
      exact ⟨⟨_, _, rfl, hown1⟩, hb1⟩
    · obtain ⟨b, off, hea, hlt, h1, h2, hp⟩ := hl.resolve_left h0
      obtain rfl : p = ⟨b, off, none⟩ := by injection hea
      have hpos : 0 < l.length := by cases l with | nil => exact absurd rfl h0 | cons _ _ => simp
      have hnews : ∀ j u, (l.flatMap mrkL)[j]? = some u → (w.alloc (.cells #[] 61)).cell? ((⟨b, off, none⟩ : Addr).add j) = some u := fun j u hu => by
        have hadd : (⟨b, off, none⟩ : Addr).add j = ⟨b, off + j, none⟩ := by unfold Addr.add; split <;> simp_all
        have := news_of mrkL 4 (by omega) (fun _ => rfl) hp j u hu
        rw [hadd] at this ⊢
        exact (hb1.cell (p := ⟨b, off + j, none⟩) hlt).trans this
      have hone : ∀ u ∈ l.flatMap mrkL, u.oneCell' = true := fun u hu => by
        obtain ⟨x, _, hx⟩ := List.mem_flatMap.1 hu
        simp only [mrkL, List.mem_cons, List.not_mem_nil, or_false] at hx
        rcases hx with rfl | rfl | rfl | rfl <;> rfl
      have HNEWS := Lib.hid hnews
      have HOWN := Lib.hid hown1
      have HONE := Lib.hid hone
      have HFL := Lib.hid (flat_len mrkL 4 (fun _ => rfl) l)
      have HB := Lib.hid hb1
      clear hl hp hnews hown1 hone hb1
      go_enter Tryd.func82, Tryd.ntmps82
      go_wp2_with (at_builtin; refine wpList_append_lies _ rfl _ _ 28 rfl w.heap.size 61 i0 (.agg #[.int .i64 0, .int .i64 0, .int .i64 0, .int .i64 0]) 4 32 Tryd.underlying28 hi hz0 hz1 hz2 rfl (by decide) (.slice (some ⟨w.heap.size, 0, none⟩) 0 0) 0 [] rfl HOWN.out ⟨b, off, none⟩ l.length c (l.flatMap mrkL) rfl HFL.out HNEWS.out HONE.out hpos (by unfold maxLen; omega) (by omega) (by simp) _ rfl ?_; intro g cap w6 hown6 hgrow hat hlt6; have HO6 := Lib.hid hown6; have HG6 := Lib.hid hgrow; clear hown6 hgrow hat hlt6)
      go_ret
      have ho := HO6.out
      rw [Nat.zero_add, List.nil_append] at ho
      exact ⟨⟨_, _, rfl, ho⟩, HB.out.grown HG6.out (by simp) (fun k e => by simp [Value.ownBlock] at e; omega)⟩

end Go.Proofs.YtoigihmgjacbjaaDoor
