/- slices.Clone of numbers, parts, heaps: a row of the call's own with the same cells. -/
import Derived.Test.YtfhalmlpnoepcaaGreatGW
import Derived.Deep.Upon
import Derived.Laws.OwnMore
import Derived.Lib.SliceRun
namespace Go.Proofs.YtfhalmlpnoepcaaGreat
open Go.RowKit

/-- The cells of a row that came in, as they are appended. -/
theorem news_of {α : Type} (f : α → List Value) (n : Nat) (hn : 0 < n) (hf : ∀ x, (f x).length = n) {w : World} {l : List α} {b off : Nat} (h : ∀ j x, l[j]? = some x → ∀ i u, (f x)[i]? = some u → w.cell? ⟨b, off + j * n + i, none⟩ = some u) :
    ∀ j u, (l.flatMap f)[j]? = some u → w.cell? ((⟨b, off, none⟩ : Addr).add j) = some u := by
  intro j u hu
  have hlen : (l.flatMap f).length = l.length * n := by
    clear hu h
    induction l with
    | nil => simp
    | cons x l ih => rw [List.flatMap_cons, List.length_append, hf, ih, List.length_cons, Nat.succ_mul, Nat.add_comm]
  have hj : j < l.length * n := by rw [← hlen]; exact (List.getElem?_eq_some_iff.1 hu).1
  have hq : j / n < l.length := Nat.div_lt_of_lt_mul (by rw [Nat.mul_comm]; exact hj)
  have hr : j % n < n := Nat.mod_lt _ hn
  have he : j / n * n + j % n = j := by rw [Nat.mul_comm]; exact Nat.div_add_mod j n
  have hx : l[j / n]? = some l[j / n] := List.getElem?_eq_getElem hq
  have h1 := flat_at f n hf l (j / n) (j % n) _ hx hr
  rw [he, hu] at h1
  have h2 := h (j / n) _ hx (j % n) u h1.symm
  rw [Nat.add_assoc, he] at h2
  have hadd : (⟨b, off, none⟩ : Addr).add j = ⟨b, off + j, none⟩ := by unfold Addr.add; split <;> simp_all
  rw [hadd]
  exact h2
theorem flat_len {α : Type} (f : α → List Value) (n : Nat) (hf : ∀ x, (f x).length = n) (l : List α) : (l.flatMap f).length = l.length * n := by
  induction l with
  | nil => simp
  | cons x l ih => rw [List.flatMap_cons, List.length_append, hf, ih, List.length_cons, Nat.succ_mul, Nat.add_comm]


def cellsHep (h : Hep) : List Value := [.string h.name, .int .i64 h.crop, .int .i64 h.stage, .slice h.pa h.parts.length h.pc, .int .i64 h.per, .int .i64 h.wlo, .int .i64 h.whi]
theorem info_heap : ((Tryz.prog : Program).info? 53).map (fun i => (i.zero, i.size, i.bytes)) = some (some (.agg #[.string ⟨#[]⟩, .int .i64 0, .int .i64 0, .slice none 0 0, .int .i64 0, .int .i64 0, .int .i64 0]), 7, 80) := by kernel_rfl

set_option maxRecDepth 100000 in
set_option maxHeartbeats 4000000 in
theorem cloneInts_any (a : Option Addr) (c : Nat) (l : List Int) (w : World) (hl : IsNums w a c l) (hlen : l.length ≤ 100000) :
    Calls Tryz.prog 33 #[.slice a l.length c] w fun e w' => (∃ a' c', e = .returned (.slice a' l.length c') ∧ w'.ownsRow w.heap.size 3 1 (.slice a' l.length c') l.length (l.flatMap cellsI)) ∧ Below w.heap.size w w' := by
  obtain ⟨i0, hi, hz0, hz1, hz2⟩ := info_parts info_int'
  have hb1 : Below w.heap.size w (w.alloc (.cells #[] 3)) := (Below.refl _ w).alloc (by simp) _
  have hown1 : (w.alloc (.cells #[] 3)).ownsRow w.heap.size 3 1 (.slice (some ⟨w.heap.size, 0, none⟩) 0 0) 0 [] := World.ownsRow_lit w #[] 0 (Nat.le_refl _) (by unfold maxLen; omega) rfl
  cases a with
  | none =>
    have h0 : l = [] := by
      rcases hl with h | ⟨_, _, h, _⟩
      · exact h
      · cases h
    subst h0
    have heq := fun w' => Lib.run_eql_slice_nil (P := Tryz.prog) w' 25 3 none 0 c 0 0 Tryz.underlying25
    simp only [Option.isNone_none] at heq
    go_enter Tryz.func33, Tryz.ntmps33
    go_wp2_with fail
    go_ret
    exact ⟨⟨none, 0, rfl, World.ownsRow_nil _ _ _ _⟩, Below.refl _ _⟩
  | some p =>
    have heq := fun w' n => Lib.run_eql_slice_nil (P := Tryz.prog) w' 25 3 (some p) n c 0 0 Tryz.underlying25
    simp only [Option.isNone_some] at heq
    by_cases h0 : l = []
    · subst h0
      have hap : ∀ w', (Builtin.append_ #[25, 25] 25 #[.slice (some ⟨w.heap.size, 0, none⟩) 0 0, .slice (some p) 0 c]).run Tryz.prog w' = .ok (.slice (some ⟨w.heap.size, 0, none⟩) 0 0) w' := fun w' =>
        run_append_nothing w' _ _ _ 3 i0 Tryz.underlying25 hi _ 0 0 (Nat.le_refl _) _ (Src.ofSlice w' Tryz.underlying25 p 0 c [] (by simp) (fun j u h => by simp at h) (fun u h => by cases h))
      go_enter Tryz.func33, Tryz.ntmps33
      go_wp2_with (rw [hap])
      go_ret
      exact ⟨⟨_, _, rfl, hown1⟩, hb1⟩
    · obtain ⟨b, off, hea, hlt, h1, h2, hp⟩ : ∃ b off, some p = some ⟨b, off, none⟩ ∧ b < w.heap.size ∧ l.length ≤ c ∧ c ≤ 9223372036854775807 ∧ ∀ j x, l[j]? = some x → ∀ i u, (cellsI x)[i]? = some u → w.cell? ⟨b, off + j * 1 + i, none⟩ = some u := by
        rcases hl with h | ⟨b, off, h, k1, k2, k3, k4⟩
        · exact absurd h h0
        · exact ⟨b, off, h, k1, k2, k3, fun j x hj => fun i u hu => by
            obtain ⟨rfl, rfl⟩ : i = 0 ∧ u = .int .i64 x := by
              cases i with
              | zero => exact ⟨rfl, by simpa [cellsI] using hu.symm⟩
              | succ i => simp [cellsI] at hu
            exact k4 j x hj⟩
      obtain rfl : p = ⟨b, off, none⟩ := by injection hea
      have hpos : 0 < l.length := by cases l with | nil => exact absurd rfl h0 | cons _ _ => simp
      have hnews : ∀ j u, (l.flatMap cellsI)[j]? = some u → (w.alloc (.cells #[] 3)).cell? ((⟨b, off, none⟩ : Addr).add j) = some u := fun j u hu => by
        have hadd : (⟨b, off, none⟩ : Addr).add j = ⟨b, off + j, none⟩ := by unfold Addr.add; split <;> simp_all
        have := news_of cellsI 1 (by omega) (fun _ => rfl) hp j u hu
        rw [hadd] at this ⊢
        exact (hb1.cell (p := ⟨b, off + j, none⟩) hlt).trans this
      have hone : ∀ u ∈ l.flatMap cellsI, u.oneCell' = true := fun u hu => by
        obtain ⟨x, _, hx⟩ := List.mem_flatMap.1 hu
        obtain rfl : u = .int .i64 x := by simpa [cellsI] using hx
        rfl
      have HNEWS := Lib.hid hnews
      have HOWN := Lib.hid hown1
      have HONE := Lib.hid hone
      have HFL := Lib.hid (flat_len cellsI 1 (fun _ => rfl) l)
      have HB := Lib.hid hb1
      clear hl hp hnews hown1 hone hb1
      go_enter Tryz.func33, Tryz.ntmps33
      go_wp2_with (at_builtin; refine wpList_append_lies _ rfl _ _ 25 rfl w.heap.size 3 i0 (.int .i64 0) 1 8 Tryz.underlying25 hi hz0 hz1 hz2 rfl (by decide) (.slice (some ⟨w.heap.size, 0, none⟩) 0 0) 0 [] rfl HOWN.out ⟨b, off, none⟩ l.length c (l.flatMap cellsI) rfl HFL.out HNEWS.out HONE.out hpos (by unfold maxLen; omega) (by omega) (by simp) _ rfl ?_; intro g cap w6 hown6 hgrow hat hlt6; have HO6 := Lib.hid hown6; have HG6 := Lib.hid hgrow; clear hown6 hgrow hat hlt6)
      go_ret
      have ho := HO6.out
      rw [Nat.zero_add, List.nil_append] at ho
      exact ⟨⟨_, _, rfl, ho⟩, HB.out.grown HG6.out (by simp) (fun k e => by simp [Value.ownBlock] at e; omega)⟩

set_option maxRecDepth 100000 in
set_option maxHeartbeats 4000000 in
theorem clonePrts_any (a : Option Addr) (c : Nat) (l : List Prt) (w : World) (hl : IsPrts w a c l) (hlen : l.length ≤ 100000) :
    Calls Tryz.prog 35 #[.slice a l.length c] w fun e w' => (∃ a' c', e = .returned (.slice a' l.length c') ∧ w'.ownsRow w.heap.size 79 2 (.slice a' l.length c') l.length (l.flatMap cellsPrt)) ∧ Below w.heap.size w w' := by
  obtain ⟨i0, hi, hz0, hz1, hz2⟩ := info_parts info_portion
  have hb1 : Below w.heap.size w (w.alloc (.cells #[] 79)) := (Below.refl _ w).alloc (by simp) _
  have hown1 : (w.alloc (.cells #[] 79)).ownsRow w.heap.size 79 2 (.slice (some ⟨w.heap.size, 0, none⟩) 0 0) 0 [] := World.ownsRow_lit w #[] 0 (Nat.le_refl _) (by unfold maxLen; omega) rfl
  cases a with
  | none =>
    have h0 : l = [] := by
      rcases hl with h | ⟨_, _, h, _⟩
      · exact h
      · cases h
    subst h0
    have heq := fun w' => Lib.run_eql_slice_nil (P := Tryz.prog) w' 27 79 none 0 c 0 0 Tryz.underlying27
    simp only [Option.isNone_none] at heq
    go_enter Tryz.func35, Tryz.ntmps35
    go_wp2_with fail
    go_ret
    exact ⟨⟨none, 0, rfl, World.ownsRow_nil _ _ _ _⟩, Below.refl _ _⟩
  | some p =>
    have heq := fun w' n => Lib.run_eql_slice_nil (P := Tryz.prog) w' 27 79 (some p) n c 0 0 Tryz.underlying27
    simp only [Option.isNone_some] at heq
    by_cases h0 : l = []
    · subst h0
      have hap : ∀ w', (Builtin.append_ #[27, 27] 27 #[.slice (some ⟨w.heap.size, 0, none⟩) 0 0, .slice (some p) 0 c]).run Tryz.prog w' = .ok (.slice (some ⟨w.heap.size, 0, none⟩) 0 0) w' := fun w' =>
        run_append_nothing w' _ _ _ 79 i0 Tryz.underlying27 hi _ 0 0 (Nat.le_refl _) _ (Src.ofSlice w' Tryz.underlying27 p 0 c [] (by simp) (fun j u h => by simp at h) (fun u h => by cases h))
      go_enter Tryz.func35, Tryz.ntmps35
      go_wp2_with (rw [hap])
      go_ret
      exact ⟨⟨_, _, rfl, hown1⟩, hb1⟩
    · obtain ⟨b, off, hea, hlt, h1, h2, hp⟩ : ∃ b off, some p = some ⟨b, off, none⟩ ∧ b < w.heap.size ∧ l.length ≤ c ∧ c ≤ 9223372036854775807 ∧ ∀ j x, l[j]? = some x → ∀ i u, (cellsPrt x)[i]? = some u → w.cell? ⟨b, off + j * 2 + i, none⟩ = some u := by
        rcases hl with h | ⟨b, off, h, k1, k2, k3, k4⟩
        · exact absurd h h0
        · exact ⟨b, off, h, k1, k2, k3, fun j x hj => fun i u hu => by
            obtain ⟨z0, z1⟩ := k4 j x hj
            match i, hu with
            | 0, hu => obtain rfl : u = .int .i64 x.plot := by simpa [cellsPrt] using hu.symm
                       exact z0
            | 1, hu => obtain rfl : u = .int .i64 x.loads := by simpa [cellsPrt] using hu.symm
                       exact z1
            | i + 2, hu => simp [cellsPrt] at hu⟩
      obtain rfl : p = ⟨b, off, none⟩ := by injection hea
      have hpos : 0 < l.length := by cases l with | nil => exact absurd rfl h0 | cons _ _ => simp
      have hnews : ∀ j u, (l.flatMap cellsPrt)[j]? = some u → (w.alloc (.cells #[] 79)).cell? ((⟨b, off, none⟩ : Addr).add j) = some u := fun j u hu => by
        have hadd : (⟨b, off, none⟩ : Addr).add j = ⟨b, off + j, none⟩ := by unfold Addr.add; split <;> simp_all
        have := news_of cellsPrt 2 (by omega) (fun _ => rfl) hp j u hu
        rw [hadd] at this ⊢
        exact (hb1.cell (p := ⟨b, off + j, none⟩) hlt).trans this
      have hone : ∀ u ∈ l.flatMap cellsPrt, u.oneCell' = true := fun u hu => by
        obtain ⟨x, _, hx⟩ := List.mem_flatMap.1 hu
        rcases (show u = .int .i64 x.plot ∨ u = .int .i64 x.loads by simpa [cellsPrt] using hx) with rfl | rfl
        · rfl
        · rfl
      have HNEWS := Lib.hid hnews
      have HOWN := Lib.hid hown1
      have HONE := Lib.hid hone
      have HFL := Lib.hid (flat_len cellsPrt 2 (fun _ => rfl) l)
      have HB := Lib.hid hb1
      clear hl hp hnews hown1 hone hb1
      go_enter Tryz.func35, Tryz.ntmps35
      go_wp2_with (at_builtin; refine wpList_append_lies _ rfl _ _ 27 rfl w.heap.size 79 i0 (.agg #[.int .i64 0, .int .i64 0]) 2 16 Tryz.underlying27 hi hz0 hz1 hz2 rfl (by decide) (.slice (some ⟨w.heap.size, 0, none⟩) 0 0) 0 [] rfl HOWN.out ⟨b, off, none⟩ l.length c (l.flatMap cellsPrt) rfl HFL.out HNEWS.out HONE.out hpos (by unfold maxLen; omega) (by omega) (by simp) _ rfl ?_; intro g cap w6 hown6 hgrow hat hlt6; have HO6 := Lib.hid hown6; have HG6 := Lib.hid hgrow; clear hown6 hgrow hat hlt6)
      go_ret
      have ho := HO6.out
      rw [Nat.zero_add, List.nil_append] at ho
      exact ⟨⟨_, _, rfl, ho⟩, HB.out.grown HG6.out (by simp) (fun k e => by simp [Value.ownBlock] at e; omega)⟩

set_option maxRecDepth 100000 in
set_option maxHeartbeats 4000000 in
theorem cloneHeps_any (a : Option Addr) (c : Nat) (l : List Hep) (w : World) (hl : IsHeps w a c l) (hlen : l.length ≤ 100000) :
    Calls Tryz.prog 34 #[.slice a l.length c] w fun e w' => (∃ a' c', e = .returned (.slice a' l.length c') ∧ w'.ownsRow w.heap.size 53 7 (.slice a' l.length c') l.length (l.flatMap cellsHep)) ∧ Below w.heap.size w w' := by
  obtain ⟨i0, hi, hz0, hz1, hz2⟩ := info_parts info_heap
  have hb1 : Below w.heap.size w (w.alloc (.cells #[] 53)) := (Below.refl _ w).alloc (by simp) _
  have hown1 : (w.alloc (.cells #[] 53)).ownsRow w.heap.size 53 7 (.slice (some ⟨w.heap.size, 0, none⟩) 0 0) 0 [] := World.ownsRow_lit w #[] 0 (Nat.le_refl _) (by unfold maxLen; omega) rfl
  cases a with
  | none =>
    have h0 : l = [] := by
      rcases hl with h | ⟨_, _, h, _⟩
      · exact h
      · cases h
    subst h0
    have heq := fun w' => Lib.run_eql_slice_nil (P := Tryz.prog) w' 26 53 none 0 c 0 0 Tryz.underlying26
    simp only [Option.isNone_none] at heq
    go_enter Tryz.func34, Tryz.ntmps34
    go_wp2_with fail
    go_ret
    exact ⟨⟨none, 0, rfl, World.ownsRow_nil _ _ _ _⟩, Below.refl _ _⟩
  | some p =>
    have heq := fun w' n => Lib.run_eql_slice_nil (P := Tryz.prog) w' 26 53 (some p) n c 0 0 Tryz.underlying26
    simp only [Option.isNone_some] at heq
    by_cases h0 : l = []
    · subst h0
      have hap : ∀ w', (Builtin.append_ #[26, 26] 26 #[.slice (some ⟨w.heap.size, 0, none⟩) 0 0, .slice (some p) 0 c]).run Tryz.prog w' = .ok (.slice (some ⟨w.heap.size, 0, none⟩) 0 0) w' := fun w' =>
        run_append_nothing w' _ _ _ 53 i0 Tryz.underlying26 hi _ 0 0 (Nat.le_refl _) _ (Src.ofSlice w' Tryz.underlying26 p 0 c [] (by simp) (fun j u h => by simp at h) (fun u h => by cases h))
      go_enter Tryz.func34, Tryz.ntmps34
      go_wp2_with (rw [hap])
      go_ret
      exact ⟨⟨_, _, rfl, hown1⟩, hb1⟩
    · obtain ⟨b, off, hea, hlt, h1, h2, hp⟩ : ∃ b off, some p = some ⟨b, off, none⟩ ∧ b < w.heap.size ∧ l.length ≤ c ∧ c ≤ 9223372036854775807 ∧ ∀ j x, l[j]? = some x → ∀ i u, (cellsHep x)[i]? = some u → w.cell? ⟨b, off + j * 7 + i, none⟩ = some u := by
        rcases hl with h | ⟨b, off, h, k1, k2, k3, k4⟩
        · exact absurd h h0
        · exact ⟨b, off, h, k1, k2, k3, fun j x hj => fun i u hu => by
            obtain ⟨⟨z0, z1, z2, z3, z4, z5, z6⟩, _, _⟩ := k4 j x hj
            match i, hu with
            | 0, hu => obtain rfl : u = .string x.name := by simpa [cellsHep] using hu.symm
                       exact z0
            | 1, hu => obtain rfl : u = .int .i64 x.crop := by simpa [cellsHep] using hu.symm
                       exact z1
            | 2, hu => obtain rfl : u = .int .i64 x.stage := by simpa [cellsHep] using hu.symm
                       exact z2
            | 3, hu => obtain rfl : u = .slice x.pa x.parts.length x.pc := by simpa [cellsHep] using hu.symm
                       exact z3
            | 4, hu => obtain rfl : u = .int .i64 x.per := by simpa [cellsHep] using hu.symm
                       exact z4
            | 5, hu => obtain rfl : u = .int .i64 x.wlo := by simpa [cellsHep] using hu.symm
                       exact z5
            | 6, hu => obtain rfl : u = .int .i64 x.whi := by simpa [cellsHep] using hu.symm
                       exact z6
            | i + 7, hu => simp [cellsHep] at hu⟩
      obtain rfl : p = ⟨b, off, none⟩ := by injection hea
      have hpos : 0 < l.length := by cases l with | nil => exact absurd rfl h0 | cons _ _ => simp
      have hnews : ∀ j u, (l.flatMap cellsHep)[j]? = some u → (w.alloc (.cells #[] 53)).cell? ((⟨b, off, none⟩ : Addr).add j) = some u := fun j u hu => by
        have hadd : (⟨b, off, none⟩ : Addr).add j = ⟨b, off + j, none⟩ := by unfold Addr.add; split <;> simp_all
        have := news_of cellsHep 7 (by omega) (fun _ => rfl) hp j u hu
        rw [hadd] at this ⊢
        exact (hb1.cell (p := ⟨b, off + j, none⟩) hlt).trans this
      have hone : ∀ u ∈ l.flatMap cellsHep, u.oneCell' = true := fun u hu => by
        obtain ⟨x, _, hx⟩ := List.mem_flatMap.1 hu
        rcases (show u = .string x.name ∨ u = .int .i64 x.crop ∨ u = .int .i64 x.stage ∨ u = .slice x.pa x.parts.length x.pc ∨ u = .int .i64 x.per ∨ u = .int .i64 x.wlo ∨ u = .int .i64 x.whi by simpa [cellsHep] using hx) with rfl | rfl | rfl | rfl | rfl | rfl | rfl
        all_goals rfl
      have HNEWS := Lib.hid hnews
      have HOWN := Lib.hid hown1
      have HONE := Lib.hid hone
      have HFL := Lib.hid (flat_len cellsHep 7 (fun _ => rfl) l)
      have HB := Lib.hid hb1
      clear hl hp hnews hown1 hone hb1
      go_enter Tryz.func34, Tryz.ntmps34
      go_wp2_with (at_builtin; refine wpList_append_lies _ rfl _ _ 26 rfl w.heap.size 53 i0 (.agg #[.string ⟨#[]⟩, .int .i64 0, .int .i64 0, .slice none 0 0, .int .i64 0, .int .i64 0, .int .i64 0]) 7 80 Tryz.underlying26 hi hz0 hz1 hz2 rfl (by decide) (.slice (some ⟨w.heap.size, 0, none⟩) 0 0) 0 [] rfl HOWN.out ⟨b, off, none⟩ l.length c (l.flatMap cellsHep) rfl HFL.out HNEWS.out HONE.out hpos (by unfold maxLen; omega) (by omega) (by simp) _ rfl ?_; intro g cap w6 hown6 hgrow hat hlt6; have HO6 := Lib.hid hown6; have HG6 := Lib.hid hgrow; clear hown6 hgrow hat hlt6)
      go_ret
      have ho := HO6.out
      rw [Nat.zero_add, List.nil_append] at ho
      exact ⟨⟨_, _, rfl, ho⟩, HB.out.grown HG6.out (by simp) (fun k e => by simp [Value.ownBlock] at e; omega)⟩

end Go.Proofs.YtfhalmlpnoepcaaGreat
