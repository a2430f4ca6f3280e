/- What a chore leaves of a store's rows: kept, taken out, put in. -/
import Derived.Test.YtfhalmlpnoepcaaGreatJK
import Derived.Test.YtfhalmlpnoepcaaGreatGL
namespace Go.Proofs.YtfhalmlpnoepcaaGreat
open Go.RowKit

theorem own_keep {w w' : World} {base sz m n c : Nat} {t : TypeId} {a : Option Addr} {xs : List Value} (h : w.ownsRow base t sz (.slice a n c) m xs) (hk : ∀ k, a.map (·.block) = some k → w'.heap[k]? = w.heap[k]?) : w'.ownsRow base t sz (.slice a n c) m xs := by
  refine ⟨h.1, ?_⟩
  rcases h.2 with hn | ⟨g, cap, cur, e, hb, hg, rest⟩
  · exact .inl hn
  · obtain ⟨rfl, _, _⟩ := slice_inj e
    exact .inr ⟨g, cap, cur, e, hb, (hk g rfl).trans hg, rest⟩

/-- Rows one by one. -/
theorem rows_la {S : Sto} {k : Nat} (h : S.la.map (·.block) = some k) : k ∈ rowsOf S := List.mem_filterMap.2 ⟨S.la, by simp, h⟩
theorem rows_ga {S : Sto} {k : Nat} (h : S.ga.map (·.block) = some k) : k ∈ rowsOf S := List.mem_filterMap.2 ⟨S.ga, by simp, h⟩
theorem rows_ha {S : Sto} {k : Nat} (h : S.ha.map (·.block) = some k) : k ∈ rowsOf S := List.mem_filterMap.2 ⟨S.ha, by simp, h⟩
theorem rows_ua {S : Sto} {k : Nat} (h : S.ua.map (·.block) = some k) : k ∈ rowsOf S := List.mem_filterMap.2 ⟨S.ua, by simp, h⟩
theorem rows_wa {S : Sto} {k : Nat} (h : S.wa.map (·.block) = some k) : k ∈ rowsOf S := List.mem_filterMap.2 ⟨S.wa, by simp, h⟩
theorem rows_pa {S : Sto} {k : Nat} {x : Hep} (hx : x ∈ S.heaps) (h : x.pa.map (·.block) = some k) : k ∈ rowsOf S := List.mem_filterMap.2 ⟨x.pa, by simp only [List.mem_append, List.mem_map]; exact .inr ⟨x, hx, rfl⟩, h⟩

theorem OwnSto.keep {base : Nat} {w w' : World} {S : Sto} (h : OwnSto base w S) (hk : ∀ k ∈ rowsOf S, w'.heap[k]? = w.heap[k]?) : OwnSto base w' S :=
  ⟨own_keep h.last fun k e => hk k (rows_la e), own_keep h.given fun k e => hk k (rows_ga e), own_keep h.heaps fun k e => hk k (rows_ha e), fun x hx => own_keep (h.parts x hx) fun k e => hk k (rows_pa hx e),
    own_keep h.used fun k e => hk k (rows_ua e), own_keep h.waste fun k e => hk k (rows_wa e), h.names, h.apart⟩
theorem OwnSto.grown {base B : Nat} {w w' : World} {S : Sto} (h : OwnSto base w S) (hg : w.grownBy w' (some B)) (hB : B ∉ rowsOf S) : OwnSto base w' S :=
  h.keep fun k hk => hg.block k (h.ge k hk).2 (fun e => hB (by cases e; exact hk))
theorem OwnSto.mono {base base' : Nat} {w : World} {S : Sto} (h : OwnSto base w S) (hb : base' ≤ base) : OwnSto base' w S :=
  ⟨h.last.mono hb, h.given.mono hb, h.heaps.mono hb, fun x hx => (h.parts x hx).mono hb, h.used.mono hb, h.waste.mono hb, h.names, h.apart⟩

/-- Taking out of a list without doubles, putting into one. -/
theorem nodup_out {α : Type} {f : α → Option Nat} {l1 l2 : List α} {a : α} (h : ((l1 ++ a :: l2).filterMap f).Nodup) : ((l1 ++ l2).filterMap f).Nodup ∧ ∀ j, f a = some j → j ∉ (l1 ++ l2).filterMap f := by
  rw [List.filterMap_append, List.filterMap_cons] at h
  rw [List.filterMap_append]
  cases hf : f a with
  | none => rw [hf] at h; exact ⟨h, fun j e => by cases e⟩
  | some k =>
    rw [hf] at h
    simp only at h
    have hp := (List.perm_middle.nodup_iff).1 h
    exact ⟨(List.nodup_cons.1 hp).2, fun j e => by cases e; exact (List.nodup_cons.1 hp).1⟩
theorem nodup_put {α : Type} {f : α → Option Nat} {l1 l2 : List α} {a : α} (h : ((l1 ++ l2).filterMap f).Nodup) (hn : ∀ j, f a = some j → j ∉ (l1 ++ l2).filterMap f) : ((l1 ++ a :: l2).filterMap f).Nodup := by
  rw [List.filterMap_append, List.filterMap_cons]
  rw [List.filterMap_append] at h hn
  cases hf : f a with
  | none => exact h
  | some k => exact (List.perm_middle.nodup_iff).2 (List.nodup_cons.2 ⟨hn k hf, h⟩)

/-- The rows but one. -/
theorem apart_la {S : Sto} {a : Option Addr} (h : (rowsOf S).Nodup) (hn : ∀ j, a.map (·.block) = some j → j ∉ rowsOf { S with la := none }) : (rowsOf { S with la := a }).Nodup :=
  nodup_put (l1 := []) (nodup_out (l1 := []) h).1 (fun j e => by have := hn j e; simpa [rowsOf] using this)
theorem apart_ga {S : Sto} {a : Option Addr} (h : (rowsOf S).Nodup) (hn : ∀ j, a.map (·.block) = some j → j ∉ rowsOf { S with ga := none }) : (rowsOf { S with ga := a }).Nodup :=
  nodup_put (l1 := [S.la]) (nodup_out (l1 := [S.la]) h).1 (fun j e => by have := hn j e; simpa [rowsOf] using this)
theorem apart_ha {S : Sto} {a : Option Addr} (h : (rowsOf S).Nodup) (hn : ∀ j, a.map (·.block) = some j → j ∉ rowsOf { S with ha := none }) : (rowsOf { S with ha := a }).Nodup :=
  nodup_put (l1 := [S.la, S.ga]) (nodup_out (l1 := [S.la, S.ga]) h).1 (fun j e => by have := hn j e; simpa [rowsOf] using this)
theorem apart_ua {S : Sto} {a : Option Addr} (h : (rowsOf S).Nodup) (hn : ∀ j, a.map (·.block) = some j → j ∉ rowsOf { S with ua := none }) : (rowsOf { S with ua := a }).Nodup :=
  nodup_put (l1 := [S.la, S.ga, S.ha]) (nodup_out (l1 := [S.la, S.ga, S.ha]) h).1 (fun j e => by have := hn j e; simpa [rowsOf] using this)
theorem apart_wa {S : Sto} {a : Option Addr} (h : (rowsOf S).Nodup) (hn : ∀ j, a.map (·.block) = some j → j ∉ rowsOf { S with wa := none }) : (rowsOf { S with wa := a }).Nodup :=
  nodup_put (l1 := [S.la, S.ga, S.ha, S.ua]) (nodup_out (l1 := [S.la, S.ga, S.ha, S.ua]) h).1 (fun j e => by have := hn j e; simpa [rowsOf] using this)
theorem apart_pa {S : Sto} {i : Nat} {x y : Hep} (hx : S.heaps[i]? = some x) (h : (rowsOf S).Nodup) (hn : ∀ j, y.pa.map (·.block) = some j → j ∉ rowsOf { S with heaps := S.heaps.eraseIdx i }) : (rowsOf { S with heaps := S.heaps.set i y }).Nodup := by
  obtain ⟨hi, rfl⟩ := List.getElem?_eq_some_iff.1 hx
  have e1 : S.heaps.map (·.pa) = (S.heaps.take i).map (·.pa) ++ S.heaps[i].pa :: (S.heaps.drop (i + 1)).map (·.pa) := by
    rw [← List.map_cons (f := fun x : Hep => x.pa), ← List.map_append, List.getElem_cons_drop, List.take_append_drop]
  have e2 : (S.heaps.set i y).map (·.pa) = (S.heaps.take i).map (·.pa) ++ y.pa :: (S.heaps.drop (i + 1)).map (·.pa) := by
    rw [List.set_eq_take_append_cons_drop, if_pos hi]; simp
  have e3 : (S.heaps.eraseIdx i).map (·.pa) = (S.heaps.take i).map (·.pa) ++ (S.heaps.drop (i + 1)).map (·.pa) := by
    rw [List.eraseIdx_eq_take_drop_succ]; simp
  unfold rowsOf at h hn ⊢
  simp only [e1, e2, e3, ← List.append_assoc] at h hn ⊢
  exact nodup_put (nodup_out h).1 hn
theorem apart_erase {S : Sto} (i : Nat) (h : (rowsOf S).Nodup) : (rowsOf { S with heaps := S.heaps.eraseIdx i }).Nodup :=
  h.sublist (((List.Sublist.refl _).append ((List.eraseIdx_sublist S.heaps i).map _)).filterMap _)
theorem rows_erase {S : Sto} (i : Nat) : ∀ k ∈ rowsOf { S with heaps := S.heaps.eraseIdx i }, k ∈ rowsOf S := fun _ hk =>
  (((List.Sublist.refl _).append ((List.eraseIdx_sublist S.heaps i).map _)).filterMap _).subset hk
theorem out_pa {S : Sto} {i : Nat} {x : Hep} (hx : S.heaps[i]? = some x) (h : (rowsOf S).Nodup) : ∀ j, x.pa.map (·.block) = some j → j ∉ rowsOf { S with heaps := S.heaps.eraseIdx i } := by
  obtain ⟨hi, rfl⟩ := List.getElem?_eq_some_iff.1 hx
  have e1 : S.heaps.map (·.pa) = (S.heaps.take i).map (·.pa) ++ S.heaps[i].pa :: (S.heaps.drop (i + 1)).map (·.pa) := by
    rw [← List.map_cons (f := fun x : Hep => x.pa), ← List.map_append, List.getElem_cons_drop, List.take_append_drop]
  have e3 : (S.heaps.eraseIdx i).map (·.pa) = (S.heaps.take i).map (·.pa) ++ (S.heaps.drop (i + 1)).map (·.pa) := by
    rw [List.eraseIdx_eq_take_drop_succ]; simp
  unfold rowsOf at h ⊢
  simp only [e1, e3, ← List.append_assoc] at h ⊢
  exact (nodup_out h).2
theorem apart_push {S : Sto} {y : Hep} (h : (rowsOf S).Nodup) (hn : ∀ j, y.pa.map (·.block) = some j → j ∉ rowsOf S) : (rowsOf { S with heaps := S.heaps ++ [y] }).Nodup := by
  unfold rowsOf at h hn ⊢
  simp only [List.map_append, List.map_cons, List.map_nil, ← List.append_assoc]
  exact nodup_put (l2 := []) (by simpa using h) (by simpa using hn)
theorem out_ha {S : Sto} (h : (rowsOf S).Nodup) : ∀ j, S.ha.map (·.block) = some j → j ∉ rowsOf { S with ha := none } := fun j e => by
  have := (nodup_out (l1 := [S.la, S.ga]) h).2 j e
  simpa [rowsOf] using this
theorem out_ua {S : Sto} (h : (rowsOf S).Nodup) : ∀ j, S.ua.map (·.block) = some j → j ∉ rowsOf { S with ua := none } := fun j e => by
  have := (nodup_out (l1 := [S.la, S.ga, S.ha]) h).2 j e
  simpa [rowsOf] using this
theorem out_wa {S : Sto} (h : (rowsOf S).Nodup) : ∀ j, S.wa.map (·.block) = some j → j ∉ rowsOf { S with wa := none } := fun j e => by
  have := (nodup_out (l1 := [S.la, S.ga, S.ha, S.ua]) h).2 j e
  simpa [rowsOf] using this
theorem out_la {S : Sto} (h : (rowsOf S).Nodup) : ∀ j, S.la.map (·.block) = some j → j ∉ rowsOf { S with la := none } := fun j e => by
  have := (nodup_out (l1 := []) h).2 j e
  simpa [rowsOf] using this
theorem out_ga {S : Sto} (h : (rowsOf S).Nodup) : ∀ j, S.ga.map (·.block) = some j → j ∉ rowsOf { S with ga := none } := fun j e => by
  have := (nodup_out (l1 := [S.la]) h).2 j e
  simpa [rowsOf] using this

/-- A row in the place of another one. -/
theorem OwnSto.setUsed {base : Nat} {w w' : World} {S : Sto} {a : Option Addr} {c : Nat} {l : List Prt} (h : OwnSto base w S) (hk : ∀ k ∈ rowsOf { S with ua := none }, w'.heap[k]? = w.heap[k]?)
    (hn : w'.ownsRow base 79 2 (.slice a l.length c) l.length (l.flatMap cellsPrt)) (hj : ∀ j, a.map (·.block) = some j → j ∉ rowsOf { S with ua := none }) : OwnSto base w' { S with ua := a, uc := c, used := l } :=
  ⟨own_keep h.last fun k e => hk k (rows_la (S := { S with ua := none }) e), own_keep h.given fun k e => hk k (rows_ga (S := { S with ua := none }) e), own_keep h.heaps fun k e => hk k (rows_ha (S := { S with ua := none }) e),
    fun x hx => own_keep (h.parts x hx) fun k e => hk k (rows_pa (S := { S with ua := none }) hx e), hn, own_keep h.waste fun k e => hk k (rows_wa (S := { S with ua := none }) e), h.names, apart_ua h.apart hj⟩
theorem OwnSto.setWaste {base : Nat} {w w' : World} {S : Sto} {a : Option Addr} {c : Nat} {l : List Prt} (h : OwnSto base w S) (hk : ∀ k ∈ rowsOf { S with wa := none }, w'.heap[k]? = w.heap[k]?)
    (hn : w'.ownsRow base 79 2 (.slice a l.length c) l.length (l.flatMap cellsPrt)) (hj : ∀ j, a.map (·.block) = some j → j ∉ rowsOf { S with wa := none }) : OwnSto base w' { S with wa := a, wc := c, waste := l } :=
  ⟨own_keep h.last fun k e => hk k (rows_la (S := { S with wa := none }) e), own_keep h.given fun k e => hk k (rows_ga (S := { S with wa := none }) e), own_keep h.heaps fun k e => hk k (rows_ha (S := { S with wa := none }) e),
    fun x hx => own_keep (h.parts x hx) fun k e => hk k (rows_pa (S := { S with wa := none }) hx e), own_keep h.used fun k e => hk k (rows_ua (S := { S with wa := none }) e), hn, h.names, apart_wa h.apart hj⟩
theorem OwnSto.setLast {base : Nat} {w w' : World} {S : Sto} {a : Option Addr} {c : Nat} {l : List Int} (h : OwnSto base w S) (hk : ∀ k ∈ rowsOf { S with la := none }, w'.heap[k]? = w.heap[k]?)
    (hn : w'.ownsRow base 3 1 (.slice a l.length c) l.length (l.flatMap cellsI)) (hj : ∀ j, a.map (·.block) = some j → j ∉ rowsOf { S with la := none }) : OwnSto base w' { S with la := a, lc := c, last := l } :=
  ⟨hn, own_keep h.given fun k e => hk k (rows_ga (S := { S with la := none }) e), own_keep h.heaps fun k e => hk k (rows_ha (S := { S with la := none }) e),
    fun x hx => own_keep (h.parts x hx) fun k e => hk k (rows_pa (S := { S with la := none }) hx e), own_keep h.used fun k e => hk k (rows_ua (S := { S with la := none }) e), own_keep h.waste fun k e => hk k (rows_wa (S := { S with la := none }) e), h.names, apart_la h.apart hj⟩
theorem OwnSto.setGiven {base : Nat} {w w' : World} {S : Sto} {a : Option Addr} {c : Nat} {l : List Int} (h : OwnSto base w S) (hk : ∀ k ∈ rowsOf { S with ga := none }, w'.heap[k]? = w.heap[k]?)
    (hn : w'.ownsRow base 3 1 (.slice a l.length c) l.length (l.flatMap cellsI)) (hj : ∀ j, a.map (·.block) = some j → j ∉ rowsOf { S with ga := none }) : OwnSto base w' { S with ga := a, gc := c, given := l } :=
  ⟨own_keep h.last fun k e => hk k (rows_la (S := { S with ga := none }) e), hn, own_keep h.heaps fun k e => hk k (rows_ha (S := { S with ga := none }) e),
    fun x hx => own_keep (h.parts x hx) fun k e => hk k (rows_pa (S := { S with ga := none }) hx e), own_keep h.used fun k e => hk k (rows_ua (S := { S with ga := none }) e), own_keep h.waste fun k e => hk k (rows_wa (S := { S with ga := none }) e), h.names, apart_ga h.apart hj⟩
theorem OwnSto.setYear {base : Nat} {w : World} {S : Sto} (h : OwnSto base w S) (y : Int) : OwnSto base w { S with year := y } := ⟨h.last, h.given, h.heaps, h.parts, h.used, h.waste, h.names, h.apart⟩
/-- The heaps' row changed, their parts where they were, or one of them elsewhere, or gone, or new: all told by what the new heaps are. -/
theorem OwnSto.setHeaps {base : Nat} {w w' : World} {S : Sto} {a : Option Addr} {c : Nat} {H : List Hep} (h : OwnSto base w S) (hk : ∀ k ∈ rowsOf { S with ha := none, heaps := [] }, w'.heap[k]? = w.heap[k]?)
    (hn : w'.ownsRow base 53 7 (.slice a H.length c) H.length (H.flatMap cellsHep)) (hp : ∀ x ∈ H, w'.ownsRow base 79 2 (.slice x.pa x.parts.length x.pc) x.parts.length (x.parts.flatMap cellsPrt)) (hm : ∀ x ∈ H, x.name.size ≤ maxLen)
    (ha : (rowsOf { S with ha := a, heaps := H }).Nodup) : OwnSto base w' { S with ha := a, hc := c, heaps := H } :=
  ⟨own_keep h.last fun k e => hk k (rows_la (S := { S with ha := none, heaps := [] }) e), own_keep h.given fun k e => hk k (rows_ga (S := { S with ha := none, heaps := [] }) e), hn, hp,
    own_keep h.used fun k e => hk k (rows_ua (S := { S with ha := none, heaps := [] }) e), own_keep h.waste fun k e => hk k (rows_wa (S := { S with ha := none, heaps := [] }) e), hm, ha⟩
/-- Rows of a part of the store are rows of it. -/
theorem rows_noheaps {S : Sto} : ∀ k ∈ rowsOf { S with ha := none, heaps := [] }, k ∈ rowsOf { S with ha := none } := fun k hk => by
  simp only [rowsOf, List.map_nil, List.append_nil, List.mem_filterMap] at hk ⊢
  obtain ⟨a, ha, e⟩ := hk
  exact ⟨a, List.mem_append_left _ ha, e⟩
theorem rows_noha {S : Sto} : ∀ k ∈ rowsOf { S with ha := none }, k ∈ rowsOf S := fun k hk => by
  simp only [rowsOf, List.mem_filterMap, List.mem_append, List.mem_cons] at hk ⊢
  obtain ⟨a, ha, e⟩ := hk
  refine ⟨a, ?_, e⟩
  rcases ha with (h | h | h | h | h | h) | h
  · exact .inl (.inl h)
  · exact .inl (.inr (.inl h))
  · subst h; cases e
  · exact .inl (.inr (.inr (.inr (.inl h))))
  · exact .inl (.inr (.inr (.inr (.inr (.inl h)))))
  · exact .inl (.inr (.inr (.inr (.inr (.inr h)))))
  · exact .inr h
theorem rows_noua {S : Sto} : ∀ k ∈ rowsOf { S with ua := none }, k ∈ rowsOf S := fun k hk => by
  simp only [rowsOf, List.mem_filterMap, List.mem_append, List.mem_cons] at hk ⊢
  obtain ⟨a, ha, e⟩ := hk
  refine ⟨a, ?_, e⟩
  rcases ha with (h | h | h | h | h | h) | h
  · exact .inl (.inl h)
  · exact .inl (.inr (.inl h))
  · exact .inl (.inr (.inr (.inl h)))
  · subst h; cases e
  · exact .inl (.inr (.inr (.inr (.inr (.inl h)))))
  · exact .inl (.inr (.inr (.inr (.inr (.inr h)))))
  · exact .inr h
theorem rows_nowa {S : Sto} : ∀ k ∈ rowsOf { S with wa := none }, k ∈ rowsOf S := fun k hk => by
  simp only [rowsOf, List.mem_filterMap, List.mem_append, List.mem_cons] at hk ⊢
  obtain ⟨a, ha, e⟩ := hk
  refine ⟨a, ?_, e⟩
  rcases ha with (h | h | h | h | h | h) | h
  · exact .inl (.inl h)
  · exact .inl (.inr (.inl h))
  · exact .inl (.inr (.inr (.inl h)))
  · exact .inl (.inr (.inr (.inr (.inl h))))
  · subst h; cases e
  · exact .inl (.inr (.inr (.inr (.inr (.inr h)))))
  · exact .inr h

end Go.Proofs.YtfhalmlpnoepcaaGreat
