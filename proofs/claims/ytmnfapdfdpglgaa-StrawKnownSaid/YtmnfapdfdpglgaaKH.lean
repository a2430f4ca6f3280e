/- What chores do hangs on what a store reads, not on where it lies. -/
import Derived.Test.YtmnfapdfdpglgaaJR
set_option linter.unusedSimpArgs false
namespace Go.Proofs.Ytmnfapdfdpglgaa
open Go.RowKit

theorem sameH_cons {x y : Hep} {l m : List Hep} (h : sameH (x :: l) (y :: m)) : SameHep x y ∧ sameH l m :=
  ⟨h.2 0 x y rfl rfl, by simpa using h.1, fun i g k hg hk => h.2 (i + 1) g k (by simpa using hg) (by simpa using hk)⟩
theorem sameH_fold {α : Type} (f : Hep → α) (hf : ∀ x y, SameHep x y → f x = f y) : ∀ {l m : List Hep}, sameH l m → l.map f = m.map f
  | [], [], _ => rfl
  | [], _ :: _, h => by have := h.1; simp at this
  | _ :: _, [], h => by have := h.1; simp at this
  | x :: l, y :: m, h => by
    obtain ⟨h1, h2⟩ := sameH_cons h
    rw [List.map_cons, List.map_cons, hf x y h1, sameH_fold f hf h2]
theorem same_idx {l m : List Hep} (h : sameH l m) (nm : ByteArray) : idxH l nm = idxH m nm := by
  have h1 := sameH_fold (fun x : Hep => x.name) (fun _ _ k => k.name) h
  have key : ∀ l : List Hep, l.findIdx? (fun h => strB h.name nm) = (l.map (·.name)).findIdx? (fun s => strB s nm) := fun l => by rw [List.findIdx?_map]; rfl
  unfold idxH
  rw [key l, key m, h1]
theorem same_left {l m : List Hep} (h : sameH l m) (i : Int) : leftM i l = leftM i m := by
  induction l generalizing m with
  | nil => cases m with
    | nil => rfl
    | cons _ _ => have := h.1; simp at this
  | cons x l ih => cases m with
    | nil => have := h.1; simp at this
    | cons y m =>
      obtain ⟨h1, h2⟩ := sameH_cons h
      simp only [leftM, h1.parts, ih h2]
theorem same_heaps {l m : List Hep} (h : sameH l m) : heapsM l = heapsM m := by
  induction l generalizing m with
  | nil => cases m with
    | nil => rfl
    | cons _ _ => have := h.1; simp at this
  | cons x l ih => cases m with
    | nil => have := h.1; simp at this
    | cons y m =>
      obtain ⟨h1, h2⟩ := sameH_cons h
      simp only [heapsM, h1.parts, ih h2]
theorem sameH.take {l m : List Hep} (h : sameH l m) (i : Nat) : Go.Proofs.Ytmnfapdfdpglgaa.sameH (l.take i) (m.take i) := by
  refine ⟨by rw [List.length_take, List.length_take, h.1], fun j g k hg hk => ?_⟩
  rw [List.getElem?_take] at hg hk
  split at hg
  · next e => rw [if_pos e] at hk; exact h.2 j g k hg hk
  · cases hg
theorem same_heapB {ps : List Plt} {x y : Hep} (h : SameHep x y) : heapB ps x = heapB ps y := by
  unfold heapB
  rw [h.name, h.crop, h.stage, h.wlo, h.whi, h.parts, h.per]
theorem same_heapsB {ps : List Plt} {l m : List Hep} (h : sameH l m) : heapsB ps l = heapsB ps m := by
  unfold heapsB
  rw [h.1]
  congr 1
  have : heapAt ps l = heapAt ps m := by
    funext i
    unfold heapAt
    cases hl : l[i]? with
    | none =>
      have : m[i]? = none := by rw [List.getElem?_eq_none_iff] at hl ⊢; rw [← h.1]; exact hl
      rw [this]
    | some x =>
      obtain ⟨y, hy, hxy⟩ := h.get hl
      rw [hy]
      simp only [same_idx (h.take i), hxy.name, same_heapB hxy]
  rw [this]
theorem same_there {l m : List Hep} (h : sameH l m) (used waste : List Prt) : thereM used l waste = thereM used m waste := by
  funext i
  unfold thereM
  rw [same_left h]
theorem same_storeE {F : Frm} {S T : Sto} (h : SameSto S T) : storeE F S = storeE F T := by
  unfold storeE mayB balB
  rw [h.year, h.last, h.given, h.used, h.waste, same_heapsB h.sameH, same_there h.sameH]
theorem same_fit {S T : Sto} (h : SameSto S T) (hf : T.fit) : S.fit :=
  ⟨by rw [h.used]; exact hf.used, by rw [h.waste]; exact hf.waste, by rw [h.many]; exact hf.heaps, fun x hx => by
    obtain ⟨i, hi, rfl⟩ := List.getElem_of_mem hx
    obtain ⟨y, hy, hxy⟩ := h.sameH.get (List.getElem?_eq_getElem hi)
    rw [hxy.parts]
    exact hf.parts y (List.mem_of_getElem? hy)⟩
theorem same_hep {S T : Sto} (h : SameSto S T) (nm : ByteArray) : SameHep (hepAt S nm) (hepAt T nm) := by
  unfold hepAt
  rw [same_idx h.sameH nm]
  cases hl : S.heaps[(idxH T.heaps nm).toNat]? with
  | none =>
    have : T.heaps[(idxH T.heaps nm).toNat]? = none := by rw [List.getElem?_eq_none_iff] at hl ⊢; rw [← h.many]; exact hl
    rw [this]
    exact SameHep.refl _
  | some x =>
    obtain ⟨y, hy, hxy⟩ := h.sameH.get hl
    rw [hy]
    exact hxy
def SameR (r q : Int × Sto) : Prop := r.1 = q.1 ∧ SameSto r.2 q.2
theorem SameSto.withHeaps {S T : Sto} (h : SameSto S T) {l m : List Hep} (hl : Go.Proofs.Ytmnfapdfdpglgaa.sameH l m) : SameSto { S with heaps := l } { T with heaps := m } := ⟨h.year, h.last, h.given, h.used, h.waste, hl.1, hl.2⟩
theorem same_all {S T : Sto} (h : SameSto S T) : allM S = allM T := by unfold allM; rw [h.used, h.waste, same_heaps h.sameH]
theorem same_year {S T : Sto} (h : SameSto S T) : SameR (yearD S) (yearD T) := by
  unfold yearD SameR
  rw [h.year]
  split
  · exact ⟨rfl, rfl, h.last, h.given, h.used, h.waste, h.many, h.heaps⟩
  · exact ⟨rfl, h⟩
theorem same_cut {F : Frm} {S T : Sto} (h : SameSto S T) (a : Chr) : SameR (cutD F S a) (cutD F T a) := by
  unfold cutD SameR
  rw [same_idx h.sameH, h.last, h.given, h.year, h.many, same_all h]
  repeat' split
  all_goals first
    | exact ⟨rfl, h⟩
    | exact ⟨rfl, rfl, rfl, rfl, h.used, h.waste, (h.sameH.append (SameHep.refl _)).1, (h.sameH.append (SameHep.refl _)).2⟩
theorem same_dry {S T : Sto} (h : SameSto S T) (a : Chr) : SameR (dryD S a) (dryD T a) := by
  have hh := same_hep h a.name
  unfold dryD SameR
  rw [same_idx h.sameH, hh.stage, hh.wlo, hh.whi]
  repeat' split
  all_goals first
    | exact ⟨rfl, h⟩
    | exact ⟨rfl, h.withHeaps (h.sameH.set _ ⟨hh.name, hh.crop, hh.stage, hh.parts, hh.per, rfl, rfl⟩)⟩
theorem same_comb {F : Frm} {S T : Sto} (h : SameSto S T) (a : Chr) : SameR (combD F S a) (combD F T a) := by
  have hh := same_hep h a.name
  unfold combD SameR
  rw [same_idx h.sameH, hh.stage, hh.whi, hh.parts, h.waste]
  have hm : sameH (moveH (S.heaps.set (idxH T.heaps a.name).toNat { hepAt S a.name with stage := 2 }) (idxH T.heaps a.name).toNat a.loads) (moveH (T.heaps.set (idxH T.heaps a.name).toNat { hepAt T a.name with stage := 2 }) (idxH T.heaps a.name).toNat a.loads) :=
    sameH.move (sameH.set h.sameH _ (x := { hepAt S a.name with stage := 2 }) (y := { hepAt T a.name with stage := 2 }) ⟨hh.name, hh.crop, rfl, hh.parts, hh.per, hh.wlo, hh.whi⟩) _ _
  repeat' split
  all_goals first
    | exact ⟨rfl, h⟩
    | exact ⟨rfl, h.year, h.last, h.given, h.used, rfl, hm.1, hm.2⟩
theorem same_join {S T : Sto} (h : SameSto S T) (a : Chr) : SameR (joinD S a) (joinD T a) := by
  have hh := same_hep h a.name
  have hk := same_hep h a.other
  unfold joinD SameR
  rw [same_idx h.sameH a.name, same_idx h.sameH a.other, hh.stage, hh.crop, hk.stage, hk.crop, hh.parts, hk.parts, hh.wlo, hh.whi, hk.wlo, hk.whi]
  repeat' split
  all_goals first
    | exact ⟨rfl, h⟩
    | (refine ⟨rfl, h.withHeaps (sameH.erase (sameH.set h.sameH _ ?_) _)⟩; exact ⟨hh.name, hh.crop, hh.stage, rfl, hh.per, rfl, rfl⟩)
theorem same_bind {F : Frm} {S T : Sto} (h : SameSto S T) (a : Chr) : SameR (bindD F S a) (bindD F T a) := by
  have hh := same_hep h a.name
  unfold bindD SameR
  rw [same_idx h.sameH a.name, same_idx h.sameH a.other, hh.stage, hh.crop, hh.parts, hh.wlo, hh.whi, h.many]
  repeat' split
  all_goals first
    | exact ⟨rfl, h⟩
    | exact ⟨rfl, h.withHeaps ((h.sameH.move _ _).append (SameHep.refl _))⟩
theorem same_use {S T : Sto} (h : SameSto S T) (a : Chr) : SameR (useD S a) (useD T a) := by
  have hh := same_hep h a.name
  unfold useD SameR
  rw [same_idx h.sameH a.name, hh.stage, hh.parts, hh.per, h.used]
  have hm := h.sameH.move (idxH T.heaps a.name).toNat (a.loads * (hepAt T a.name).per)
  repeat' split
  all_goals first
    | exact ⟨rfl, h⟩
    | exact ⟨rfl, h.year, h.last, h.given, rfl, h.waste, hm.1, hm.2⟩
theorem same_rot {F : Frm} {S T : Sto} (h : SameSto S T) (a : Chr) : SameR (rotD F S a) (rotD F T a) := by
  have hh := same_hep h a.name
  unfold rotD SameR
  rw [same_idx h.sameH a.name, hh.whi, hh.parts, h.waste]
  have hm := h.sameH.move (idxH T.heaps a.name).toNat (loadsM (hepAt T a.name).parts)
  repeat' split
  all_goals first
    | exact ⟨rfl, h⟩
    | exact ⟨rfl, h.year, h.last, h.given, h.used, rfl, hm.1, hm.2⟩
theorem same_chore {F : Frm} {S T : Sto} (h : SameSto S T) (a : Chr) : SameR (choreD F S a) (choreD F T a) := by
  unfold choreD
  repeat' split
  · exact same_year h
  · exact same_cut h a
  · exact same_dry h a
  · exact same_comb h a
  · exact same_join h a
  · exact same_bind h a
  · exact same_use h a
  · exact same_rot h a
theorem same_do {F : Frm} {S T : Sto} (h : SameSto S T) (a : Chr) : SameR (doD F S a) (doD F T a) := by
  unfold doD
  rw [same_storeE h]
  split
  · exact ⟨rfl, h⟩
  · split
    · exact ⟨rfl, h⟩
    · exact same_chore h a
end Go.Proofs.Ytmnfapdfdpglgaa
