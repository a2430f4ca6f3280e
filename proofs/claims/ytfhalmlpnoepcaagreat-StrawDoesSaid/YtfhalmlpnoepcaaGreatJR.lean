/- What chores do, as a function on lists. -/
import Derived.Test.YtfhalmlpnoepcaaGreatGV
import Derived.Test.YtfhalmlpnoepcaaGreatGZ
import Derived.Test.YtfhalmlpnoepcaaGreatGL
import Derived.Test.YtfhalmlpnoepcaaGreatJG
namespace Go.Proofs.YtfhalmlpnoepcaaGreat
open Go.RowKit

/-- The first loads of a heap are gone; a heap without loads is gone. -/
def moveH (hs : List Hep) (i : Nat) (n : Int) : List Hep := match hs[i]? with
  | some h => if cutR n h.parts = [] then hs.eraseIdx i else hs.set i { h with parts := cutR n h.parts }
  | none => hs
def intAt (l : List Int) (i : Nat) : Int := l[i]?.getD 0
def allM (S : Sto) : Int := loadsM S.used + loadsM S.waste + heapsM S.heaps
def yearD (S : Sto) : Int × Sto := if S.year < 100 then (0, { S with year := S.year + 1 }) else (3, S)
def cutD (F : Frm) (S : Sto) (a : Chr) : Int × Sto :=
  if isFromB a.plot 0 ((F.ps.length : Int) - 1) = false then (7, S) else if nameB a.name = false then (5, S) else if 0 ≤ idxH S.heaps a.name then (6, S) else
    if ¬ (intAt S.last a.plot.toNat < 0 ∨ intAt S.last a.plot.toNat ≤ S.year - (pltAt F.ps a.plot.toNat).rest) then (8, S) else
    if ¬ (a.loads ≠ 0 ∧ isFromB a.loads ((pltAt F.ps a.plot.toNat).size * (pltAt F.ps a.plot.toNat).ylo) ((pltAt F.ps a.plot.toNat).size * (pltAt F.ps a.plot.toNat).yhi) = true) then (1, S) else
    if ¬ ((S.heaps.length : Int) < 16 ∧ allM S + a.loads ≤ 100000) then (3, S) else
    (0, { S with last := S.last.set a.plot.toNat S.year, given := S.given.set a.plot.toNat (intAt S.given a.plot.toNat + a.loads), heaps := S.heaps ++ [⟨a.name, (pltAt F.ps a.plot.toNat).crop, 1, none, 0, [⟨a.plot, a.loads⟩], 0, (pltAt F.ps a.plot.toNat).wlo, (pltAt F.ps a.plot.toNat).whi⟩] })
def noHep : Hep := ⟨.empty, 0, 0, none, 0, [], 0, 0, 0⟩
def hepAt (S : Sto) (nm : ByteArray) : Hep := S.heaps[(idxH S.heaps nm).toNat]?.getD noHep
def dryD (S : Sto) (a : Chr) : Int × Sto :=
  if idxH S.heaps a.name < 0 then (7, S) else if (hepAt S a.name).stage = 3 then (8, S) else if ¬ (isFromB a.days 0 365 = true ∧ isSpanB a.rlo a.rhi 0 100 = true) then (1, S) else
    (0, { S with heaps := S.heaps.set (idxH S.heaps a.name).toNat { hepAt S a.name with wlo := moistM ((hepAt S a.name).wlo - 20 * a.days + 5 * a.rlo), whi := moistM ((hepAt S a.name).whi - 10 * a.days + 15 * a.rhi) } })
def combD (F : Frm) (S : Sto) (a : Chr) : Int × Sto :=
  if idxH S.heaps a.name < 0 then (7, S) else if ¬ ((hepAt S a.name).stage = 1 ∧ (hepAt S a.name).whi ≤ F.dry) then (8, S) else if isFromB a.loads 0 (loadsM (hepAt S a.name).parts - 1) = false then (1, S) else
    (0, { S with waste := putL S.waste (cutT a.loads (hepAt S a.name).parts), heaps := moveH (S.heaps.set (idxH S.heaps a.name).toNat { hepAt S a.name with stage := 2 }) (idxH S.heaps a.name).toNat a.loads })
def joinD (S : Sto) (a : Chr) : Int × Sto :=
  if idxH S.heaps a.name < 0 then (7, S) else if idxH S.heaps a.other < 0 then (7, S) else if idxH S.heaps a.name = idxH S.heaps a.other then (10, S) else
    if ¬ ((hepAt S a.name).crop = (hepAt S a.other).crop ∧ (hepAt S a.name).stage = (hepAt S a.other).stage ∧ (hepAt S a.name).stage ≠ 3) then (8, S) else
    (0, { S with heaps := (S.heaps.set (idxH S.heaps a.name).toNat { hepAt S a.name with parts := putL (hepAt S a.name).parts (hepAt S a.other).parts, wlo := min (hepAt S a.name).wlo (hepAt S a.other).wlo, whi := max (hepAt S a.name).whi (hepAt S a.other).whi }).eraseIdx (idxH S.heaps a.other).toNat })
def bindD (F : Frm) (S : Sto) (a : Chr) : Int × Sto :=
  if idxH S.heaps a.name < 0 then (7, S) else if nameB a.other = false then (5, S) else if 0 ≤ idxH S.heaps a.other then (6, S) else if ¬ ((hepAt S a.name).stage = 2 ∧ (hepAt S a.name).whi ≤ F.dry) then (8, S) else
    if isFromB a.per 1 100 = false then (1, S) else if loadsM (hepAt S a.name).parts < a.per then (9, S) else if ¬ (loadsM (hepAt S a.name).parts % a.per = 0 ∨ (S.heaps.length : Int) < 16) then (3, S) else
    (0, { S with heaps := moveH S.heaps (idxH S.heaps a.name).toNat (loadsM (hepAt S a.name).parts - loadsM (hepAt S a.name).parts % a.per) ++
      [⟨a.other, (hepAt S a.name).crop, 3, none, 0, cutT (loadsM (hepAt S a.name).parts - loadsM (hepAt S a.name).parts % a.per) (hepAt S a.name).parts, a.per, (hepAt S a.name).wlo, (hepAt S a.name).whi⟩] })
def useD (S : Sto) (a : Chr) : Int × Sto :=
  if idxH S.heaps a.name < 0 then (7, S) else if (hepAt S a.name).stage ≠ 3 then (8, S) else if isFromB a.loads 1 (loadsM (hepAt S a.name).parts / (hepAt S a.name).per) = false then (1, S) else
    (0, { S with used := putL S.used (cutT (a.loads * (hepAt S a.name).per) (hepAt S a.name).parts), heaps := moveH S.heaps (idxH S.heaps a.name).toNat (a.loads * (hepAt S a.name).per) })
def rotD (F : Frm) (S : Sto) (a : Chr) : Int × Sto :=
  if idxH S.heaps a.name < 0 then (7, S) else if (hepAt S a.name).whi ≤ F.dry then (8, S) else
    (0, { S with waste := putL S.waste (cutT (loadsM (hepAt S a.name).parts) (hepAt S a.name).parts), heaps := moveH S.heaps (idxH S.heaps a.name).toNat (loadsM (hepAt S a.name).parts) })
/-- A chore and what its kind names read alike. -/
def chrB (a b : Chr) : Bool := a.kind == b.kind && (a.plot == b.plot && (a.loads == b.loads && (strB a.name b.name && (strB a.other b.other && (a.days == b.days && (a.per == b.per && (a.rlo == b.rlo && a.rhi == b.rhi)))))))
def choreD (F : Frm) (S : Sto) (a : Chr) : Int × Sto :=
  if a.kind = 1 then yearD S else if a.kind = 2 then cutD F S a else if a.kind = 3 then dryD S a else if a.kind = 4 then combD F S a else if a.kind = 5 then joinD S a else if a.kind = 6 then bindD F S a else if a.kind = 7 then useD S a else rotD F S a
def doD (F : Frm) (S : Sto) (a : Chr) : Int × Sto :=
  if ¬ storeE F S = 0 then (storeE F S, S) else if ¬ (1 ≤ a.kind ∧ a.kind ≤ 8 ∧ chrB a (namedM a) = true) then (1, S) else choreD F S a

theorem idxH_at {l : List Hep} {nm : ByteArray} (h : 0 ≤ idxH l nm) : ∃ (i : Nat) (x : Hep), idxH l nm = i ∧ i < l.length ∧ l[i]? = some x ∧ strB x.name nm = true := by
  unfold idxH at h ⊢
  cases hf : l.findIdx? (fun h => strB h.name nm) with
  | none => rw [hf] at h; simp at h
  | some k =>
    obtain ⟨hk, hs, _⟩ := List.findIdx?_eq_some_iff_getElem.1 hf
    exact ⟨k, l[k], rfl, hk, List.getElem?_eq_getElem hk, hs⟩
theorem hepAt_of {S : Sto} {nm : ByteArray} {i : Nat} {x : Hep} (h1 : idxH S.heaps nm = i) (h2 : S.heaps[i]? = some x) : hepAt S nm = x := by
  unfold hepAt; rw [h1]; simp [h2]

theorem SameHep.refl (h : Hep) : SameHep h h := ⟨rfl, rfl, rfl, rfl, rfl, rfl, rfl⟩
theorem SameSto.refl (S : Sto) : SameSto S S := ⟨rfl, rfl, rfl, rfl, rfl, rfl, fun i g h hg hh => by rw [hg] at hh; cases hh; exact SameHep.refl _⟩
/-- Two lists of heaps that read alike. -/
def sameH (l m : List Hep) : Prop := l.length = m.length ∧ ∀ (i : Nat) (g h : Hep), l[i]? = some g → m[i]? = some h → SameHep g h
theorem SameSto.sameH {S T : Sto} (h : SameSto S T) : sameH S.heaps T.heaps := ⟨h.many, h.heaps⟩
theorem sameH.get {l m : List Hep} (h : sameH l m) {i : Nat} {g : Hep} (hg : l[i]? = some g) : ∃ x, m[i]? = some x ∧ SameHep g x := by
  have hi : i < m.length := by rw [← h.1]; exact (List.getElem?_eq_some_iff.1 hg).1
  exact ⟨m[i], List.getElem?_eq_getElem hi, h.2 i g _ hg (List.getElem?_eq_getElem hi)⟩
theorem sameH.refl (l : List Hep) : Go.Proofs.YtfhalmlpnoepcaaGreat.sameH l l := ⟨rfl, fun i g h hg hh => by rw [hg] at hh; cases hh; exact SameHep.refl _⟩
theorem SameHep.symm {g h : Hep} (k : SameHep g h) : SameHep h g := ⟨k.name.symm, k.crop.symm, k.stage.symm, k.parts.symm, k.per.symm, k.wlo.symm, k.whi.symm⟩
theorem SameHep.trans {g h x : Hep} (k : SameHep g h) (m : SameHep h x) : SameHep g x := ⟨k.name.trans m.name, k.crop.trans m.crop, k.stage.trans m.stage, k.parts.trans m.parts, k.per.trans m.per, k.wlo.trans m.wlo, k.whi.trans m.whi⟩
theorem sameH.symm {l m : List Hep} (h : sameH l m) : Go.Proofs.YtfhalmlpnoepcaaGreat.sameH m l := ⟨h.1.symm, fun i g x hg hx => (h.2 i x g hx hg).symm⟩
theorem sameH.trans {l m n : List Hep} (h : sameH l m) (k : Go.Proofs.YtfhalmlpnoepcaaGreat.sameH m n) : Go.Proofs.YtfhalmlpnoepcaaGreat.sameH l n := ⟨h.1.trans k.1, fun i g x hg hx => by
  obtain ⟨y, hy, hgy⟩ := h.get hg
  exact hgy.trans (k.2 i y x hy hx)⟩
theorem SameSto.symm {S T : Sto} (h : SameSto S T) : SameSto T S := ⟨h.year.symm, h.last.symm, h.given.symm, h.used.symm, h.waste.symm, h.many.symm, h.sameH.symm.2⟩
theorem SameSto.trans {S T U : Sto} (h : SameSto S T) (k : SameSto T U) : SameSto S U := ⟨h.year.trans k.year, h.last.trans k.last, h.given.trans k.given, h.used.trans k.used, h.waste.trans k.waste, h.many.trans k.many, (h.sameH.trans k.sameH).2⟩
theorem sameH.set {l m : List Hep} (h : sameH l m) (i : Nat) {x y : Hep} (hx : SameHep x y) : Go.Proofs.YtfhalmlpnoepcaaGreat.sameH (l.set i x) (m.set i y) := by
  refine ⟨by simp [h.1], fun j g k hg hk => ?_⟩
  rw [List.getElem?_set] at hg hk
  split at hg
  · next e =>
    rw [if_pos e] at hk
    split at hg
    · split at hk
      · cases hg; cases hk; exact hx
      · cases hk
    · cases hg
  · next e =>
    rw [if_neg e] at hk
    exact h.2 j g k hg hk
theorem sameH.erase {l m : List Hep} (h : sameH l m) (i : Nat) : Go.Proofs.YtfhalmlpnoepcaaGreat.sameH (l.eraseIdx i) (m.eraseIdx i) := by
  refine ⟨by rw [List.length_eraseIdx, List.length_eraseIdx, h.1], fun j g k hg hk => ?_⟩
  rw [List.getElem?_eraseIdx] at hg hk
  split at hg
  · next e => rw [if_pos e] at hk; exact h.2 _ g k hg hk
  · next e => rw [if_neg e] at hk; exact h.2 _ g k hg hk
theorem sameH.append {l m : List Hep} (h : sameH l m) {x y : Hep} (hx : SameHep x y) : Go.Proofs.YtfhalmlpnoepcaaGreat.sameH (l ++ [x]) (m ++ [y]) := by
  refine ⟨by simp [h.1], fun j g k hg hk => ?_⟩
  rcases Nat.lt_or_ge j l.length with hj | hj
  · rw [List.getElem?_append_left hj] at hg
    rw [List.getElem?_append_left (by rw [← h.1]; exact hj)] at hk
    exact h.2 j g k hg hk
  · rw [List.getElem?_append_right hj] at hg
    rw [List.getElem?_append_right (by rw [← h.1]; exact hj)] at hk
    rw [h.1] at hg
    cases hn : j - m.length with
    | zero => rw [hn] at hg hk; simp at hg hk; subst hg; subst hk; exact hx
    | succ n => rw [hn] at hg; simp at hg
theorem sameH.move {l m : List Hep} (h : sameH l m) (i : Nat) (n : Int) : Go.Proofs.YtfhalmlpnoepcaaGreat.sameH (moveH l i n) (moveH m i n) := by
  unfold moveH
  cases hl : l[i]? with
  | none =>
    have : m[i]? = none := by
      rw [List.getElem?_eq_none_iff] at hl ⊢
      rw [← h.1]; exact hl
    rw [this]; exact h
  | some g =>
    obtain ⟨x, hx, hgx⟩ := h.get hl
    rw [hx]
    simp only [hgx.parts]
    split
    · exact h.erase i
    · exact h.set i ⟨hgx.name, hgx.crop, hgx.stage, rfl, hgx.per, hgx.wlo, hgx.whi⟩

end Go.Proofs.YtfhalmlpnoepcaaGreat
