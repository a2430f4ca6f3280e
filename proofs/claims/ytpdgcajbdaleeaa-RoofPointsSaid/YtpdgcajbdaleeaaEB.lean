/- Mathematics of the specification's checks of a roof: convex outlines, points, openings, faces side by side. No condition. -/
import Derived.Test.YtpdgcajbdaleeaaR
set_option linter.unusedSimpArgs false
namespace Go.Proofs.Ytpdgcajbdaleeaa

theorem side_cyc (a b c : Pnt) : (Edg.mk a b).side c = (Edg.mk b c).side a := by simp only [Edg.side]; grind
theorem side_anti (a b c : Pnt) : (Edg.mk a b).side c = -((Edg.mk a c).side b) := by simp only [Edg.side]; grind
theorem side_self (a b : Pnt) : (Edg.mk a b).side a = 0 := by simp only [Edg.side]; grind
theorem side_end (a b : Pnt) : (Edg.mk a b).side b = 0 := by simp only [Edg.side]; grind
theorem side_flat {a b p q r : Pnt} (hne : a ≠ b) (h1 : (Edg.mk a b).side p = 0) (h2 : (Edg.mk a b).side q = 0) (h3 : (Edg.mk a b).side r = 0) : (Edg.mk p q).side r = 0 := by
  have e1 : (b.x - a.x) * (Edg.mk p q).side r = (q.x - p.x) * ((Edg.mk a b).side r - (Edg.mk a b).side p) - (r.x - p.x) * ((Edg.mk a b).side q - (Edg.mk a b).side p) := by simp only [Edg.side]; grind
  have e2 : (b.y - a.y) * (Edg.mk p q).side r = (q.y - p.y) * ((Edg.mk a b).side r - (Edg.mk a b).side p) - (r.y - p.y) * ((Edg.mk a b).side q - (Edg.mk a b).side p) := by simp only [Edg.side]; grind
  rw [h1, h2, h3] at e1 e2
  simp only [Int.sub_zero, Int.mul_zero, Int.sub_self] at e1 e2
  rcases Int.mul_eq_zero.1 e1 with h | h
  · rcases Int.mul_eq_zero.1 e2 with k | k
    · exact absurd (show a = b by cases a; cases b; simp only at h k; simp only [Pnt.mk.injEq]; omega) hne
    · exact k
  · exact h

/-- The corner with a number. -/
def cor (l : List Pnt) (i : Nat) : Pnt := l[i]?.getD ⟨0, 0⟩
theorem cor_mem {l : List Pnt} {i : Nat} (h : i < l.length) : cor l i ∈ l := by
  unfold cor
  rw [List.getElem?_eq_getElem h]
  exact List.getElem_mem h
theorem mem_cor {l : List Pnt} {q : Pnt} (h : q ∈ l) : ∃ i, i < l.length ∧ q = cor l i := by
  obtain ⟨i, hi, rfl⟩ := List.getElem_of_mem h
  exact ⟨i, hi, by unfold cor; rw [List.getElem?_eq_getElem hi]; rfl⟩
theorem edgN_cor (l : List Pnt) (i : Nat) : edgN l i = ⟨cor l i, cor l ((i + 1) % l.length)⟩ := rfl
theorem edgN_next (l : List Pnt) (i : Nat) : edgN l ((i + 1) % l.length) = ⟨cor l ((i + 1) % l.length), cor l ((i + 2) % l.length)⟩ := by
  rw [edgN_cor, Nat.mod_add_mod]
theorem leftAll_iff {l : List Pnt} {e : Edg} : leftAll l e = true ↔ ∀ q ∈ l, 0 ≤ e.side q := by simp [leftAll]
theorem flatAll_iff {l : List Pnt} {e : Edg} : flatAll l e = true ↔ ∀ q ∈ l, e.side q = 0 := by simp [flatAll]

theorem all_flat {l : List Pnt} {a b : Pnt} (hne : a ≠ b) (h : ∀ q ∈ l, (Edg.mk a b).side q = 0) : ((List.range l.length).all fun k => flatAll l (edgN l k)) = true := by
  rw [List.all_eq_true]
  intro k hk
  rw [List.mem_range] at hk
  rw [flatAll_iff, edgN_cor]
  intro q hq
  exact side_flat hne (h _ (cor_mem hk)) (h _ (cor_mem (Nat.mod_lt _ (by omega)))) (h _ hq)

/-- An edge that goes back on the one ahead of it. -/
def dotE (a b c : Pnt) : Int := (b.x - a.x) * (c.x - b.x) + (b.y - a.y) * (c.y - b.y)
def spikeB (a b c : Pnt) : Bool := decide ((Edg.mk a b).side c = 0) && decide (dotE a b c < 0)
theorem spike_flat {a b c q : Pnt} (hs : (Edg.mk a b).side c = 0) (hd : dotE a b c < 0) (h1 : 0 ≤ (Edg.mk a b).side q) (h2 : 0 ≤ (Edg.mk b c).side q) : (Edg.mk a b).side q = 0 := by
  have e : ((b.x - a.x) * (b.x - a.x) + (b.y - a.y) * (b.y - a.y)) * (Edg.mk b c).side q = dotE a b c * (Edg.mk a b).side q - ((b.x - a.x) * (q.x - b.x) + (b.y - a.y) * (q.y - b.y)) * (Edg.mk a b).side c := by
    simp only [Edg.side, dotE]; grind
  rw [hs, Int.mul_zero, Int.sub_zero] at e
  have hsq : ∀ x : Int, 0 ≤ x * x := fun x => by
    rcases Int.le_total 0 x with h | h
    · exact Int.mul_nonneg h h
    · exact Int.mul_nonneg_of_nonpos_of_nonpos h h
  have h3 : 0 ≤ ((b.x - a.x) * (b.x - a.x) + (b.y - a.y) * (b.y - a.y)) * (Edg.mk b c).side q := Int.mul_nonneg (by have := hsq (b.x - a.x); have := hsq (b.y - a.y); omega) h2
  rcases Int.lt_or_eq_of_le h1 with h | h
  · have := Int.mul_neg_of_neg_of_pos hd h
    omega
  · exact h.symm
theorem spike_ne {a b c : Pnt} (hd : dotE a b c < 0) : a ≠ b := by
  rintro rfl
  simp [dotE] at hd

/-- The area by the corners ahead of a number, twice. -/
def areaS (l : List Pnt) : Nat → Int
  | 0 => 0
  | i + 1 => areaS l i + (Edg.mk (cor l 0) (cor l i)).side (cor l ((i + 1) % l.length))
/-- What the outline is asked of, beside its corners. -/
def refConv (l : List Pnt) : Bool := ((List.range l.length).all fun i => leftAll l (edgN l i) && !spikeB (cor l i) (cor l ((i + 1) % l.length)) (cor l ((i + 2) % l.length))) && decide (0 < areaS l l.length)

theorem areaS_pos {l : List Pnt} (h : ∀ i, i < l.length → 0 ≤ (edgN l i).side (cor l 0)) : ∀ m, m ≤ l.length → (0 ≤ areaS l m ∧ (0 < areaS l m ↔ ∃ i, i < m ∧ (edgN l i).side (cor l 0) ≠ 0))
  | 0, _ => ⟨Int.le_refl _, by simp [areaS]⟩
  | m + 1, hm => by
    obtain ⟨i1, i2⟩ := areaS_pos h m (by omega)
    have h0 := h m (by omega)
    have e : areaS l (m + 1) = areaS l m + (edgN l m).side (cor l 0) := by
      show areaS l m + _ = _
      rw [side_cyc]
      rfl
    rw [e]
    refine ⟨by omega, fun hp => ?_, fun ⟨i, hi, hn⟩ => ?_⟩
    · by_cases hz : (edgN l m).side (cor l 0) = 0
      · obtain ⟨i, hi, hn⟩ := i2.1 (by omega)
        exact ⟨i, by omega, hn⟩
      · exact ⟨m, by omega, hz⟩
    · by_cases him : i = m
      · have hm' : (edgN l m).side (cor l 0) ≠ 0 := him ▸ hn
        clear i2
        generalize (edgN l m).side (cor l 0) = t at *
        generalize areaS l m = u at *
        omega
      · have := i2.2 ⟨i, by omega, hn⟩
        omega

theorem twice_ne {l : List Pnt} (h : twiceP l = false) {i j : Nat} (hi : i < j) (hj : j < l.length) : cor l i ≠ cor l j := by
  intro e
  have : twiceP l = true := by
    unfold twiceP
    rw [List.any_eq_true]
    refine ⟨j, List.mem_range.2 hj, ?_⟩
    rw [decide_eq_true_iff]
    show cor l j ∈ l.take j
    rw [← e]
    rw [List.mem_take_iff_getElem]
    exact ⟨i, by omega, by unfold cor; rw [List.getElem?_eq_getElem (by omega)]; rfl⟩
  rw [h] at this
  cases this

theorem flat_of_zero {l : List Pnt} (h3 : 3 ≤ l.length) (hd : twiceP l = false) (hz : ∀ i, i < l.length → (edgN l i).side (cor l 0) = 0) : ((List.range l.length).all fun k => flatAll l (edgN l k)) = true := by
  have key : ∀ i, 1 ≤ i → i < l.length → (Edg.mk (cor l 0) (cor l 1)).side (cor l i) = 0 := by
    intro i h1
    induction i with
    | zero => omega
    | succ i ih =>
      intro hi
      by_cases h : i = 0
      · subst h; exact side_end _ _
      have hi' := ih (by omega) (by omega)
      refine side_flat (a := cor l 0) (b := cor l i) (twice_ne hd (by omega) (by omega)) (side_self _ _) ?_ ?_
      · rw [side_anti, hi']; rfl
      · rw [side_cyc]
        have := hz i (by omega)
        rwa [edgN_cor, Nat.mod_eq_of_lt (by omega)] at this
  refine all_flat (a := cor l 0) (b := cor l 1) (twice_ne hd (by omega) (by omega)) fun q hq => ?_
  obtain ⟨i, hi, rfl⟩ := mem_cor hq
  by_cases h : i = 0
  · subst h; exact side_self _ _
  · exact key i (by omega) hi

theorem refConv_eq {l : List Pnt} (h3 : 3 ≤ l.length) (hd : twiceP l = false) : refConv l = convexL l := by
  by_cases hL : ∀ i, i < l.length → leftAll l (edgN l i) = true
  rotate_left
  · obtain ⟨i, hi, h⟩ : ∃ i, i < l.length ∧ leftAll l (edgN l i) ≠ true := by
      false_or_by_contra
      rename_i hc
      exact hL fun i hi => by
        false_or_by_contra
        rename_i hn
        exact hc ⟨i, hi, hn⟩
    have h' : leftAll l (edgN l i) = false := by simpa using h
    have e1 : ((List.range l.length).all fun k => leftAll l (edgN l k)) = false := List.all_eq_false.2 ⟨i, List.mem_range.2 hi, by simp [h']⟩
    have e2 : ((List.range l.length).all fun i => leftAll l (edgN l i) && !spikeB (cor l i) (cor l ((i + 1) % l.length)) (cor l ((i + 2) % l.length))) = false := List.all_eq_false.2 ⟨i, List.mem_range.2 hi, by simp [h']⟩
    unfold refConv convexL
    rw [e1, e2]
    rfl
  have hl : ((List.range l.length).all fun k => leftAll l (edgN l k)) = true := List.all_eq_true.2 fun i hi => hL i (List.mem_range.1 hi)
  have hs := fun i hi => leftAll_iff.1 (hL i hi)
  obtain ⟨_, har⟩ := areaS_pos (fun i hi => hs i hi _ (cor_mem (by omega))) l.length (Nat.le_refl _)
  unfold convexL
  rw [hl, Bool.true_and]
  by_cases hF : ((List.range l.length).all fun k => flatAll l (edgN l k)) = true
  · rw [hF]
    have ha : ¬ 0 < areaS l l.length := fun h => by
      obtain ⟨i, hi, hn⟩ := har.1 h
      exact hn (flatAll_iff.1 (List.all_eq_true.1 hF i (List.mem_range.2 hi)) _ (cor_mem (by omega)))
    unfold refConv
    rw [decide_eq_false ha, Bool.and_false]
    rfl
  · have hF' : ((List.range l.length).all fun k => flatAll l (edgN l k)) = false := by simpa using hF
    rw [hF']
    have ha : 0 < areaS l l.length := by
      false_or_by_contra
      rename_i hn
      refine hF (flat_of_zero h3 hd fun i hi => ?_)
      false_or_by_contra
      rename_i hz
      exact hn (har.2 ⟨i, hi, hz⟩)
    unfold refConv
    rw [decide_eq_true ha, Bool.and_true]
    show _ = true
    rw [List.all_eq_true]
    intro i hi
    have hi' := List.mem_range.1 hi
    rw [hL i hi', Bool.true_and]
    cases hsp : spikeB (cor l i) (cor l ((i + 1) % l.length)) (cor l ((i + 2) % l.length)) with
    | false => rfl
    | true =>
      exfalso
      simp only [spikeB, Bool.and_eq_true, decide_eq_true_eq] at hsp
      refine hF (all_flat (spike_ne hsp.2) fun q hq => spike_flat hsp.1 hsp.2 (hs i hi' q hq) ?_)
      have := hs ((i + 1) % l.length) (Nat.mod_lt _ (by omega)) q hq
      rwa [edgN_next] at this

/-! ### Areas -/
def crossP (a b : Pnt) : Int := a.x * b.y - a.y * b.x
def areaX (l : List Pnt) : Nat → Int
  | 0 => 0
  | i + 1 => areaX l i + crossP (cor l i) (cor l ((i + 1) % l.length))
theorem cross_side (a b c : Pnt) : crossP b c = (Edg.mk a b).side c + crossP a c - crossP a b := by simp only [crossP, Edg.side]; grind
theorem areaX_areaS (l : List Pnt) (h : 1 ≤ l.length) : ∀ m, m ≤ l.length → areaX l m = areaS l m + crossP (cor l 0) (cor l (m % l.length))
  | 0, _ => by
    rw [Nat.zero_mod]
    simp only [areaX, areaS, crossP]
    grind
  | m + 1, hm => by
    have ih := areaX_areaS l h m (by omega)
    rw [Nat.mod_eq_of_lt (show m < l.length by omega)] at ih
    rw [areaX, areaS, ih, cross_side (cor l 0) (cor l m) (cor l ((m + 1) % l.length))]
    omega
theorem areaX_full {l : List Pnt} (h : 1 ≤ l.length) : areaX l l.length = areaS l l.length := by
  rw [areaX_areaS l h _ (Nat.le_refl _), Nat.mod_self]
  simp only [crossP]
  grind
def convX (l : List Pnt) : Bool := ((List.range l.length).all fun i => leftAll l (edgN l i) && !spikeB (cor l i) (cor l ((i + 1) % l.length)) (cor l ((i + 2) % l.length))) && decide (0 < areaX l l.length)
theorem convX_eq {l : List Pnt} (h3 : 3 ≤ l.length) (hd : twiceP l = false) : convX l = convexL l := by
  rw [← refConv_eq h3 hd]
  unfold convX refConv
  rw [areaX_full (by omega)]

/-! ### Edges that have more than one point in common -/
def dotP (a b : Pnt) : Int := a.x * b.x + a.y * b.y
def alongX (e o : Edg) : Bool := (decide (e.side o.a = 0) && decide (e.side o.b = 0)) && decide ((if (if e.along o.a < e.along o.b then e.along o.a else e.along o.b) < 0 then 0 else (if e.along o.a < e.along o.b then e.along o.a else e.along o.b)) < (if e.along e.b < (if e.along o.a < e.along o.b then e.along o.b else e.along o.a) then e.along e.b else (if e.along o.a < e.along o.b then e.along o.b else e.along o.a)))
theorem sq_pos {x : Int} (h : x ≠ 0) : 0 < x * x := by
  rcases Int.lt_or_gt_of_ne h with h1 | h1
  · exact Int.mul_pos_of_neg_of_neg h1 h1
  · exact Int.mul_pos h1 h1
theorem sq_nn (x : Int) : 0 ≤ x * x := by
  by_cases h : x = 0
  · subst h; decide
  · exact Int.le_of_lt (sq_pos h)
theorem along_end_pos {e : Edg} (h : e.a ≠ e.b) : 0 < e.along e.b := by
  obtain ⟨⟨ax, ay⟩, ⟨bx, by'⟩⟩ := e
  simp only [Edg.along]
  have h1 := sq_nn (bx - ax)
  have h2 := sq_nn (by' - ay)
  by_cases hx : bx - ax = 0
  · have hy : by' - ay ≠ 0 := fun hy => h (by simp only [Pnt.mk.injEq]; omega)
    have := sq_pos hy
    omega
  · have := sq_pos hx
    omega
/-- Two points on an edge's line that are equally far along it are one. -/
theorem line_inj {e : Edg} (h : e.a ≠ e.b) {p q : Pnt} (hp : e.side p = 0) (hq : e.side q = 0) (ha : e.along p = e.along q) : p = q := by
  have hpos := along_end_pos h
  obtain ⟨⟨ax, ay⟩, ⟨bx, by'⟩⟩ := e
  obtain ⟨px, py⟩ := p
  obtain ⟨qx, qy⟩ := q
  simp only [Edg.side, Edg.along] at hp hq ha hpos
  obtain ⟨u, hu⟩ : ∃ u, bx - ax = u := ⟨_, rfl⟩
  obtain ⟨v, hv⟩ : ∃ v, by' - ay = v := ⟨_, rfl⟩
  rw [hu, hv] at hp hq ha hpos
  have e1 : (u * u + v * v) * (px - qx) = 0 := by grind
  have e2 : (u * u + v * v) * (py - qy) = 0 := by grind
  have n : u * u + v * v ≠ 0 := by omega
  have f1 := (Int.mul_eq_zero.1 e1).resolve_left n
  have f2 := (Int.mul_eq_zero.1 e2).resolve_left n
  simp only [Pnt.mk.injEq]
  omega
theorem along_over {e o : Edg} (he : e.a ≠ e.b) (ho : o.a ≠ o.b) : alongX e o = overB e o := by
  unfold alongX overB
  by_cases h1 : e.side o.a = 0
  rotate_left
  · simp [h1]
  by_cases h2 : e.side o.b = 0
  rotate_left
  · simp [h2]
  have hne : e.along o.a ≠ e.along o.b := fun h => ho (line_inj he h1 h2 h)
  have hpos := along_end_pos he
  simp only [h1, h2]
  generalize e.along o.a = x at *
  generalize e.along o.b = y at *
  generalize e.along e.b = z at *
  simp only [decide_true, Bool.and_self, beq_self_eq_true, Bool.true_and]
  rw [Bool.eq_iff_iff]
  simp only [decide_eq_true_eq, Bool.and_eq_true, Bool.or_eq_true]
  constructor
  · intro h
    split at h <;> split at h <;> split at h <;> omega
  · intro h
    split <;> split <;> split <;> omega
def likeB (e o : Edg) : Bool := (decide (e.a = o.a) && decide (e.b = o.b)) || (decide (e.a = o.b) && decide (e.b = o.a))
theorem like_clash {e o : Edg} (he : e.a ≠ e.b) (ho : o.a ≠ o.b) : (alongX e o && !likeB e o) = clashB e o := by
  rw [along_over he ho]
  obtain ⟨ea, eb⟩ := e
  obtain ⟨oa, ob⟩ := o
  have h : (!likeB ⟨ea, eb⟩ ⟨oa, ob⟩) = (decide (Edg.mk oa ob ≠ Edg.mk ea eb) && decide (Edg.mk oa ob ≠ (Edg.mk ea eb).back)) := by
    rw [Bool.eq_iff_iff]
    simp only [likeB, Edg.back, Bool.not_eq_true', Bool.or_eq_false_iff, Bool.and_eq_false_iff, decide_eq_false_iff_not, Bool.and_eq_true, decide_eq_true_eq, ne_eq, Edg.mk.injEq, not_and]
    constructor
    · rintro ⟨h1, h2⟩
      refine ⟨fun h3 h4 => ?_, fun h3 h4 => ?_⟩
      · rcases h1 with h1 | h1
        · exact h1 h3.symm
        · exact h1 h4.symm
      · rcases h2 with h2 | h2
        · exact h2 h4.symm
        · exact h2 h3.symm
    · rintro ⟨h1, h2⟩
      refine ⟨?_, ?_⟩
      · by_cases h3 : ea = oa
        · exact .inr fun h4 => h1 h3.symm h4.symm
        · exact .inl h3
      · by_cases h3 : ea = ob
        · exact .inr fun h4 => h2 h4.symm h3.symm
        · exact .inl h3
  unfold clashB
  rw [h, Bool.and_comm, Bool.and_assoc]

/-! ### Openings -/
def meetX (a b : Opn) : Bool := decide ((if a.lo.x < b.lo.x then b.lo.x else a.lo.x) ≤ (if a.hi.x < b.hi.x then a.hi.x else b.hi.x)) && decide ((if a.lo.y < b.lo.y then b.lo.y else a.lo.y) ≤ (if a.hi.y < b.hi.y then a.hi.y else b.hi.y))
theorem meetX_eq {a b : Opn} (ha : a.lo.x < a.hi.x ∧ a.lo.y < a.hi.y) (hb : b.lo.x < b.hi.x ∧ b.lo.y < b.hi.y) : meetX a b = meetB a b := by
  obtain ⟨h1, h2⟩ := ha
  obtain ⟨h3, h4⟩ := hb
  unfold meetX meetB
  rw [Bool.eq_iff_iff]
  simp only [decide_eq_true_eq, Bool.and_eq_true]
  constructor
  · intro h
    split at h <;> split at h <;> split at h <;> split at h <;> omega
  · intro h
    split <;> split <;> split <;> split <;> omega
def boxX (o : Opn) (l : List Pnt) : Bool := (o.lo.okB && (o.hi.okB && (withinL l o.lo && (withinL l o.hi && (withinL l ⟨o.lo.x, o.hi.y⟩ && withinL l ⟨o.hi.x, o.lo.y⟩)))))
theorem boxX_eq (o : Opn) (l : List Pnt) : boxX o l = (opnPts o).all (withinO l) := by
  unfold boxX opnPts withinO
  simp only [List.all_cons, List.all_nil, Bool.and_true]
  rw [Bool.eq_iff_iff]
  simp only [Bool.and_eq_true, Pnt.okB_iff, Pnt.ok]
  constructor
  · rintro ⟨⟨⟨a1, a2⟩, a3, a4⟩, ⟨⟨b1, b2⟩, b3, b4⟩, c1, c2, c3, c4⟩
    exact ⟨⟨⟨⟨a1, a2⟩, a3, a4⟩, c1⟩, ⟨⟨⟨b1, b2⟩, a3, a4⟩, c4⟩, ⟨⟨⟨b1, b2⟩, b3, b4⟩, c2⟩, ⟨⟨a1, a2⟩, b3, b4⟩, c3⟩
  · rintro ⟨⟨a, c1⟩, ⟨b, c4⟩, ⟨d, c2⟩, e, c3⟩
    exact ⟨a, d, c1, c2, c3, c4⟩
end Go.Proofs.Ytpdgcajbdaleeaa
