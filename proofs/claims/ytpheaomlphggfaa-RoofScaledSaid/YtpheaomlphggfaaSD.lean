/- A roof with all coordinates and heights so many times as great: the mathematics, A scaled roof may be as it was: its openings, its check, A scaled roof may be as it was: check, A scaled roof: its ways, areas and heights. -/
import Derived.Test.YtpheaomlphggfaaD5
import Derived.Test.YtpheaomlphggfaaLF
namespace Go.Proofs.Ytpheaomlphggfaa

/-! ### A roof with all coordinates and heights so many times as great: the mathematics. -/
section
def scP (k : Int) (p : Pnt) : Pnt := ⟨k * p.x, k * p.y⟩
def scE (k : Int) (e : Edg) : Edg := ⟨scP k e.a, scP k e.b⟩
theorem scP_inj {k : Int} (hk : 0 < k) {p q : Pnt} (h : scP k p = scP k q) : p = q := by
  obtain ⟨a, b⟩ := p
  obtain ⟨c, d⟩ := q
  simp only [scP, Pnt.mk.injEq] at h
  rw [Int.eq_of_mul_eq_mul_left (by omega) h.1, Int.eq_of_mul_eq_mul_left (by omega) h.2]
theorem scP_iff {k : Int} (hk : 0 < k) {p q : Pnt} : scP k p = scP k q ↔ p = q := ⟨scP_inj hk, fun h => by rw [h]⟩
theorem scE_iff {k : Int} (hk : 0 < k) {p q : Edg} : scE k p = scE k q ↔ p = q := by
  obtain ⟨a, b⟩ := p
  obtain ⟨c, d⟩ := q
  simp only [scE, Edg.mk.injEq, scP_iff hk]
theorem scE_bck (k : Int) (e : Edg) : scE k (bck e) = bck (scE k e) := rfl
theorem scP_getD (k : Int) (l : List Pnt) (i : Nat) : (l.map (scP k))[i]?.getD ⟨0, 0⟩ = scP k (l[i]?.getD ⟨0, 0⟩) := by
  rw [List.getElem?_map]
  cases l[i]? with
  | none => simp [scP]
  | some p => rfl
theorem edgN_sc (k : Int) (l : List Pnt) (i : Nat) : edgN (l.map (scP k)) i = scE k (edgN l i) := by
  unfold edgN scE
  rw [List.length_map, scP_getD, scP_getD]
theorem mul4 (k a b : Int) : k * a * (k * b) = k * k * (a * b) := by
  rw [Int.mul_assoc, Int.mul_left_comm a k b, ← Int.mul_assoc]
theorem side_sc (k : Int) (e : Edg) (p : Pnt) : (scE k e).side (scP k p) = k * k * e.side p := by
  unfold Edg.side scE scP
  simp only [← Int.mul_sub, mul4]
theorem along_sc (k : Int) (e : Edg) (p : Pnt) : (scE k e).along (scP k p) = k * k * e.along p := by
  unfold Edg.along scE scP
  simp only [← Int.mul_sub, mul4, ← Int.mul_add]
theorem cr_sc (k : Int) (e : Edg) : (scE k e).cr = k * k * e.cr := by
  unfold Edg.cr scE scP
  simp only [mul4, ← Int.mul_sub]
theorem pos_sc {c n : Int} (hc : 0 < c) : 0 < c * n ↔ 0 < n := ⟨fun h => Int.pos_of_mul_pos_right h (by omega), fun h => Int.mul_pos hc h⟩
theorem neg_sc {c n : Int} (hc : 0 < c) : c * n < 0 ↔ n < 0 := by
  have := pos_sc (n := -n) hc
  rw [Int.mul_neg] at this
  omega
theorem nonneg_sc {c n : Int} (hc : 0 < c) : 0 ≤ c * n ↔ 0 ≤ n := by
  have := neg_sc (n := n) hc
  omega
theorem zero_sc {c n : Int} (hc : 0 < c) : c * n = 0 ↔ n = 0 := by
  rw [Int.mul_eq_zero]
  omega
theorem sgn_sc {c n : Int} (hc : 0 < c) : sgn (c * n) = sgn n := by
  unfold sgn
  simp only [neg_sc hc, pos_sc hc]
theorem lt_sc {c a b : Int} (hc : 0 < c) : c * a < c * b ↔ a < b := by
  have := pos_sc (n := b - a) hc
  rw [Int.mul_sub] at this
  omega
theorem kk_pos {k : Int} (hk : 0 < k) : 0 < k * k := Int.mul_pos hk hk

theorem leftAll_sc {k : Int} (hk : 0 < k) (l : List Pnt) (e : Edg) : leftAll (l.map (scP k)) (scE k e) = leftAll l e := by
  unfold leftAll
  rw [List.all_map]
  congr 1
  funext q
  simp only [Function.comp, side_sc, nonneg_sc (kk_pos hk)]
theorem flatAll_sc {k : Int} (hk : 0 < k) (l : List Pnt) (e : Edg) : flatAll (l.map (scP k)) (scE k e) = flatAll l e := by
  unfold flatAll
  rw [List.all_map]
  congr 1
  funext q
  simp only [Function.comp, side_sc]
  rw [Bool.eq_iff_iff, beq_iff_eq, beq_iff_eq, zero_sc (kk_pos hk)]
theorem convexL_sc {k : Int} (hk : 0 < k) (l : List Pnt) : convexL (l.map (scP k)) = convexL l := by
  unfold convexL
  simp only [List.length_map, edgN_sc, leftAll_sc hk, flatAll_sc hk]
theorem leftAny_sc {k : Int} (hk : 0 < k) (l : List Pnt) (e : Edg) : leftAny (l.map (scP k)) (scE k e) = leftAny l e := by
  unfold leftAny
  rw [List.any_map]
  congr 1
  funext q
  simp only [Function.comp, side_sc, pos_sc (kk_pos hk)]
theorem partedL_sc {k : Int} (hk : 0 < k) (a b : List Pnt) : partedL (a.map (scP k)) (b.map (scP k)) = partedL a b := by
  unfold partedL
  simp only [List.length_map, edgN_sc, leftAny_sc hk]
theorem coveredL_sc {k : Int} (hk : 0 < k) (a b : List Pnt) : coveredL (a.map (scP k)) (b.map (scP k)) = coveredL a b := by
  unfold coveredL
  rw [partedL_sc hk, partedL_sc hk]
theorem overB_sc {k : Int} (hk : 0 < k) (e o : Edg) : overB (scE k e) (scE k o) = overB e o := by
  have h1 : (scE k o).a = scP k o.a := rfl
  have h2 : (scE k o).b = scP k o.b := rfl
  have h3 : (scE k e).b = scP k e.b := rfl
  unfold overB
  rw [h1, h2, h3]
  simp only [side_sc, along_sc, pos_sc (kk_pos hk), lt_sc (kk_pos hk)]
  congr 1
  rw [Bool.eq_iff_iff]
  simp only [Bool.and_eq_true, beq_iff_eq, zero_sc (kk_pos hk)]
theorem clashB_sc {k : Int} (hk : 0 < k) (e o : Edg) : clashB (scE k e) (scE k o) = clashB e o := by
  unfold clashB
  rw [overB_sc hk, show (scE k e).back = scE k e.back from rfl]
  simp only [ne_eq, scE_iff hk]
theorem edgesOverL_sc {k : Int} (hk : 0 < k) (a b : List Pnt) : edgesOverL (a.map (scP k)) (b.map (scP k)) = edgesOverL a b := by
  unfold edgesOverL
  simp only [List.length_map, edgN_sc, clashB_sc hk]
theorem twiceP_sc {k : Int} (hk : 0 < k) (l : List Pnt) : twiceP (l.map (scP k)) = twiceP l := by
  unfold twiceP
  rw [List.length_map]
  congr 1
  funext i
  rw [scP_getD, ← List.map_take, Bool.eq_iff_iff, decide_eq_true_eq, decide_eq_true_eq, List.mem_map]
  exact ⟨fun ⟨q, hq, e⟩ => scP_inj hk e ▸ hq, fun h => ⟨_, h, rfl⟩⟩

/-- A face with all coordinates and heights so many times as great, wherever its corners lie. -/
structure ScF (k : Int) (f g : Fac) : Prop where
  name : g.name = f.name
  side : g.side = f.side
  foot : g.foot = k * f.foot
  base : g.base = k * f.base
  rise : g.rise = f.rise
  run : g.run = f.run
  cs : g.cs = f.cs.map (scP k)
/-- Faces, one by one. -/
def ScFs (k : Int) (fs gs : List Fac) : Prop := gs.length = fs.length ∧ ∀ (i : Nat) (f g : Fac), fs[i]? = some f → gs[i]? = some g → ScF k f g
theorem ScFs.get {k : Int} {fs gs : List Fac} (h : ScFs k fs gs) {i : Nat} {f : Fac} (hf : fs[i]? = some f) : ∃ g, gs[i]? = some g ∧ ScF k f g := by
  have hl := (List.getElem?_eq_some_iff.1 hf).1
  obtain ⟨g, hg⟩ : ∃ g, gs[i]? = some g := ⟨_, List.getElem?_eq_getElem (by have := h.1; omega)⟩
  exact ⟨_, hg, h.2 i f _ hf hg⟩
theorem ScFs.none {k : Int} {fs gs : List Fac} (h : ScFs k fs gs) {i : Nat} (hf : fs[i]? = none) : gs[i]? = none := by
  rw [List.getElem?_eq_none_iff] at hf ⊢
  have := h.1
  omega
theorem ScF.edg {k : Int} {f g : Fac} (h : ScF k f g) (i : Nat) : edgN g.cs i = scE k (edgN f.cs i) := by rw [h.cs, edgN_sc]
theorem ScF.len {k : Int} {f g : Fac} (h : ScF k f g) : g.cs.length = f.cs.length := by rw [h.cs, List.length_map]

theorem ownU_sc (k s : Int) (p : Pnt) : ownU s (scP k p) = k * ownU s p := by
  unfold ownU scP
  simp only []
  (repeat' split) <;> simp only [Int.mul_neg]
theorem ownV_sc (k s : Int) (p : Pnt) : ownV s (scP k p) = k * ownV s p := by
  unfold ownV scP
  simp only []
  (repeat' split) <;> simp only [Int.mul_neg]
theorem seenU_sc (k s : Int) (e : Edg) : seenU s (scE k e) = k * seenU s e := by
  unfold seenU scE
  simp only [ownU_sc, Int.mul_sub]
theorem seenV_sc (k s : Int) (e : Edg) : seenV s (scE k e) = k * seenV s e := by
  unfold seenV scE
  simp only [ownV_sc, Int.mul_sub]
theorem seenV0_sc {k : Int} (hk : 0 < k) (s : Int) (e : Edg) : (seenV s (scE k e) == 0) = (seenV s e == 0) := by
  rw [seenV_sc, Bool.eq_iff_iff, beq_iff_eq, beq_iff_eq, zero_sc hk]
theorem kindA_sc {k : Int} (hk : 0 < k) {f g : Fac} (h : ScF k f g) (e : Edg) : kindA g (scE k e) = kindA f e := by
  unfold kindA
  rw [h.side, seenV0_sc hk, seenU_sc, sgn_sc hk]
theorem hNum_sc {k : Int} {f g : Fac} (h : ScF k f g) (p : Pnt) : hNum g (scP k p) = k * hNum f p := by
  unfold hNum
  rw [h.base, h.run, h.rise, h.side, h.foot, show (⟨k * f.foot, k * f.foot⟩ : Pnt) = scP k ⟨f.foot, f.foot⟩ from rfl, ownV_sc, ownV_sc, ← Int.mul_sub, Int.mul_assoc, Int.mul_left_comm f.rise k, ← Int.mul_add]
theorem sumB_sc {k : Int} {f g f' g' : Fac} (h : ScF k f f') (h' : ScF k g g') (e : Edg) : sumB f' g' (scE k e) = k * sumB f g e := by
  unfold sumB
  rw [h.rise, h.side, h.run, h'.rise, h'.side, h'.run, show (⟨(scE k e).b, (scE k e).a⟩ : Edg) = scE k ⟨e.b, e.a⟩ from rfl, seenU_sc, seenU_sc, Int.mul_left_comm f.rise k, Int.mul_left_comm g.rise k, Int.mul_assoc k, Int.mul_assoc k, ← Int.mul_add]
theorem levelB_sc {k : Int} (hk : 0 < k) {f g f' g' : Fac} (hf : f.ok) (hg : g.ok) (hf' : f'.ok) (hg' : g'.ok) (h : ScF k f f') (h' : ScF k g g') (p : Pnt) : levelB f' g' (scP k p) = levelB f g p := by
  rw [Bool.eq_iff_iff, levelB_cross hf hg, levelB_cross hf' hg', hNum_sc h, hNum_sc h', h.run, h'.run, Int.mul_assoc, Int.mul_assoc]
  exact ⟨fun e => Int.eq_of_mul_eq_mul_left (by omega) e, fun e => by rw [e]⟩
theorem stepB_sc {k : Int} (hk : 0 < k) {f g f' g' : Fac} (hf : f.ok) (hg : g.ok) (hf' : f'.ok) (hg' : g'.ok) (h : ScF k f f') (h' : ScF k g g') (e : Edg) : stepB f' g' (scE k e) = stepB f g e := by
  unfold stepB scE
  simp only [levelB_sc hk hf hg hf' hg' h h']
theorem kindB_sc {k : Int} (hk : 0 < k) {f g f' g' : Fac} (hf : f.ok) (hg : g.ok) (hf' : f'.ok) (hg' : g'.ok) (h : ScF k f f') (h' : ScF k g g') (e : Edg) : kindB f' g' (scE k e) = kindB f g e := by
  unfold kindB
  rw [stepB_sc hk hf hg hf' hg' h h', sumB_sc h h', sgn_sc hk, h.side, h'.side, seenU_sc, sgn_sc hk, seenV0_sc hk, show (⟨(scE k e).b, (scE k e).a⟩ : Edg) = scE k ⟨e.b, e.a⟩ from rfl, seenU_sc, sgn_sc hk]
theorem outB_sc {k : Int} (hk : 0 < k) {f g : Fac} (h : ScF k f g) (e : Edg) : outB g (scE k e) = outB f e := by
  unfold outB
  rw [h.side, seenU_sc, sgn_sc hk]

/-! ### The places of edges -/
theorem putF_sc {k : Int} (hk : 0 < k) {F G : Edg → Option (Nat × Nat)} (h : ∀ e, G (scE k e) = F e) (x : Edg) (p : Nat × Nat) : ∀ e, putF G (scE k x) p (scE k e) = putF F x p e := by
  intro e
  unfold putF
  simp only [scE_iff hk, h]
theorem rowF_sc {k : Int} (hk : 0 < k) (i : Nat) (l : List Pnt) : ∀ (n : Nat) (F G : Edg → Option (Nat × Nat)), (∀ e, G (scE k e) = F e) → ∀ e, rowF G i (l.map (scP k)) n (scE k e) = rowF F i l n e
  | 0, F, G, h => h
  | n + 1, F, G, h => by
    intro e
    rw [rowF_succ, rowF_succ, edgN_sc]
    exact putF_sc hk (rowF_sc hk i l n F G h) _ _ e
theorem allF_sc {k : Int} (hk : 0 < k) {fs gs : List Fac} (h : ScFs k fs gs) : ∀ (j : Nat), j ≤ fs.length → ∀ e, allF gs j (scE k e) = allF fs j e
  | 0, _ => fun e => rfl
  | j + 1, hj => by
    intro e
    have hf : fs[j]? = some fs[j] := List.getElem?_eq_getElem (by omega)
    obtain ⟨g, hg, hs⟩ := h.get hf
    rw [allF_succ hf, allF_succ hg, hs.len]
    have := rowF_sc hk j (fs[j]).cs (fs[j]).cs.length _ _ (allF_sc hk h j (by omega)) e
    rwa [← hs.cs] at this
theorem edgR_sc {k : Int} (hk : 0 < k) {fs gs : List Fac} (h : ScFs k fs gs) (hok : ∀ f ∈ fs, f.ok) (hok' : ∀ g ∈ gs, g.ok) (i : Nat) {f g : Fac} (hf : fs[i]? = some f) (hg : gs[i]? = some g) (n : Nat) : edgR gs i g n = edgR fs i f n := by
  have hs := h.2 i f g hf hg
  unfold edgR
  rw [hs.edg, ← scE_bck, h.1, allF_sc hk h _ (Nat.le_refl _)]
  cases hp : allF fs fs.length (bck (edgN f.cs n)) with
  | none => simp only [kindA_sc hk hs]
  | some p =>
    simp only []
    congr 1
    cases hq : fs[p.1]? with
    | none => rw [h.none hq]
    | some f2 =>
      obtain ⟨g2, hg2, hs2⟩ := h.get hq
      rw [hg2]
      exact kindB_sc hk (hok f (List.mem_of_getElem? hf)) (hok f2 (List.mem_of_getElem? hq)) (hok' g (List.mem_of_getElem? hg)) (hok' g2 (List.mem_of_getElem? hg2)) hs hs2 _
theorem allR_sc {k : Int} (hk : 0 < k) {fs gs : List Fac} (h : ScFs k fs gs) (hok : ∀ f ∈ fs, f.ok) (hok' : ∀ g ∈ gs, g.ok) : ∀ (j : Nat), j ≤ fs.length → allR gs j = allR fs j
  | 0, _ => rfl
  | j + 1, hj => by
    have hf : fs[j]? = some fs[j] := List.getElem?_eq_getElem (by omega)
    obtain ⟨g, hg, hs⟩ := h.get hf
    rw [allR_succ hf, allR_succ hg, allR_sc hk h hok hok' j (by omega)]
    congr 1
    unfold rowR
    rw [hs.len]
    exact List.map_congr_left (fun n _ => edgR_sc hk h hok hok' j hf hg n)
theorem area2_sc (k : Int) (l : List Pnt) : area2 (l.map (scP k)) = k * k * area2 l := by
  rw [area2_range, area2_range, List.length_map]
  simp only [edgN_sc, cr_sc]
  rw [sumR_mul]
end

/-! ### A scaled roof may be as it was: its openings, its check. -/
section
def crP (a b : Pnt) : Int := a.x * b.y - a.y * b.x
def offP (p q : Pnt) : Pnt := ⟨q.x - p.x, q.y - p.y⟩
theorem side_cr (e : Edg) (p : Pnt) : e.side p = crP (offP p e.a) (offP p e.b) := by
  unfold Edg.side crP offP
  simp only [Int.sub_mul, Int.mul_sub]
  rw [Int.mul_comm p.x p.y, Int.mul_comm e.b.y p.x, Int.mul_comm e.b.y e.a.x, Int.mul_comm e.a.y p.x, Int.mul_comm p.y e.b.x, Int.mul_comm e.a.y e.a.x, Int.mul_comm e.a.y e.b.x, Int.mul_comm p.y p.x] <;> omega
theorem crP_next {a b c : Pnt} (hb : b.x < 0) (ha : a.x < 0) (hc : c.x < 0) (h1 : 0 < crP a b) (h2 : 0 < crP b c) : 0 < crP a c := by
  have e : b.x * crP a c = a.x * crP b c + c.x * crP a b := by
    unfold crP
    grind
  have n1 := Int.mul_neg_of_neg_of_pos ha h2
  have n2 := Int.mul_neg_of_neg_of_pos hc h1
  apply Classical.byContradiction
  intro hn
  have := Int.mul_nonneg_of_nonpos_of_nonpos (show b.x ≤ 0 by omega) (show crP a c ≤ 0 by omega)
  omega
theorem crP_nextY {a b c : Pnt} (hb : b.y < 0) (ha : a.y < 0) (hc : c.y < 0) (h1 : 0 < crP a b) (h2 : 0 < crP b c) : 0 < crP a c := by
  have e : b.y * crP a c = a.y * crP b c + c.y * crP a b := by
    unfold crP
    grind
  have n1 := Int.mul_neg_of_neg_of_pos ha h2
  have n2 := Int.mul_neg_of_neg_of_pos hc h1
  apply Classical.byContradiction
  intro hn
  have := Int.mul_nonneg_of_nonpos_of_nonpos (show b.y ≤ 0 by omega) (show crP a c ≤ 0 by omega)
  omega
theorem within_at {l : List Pnt} {p : Pnt} (h : withinL l p = true) {k : Nat} (hk : k < l.length) : 0 < crP (offP p (edgN l k).a) (offP p (edgN l k).b) := by
  have := (withinL_fin l p).1 h ⟨k, hk⟩ (by simp)
  rwa [side_cr] at this
theorem edgN_mem {l : List Pnt} {k : Nat} (hk : k < l.length) : (edgN l k).a ∈ l ∧ (edgN l k).b ∈ l := by
  have hk2 : (k + 1) % l.length < l.length := Nat.mod_lt _ (by omega)
  unfold edgN
  simp only [List.getElem?_eq_getElem hk, List.getElem?_eq_getElem hk2, Option.getD_some]
  exact ⟨List.getElem_mem _, List.getElem_mem _⟩
/-- A point within an outline is nowhere beyond all corners. -/
theorem within_x {l : List Pnt} {p : Pnt} (h0 : 0 < l.length) (h : withinL l p = true) : ∃ q ∈ l, p.x ≤ q.x := by
  apply Classical.byContradiction
  intro hn
  have hall : ∀ q ∈ l, (offP p q).x < 0 := fun q hq => by
    have : ¬ p.x ≤ q.x := fun hx => hn ⟨q, hq, hx⟩
    show q.x - p.x < 0
    omega
  have step : ∀ k, k < l.length → 0 < crP (offP p (edgN l 0).a) (offP p (edgN l k).b) := by
    intro k
    induction k with
    | zero => exact fun hk => within_at h hk
    | succ k ih =>
      intro hk
      have e : (edgN l (k + 1)).a = (edgN l k).b := by
        unfold edgN
        simp only [Nat.mod_eq_of_lt hk]
      have hs := within_at h hk
      rw [e] at hs
      exact crP_next (hall _ (edgN_mem (show k < l.length by omega)).2) (hall _ (edgN_mem h0).1) (hall _ (edgN_mem hk).2) (ih (by omega)) hs
  have hlast := step (l.length - 1) (by omega)
  have e : (edgN l (l.length - 1)).b = (edgN l 0).a := by
    unfold edgN
    simp only [show l.length - 1 + 1 = l.length by omega, Nat.mod_self]
  rw [e] at hlast
  unfold crP at hlast
  rw [Int.mul_comm] at hlast
  omega
theorem within_y {l : List Pnt} {p : Pnt} (h0 : 0 < l.length) (h : withinL l p = true) : ∃ q ∈ l, p.y ≤ q.y := by
  apply Classical.byContradiction
  intro hn
  have hall : ∀ q ∈ l, (offP p q).y < 0 := fun q hq => by
    have : ¬ p.y ≤ q.y := fun hx => hn ⟨q, hq, hx⟩
    show q.y - p.y < 0
    omega
  have step : ∀ k, k < l.length → 0 < crP (offP p (edgN l 0).a) (offP p (edgN l k).b) := by
    intro k
    induction k with
    | zero => exact fun hk => within_at h hk
    | succ k ih =>
      intro hk
      have e : (edgN l (k + 1)).a = (edgN l k).b := by
        unfold edgN
        simp only [Nat.mod_eq_of_lt hk]
      have hs := within_at h hk
      rw [e] at hs
      exact crP_nextY (hall _ (edgN_mem (show k < l.length by omega)).2) (hall _ (edgN_mem h0).1) (hall _ (edgN_mem hk).2) (ih (by omega)) hs
  have hlast := step (l.length - 1) (by omega)
  have e : (edgN l (l.length - 1)).b = (edgN l 0).a := by
    unfold edgN
    simp only [show l.length - 1 + 1 = l.length by omega, Nat.mod_self]
  rw [e] at hlast
  unfold crP at hlast
  rw [Int.mul_comm] at hlast
  omega
end

/-! ### A scaled roof may be as it was: check. -/
section
theorem face_len3 {R : Roo} (hE : checkE R = 0) {i : Nat} {F : Fac} (hF : R.fs[i]? = some F) : 3 ≤ F.cs.length ∧ F.cs.length ≤ 12 := by
  have hz := firstNZ_all (checkE_parts hE).1 i (List.getElem?_eq_some_iff.1 hF).1
  rw [hF] at hz
  obtain ⟨h1, h2, _⟩ := outline_ok (faceE_pts hz)
  exact ⟨h1, h2⟩

structure ScO (k : Int) (o p : Opn) : Prop where
  name : p.name = o.name
  face : p.face = o.face
  lo : p.lo = scP k o.lo
  hi : p.hi = scP k o.hi
def ScOs (k : Int) (os ps : List Opn) : Prop := ps.length = os.length ∧ ∀ (i : Nat) (o p : Opn), os[i]? = some o → ps[i]? = some p → ScO k o p
theorem ScOs.get {k : Int} {os ps : List Opn} (h : ScOs k os ps) {i : Nat} {o : Opn} (ho : os[i]? = some o) : ∃ p, ps[i]? = some p ∧ ScO k o p := by
  have hl := (List.getElem?_eq_some_iff.1 ho).1
  obtain ⟨g, hg⟩ : ∃ g, ps[i]? = some g := ⟨_, List.getElem?_eq_getElem (by have := h.1; omega)⟩
  exact ⟨_, hg, h.2 i o _ ho hg⟩
theorem pw_map {α β : Type} {l l' : List α} {P P' : α → β} (h1 : l'.length = l.length) (h2 : ∀ (i : Nat) (a b : α), l[i]? = some a → l'[i]? = some b → P' b = P a) : l'.map P' = l.map P := by
  apply List.ext_getElem?
  intro i
  rw [List.getElem?_map, List.getElem?_map]
  by_cases hi : i < l.length
  · have ha : l[i]? = some l[i] := List.getElem?_eq_getElem hi
    have hb : l'[i]? = some l'[i] := List.getElem?_eq_getElem (by omega)
    rw [ha, hb, Option.map_some, Option.map_some, h2 i _ _ ha hb]
  · rw [List.getElem?_eq_none (by omega), List.getElem?_eq_none (by omega)]
    rfl
theorem find_map {α : Type} {l l' : List α} {P P' : α → Bool} (h : l'.map P' = l.map P) : l'.findIdx? P' = l.findIdx? P := by
  have e : ∀ (l : List α) (P : α → Bool), l.findIdx? P = (l.map P).findIdx? id := fun l P => by rw [List.findIdx?_map]; rfl
  rw [e, h, ← e]
theorem any_map' {α : Type} {l l' : List α} {P P' : α → Bool} (h : l'.map P' = l.map P) : l'.any P' = l.any P := by
  have e : ∀ (l : List α) (P : α → Bool), l.any P = (l.map P).any id := fun l P => by rw [List.any_map]; rfl
  rw [e, h, ← e]
theorem ScFs.mapTake {k : Int} {fs gs : List Fac} (h : ScFs k fs gs) {β : Type} {P P' : Fac → β} (hp : ∀ f g, ScF k f g → P' g = P f) (i : Nat) : (gs.take i).map P' = (fs.take i).map P := by
  rw [List.map_take, List.map_take, pw_map h.1 (fun j f g hf hg => hp f g (h.2 j f g hf hg))]
theorem ScOs.mapTake {k : Int} {os ps : List Opn} (h : ScOs k os ps) {β : Type} {P P' : Opn → β} (hp : ∀ o p, ScO k o p → P' p = P o) (i : Nat) : (ps.take i).map P' = (os.take i).map P := by
  rw [List.map_take, List.map_take, pw_map h.1 (fun j f g hf hg => hp f g (h.2 j f g hf hg))]
theorem le_sc {c a b : Int} (hc : 0 < c) : c * a ≤ c * b ↔ a ≤ b := by
  have := lt_sc (a := b) (b := a) hc
  omega
theorem withinL_sc {k : Int} (hk : 0 < k) (l : List Pnt) (p : Pnt) : withinL (l.map (scP k)) (scP k p) = withinL l p := by
  unfold withinL
  simp only [List.length_map, edgN_sc, side_sc, pos_sc (kk_pos hk)]
theorem meetB_sc {k : Int} (hk : 0 < k) {o p o' p' : Opn} (h : ScO k o p) (h' : ScO k o' p') : meetB p p' = meetB o o' := by
  unfold meetB
  rw [h.lo, h.hi, h'.lo, h'.hi]
  simp only [scP, le_sc hk]

theorem coverF_sc {k : Int} (hk : 0 < k) {fs gs : List Fac} (h : ScFs k fs gs) : coverF gs = coverF fs := by
  unfold coverF
  rw [h.1]
  congr 1
  funext i
  cases hf : fs[i]? with
  | none =>
    rw [h.none hf]
    simp only [Option.map_none, Option.getD_none]
    exact any_map' (h.mapTake (fun _ _ _ => rfl) i)
  | some f =>
    obtain ⟨g, hg, hs⟩ := h.get hf
    rw [hg]
    simp only [Option.map_some, Option.getD_some]
    exact any_map' (h.mapTake (fun a b hab => by rw [hs.cs, hab.cs, coveredL_sc hk]) i)
theorem overF_sc {k : Int} (hk : 0 < k) {fs gs : List Fac} (h : ScFs k fs gs) : overF gs = overF fs := by
  unfold overF
  rw [h.1]
  congr 1
  funext i
  cases hf : fs[i]? with
  | none =>
    rw [h.none hf]
    simp only [Option.map_none, Option.getD_none]
    exact any_map' (h.mapTake (fun _ _ _ => rfl) i)
  | some f =>
    obtain ⟨g, hg, hs⟩ := h.get hf
    rw [hg]
    simp only [Option.map_some, Option.getD_some]
    exact any_map' (h.mapTake (fun a b hab => by rw [hs.cs, hab.cs, edgesOverL_sc hk]) i)
theorem togetherE_sc {k : Int} (hk : 0 < k) {fs gs : List Fac} (h : ScFs k fs gs) : togetherE gs = togetherE fs := by
  unfold togetherE
  rw [coverF_sc hk h, overF_sc hk h]

/-- No coordinate is too great then. -/
def Fits (k : Int) (f : Fac) : Prop := k * f.foot ≤ 10000 ∧ k * f.base ≤ 10000 ∧ ∀ p ∈ f.cs, k * p.x ≤ 10000 ∧ k * p.y ≤ 10000
theorem okB_sc {k : Int} (hk : 0 < k) {p : Pnt} (h : p.okB = true) (hx : k * p.x ≤ 10000) (hy : k * p.y ≤ 10000) : (scP k p).okB = true := by
  obtain ⟨⟨h1, _⟩, h3, _⟩ := Pnt.okB_iff.1 h
  exact Pnt.okB_iff.2 ⟨⟨Int.mul_nonneg (by omega) h1, hx⟩, Int.mul_nonneg (by omega) h3, hy⟩
theorem isFromB_iff {n lo hi : Int} : isFromB n lo hi = true ↔ lo ≤ n ∧ n ≤ hi := by simp [isFromB]
theorem outlineE_sc {k : Int} (hk : 0 < k) {l : List Pnt} (h : outlineE l = 0) (hf : ∀ p ∈ l, k * p.x ≤ 10000 ∧ k * p.y ≤ 10000) : outlineE (l.map (scP k)) = 0 := by
  obtain ⟨h1, h2, h3, h4, h5⟩ := outline_ok h
  have ha : (l.map (scP k)).all Pnt.okB = true := by
    rw [List.all_eq_true]
    intro p hp
    obtain ⟨q, hq, rfl⟩ := List.mem_map.1 hp
    exact okB_sc hk (Pnt.okB_iff.2 (h3 q hq)) (hf q hq).1 (hf q hq).2
  unfold outlineE
  rw [List.length_map, if_neg (by omega), if_neg (by omega), if_neg (by rw [ha]; simp), twiceP_sc hk, if_neg (by rw [h4]; simp), convexL_sc hk, if_neg (by rw [h5]; simp)]
theorem faceE_sc {k : Int} (hk : 0 < k) {f g : Fac} {l l' : List Fac} (h : ScF k f g) (hi : idxF l' g.name = idxF l f.name) (hE : faceE f l = 0) (hf : Fits k f) : faceE g l' = 0 := by
  have ho := outlineE_sc hk (faceE_pts hE) hf.2.2
  unfold faceE at hE ⊢
  rw [hi, h.name, h.side, h.foot, h.base, h.rise, h.run, h.cs, ho]
  split at hE; · omega
  rename_i c1
  rw [if_neg c1]
  split at hE; · omega
  rename_i c2
  rw [if_neg c2]
  split at hE; · omega
  rename_i c3
  rw [if_neg c3]
  split at hE; · omega
  rename_i c4
  have e4 : isFromB (k * f.foot) 0 10000 = true := isFromB_iff.2 ⟨Int.mul_nonneg (by omega) (isFromB_iff.1 (by simpa using c4)).1, hf.1⟩
  rw [if_neg (by rw [e4]; simp)]
  split at hE; · omega
  rename_i c5
  have e5 : isFromB (k * f.base) 0 10000 = true := isFromB_iff.2 ⟨Int.mul_nonneg (by omega) (isFromB_iff.1 (by simpa using c5)).1, hf.2.1⟩
  rw [if_neg (by rw [e5]; simp)]
  split at hE; · omega
  rename_i c6
  rw [if_neg c6]
  split at hE; · omega
  rename_i c7
  rw [if_neg c7]
theorem facesE_sc {k : Int} (hk : 0 < k) {fs gs : List Fac} (h : ScFs k fs gs) (hE : facesE fs = 0) (hf : ∀ f ∈ fs, Fits k f) : facesE gs = 0 := by
  unfold facesE
  refine firstNZ_zero (fun i hi => ?_)
  obtain ⟨f, hff⟩ : ∃ f, fs[i]? = some f := ⟨_, List.getElem?_eq_getElem (by have := h.1; omega)⟩
  obtain ⟨g, hg, hs⟩ := h.get hff
  have hz := firstNZ_all hE i (by have := h.1; omega)
  rw [hff] at hz
  rw [hg]
  refine faceE_sc hk hs ?_ hz (hf f (List.mem_of_getElem? hff))
  unfold idxF
  rw [find_map (h.mapTake (P := fun x => strB x.name f.name) (fun a b hab => by rw [hab.name, hs.name]) i)]
theorem openE_sc {k : Int} (hk : 0 < k) {o p : Opn} {l l' : List Opn} {fs gs : List Fac} (h : ScO k o p) (hfs : ScFs k fs gs) (hi : idxO l' p = idxO l o) (hm : idxM l' p = idxM l o) (hE : openE o l fs = 0) (hf : ∀ f ∈ fs, Fits k f) (hlen : ∀ f ∈ fs, 0 < f.cs.length) : openE p l' gs = 0 := by
  unfold openE at hE ⊢
  rw [hi, hm, h.name, h.face, h.hi, h.lo, hfs.1]
  split at hE; · omega
  rename_i c1
  rw [if_neg c1]
  split at hE; · omega
  rename_i c2
  rw [if_neg c2]
  split at hE; · omega
  rename_i c3
  rw [if_neg c3]
  split at hE; · omega
  rename_i c4
  rw [if_neg (show ¬ (scP k o.hi).x ≤ (scP k o.lo).x by simp only [scP, le_sc hk]; exact c4)]
  split at hE; · omega
  rename_i c5
  rw [if_neg (show ¬ (scP k o.hi).y ≤ (scP k o.lo).y by simp only [scP, le_sc hk]; exact c5)]
  cases hff : fs[o.face.toNat]? with
  | none => rw [hff] at hE; simp at hE
  | some f =>
    obtain ⟨g, hg, hs⟩ := hfs.get hff
    rw [hff] at hE
    rw [hg]
    simp only [] at hE ⊢
    split at hE; · omega
    rename_i c6
    have hall : (opnPts o).all (withinO f.cs) = true := by simpa using c6
    have hsc : opnPts p = (opnPts o).map (scP k) := by
      unfold opnPts
      rw [h.lo, h.hi]
      rfl
    have hall2 : (opnPts p).all (withinO g.cs) = true := by
      rw [hsc, List.all_map, List.all_eq_true]
      intro q hq
      have hw := List.all_eq_true.1 hall q hq
      unfold withinO at hw
      rw [Bool.and_eq_true] at hw
      obtain ⟨hw1, hw2⟩ := hw
      have h0 : 0 < f.cs.length := hlen f (List.mem_of_getElem? hff)
      obtain ⟨a, ha, hax⟩ := within_x h0 hw2
      obtain ⟨b, hb, hby⟩ := within_y h0 hw2
      have hF := hf f (List.mem_of_getElem? hff)
      have e1 : k * q.x ≤ 10000 := Int.le_trans ((le_sc hk).2 hax) (hF.2.2 a ha).1
      have e2 : k * q.y ≤ 10000 := Int.le_trans ((le_sc hk).2 hby) (hF.2.2 b hb).2
      simp only [Function.comp, withinO]
      rw [okB_sc hk hw1 e1 e2, hs.cs, withinL_sc hk, hw2]
      rfl
    rw [if_neg (by
      have e : [scP k o.lo, ⟨(scP k o.hi).x, (scP k o.lo).y⟩, scP k o.hi, ⟨(scP k o.lo).x, (scP k o.hi).y⟩] = opnPts p := by unfold opnPts; rw [h.lo, h.hi]
      rw [hall2]; simp)]
    exact hE
theorem opensE_sc {k : Int} (hk : 0 < k) {fs gs : List Fac} {os ps : List Opn} (hfs : ScFs k fs gs) (h : ScOs k os ps) (hE : opensE os fs = 0) (hf : ∀ f ∈ fs, Fits k f) (hlen : ∀ f ∈ fs, 0 < f.cs.length) : opensE ps gs = 0 := by
  unfold opensE
  refine firstNZ_zero (fun i hi => ?_)
  obtain ⟨o, ho⟩ : ∃ o, os[i]? = some o := ⟨_, List.getElem?_eq_getElem (by have := h.1; omega)⟩
  obtain ⟨p, hp, hs⟩ := h.get ho
  have hz := firstNZ_all hE i (by have := h.1; omega)
  rw [ho] at hz
  rw [hp]
  refine openE_sc hk hs hfs ?_ ?_ hz hf hlen
  · unfold idxO
    rw [find_map (h.mapTake (P := fun f => strB f.name o.name) (fun a b hab => by rw [hab.name, hs.name]) i)]
  · unfold idxM
    rw [find_map (h.mapTake (P := fun f => meetB f o) (fun a b hab => meetB_sc hk hab hs) i)]
/-- A scaled roof may be as it was, if it is not too great then. -/
theorem checkE_sc {k : Int} (hk : 0 < k) {R R' : Roo} (hfs : ScFs k R.fs R'.fs) (hos : ScOs k R.os R'.os) (hE : checkE R = 0) (hf : ∀ f ∈ R.fs, Fits k f) : checkE R' = 0 := by
  obtain ⟨h1, h2, h3⟩ := checkE_parts hE
  have hl := (checkE_faces hE).1
  have hlo := (opens_fine hE).1
  have hlen : ∀ f ∈ R.fs, 0 < f.cs.length := fun f hm => by
    obtain ⟨i, hi, hif⟩ := List.getElem_of_mem hm
    have := face_len3 hE (i := i) (F := f) (by rw [List.getElem?_eq_getElem hi, hif])
    omega
  unfold checkE
  rw [hfs.1, hos.1, facesE_sc hk hfs h1 hf, opensE_sc hk hfs hos h2 hf hlen, togetherE_sc hk hfs, h3, if_neg (by omega), if_neg (by simp), if_neg (by omega), if_neg (by simp)]
end

/-! ### A scaled roof: its ways, areas and heights. -/
section
theorem cmpH_cross {f g : Fac} (hf : f.ok) (hg : g.ok) (p : Pnt) : cmpH f g p < 0 ↔ hNum f p * g.run < hNum g p * f.run := by
  obtain ⟨a1, a2⟩ := low_back (hNum f p) f.run
  obtain ⟨b1, b2⟩ := low_back (hNum g p) g.run
  have n1 := hf.n0
  have n2 := hg.n0
  have g1 : 0 < (Int.gcd (hNum f p) f.run : Int) := by
    have : Int.gcd (hNum f p) f.run ≠ 0 := fun h => by rw [Int.gcd_eq_zero_iff] at h; omega
    omega
  have g2 : 0 < (Int.gcd (hNum g p) g.run : Int) := by
    have : Int.gcd (hNum g p) g.run ≠ 0 := fun h => by rw [Int.gcd_eq_zero_iff] at h; omega
    omega
  change hNum f p = hgtN f p * _ at a1
  change f.run = hgtD f p * _ at a2
  change hNum g p = hgtN g p * _ at b1
  change g.run = hgtD g p * _ at b2
  generalize (Int.gcd (hNum f p) f.run : Int) = x at *
  generalize (Int.gcd (hNum g p) g.run : Int) = y at *
  have e : hNum f p * g.run - hNum g p * f.run = x * y * cmpH f g p := by
    rw [a1, a2, b1, b2]
    unfold cmpH
    grind
  have := neg_sc (n := cmpH f g p) (Int.mul_pos g1 g2)
  rw [← e] at this
  omega
theorem cmpH_sc {k : Int} (hk : 0 < k) {f g f' g' : Fac} (hf : f.ok) (hg : g.ok) (hf' : f'.ok) (hg' : g'.ok) (h : ScF k f f') (h' : ScF k g g') (p : Pnt) : cmpH f' g' (scP k p) < 0 ↔ cmpH f g p < 0 := by
  rw [cmpH_cross hf hg, cmpH_cross hf' hg', hNum_sc h, hNum_sc h', h.run, h'.run, Int.mul_assoc, Int.mul_assoc, lt_sc hk]
theorem belowB_sc {k : Int} (hk : 0 < k) {f g f' g' : Fac} (hf : f.ok) (hg : g.ok) (hf' : f'.ok) (hg' : g'.ok) (h : ScF k f f') (h' : ScF k g g') (e : Edg) : belowB f' g' (scE k e) = belowB f g e := by
  have hl : ∀ p, lowB f' g' (scP k p) = lowB f g p := fun p => by rw [Bool.eq_iff_iff, lowB_iff, lowB_iff, cmpH_sc hk hf hg hf' hg' h h']
  unfold belowB scE
  simp only [hl]
theorem wayB_sc {k : Int} (hk : 0 < k) {f g f' g' : Fac} (hf : f.ok) (hg : g.ok) (hf' : f'.ok) (hg' : g'.ok) (h : ScF k f f') (h' : ScF k g g') (e : Edg) (K : Int) : wayB f' g' (scE k e) K = wayB f g e K := by
  unfold wayB
  rw [belowB_sc hk hf hg hf' hg' h h', h.side]
  have := seenV0_sc hk f.side e
  rw [Bool.eq_iff_iff, beq_iff_eq, beq_iff_eq] at this
  simp only [this]
theorem wayOf_sc {k : Int} (hk : 0 < k) {fs gs : List Fac} (h : ScFs k fs gs) (hok : ∀ f ∈ fs, f.ok) (hok' : ∀ g ∈ gs, g.ok) (x : EdR) : wayOf gs x = wayOf fs x := by
  unfold wayOf
  cases hf : fs[x.face.toNat]? with
  | none => rw [h.none hf]
  | some f =>
    obtain ⟨g, hg, hs⟩ := h.get hf
    rw [hg]
    simp only []
    rw [hs.edg, outB_sc hk hs]
    have e : kindW gs g (scE k (edgN f.cs x.number.toNat)) x = kindW fs f (edgN f.cs x.number.toNat) x := by
      unfold kindW
      split
      · rfl
      · cases hq : fs[x.wth.toNat]? with
        | none => rw [h.none hq]
        | some f2 =>
          obtain ⟨g2, hg2, hs2⟩ := h.get hq
          rw [hg2]
          exact wayB_sc hk (hok f (List.mem_of_getElem? hf)) (hok f2 (List.mem_of_getElem? hq)) (hok' g (List.mem_of_getElem? hg)) (hok' g2 (List.mem_of_getElem? hg2)) hs hs2 _ _
    rw [e]
theorem waysL_sc {k : Int} (hk : 0 < k) {fs gs : List Fac} (h : ScFs k fs gs) (hok : ∀ f ∈ fs, f.ok) (hok' : ∀ g ∈ gs, g.ok) : waysL gs (allR gs gs.length) = waysL fs (allR fs fs.length) := by
  rw [h.1, allR_sc hk h hok hok' _ (Nat.le_refl _)]
  unfold waysL
  congr 1
  funext x
  exact wayOf_sc hk h hok hok' x

theorem opA_sc {k : Int} {o p : Opn} (h : ScO k o p) : opA p = k * k * opA o := by
  unfold opA
  rw [h.lo, h.hi]
  simp only [scP, ← Int.mul_sub]
  rw [Int.mul_left_comm 2 k, mul4]
theorem opS_sc {k : Int} {os ps : List Opn} (h : ScOs k os ps) (i : Nat) : opS ps i = k * k * opS os i := by
  have e : ∀ n, n ≤ os.length → opS (ps.take n) i = k * k * opS (os.take n) i := by
    intro n
    induction n with
    | zero => intro _; simp [opS]
    | succ n ih =>
      intro hn
      obtain ⟨o, ho⟩ : ∃ o, os[n]? = some o := ⟨_, List.getElem?_eq_getElem (by omega)⟩
      obtain ⟨p, hp, hs⟩ := h.get ho
      rw [List.take_add_one, List.take_add_one, ho, hp, Option.toList_some, Option.toList_some, opS_snoc, opS_snoc, ih (by omega), hs.face, opA_sc hs]
      split
      · rw [Int.mul_add]
      · simp
  have := e os.length (Nat.le_refl _)
  rwa [List.take_length, ← h.1, List.take_length] at this
theorem areaF_sc {k : Int} {fs gs : List Fac} {os ps : List Opn} (h : ScFs k fs gs) (h' : ScOs k os ps) (i : Nat) : areaF gs ps i = k * k * areaF fs os i := by
  unfold areaF
  rw [opS_sc h', Int.mul_sub]
  cases hf : fs[i]? with
  | none => rw [h.none hf]; simp
  | some f =>
    obtain ⟨g, hg, hs⟩ := h.get hf
    rw [hg]
    simp only []
    rw [hs.cs, area2_sc]
/-- Heights are so many times as great. -/
theorem height_sc {k : Int} {f g : Fac} (hf : f.ok) (h : ScF k f g) (p : Pnt) : hgtN g (scP k p) * hgtD f p = k * hgtN f p * hgtD g (scP k p) := by
  have e1 := low_over (hNum g (scP k p)) g.run
  have e2 := low_over (hNum f p) f.run
  change hgtN g (scP k p) * g.run = hNum g (scP k p) * hgtD g (scP k p) at e1
  change hgtN f p * f.run = hNum f p * hgtD f p at e2
  rw [hNum_sc h, h.run] at e1
  have n0 := hf.n0
  have : f.run * (hgtN g (scP k p) * hgtD f p) = f.run * (k * hgtN f p * hgtD g (scP k p)) := by grind
  exact Int.eq_of_mul_eq_mul_left (by omega) this
end
end Go.Proofs.Ytpheaomlphggfaa
