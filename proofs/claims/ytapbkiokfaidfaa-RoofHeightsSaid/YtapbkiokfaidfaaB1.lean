/- Edges beside one another: each directed edge lies at one place; a way back lies in another face. -/
import Derived.Test.YtapbkiokfaidfaaZR
namespace Go.Proofs.Ytapbkiokfaidfaa
open Go.RowKit

/-! ### Where an edge is found -/
theorem rowF_some {F : Edg → Option (Nat × Nat)} {i : Nat} {l : List Pnt} {x : Edg} {p : Nat × Nat} : ∀ {n : Nat}, rowF F i l n x = some p → F x = some p ∨ ∃ m, m < n ∧ p = (i, m) ∧ edgN l m = x
  | 0, h => .inl h
  | n + 1, h => by
    rw [rowF_succ] at h
    unfold putF at h
    split at h
    · rename_i hx
      cases h
      exact .inr ⟨n, by omega, rfl, hx.symm⟩
    · rcases rowF_some h with h | ⟨m, h1, h2, h3⟩
      · exact .inl h
      · exact .inr ⟨m, by omega, h2, h3⟩
theorem rowF_none {F : Edg → Option (Nat × Nat)} {i : Nat} {l : List Pnt} {x : Edg} : ∀ {n : Nat}, rowF F i l n x = none → F x = none ∧ ∀ m, m < n → edgN l m ≠ x
  | 0, h => ⟨h, fun m hm => by omega⟩
  | n + 1, h => by
    rw [rowF_succ] at h
    unfold putF at h
    split at h
    · cases h
    · rename_i hx
      obtain ⟨h1, h2⟩ := rowF_none h
      refine ⟨h1, fun m hm => ?_⟩
      by_cases hmn : m = n
      · subst hmn
        exact fun he => hx he.symm
      · exact h2 m (by omega)
theorem allF_some {fs : List Fac} {x : Edg} {p : Nat × Nat} : ∀ {j : Nat}, j ≤ fs.length → allF fs j x = some p → ∃ f, p.1 < j ∧ fs[p.1]? = some f ∧ p.2 < f.cs.length ∧ edgN f.cs p.2 = x
  | 0, _, h => by cases h
  | j + 1, hj, h => by
    have hq := List.getElem?_eq_getElem (show j < fs.length by omega)
    rw [allF_succ hq] at h
    rcases rowF_some h with h | ⟨m, h1, rfl, h3⟩
    · obtain ⟨f, k1, k2, k3, k4⟩ := allF_some (by omega) h
      exact ⟨f, by omega, k2, k3, k4⟩
    · exact ⟨_, by simp, hq, h1, h3⟩
theorem allF_none {fs : List Fac} {x : Edg} : ∀ {j : Nat}, j ≤ fs.length → allF fs j x = none → ∀ i f m, i < j → fs[i]? = some f → m < f.cs.length → edgN f.cs m ≠ x
  | 0, _, _ => fun i f m hi => by omega
  | j + 1, hj, h => by
    have hq := List.getElem?_eq_getElem (show j < fs.length by omega)
    rw [allF_succ hq] at h
    obtain ⟨h1, h2⟩ := rowF_none h
    intro i f m hi hf hm
    by_cases hij : i = j
    · subst hij
      rw [hq] at hf
      obtain rfl := Option.some.inj hf
      exact h2 m hm
    · exact allF_none (by omega) h1 i f m (by omega) hf hm

/-! ### Corners that are all different -/
theorem crn_inj {l : List Pnt} (ht : twiceP l = false) {i j : Nat} (hi : i < l.length) (hj : j < l.length) (h : crn l i = crn l j) : i = j := by
  have hd : ∀ i, i < l.length → ∀ j, j < i → crn l i ≠ crn l j := by
    intro i hi j hj he
    have hm : decide (l[i]?.getD ⟨0, 0⟩ ∈ l.take i) = true := by
      rw [decide_eq_true_eq]
      show crn l i ∈ l.take i
      rw [he]
      have hj' : j < (l.take i).length := by rw [List.length_take]; omega
      have : (l.take i)[j] = crn l j := by
        rw [List.getElem_take]
        unfold crn
        rw [List.getElem?_eq_getElem (by omega)]
        rfl
      rw [← this]
      exact List.getElem_mem hj'
    unfold twiceP at ht
    rw [List.any_eq_false] at ht
    exact ht i (by simpa using hi) hm
  rcases Nat.lt_trichotomy i j with hlt | heq | hgt
  · exact absurd h.symm (hd j hj i hlt)
  · exact heq
  · exact absurd h (hd i hi j hgt)
theorem edgN_inj {l : List Pnt} (ht : twiceP l = false) {i j : Nat} (hi : i < l.length) (hj : j < l.length) (h : edgN l i = edgN l j) : i = j :=
  crn_inj ht hi hj (congrArg Edg.a h)

/-! ### Lines through two points -/
theorem cross_par {vx vy ux uy wx wy : Int} (h1 : crs vx vy ux uy = 0) (h2 : crs vx vy wx wy = 0) : (vx * vx + vy * vy) * crs ux uy wx wy = 0 := by
  have e : (vx * vx + vy * vy) * crs ux uy wx wy = (vx * ux + vy * uy) * crs vx vy wx wy - (vx * wx + vy * wy) * crs vx vy ux uy := by unfold crs; grind
  rw [e, h1, h2]
  omega
theorem sq_pos {x y : Int} (h : ¬ (x = 0 ∧ y = 0)) : 0 < x * x + y * y := by
  have h1 := sq_nonneg x
  have h2 := sq_nonneg y
  rcases Int.lt_or_eq_of_le h1 with t | t
  · omega
  · rcases Int.lt_or_eq_of_le h2 with u | u
    · omega
    · exact absurd ⟨by rcases Int.mul_eq_zero.1 t.symm with k | k <;> exact k, by rcases Int.mul_eq_zero.1 u.symm with k | k <;> exact k⟩ h
theorem side_crs (e : Edg) (p : Pnt) : e.side p = crs (e.b.x - e.a.x) (e.b.y - e.a.y) (p.x - e.a.x) (p.y - e.a.y) := rfl

/-- Not all corners of a convex outline lie on the line of an edge. -/
theorem off_line {l : List Pnt} (h : convexL l = true) {e : Edg} (hne : e.a ≠ e.b) : ¬ ∀ k, k < l.length → e.side (crn l k) = 0 := by
  intro hz
  obtain ⟨hn, hnf⟩ := convex_not_flat h
  refine hnf fun k hk j hj => ?_
  have hk2 : (k + 1) % l.length < l.length := Nat.mod_lt _ hn
  have z0 := hz k hk
  have z1 := hz _ hk2
  have z2 := hz j hj
  rw [side_crs] at z0 z1 z2
  have u1 : crs (e.b.x - e.a.x) (e.b.y - e.a.y) ((crn l ((k + 1) % l.length)).x - (crn l k).x) ((crn l ((k + 1) % l.length)).y - (crn l k).y) = 0 := by
    have : crs (e.b.x - e.a.x) (e.b.y - e.a.y) ((crn l ((k + 1) % l.length)).x - (crn l k).x) ((crn l ((k + 1) % l.length)).y - (crn l k).y) =
      crs (e.b.x - e.a.x) (e.b.y - e.a.y) ((crn l ((k + 1) % l.length)).x - e.a.x) ((crn l ((k + 1) % l.length)).y - e.a.y) - crs (e.b.x - e.a.x) (e.b.y - e.a.y) ((crn l k).x - e.a.x) ((crn l k).y - e.a.y) := by unfold crs; grind
    rw [this, z0, z1]; rfl
  have u2 : crs (e.b.x - e.a.x) (e.b.y - e.a.y) ((crn l j).x - (crn l k).x) ((crn l j).y - (crn l k).y) = 0 := by
    have : crs (e.b.x - e.a.x) (e.b.y - e.a.y) ((crn l j).x - (crn l k).x) ((crn l j).y - (crn l k).y) =
      crs (e.b.x - e.a.x) (e.b.y - e.a.y) ((crn l j).x - e.a.x) ((crn l j).y - e.a.y) - crs (e.b.x - e.a.x) (e.b.y - e.a.y) ((crn l k).x - e.a.x) ((crn l k).y - e.a.y) := by unfold crs; grind
    rw [this, z0, z2]; rfl
  have h3 := cross_par u1 u2
  have hp : 0 < (e.b.x - e.a.x) * (e.b.x - e.a.x) + (e.b.y - e.a.y) * (e.b.y - e.a.y) := sq_pos fun ⟨hx, hy⟩ => hne (by
    obtain ⟨⟨ax, ay⟩, bx, by'⟩ := e
    simp only [Pnt.mk.injEq] at hx hy ⊢
    omega)
  rw [side_crs]
  rcases Int.mul_eq_zero.1 h3 with h4 | h4
  · omega
  · exact h4

theorem convex_left {l : List Pnt} (h : convexL l = true) {k j : Nat} (hk : k < l.length) (hj : j < l.length) : 0 ≤ (edgN l k).side (crn l j) := by
  unfold convexL at h
  simp only [Bool.and_eq_true] at h
  have h1 := h.1
  rw [List.all_eq_true] at h1
  have h2 := h1 k (by simpa using hk)
  unfold leftAll at h2
  rw [List.all_eq_true] at h2
  have := h2 (crn l j) (crn_mem hj)
  simpa using this

/-- A line that two points are on is the line of their edge: the same way or the other way round. -/
theorem side_scale {L e : Edg} (ha : L.side e.a = 0) (hb : L.side e.b = 0) (c : Pnt) :
    ((e.b.x - e.a.x) * (e.b.x - e.a.x) + (e.b.y - e.a.y) * (e.b.y - e.a.y)) * L.side c = ((L.b.x - L.a.x) * (e.b.x - e.a.x) + (L.b.y - L.a.y) * (e.b.y - e.a.y)) * e.side c := by
  obtain ⟨⟨px, py⟩, qx, qy⟩ := L
  obtain ⟨⟨ax, ay⟩, bx, by'⟩ := e
  obtain ⟨cx, cy⟩ := c
  simp only [Edg.side] at *
  have h1 : ((bx - ax) * (bx - ax) + (by' - ay) * (by' - ay)) * ((qx - px) * (cy - py) - (qy - py) * (cx - px)) = ((qx - px) * (bx - ax) + (qy - py) * (by' - ay)) * ((bx - ax) * (cy - ay) - (by' - ay) * (cx - ax)) +
    ((bx - ax) * (bx - ax) + (by' - ay) * (by' - ay)) * ((qx - px) * (ay - py) - (qy - py) * (ax - px)) +
    (((qx - px) * (by' - py) - (qy - py) * (bx - px)) - ((qx - px) * (ay - py) - (qy - py) * (ax - px))) * ((bx - ax) * (cx - ax) + (by' - ay) * (cy - ay)) := by grind
  rw [h1, ha, hb]
  omega

/-- Two outlines with a directed edge in common cover one another. -/
theorem not_parted {a b : List Pnt} (ha : outlineE a = 0) (hb : outlineE b = 0) {i j : Nat} (hi : i < a.length) (hj : j < b.length) (h : edgN a i = edgN b j) : partedL a b = false := by
  obtain ⟨a3, a12, aok, atw, acv⟩ := outline_ok ha
  obtain ⟨b3, b12, bok, btw, bcv⟩ := outline_ok hb
  rw [Bool.eq_false_iff]
  intro hp
  unfold partedL at hp
  simp only [Bool.not_eq_true'] at hp
  obtain ⟨k, hk, hl⟩ := List.all_eq_false.1 hp
  have hk' : k < a.length := by simpa using hk
  have hle : ∀ q ∈ b, (edgN a k).side q ≤ 0 := fun q hq => by
    have : leftAny b (edgN a k) = false := by simpa using hl
    unfold leftAny at this
    rw [List.any_eq_false] at this
    have := this q hq
    simpa using this
  have hi2 : (i + 1) % a.length < a.length := Nat.mod_lt _ (by omega)
  have hj2 : (j + 1) % b.length < b.length := Nat.mod_lt _ (by omega)
  have ea : crn a i = crn b j := congrArg Edg.a h
  have eb : crn a ((i + 1) % a.length) = crn b ((j + 1) % b.length) := congrArg Edg.b h
  have za : (edgN a k).side (edgN a i).a = 0 := by
    have h1 := convex_left acv hk' hi
    have h2 := hle _ (crn_mem hj)
    rw [← ea] at h2
    show (edgN a k).side (crn a i) = 0
    omega
  have zb : (edgN a k).side (edgN a i).b = 0 := by
    have h1 := convex_left acv hk' hi2
    have h2 := hle _ (crn_mem hj2)
    rw [← eb] at h2
    show (edgN a k).side (crn a ((i + 1) % a.length)) = 0
    omega
  have hne := edgN_ne a3 atw hi
  have hv : 0 < ((edgN a i).b.x - (edgN a i).a.x) * ((edgN a i).b.x - (edgN a i).a.x) + ((edgN a i).b.y - (edgN a i).a.y) * ((edgN a i).b.y - (edgN a i).a.y) := sq_pos fun ⟨hx, hy⟩ => hne (by
    generalize edgN a i = e at *
    obtain ⟨⟨ax, ay⟩, bx, by'⟩ := e
    simp only [Pnt.mk.injEq] at hx hy ⊢
    omega)
  have sc := fun c => side_scale za zb c
  have offa := off_line acv hne
  have offb := off_line bcv (show (edgN a i).a ≠ (edgN a i).b from hne)
  have la : ∀ m, m < a.length → 0 ≤ (edgN a i).side (crn a m) := fun m hm => convex_left acv hi hm
  have lb : ∀ m, m < b.length → 0 ≤ (edgN a i).side (crn b m) := fun m hm => by rw [h]; exact convex_left bcv hj hm
  have ka : ∀ m, m < a.length → 0 ≤ (edgN a k).side (crn a m) := fun m hm => convex_left acv hk' hm
  have kb : ∀ m, m < b.length → (edgN a k).side (crn b m) ≤ 0 := fun m hm => hle _ (crn_mem hm)
  generalize ((edgN a i).b.x - (edgN a i).a.x) * ((edgN a i).b.x - (edgN a i).a.x) + ((edgN a i).b.y - (edgN a i).a.y) * ((edgN a i).b.y - (edgN a i).a.y) = V at *
  generalize ((edgN a k).b.x - (edgN a k).a.x) * ((edgN a i).b.x - (edgN a i).a.x) + ((edgN a k).b.y - (edgN a k).a.y) * ((edgN a i).b.y - (edgN a i).a.y) = s at *
  by_cases hs : 0 < s
  · refine offb fun m hm => ?_
    have h1 := sc (crn b m)
    have h2 := kb m hm
    have h3 := lb m hm
    have h4 : V * (edgN a k).side (crn b m) ≤ 0 := Int.mul_nonpos_of_nonneg_of_nonpos (by omega) h2
    rw [h1] at h4
    rcases Int.lt_or_eq_of_le h3 with h5 | h5
    · have := Int.mul_pos hs h5
      omega
    · exact h5.symm
  · refine offa fun m hm => ?_
    have h1 := sc (crn a m)
    have h2 := ka m hm
    have h3 := la m hm
    by_cases hs0 : s = 0
    · rw [hs0, Int.zero_mul] at h1
      have hz : ∀ c, (edgN a k).side c = 0 := fun c => by
        have := sc c
        rw [hs0, Int.zero_mul] at this
        rcases Int.mul_eq_zero.1 this with h | h
        · omega
        · exact h
      exfalso
      exact off_line acv (edgN_ne a3 atw hk') fun m _ => hz _
    · rcases Int.lt_or_eq_of_le h3 with h5 | h5
      · have h6 := Int.mul_pos (show 0 < -s by omega) h5
        have h7 := Int.mul_nonneg (show 0 ≤ V by omega) h2
        rw [Int.neg_mul] at h6
        omega
      · exact h5.symm

theorem share_covered {a b : List Pnt} (ha : outlineE a = 0) (hb : outlineE b = 0) {i j : Nat} (hi : i < a.length) (hj : j < b.length) (h : edgN a i = edgN b j) : coveredL a b = true := by
  unfold coveredL
  rw [not_parted ha hb hi hj h, not_parted hb ha hj hi h.symm]
  rfl

/-- No face has an edge and its way back. -/
theorem no_back {a : List Pnt} (ha : outlineE a = 0) {i j : Nat} (hi : i < a.length) (hj : j < a.length) (h : edgN a j = bck (edgN a i)) : False := by
  obtain ⟨a3, a12, aok, atw, acv⟩ := outline_ok ha
  refine off_line acv (edgN_ne a3 atw hi) fun k hk => ?_
  have h1 := convex_left acv hi hk
  have h2 := convex_left acv hj hk
  have h3 : (edgN a j).side (crn a k) = - (edgN a i).side (crn a k) := by
    rw [h]
    unfold Edg.side bck
    grind
  omega

/-- **Each directed edge of a roof lies at one place.** -/
theorem edge_once {R : Roo} (h : checkE R = 0) {i j m n : Nat} {f g : Fac} (hf : R.fs[i]? = some f) (hg : R.fs[j]? = some g) (hm : m < f.cs.length) (hn : n < g.cs.length) (he : edgN f.cs m = edgN g.cs n) : i = j ∧ m = n := by
  obtain ⟨h1, _, h3⟩ := checkE_parts h
  have of := facesE_outline h1 hf
  have og := facesE_outline h1 hg
  rcases Nat.decEq i j with hne | heq
  · have k1 := uncovered h3 hf hg hne
    rw [share_covered of og hm hn he] at k1
    cases k1
  · subst heq
    rw [hf] at hg
    obtain rfl := Option.some.inj hg
    obtain ⟨_, _, _, atw, _⟩ := outline_ok of
    exact ⟨rfl, edgN_inj atw hm hn he⟩

theorem bck_bck (e : Edg) : bck (bck e) = e := rfl

/-- What is found at the way back of an edge. -/
theorem beside_some {R : Roo} (h : checkE R = 0) {i n : Nat} {f : Fac} (hf : R.fs[i]? = some f) (hn : n < f.cs.length) {p : Nat × Nat} (hp : allF R.fs R.fs.length (bck (edgN f.cs n)) = some p) :
    ∃ g, R.fs[p.1]? = some g ∧ p.1 < R.fs.length ∧ p.2 < g.cs.length ∧ edgN g.cs p.2 = bck (edgN f.cs n) ∧ p.1 ≠ i ∧ allF R.fs R.fs.length (bck (edgN g.cs p.2)) = some (i, n) := by
  obtain ⟨g, h1, h2, h3, h4⟩ := allF_some (Nat.le_refl _) hp
  refine ⟨g, h2, h1, h3, h4, ?_, ?_⟩
  · intro he
    rw [he, hf] at h2
    obtain rfl := Option.some.inj h2
    exact no_back (facesE_outline (checkE_parts h).1 hf) hn h3 h4
  · rw [h4, bck_bck]
    cases hq : allF R.fs R.fs.length (edgN f.cs n) with
    | none => exact absurd rfl (allF_none (Nat.le_refl _) hq i f n ((List.getElem?_eq_some_iff.1 hf).1) hf hn)
    | some q =>
      obtain ⟨g', k1, k2, k3, k4⟩ := allF_some (Nat.le_refl _) hq
      obtain ⟨e1, e2⟩ := edge_once h k2 hf k3 hn k4
      rw [show q = (q.1, q.2) from rfl, e1, e2]
end Go.Proofs.Ytapbkiokfaidfaa
