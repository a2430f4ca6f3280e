/- Kinds of edges: alike from both sides; heights at their ends. The list of edges, by places. -/
import Derived.Test.YtapbkiokfaidfaaB1
namespace Go.Proofs.Ytapbkiokfaidfaa
open Go.RowKit

/-! ### Lowest terms -/
theorem low_back (n d : Int) : n = lowN n d * (Int.gcd n d : Int) ∧ d = lowD n d * (Int.gcd n d : Int) := by
  unfold lowN lowD
  exact ⟨(Int.ediv_mul_cancel (Int.gcd_dvd_left ..)).symm, (Int.ediv_mul_cancel (Int.gcd_dvd_right ..)).symm⟩
theorem low_cross {n d n' d' : Int} (h1 : lowN n d = lowN n' d') (h2 : lowD n d = lowD n' d') : n * d' = n' * d := by
  obtain ⟨a1, a2⟩ := low_back n d
  obtain ⟨b1, b2⟩ := low_back n' d'
  rw [h1] at a1
  rw [h2] at a2
  generalize lowN n' d' = A at *
  generalize lowD n' d' = B at *
  generalize (Int.gcd n d : Int) = g at *
  generalize (Int.gcd n' d' : Int) = g' at *
  subst a1 a2 b1 b2
  grind
theorem low_eq {n d n' d' : Int} (hd : 0 < d) (hd' : 0 < d') (h : n * d' = n' * d) : lowN n d = lowN n' d' ∧ lowD n d = lowD n' d' := by
  obtain ⟨a1, a2⟩ := low_back n d
  obtain ⟨b1, b2⟩ := low_back n' d'
  have g0 : (0 : Int) < (Int.gcd n d : Int) := by
    have : Int.gcd n d ≠ 0 := fun h => by rw [Int.gcd_eq_zero_iff] at h; omega
    omega
  have g1 : (0 : Int) < (Int.gcd n' d' : Int) := by
    have : Int.gcd n' d' ≠ 0 := fun h => by rw [Int.gcd_eq_zero_iff] at h; omega
    omega
  have c0 : Int.gcd (lowN n d) (lowD n d) = 1 := Int.gcd_ediv_gcd_ediv_gcd (by omega)
  have c1 : Int.gcd (lowN n' d') (lowD n' d') = 1 := Int.gcd_ediv_gcd_ediv_gcd (by omega)
  have p0 : 0 < lowD n d := by
    rcases Int.lt_or_le 0 (lowD n d) with k | k
    · exact k
    · have := Int.mul_nonpos_of_nonpos_of_nonneg k (Int.le_of_lt g0)
      omega
  have p1 : 0 < lowD n' d' := by
    rcases Int.lt_or_le 0 (lowD n' d') with k | k
    · exact k
    · have := Int.mul_nonpos_of_nonpos_of_nonneg k (Int.le_of_lt g1)
      omega
  generalize lowN n d = A at *
  generalize lowD n d = B at *
  generalize lowN n' d' = A' at *
  generalize lowD n' d' = B' at *
  generalize (Int.gcd n d : Int) = g at *
  generalize (Int.gcd n' d' : Int) = g' at *
  subst a1 a2 b1 b2
  have e : A * B' = A' * B := by
    have : (g * g') * (A * B') = (g * g') * (A' * B) := by grind
    exact Int.eq_of_mul_eq_mul_left (by have := Int.mul_pos g0 g1; omega) this
  have cop : ∀ {x y z : Int}, x ∣ y * z → Int.gcd y x = 1 → x ∣ z := fun {x y z} h1 h2 => by
    rw [← Int.natAbs_dvd_natAbs, Int.natAbs_mul] at h1
    rw [← Int.natAbs_dvd_natAbs]
    exact Nat.Coprime.dvd_of_dvd_mul_left (by rw [Nat.coprime_comm]; exact h2) h1
  have d1 : B ∣ B' := cop (y := A) ⟨A', by rw [e, Int.mul_comm]⟩ c0
  have d2 : B' ∣ B := cop (y := A') ⟨A, by rw [← e, Int.mul_comm]⟩ c1
  have eB : B = B' := Int.dvd_antisymm (by omega) (by omega) d1 d2
  refine ⟨?_, eB⟩
  rw [eB] at e
  exact Int.eq_of_mul_eq_mul_right (by omega) e

/-! ### Heights and kinds -/
theorem levelB_cross {f g : Fac} {p : Pnt} (hf : f.ok) (hg : g.ok) : levelB f g p = true ↔ hNum f p * g.run = hNum g p * f.run := by
  unfold levelB
  rw [decide_eq_true_eq]
  have := hf.n0
  have := hg.n0
  exact ⟨fun ⟨h1, h2⟩ => low_cross h1 h2, fun h => low_eq (by omega) (by omega) h⟩
theorem levelB_comm (f g : Fac) (p : Pnt) : levelB f g p = levelB g f p := by
  unfold levelB
  rw [Bool.eq_iff_iff]
  simp only [decide_eq_true_eq]
  exact ⟨fun ⟨a, b⟩ => ⟨a.symm, b.symm⟩, fun ⟨a, b⟩ => ⟨a.symm, b.symm⟩⟩
theorem stepB_bck (f g : Fac) (e : Edg) : stepB g f (bck e) = stepB f g e := by
  unfold stepB
  show (!levelB g f e.b || !levelB g f e.a) = _
  rw [levelB_comm g f, levelB_comm g f, Bool.or_comm]

theorem level_same {f g : Fac} {e : Edg} (hf : f.ok) (hg : g.ok) (h : stepB f g e = false) : (seenV f.side e == 0) = (seenV g.side (bck e) == 0) := by
  unfold stepB at h
  simp only [Bool.or_eq_false_iff, Bool.not_eq_false'] at h
  obtain ⟨h1, h2⟩ := h
  rw [levelB_cross hf hg] at h1 h2
  have r0 := hf.r0
  have r1 := hg.r0
  have n0 := hf.n0
  have n1 := hg.n0
  have key : f.rise * seenV f.side e * g.run = g.rise * (- seenV g.side (bck e)) * f.run := by
    unfold hNum at h1 h2
    unfold seenV
    show f.rise * (ownV f.side e.b - ownV f.side e.a) * g.run = g.rise * (-(ownV g.side e.a - ownV g.side e.b)) * f.run
    generalize ownV f.side e.a = fa at *
    generalize ownV f.side e.b = fb at *
    generalize ownV g.side e.a = ga at *
    generalize ownV g.side e.b = gb at *
    generalize ownV f.side ⟨f.foot, f.foot⟩ = ff at *
    generalize ownV g.side ⟨g.foot, g.foot⟩ = gf at *
    have e1 : f.rise * (fb - fa) * g.run = (f.base * f.run + f.rise * (fb - ff)) * g.run - (f.base * f.run + f.rise * (fa - ff)) * g.run := by grind
    have e2 : g.rise * (-(ga - gb)) * f.run = (g.base * g.run + g.rise * (gb - gf)) * f.run - (g.base * g.run + g.rise * (ga - gf)) * f.run := by grind
    rw [e1, e2, h1, h2]
  rw [Bool.eq_iff_iff, beq_iff_eq, beq_iff_eq]
  constructor
  · intro hz
    rw [hz, Int.mul_zero, Int.zero_mul] at key
    rcases Int.mul_eq_zero.1 key.symm with k | k
    · rcases Int.mul_eq_zero.1 k with k | k <;> omega
    · omega
  · intro hz
    rw [hz, Int.neg_zero, Int.mul_zero, Int.zero_mul] at key
    rcases Int.mul_eq_zero.1 key with k | k
    · rcases Int.mul_eq_zero.1 k with k | k <;> omega
    · omega

/-- **A kind is told alike from both sides.** -/
theorem kindB_bck {f g : Fac} {e : Edg} (hf : f.ok) (hg : g.ok) : kindB g f (bck e) = kindB f g e := by
  unfold kindB
  rw [stepB_bck]
  cases h : stepB f g e with
  | true => rfl
  | false =>
    rw [if_neg (by simp), if_neg (by simp), ← level_same hf hg h]
    have hs : sumB g f (bck e) = sumB f g e := by
      show g.rise * seenU g.side (bck e) * f.run + f.rise * seenU f.side e * g.run = f.rise * seenU f.side e * g.run + g.rise * seenU g.side (bck e) * f.run
      omega
    rw [hs]
    show kindS _ (sgn (seenU g.side (bck e))) (sgn (seenU f.side e)) _ = kindS _ (sgn (seenU f.side e)) (sgn (seenU g.side (bck e))) _
    generalize sgn (seenU g.side (bck e)) = A
    generalize sgn (seenU f.side e) = B
    unfold kindS
    (repeat' split) <;> first | rfl | omega
theorem kindA_alone (f : Fac) (e : Edg) : kindA f e = 1 ∨ kindA f e = 2 ∨ kindA f e = 3 := by
  unfold kindA
  split
  · split
    · exact .inl rfl
    · exact .inr (.inr rfl)
  · exact .inr (.inl rfl)
theorem kindB_range (f g : Fac) (e : Edg) : 4 ≤ kindB f g e ∧ kindB f g e ≤ 9 := by
  unfold kindB kindS
  (repeat' split) <;> omega
theorem kindB_step (f g : Fac) (e : Edg) : kindB f g e = 4 ↔ stepB f g e = true := by
  unfold kindB kindS
  cases h : stepB f g e with
  | true => simp
  | false =>
    rw [if_neg (by simp)]
    simp only [Bool.false_eq_true, iff_false]
    (repeat' split) <;> omega
theorem kindB_ridge {f g : Fac} {e : Edg} (h : kindB f g e = 5) : seenV f.side e = 0 := by
  unfold kindB kindS at h
  (repeat' split at h) <;> first | omega | skip
  rename_i hl
  simpa using hl
theorem kindB_hip {f g : Fac} {e : Edg} (h : kindB f g e = 6) : seenV f.side e ≠ 0 := by
  unfold kindB kindS at h
  (repeat' split at h) <;> first | omega | skip
  rename_i hl
  simpa using hl
theorem kindA_level {f : Fac} {e : Edg} : (kindA f e = 2 → seenV f.side e ≠ 0) ∧ (kindA f e ≠ 2 → seenV f.side e = 0) := by
  unfold kindA
  split
  · rename_i h
    refine ⟨fun hk => ?_, fun _ => by simpa using h⟩
    split at hk <;> omega
  · rename_i h
    exact ⟨fun _ => by simpa using h, fun hk => absurd rfl hk⟩

/-- Two heights of one face are equal just where it does not rise between them. -/
theorem hgt_same {f : Fac} (hf : f.ok) (p q : Pnt) : (hgtN f p = hgtN f q ∧ hgtD f p = hgtD f q) ↔ ownV f.side p = ownV f.side q := by
  have n0 := hf.n0
  have r0 := hf.r0
  constructor
  · rintro ⟨h1, h2⟩
    have h := low_cross h1 h2
    have h3 := Int.eq_of_mul_eq_mul_right (show f.run ≠ 0 by omega) h
    unfold hNum at h3
    have h4 : f.rise * (ownV f.side p - ownV f.side ⟨f.foot, f.foot⟩) = f.rise * (ownV f.side q - ownV f.side ⟨f.foot, f.foot⟩) := by omega
    have h5 := Int.eq_of_mul_eq_mul_left (show f.rise ≠ 0 by omega) h4
    omega
  · intro h
    unfold hgtN hgtD hNum
    rw [h]
    exact ⟨rfl, rfl⟩

theorem ownV_mid (s : Int) {p q m : Pnt} (hx : p.x + q.x = 2 * m.x) (hy : p.y + q.y = 2 * m.y) : ownV s p + ownV s q = 2 * ownV s m := by
  unfold ownV
  (repeat' split) <;> omega

/-- Two faces that are equally high at both ends are so halfway. -/
theorem level_mid {f g : Fac} (hf : f.ok) (hg : g.ok) {p q m : Pnt} (h1 : levelB f g p = true) (h2 : levelB f g q = true) (hx : p.x + q.x = 2 * m.x) (hy : p.y + q.y = 2 * m.y) : levelB f g m = true := by
  rw [levelB_cross hf hg] at h1 h2 ⊢
  have a := ownV_mid f.side hx hy
  have b := ownV_mid g.side hx hy
  unfold hNum at *
  generalize ownV f.side p = fp at *
  generalize ownV f.side q = fq at *
  generalize ownV f.side m = fm at *
  generalize ownV g.side p = gp at *
  generalize ownV g.side q = gq at *
  generalize ownV g.side m = gm at *
  generalize ownV f.side ⟨f.foot, f.foot⟩ = ff at *
  generalize ownV g.side ⟨g.foot, g.foot⟩ = gf at *
  have e1 : 2 * ((f.base * f.run + f.rise * (fm - ff)) * g.run) = (f.base * f.run + f.rise * (fp - ff)) * g.run + (f.base * f.run + f.rise * (fq - ff)) * g.run := by grind
  have e2 : 2 * ((g.base * g.run + g.rise * (gm - gf)) * f.run) = (g.base * g.run + g.rise * (gp - gf)) * f.run + (g.base * g.run + g.rise * (gq - gf)) * f.run := by grind
  omega

/-! ### The list of all edges -/
theorem allR_zero (fs : List Fac) : allR fs 0 = [] := rfl
theorem rowR_len (fs : List Fac) (i : Nat) (f : Fac) : (rowR fs i f).length = f.cs.length := by simp [rowR]
theorem allR_at {fs : List Fac} {i k : Nat} {f : Fac} (hf : fs[i]? = some f) (hk : k < f.cs.length) : ∀ {n : Nat}, i < n → n ≤ fs.length → (allR fs n)[(allR fs i).length + k]? = some (edgR fs i f k)
  | 0, h, _ => by omega
  | n + 1, h, hn => by
    have hq := List.getElem?_eq_getElem (show n < fs.length by omega)
    by_cases hin : i = n
    · subst hin
      clear hq
      rw [allR_succ hf, List.getElem?_append_right (by omega), show (allR fs i).length + k - (allR fs i).length = k by omega]
      simp [rowR, hk]
    · have ih := allR_at hf hk (n := n) (by omega) (by omega)
      rw [allR_succ hq, List.getElem?_append_left (List.getElem?_eq_some_iff.1 ih).1]
      exact ih
theorem allR_of {fs : List Fac} : ∀ {n : Nat}, n ≤ fs.length → ∀ t x, (allR fs n)[t]? = some x → ∃ i f k, i < n ∧ fs[i]? = some f ∧ k < f.cs.length ∧ x = edgR fs i f k ∧ t = (allR fs i).length + k
  | 0, _, t, x, h => by simp [allR_zero] at h
  | n + 1, hn, t, x, h => by
    have hq := List.getElem?_eq_getElem (show n < fs.length by omega)
    rw [allR_succ hq] at h
    by_cases ht : t < (allR fs n).length
    · rw [List.getElem?_append_left ht] at h
      obtain ⟨i, f, k, h1, h2⟩ := allR_of (by omega) t x h
      exact ⟨i, f, k, by omega, h2⟩
    · rw [List.getElem?_append_right (by omega)] at h
      have hl := (List.getElem?_eq_some_iff.1 h).1
      rw [rowR_len] at hl
      refine ⟨n, fs[n], t - (allR fs n).length, by omega, hq, hl, ?_, by omega⟩
      simp [rowR, hl] at h
      exact h.symm

/-- **What a roof that may be says of one of its edges.** -/
theorem edge_facts {R : Roo} (h : checkE R = 0) {i k : Nat} {f : Fac} (hf : R.fs[i]? = some f) (hk : k < f.cs.length) :
    (edgR R.fs i f k = ⟨i, k, kindA f (edgN f.cs k), -1, -1⟩) ∨
    ∃ b m g, edgR R.fs i f k = ⟨i, k, kindB f g (edgN f.cs k), (b : Nat), (m : Nat)⟩ ∧ R.fs[b]? = some g ∧ b < R.fs.length ∧ m < g.cs.length ∧ edgN g.cs m = bck (edgN f.cs k) ∧ b ≠ i ∧
      edgR R.fs b g m = ⟨b, m, kindB f g (edgN f.cs k), i, k⟩ := by
  cases hq : allF R.fs R.fs.length (bck (edgN f.cs k)) with
  | none => exact .inl (by unfold edgR; rw [hq])
  | some p =>
    obtain ⟨g, h1, h2, h3, h4, h5, h6⟩ := beside_some h hf hk hq
    refine .inr ⟨p.1, p.2, g, by unfold edgR; rw [hq]; simp only []; rw [h1], h1, h2, h3, h4, h5, ?_⟩
    unfold edgR
    rw [h6]
    simp only []
    rw [hf, h4]
    simp only []
    rw [kindB_bck (checkE_ok h f (List.mem_of_getElem? hf)) (checkE_ok h g (List.mem_of_getElem? h1))]
end Go.Proofs.Ytapbkiokfaidfaa
