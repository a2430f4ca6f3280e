/- Fields numbered backwards: whether a farm may be, what chores do. -/
import Derived.Test.YtghepojnimlafaaMRQ
namespace Go.Proofs.Ytghepojnimlafaa
open Go.RowKit

theorem plotE_split {p : Plt} {l : List Plt} : plotE p l = 0 ↔ plotE p [] = 0 ∧ ∀ q ∈ l, strB q.name p.name = false := by
  have h0 : decide (0 ≤ idxP [] p) = false := by simp [idxP]
  constructor
  · intro h
    have hd : decide (0 ≤ idxP l p) = false := by
      cases hd : decide (0 ≤ idxP l p) with
      | false => rfl
      | true =>
        unfold plotE at h
        rw [hd] at h
        split at h
        · cases h
        · cases h
    refine ⟨?_, fun q hq => ?_⟩
    · unfold plotE at h ⊢
      rw [hd] at h
      rw [h0]
      exact h
    · cases hs : strB q.name p.name with
      | false => rfl
      | true =>
        obtain ⟨k, hk⟩ := List.getElem?_of_mem hq
        rw [idxP_some hk hs] at hd
        cases hd
  · rintro ⟨h1, h2⟩
    unfold plotE at h1 ⊢
    rw [h0] at h1
    rw [idxP_none h2]
    exact h1
theorem checkE_iff {F : Frm} : checkE F = 0 ↔ F.ps.length ≤ 12 ∧ (∀ i p, F.ps[i]? = some p → plotE p (F.ps.take i) = 0) ∧ isFromB F.dry 0 1000 = true := by
  unfold checkE
  constructor
  · intro h
    split at h
    · cases h
    next h1 =>
    split at h
    · next h2 => exact absurd h h2
    next h2 =>
    split at h
    · cases h
    next h3 =>
    refine ⟨by omega, fun i p hi => ?_, by simpa using h3⟩
    have h4 := firstNZ_all (Decidable.of_not_not h2) i (List.getElem?_eq_some_iff.1 hi).1
    simp only [hi] at h4
    exact h4
  · rintro ⟨h1, h2, h3⟩
    have h4 : plotsE F.ps = 0 := firstNZ_zero fun i hi => by
      rw [List.getElem?_eq_getElem hi]
      exact h2 i _ (List.getElem?_eq_getElem hi)
    rw [if_neg (by omega), if_neg (by simp [h4]), if_neg (by simp [h3])]
theorem check_rev {F G : Frm} (hG : G.ps = F.ps.reverse) (hd : G.dry = F.dry) (h : checkE F = 0) : checkE G = 0 := by
  obtain ⟨h1, h2, h3⟩ := checkE_iff.1 h
  refine checkE_iff.2 ⟨by rw [hG, List.length_reverse]; exact h1, fun i p hi => ?_, by rw [hd]; exact h3⟩
  rw [hG] at hi ⊢
  have hil : i < F.ps.length := by simpa using (List.getElem?_eq_some_iff.1 hi).1
  rw [List.getElem?_reverse hil] at hi
  refine plotE_split.2 ⟨(plotE_split.1 (h2 _ p hi)).1, fun q hq => ?_⟩
  obtain ⟨j, hj⟩ := List.getElem?_of_mem hq
  rw [List.getElem?_take] at hj
  split at hj
  · next hji =>
    rw [List.getElem?_reverse (by omega)] at hj
    rw [strB_comm]
    refine (plotE_split.1 (h2 _ q hj)).2 p ?_
    exact List.mem_of_getElem? (i := F.ps.length - 1 - i) (by rw [List.getElem?_take, if_pos (by omega)]; exact hi)
  · cases hj
theorem store_rev {F G : Frm} {S : Sto} (hG : G.ps = F.ps.reverse) (hd : G.dry = F.dry) (h : storeE F S = 0) : storeE G (revS F.ps.length S) = 0 :=
  (good_rev hG (goodS_of h)).is (check_rev hG hd (storeE_zero h).1)

/-- A chore, with its field numbered backwards. -/
def revC (n : Int) (a : Chr) : Chr := if a.kind = 2 then { a with plot := IntKind.i64.wrap (n - 1 - a.plot) } else a
/-- An error and a store, backwards. -/
def revR (n : Int) (r : Int × Sto) : Int × Sto := (r.1, revS n r.2)
theorem hep_rev (n : Int) (S : Sto) (nm : ByteArray) : hepAt (revS n S) nm = revH n (hepAt S nm) := by
  unfold hepAt
  show (S.heaps.map (revH n))[(idxH (S.heaps.map (revH n)) nm).toNat]?.getD noHep = _
  rw [idx_rev, List.getElem?_map]
  cases S.heaps[(idxH S.heaps nm).toNat]? with
  | none => rfl
  | some x => rfl
theorem set_rev (n : Int) (l : List Hep) (i : Nat) (x : Hep) : (l.map (revH n)).set i (revH n x) = (l.set i x).map (revH n) := List.map_set.symm
theorem year_rev (n : Int) (S : Sto) : yearD (revS n S) = revR n (yearD S) := by
  unfold yearD revR
  have e : (revS n S).year = S.year := rfl
  rw [e]
  split <;> rfl
theorem dry_rev (n : Int) (S : Sto) (a : Chr) : dryD (revS n S) a = revR n (dryD S a) := by
  unfold dryD
  rw [hep_rev]
  have e : idxH (revS n S).heaps a.name = idxH S.heaps a.name := idx_rev n _ _
  rw [e]
  generalize hepAt S a.name = x
  have e1 : (revH n x).stage = x.stage := rfl
  have e2 : (revH n x).wlo = x.wlo := rfl
  have e3 : (revH n x).whi = x.whi := rfl
  rw [e1, e2, e3]
  repeat' split
  all_goals first | rfl | skip
  unfold revR
  refine Prod.ext rfl ?_
  show ({ revS n S with heaps := (S.heaps.map (revH n)).set (idxH S.heaps a.name).toNat (revH n { x with wlo := moistM (x.wlo - 20 * a.days + 5 * a.rlo), whi := moistM (x.whi - 10 * a.days + 15 * a.rhi) }) } : Sto) = _
  rw [set_rev]
  rfl
theorem comb_rev {F G : Frm} (hd : G.dry = F.dry) (n : Int) (S : Sto) (a : Chr) : combD G (revS n S) a = revR n (combD F S a) := by
  unfold combD
  rw [hep_rev, hd]
  have e : idxH (revS n S).heaps a.name = idxH S.heaps a.name := idx_rev n _ _
  rw [e]
  generalize hepAt S a.name = x
  have e1 : (revH n x).stage = x.stage := rfl
  have e3 : (revH n x).whi = x.whi := rfl
  have e4 : (revH n x).parts = x.parts.map (revP n) := rfl
  rw [e1, e3, e4, loadsM_rev, (cut_rev n x.parts a.loads).1]
  repeat' split
  all_goals first | rfl | skip
  unfold revR
  refine Prod.ext rfl ?_
  show ({ revS n S with waste := putL (S.waste.map (revP n)) _, heaps := moveH ((S.heaps.map (revH n)).set _ (revH n { x with stage := 2 })) _ _ } : Sto) = _
  rw [set_rev, move_rev, put_rev]
  rfl
theorem join_rev (n : Int) (S : Sto) (a : Chr) : joinD (revS n S) a = revR n (joinD S a) := by
  unfold joinD
  rw [hep_rev, hep_rev]
  have e : idxH (revS n S).heaps a.name = idxH S.heaps a.name := idx_rev n _ _
  have e' : idxH (revS n S).heaps a.other = idxH S.heaps a.other := idx_rev n _ _
  rw [e, e']
  generalize hepAt S a.name = x
  generalize hepAt S a.other = y
  have e1 : (revH n x).stage = x.stage := rfl
  have e2 : (revH n x).crop = x.crop := rfl
  have e3 : (revH n y).stage = y.stage := rfl
  have e4 : (revH n y).crop = y.crop := rfl
  have e5 : (revH n x).parts = x.parts.map (revP n) := rfl
  have e6 : (revH n y).parts = y.parts.map (revP n) := rfl
  rw [e1, e2, e3, e4, e5, e6, put_rev]
  repeat' split
  all_goals first | rfl | skip
  unfold revR
  refine Prod.ext rfl ?_
  show ({ revS n S with heaps := ((S.heaps.map (revH n)).set _ (revH n { x with parts := putL x.parts y.parts, wlo := _, whi := _ })).eraseIdx _ } : Sto) = _
  rw [set_rev, erase_map]
  rfl
theorem bind_rev {F G : Frm} (hd : G.dry = F.dry) (n : Int) (S : Sto) (a : Chr) : bindD G (revS n S) a = revR n (bindD F S a) := by
  unfold bindD
  rw [hep_rev, hd]
  have e : idxH (revS n S).heaps a.name = idxH S.heaps a.name := idx_rev n _ _
  have e' : idxH (revS n S).heaps a.other = idxH S.heaps a.other := idx_rev n _ _
  have el : (revS n S).heaps.length = S.heaps.length := List.length_map ..
  rw [e, e', el]
  generalize hepAt S a.name = x
  have e1 : (revH n x).stage = x.stage := rfl
  have e3 : (revH n x).whi = x.whi := rfl
  have e4 : (revH n x).parts = x.parts.map (revP n) := rfl
  rw [e1, e3, e4, loadsM_rev, (cut_rev n x.parts _).1]
  repeat' split
  all_goals first | rfl | skip
  unfold revR
  refine Prod.ext rfl ?_
  show ({ revS n S with heaps := moveH (S.heaps.map (revH n)) _ _ ++ _ } : Sto) = _
  rw [move_rev]
  show _ = ({ revS n S with heaps := (_ ++ [_]).map (revH n) } : Sto)
  rw [List.map_append]
  rfl
theorem use_rev (n : Int) (S : Sto) (a : Chr) : useD (revS n S) a = revR n (useD S a) := by
  unfold useD
  rw [hep_rev]
  have e : idxH (revS n S).heaps a.name = idxH S.heaps a.name := idx_rev n _ _
  rw [e]
  generalize hepAt S a.name = x
  have e1 : (revH n x).stage = x.stage := rfl
  have e3 : (revH n x).per = x.per := rfl
  have e4 : (revH n x).parts = x.parts.map (revP n) := rfl
  rw [e1, e3, e4, loadsM_rev, (cut_rev n x.parts _).1]
  repeat' split
  all_goals first | rfl | skip
  unfold revR
  refine Prod.ext rfl ?_
  show ({ revS n S with used := putL (S.used.map (revP n)) _, heaps := moveH (S.heaps.map (revH n)) _ _ } : Sto) = _
  rw [move_rev, put_rev]
  rfl
theorem rot_rev {F G : Frm} (hd : G.dry = F.dry) (n : Int) (S : Sto) (a : Chr) : rotD G (revS n S) a = revR n (rotD F S a) := by
  unfold rotD
  rw [hep_rev, hd]
  have e : idxH (revS n S).heaps a.name = idxH S.heaps a.name := idx_rev n _ _
  rw [e]
  generalize hepAt S a.name = x
  have e3 : (revH n x).whi = x.whi := rfl
  have e4 : (revH n x).parts = x.parts.map (revP n) := rfl
  rw [e3, e4, loadsM_rev, (cut_rev n x.parts _).1]
  repeat' split
  all_goals first | rfl | skip
  unfold revR
  refine Prod.ext rfl ?_
  show ({ revS n S with waste := putL (S.waste.map (revP n)) _, heaps := moveH (S.heaps.map (revH n)) _ _ } : Sto) = _
  rw [move_rev, put_rev]
  rfl
theorem intAt_rev {l : List Int} {i : Int} (h0 : 0 ≤ i) (h1 : i < l.length) : intAt l.reverse ((l.length : Int) - 1 - i).toNat = intAt l i.toNat := by
  unfold intAt
  rw [rev_at h0 h1]
theorem setAt_rev {l : List Int} {i x : Int} (h0 : 0 ≤ i) (h1 : i < l.length) : l.reverse.set ((l.length : Int) - 1 - i).toNat x = (l.set i.toNat x).reverse := by
  apply List.ext_getElem?
  intro k
  by_cases hk : k < l.length
  · rw [List.getElem?_reverse (by simpa using hk), List.getElem?_set, List.getElem?_set, List.length_set]
    by_cases hki : ((l.length : Int) - 1 - i).toNat = k
    · rw [if_pos hki, if_pos (by simpa using (by omega : ((l.length : Int) - 1 - i).toNat < l.length)), if_pos (by omega), if_pos (by omega)]
    · rw [if_neg hki, if_neg (by omega), List.getElem?_reverse hk]
  · rw [List.getElem?_eq_none (by simpa using hk), List.getElem?_eq_none (by simpa using hk)]
theorem cut_field {F G : Frm} (hG : G.ps = F.ps.reverse) {S : Sto} (g : GoodS F S) (a : Chr) (hk : a.kind = 2) (hp : -9223372036854775808 ≤ a.plot ∧ a.plot ≤ 9223372036854775807) (h12 : F.ps.length ≤ 12) :
    cutD G (revS F.ps.length S) (revC F.ps.length a) = revR F.ps.length (cutD F S a) := by
  have hl : G.ps.length = F.ps.length := by rw [hG, List.length_reverse]
  have hll : S.last.length = F.ps.length := by have := g.years; simp only [yearsB, Bool.and_eq_true, decide_eq_true_eq] at this; exact this.2.1
  have hgl := g.len
  have eb : revC F.ps.length a = { a with plot := IntKind.i64.wrap ((F.ps.length : Int) - 1 - a.plot) } := if_pos hk
  by_cases hr : isFromB a.plot 0 ((F.ps.length : Int) - 1) = true
  · have h0 := isFromB_iff.1 hr
    have hw : IntKind.i64.wrap ((F.ps.length : Int) - 1 - a.plot) = (F.ps.length : Int) - 1 - a.plot := by rw [IntKind.wrap_i64]; omega
    rw [hw] at eb
    rw [eb]
    unfold cutD
    simp only
    have c1 : isFromB ((F.ps.length : Int) - 1 - a.plot) 0 ((G.ps.length : Int) - 1) = true := isFromB_iff.2 (by rw [hl]; omega)
    have c2 : idxH (revS F.ps.length S).heaps a.name = idxH S.heaps a.name := idx_rev _ _ _
    have c3 : intAt (revS F.ps.length S).last ((F.ps.length : Int) - 1 - a.plot).toNat = intAt S.last a.plot.toNat := by
      have := intAt_rev (l := S.last) h0.1 (by rw [hll]; omega)
      rw [hll] at this
      exact this
    have c4 : pltAt G.ps ((F.ps.length : Int) - 1 - a.plot).toNat = pltAt F.ps a.plot.toNat := by
      unfold pltAt
      rw [hG, rev_at h0.1 (by omega)]
    have c5 : intAt (revS F.ps.length S).given ((F.ps.length : Int) - 1 - a.plot).toNat = intAt S.given a.plot.toNat := by
      have := intAt_rev (l := S.given) h0.1 (by rw [hgl]; omega)
      rw [hgl] at this
      exact this
    have c6 : (revS F.ps.length S).heaps.length = S.heaps.length := List.length_map ..
    have c7 : (revS F.ps.length S).year = S.year := rfl
    rw [c1, hr, c2, c3, c4, c5, c6, c7, allM_rev]
    repeat' split
    all_goals first | rfl | skip
    unfold revR
    refine Prod.ext rfl ?_
    have d1 : (revS F.ps.length S).last.set ((F.ps.length : Int) - 1 - a.plot).toNat S.year = (S.last.set a.plot.toNat S.year).reverse := by
      have := setAt_rev (l := S.last) (x := S.year) h0.1 (by rw [hll]; omega)
      rw [hll] at this
      exact this
    have d2 : ∀ x, (revS F.ps.length S).given.set ((F.ps.length : Int) - 1 - a.plot).toNat x = (S.given.set a.plot.toNat x).reverse := fun x => by
      have := setAt_rev (l := S.given) (x := x) h0.1 (by rw [hgl]; omega)
      rw [hgl] at this
      exact this
    simp only [d1, d2]
    simp only [revS, List.map_append, List.map_cons, List.map_nil, revH, revP]
  · have hr' : isFromB a.plot 0 ((F.ps.length : Int) - 1) = false := by simpa using hr
    have hno : ¬ (0 ≤ a.plot ∧ a.plot ≤ (F.ps.length : Int) - 1) := fun h => hr (isFromB_iff.2 h)
    have c1 : isFromB (IntKind.i64.wrap ((F.ps.length : Int) - 1 - a.plot)) 0 ((G.ps.length : Int) - 1) = false := by
      cases hc : isFromB (IntKind.i64.wrap ((F.ps.length : Int) - 1 - a.plot)) 0 ((G.ps.length : Int) - 1) with
      | false => rfl
      | true =>
        have := isFromB_iff.1 hc
        rw [hl, IntKind.wrap_i64] at this
        omega
    rw [eb]
    unfold cutD
    simp only
    rw [if_pos c1, if_pos hr']
    rfl
/-- **A chore on the same field does the same.** -/
theorem do_rev {F G : Frm} (hG : G.ps = F.ps.reverse) (hd : G.dry = F.dry) {S : Sto} (hE : storeE F S = 0) (a : Chr) (hp : -9223372036854775808 ≤ a.plot ∧ a.plot ≤ 9223372036854775807) :
    doD G (revS F.ps.length S) (revC F.ps.length a) = revR F.ps.length (doD F S a) := by
  have h12 := (checkE_ok (storeE_zero hE).1).1
  rw [doD_step hE, doD_step (store_rev hG hd hE)]
  unfold stepD
  by_cases k2 : a.kind = 2
  · have e : (1 ≤ (revC F.ps.length a).kind ∧ (revC F.ps.length a).kind ≤ 8 ∧ chrB (revC F.ps.length a) (namedM (revC F.ps.length a)) = true) ↔ (1 ≤ a.kind ∧ a.kind ≤ 8 ∧ chrB a (namedM a) = true) := by
      unfold revC
      rw [if_pos k2]
      simp [chrB, namedM, k2]
    by_cases hc : 1 ≤ a.kind ∧ a.kind ≤ 8 ∧ chrB a (namedM a) = true
    · rw [if_neg (fun h => h (e.2 hc)), if_neg (fun h => h hc)]
      unfold choreD
      have k2' : (revC F.ps.length a).kind = 2 := by unfold revC; rw [if_pos k2]; exact k2
      rw [if_neg (by omega), if_pos k2', if_neg (by omega), if_pos k2]
      exact cut_field hG (goodS_of hE) a k2 hp h12
    · rw [if_pos (fun h => hc (e.1 h)), if_pos hc]
      rfl
  · have e : revC F.ps.length a = a := if_neg k2
    rw [e]
    by_cases hc : ¬ (1 ≤ a.kind ∧ a.kind ≤ 8 ∧ chrB a (namedM a) = true)
    · rw [if_pos hc, if_pos hc]; rfl
    · rw [if_neg hc, if_neg hc]
      unfold choreD
      rw [if_neg k2, if_neg k2]
      by_cases k1 : a.kind = 1
      · rw [if_pos k1, if_pos k1]; exact year_rev _ S
      rw [if_neg k1, if_neg k1]
      by_cases k3 : a.kind = 3
      · rw [if_pos k3, if_pos k3]; exact dry_rev _ S a
      rw [if_neg k3, if_neg k3]
      by_cases k4 : a.kind = 4
      · rw [if_pos k4, if_pos k4]; exact comb_rev hd _ S a
      rw [if_neg k4, if_neg k4]
      by_cases k5 : a.kind = 5
      · rw [if_pos k5, if_pos k5]; exact join_rev _ S a
      rw [if_neg k5, if_neg k5]
      by_cases k6 : a.kind = 6
      · rw [if_pos k6, if_pos k6]; exact bind_rev hd _ S a
      rw [if_neg k6, if_neg k6]
      by_cases k7 : a.kind = 7
      · rw [if_pos k7, if_pos k7]; exact use_rev _ S a
      rw [if_neg k7, if_neg k7]
      exact rot_rev hd _ S a
theorem run_rev {F G : Frm} (hG : G.ps = F.ps.reverse) (hd : G.dry = F.dry) : ∀ {l : List Chr} {S : Sto}, storeE F S = 0 → (∀ a ∈ l, -9223372036854775808 ≤ a.plot ∧ a.plot ≤ 9223372036854775807) →
    (runL G (revS F.ps.length S) (l.map (revC F.ps.length))).1 = revS F.ps.length (runL F S l).1 ∧ (runL G (revS F.ps.length S) (l.map (revC F.ps.length))).2 = (runL F S l).2
  | [], _, _, _ => ⟨rfl, rfl⟩
  | a :: l, S, hE, hp => by
    have h1 := do_rev hG hd hE a (hp a (by simp))
    simp only [List.map_cons, runL, h1, revR]
    by_cases h2 : (doD F S a).1 = 0
    · rw [if_pos h2, if_pos h2]
      obtain ⟨h3, h4⟩ := run_rev hG hd (l := l) (keep_do h2) (fun b hb => hp b (by simp [hb]))
      exact ⟨h3, by rw [h4]⟩
    · rw [if_neg h2, if_neg h2]
      exact ⟨rfl, rfl⟩
theorem first_rev {F G : Frm} (hG : G.ps = F.ps.reverse) (K1 K2 L1 L2 : Option Addr) (c1 c2 d1 d2 : Nat) : SameSto (firstOf G L1 L2 d1 d2) (revS F.ps.length (firstOf F K1 K2 c1 c2)) := by
  have hl : G.ps.length = F.ps.length := by rw [hG, List.length_reverse]
  refine ⟨rfl, ?_, ?_, rfl, rfl, rfl, fun i g h hg => by simp [firstOf] at hg⟩
  · simp [firstOf, revS, hl]
  · simp [firstOf, revS, hl]
end Go.Proofs.Ytghepojnimlafaa
