/- Mathematics of even rows: counted one by one, there are as many as their halves say. No condition but that the ridge may be. -/
import Derived.Test.YtmcmhgjlpffcnaaRG
set_option linter.unusedSimpArgs false
namespace Go.Proofs.Ytmcmhgjlpffcnaa
open Go.RowKit

/-! ### Lists without equal elements -/
theorem nodup_le {α : Type} [DecidableEq α] : ∀ (l m : List α), l.Nodup → (∀ x ∈ l, x ∈ m) → l.length ≤ m.length := by
  intro l
  induction l with
  | nil => intro m _ _; simp
  | cons x l ih =>
    intro m hl h
    rw [List.nodup_cons] at hl
    have hx : x ∈ m := h x (by simp)
    have h1 := ih (m.erase x) hl.2 (fun y hy => (List.mem_erase_of_ne (fun e => hl.1 (by rw [← e]; exact hy))).2 (h y (by simp [hy])))
    rw [List.length_erase_of_mem hx] at h1
    have h2 := List.length_pos_of_mem hx
    rw [List.length_cons]
    omega
theorem nodup_map {α β : Type} {f : α → β} : ∀ {l : List α}, l.Nodup → (∀ a ∈ l, ∀ b ∈ l, f a = f b → a = b) → (l.map f).Nodup := by
  intro l
  induction l with
  | nil => intro _ _; simp
  | cons a l ih =>
    intro hl h
    rw [List.nodup_cons] at hl
    rw [List.map_cons, List.nodup_cons]
    refine ⟨fun hm => ?_, ih hl.2 (fun x hx y hy => h x (by simp [hx]) y (by simp [hy]))⟩
    obtain ⟨b, hb, e⟩ := List.mem_map.1 hm
    have h1 := h b (by simp [hb]) a (by simp) e
    subst h1
    exact hl.1 hb
theorem nodup_flat {α β : Type} {f : α → List β} : ∀ {l : List α}, l.Nodup → (∀ a ∈ l, (f a).Nodup) → (∀ a ∈ l, ∀ b ∈ l, ∀ x, x ∈ f a → x ∈ f b → a = b) → (l.flatMap f).Nodup := by
  intro l
  induction l with
  | nil => intro _ _ _; simp
  | cons a l ih =>
    intro hl h1 h2
    rw [List.nodup_cons] at hl
    rw [List.flatMap_cons, List.nodup_append]
    refine ⟨h1 a (by simp), ih hl.2 (fun x hx => h1 x (by simp [hx])) (fun x hx y hy => h2 x (by simp [hx]) y (by simp [hy])), ?_⟩
    intro x hx y hy e
    subst e
    obtain ⟨b, hb, hxb⟩ := List.mem_flatMap.1 hy
    have h3 := h2 a (by simp) b (by simp [hb]) x hx hxb
    subst h3
    exact hl.1 hb

/-! ### A row that fits has a number -/
theorem preN_wy {ps : List Pce} (hps : ∀ x ∈ ps, x.ok) (en : Nat) {g : Gp} (h0 : g.n ≠ 0) (y : Nx g ps) : preN ps en y + wy ps en (nxB g ps y) ≤ wy ps en g := by
  obtain ⟨rest, hr⟩ := nxL_at y
  rw [wy_sum hps en h0, hr]
  unfold preN
  simp only [sumN, List.map_append, List.sum_append, List.map_cons, List.sum_cons]
  omega
theorem nth_rank {ps : List Pce} (hps : ∀ x ∈ ps, x.ok) (en : Nat) : ∀ (row : List Int) (g : Gp), runG ps g row = some ⟨0, en⟩ → rankF ps en g row < wy ps en g ∧ nthG ps en g (rankF ps en g row) = row := by
  intro row
  induction row with
  | nil =>
    intro g e
    obtain rfl : g = ⟨0, en⟩ := by simpa [runG] using e
    refine ⟨?_, nth_none ps en _ rfl⟩
    rw [wy_end hps en rfl, if_pos rfl]
    exact Nat.one_pos
  | cons a row ih =>
    intro g e
    rw [runG, List.foldlM_cons] at e
    cases hs : stepG ps g a with
    | none => rw [hs] at e; cases e
    | some g2 =>
      rw [hs] at e
      obtain ⟨x, ha, hx, ht, rfl⟩ := stepG_some hs
      obtain ⟨h1, h2⟩ := ih _ (show runG ps (behG g x) row = some ⟨0, en⟩ from e)
      obtain ⟨hi, hxi⟩ := List.getElem?_eq_some_iff.1 hx
      have ht' : takB g (ps.get ⟨a.toNat, hi⟩) = true := by rw [List.get_eq_getElem]; simp only; rw [hxi]; exact ht
      have hB : nxB g ps ⟨⟨a.toNat, hi⟩, ht'⟩ = behG g x := by unfold nxB; rw [List.get_eq_getElem]; simp only; rw [hxi]
      have h0 : g.n ≠ 0 := by
        have h3 := behG_lt (hps x (List.mem_of_getElem? hx)) ht
        omega
      have hr : rankF ps en g (a :: row) = preN ps en (⟨⟨a.toNat, hi⟩, ht'⟩ : Nx g ps) + rankF ps en (behG g x) row := by
        rw [rankF, hx]
        rfl
      have h4 := preN_wy hps en h0 (⟨⟨a.toNat, hi⟩, ht'⟩ : Nx g ps)
      rw [hB] at h4
      rw [hr]
      refine ⟨by omega, ?_⟩
      rw [nth_pick hps en h0 (⟨⟨a.toNat, hi⟩, ht'⟩ : Nx g ps) (by omega) (by rw [hB]; omega), hB, Nat.add_sub_cancel_left, h2]
      congr 1
      simp only
      omega

/-! ### Even rows, one by one -/
def evB (ps : List Pce) (row : List Int) : Bool := decide (row.map (mirI ps) = row.reverse)
def evP (ps : List Pce) (f : Gp → List (List Int)) (g : Gp) (i : Nat) : List (List Int) :=
  match ps[i]? with
  | none => []
  | some x => if takB g x = true then (if x.mr = (i : Int) ∧ x.wd = (g.n : Int) then [[(i : Int)]] else []) ++ (if 2 * x.wd ≤ (g.n : Int) then (f ⟨g.n - 2 * x.wd.toNat, x.rt.toNat⟩).map (fun r => (i : Int) :: (r ++ [x.mr])) else []) else []
def evL (ps : List Pce) : Nat → Gp → List (List Int)
  | 0, g => if g.n = 0 then [[]] else []
  | m + 1, g => (if g.n = 0 then [[]] else []) ++ (List.range ps.length).flatMap (evP ps (evL ps m) g)
theorem img_even {ps : List Pce} {row : List Int} (h : row.map (mirI ps) = row.reverse) : imgL ps row = row := by
  unfold imgL
  rw [List.map_reverse, h, List.reverse_reverse]
theorem even_parts {ps : List Pce} {a b : Int} {mid : List Int} (h : (a :: (mid ++ [b])).map (mirI ps) = (a :: (mid ++ [b])).reverse) : mirI ps a = b ∧ mid.map (mirI ps) = mid.reverse ∧ mirI ps b = a := by
  simp only [List.map_cons, List.map_append, List.map_nil, List.reverse_cons, List.reverse_append, List.reverse_nil, List.nil_append, List.cons_append, List.cons.injEq] at h
  obtain ⟨h1, h2⟩ := h
  have h3 := List.append_inj' h2 rfl
  exact ⟨h1, h3.1, by simpa using h3.2⟩
theorem even_wrap {ps : List Pce} {a b : Int} {mid : List Int} (h1 : mirI ps a = b) (h2 : mid.map (mirI ps) = mid.reverse) (h3 : mirI ps b = a) : (a :: (mid ++ [b])).map (mirI ps) = (a :: (mid ++ [b])).reverse := by
  simp [h1, h2, h3]
theorem runG_cons (ps : List Pce) (g : Gp) (a : Int) (row : List Int) : runG ps g (a :: row) = (stepG ps g a).bind (fun h => runG ps h row) := by
  rw [runG, List.foldlM_cons]
  rfl
theorem ev_sound {ps : List Pce} (hps : ∀ x ∈ ps, x.ok) (hm : MirOk ps) : ∀ (m : Nat) (g : Gp) (row : List Int), row ∈ evL ps m g → runG ps g row = some ⟨0, g.p⟩ ∧ row.map (mirI ps) = row.reverse := by
  have hnil : ∀ (g : Gp) (row : List Int), row ∈ (if g.n = 0 then [[]] else [] : List (List Int)) → runG ps g row = some ⟨0, g.p⟩ ∧ row.map (mirI ps) = row.reverse := by
    intro g row h
    split at h
    · rename_i h0
      obtain rfl := List.mem_singleton.1 h
      obtain ⟨n, p⟩ := g
      simp only at h0
      subst h0
      exact ⟨rfl, rfl⟩
    · cases h
  intro m
  induction m with
  | zero => exact hnil
  | succ m ih =>
    intro g row h
    rw [evL] at h
    rcases List.mem_append.1 h with h | h
    · exact hnil g row h
    obtain ⟨i, hi, h⟩ := List.mem_flatMap.1 h
    unfold evP at h
    split at h
    · cases h
    rename_i x hx
    split at h
    rotate_left
    · cases h
    rename_i ht
    obtain ⟨⟨w1, w2⟩, ⟨l1, l2⟩, r1, r2⟩ := hps x (List.mem_of_getElem? hx)
    obtain ⟨t1, t2⟩ := takB_iff.1 ht
    obtain ⟨j, y, m1, m2, m3, m4, m5, m6⟩ := hm i x hx
    have hmi : mirI ps (i : Int) = x.mr := by simp only [mirI, Int.toNat_natCast, hx]
    have hmj : mirI ps x.mr = (i : Int) := by rw [m1]; simp only [mirI, Int.toNat_natCast, m2]; exact m3
    rcases List.mem_append.1 h with h | h
    · split at h
      rotate_left
      · cases h
      rename_i hc
      obtain rfl := List.mem_singleton.1 h
      refine ⟨?_, by simp [hmi, hc.1]⟩
      have hji : j = i := by omega
      subst hji
      rw [hx] at m2
      obtain rfl := Option.some.inj m2
      rw [runG_cons, stepG_of hx ht]
      show some (behG g x) = _
      simp only [behG]
      congr 2 <;> omega
    · split at h
      rotate_left
      · cases h
      rename_i hc
      obtain ⟨r, hr, rfl⟩ := List.mem_map.1 h
      obtain ⟨h1, h2⟩ := ih _ _ hr
      refine ⟨?_, even_wrap hmi h2 hmj⟩
      have h3 := (run_img hps hm r _ _ h1).2 x.wd.toNat
      rw [img_even h2] at h3
      simp only at h3
      rw [runG_cons, stepG_of hx ht]
      show runG ps (behG g x) (r ++ [x.mr]) = _
      rw [runG_snoc, show behG g x = ⟨g.n - 2 * x.wd.toNat - 0 + x.wd.toNat, x.rt.toNat⟩ by simp only [behG]; congr 1; omega, h3]
      show stepG ps _ x.mr = _
      rw [m1, stepG_of m2 (takB_iff.2 (by simp only; omega))]
      simp only [behG]
      congr 2 <;> omega
theorem ev_all {ps : List Pce} (hps : ∀ x ∈ ps, x.ok) (hm : MirOk ps) : ∀ (m : Nat) (g : Gp) (row : List Int), g.n ≤ m → runG ps g row = some ⟨0, g.p⟩ → row.map (mirI ps) = row.reverse → row ∈ evL ps m g := by
  intro m
  induction m with
  | zero =>
    intro g row h0 h1 h2
    have h3 := nth_wd hps row g _ h1
    have h4 : row = [] := List.eq_nil_of_length_eq_zero (by simp only at h3; omega)
    subst h4
    rw [evL, if_pos (by omega)]
    simp
  | succ m ih =>
    intro g row h0 h1 h2
    rw [evL]
    refine List.mem_append.2 ?_
    cases row with
    | nil =>
      refine .inl ?_
      obtain ⟨n, p⟩ := g
      have h3 : n = 0 := by simpa [runG] using h1
      rw [if_pos h3]
      simp
    | cons a row =>
      refine .inr ?_
      rw [runG_cons] at h1
      cases hs : stepG ps g a with
      | none => rw [hs] at h1; cases h1
      | some g2 =>
        rw [hs] at h1
        obtain ⟨x, ha, hx, ht, rfl⟩ := stepG_some hs
        obtain ⟨i, rfl⟩ : ∃ i : Nat, a = (i : Int) := ⟨a.toNat, by omega⟩
        rw [Int.toNat_natCast] at hx
        have hi : i < ps.length := by omega
        obtain ⟨⟨w1, w2⟩, ⟨l1, l2⟩, r1, r2⟩ := hps x (List.mem_of_getElem? hx)
        obtain ⟨t1, t2⟩ := takB_iff.1 ht
        obtain ⟨j, y, m1, m2, m3, m4, m5, m6⟩ := hm i x hx
        have hmi : mirI ps (i : Int) = x.mr := by simp only [mirI, Int.toNat_natCast, hx]
        refine List.mem_flatMap.2 ⟨i, List.mem_range.2 hi, ?_⟩
        unfold evP
        rw [hx]
        simp only
        rw [if_pos ht]
        refine List.mem_append.2 ?_
        have h1' : runG ps (behG g x) row = some ⟨0, g.p⟩ := h1
        rcases List.eq_nil_or_concat row with rfl | ⟨mid, b, rfl⟩
        · refine .inl ?_
          have h3 : behG g x = ⟨0, g.p⟩ := by simpa [runG] using h1'
          have h4 : g.n - x.wd.toNat = 0 := congrArg Gp.n h3
          have h5 : x.mr = (i : Int) := by rw [← hmi]; simpa using h2
          rw [if_pos ⟨h5, by omega⟩]
          simp
        · refine .inr ?_
          rw [List.concat_eq_append] at h2 h1' ⊢
          obtain ⟨e1, e2, e3⟩ := even_parts h2
          have hb : b = (j : Int) := by rw [← e1, hmi, m1]
          subst hb
          rw [runG_snoc] at h1'
          cases hr : runG ps (behG g x) mid with
          | none => rw [hr] at h1'; cases h1'
          | some h =>
            rw [hr] at h1'
            have h1'' : stepG ps h (j : Int) = some ⟨0, g.p⟩ := h1'
            obtain ⟨z, -, hz, hzt, hzb⟩ := stepG_some h1''
            rw [Int.toNat_natCast, m2] at hz
            obtain rfl := Option.some.inj hz
            obtain ⟨z1, z2⟩ := takB_iff.1 hzt
            have z3 : 0 = h.n - y.wd.toNat := congrArg Gp.n hzb
            obtain ⟨k1, k2⟩ := run_img hps hm mid _ _ hr
            have k3 := k2 0
            rw [img_even e2] at k3
            simp only [behG] at k1 k3
            rw [if_pos (by omega)]
            refine List.mem_map.2 ⟨mid, ih _ _ (by simp only; omega) ?_ e2, by rw [m1]⟩
            simp only
            have k4 : (⟨g.n - x.wd.toNat - h.n + 0, h.p⟩ : Gp) = ⟨g.n - 2 * x.wd.toNat, x.rt.toNat⟩ := by congr 1 <;> omega
            rw [k4] at k3
            exact k3
theorem evP_head {ps : List Pce} {f : Gp → List (List Int)} {g : Gp} {i : Nat} {row : List Int} (h : row ∈ evP ps f g i) : ∃ r, row = (i : Int) :: r := by
  unfold evP at h
  split at h
  · cases h
  split at h
  rotate_left
  · cases h
  rcases List.mem_append.1 h with h | h
  · split at h
    · exact ⟨[], List.mem_singleton.1 h⟩
    · cases h
  · split at h
    · obtain ⟨r, -, rfl⟩ := List.mem_map.1 h
      exact ⟨_, rfl⟩
    · cases h
theorem ev_nodup (ps : List Pce) : ∀ (m : Nat) (g : Gp), (evL ps m g).Nodup := by
  intro m
  induction m with
  | zero =>
    intro g
    rw [evL]
    split <;> simp
  | succ m ih =>
    intro g
    rw [evL, List.nodup_append]
    refine ⟨by split <;> simp, nodup_flat List.nodup_range (fun i _ => ?_) (fun i _ j _ x hx hy => ?_), fun x hx y hy e => ?_⟩
    · unfold evP
      split
      · simp
      split
      rotate_left
      · simp
      rw [List.nodup_append]
      refine ⟨by split <;> simp, ?_, fun x hx y hy e => ?_⟩
      · split
        · refine nodup_map (ih _) (fun a _ b _ e => ?_)
          simp only [List.cons.injEq, true_and] at e
          exact (List.append_inj' e rfl).1
        · simp
      · subst e
        split at hx
        rotate_left
        · cases hx
        split at hy
        rotate_left
        · cases hy
        obtain ⟨r, -, hr⟩ := List.mem_map.1 hy
        rw [List.mem_singleton.1 hx] at hr
        simp at hr
    · obtain ⟨r, hr⟩ := evP_head hx
      obtain ⟨r', hr'⟩ := evP_head hy
      rw [hr] at hr'
      have := (List.cons.inj hr').1
      omega
    · subst e
      obtain ⟨i, -, hi⟩ := List.mem_flatMap.1 hy
      obtain ⟨r, hr⟩ := evP_head hi
      split at hx
      · rw [List.mem_singleton.1 hx] at hr
        cases hr
      · cases hx

/-! ### How many they are -/
def midS (ps : List Pce) (n s p : Nat) : Nat := if n % 2 = 0 then wy ps p ⟨n / 2, s⟩ else 0
def sideQ (n i : Nat) (x : Pce) : Prop := x.mr = (i : Int) ∧ x.wd ≤ (n : Int) ∧ (n - x.wd.toNat) % 2 = 0
instance (n i : Nat) (x : Pce) : Decidable (sideQ n i x) := by unfold sideQ; infer_instance
def sideS (ps : List Pce) (n s i : Nat) : Nat := match ps[i]? with | some x => if sideQ n i x then wy ps x.lf.toNat ⟨(n - x.wd.toNat) / 2, s⟩ else 0 | none => 0
def evS (ps : List Pce) (n s : Nat) : Nat := ((List.range 10).map (midS ps n s)).sum + ((List.range ps.length).map (sideS ps n s)).sum
def goQ (n s : Nat) (x : Pce) : Prop := x.lf = (s : Int) ∧ 2 * x.wd ≤ (n : Int)
instance (n s : Nat) (x : Pce) : Decidable (goQ n s x) := by unfold goQ; infer_instance
def oneS (ps : List Pce) (n s i : Nat) : Nat := match ps[i]? with | some x => if x.mr = (i : Int) ∧ x.wd = (n : Int) ∧ x.lf = (s : Int) then 1 else 0 | none => 0
theorem midS_step {ps : List Pce} (hps : ∀ x ∈ ps, x.ok) (n s p : Nat) : midS ps n s p = (if p = s then (if n = 0 then 1 else 0) else 0) + (ps.map fun x => if goQ n s x then midS ps (n - 2 * x.wd.toNat) x.rt.toNat p else 0).sum := by
  by_cases h : n % 2 = 0
  · have e : midS ps n s p = wy ps p ⟨n / 2, s⟩ := if_pos h
    rw [e, wy_step hps p ⟨n / 2, s⟩]
    congr 1
    · unfold baseW
      by_cases h1 : p = s
      · rw [if_pos h1]
        by_cases h2 : n = 0
        · rw [if_pos h2, if_pos (by simp only; omega)]
        · rw [if_neg h2, if_neg (by simp only; omega)]
      · rw [if_neg h1, if_neg (fun h2 => h1 h2.2.symm)]
    · refine sum_congr fun x hx => ?_
      obtain ⟨⟨w1, w2⟩, -⟩ := hps x hx
      by_cases h2 : goQ n s x
      · obtain ⟨a, b⟩ := h2
        rw [if_pos (show goQ n s x from ⟨a, b⟩), if_pos (takB_iff.2 (by simp only; omega)), midS, if_pos (by omega)]
        simp only [behG]
        rw [show n / 2 - x.wd.toNat = (n - 2 * x.wd.toNat) / 2 by omega]
      · rw [if_neg h2, if_neg (fun h3 => h2 (by have h4 := takB_iff.1 h3; simp only at h4; unfold goQ; omega))]
  · have e : midS ps n s p = 0 := if_neg h
    rw [e, sum_zero (fun x hx => by
      obtain ⟨⟨w1, w2⟩, -⟩ := hps x hx
      split
      · rename_i h2
        obtain ⟨a, b⟩ := h2
        exact if_neg (by omega)
      · rfl), if_neg (show ¬ n = 0 by omega)]
    split <;> rfl
theorem sideS_step {ps : List Pce} (hps : ∀ x ∈ ps, x.ok) (n s i : Nat) : sideS ps n s i = oneS ps n s i + (ps.map fun x => if goQ n s x then sideS ps (n - 2 * x.wd.toNat) x.rt.toNat i else 0).sum := by
  unfold sideS oneS
  cases hx : ps[i]? with
  | none => simp only; rw [sum_zero (fun x _ => by split <;> rfl)]
  | some x =>
    simp only
    obtain ⟨⟨w1, w2⟩, ⟨l1, l2⟩, -⟩ := hps x (List.mem_of_getElem? hx)
    by_cases h : sideQ n i x
    · rw [if_pos h, wy_step hps x.lf.toNat ⟨(n - x.wd.toNat) / 2, s⟩]
      obtain ⟨a1, a2, a3⟩ := h
      congr 1
      · unfold baseW
        by_cases h2 : x.mr = (i : Int) ∧ x.wd = (n : Int) ∧ x.lf = (s : Int)
        · rw [if_pos h2, if_pos (by simp only; omega)]
        · rw [if_neg h2, if_neg (by simp only; omega)]
      · refine sum_congr fun y hy => ?_
        obtain ⟨⟨v1, v2⟩, -⟩ := hps y hy
        by_cases h2 : y.lf = (s : Int) ∧ y.wd ≤ (((n - x.wd.toNat) / 2 : Nat) : Int)
        · rw [if_pos (takB_iff.2 h2), if_pos (show goQ n s y by unfold goQ; omega), if_pos (show sideQ (n - 2 * y.wd.toNat) i x by unfold sideQ; omega)]
          simp only [behG]
          rw [show (n - x.wd.toNat) / 2 - y.wd.toNat = (n - 2 * y.wd.toNat - x.wd.toNat) / 2 by omega]
        · rw [if_neg (fun h3 => h2 (takB_iff.1 h3))]
          split
          · rename_i h4
            obtain ⟨b1, b2⟩ := h4
            rw [if_neg (show ¬ sideQ (n - 2 * y.wd.toNat) i x by unfold sideQ; omega)]
          · rfl
    · rw [if_neg h, sum_zero (fun y hy => by
        obtain ⟨⟨v1, v2⟩, -⟩ := hps y hy
        split
        · rename_i h4
          obtain ⟨b1, b2⟩ := h4
          rw [if_neg (show ¬ sideQ (n - 2 * y.wd.toNat) i x by unfold sideQ at h ⊢; omega)]
        · rfl), if_neg (by unfold sideQ at h; omega)]
theorem sum_if {α : Type} (c : Prop) [Decidable c] (f : α → Nat) (l : List α) : (l.map fun p => if c then f p else 0).sum = if c then (l.map f).sum else 0 := by
  by_cases h : c
  · simp only [if_pos h]
  · simp only [if_neg h]; exact sum_none l
theorem evS_step {ps : List Pce} (hps : ∀ x ∈ ps, x.ok) (n s : Nat) (hs : s ≤ 9) : evS ps n s = (if n = 0 then 1 else 0) + ((List.range ps.length).map (oneS ps n s)).sum + (ps.map fun x => if goQ n s x then evS ps (n - 2 * x.wd.toNat) x.rt.toNat else 0).sum := by
  have e1 : ((List.range 10).map (midS ps n s)).sum = (if n = 0 then 1 else 0) + (ps.map fun x => if goQ n s x then ((List.range 10).map (midS ps (n - 2 * x.wd.toNat) x.rt.toNat)).sum else 0).sum := by
    rw [sum_congr (fun p _ => midS_step hps n s p), sum_add, sum_one, if_pos (by omega), sum_swap]
    congr 1
    exact sum_congr fun x _ => sum_if _ _ _
  have e2 : ((List.range ps.length).map (sideS ps n s)).sum = ((List.range ps.length).map (oneS ps n s)).sum + (ps.map fun x => if goQ n s x then ((List.range ps.length).map (sideS ps (n - 2 * x.wd.toNat) x.rt.toNat)).sum else 0).sum := by
    rw [sum_congr (fun i _ => sideS_step hps n s i), sum_add, sum_swap]
    congr 1
    exact sum_congr fun x _ => sum_if _ _ _
  have e3 : (ps.map fun x => if goQ n s x then evS ps (n - 2 * x.wd.toNat) x.rt.toNat else 0).sum = (ps.map fun x => if goQ n s x then ((List.range 10).map (midS ps (n - 2 * x.wd.toNat) x.rt.toNat)).sum else 0).sum + (ps.map fun x => if goQ n s x then ((List.range ps.length).map (sideS ps (n - 2 * x.wd.toNat) x.rt.toNat)).sum else 0).sum := by
    rw [← sum_add]
    refine sum_congr fun x _ => ?_
    split <;> rfl
  rw [evS, e1, e2, e3]
  omega
theorem evL_length {ps : List Pce} (hps : ∀ x ∈ ps, x.ok) : ∀ (m : Nat) (g : Gp), g.n ≤ m → g.p ≤ 9 → (evL ps m g).length = evS ps g.n g.p := by
  have hp0 : ∀ x ∈ ps, x.rt.toNat ≤ 9 := fun x hx => by
    obtain ⟨-, -, r1, r2⟩ := hps x hx
    omega
  intro m
  induction m with
  | zero =>
    intro g h0 hp
    rw [evS_step hps g.n g.p hp, if_pos (by omega), evL, if_pos (by omega), sum_zero (l := ps) (fun x hx => by
      obtain ⟨⟨w1, w2⟩, -⟩ := hps x hx
      exact if_neg (fun h => by obtain ⟨-, h2⟩ := h; omega)), sum_zero (fun i _ => by
      unfold oneS
      split
      · rename_i x hx
        obtain ⟨⟨w1, w2⟩, -⟩ := hps x (List.mem_of_getElem? hx)
        exact if_neg (by omega)
      · rfl)]
    rfl
  | succ m ih =>
    intro g h0 hp
    rw [evS_step hps g.n g.p hp, evL, List.length_append, List.length_flatMap, sum_range ps, Nat.add_assoc, ← sum_add]
    congr 1
    · split <;> rfl
    refine sum_congr fun i hi => ?_
    unfold evP oneS atN
    cases hx : ps[i]? with
    | none => rfl
    | some x =>
      simp only
      obtain ⟨⟨w1, w2⟩, -⟩ := hps x (List.mem_of_getElem? hx)
      by_cases ht : takB g x = true
      · rw [if_pos ht, List.length_append]
        obtain ⟨t1, t2⟩ := takB_iff.1 ht
        congr 1
        · by_cases hc : x.mr = (i : Int) ∧ x.wd = (g.n : Int)
          · rw [if_pos hc, if_pos ⟨hc.1, hc.2, t1⟩]; rfl
          · rw [if_neg hc, if_neg (fun h => hc ⟨h.1, h.2.1⟩)]; rfl
        · by_cases hc : 2 * x.wd ≤ (g.n : Int)
          · rw [if_pos hc, if_pos (show goQ g.n g.p x from ⟨t1, hc⟩), List.length_map, ih _ (by simp only; omega) (hp0 x (List.mem_of_getElem? hx))]
          · rw [if_neg hc, if_neg (fun h => hc h.2)]; rfl
      · rw [if_neg ht, if_neg (fun h => ht (takB_iff.2 ⟨h.2.2, by omega⟩)), if_neg (fun h => ht (takB_iff.2 ⟨h.1, by have := h.2; omega⟩))]
        rfl
theorem sumTo_range (f : Nat → Nat) : ∀ n, sumTo f n = ((List.range n).map f).sum := by
  intro n
  induction n with
  | zero => rfl
  | succ n ih => rw [sumTo, ih, List.range_succ, List.map_append, List.sum_append]; simp
theorem evenN_evS {R : Rdg} (hR : R.ok) (hs : R.st = R.en) : evenN R = evS R.ps R.top.n R.top.p := by
  unfold evenN evS
  rw [if_pos hs, sumTo_range, sumTo_range]
  congr 1
  refine sum_congr fun i _ => ?_
  unfold sideN sideS
  cases R.ps[i]? with
  | none => rfl
  | some x =>
    simp only
    have h1 : R.len = (R.top.n : Int) := by have := hR.1; simp only [Rdg.top]; omega
    have h2 : sideC R i x ↔ sideQ R.top.n i x := by unfold sideC sideQ; rw [h1]
    by_cases h : sideC R i x
    · rw [if_pos h, if_pos (h2.1 h)]
    · rw [if_neg h, if_neg (fun h3 => h (h2.2 h3))]

/-! ### Counted by their numbers -/
def evK (R : Rdg) (k : Nat) : Nat := if evB R.ps (nthR R k) = true then 1 else 0
theorem count_filter {α : Type} (f : Nat → α) (p : α → Bool) : ∀ n, sumTo (fun k => if p (f k) = true then 1 else 0) n = (((List.range n).map f).filter p).length := by
  intro n
  induction n with
  | zero => rfl
  | succ n ih =>
    rw [sumTo, ih, List.range_succ, List.map_append, List.filter_append, List.length_append]
    congr 1
    by_cases h : p (f n) = true
    · simp [h]
    · simp [h]
theorem nthR_nodup {R : Rdg} (hR : R.ok) : ((List.range (waysN R)).map (nthR R)).Nodup := by
  refine nodup_map List.nodup_range (fun a ha b hb e => ?_)
  have hps := hR.2.2.2.2
  have h1 := rank_nth hps R.en.toNat R.top.n R.top a (Nat.le_refl _) (List.mem_range.1 ha)
  have h2 := rank_nth hps R.en.toNat R.top.n R.top b (Nat.le_refl _) (List.mem_range.1 hb)
  unfold nthR at e
  rw [← h1, ← h2, e]
theorem even_count {R : Rdg} (h : rdgE R = 0) : sumTo (evK R) (waysN R) = evenN R := by
  have hR := rdgE_ridge h
  have hps := hR.2.2.2.2
  have hm := mir_of h
  show sumTo (fun k => if evB R.ps (nthR R k) = true then 1 else 0) (waysN R) = evenN R
  rw [count_filter (nthR R) (evB R.ps)]
  have hmem : ∀ row, row ∈ ((List.range (waysN R)).map (nthR R)).filter (evB R.ps) ↔ runG R.ps R.top row = some ⟨0, R.en.toNat⟩ ∧ row.map (mirI R.ps) = row.reverse := by
    intro row
    rw [List.mem_filter, List.mem_map]
    constructor
    · rintro ⟨⟨k, hk, rfl⟩, h2⟩
      exact ⟨nth_run hps _ _ _ _ (Nat.le_refl _) (List.mem_range.1 hk), of_decide_eq_true h2⟩
    · rintro ⟨h1, h2⟩
      obtain ⟨h3, h4⟩ := nth_rank hps _ row _ h1
      exact ⟨⟨_, List.mem_range.2 h3, h4⟩, decide_eq_true h2⟩
  by_cases hs : R.st = R.en
  · rw [evenN_evS hR hs, ← evL_length hps R.top.n R.top (Nat.le_refl _) hR.top.2]
    have hsp : R.en.toNat = R.top.p := by rw [← hs]; rfl
    rw [hsp] at hmem
    apply Nat.le_antisymm
    · refine nodup_le _ _ ((nthR_nodup hR).filter _) (fun row hr => ?_)
      obtain ⟨h1, h2⟩ := (hmem row).1 hr
      exact ev_all hps hm _ _ _ (Nat.le_refl _) h1 h2
    · refine nodup_le _ _ (ev_nodup _ _ _) (fun row hr => ?_)
      exact (hmem row).2 (ev_sound hps hm _ _ _ hr)
  · have e0 : evenN R = 0 := if_neg hs
    rw [e0]
    refine List.length_eq_zero_iff.2 (List.eq_nil_iff_forall_not_mem.2 fun row hr => ?_)
    obtain ⟨h1, h2⟩ := (hmem row).1 hr
    have h3 := (run_img hps hm row _ _ h1).2 0
    rw [img_even h2] at h3
    simp only [Nat.sub_zero, Nat.add_zero] at h3
    have hl : R.top.n = R.top.n - 0 + 0 := by omega
    have hst : R.top.p ≠ R.en.toNat := by
      have a := hR.2.1
      have b := hR.2.2.1
      simp only [Rdg.top]
      omega
    cases row with
    | nil =>
      have h5 : R.top = ⟨0, R.en.toNat⟩ := by simpa [runG] using h1
      exact hst (congrArg Gp.p h5)
    | cons a row =>
      rw [runG_cons] at h1 h3
      cases hs1 : stepG R.ps R.top a with
      | none => rw [hs1] at h1; cases h1
      | some g1 =>
        obtain ⟨x, -, hx, ht, -⟩ := stepG_some hs1
        cases hs2 : stepG R.ps ⟨R.top.n, R.en.toNat⟩ a with
        | none => rw [hs2] at h3; cases h3
        | some g2 =>
          obtain ⟨y, -, hy, ht2, -⟩ := stepG_some hs2
          rw [hx] at hy
          obtain rfl := Option.some.inj hy
          have a1 := (takB_iff.1 ht).1
          have a2 := (takB_iff.1 ht2).1
          simp only at a2
          omega
end Go.Proofs.Ytmcmhgjlpffcnaa
