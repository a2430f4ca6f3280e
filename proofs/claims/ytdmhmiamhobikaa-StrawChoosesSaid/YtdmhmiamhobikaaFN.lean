/- The best of all choices is one: whatever order they are gone through in. -/
import Derived.Test.YtdmhmiamhobikaaFM
namespace Go.Proofs.Ytdmhmiamhobikaa

/-- Of two lists of one length: the lesser one. -/
def lexB : List Nat → List Nat → Bool
  | a :: as, b :: bs => if a = b then lexB as bs else decide (a < b)
  | _, _ => false
/-- Is the first choice the better one? -/
def ahB (a : List Nat) (x : Int) (b : List Nat) (y : Int) : Bool := if x = y then (if a.length = b.length then lexB a b else decide (a.length < b.length)) else decide (x < y)
theorem lexB_self (a : List Nat) : lexB a a = false := by
  induction a with
  | nil => rfl
  | cons x a ih => simp [lexB, ih]
theorem lexB_trans {a b c : List Nat} (h : lexB a b = true) (k : lexB b c = true) : lexB a c = true := by
  induction a generalizing b c with
  | nil => simp [lexB] at h
  | cons x a ih =>
    cases b with
    | nil => simp [lexB] at h
    | cons y b =>
      cases c with
      | nil => simp [lexB] at k
      | cons z c =>
        simp only [lexB] at h k ⊢
        by_cases hxy : x = y
        · subst hxy
          rw [if_pos rfl] at h
          by_cases hyz : x = z
          · subst hyz
            rw [if_pos rfl] at k ⊢
            exact ih h k
          · rw [if_neg hyz] at k ⊢
            exact k
        · rw [if_neg hxy] at h
          by_cases hyz : y = z
          · subst hyz
            rw [if_neg hxy]
            exact h
          · rw [if_neg hyz] at k
            have h1 := of_decide_eq_true h
            have h2 := of_decide_eq_true k
            rw [if_neg (by omega)]
            exact decide_eq_true (by omega)
theorem lexB_asymm {a b : List Nat} (h : lexB a b = true) : lexB b a = false := by
  rw [Bool.eq_false_iff]
  intro k
  have := lexB_trans h k
  rw [lexB_self] at this
  cases this
theorem lexB_tri {a b : List Nat} (hl : a.length = b.length) (h : lexB a b = false) (k : lexB b a = false) : a = b := by
  induction a generalizing b with
  | nil => cases b with
    | nil => rfl
    | cons y b => simp at hl
  | cons x a ih =>
    cases b with
    | nil => simp at hl
    | cons y b =>
      simp only [lexB] at h k
      by_cases hxy : x = y
      · subst hxy
        rw [if_pos rfl] at h k
        rw [ih (by simpa using hl) h k]
      · rw [if_neg hxy] at h
        rw [if_neg (fun e => hxy e.symm)] at k
        have h1 := of_decide_eq_false h
        have h2 := of_decide_eq_false k
        omega
theorem lexB_pre (c a b : List Nat) : lexB (c ++ a) (c ++ b) = lexB a b := by
  induction c with
  | nil => rfl
  | cons x c ih => simp [lexB, ih]
theorem ahB_trans {a b c : List Nat} {x y z : Int} (h : ahB a x b y = true) (k : ahB b y c z = true) : ahB a x c z = true := by
  unfold ahB at h k ⊢
  by_cases h1 : x = y
  · subst h1
    rw [if_pos rfl] at h
    by_cases h2 : x = z
    · subst h2
      rw [if_pos rfl] at k ⊢
      by_cases h3 : a.length = b.length
      · rw [if_pos h3] at h
        by_cases h4 : b.length = c.length
        · rw [if_pos h4] at k
          rw [if_pos (h3.trans h4)]
          exact lexB_trans h k
        · rw [if_neg h4] at k
          rw [if_neg (by omega), h3]
          exact k
      · rw [if_neg h3] at h
        have h5 := of_decide_eq_true h
        by_cases h4 : b.length = c.length
        · rw [if_neg (by omega), ← h4]
          exact h
        · rw [if_neg h4] at k
          have h6 := of_decide_eq_true k
          rw [if_neg (by omega)]
          exact decide_eq_true (by omega)
    · rw [if_neg h2] at k ⊢
      exact k
  · rw [if_neg h1] at h
    have h5 := of_decide_eq_true h
    by_cases h2 : y = z
    · subst h2
      rw [if_neg h1]
      exact h
    · rw [if_neg h2] at k
      have h6 := of_decide_eq_true k
      rw [if_neg (by omega)]
      exact decide_eq_true (by omega)
theorem ahB_tri {a b : List Nat} {x y : Int} (h : ahB a x b y = false) (k : ahB b y a x = false) : a = b ∧ x = y := by
  unfold ahB at h k
  by_cases h1 : x = y
  · subst h1
    rw [if_pos rfl] at h k
    by_cases h3 : a.length = b.length
    · rw [if_pos h3] at h
      rw [if_pos h3.symm] at k
      exact ⟨lexB_tri h3 h k, rfl⟩
    · rw [if_neg h3] at h
      rw [if_neg (fun e => h3 e.symm)] at k
      have := of_decide_eq_false h
      have := of_decide_eq_false k
      omega
  · rw [if_neg h1] at h
    rw [if_neg (fun e => h1 e.symm)] at k
    have := of_decide_eq_false h
    have := of_decide_eq_false k
    omega
theorem ahB_self (a : List Nat) (x : Int) : ahB a x a x = false := by simp [ahB, lexB_self]

/-- The best of some choices. -/
structure Bst.of (PS : List Plt) (n : Ned) (S : List Nat → Prop) (b : Bst) : Prop where
  none : b.found = false → (∀ t, S t → (sureOf PS t).enough n = false) ∧ b.best = [] ∧ b.least = 0
  mem : b.found = true → S b.best ∧ b.least = costOf PS b.best ∧ (sureOf PS b.best).enough n = true
  min : b.found = true → ∀ t, S t → (sureOf PS t).enough n = true → ahB t (costOf PS t) b.best b.least = false
theorem Bst.of.unique {PS : List Plt} {n : Ned} {S : List Nat → Prop} {a b : Bst} (h : a.of PS n S) (k : b.of PS n S) : a = b := by
  obtain ⟨l1, c1, f1⟩ := a
  obtain ⟨l2, c2, f2⟩ := b
  cases f1 with
  | false =>
    obtain ⟨h1, h2, h3⟩ := h.none rfl
    cases f2 with
    | false =>
      obtain ⟨_, k2, k3⟩ := k.none rfl
      simp only [] at h2 h3 k2 k3
      rw [h2, h3, k2, k3]
    | true =>
      obtain ⟨k1, _, k3⟩ := k.mem rfl
      rw [h1 _ k1] at k3
      cases k3
  | true =>
    obtain ⟨h1, h2, h3⟩ := h.mem rfl
    cases f2 with
    | false =>
      obtain ⟨k1, _, _⟩ := k.none rfl
      rw [k1 _ h1] at h3
      cases h3
    | true =>
      obtain ⟨k1, k2, k3⟩ := k.mem rfl
      have m1 := h.min rfl _ k1 k3
      have m2 := k.min rfl _ h1 h3
      simp only [] at h2 k2 m1 m2
      rw [← k2] at m1
      rw [← h2] at m2
      obtain ⟨e1, e2⟩ := ahB_tri m1 m2
      rw [e1, e2]
theorem Bst.of.congr {PS : List Plt} {n : Ned} {S T : List Nat → Prop} {b : Bst} (h : b.of PS n S) (hST : ∀ t, S t ↔ T t) : b.of PS n T :=
  ⟨fun f => ⟨fun t ht => (h.none f).1 t ((hST t).2 ht), (h.none f).2⟩, fun f => ⟨(hST _).1 (h.mem f).1, (h.mem f).2⟩, fun f t ht => h.min f t ((hST t).2 ht)⟩
/-- One choice more: taken where it is enough and ahead of the best one. -/
theorem Bst.of.step {PS : List Plt} {n : Ned} {S : List Nat → Prop} {b : Bst} (h : b.of PS n S) (l : List Nat) :
    Bst.of PS n (fun t => S t ∨ t = l) (if (sureOf PS l).enough n && (!b.found || ahB l (costOf PS l) b.best b.least) then ⟨l, costOf PS l, true⟩ else b) := by
  cases he : (sureOf PS l).enough n with
  | false =>
    rw [Bool.false_and, if_neg (by simp)]
    refine ⟨fun f => ⟨fun t ht => ?_, (h.none f).2⟩, fun f => ⟨.inl (h.mem f).1, (h.mem f).2⟩, fun f t ht hte => ?_⟩
    · rcases ht with ht | rfl
      · exact (h.none f).1 t ht
      · exact he
    · rcases ht with ht | rfl
      · exact h.min f t ht hte
      · rw [he] at hte; cases hte
  | true =>
    rw [Bool.true_and]
    cases hf : b.found with
    | false =>
      rw [if_pos (by simp)]
      refine ⟨fun f => (by cases f), fun _ => ⟨.inr rfl, rfl, he⟩, fun _ t ht hte => ?_⟩
      rcases ht with ht | rfl
      · rw [(h.none hf).1 t ht] at hte; cases hte
      · exact ahB_self _ _
    | true =>
      cases ha : ahB l (costOf PS l) b.best b.least with
      | false =>
        rw [if_neg (by simp)]
        refine ⟨fun f => (by rw [hf] at f; cases f), fun f => ⟨.inl (h.mem f).1, (h.mem f).2⟩, fun f t ht hte => ?_⟩
        rcases ht with ht | rfl
        · exact h.min f t ht hte
        · exact ha
      | true =>
        rw [if_pos (by simp)]
        refine ⟨fun f => (by cases f), fun _ => ⟨.inr rfl, rfl, he⟩, fun _ t ht hte => ?_⟩
        rcases ht with ht | rfl
        · show ahB t (costOf PS t) l (costOf PS l) = false
          rw [Bool.eq_false_iff]
          intro hl
          have := ahB_trans hl ha
          rw [h.min hf t ht hte] at this
          cases this
        · exact ahB_self _ _
/-- The walk looks at lengths and costs alone: a list that comes behind all of its length needs no more. -/
theorem visit_step {PS : List Plt} {n : Ned} {S : List Nat → Prop} {b : Bst} (h : b.of PS n S) (l : List Nat) (hS : ∀ s, S s → s.length = l.length → lexB s l = true) :
    Bst.of PS n (fun t => S t ∨ t = l) (b.visit n l (costOf PS l) (sureOf PS l)) := by
  have e : b.visit n l (costOf PS l) (sureOf PS l) = if (sureOf PS l).enough n && (!b.found || ahB l (costOf PS l) b.best b.least) then ⟨l, costOf PS l, true⟩ else b := by
    unfold Bst.visit
    rw [Bool.and_comm]
    congr 2
    congr 1
    unfold Bst.better
    cases hf : b.found with
    | false => rfl
    | true =>
      obtain ⟨m1, _, _⟩ := h.mem hf
      simp only [Bool.not_true, Bool.false_or]
      unfold ahB
      by_cases h1 : costOf PS l = b.least
      · rw [if_pos h1, decide_eq_false (by omega), decide_eq_true h1, Bool.false_or, Bool.true_and]
        by_cases h2 : l.length = b.best.length
        · rw [if_pos h2, lexB_asymm (hS _ m1 h2.symm)]
          exact decide_eq_false (by omega)
        · rw [if_neg h2]
      · rw [if_neg h1, decide_eq_false h1, Bool.false_and, Bool.or_false]
  rw [e]
  exact h.step l
theorem loop_of (n : Ned) (PS ps : List Plt) : ∀ (i : Nat) (ch : List Nat) (b : Bst) (S : List Nat → Prop), PS.drop i = ps → b.of PS n S →
    (∀ s t, S s → Ext ps i t → t ≠ [] → s.length = (ch ++ t).length → lexB s (ch ++ t) = true) →
    Bst.of PS n (fun t => S t ∨ ∃ x, x ≠ [] ∧ Ext ps i x ∧ t = ch ++ x) (loopL n ps i ch (costOf PS ch) (sureOf PS ch) b) := by
  induction ps with
  | nil =>
    intro i ch b S _ hb _
    refine hb.congr fun t => ⟨.inl, ?_⟩
    rintro (h | ⟨x, h1, h2, _⟩)
    · exact h
    · exact absurd h2 h1
  | cons p ps ih =>
    intro i ch b S hd hb hS
    obtain ⟨hp, hd'⟩ := pltAt_drop hd
    have e1 : costOf PS ch + p.cost = costOf PS (ch ++ [i]) := by rw [costOf_snoc, hp]
    have e2 : (sureOf PS ch).add p = sureOf PS (ch ++ [i]) := by rw [sureOf_snoc, hp]
    unfold loopL
    rw [e1, e2]
    have v := visit_step hb (ch ++ [i]) fun s hs hl => hS s [i] hs (.inr ⟨[], rfl, ext_nil _ _⟩) (by simp) hl
    have w := ih (i + 1) (ch ++ [i]) _ _ hd' v (by
      intro s t hs ht hne hl
      have ha : (ch ++ [i]) ++ t = ch ++ i :: t := by simp
      rcases hs with hs | rfl
      · rw [ha] at hl ⊢
        exact hS s (i :: t) hs (.inr ⟨t, rfl, ht⟩) (by simp) hl
      · have : 0 < t.length := List.length_pos_iff.2 hne
        simp only [List.length_append] at hl
        omega)
    have u := ih (i + 1) ch _ _ hd' w (by
      intro s t hs ht hne hl
      cases t with
      | nil => exact absurd rfl hne
      | cons k t =>
        have hk := ((ext_bd ht).1 k (by simp)).1
        rcases hs with (hs | rfl) | ⟨x, hx, hxe, rfl⟩
        · exact hS s (k :: t) hs (.inl ht) hne hl
        · rw [lexB_pre]
          simp only [lexB]
          rw [if_neg (by omega)]
          exact decide_eq_true (by omega)
        · rw [show (ch ++ [i]) ++ x = ch ++ i :: x by simp, lexB_pre]
          simp only [lexB]
          rw [if_neg (by omega)]
          exact decide_eq_true (by omega))
    refine u.congr fun t => ?_
    constructor
    · rintro (((h | rfl) | ⟨x, h1, h2, rfl⟩) | ⟨x, h1, h2, rfl⟩)
      · exact .inl h
      · exact .inr ⟨[i], by simp, .inr ⟨[], rfl, ext_nil _ _⟩, rfl⟩
      · exact .inr ⟨i :: x, by simp, .inr ⟨x, rfl, h2⟩, by simp⟩
      · exact .inr ⟨x, h1, .inl h2, rfl⟩
    · rintro (h | ⟨x, h1, h2, rfl⟩)
      · exact .inl (.inl (.inl h))
      · rcases h2 with h2 | ⟨y, rfl, h2⟩
        · exact .inr ⟨x, h1, h2, rfl⟩
        · by_cases hy : y = []
          · subst hy
            exact .inl (.inl (.inr rfl))
          · exact .inl (.inr ⟨y, hy, h2, by simp⟩)
/-- **What the walk chooses is the best of all choices.** -/
theorem choose_of (PS : List Plt) (n : Ned) : (chooseM PS n).of PS n (Ext PS 0) := by
  have h0 : Bst.of PS n (fun _ => False) ⟨[], 0, false⟩ := ⟨fun _ => ⟨fun t h => h.elim, rfl, rfl⟩, fun f => (by cases f), fun f => (by cases f)⟩
  have v := visit_step h0 [] fun s hs => hs.elim
  have u := loop_of n PS PS 0 [] _ _ rfl v (by
    intro s t hs ht hne hl
    rcases hs with hs | rfl
    · exact hs.elim
    · have : 0 < t.length := List.length_pos_iff.2 hne
      simp only [List.length_append, List.length_nil] at hl
      omega)
  refine u.congr fun t => ?_
  constructor
  · rintro ((h | rfl) | ⟨x, _, h2, rfl⟩)
    · exact h.elim
    · exact ext_nil _ _
    · exact h2
  · intro h
    by_cases ht : t = []
    · exact .inl (.inr ht)
    · exact .inr ⟨t, ht, h, rfl⟩

/-- The choice whose number is s. -/
def maskL (k s : Nat) : List Nat := (List.range' 0 k).filter fun i => s.testBit i
theorem ext_mask (ps : List Plt) : ∀ (i : Nat) (t : List Nat), Ext ps i t → ∃ s, s < 2 ^ ps.length ∧ t = (List.range' i ps.length).filter fun k => s.testBit (k - i) := by
  induction ps with
  | nil => intro i t h; exact ⟨0, by simp, h⟩
  | cons p ps ih =>
    intro i t h
    have key : ∀ (s : Nat) (b : Nat), b < 2 → (List.range' (i + 1) ps.length).filter (fun k => s.testBit (k - (i + 1))) = (List.range' (i + 1) ps.length).filter (fun k => (2 * s + b).testBit (k - i)) := fun s b hb => by
      refine List.filter_congr fun k hk => ?_
      have := (List.mem_range'_1.1 hk).1
      obtain ⟨d, rfl⟩ : ∃ d, k = i + 1 + d := ⟨k - (i + 1), by omega⟩
      rw [show i + 1 + d - (i + 1) = d by omega, show i + 1 + d - i = d + 1 by omega, Nat.testBit_succ]
      congr 1
      omega
    rcases h with h | ⟨x, rfl, h⟩
    · obtain ⟨s, hs, rfl⟩ := ih (i + 1) t h
      refine ⟨2 * s + 0, by rw [List.length_cons, Nat.pow_succ]; omega, ?_⟩
      rw [List.length_cons, List.range'_succ, List.filter_cons, key s 0 (by omega)]
      simp [Nat.testBit_zero]
    · obtain ⟨s, hs, rfl⟩ := ih (i + 1) x h
      refine ⟨2 * s + 1, by rw [List.length_cons, Nat.pow_succ]; omega, ?_⟩
      rw [List.length_cons, List.range'_succ, List.filter_cons, key s 1 (by omega)]
      simp [Nat.testBit_zero]
theorem masks (ps : List Plt) (t : List Nat) : (∃ s, s < 2 ^ ps.length ∧ t = maskL ps.length s) ↔ Ext ps 0 t := by
  constructor
  · rintro ⟨s, _, rfl⟩
    exact ext_filter _ ps 0
  · intro h
    obtain ⟨s, hs, rfl⟩ := ext_mask ps 0 t h
    exact ⟨s, hs, rfl⟩
end Go.Proofs.Ytdmhmiamhobikaa
