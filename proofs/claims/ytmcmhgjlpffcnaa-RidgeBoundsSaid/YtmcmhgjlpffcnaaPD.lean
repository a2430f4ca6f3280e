/- Mathematics of gaps: which ones pieces can leave of a ridge, in which order they are listed, and in how many ways each can be filled. -/
import Derived.Test.YtmcmhgjlpffcnaaPC
set_option linter.unusedSimpArgs false
namespace Go.Proofs.Ytmcmhgjlpffcnaa
open Go.RowKit

def Rdg.ok (R : Rdg) : Prop := (0 ≤ R.len ∧ R.len ≤ 2000) ∧ (0 ≤ R.st ∧ R.st ≤ 9) ∧ (0 ≤ R.en ∧ R.en ≤ 9) ∧ R.ps.length ≤ 10 ∧ ∀ x ∈ R.ps, x.ok
def Rdg.top (R : Rdg) : Gp := ⟨R.len.toNat, R.st.toNat⟩
def Rdg.bot (R : Rdg) : Gp := ⟨0, R.en.toNat⟩
theorem Rdg.ok.top {R : Rdg} (h : R.ok) : R.top.ok := by obtain ⟨h1, h2, _⟩ := h; exact ⟨by simp only [Rdg.top]; omega, by simp only [Rdg.top]; omega⟩
theorem Rdg.ok.bot {R : Rdg} (h : R.ok) : R.bot.ok := by obtain ⟨h1, _, h2, _⟩ := h; exact ⟨by simp only [Rdg.bot]; omega, by simp only [Rdg.bot]; omega⟩
theorem ix_inj {g h : Gp} (hg : g.ok) (hh : h.ok) (e : g.ix = h.ix) : g = h := by
  obtain ⟨a, b⟩ := g
  obtain ⟨c, d⟩ := h
  obtain ⟨_, h1⟩ := hg
  obtain ⟨_, h2⟩ := hh
  simp only [Gp.ix] at e h1 h2
  have e1 : a = c := by omega
  have e2 : b = d := by omega
  rw [e1, e2]

/-! ### The gaps that pieces can leave -/
inductive Rch (ps : List Pce) (t : Gp) : Gp → Prop
  | top : Rch ps t t
  | step {g : Gp} {x : Pce} (h : Rch ps t g) (hx : x ∈ ps) (ht : takB g x = true) : Rch ps t (behG g x)
theorem behG_lt {g : Gp} {x : Pce} (hx : x.ok) (ht : takB g x = true) : (behG g x).n < g.n := by
  obtain ⟨_, h2⟩ := takB_iff.1 ht
  obtain ⟨⟨h3, _⟩, _⟩ := hx
  simp only [behG]
  omega
theorem Rch.ok {ps : List Pce} {t g : Gp} (ht : t.ok) (hps : ∀ x ∈ ps, x.ok) (h : Rch ps t g) : g.ok ∧ g.n ≤ t.n := by
  induction h with
  | top => exact ⟨ht, Nat.le_refl _⟩
  | step h hx htk ih => exact ⟨behG_ok ih.1 (hps _ hx), Nat.le_of_lt (Nat.lt_of_lt_of_le (behG_lt (hps _ hx) htk) ih.2)⟩
theorem nxTo_mem {g : Gp} {ps : List Pce} {k : Nat} {y : Nx g ps} : y ∈ nxTo g ps k ↔ y.1.1 < k := by
  unfold nxTo
  rw [List.mem_filterMap]
  constructor
  · rintro ⟨i, hi, he⟩
    rw [List.mem_take_iff_getElem] at hi
    obtain ⟨j, hj, e⟩ := hi
    split at he
    · have h2 := congrArg Fin.val e
      cases he
      simp at hj h2
      show i.1 < k
      omega
    · cases he
  · intro hlt
    refine ⟨y.1, ?_, by rw [dif_pos y.2]⟩
    rw [List.mem_take_iff_getElem]
    exact ⟨y.1.1, by have := y.1.2; simp; omega, by simp⟩
theorem nx_of {g : Gp} {ps : List Pce} {x : Pce} (hx : x ∈ ps) (ht : takB g x = true) : ∃ y ∈ nxL g ps, nxB g ps y = behG g x := by
  obtain ⟨i, hi, rfl⟩ := List.getElem_of_mem hx
  exact ⟨⟨⟨i, hi⟩, ht⟩, nxTo_mem.2 hi, rfl⟩
/-- The marks behind some pieces. -/
def markL {g : Gp} {ps : List Pce} (f : Nat → Bool) (l : List (Nx g ps)) : Nat → Bool := l.foldl (fun f y => setF f (nxB g ps y).ix true) f
theorem markL_snoc {g : Gp} {ps : List Pce} (f : Nat → Bool) (l : List (Nx g ps)) (y : Nx g ps) : markL f (l ++ [y]) = setF (markL f l) (nxB g ps y).ix true := by simp [markL]
theorem markL_iff {g : Gp} {ps : List Pce} (l : List (Nx g ps)) : ∀ (f : Nat → Bool) (i : Nat), markL f l i = true ↔ f i = true ∨ ∃ y ∈ l, (nxB g ps y).ix = i := by
  induction l with
  | nil => intro f i; simp [markL]
  | cons y l ih =>
    intro f i
    have : markL f (y :: l) = markL (setF f (nxB g ps y).ix true) l := rfl
    rw [this, ih]
    unfold setF
    by_cases e : i = (nxB g ps y).ix
    · subst e; simp
    · rw [if_neg e]
      constructor
      · rintro (h | ⟨z, h1, h2⟩)
        · exact .inl h
        · exact .inr ⟨z, by simp [h1], h2⟩
      · rintro (h | ⟨z, h1, h2⟩)
        · exact .inl h
        · rcases List.mem_cons.1 h1 with rfl | h1
          · exact absurd h2.symm e
          · exact .inr ⟨z, h1, h2⟩

/-- What holds where all gaps with a length from m on, and those one shorter with a profile below p, have been looked at. -/
structure GInv (ps : List Pce) (t : Gp) (m p : Nat) (l : List Gp) (f : Nat → Bool) : Prop where
  top : f t.ix = true
  sound : ∀ g : Gp, g.ok → f g.ix = true → Rch ps t g
  kids : ∀ g ∈ l, ∀ x ∈ ps, takB g x = true → f (behG g x).ix = true
  mem : ∀ g : Gp, g.ok → g.n ≤ t.n → (m ≤ g.n ∨ (g.n + 1 = m ∧ g.p < p)) → (g ∈ l ↔ f g.ix = true)
  all : ∀ g ∈ l, g.ok ∧ g.n ≤ t.n ∧ (m ≤ g.n ∨ (g.n + 1 = m ∧ g.p < p))
  ord : l.Pairwise (fun a b => b.n < a.n ∨ (b.n = a.n ∧ a.p < b.p))
theorem GInv.init (ps : List Pce) {t : Gp} (ht : t.ok) : GInv ps t (t.n + 1) 0 [] (setF (fun _ => false) t.ix true) := by
  refine ⟨by simp [setF], fun g hg h => ?_, (fun g hg => by cases hg), fun g _ h1 h2 => ?_, (fun g hg => by cases hg), List.Pairwise.nil⟩
  · unfold setF at h
    by_cases e : g.ix = t.ix
    · rw [ix_inj hg ht e]; exact .top
    · rw [if_neg e] at h; cases h
  · omega
theorem GInv.row {ps : List Pce} {t : Gp} {m : Nat} {l : List Gp} {f : Nat → Bool} (h : GInv ps t (m + 1) 10 l f) : GInv ps t m 0 l f :=
  ⟨h.top, h.sound, h.kids, fun g hg h1 h2 => h.mem g hg h1 (by have := hg.2; omega), fun g hg => by obtain ⟨h1, h2, h3⟩ := h.all g hg; exact ⟨h1, h2, by omega⟩, h.ord⟩
theorem GInv.no {ps : List Pce} {t : Gp} {m p : Nat} {l : List Gp} {f : Nat → Bool} (h : GInv ps t (m + 1) p l f) (hf : f (Gp.mk m p).ix = false) : GInv ps t (m + 1) (p + 1) l f := by
  refine ⟨h.top, h.sound, h.kids, fun g hg h1 h2 => ?_, fun g hg => by obtain ⟨h1, h2, h3⟩ := h.all g hg; exact ⟨h1, h2, by omega⟩, h.ord⟩
  by_cases e : g = ⟨m, p⟩
  · subst e
    rw [hf]
    constructor
    · intro hm
      obtain ⟨_, _, h3⟩ := h.all _ hm
      simp only at h3
      omega
    · intro hm; cases hm
  · refine h.mem g hg h1 ?_
    rcases h2 with h2 | ⟨h2, h3⟩
    · exact .inl h2
    · refine .inr ⟨h2, ?_⟩
      obtain ⟨a, b⟩ := g
      simp only at h2 h3
      have : ¬ b = p := fun hb => e (by rw [hb, show a = m by omega])
      show b < p
      omega
theorem GInv.yes {ps : List Pce} {t : Gp} {m p : Nat} {l : List Gp} {f : Nat → Bool} (h : GInv ps t (m + 1) p l f) (ht : t.ok) (hps : ∀ x ∈ ps, x.ok) (hp : p ≤ 9) (hm : m ≤ t.n) (hf : f (Gp.mk m p).ix = true) :
    GInv ps t (m + 1) (p + 1) (l ++ [⟨m, p⟩]) (markL f (nxL ⟨m, p⟩ ps)) := by
  have hgo : (Gp.mk m p).ok := ⟨by have := ht.1; show m ≤ 2000; omega, hp⟩
  have hr : Rch ps t ⟨m, p⟩ := h.sound _ hgo hf
  have hkid : ∀ y ∈ nxL (Gp.mk m p) ps, (nxB ⟨m, p⟩ ps y).ok ∧ (nxB ⟨m, p⟩ ps y).n < m ∧ Rch ps t (nxB ⟨m, p⟩ ps y) := fun y _ =>
    ⟨behG_ok hgo (hps _ (List.get_mem _ _)), behG_lt (g := ⟨m, p⟩) (hps _ (List.get_mem _ _)) y.2, .step hr (List.get_mem _ _) y.2⟩
  refine ⟨(markL_iff _ _ _).2 (.inl h.top), fun g hg h1 => ?_, fun g hg x hx htk => ?_, fun g hg h1 h2 => ?_, fun g hg => ?_, ?_⟩
  · rcases (markL_iff _ _ _).1 h1 with h1 | ⟨y, hy, e⟩
    · exact h.sound g hg h1
    · rw [← ix_inj (hkid y hy).1 hg e]; exact (hkid y hy).2.2
  · rcases List.mem_append.1 hg with hg | hg
    · exact (markL_iff _ _ _).2 (.inl (h.kids g hg x hx htk))
    · obtain rfl := List.mem_singleton.1 hg
      obtain ⟨y, hy, e⟩ := nx_of hx htk
      exact (markL_iff _ _ _).2 (.inr ⟨y, hy, by rw [e]⟩)
  · have hmk : markL f (nxL ⟨m, p⟩ ps) g.ix = true ↔ f g.ix = true := by
      rw [markL_iff]
      constructor
      · rintro (h3 | ⟨y, hy, e⟩)
        · exact h3
        · have := ix_inj (hkid y hy).1 hg e
          have := (hkid y hy).2.1
          subst_vars
          omega
      · exact .inl
    rw [hmk, List.mem_append, List.mem_singleton]
    by_cases e : g = ⟨m, p⟩
    · subst e; simp [hf]
    · rw [← h.mem g hg h1 (by
        rcases h2 with h2 | ⟨h2, h3⟩
        · exact .inl h2
        · refine .inr ⟨h2, ?_⟩
          obtain ⟨a, b⟩ := g
          simp only at h2 h3
          have : ¬ b = p := fun hb => e (by rw [hb, show a = m by omega])
          show b < p
          omega)]
      simp [e]
  · rcases List.mem_append.1 hg with hg | hg
    · obtain ⟨h1, h2, h3⟩ := h.all g hg
      exact ⟨h1, h2, by omega⟩
    · obtain rfl := List.mem_singleton.1 hg
      exact ⟨hgo, hm, .inr ⟨rfl, by show p < p + 1; omega⟩⟩
  · rw [List.pairwise_append]
    refine ⟨h.ord, by simp, fun a ha b hb => ?_⟩
    obtain rfl := List.mem_singleton.1 hb
    obtain ⟨_, _, h3⟩ := h.all a ha
    show m < a.n ∨ (m = a.n ∧ a.p < p)
    omega

/-- What is true of the gaps that are listed. -/
structure GapsOk (ps : List Pce) (t : Gp) (l : List Gp) : Prop where
  top : t ∈ l
  kids : ∀ g ∈ l, ∀ x ∈ ps, takB g x = true → behG g x ∈ l
  rch : ∀ g ∈ l, Rch ps t g
  all : ∀ g ∈ l, g.ok ∧ g.n ≤ t.n
  ord : l.Pairwise (fun a b => b.n < a.n ∨ (b.n = a.n ∧ a.p < b.p))
theorem GInv.done {ps : List Pce} {t : Gp} {l : List Gp} {f : Nat → Bool} (h : GInv ps t 0 0 l f) (ht : t.ok) (hps : ∀ x ∈ ps, x.ok) : GapsOk ps t l := by
  refine ⟨(h.mem t ht (Nat.le_refl _) (.inl (Nat.zero_le _))).2 h.top, fun g hg x hx htk => ?_, fun g hg => ?_, fun g hg => ⟨(h.all g hg).1, (h.all g hg).2.1⟩, h.ord⟩
  · obtain ⟨h1, h2, _⟩ := h.all g hg
    exact (h.mem _ (behG_ok h1 (hps x hx)) (by have := behG_lt (hps x hx) htk; omega) (.inl (Nat.zero_le _))).2 (h.kids g hg x hx htk)
  · obtain ⟨h1, h2, _⟩ := h.all g hg
    exact h.sound g h1 ((h.mem g h1 h2 (.inl (Nat.zero_le _))).1 hg)
theorem inc_len {α : Type} (r : α → Nat) (N : Nat) : ∀ (l : List α) (lo : Nat), lo ≤ N → (∀ a ∈ l, lo ≤ r a ∧ r a < N) → l.Pairwise (fun a b => r a < r b) → l.length ≤ N - lo := by
  intro l
  induction l with
  | nil => intro lo _ _ _; simp
  | cons a l ih =>
    intro lo hlo ha hp
    obtain ⟨h1, h2⟩ := List.pairwise_cons.1 hp
    have ha0 := ha a (by simp)
    have := ih (r a + 1) (by omega) (fun b hb => ⟨h1 b hb, (ha b (by simp [hb])).2⟩) h2
    rw [List.length_cons]
    omega
theorem GInv.len {ps : List Pce} {t : Gp} {m p : Nat} {l : List Gp} {f : Nat → Bool} (h : GInv ps t m p l f) (ht : t.ok) : l.length ≤ 20010 := by
  have := inc_len (fun g : Gp => (t.n - g.n) * 10 + g.p) 20010 l 0 (by omega) (fun g hg => by
    obtain ⟨h1, h2, _⟩ := h.all g hg
    have := h1.2
    have := ht.1
    exact ⟨by omega, by show (t.n - g.n) * 10 + g.p < 20010; omega⟩) (h.ord.imp_of_mem (fun {a b} ha hb hab => by
    have ha1 := (h.all a ha).1.2
    have ha2 := (h.all a ha).2.1
    have hb2 := (h.all b hb).2.1
    show (t.n - a.n) * 10 + a.p < (t.n - b.n) * 10 + b.p
    omega))
  omega

/-! ### In how many ways a gap can be filled -/
def baseW (en : Nat) (g : Gp) : Nat := if g.n = 0 ∧ g.p = en then 1 else 0
def wyF (ps : List Pce) (en : Nat) : Nat → Gp → Nat
  | 0, g => baseW en g
  | k + 1, g => baseW en g + (ps.map (fun x => if takB g x = true then wyF ps en k (behG g x) else 0)).sum
def wy (ps : List Pce) (en : Nat) (g : Gp) : Nat := wyF ps en g.n g
theorem sum_congr {α : Type} {l : List α} {f h : α → Nat} (e : ∀ x ∈ l, f x = h x) : (l.map f).sum = (l.map h).sum := by rw [List.map_congr_left e]
theorem sum_none {α : Type} (l : List α) : (l.map (fun _ => 0)).sum = 0 := by
  induction l with
  | nil => rfl
  | cons a l ih => rw [List.map_cons, List.sum_cons, ih]
theorem mem_le_sum {α : Type} (f : α → Nat) : ∀ (l : List α) (x : α), x ∈ l → f x ≤ (l.map f).sum := by
  intro l
  induction l with
  | nil => intro x h; cases h
  | cons a l ih =>
    intro x h
    rw [List.map_cons, List.sum_cons]
    rcases List.mem_cons.1 h with rfl | h
    · omega
    · have := ih x h; omega
theorem wyF_eq {ps : List Pce} (hps : ∀ x ∈ ps, x.ok) (en : Nat) : ∀ (k k' : Nat) (g : Gp), g.n ≤ k → g.n ≤ k' → wyF ps en k g = wyF ps en k' g := by
  intro k
  induction k with
  | zero =>
    intro k' g h1 h2
    cases k' with
    | zero => rfl
    | succ k' =>
      show baseW en g = baseW en g + _
      have : (ps.map (fun x => if takB g x = true then wyF ps en k' (behG g x) else 0)).sum = (ps.map (fun _ => 0)).sum := sum_congr fun x hx => by
        rw [if_neg]
        intro ht
        have := behG_lt (hps x hx) ht
        omega
      rw [this, sum_none]
      rfl
  | succ k ih =>
    intro k' g h1 h2
    cases k' with
    | zero =>
      show baseW en g + _ = baseW en g
      have : (ps.map (fun x => if takB g x = true then wyF ps en k (behG g x) else 0)).sum = (ps.map (fun _ => 0)).sum := sum_congr fun x hx => by
        rw [if_neg]
        intro ht
        have := behG_lt (hps x hx) ht
        omega
      rw [this, sum_none]
      rfl
    | succ k' =>
      show baseW en g + _ = baseW en g + _
      congr 1
      refine sum_congr fun x hx => ?_
      by_cases ht : takB g x = true
      · rw [if_pos ht, if_pos ht]
        have := behG_lt (hps x hx) ht
        exact ih k' _ (by omega) (by omega)
      · rw [if_neg ht, if_neg ht]
theorem wy_step {ps : List Pce} (hps : ∀ x ∈ ps, x.ok) (en : Nat) (g : Gp) : wy ps en g = baseW en g + (ps.map (fun x => if takB g x = true then wy ps en (behG g x) else 0)).sum := by
  rw [wy, wyF_eq hps en g.n (g.n + 1) g (Nat.le_refl _) (by omega)]
  show baseW en g + _ = _
  congr 1
  refine sum_congr fun x hx => ?_
  by_cases ht : takB g x = true
  · rw [if_pos ht, if_pos ht]
    have := behG_lt (hps x hx) ht
    exact wyF_eq hps en _ _ _ (by omega) (Nat.le_refl _)
  · rw [if_neg ht, if_neg ht]
def sumN (ps : List Pce) (en : Nat) (g : Gp) (l : List (Nx g ps)) : Nat := (l.map (fun y => wy ps en (nxB g ps y))).sum
theorem sumN_snoc (ps : List Pce) (en : Nat) (g : Gp) (l : List (Nx g ps)) (y : Nx g ps) : sumN ps en g (l ++ [y]) = sumN ps en g l + wy ps en (nxB g ps y) := by simp [sumN]
theorem sumN_to {ps : List Pce} (en : Nat) (g : Gp) : ∀ k, k ≤ ps.length → sumN ps en g (nxTo g ps k) = ((ps.take k).map (fun x => if takB g x = true then wy ps en (behG g x) else 0)).sum := by
  intro k
  induction k with
  | zero => intro _; simp [sumN, nxTo_zero]
  | succ k ih =>
    intro hk
    have hlt : k < ps.length := hk
    rw [List.take_succ_eq_append_getElem hlt, List.map_append, List.sum_append]
    simp only [List.map_cons, List.map_nil, List.sum_cons, List.sum_nil]
    by_cases ht : takB g (ps.get ⟨k, hlt⟩) = true
    · rw [nxTo_yes hlt ht, sumN_snoc, ih (by omega), if_pos (by exact ht)]
      rfl
    · rw [nxTo_no hlt ht, ih (by omega), if_neg (by exact ht)]
      rfl
theorem wy_nx {ps : List Pce} (hps : ∀ x ∈ ps, x.ok) (en : Nat) (g : Gp) : wy ps en g = baseW en g + sumN ps en g (nxL g ps) := by
  rw [wy_step hps, nxL, sumN_to en g _ (Nat.le_refl _), List.take_length]
theorem wy_kid {ps : List Pce} (hps : ∀ x ∈ ps, x.ok) (en : Nat) {g : Gp} {x : Pce} (hx : x ∈ ps) (ht : takB g x = true) : wy ps en (behG g x) ≤ wy ps en g := by
  rw [wy_step hps en g]
  have h1 := mem_le_sum (fun x => if takB g x = true then wy ps en (behG g x) else 0) ps x hx
  simp only [if_pos ht] at h1
  omega
theorem wy_rch {ps : List Pce} (hps : ∀ x ∈ ps, x.ok) (en : Nat) {t g : Gp} (h : Rch ps t g) : wy ps en g ≤ wy ps en t := by
  induction h with
  | top => exact Nat.le_refl _
  | step h hx ht ih => exact Nat.le_trans (wy_kid hps en hx ht) ih
end Go.Proofs.Ytmcmhgjlpffcnaa
