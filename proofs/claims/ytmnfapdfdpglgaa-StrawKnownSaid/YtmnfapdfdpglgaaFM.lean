/- The choice of fields: a model of the walk over all choices, and what it finds. -/
import Derived.ProofKit
namespace Go.Proofs.Ytmnfapdfdpglgaa

/-- A field. -/
structure Plt where
  name : ByteArray
  crop : Int
  size : Int
  ylo : Int
  yhi : Int
  rest : Int
  wlo : Int
  whi : Int
  cost : Int
structure Ned where
  reed : Int
  straw : Int
  heather : Int
/-- Loads of each crop. -/
structure Sur where
  z : Int
  r : Int
  s : Int
  h : Int
def Sur.none : Sur := ⟨0, 0, 0, 0⟩
def Sur.add (c : Sur) (p : Plt) : Sur :=
  if p.crop = 1 then ⟨c.z, c.r + p.size * p.ylo, c.s, c.h⟩ else if p.crop = 2 then ⟨c.z, c.r, c.s + p.size * p.ylo, c.h⟩ else ⟨c.z, c.r, c.s, c.h + p.size * p.ylo⟩
def Sur.enough (c : Sur) (n : Ned) : Bool := decide (n.reed ≤ c.r) && decide (n.straw ≤ c.s) && decide (n.heather ≤ c.h)
/-- The best choice so far. -/
structure Bst where
  best : List Nat
  least : Int
  found : Bool
def Bst.better (b : Bst) (ch : List Nat) (cost : Int) : Bool := !b.found || (decide (cost < b.least) || (decide (cost = b.least) && decide (ch.length < b.best.length)))
def Bst.visit (n : Ned) (b : Bst) (ch : List Nat) (cost : Int) (c : Sur) : Bst := if b.better ch cost && c.enough n then ⟨ch, cost, true⟩ else b
/-- The rounds of the walk over the fields that are left, from field i on. -/
def loopL (n : Ned) : List Plt → Nat → List Nat → Int → Sur → Bst → Bst
  | [], _, _, _, _, b => b
  | p :: ps, i, ch, cost, c, b => loopL n ps (i + 1) ch cost c (loopL n ps (i + 1) (ch ++ [i]) (cost + p.cost) (c.add p) (b.visit n (ch ++ [i]) (cost + p.cost) (c.add p)))
def chooseM (ps : List Plt) (n : Ned) : Bst := loopL n ps 0 [] 0 Sur.none (Bst.visit n ⟨[], 0, false⟩ [] 0 Sur.none)

/-- Which fields, from field i on, in order. -/
def Ext : List Plt → Nat → List Nat → Prop
  | [], _, l => l = []
  | _ :: ps, i, l => Ext ps (i + 1) l ∨ ∃ t, l = i :: t ∧ Ext ps (i + 1) t

def nothing : Plt := ⟨.empty, 3, 0, 0, 0, 0, 0, 0, 0⟩
def pltAt (PS : List Plt) (i : Nat) : Plt := PS[i]?.getD nothing
def costOf (PS : List Plt) (l : List Nat) : Int := l.foldl (fun c i => c + (pltAt PS i).cost) 0
def sureOf (PS : List Plt) (l : List Nat) : Sur := l.foldl (fun c i => c.add (pltAt PS i)) Sur.none
theorem costOf_snoc (PS : List Plt) (l : List Nat) (i : Nat) : costOf PS (l ++ [i]) = costOf PS l + (pltAt PS i).cost := by simp [costOf]
theorem sureOf_snoc (PS : List Plt) (l : List Nat) (i : Nat) : sureOf PS (l ++ [i]) = (sureOf PS l).add (pltAt PS i) := by simp [sureOf]
theorem pltAt_drop {PS ps : List Plt} {p : Plt} {i : Nat} (h : PS.drop i = p :: ps) : pltAt PS i = p ∧ PS.drop (i + 1) = ps := by
  have h0 : PS[i]? = some p := by
    have := congrArg (fun l => l[0]?) h
    simpa using this
  refine ⟨by rw [pltAt, h0]; rfl, ?_⟩
  have := congrArg (List.drop 1) h
  rw [List.drop_drop] at this
  simpa using this

theorem visit_cases (n : Ned) (b : Bst) (ch : List Nat) (cost : Int) (c : Sur) : b.visit n ch cost c = b ∨ (b.visit n ch cost c = ⟨ch, cost, true⟩ ∧ c.enough n = true) := by
  unfold Bst.visit
  split
  · next h => exact .inr ⟨rfl, by simp at h; exact h.2⟩
  · exact .inl rfl
/-- Nothing is lost. -/
def Bst.noWorse (a b : Bst) : Prop := b.found = true → a.found = true ∧ a.least ≤ b.least
theorem Bst.noWorse.refl (b : Bst) : b.noWorse b := fun h => ⟨h, Int.le_refl _⟩
theorem Bst.noWorse.trans {a b c : Bst} (h : a.noWorse b) (k : b.noWorse c) : a.noWorse c := fun hc => ⟨(h (k hc).1).1, Int.le_trans (h (k hc).1).2 (k hc).2⟩
theorem visit_noWorse (n : Ned) (b : Bst) (ch : List Nat) (cost : Int) (c : Sur) : (b.visit n ch cost c).noWorse b := by
  intro hf
  unfold Bst.visit
  split
  · next h =>
    refine ⟨rfl, ?_⟩
    simp [Bst.better, hf] at h
    show cost ≤ b.least
    rcases h.1 with h | h
    · omega
    · omega
  · exact ⟨hf, Int.le_refl _⟩
theorem visit_enough {n : Ned} {b : Bst} {ch : List Nat} {cost : Int} {c : Sur} (h : c.enough n = true) : (b.visit n ch cost c).found = true ∧ (b.visit n ch cost c).least ≤ cost := by
  unfold Bst.visit
  split
  · exact ⟨rfl, Int.le_refl _⟩
  · next hn =>
    rw [h, Bool.and_true] at hn
    have hb : b.better ch cost = false := by simpa using hn
    unfold Bst.better at hb
    rw [Bool.or_eq_false_iff, Bool.or_eq_false_iff] at hb
    exact ⟨by simpa using hb.1, by have := of_decide_eq_false hb.2.1; omega⟩
theorem loop_noWorse (n : Ned) (ps : List Plt) : ∀ (i : Nat) (ch : List Nat) (cost : Int) (c : Sur) (b : Bst), (loopL n ps i ch cost c b).noWorse b := by
  induction ps with
  | nil => intro i ch cost c b; exact .refl b
  | cons p ps ih =>
    intro i ch cost c b
    exact (ih _ _ _ _ _).trans ((ih _ _ _ _ _).trans (visit_noWorse _ _ _ _ _))
theorem loop_enough (n : Ned) (PS ps : List Plt) : ∀ (i : Nat) (ch : List Nat) (b : Bst) (t : List Nat), PS.drop i = ps → Ext ps i t → t ≠ [] → (sureOf PS (ch ++ t)).enough n = true →
    (loopL n ps i ch (costOf PS ch) (sureOf PS ch) b).found = true ∧ (loopL n ps i ch (costOf PS ch) (sureOf PS ch) b).least ≤ costOf PS (ch ++ t) := by
  induction ps with
  | nil => intro i ch b t _ ht hne; exact absurd ht hne
  | cons p ps ih =>
    intro i ch b t hd ht hne he
    obtain ⟨hp, hd'⟩ := pltAt_drop hd
    have e1 : costOf PS ch + p.cost = costOf PS (ch ++ [i]) := by rw [costOf_snoc, hp]
    have e2 : (sureOf PS ch).add p = sureOf PS (ch ++ [i]) := by rw [sureOf_snoc, hp]
    unfold loopL
    rw [e1, e2]
    rcases ht with ht | ⟨t, rfl, ht⟩
    · exact ih (i + 1) ch _ t hd' ht hne he
    · have hap : ch ++ i :: t = (ch ++ [i]) ++ t := by simp
      rw [hap] at he ⊢
      have k := loop_noWorse n ps (i + 1) ch (costOf PS ch) (sureOf PS ch) (loopL n ps (i + 1) (ch ++ [i]) (costOf PS (ch ++ [i])) (sureOf PS (ch ++ [i])) (b.visit n (ch ++ [i]) (costOf PS (ch ++ [i])) (sureOf PS (ch ++ [i]))))
      by_cases htn : t = []
      · subst htn
        rw [List.append_nil] at he ⊢
        have k2 := loop_noWorse n ps (i + 1) (ch ++ [i]) (costOf PS (ch ++ [i])) (sureOf PS (ch ++ [i])) (b.visit n (ch ++ [i]) (costOf PS (ch ++ [i])) (sureOf PS (ch ++ [i])))
        have k3 := visit_enough (b := b) (ch := ch ++ [i]) (cost := costOf PS (ch ++ [i])) he
        obtain ⟨f1, l1⟩ := k2 k3.1
        obtain ⟨f2, l2⟩ := k f1
        exact ⟨f2, by omega⟩
      · obtain ⟨f1, l1⟩ := ih (i + 1) (ch ++ [i]) (b.visit n (ch ++ [i]) (costOf PS (ch ++ [i])) (sureOf PS (ch ++ [i]))) t hd' ht htn he
        obtain ⟨f2, l2⟩ := k f1
        exact ⟨f2, by omega⟩
/-- What a best choice is. -/
def Bst.sound (n : Ned) (PS : List Plt) (b : Bst) : Prop := b.found = true → Ext PS 0 b.best ∧ b.least = costOf PS b.best ∧ (sureOf PS b.best).enough n = true
theorem visit_sound {n : Ned} {PS : List Plt} {b : Bst} {ch : List Nat} (h : b.sound n PS) (hE : Ext PS 0 ch) : (b.visit n ch (costOf PS ch) (sureOf PS ch)).sound n PS := by
  rcases visit_cases n b ch (costOf PS ch) (sureOf PS ch) with e | ⟨e, k⟩
  · rw [e]; exact h
  · rw [e]; exact fun _ => ⟨hE, rfl, k⟩
/-- Fields ahead of field i, with which others from there on are some of all. -/
def Fits (PS ps : List Plt) (i : Nat) (ch : List Nat) : Prop := ∀ t, Ext ps i t → Ext PS 0 (ch ++ t)
theorem ext_nil (ps : List Plt) : ∀ i, Ext ps i [] := by
  induction ps with
  | nil => intro i; rfl
  | cons p ps ih => intro i; exact .inl (ih _)
theorem Fits.skip {PS ps : List Plt} {p : Plt} {i : Nat} {ch : List Nat} (h : Fits PS (p :: ps) i ch) : Fits PS ps (i + 1) ch := fun t ht => h t (.inl ht)
theorem Fits.take {PS ps : List Plt} {p : Plt} {i : Nat} {ch : List Nat} (h : Fits PS (p :: ps) i ch) : Fits PS ps (i + 1) (ch ++ [i]) := fun t ht => by
  have := h (i :: t) (.inr ⟨t, rfl, ht⟩)
  simpa using this
theorem Fits.self {PS ps : List Plt} {i : Nat} {ch : List Nat} (h : Fits PS ps i ch) : Ext PS 0 ch := by
  have := h [] (ext_nil _ _)
  simpa using this
theorem loop_sound (n : Ned) (PS ps : List Plt) : ∀ (i : Nat) (ch : List Nat) (b : Bst), PS.drop i = ps → Fits PS ps i ch → b.sound n PS → (loopL n ps i ch (costOf PS ch) (sureOf PS ch) b).sound n PS := by
  induction ps with
  | nil => intro i ch b _ _ h; exact h
  | cons p ps ih =>
    intro i ch b hd hf hb
    obtain ⟨hp, hd'⟩ := pltAt_drop hd
    have e1 : costOf PS ch + p.cost = costOf PS (ch ++ [i]) := by rw [costOf_snoc, hp]
    have e2 : (sureOf PS ch).add p = sureOf PS (ch ++ [i]) := by rw [sureOf_snoc, hp]
    unfold loopL
    rw [e1, e2]
    exact ih _ _ _ hd' hf.skip (ih _ _ _ hd' hf.take (visit_sound hb hf.take.self))
/-- **What is chosen**: found just if some fields are enough; then enough themselves, and none that are enough cost less. -/
theorem choose_enough {PS : List Plt} {n : Ned} {t : List Nat} (ht : Ext PS 0 t) (he : (sureOf PS t).enough n = true) : (chooseM PS n).found = true ∧ (chooseM PS n).least ≤ costOf PS t := by
  unfold chooseM
  have e1 : (0 : Int) = costOf PS [] := rfl
  have e2 : Sur.none = sureOf PS [] := rfl
  by_cases hn : t = []
  · subst hn
    have k3 := visit_enough (b := ⟨[], 0, false⟩) (ch := []) (cost := 0) (c := Sur.none) (n := n) (by rw [e2]; exact he)
    obtain ⟨f, l⟩ := loop_noWorse n PS 0 [] 0 Sur.none _ k3.1
    exact ⟨f, by rw [← e1]; omega⟩
  · have := loop_enough n PS PS 0 [] (Bst.visit n ⟨[], 0, false⟩ [] 0 Sur.none) t rfl ht hn (by simpa using he)
    simpa [← e1, ← e2] using this
theorem choose_sound (PS : List Plt) (n : Ned) : (chooseM PS n).sound n PS := by
  have h0 : Fits PS PS 0 [] := fun t ht => ht
  exact loop_sound n PS PS 0 [] _ rfl h0 (visit_sound (fun h => by cases h) h0.self)

/-- Fields by a test. -/
theorem ext_filter (P : Nat → Bool) (ps : List Plt) : ∀ i, Ext ps i ((List.range' i ps.length).filter P) := by
  induction ps with
  | nil => intro i; rfl
  | cons p ps ih =>
    intro i
    rw [List.length_cons, List.range'_succ, List.filter_cons]
    split
    · exact .inr ⟨_, rfl, ih (i + 1)⟩
    · exact .inl (ih (i + 1))
theorem ext_range (ps : List Plt) (i : Nat) : Ext ps i (List.range' i ps.length) := by
  have := ext_filter (fun _ => true) ps i
  rwa [List.filter_eq_self.2 (fun _ _ => rfl)] at this
theorem ext_bd {ps : List Plt} : ∀ {i : Nat} {l : List Nat}, Ext ps i l → (∀ k ∈ l, i ≤ k ∧ k < i + ps.length) ∧ l.length ≤ ps.length := by
  induction ps with
  | nil => intro i l h; obtain rfl : l = [] := h; simp
  | cons p ps ih =>
    intro i l h
    rcases h with h | ⟨t, rfl, h⟩
    · obtain ⟨h1, h2⟩ := ih h
      exact ⟨fun k hk => ⟨by have := h1 k hk; omega, by have := h1 k hk; simp; omega⟩, by simp; omega⟩
    · obtain ⟨h1, h2⟩ := ih h
      refine ⟨fun k hk => ?_, by simp; omega⟩
      rcases List.mem_cons.1 hk with rfl | hk
      · exact ⟨Nat.le_refl _, by simp⟩
      · exact ⟨by have := h1 k hk; omega, by have := h1 k hk; simp; omega⟩
/-- Neighbours ascend. -/
theorem ext_asc {ps : List Plt} : ∀ {i : Nat} {l : List Nat}, Ext ps i l → ∀ (j a b : Nat), l[j]? = some a → l[j + 1]? = some b → a < b := by
  induction ps with
  | nil => intro i l h j a b ha; obtain rfl : l = [] := h; simp at ha
  | cons p ps ih =>
    intro i l h j a b ha hb
    rcases h with h | ⟨t, rfl, h⟩
    · exact ih h j a b ha hb
    · cases j with
      | zero =>
        obtain rfl : i = a := by simpa using ha
        have hb' : t[0]? = some b := by simpa using hb
        have := (ext_bd h).1 b (List.mem_of_getElem? hb')
        omega
      | succ j =>
        exact ih h j a b (by simpa using ha) (by simpa using hb)
/-- All fields give as much as some. -/
def Sur.le (a b : Sur) : Prop := a.r ≤ b.r ∧ a.s ≤ b.s ∧ a.h ≤ b.h
theorem Sur.le.add {a b : Sur} (h : a.le b) (p : Plt) : (a.add p).le (b.add p) := by
  obtain ⟨h1, h2, h3⟩ := h
  unfold Sur.add
  split
  · exact ⟨by simp; omega, h2, h3⟩
  · split
    · exact ⟨h1, by simp; omega, h3⟩
    · exact ⟨h1, h2, by simp; omega⟩
theorem Sur.le.more {a b : Sur} (h : a.le b) {p : Plt} (hp : 0 ≤ p.size * p.ylo) : a.le (b.add p) := by
  obtain ⟨h1, h2, h3⟩ := h
  unfold Sur.add
  split
  · exact ⟨by simp; omega, h2, h3⟩
  · split
    · exact ⟨h1, by simp; omega, h3⟩
    · exact ⟨h1, h2, by simp; omega⟩
theorem Sur.le.enough {a b : Sur} {n : Ned} (h : a.le b) (he : a.enough n = true) : b.enough n = true := by
  obtain ⟨h1, h2, h3⟩ := h
  simp [Sur.enough] at he ⊢
  omega
theorem ext_all (PS ps : List Plt) (hp : ∀ p ∈ PS, 0 ≤ p.size * p.ylo) : ∀ (i : Nat) (ch ch' t : List Nat), PS.drop i = ps → Ext ps i t → (sureOf PS ch).le (sureOf PS ch') → (sureOf PS (ch ++ t)).le (sureOf PS (ch' ++ List.range' i ps.length)) := by
  induction ps with
  | nil => intro i ch ch' t _ ht h; obtain rfl : t = [] := ht; simpa using h
  | cons p ps ih =>
    intro i ch ch' t hd ht h
    obtain ⟨hpe, hd'⟩ := pltAt_drop hd
    have hmem : p ∈ PS := by
      have : p ∈ PS.drop i := by rw [hd]; simp
      exact List.mem_of_mem_drop this
    rw [List.length_cons, List.range'_succ]
    have e : ch' ++ i :: List.range' (i + 1) ps.length = (ch' ++ [i]) ++ List.range' (i + 1) ps.length := by simp
    rw [e]
    rcases ht with ht | ⟨t, rfl, ht⟩
    · exact ih (i + 1) ch (ch' ++ [i]) t hd' ht (by rw [sureOf_snoc, hpe]; exact h.more (hp p hmem))
    · have e2 : ch ++ i :: t = (ch ++ [i]) ++ t := by simp
      rw [e2]
      exact ih (i + 1) (ch ++ [i]) (ch' ++ [i]) t hd' ht (by rw [sureOf_snoc, sureOf_snoc]; exact h.add _)
/-- There is a choice just if all fields together are enough. -/
theorem choose_found {PS : List Plt} {n : Ned} (hp : ∀ p ∈ PS, 0 ≤ p.size * p.ylo) : (chooseM PS n).found = (sureOf PS (List.range' 0 PS.length)).enough n := by
  cases he : (sureOf PS (List.range' 0 PS.length)).enough n with
  | true => exact (choose_enough (ext_range PS 0) he).1
  | false =>
    rw [Bool.eq_false_iff]
    intro hf
    obtain ⟨h1, _, h3⟩ := choose_sound PS n hf
    have := (ext_all PS PS hp 0 [] [] _ rfl h1 ⟨Int.le_refl _, Int.le_refl _, Int.le_refl _⟩).enough (n := n) (by simpa using h3)
    rw [List.nil_append, he] at this
    cases this
theorem enough_less {c : Sur} {n m : Ned} (h : c.enough n = true) (h1 : m.reed ≤ n.reed) (h2 : m.straw ≤ n.straw) (h3 : m.heather ≤ n.heather) : c.enough m = true := by
  simp [Sur.enough] at h ⊢
  omega
/-- With lesser needs none costs more. -/
theorem choose_less {PS : List Plt} {n m : Ned} (h : (chooseM PS n).found = true) (h1 : m.reed ≤ n.reed) (h2 : m.straw ≤ n.straw) (h3 : m.heather ≤ n.heather) : (chooseM PS m).found = true ∧ (chooseM PS m).least ≤ (chooseM PS n).least := by
  obtain ⟨k1, k2, k3⟩ := choose_sound PS n h
  have := choose_enough k1 (enough_less k3 h1 h2 h3)
  exact ⟨this.1, by rw [k2]; exact this.2⟩
/-- Where nothing is found, nothing is said. -/
def Bst.blank (b : Bst) : Prop := b.found = false → b.best = [] ∧ b.least = 0
theorem visit_blank {n : Ned} {b : Bst} {ch : List Nat} {cost : Int} {c : Sur} (h : b.blank) : (b.visit n ch cost c).blank := by
  rcases visit_cases n b ch cost c with e | ⟨e, _⟩
  · rw [e]; exact h
  · rw [e]; exact fun h => by cases h
theorem loop_blank (n : Ned) (ps : List Plt) : ∀ (i : Nat) (ch : List Nat) (cost : Int) (c : Sur) (b : Bst), b.blank → (loopL n ps i ch cost c b).blank := by
  induction ps with
  | nil => intro i ch cost c b h; exact h
  | cons p ps ih => intro i ch cost c b h; exact ih _ _ _ _ _ (ih _ _ _ _ _ (visit_blank h))
theorem choose_blank (PS : List Plt) (n : Ned) : (chooseM PS n).blank := loop_blank _ _ _ _ _ _ _ (visit_blank fun _ => ⟨rfl, rfl⟩)
end Go.Proofs.Ytmnfapdfdpglgaa
