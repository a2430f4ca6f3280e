/- The choice of fields: a model of the walk over all choices, and what it finds. Leaf functions of package straw: numbers in a range, names, fields in memory, a field found by its name. checkPlot and Check: the first error of a farm. -/
import Derived.ProofKit
import Derived.Test.YtghepojnimlafaaRows
import Derived.WalkKit
import Derived.Deep.QuietTactic
import Derived.Deep.RegionHeld3
import Derived.BigQuiet
import Derived.Lib.Hide
import Derived.Shelf.Abstract
import Derived.Shelf.RegionOpen
import Derived.RangeFuncNested
import Derived.RangeFuncBound
import Derived.RangeFuncCalls
import Derived.RangeFuncLeaves
import Derived.OwnWalkIn
import Derived.TacticsInMore
import Derived.LoopNIn
import Derived.LoopIn
namespace Go.Proofs.Ytghepojnimlafaa
section

/-- A field. -/
structure Plt where
  name : ByteArray
  crop : Int
  size : Int
  ylo : Int
  yhi : Int
  rest : Int
  wlo : Int
  whi : Int
  cost : Int
structure Ned where
  reed : Int
  straw : Int
  heather : Int
/-- Loads of each crop. -/
structure Sur where
  z : Int
  r : Int
  s : Int
  h : Int
def Sur.none : Sur := ⟨0, 0, 0, 0⟩
def Sur.add (c : Sur) (p : Plt) : Sur :=
  if p.crop = 1 then ⟨c.z, c.r + p.size * p.ylo, c.s, c.h⟩ else if p.crop = 2 then ⟨c.z, c.r, c.s + p.size * p.ylo, c.h⟩ else ⟨c.z, c.r, c.s, c.h + p.size * p.ylo⟩
def Sur.enough (c : Sur) (n : Ned) : Bool := decide (n.reed ≤ c.r) && decide (n.straw ≤ c.s) && decide (n.heather ≤ c.h)
/-- The best choice so far. -/
structure Bst where
  best : List Nat
  least : Int
  found : Bool
def Bst.better (b : Bst) (ch : List Nat) (cost : Int) : Bool := !b.found || (decide (cost < b.least) || (decide (cost = b.least) && decide (ch.length < b.best.length)))
def Bst.visit (n : Ned) (b : Bst) (ch : List Nat) (cost : Int) (c : Sur) : Bst := if b.better ch cost && c.enough n then ⟨ch, cost, true⟩ else b
/-- The rounds of the walk over the fields that are left, from field i on. -/
def loopL (n : Ned) : List Plt → Nat → List Nat → Int → Sur → Bst → Bst
  | [], _, _, _, _, b => b
  | p :: ps, i, ch, cost, c, b => loopL n ps (i + 1) ch cost c (loopL n ps (i + 1) (ch ++ [i]) (cost + p.cost) (c.add p) (b.visit n (ch ++ [i]) (cost + p.cost) (c.add p)))
def chooseM (ps : List Plt) (n : Ned) : Bst := loopL n ps 0 [] 0 Sur.none (Bst.visit n ⟨[], 0, false⟩ [] 0 Sur.none)

/-- Which fields, from field i on, in order. -/
def Ext : List Plt → Nat → List Nat → Prop
  | [], _, l => l = []
  | _ :: ps, i, l => Ext ps (i + 1) l ∨ ∃ t, l = i :: t ∧ Ext ps (i + 1) t

def nothing : Plt := ⟨.empty, 3, 0, 0, 0, 0, 0, 0, 0⟩
def pltAt (PS : List Plt) (i : Nat) : Plt := PS[i]?.getD nothing
def costOf (PS : List Plt) (l : List Nat) : Int := l.foldl (fun c i => c + (pltAt PS i).cost) 0
def sureOf (PS : List Plt) (l : List Nat) : Sur := l.foldl (fun c i => c.add (pltAt PS i)) Sur.none
theorem costOf_snoc (PS : List Plt) (l : List Nat) (i : Nat) : costOf PS (l ++ [i]) = costOf PS l + (pltAt PS i).cost := by simp [costOf]
theorem sureOf_snoc (PS : List Plt) (l : List Nat) (i : Nat) : sureOf PS (l ++ [i]) = (sureOf PS l).add (pltAt PS i) := by simp [sureOf]
theorem pltAt_drop {PS ps : List Plt} {p : Plt} {i : Nat} (h : PS.drop i = p :: ps) : pltAt PS i = p ∧ PS.drop (i + 1) = ps := by
  have h0 : PS[i]? = some p := by
    have := congrArg (fun l => l[0]?) h
    simpa using this
  refine ⟨by rw [pltAt, h0]; rfl, ?_⟩
  have := congrArg (List.drop 1) h
  rw [List.drop_drop] at this
  simpa using this

theorem visit_cases (n : Ned) (b : Bst) (ch : List Nat) (cost : Int) (c : Sur) : b.visit n ch cost c = b ∨ (b.visit n ch cost c = ⟨ch, cost, true⟩ ∧ c.enough n = true) := by
  unfold Bst.visit
  split
  · next h => exact .inr ⟨rfl, by simp at h; exact h.2⟩
  · exact .inl rfl
/-- Nothing is lost. -/
def Bst.noWorse (a b : Bst) : Prop := b.found = true → a.found = true ∧ a.least ≤ b.least
theorem Bst.noWorse.refl (b : Bst) : b.noWorse b := fun h => ⟨h, Int.le_refl _⟩
theorem Bst.noWorse.trans {a b c : Bst} (h : a.noWorse b) (k : b.noWorse c) : a.noWorse c := fun hc => ⟨(h (k hc).1).1, Int.le_trans (h (k hc).1).2 (k hc).2⟩
theorem visit_noWorse (n : Ned) (b : Bst) (ch : List Nat) (cost : Int) (c : Sur) : (b.visit n ch cost c).noWorse b := by
  intro hf
  unfold Bst.visit
  split
  · next h =>
    refine ⟨rfl, ?_⟩
    simp [Bst.better, hf] at h
    show cost ≤ b.least
    rcases h.1 with h | h
    · omega
    · omega
  · exact ⟨hf, Int.le_refl _⟩
theorem visit_enough {n : Ned} {b : Bst} {ch : List Nat} {cost : Int} {c : Sur} (h : c.enough n = true) : (b.visit n ch cost c).found = true ∧ (b.visit n ch cost c).least ≤ cost := by
  unfold Bst.visit
  split
  · exact ⟨rfl, Int.le_refl _⟩
  · next hn =>
    rw [h, Bool.and_true] at hn
    have hb : b.better ch cost = false := by simpa using hn
    unfold Bst.better at hb
    rw [Bool.or_eq_false_iff, Bool.or_eq_false_iff] at hb
    exact ⟨by simpa using hb.1, by have := of_decide_eq_false hb.2.1; omega⟩
theorem loop_noWorse (n : Ned) (ps : List Plt) : ∀ (i : Nat) (ch : List Nat) (cost : Int) (c : Sur) (b : Bst), (loopL n ps i ch cost c b).noWorse b := by
  induction ps with
  | nil => intro i ch cost c b; exact .refl b
  | cons p ps ih =>
    intro i ch cost c b
    exact (ih _ _ _ _ _).trans ((ih _ _ _ _ _).trans (visit_noWorse _ _ _ _ _))
theorem loop_enough (n : Ned) (PS ps : List Plt) : ∀ (i : Nat) (ch : List Nat) (b : Bst) (t : List Nat), PS.drop i = ps → Ext ps i t → t ≠ [] → (sureOf PS (ch ++ t)).enough n = true →
    (loopL n ps i ch (costOf PS ch) (sureOf PS ch) b).found = true ∧ (loopL n ps i ch (costOf PS ch) (sureOf PS ch) b).least ≤ costOf PS (ch ++ t) := by
  induction ps with
  | nil => intro i ch b t _ ht hne; exact absurd ht hne
  | cons p ps ih =>
    intro i ch b t hd ht hne he
    obtain ⟨hp, hd'⟩ := pltAt_drop hd
    have e1 : costOf PS ch + p.cost = costOf PS (ch ++ [i]) := by rw [costOf_snoc, hp]
    have e2 : (sureOf PS ch).add p = sureOf PS (ch ++ [i]) := by rw [sureOf_snoc, hp]
    unfold loopL
    rw [e1, e2]
    rcases ht with ht | ⟨t, rfl, ht⟩
    · exact ih (i + 1) ch _ t hd' ht hne he
    · have hap : ch ++ i :: t = (ch ++ [i]) ++ t := by simp
      rw [hap] at he ⊢
      have k := loop_noWorse n ps (i + 1) ch (costOf PS ch) (sureOf PS ch) (loopL n ps (i + 1) (ch ++ [i]) (costOf PS (ch ++ [i])) (sureOf PS (ch ++ [i])) (b.visit n (ch ++ [i]) (costOf PS (ch ++ [i])) (sureOf PS (ch ++ [i]))))
      by_cases htn : t = []
      · subst htn
        rw [List.append_nil] at he ⊢
        have k2 := loop_noWorse n ps (i + 1) (ch ++ [i]) (costOf PS (ch ++ [i])) (sureOf PS (ch ++ [i])) (b.visit n (ch ++ [i]) (costOf PS (ch ++ [i])) (sureOf PS (ch ++ [i])))
        have k3 := visit_enough (b := b) (ch := ch ++ [i]) (cost := costOf PS (ch ++ [i])) he
        obtain ⟨f1, l1⟩ := k2 k3.1
        obtain ⟨f2, l2⟩ := k f1
        exact ⟨f2, by omega⟩
      · obtain ⟨f1, l1⟩ := ih (i + 1) (ch ++ [i]) (b.visit n (ch ++ [i]) (costOf PS (ch ++ [i])) (sureOf PS (ch ++ [i]))) t hd' ht htn he
        obtain ⟨f2, l2⟩ := k f1
        exact ⟨f2, by omega⟩
/-- What a best choice is. -/
def Bst.sound (n : Ned) (PS : List Plt) (b : Bst) : Prop := b.found = true → Ext PS 0 b.best ∧ b.least = costOf PS b.best ∧ (sureOf PS b.best).enough n = true
theorem visit_sound {n : Ned} {PS : List Plt} {b : Bst} {ch : List Nat} (h : b.sound n PS) (hE : Ext PS 0 ch) : (b.visit n ch (costOf PS ch) (sureOf PS ch)).sound n PS := by
  rcases visit_cases n b ch (costOf PS ch) (sureOf PS ch) with e | ⟨e, k⟩
  · rw [e]; exact h
  · rw [e]; exact fun _ => ⟨hE, rfl, k⟩
/-- Fields ahead of field i, with which others from there on are some of all. -/
def Fits (PS ps : List Plt) (i : Nat) (ch : List Nat) : Prop := ∀ t, Ext ps i t → Ext PS 0 (ch ++ t)
theorem ext_nil (ps : List Plt) : ∀ i, Ext ps i [] := by
  induction ps with
  | nil => intro i; rfl
  | cons p ps ih => intro i; exact .inl (ih _)
theorem Fits.skip {PS ps : List Plt} {p : Plt} {i : Nat} {ch : List Nat} (h : Fits PS (p :: ps) i ch) : Fits PS ps (i + 1) ch := fun t ht => h t (.inl ht)
theorem Fits.take {PS ps : List Plt} {p : Plt} {i : Nat} {ch : List Nat} (h : Fits PS (p :: ps) i ch) : Fits PS ps (i + 1) (ch ++ [i]) := fun t ht => by
  have := h (i :: t) (.inr ⟨t, rfl, ht⟩)
  simpa using this
theorem Fits.self {PS ps : List Plt} {i : Nat} {ch : List Nat} (h : Fits PS ps i ch) : Ext PS 0 ch := by
  have := h [] (ext_nil _ _)
  simpa using this
theorem loop_sound (n : Ned) (PS ps : List Plt) : ∀ (i : Nat) (ch : List Nat) (b : Bst), PS.drop i = ps → Fits PS ps i ch → b.sound n PS → (loopL n ps i ch (costOf PS ch) (sureOf PS ch) b).sound n PS := by
  induction ps with
  | nil => intro i ch b _ _ h; exact h
  | cons p ps ih =>
    intro i ch b hd hf hb
    obtain ⟨hp, hd'⟩ := pltAt_drop hd
    have e1 : costOf PS ch + p.cost = costOf PS (ch ++ [i]) := by rw [costOf_snoc, hp]
    have e2 : (sureOf PS ch).add p = sureOf PS (ch ++ [i]) := by rw [sureOf_snoc, hp]
    unfold loopL
    rw [e1, e2]
    exact ih _ _ _ hd' hf.skip (ih _ _ _ hd' hf.take (visit_sound hb hf.take.self))
/-- **What is chosen**: found just if some fields are enough; then enough themselves, and none that are enough cost less. -/
theorem choose_enough {PS : List Plt} {n : Ned} {t : List Nat} (ht : Ext PS 0 t) (he : (sureOf PS t).enough n = true) : (chooseM PS n).found = true ∧ (chooseM PS n).least ≤ costOf PS t := by
  unfold chooseM
  have e1 : (0 : Int) = costOf PS [] := rfl
  have e2 : Sur.none = sureOf PS [] := rfl
  by_cases hn : t = []
  · subst hn
    have k3 := visit_enough (b := ⟨[], 0, false⟩) (ch := []) (cost := 0) (c := Sur.none) (n := n) (by rw [e2]; exact he)
    obtain ⟨f, l⟩ := loop_noWorse n PS 0 [] 0 Sur.none _ k3.1
    exact ⟨f, by rw [← e1]; omega⟩
  · have := loop_enough n PS PS 0 [] (Bst.visit n ⟨[], 0, false⟩ [] 0 Sur.none) t rfl ht hn (by simpa using he)
    simpa [← e1, ← e2] using this
theorem choose_sound (PS : List Plt) (n : Ned) : (chooseM PS n).sound n PS := by
  have h0 : Fits PS PS 0 [] := fun t ht => ht
  exact loop_sound n PS PS 0 [] _ rfl h0 (visit_sound (fun h => by cases h) h0.self)

/-- Fields by a test. -/
theorem ext_filter (P : Nat → Bool) (ps : List Plt) : ∀ i, Ext ps i ((List.range' i ps.length).filter P) := by
  induction ps with
  | nil => intro i; rfl
  | cons p ps ih =>
    intro i
    rw [List.length_cons, List.range'_succ, List.filter_cons]
    split
    · exact .inr ⟨_, rfl, ih (i + 1)⟩
    · exact .inl (ih (i + 1))
theorem ext_range (ps : List Plt) (i : Nat) : Ext ps i (List.range' i ps.length) := by
  have := ext_filter (fun _ => true) ps i
  rwa [List.filter_eq_self.2 (fun _ _ => rfl)] at this
theorem ext_bd {ps : List Plt} : ∀ {i : Nat} {l : List Nat}, Ext ps i l → (∀ k ∈ l, i ≤ k ∧ k < i + ps.length) ∧ l.length ≤ ps.length := by
  induction ps with
  | nil => intro i l h; obtain rfl : l = [] := h; simp
  | cons p ps ih =>
    intro i l h
    rcases h with h | ⟨t, rfl, h⟩
    · obtain ⟨h1, h2⟩ := ih h
      exact ⟨fun k hk => ⟨by have := h1 k hk; omega, by have := h1 k hk; simp; omega⟩, by simp; omega⟩
    · obtain ⟨h1, h2⟩ := ih h
      refine ⟨fun k hk => ?_, by simp; omega⟩
      rcases List.mem_cons.1 hk with rfl | hk
      · exact ⟨Nat.le_refl _, by simp⟩
      · exact ⟨by have := h1 k hk; omega, by have := h1 k hk; simp; omega⟩
/-- Neighbours ascend. -/
theorem ext_asc {ps : List Plt} : ∀ {i : Nat} {l : List Nat}, Ext ps i l → ∀ (j a b : Nat), l[j]? = some a → l[j + 1]? = some b → a < b := by
  induction ps with
  | nil => intro i l h j a b ha; obtain rfl : l = [] := h; simp at ha
  | cons p ps ih =>
    intro i l h j a b ha hb
    rcases h with h | ⟨t, rfl, h⟩
    · exact ih h j a b ha hb
    · cases j with
      | zero =>
        obtain rfl : i = a := by simpa using ha
        have hb' : t[0]? = some b := by simpa using hb
        have := (ext_bd h).1 b (List.mem_of_getElem? hb')
        omega
      | succ j =>
        exact ih h j a b (by simpa using ha) (by simpa using hb)
/-- All fields give as much as some. -/
def Sur.le (a b : Sur) : Prop := a.r ≤ b.r ∧ a.s ≤ b.s ∧ a.h ≤ b.h
theorem Sur.le.add {a b : Sur} (h : a.le b) (p : Plt) : (a.add p).le (b.add p) := by
  obtain ⟨h1, h2, h3⟩ := h
  unfold Sur.add
  split
  · exact ⟨by simp; omega, h2, h3⟩
  · split
    · exact ⟨h1, by simp; omega, h3⟩
    · exact ⟨h1, h2, by simp; omega⟩
theorem Sur.le.more {a b : Sur} (h : a.le b) {p : Plt} (hp : 0 ≤ p.size * p.ylo) : a.le (b.add p) := by
  obtain ⟨h1, h2, h3⟩ := h
  unfold Sur.add
  split
  · exact ⟨by simp; omega, h2, h3⟩
  · split
    · exact ⟨h1, by simp; omega, h3⟩
    · exact ⟨h1, h2, by simp; omega⟩
theorem Sur.le.enough {a b : Sur} {n : Ned} (h : a.le b) (he : a.enough n = true) : b.enough n = true := by
  obtain ⟨h1, h2, h3⟩ := h
  simp [Sur.enough] at he ⊢
  omega
theorem ext_all (PS ps : List Plt) (hp : ∀ p ∈ PS, 0 ≤ p.size * p.ylo) : ∀ (i : Nat) (ch ch' t : List Nat), PS.drop i = ps → Ext ps i t → (sureOf PS ch).le (sureOf PS ch') → (sureOf PS (ch ++ t)).le (sureOf PS (ch' ++ List.range' i ps.length)) := by
  induction ps with
  | nil => intro i ch ch' t _ ht h; obtain rfl : t = [] := ht; simpa using h
  | cons p ps ih =>
    intro i ch ch' t hd ht h
    obtain ⟨hpe, hd'⟩ := pltAt_drop hd
    have hmem : p ∈ PS := by
      have : p ∈ PS.drop i := by rw [hd]; simp
      exact List.mem_of_mem_drop this
    rw [List.length_cons, List.range'_succ]
    have e : ch' ++ i :: List.range' (i + 1) ps.length = (ch' ++ [i]) ++ List.range' (i + 1) ps.length := by simp
    rw [e]
    rcases ht with ht | ⟨t, rfl, ht⟩
    · exact ih (i + 1) ch (ch' ++ [i]) t hd' ht (by rw [sureOf_snoc, hpe]; exact h.more (hp p hmem))
    · have e2 : ch ++ i :: t = (ch ++ [i]) ++ t := by simp
      rw [e2]
      exact ih (i + 1) (ch ++ [i]) (ch' ++ [i]) t hd' ht (by rw [sureOf_snoc, sureOf_snoc]; exact h.add _)
/-- There is a choice just if all fields together are enough. -/
theorem choose_found {PS : List Plt} {n : Ned} (hp : ∀ p ∈ PS, 0 ≤ p.size * p.ylo) : (chooseM PS n).found = (sureOf PS (List.range' 0 PS.length)).enough n := by
  cases he : (sureOf PS (List.range' 0 PS.length)).enough n with
  | true => exact (choose_enough (ext_range PS 0) he).1
  | false =>
    rw [Bool.eq_false_iff]
    intro hf
    obtain ⟨h1, _, h3⟩ := choose_sound PS n hf
    have := (ext_all PS PS hp 0 [] [] _ rfl h1 ⟨Int.le_refl _, Int.le_refl _, Int.le_refl _⟩).enough (n := n) (by simpa using h3)
    rw [List.nil_append, he] at this
    cases this
theorem enough_less {c : Sur} {n m : Ned} (h : c.enough n = true) (h1 : m.reed ≤ n.reed) (h2 : m.straw ≤ n.straw) (h3 : m.heather ≤ n.heather) : c.enough m = true := by
  simp [Sur.enough] at h ⊢
  omega
/-- With lesser needs none costs more. -/
theorem choose_less {PS : List Plt} {n m : Ned} (h : (chooseM PS n).found = true) (h1 : m.reed ≤ n.reed) (h2 : m.straw ≤ n.straw) (h3 : m.heather ≤ n.heather) : (chooseM PS m).found = true ∧ (chooseM PS m).least ≤ (chooseM PS n).least := by
  obtain ⟨k1, k2, k3⟩ := choose_sound PS n h
  have := choose_enough k1 (enough_less k3 h1 h2 h3)
  exact ⟨this.1, by rw [k2]; exact this.2⟩
/-- Where nothing is found, nothing is said. -/
def Bst.blank (b : Bst) : Prop := b.found = false → b.best = [] ∧ b.least = 0
theorem visit_blank {n : Ned} {b : Bst} {ch : List Nat} {cost : Int} {c : Sur} (h : b.blank) : (b.visit n ch cost c).blank := by
  rcases visit_cases n b ch cost c with e | ⟨e, _⟩
  · rw [e]; exact h
  · rw [e]; exact fun h => by cases h
theorem loop_blank (n : Ned) (ps : List Plt) : ∀ (i : Nat) (ch : List Nat) (cost : Int) (c : Sur) (b : Bst), b.blank → (loopL n ps i ch cost c b).blank := by
  induction ps with
  | nil => intro i ch cost c b h; exact h
  | cons p ps ih => intro i ch cost c b h; exact ih _ _ _ _ _ (ih _ _ _ _ _ (visit_blank h))
theorem choose_blank (PS : List Plt) (n : Ned) : (chooseM PS n).blank := loop_blank _ _ _ _ _ _ _ (visit_blank fun _ => ⟨rfl, rfl⟩)
end
end Go.Proofs.Ytghepojnimlafaa
namespace Go.Proofs.Ytghepojnimlafaa
section
open Go.RowKit

def Blk (W : World) (B : Nat) (cs : Array Value) (t : TypeId) : Prop := W.heap[B]? = some (.cells cs t (0, 0))
theorem Blk.lt {W : World} {B : Nat} {cs : Array Value} {t : TypeId} (h : Blk W B cs t) : B < W.heap.size := (Array.getElem?_eq_some_iff.1 h).1
theorem Blk.cell {W : World} {B : Nat} {cs : Array Value} {t : TypeId} (h : Blk W B cs t) (i : Nat) : W.cell? ⟨B, i, none⟩ = cs[i]? := by simp [World.cell?, show W.heap[B]? = _ from h]
theorem Blk.frozen {W : World} {B : Nat} {cs : Array Value} {t : TypeId} (h : Blk W B cs t) (i : Nat) : W.frozen? ⟨B, i, none⟩ = false := by simp [World.frozen?, show W.heap[B]? = _ from h]
theorem Blk.new (W : World) (t : TypeId) (cs : Array Value) : Blk (W.alloc (.cells cs t)) W.heap.size cs t := World.alloc_heap_new W _
theorem Blk.kept {W W' : World} {row : Option Nat} {B : Nat} {cs : Array Value} {t : TypeId} (h : Blk W B cs t) (hg : W.grownBy W' row) (hne : some B ≠ row) : Blk W' B cs t := (hg.block B h.lt hne).trans h
theorem Blk.alloc {W : World} {B : Nat} {cs : Array Value} {t : TypeId} (h : Blk W B cs t) (o : Obj) : Blk (W.alloc o) B cs t := h.kept (World.grownBy_alloc W o none) (by simp)
theorem Blk.below {W W' : World} {B n : Nat} {cs : Array Value} {t : TypeId} (h : Blk W B cs t) (hb : Below n W W') (hn : B < n) : Blk W' B cs t := (hb.block B hn).trans h
theorem Blk.belowS {W W' : World} {B : Nat} {cs : Array Value} {t : TypeId} (h : Blk W B cs t) (hb : Below W.heap.size W W') : Blk W' B cs t := h.below hb h.lt
theorem Blk.set {W : World} {B : Nat} {cs : Array Value} {t : TypeId} (h : Blk W B cs t) (i : Nat) (v : Value) : Blk (W.setCell ⟨B, i, none⟩ v) B (cs.setIfInBounds i v) t := by
  obtain ⟨hlt, hk⟩ := Array.getElem?_eq_some_iff.1 h
  show (W.heap.modify B _)[B]? = _
  rw [Array.getElem?_eq_getElem (by rw [Array.size_modify]; exact hlt), Array.getElem_modify_self, hk]
  rfl
theorem Blk.other {W : World} {B B' i : Nat} {cs : Array Value} {t : TypeId} (h : Blk W B cs t) (hne : B ≠ B') (v : Value) : Blk (W.setCell ⟨B', i, none⟩ v) B cs t := (Below.heap_setCell W ⟨B', i, none⟩ v B hne).trans h
theorem Blk.putObj {W : World} {B D : Nat} {cs : Array Value} {t : TypeId} {o : Obj} (h : Blk W B cs t) (o' : Obj) (hK : W.heap[D]? = some o) (ho : o.isCells = false) : Blk (W.putObj D o') B cs t :=
  (World.putObj_heap_other (fun e => by rw [← e, show W.heap[B]? = _ from h] at hK; cases hK; cases ho)).trans h
theorem Blk.drew {W : World} {B : Nat} {cs : Array Value} {t : TypeId} (h : Blk W B cs t) : Blk W.drew B cs t := h.below (Below.refl _ _).drew h.lt
theorem take_all_succ {α : Type} (l : List α) (f : α → Bool) (j : Nat) (q : α) (h : l[j]? = some q) : (l.take (j + 1)).all f = ((l.take j).all f && f q) := by
  rw [List.take_add_one, h]
  simp

theorem slice_inj {a : Option Addr} {n c : Nat} {a' : Option Addr} {n' c' : Nat} (h : Value.slice a n c = .slice a' n' c') : a = a' ∧ n = n' ∧ c = c' := by injection h with h1 h2 h3; exact ⟨h1, h2, h3⟩
theorem findIdx_none_take {α : Type} (l : List α) (f : α → Bool) (h : ∀ x ∈ l, f x = false) : l.findIdx? f = none := by
  rw [List.findIdx?_eq_none_iff]
  exact h
theorem findIdx_at {α : Type} (l : List α) (f : α → Bool) (j : Nat) (x : α) (hj : l[j]? = some x) (hx : f x = true) (h : ∀ y ∈ l.take j, f y = false) : l.findIdx? f = some j := by
  obtain ⟨hlt, hx'⟩ := List.getElem?_eq_some_iff.1 hj
  rw [List.findIdx?_eq_some_iff_getElem]
  refine ⟨hlt, by rw [hx']; exact hx, fun i hi => ?_⟩
  have := h (l[i]'(by omega)) (by rw [List.mem_take_iff_getElem]; exact ⟨i, by omega, rfl⟩)
  simp [this]

def isFromB (n lo hi : Int) : Bool := decide (lo ≤ n) && decide (n ≤ hi)
theorem isFromB_iff {n lo hi : Int} : isFromB n lo hi = true ↔ lo ≤ n ∧ n ≤ hi := by simp [isFromB]
def isSpanB (a b lo hi : Int) : Bool := decide (lo ≤ a) && (decide (a ≤ b) && decide (b ≤ hi))
theorem isSpanB_iff {a b lo hi : Int} : isSpanB a b lo hi = true ↔ lo ≤ a ∧ a ≤ b ∧ b ≤ hi := by simp [isSpanB]

theorem isFrom_any (n lo hi : Int) (w : World) :
    Calls Try.prog 13 #[.int .i64 n, .int .i64 lo, .int .i64 hi] w fun e w' => e = .returned (.bool (isFromB n lo hi)) ∧ w = w' := by
  by_cases h : lo ≤ n
  all_goals by_cases h2 : n ≤ hi
  all_goals
    go_enter Try.func13, Try.ntmps13
    go_wp2
    all_goals go_ret
    all_goals refine ⟨?_, rfl⟩
    all_goals simp [isFromB, h, h2]
theorem isFromCrop_any (n lo hi : Int) (w : World) :
    Calls Try.prog 37 #[.int .i64 n, .int .i64 lo, .int .i64 hi] w fun e w' => e = .returned (.bool (isFromB n lo hi)) ∧ w = w' := by
  by_cases h : lo ≤ n
  all_goals by_cases h2 : n ≤ hi
  all_goals
    go_enter Try.func37, Try.ntmps37
    go_wp2
    all_goals go_ret
    all_goals refine ⟨?_, rfl⟩
    all_goals simp [isFromB, h, h2]
theorem isCrop_any (n : Int) (w : World) :
    Calls Try.prog 23 #[.int .i64 n] w fun e w' => e = .returned (.bool (isFromB n 1 3)) ∧ w = w' := by
  go_enter Try.func23, Try.ntmps23
  go_wp2_with fail
  refine (isFromCrop_any _ _ _ _).mono ?_
  rintro e w' ⟨rfl, rfl⟩
  go_wp2_with fail
  go_ret
  exact ⟨rfl, rfl⟩
theorem isSpan_any (a b lo hi : Int) (w : World) :
    Calls Try.prog 24 #[.agg #[.int .i64 a, .int .i64 b], .int .i64 lo, .int .i64 hi] w fun e w' => e = .returned (.bool (isSpanB a b lo hi)) ∧ Below w.heap.size w w' := by
  by_cases h : lo ≤ a
  all_goals by_cases h1 : a ≤ b
  all_goals by_cases h2 : b ≤ hi
  all_goals
    go_enter Try.func24, Try.ntmps24
    go_wp2_with fail
    all_goals go_ret
    all_goals refine ⟨?_, (Below.refl _ _).alloc (Nat.le_refl _) _⟩
    all_goals simp [isSpanB, h, h1, h2]

/-! Names. -/
def letterB (c : Int) : Bool := decide (97 ≤ c) && decide (c ≤ 122)
def digitB (c : Int) : Bool := decide (48 ≤ c) && decide (c ≤ 57)
/-- A letter that may not stand at place i of a name. -/
def badB (i : Nat) (c : Int) : Bool := !letterB c && (decide (i = 0) || (!digitB c && !(c == 45)))
def byteAt (s : ByteArray) (i : Nat) : Int := ((s.data[i]?.getD 0).toNat : Int)
def nameB (s : ByteArray) : Bool := decide (1 ≤ s.size) && decide (s.size ≤ 16) && (List.range s.size).all fun i => !badB i (byteAt s i)

theorem letter_any (c : Int) (w : World) : Calls Try.prog 34 #[.int .u8 c] w fun e w' => e = .returned (.bool (letterB c)) ∧ w = w' := by
  by_cases h : 97 ≤ c
  all_goals by_cases h2 : c ≤ 122
  all_goals
    go_enter Try.func34, Try.ntmps34
    go_wp2
    all_goals go_ret
    all_goals refine ⟨?_, rfl⟩
    all_goals simp [letterB, h, h2]
theorem digit_any (c : Int) (w : World) : Calls Try.prog 35 #[.int .u8 c] w fun e w' => e = .returned (.bool (digitB c)) ∧ w = w' := by
  by_cases h : 48 ≤ c
  all_goals by_cases h2 : c ≤ 57
  all_goals
    go_enter Try.func35, Try.ntmps35
    go_wp2
    all_goals go_ret
    all_goals refine ⟨?_, rfl⟩
    all_goals simp [digitB, h, h2]

set_option maxRecDepth 100000 in
set_option maxHeartbeats 1000000 in
theorem isName_any (s : ByteArray) (w : World) (hs : s.size ≤ maxLen) : Calls Try.prog 20 #[.string s] w fun e w' => e = .returned (.bool (nameB s)) ∧ w = w' := by
  unfold maxLen at hs
  by_cases h1 : s.size < 1
  · have hv : nameB s = false := by simp [nameB]; omega
    have HV := Lib.hid hv
    clear hv
    go_enter Try.func20, Try.ntmps20
    go_wp2_with fail
    go_ret
    exact ⟨by rw [HV.out]; rfl, rfl⟩
  · by_cases h2 : 16 < s.size
    · have hv : nameB s = false := by simp [nameB]; omega
      have HV := Lib.hid hv
      clear hv
      go_enter Try.func20, Try.ntmps20
      go_wp2_with fail
      go_ret
      exact ⟨by rw [HV.out]; rfl, rfl⟩
    · go_enter Try.func20, Try.ntmps20
      go_wp2_with fail
      go_loop [3, 4, 15] (fun _ _ i => ∃ k : Nat, k ≤ s.size ∧ i = .int .i64 k ∧ ∀ j, j < k → badB j (byteAt s j) = false) (fun _ _ i => s.size - (intOf i).toNat)
      case atStart => exact ⟨0, Nat.zero_le _, rfl, fun j h => by omega⟩
      case round =>
        obtain ⟨k, hk, rfl, hall⟩ := hrel
        by_cases hlt : k < s.size
        · have hbk : byteAt s k = (s[k].toNat : Int) := by
            unfold byteAt
            rw [Array.getElem?_eq_getElem (by simpa using hlt)]
            rfl
          have hc0 : (0 : Int) ≤ (s[k].toNat : Int) := Int.natCast_nonneg _
          have HA := Lib.hid hall
          have HB := Lib.hid hbk
          clear hall hbk
          by_cases hl : letterB (s[k].toNat : Int) = true
          · have hbad : badB k (byteAt s k) = false := by rw [HB.out]; simp [badB, hl]
            have HBAD := Lib.hid hbad
            clear hbad
            go_wp2_with (go_at_call 34; refine (letter_any _ _).mono ?_; rintro e w' ⟨rfl, rfl⟩)
            refine ⟨⟨k + 1, by omega, by simp, fun j hj => ?_⟩, by simp [intOf]; omega⟩
            by_cases hjk : j = k
            · subst hjk; exact HBAD.out
            · exact HA.out j (by omega)
          · have hl' : letterB (s[k].toNat : Int) = false := by simpa using hl
            clear hl
            by_cases h0 : k = 0
            · have hbad : nameB s = false := by
                unfold nameB
                rw [Bool.and_eq_false_iff]
                right
                rw [Bool.eq_false_iff]
                intro h
                have := List.all_eq_true.1 h k (by simpa using hlt)
                rw [HB.out] at this
                rw [badB, hl', decide_eq_true h0] at this
                simp at this
              have HBAD := Lib.hid hbad
              clear hbad
              have hk0 : ((k : Int) == 0) = true := by simp [h0]
              clear h0
              go_wp2_with (go_at_call 34; refine (letter_any _ _).mono ?_; rintro e w' ⟨rfl, rfl⟩)
              go_ret
              exact ⟨by rw [HBAD.out]; rfl, rfl⟩
            · have hk0 : ((k : Int) == 0) = false := by simp [h0]
              have H0 := Lib.hid h0
              clear h0
              by_cases hd : digitB (s[k].toNat : Int) = true
              · have hbad : badB k (byteAt s k) = false := by rw [HB.out]; simp [badB, hd, H0.out]
                have HBAD := Lib.hid hbad
                clear hbad
                go_wp2_with (first | (go_at_call 34; refine (letter_any _ _).mono ?_; rintro e w' ⟨rfl, rfl⟩) | (go_at_call 35; refine (digit_any _ _).mono ?_; rintro e w' ⟨rfl, rfl⟩))
                refine ⟨⟨k + 1, by omega, by simp, fun j hj => ?_⟩, by simp [intOf]; omega⟩
                by_cases hjk : j = k
                · subst hjk; exact HBAD.out
                · exact HA.out j (by omega)
              · have hd' : digitB (s[k].toNat : Int) = false := by simpa using hd
                clear hd
                by_cases h45 : (s[k].toNat : Int) = 45
                · have hbad : badB k (byteAt s k) = false := by rw [HB.out, h45]; simp [badB, H0.out]
                  have hq : ((s[k].toNat : Int) == 45) = true := by simpa using h45
                  have hq' : ((s[k].toNat : Int) != 45) = false := by simpa using h45
                  have HBAD := Lib.hid hbad
                  clear hbad h45
                  go_wp2_with (first | (go_at_call 34; refine (letter_any _ _).mono ?_; rintro e w' ⟨rfl, rfl⟩) | (go_at_call 35; refine (digit_any _ _).mono ?_; rintro e w' ⟨rfl, rfl⟩))
                  refine ⟨⟨k + 1, by omega, by simp, fun j hj => ?_⟩, by simp [intOf]; omega⟩
                  by_cases hjk : j = k
                  · subst hjk; exact HBAD.out
                  · exact HA.out j (by omega)
                · have hbad : nameB s = false := by
                    unfold nameB
                    rw [Bool.and_eq_false_iff]
                    right
                    rw [Bool.eq_false_iff]
                    intro h
                    have := List.all_eq_true.1 h k (by simpa using hlt)
                    rw [HB.out] at this
                    simp [badB, hl', hd', h45] at this
                  have hq : ((s[k].toNat : Int) == 45) = false := by simpa using h45
                  have hq' : ((s[k].toNat : Int) != 45) = true := by simpa using h45
                  have HBAD := Lib.hid hbad
                  clear hbad h45
                  go_wp2_with (first | (go_at_call 34; refine (letter_any _ _).mono ?_; rintro e w' ⟨rfl, rfl⟩) | (go_at_call 35; refine (digit_any _ _).mono ?_; rintro e w' ⟨rfl, rfl⟩))
                  go_ret
                  exact ⟨by rw [HBAD.out]; rfl, rfl⟩
        · obtain rfl : k = s.size := by omega
          have hv : nameB s = true := by
            unfold nameB
            rw [Bool.and_eq_true, Bool.and_eq_true]
            refine ⟨⟨decide_eq_true (by omega), decide_eq_true (by omega)⟩, List.all_eq_true.2 fun j hj => ?_⟩
            rw [hall j (by simpa using hj)]
            rfl
          have HV := Lib.hid hv
          clear hv hall
          go_wp2
          go_ret
          exact ⟨by rw [HV.out]; rfl, rfl⟩

/-! Fields in memory. -/
/-- The cells of a field at an address. -/
def PltAt (w : World) (b o : Nat) (f : Plt) : Prop :=
  w.cell? ⟨b, o, none⟩ = some (.string f.name) ∧ w.cell? ⟨b, o + 1, none⟩ = some (.int .i64 f.crop) ∧ w.cell? ⟨b, o + 2, none⟩ = some (.int .i64 f.size) ∧ w.cell? ⟨b, o + 3, none⟩ = some (.int .i64 f.ylo) ∧
    w.cell? ⟨b, o + 4, none⟩ = some (.int .i64 f.yhi) ∧ w.cell? ⟨b, o + 5, none⟩ = some (.int .i64 f.rest) ∧ w.cell? ⟨b, o + 6, none⟩ = some (.int .i64 f.wlo) ∧ w.cell? ⟨b, o + 7, none⟩ = some (.int .i64 f.whi) ∧ w.cell? ⟨b, o + 8, none⟩ = some (.int .i64 f.cost)
theorem PltAt.below {w w' : World} {B b o : Nat} {f : Plt} (h : PltAt w b o f) (hb : Below B w w') (hlt : b < B) : PltAt w' b o f := by
  have c : ∀ i, w'.cell? ⟨b, i, none⟩ = w.cell? ⟨b, i, none⟩ := fun i => hb.cell (p := ⟨b, i, none⟩) hlt
  obtain ⟨h0, h1, h2, h3, h4, h5, h6, h7, h8⟩ := h
  exact ⟨(c _).trans h0, (c _).trans h1, (c _).trans h2, (c _).trans h3, (c _).trans h4, (c _).trans h5, (c _).trans h6, (c _).trans h7, (c _).trans h8⟩
/-- A slice value that holds fields. -/
def IsPlts (w : World) (v : Value) (l : List Plt) : Prop :=
  (v = .slice none 0 0 ∧ l = []) ∨ ∃ b off cap, v = .slice (some ⟨b, off, none⟩) l.length cap ∧ b < w.heap.size ∧ l.length ≤ cap ∧ cap ≤ 9223372036854775807 ∧ ∀ j f, l[j]? = some f → PltAt w b (off + j * 9) f ∧ f.name.size ≤ maxLen
theorem IsPlts.below {w w' : World} {v : Value} {l : List Plt} (h : IsPlts w v l) (hb : Below w.heap.size w w') : IsPlts w' v l := by
  rcases h with h | ⟨b, off, cap, e, hl, hc, hc', hp⟩
  · exact .inl h
  · exact .inr ⟨b, off, cap, e, Nat.lt_of_lt_of_le hl hb.size, hc, hc', fun j f hj => ⟨(hp j f hj).1.below hb hl, (hp j f hj).2⟩⟩
theorem IsPlts.pre {w : World} {b off cap : Nat} {l : List Plt} {i : Nat} (hi : i ≤ l.length) (h2 : b < w.heap.size) (h3 : l.length ≤ cap) (h4 : cap ≤ 9223372036854775807) (h5 : ∀ j f, l[j]? = some f → PltAt w b (off + j * 9) f ∧ f.name.size ≤ maxLen) :
    IsPlts w (.slice (some ⟨b, off, none⟩) i cap) (l.take i) := by
  refine .inr ⟨b, off, cap, ?_, h2, ?_, h4, ?_⟩
  · rw [List.length_take, Nat.min_eq_left hi]
  · rw [List.length_take]; omega
  · intro j f hj
    rw [List.getElem?_take] at hj
    split at hj
    · exact h5 j f hj
    · cases hj
abbrev pltV (f : Plt) : Value := .agg #[.string f.name, .int .i64 f.crop, .int .i64 f.size, .int .i64 f.ylo, .int .i64 f.yhi, .int .i64 f.rest, .int .i64 f.wlo, .int .i64 f.whi, .int .i64 f.cost]
abbrev pltC (f : Plt) : Array Value := #[.string f.name, .int .i64 f.crop, .int .i64 f.size, .int .i64 f.ylo, .int .i64 f.yhi, .int .i64 f.rest, .int .i64 f.wlo, .int .i64 f.whi, .int .i64 f.cost]

/-- Two strings are one. -/
def strB (a b : ByteArray) : Bool := a.toList == b.toList

theorem plotName_any (f m : Plt) (B : Nat) (w : World) (hm : Blk w B (pltC m) 37) :
    Calls Try.prog 22 #[.agg #[.string f.name, .int .i64 f.crop, .int .i64 f.size, .int .i64 f.ylo, .int .i64 f.yhi, .int .i64 f.rest, .int .i64 f.wlo, .int .i64 f.whi, .int .i64 f.cost], .pointer (some ⟨B, 0, none⟩)] w
      fun e w' => e = .returned (.bool (strB f.name m.name)) ∧ Below w.heap.size w w' := by
  have hlt : B < w.heap.size := hm.lt
  have c0 : w.cell? ⟨B, 0, none⟩ = some (.string m.name) := hm.cell 0
  go_enter Try.func22, Try.ntmps22
  go_wp2
  go_ret
  exact ⟨rfl, (Below.refl _ _).alloc (Nat.le_refl _) _⟩

/-- The first field of a name, or -1. -/
def idxP (l : List Plt) (m : Plt) : Int := match l.findIdx? (fun f => strB f.name m.name) with | some k => k | none => -1

set_option maxRecDepth 100000 in
set_option maxHeartbeats 1000000 in
theorem indexP_any (sa : Option Addr) (slen cap B : Nat) (l : List Plt) (m : Plt) (w : World) (hs : IsPlts w (.slice sa slen cap) l) (hl : l.length ≤ 100000) (hm : Blk w B (pltC m) 37) :
    Calls Try.prog 36 #[.slice sa slen cap, .func (.func 22) #[] #[.pointer (some ⟨B, 0, none⟩)]] w fun e w' => e = .returned (.int .i64 (idxP l m)) ∧ Below w.heap.size w w' := by
  have hB : B < w.heap.size := hm.lt
  rcases hs with ⟨h1, rfl⟩ | ⟨b, off, c, h1, h2, h3, h4, h5⟩
  · obtain ⟨rfl, rfl, rfl⟩ := slice_inj h1
    clear h1
    go_enter Try.func36, Try.ntmps36
    go_wp2_with fail
    go_loopw [8, 5] (fun i _ wr => i = .int .i64 0 ∧ Below w.heap.size w wr) (fun _ _ _ => 0)
    case atStart => exact ⟨rfl, Below.refl _ _⟩
    case round =>
      obtain ⟨rfl, hb⟩ := hrel
      go_wp2_with fail
      go_ret
      exact ⟨rfl, hb⟩
  · obtain ⟨rfl, rfl, rfl⟩ := slice_inj h1
    clear h1
    have HM := Lib.hid hm
    clear hm
    go_enter Try.func36, Try.ntmps36
    go_wp2_with fail
    go_loopw [8, 5] (fun i _ wr => ∃ j : Nat, j ≤ l.length ∧ i = .int .i64 j ∧ (∀ f ∈ l.take j, strB f.name m.name = false) ∧ Below w.heap.size w wr) (fun i _ _ => l.length - (intOf i).toNat)
    case atStart => exact ⟨0, Nat.zero_le _, rfl, by simp, Below.refl _ _⟩
    case round =>
      obtain ⟨j, hj, rfl, hno, g2⟩ := hrel
      by_cases hlj : j < l.length
      · have hq : l[j]? = some l[j] := List.getElem?_eq_getElem hlj
        obtain ⟨c0, c1, c2, c3, c4, c5, c6, c7, c8⟩ := (h5 j _ hq).1.below g2 h2
        have htk : l.take (j + 1) = l.take j ++ [l[j]] := by rw [List.take_add_one, hq]; rfl
        generalize l[j] = q at *
        have HQ := Lib.hid hq
        have HT := Lib.hid htk
        have HN := Lib.hid hno
        have H5 := Lib.hid h5
        clear hq htk hno h5
        have hj0 : (0 : Int) ≤ (j : Int) := Int.natCast_nonneg _
        have hj1 : (j : Int) < (l.length : Int) := by omega
        go_wp2_with fail
        refine (plotName_any q m B _ (HM.out.belowS g2)).mono ?_
        rintro e w1 ⟨rfl, hb1⟩
        have hb2 := g2.trans (hb1.mono g2.size)
        cases hst : strB q.name m.name with
        | true =>
          have hv : idxP l m = j := by rw [idxP, findIdx_at l _ j q HQ.out hst HN.out]
          have HV := Lib.hid hv
          clear hv
          go_wp2_with fail
          go_ret
          exact ⟨by rw [HV.out]; rfl, hb2⟩
        | false =>
          have HS := Lib.hid hst
          go_wp2_with fail
          refine ⟨⟨j + 1, by omega, by simp, ?_, hb2⟩, by simp [intOf]; omega⟩
          intro x hx
          rw [HT.out] at hx
          rcases List.mem_append.1 hx with hx | hx
          · exact HN.out x hx
          · obtain rfl := List.mem_singleton.1 hx
            exact HS.out
      · obtain rfl : j = l.length := by omega
        rw [List.take_length] at hno
        have hv : idxP l m = -1 := by rw [idxP, findIdx_none_take l _ hno]
        have HV := Lib.hid hv
        clear hv hno
        go_wp2_with fail
        go_ret
        exact ⟨by rw [HV.out]; rfl, g2⟩

theorem containsP_any (sa : Option Addr) (slen cap B : Nat) (l : List Plt) (m : Plt) (w : World) (hs : IsPlts w (.slice sa slen cap) l) (hl : l.length ≤ 100000) (hm : Blk w B (pltC m) 37) :
    Calls Try.prog 21 #[.slice sa slen cap, .func (.func 22) #[] #[.pointer (some ⟨B, 0, none⟩)]] w fun e w' => e = .returned (.bool (decide (0 ≤ idxP l m))) ∧ Below w.heap.size w w' := by
  go_enter Try.func21, Try.ntmps21
  go_wp2_with fail
  refine (indexP_any sa slen cap B l m _ hs hl hm).mono ?_
  rintro e w1 ⟨rfl, hb1⟩
  go_wp2
  go_ret
  exact ⟨rfl, hb1⟩
end
end Go.Proofs.Ytghepojnimlafaa
namespace Go.Proofs.Ytghepojnimlafaa
section
open Go.RowKit

def plotE (p : Plt) (ahead : List Plt) : Int :=
  if nameB p.name = false then 5 else if decide (0 ≤ idxP ahead p) = true then 6 else
    if isFromB p.crop 1 3 = false then 1 else if isFromB p.size 1 100 = false then 1 else if isSpanB p.ylo p.yhi 0 1000 = false then 1 else if isFromB p.rest 1 100 = false then 1 else if isSpanB p.wlo p.whi 0 1000 = false then 1 else if isFromB p.cost 0 1000000 = false then 1 else 0
theorem plotE_ok {p : Plt} {l : List Plt} (h : plotE p l = 0) : isFromB p.crop 1 3 = true ∧ isFromB p.size 1 100 = true ∧ isSpanB p.ylo p.yhi 0 1000 = true ∧ isFromB p.rest 1 100 = true ∧ isSpanB p.wlo p.whi 0 1000 = true ∧ isFromB p.cost 0 1000000 = true := by
  unfold plotE at h
  (repeat' split at h) <;> first | omega | simp_all

theorem plt_cells {W : World} {B : Nat} {o : Plt} {t : TypeId} (h : Blk W B (pltC o) t) : PltAt W B 0 o := ⟨h.cell 0, h.cell 1, h.cell 2, h.cell 3, h.cell 4, h.cell 5, h.cell 6, h.cell 7, h.cell 8⟩

set_option maxRecDepth 100000 in
set_option maxHeartbeats 4000000 in
theorem checkPlot_any (p : Plt) (sa : Option Addr) (la ca : Nat) (l : List Plt) (w : World) (hname : p.name.size ≤ maxLen) (hs : IsPlts w (.slice sa la ca) l) (hl : l.length ≤ 100000) :
    Calls Try.prog 12 #[.agg #[.string p.name, .int .i64 p.crop, .int .i64 p.size, .int .i64 p.ylo, .int .i64 p.yhi, .int .i64 p.rest, .int .i64 p.wlo, .int .i64 p.whi, .int .i64 p.cost], .slice sa la ca] w
      fun e w' => e = .returned (.int .i64 (plotE p l)) ∧ Below w.heap.size w w' := by
  have hB : Below w.heap.size w (w.alloc (.cells (pltC p) 37)) := (Below.refl _ _).alloc (Nat.le_refl _) _
  have hbk : Blk (w.alloc (.cells (pltC p) 37)) w.heap.size (pltC p) 37 := Blk.new _ _ _
  have HS := Lib.hid hs
  clear hs
  go_enter Try.func12, Try.ntmps12
  go_wp2_with fail
  refine (isName_any p.name _ hname).mono ?_
  rintro e w1 ⟨rfl, rfl⟩
  cases hn : nameB p.name with
  | false =>
    have hv : plotE p l = 5 := by simp [plotE, hn]
    have HV := Lib.hid hv
    clear hv
    go_wp2_with fail
    go_ret
    exact ⟨by rw [HV.out]; rfl, hB⟩
  | true =>
  have HN := Lib.hid hn
  go_wp2_with fail
  refine (containsP_any sa la ca w.heap.size l p _ (HS.out.below hB) hl hbk).mono ?_
  rintro e w1 ⟨rfl, hb1⟩
  have hb2 := hB.trans (hb1.mono (by simp))
  have hbk1 := hbk.belowS hb1
  obtain ⟨c0, c1, c2, c3, c4, c5, c6, c7, c8⟩ := plt_cells hbk1
  simp only [Nat.zero_add] at c1 c2 c3 c4 c5 c6 c7 c8
  have hltB := hbk1.lt
  have HBK := Lib.hid hbk1
  clear hb1 hbk hbk1
  generalize hidx : decide (0 ≤ idxP l p) = x
  have HX := Lib.hid hidx
  clear hidx hn
  cases x with
  | true =>
    have hv : plotE p l = 6 := by rw [plotE, if_neg (by rw [HN.out]; simp), if_pos HX.out]
    have HV := Lib.hid hv
    clear hv
    go_wp2_with fail
    go_ret
    exact ⟨by rw [HV.out]; rfl, hb2⟩
  | false =>
  go_wp2_with fail
  refine (isCrop_any p.crop _).mono ?_
  rintro e w3 ⟨rfl, rfl⟩
  cases h3 : isFromB p.crop 1 3 with
  | false =>
    have hv : plotE p l = 1 := by rw [plotE, if_neg (by rw [HN.out]; simp), if_neg (by rw [HX.out]; simp), if_pos h3]
    have HV := Lib.hid hv
    clear hv
    go_wp2_with fail
    go_ret
    exact ⟨by rw [HV.out]; rfl, hb2⟩
  | true =>
  have HCR := Lib.hid h3
  clear h3
  go_wp2_with fail
  refine (isFrom_any p.size 1 100 _).mono ?_
  rintro e w4 ⟨rfl, rfl⟩
  cases h4 : isFromB p.size 1 100 with
  | false =>
    have hv : plotE p l = 1 := by rw [plotE, if_neg (by rw [HN.out]; simp), if_neg (by rw [HX.out]; simp), if_neg (by rw [HCR.out]; simp), if_pos h4]
    have HV := Lib.hid hv
    clear hv
    go_wp2_with fail
    go_ret
    exact ⟨by rw [HV.out]; rfl, hb2⟩
  | true =>
  have HSZ := Lib.hid h4
  clear h4
  go_wp2_with fail
  refine (isSpan_any p.ylo p.yhi 0 1000 _).mono ?_
  rintro e w5 ⟨rfl, hb5'⟩
  have hb5 := hb2.trans (hb5'.mono (by have := hb2.size; omega))
  have HB5 := Lib.hid (HBK.out.belowS hb5')
  clear c0 c1 c2 c3 c4 c5 c6 c7 c8 hb5' hltB
  obtain ⟨c0, c1, c2, c3, c4, c5, c6, c7, c8⟩ := plt_cells HB5.out
  simp only [Nat.zero_add] at c1 c2 c3 c4 c5 c6 c7 c8
  have hltB := HB5.out.lt
  cases h5 : isSpanB p.ylo p.yhi 0 1000 with
  | false =>
    have hv : plotE p l = 1 := by rw [plotE, if_neg (by rw [HN.out]; simp), if_neg (by rw [HX.out]; simp), if_neg (by rw [HCR.out]; simp), if_neg (by rw [HSZ.out]; simp), if_pos h5]
    have HV := Lib.hid hv
    clear hv
    go_wp2_with fail
    go_ret
    exact ⟨by rw [HV.out]; rfl, hb5⟩
  | true =>
  have HYI := Lib.hid h5
  clear h5
  go_wp2_with fail
  refine (isFrom_any p.rest 1 100 _).mono ?_
  rintro e w6 ⟨rfl, rfl⟩
  cases h6 : isFromB p.rest 1 100 with
  | false =>
    have hv : plotE p l = 1 := by rw [plotE, if_neg (by rw [HN.out]; simp), if_neg (by rw [HX.out]; simp), if_neg (by rw [HCR.out]; simp), if_neg (by rw [HSZ.out]; simp), if_neg (by rw [HYI.out]; simp), if_pos h6]
    have HV := Lib.hid hv
    clear hv
    go_wp2_with fail
    go_ret
    exact ⟨by rw [HV.out]; rfl, hb5⟩
  | true =>
  have HRE := Lib.hid h6
  clear h6
  go_wp2_with fail
  refine (isSpan_any p.wlo p.whi 0 1000 _).mono ?_
  rintro e w7 ⟨rfl, hb7'⟩
  have hb7 := hb5.trans (hb7'.mono (by have := hb5.size; omega))
  have HB7 := Lib.hid (HB5.out.belowS hb7')
  clear c0 c1 c2 c3 c4 c5 c6 c7 c8 hb7' hltB
  obtain ⟨c0, c1, c2, c3, c4, c5, c6, c7, c8⟩ := plt_cells HB7.out
  simp only [Nat.zero_add] at c1 c2 c3 c4 c5 c6 c7 c8
  have hltB := HB7.out.lt
  cases h7 : isSpanB p.wlo p.whi 0 1000 with
  | false =>
    have hv : plotE p l = 1 := by rw [plotE, if_neg (by rw [HN.out]; simp), if_neg (by rw [HX.out]; simp), if_neg (by rw [HCR.out]; simp), if_neg (by rw [HSZ.out]; simp), if_neg (by rw [HYI.out]; simp), if_neg (by rw [HRE.out]; simp), if_pos h7]
    have HV := Lib.hid hv
    clear hv
    go_wp2_with fail
    go_ret
    exact ⟨by rw [HV.out]; rfl, hb7⟩
  | true =>
  have HWE := Lib.hid h7
  clear h7
  go_wp2_with fail
  refine (isFrom_any p.cost 0 1000000 _).mono ?_
  rintro e w8 ⟨rfl, rfl⟩
  cases h8 : isFromB p.cost 0 1000000 with
  | false =>
    have hv : plotE p l = 1 := by rw [plotE, if_neg (by rw [HN.out]; simp), if_neg (by rw [HX.out]; simp), if_neg (by rw [HCR.out]; simp), if_neg (by rw [HSZ.out]; simp), if_neg (by rw [HYI.out]; simp), if_neg (by rw [HRE.out]; simp), if_neg (by rw [HWE.out]; simp), if_pos h8]
    have HV := Lib.hid hv
    clear hv
    go_wp2_with fail
    go_ret
    exact ⟨by rw [HV.out]; rfl, hb7⟩
  | true =>
  have HCO := Lib.hid h8
  clear h8
  have hv : plotE p l = 0 := by rw [plotE, if_neg (by rw [HN.out]; simp), if_neg (by rw [HX.out]; simp), if_neg (by rw [HCR.out]; simp), if_neg (by rw [HSZ.out]; simp), if_neg (by rw [HYI.out]; simp), if_neg (by rw [HRE.out]; simp), if_neg (by rw [HWE.out]; simp), if_neg (by rw [HCO.out]; simp)]
  have HV := Lib.hid hv
  clear hv
  go_wp2_with fail
  go_ret
  exact ⟨by rw [HV.out]; rfl, hb7⟩

/-- The first of n numbers that is not 0, or 0. -/
def firstNZ (g : Nat → Int) (n : Nat) : Int := match (List.range n).find? (fun i => !(g i == 0)) with | some i => g i | none => 0
theorem firstNZ_zero {g : Nat → Int} {n : Nat} (h : ∀ i, i < n → g i = 0) : firstNZ g n = 0 := by
  unfold firstNZ
  have : (List.range n).find? (fun i => !(g i == 0)) = none := by
    rw [List.find?_eq_none]
    intro i hi
    simp [h i (by simpa using hi)]
  rw [this]
theorem firstNZ_at {g : Nat → Int} {n j : Nat} (hj : j < n) (h : ∀ i, i < j → g i = 0) (hz : g j ≠ 0) : firstNZ g n = g j := by
  unfold firstNZ
  have : (List.range n).find? (fun i => !(g i == 0)) = some j := by
    rw [List.find?_range_eq_some]
    refine ⟨by simp [hz], by simpa using hj, fun i hi => by simp [h i hi]⟩
  rw [this]
theorem firstNZ_all {g : Nat → Int} {n : Nat} (h : firstNZ g n = 0) : ∀ i, i < n → g i = 0 := by
  intro i hi
  unfold firstNZ at h
  cases hf : (List.range n).find? (fun i => !(g i == 0)) with
  | none =>
    rw [List.find?_eq_none] at hf
    simpa using hf i (by simpa using hi)
  | some k =>
    rw [hf] at h
    have := List.find?_some hf
    simp [show g k = 0 from h] at this

/-- A farm in memory. -/
structure Frm where
  pa : Option Addr
  pc : Nat
  ps : List Plt
  dry : Int
abbrev frmV (F : Frm) : Value := .agg #[.slice F.pa F.ps.length F.pc, .int .i64 F.dry]
abbrev frmC (F : Frm) : Array Value := #[.slice F.pa F.ps.length F.pc, .int .i64 F.dry]
def IsFarm (w : World) (F : Frm) : Prop := IsPlts w (.slice F.pa F.ps.length F.pc) F.ps
theorem IsFarm.below {w w' : World} {F : Frm} (h : IsFarm w F) (hb : Below w.heap.size w w') : IsFarm w' F := IsPlts.below h hb
theorem IsFarm.len {w : World} {F : Frm} (h : IsFarm w F) : F.ps.length ≤ 9223372036854775807 := by
  rcases h with ⟨_, h⟩ | ⟨_, _, _, _, _, h3, h4, _⟩
  · rw [h]; simp
  · omega
def plotsE (ps : List Plt) : Int := firstNZ (fun i => match ps[i]? with | some p => plotE p (ps.take i) | none => 0) ps.length
def checkE (F : Frm) : Int := if 12 < F.ps.length then 3 else if ¬ plotsE F.ps = 0 then plotsE F.ps else if isFromB F.dry 0 1000 = false then 1 else 0
/-- What a field is that may be. -/
def Plt.ok (p : Plt) : Prop := (1 ≤ p.crop ∧ p.crop ≤ 3) ∧ (1 ≤ p.size ∧ p.size ≤ 100) ∧ (0 ≤ p.ylo ∧ p.ylo ≤ 1000) ∧ 0 ≤ p.cost ∧ p.cost ≤ 1000000
theorem checkE_ok {F : Frm} (h : checkE F = 0) : F.ps.length ≤ 12 ∧ ∀ p ∈ F.ps, p.ok := by
  unfold checkE at h
  split at h
  · cases h
  next h1 =>
    split at h
    · next h2 => exact absurd h h2
    next h2 =>
      refine ⟨by omega, fun p hp => ?_⟩
      obtain ⟨i, hi, rfl⟩ := List.getElem_of_mem hp
      have := firstNZ_all (show firstNZ _ _ = 0 from Decidable.of_not_not h2) i hi
      rw [List.getElem?_eq_getElem hi] at this
      obtain ⟨k1, k2, k3, k4, k5, k6⟩ := plotE_ok this
      rw [isFromB_iff] at k1 k2 k6
      rw [isSpanB_iff] at k3
      exact ⟨k1, k2, ⟨k3.1, by omega⟩, k6⟩


abbrev HeldP (W : World) (B : Nat) (f : Plt) (D : Nat) (u v : Value) (w : World) : Prop := Below W.heap.size W w ∧
  ((w.cell? ⟨B, 0, none⟩ = some (.string f.name) ∧ w.cell? ⟨B, 1, none⟩ = some (.int .i64 f.crop) ∧ w.cell? ⟨B, 2, none⟩ = some (.int .i64 f.size) ∧ w.cell? ⟨B, 3, none⟩ = some (.int .i64 f.ylo) ∧ w.cell? ⟨B, 4, none⟩ = some (.int .i64 f.yhi) ∧ w.cell? ⟨B, 5, none⟩ = some (.int .i64 f.rest) ∧ w.cell? ⟨B, 6, none⟩ = some (.int .i64 f.wlo) ∧ w.cell? ⟨B, 7, none⟩ = some (.int .i64 f.whi) ∧ w.cell? ⟨B, 8, none⟩ = some (.int .i64 f.cost)) ∧
    (w.cell? ⟨D, 0, none⟩ = some u ∧ w.cell? ⟨D, 1, none⟩ = some v))
theorem HeldP.step {W w w' : World} {B D : Nat} {f : Plt} {u v : Value} (h : HeldP W B f D u v w) (hB : B < W.heap.size) (hD : D < W.heap.size) (hb : Below w.heap.size w w') : HeldP W B f D u v w' := by
  have hs := h.1.size
  have c : ∀ b i, b < W.heap.size → w'.cell? ⟨b, i, none⟩ = w.cell? ⟨b, i, none⟩ := fun b i hb' => hb.cell (p := ⟨b, i, none⟩) (Nat.lt_of_lt_of_le hb' hs)
  obtain ⟨h0, ⟨a0, a1, a2, a3, a4, a5, a6, a7, a8⟩, d0, d1⟩ := h
  exact ⟨h0.trans (hb.mono hs), ⟨(c _ _ hB).trans a0, (c _ _ hB).trans a1, (c _ _ hB).trans a2, (c _ _ hB).trans a3, (c _ _ hB).trans a4, (c _ _ hB).trans a5, (c _ _ hB).trans a6, (c _ _ hB).trans a7, (c _ _ hB).trans a8⟩, (c _ _ hD).trans d0, (c _ _ hD).trans d1⟩

set_option maxRecDepth 100000 in
set_option maxHeartbeats 8000000 in
theorem check_any (R : Frm) (w : World) (hR : IsFarm w R) :
    Calls Try.prog 6 #[.agg #[.slice R.pa R.ps.length R.pc, .int .i64 R.dry]] w fun e w' => e = .returned (.int .i64 (checkE R)) ∧ Below w.heap.size w w' := by
  have hlf := hR.len
  obtain ⟨fa, fc, fs, dry⟩ := R
  simp only [] at hlf
  by_cases h12 : 12 < fs.length
  · have hv : checkE ⟨fa, fc, fs, dry⟩ = 3 := by simp [checkE, h12]
    have HV := Lib.hid hv
    clear hv
    go_enter Try.func6, Try.ntmps6
    go_wp2_with fail
    go_ret
    exact ⟨by rw [HV.out]; rfl, (Below.refl _ _).alloc (Nat.le_refl _) _⟩
  have hbR : Blk (w.alloc (.cells #[.slice fa fs.length fc, .int .i64 dry] 24)) w.heap.size #[.slice fa fs.length fc, .int .i64 dry] 24 := Blk.new _ _ _
  have hB : Below w.heap.size w (w.alloc (.cells #[.slice fa fs.length fc, .int .i64 dry] 24)) := (Below.refl _ _).alloc (Nat.le_refl _) _
  have HR := Lib.hid hR
  clear hR
  go_enter Try.func6, Try.ntmps6
  go_wp2_with fail
  go_loopw [13, 3, 4, 5] (fun i _ _ _ wr => ∃ j : Nat, j ≤ fs.length ∧ i = .int .i64 j ∧ (∀ k, k < j → (match fs[k]? with | some f => plotE f (fs.take k) | none => 0) = 0) ∧ Blk wr w.heap.size #[.slice fa fs.length fc, .int .i64 dry] 24 ∧ Below w.heap.size w wr) (fun i _ _ _ _ => fs.length - (intOf i).toNat)
  case atStart => exact ⟨0, Nat.zero_le _, rfl, fun k h => by omega, hbR, hB⟩
  case round =>
    obtain ⟨j, hj, rfl, hno, g1, g2⟩ := hrel
    have HNO := Lib.hid hno
    have hRr := HR.out.below g2
    clear hno
    by_cases hlj : j < fs.length
    · rcases hRr with ⟨_, hn⟩ | ⟨b, off, c, h1, h2, h3, h4, h5⟩
      · simp only [] at hn
        rw [hn] at hlj
        simp at hlj
      have hq : fs[j]? = some fs[j] := List.getElem?_eq_getElem hlj
      obtain ⟨⟨d0, d1, d2, d3, d4, d5, d6, d7, d8⟩, hfin⟩ := h5 j _ hq
      have hpre := IsPlts.pre (Nat.le_of_lt hlj) h2 h3 h4 h5
      obtain ⟨rfl, _, rfl⟩ := slice_inj h1
      simp only [] at d0 d1 d2 d3 d4 d5 d6 d7 d8 hfin h3
      generalize fs[j] = F at *
      have HQ := Lib.hid hq
      clear hq h1 h5
      have hj0 : (0 : Int) ≤ (j : Int) := Int.natCast_nonneg _
      have hj1 : (j : Int) ≤ (fs.length : Int) := by omega
      have hj2 : (j : Int) ≤ (fc : Int) := by omega
      have hbF : Blk (wr.alloc (.cells (pltC F) 37)) wr.heap.size (pltC F) 37 := Blk.new _ _ _
      have hbR2 := g1.alloc (.cells (pltC F) 37)
      have hlt1 := g1.lt
      have hb0 : Below wr.heap.size wr (wr.alloc (.cells (pltC F) 37)) := (Below.refl _ wr).alloc (Nat.le_refl _) _
      have hx : HeldP (wr.alloc (.cells (pltC F) 37)) wr.heap.size F w.heap.size (.slice (some ⟨b, off, none⟩) fs.length fc) (.int .i64 dry) (wr.alloc (.cells (pltC F) 37)).drew :=
        ⟨(Below.refl _ _).drew, ⟨hbF.cell 0, hbF.cell 1, hbF.cell 2, hbF.cell 3, hbF.cell 4, hbF.cell 5, hbF.cell 6, hbF.cell 7, hbF.cell 8⟩, hbR2.cell 0, hbR2.cell 1⟩
      have hB1 : wr.heap.size < (wr.alloc (.cells (pltC F) 37)).heap.size := by simp
      have hB2 : w.heap.size < (wr.alloc (.cells (pltC F) 37)).heap.size := by simp; omega
      have hp1 : IsPlts (wr.alloc (.cells (pltC F) 37)).drew (.slice (some ⟨b, off, none⟩) j fc) (fs.take j) := hpre.below hb0.drew
      have hl1 : (fs.take j).length ≤ 100000 := by rw [List.length_take]; omega
      have c0 := g1.cell 0
      simp only [List.getElem?_toArray, List.getElem?_cons_zero] at c0
      clear hbF hbR2
      unfold pltC at hx hp1 hB1 hB2 hb0
      go_wp2_with fail
      go_region_held3 (fun w' => Below (wr.alloc (.cells #[.string F.name, .int .i64 F.crop, .int .i64 F.size, .int .i64 F.ylo, .int .i64 F.yhi, .int .i64 F.rest, .int .i64 F.wlo, .int .i64 F.whi, .int .i64 F.cost] 37)).heap.size (wr.alloc (.cells #[.string F.name, .int .i64 F.crop, .int .i64 F.size, .int .i64 F.ylo, .int .i64 F.yhi, .int .i64 F.rest, .int .i64 F.wlo, .int .i64 F.whi, .int .i64 F.cost] 37)) w' ∧
          ((w'.cell? ⟨wr.heap.size, 0, none⟩ = some (.string F.name) ∧ w'.cell? ⟨wr.heap.size, 1, none⟩ = some (.int .i64 F.crop) ∧ w'.cell? ⟨wr.heap.size, 2, none⟩ = some (.int .i64 F.size) ∧ w'.cell? ⟨wr.heap.size, 3, none⟩ = some (.int .i64 F.ylo) ∧ w'.cell? ⟨wr.heap.size, 4, none⟩ = some (.int .i64 F.yhi) ∧ w'.cell? ⟨wr.heap.size, 5, none⟩ = some (.int .i64 F.rest) ∧ w'.cell? ⟨wr.heap.size, 6, none⟩ = some (.int .i64 F.wlo) ∧ w'.cell? ⟨wr.heap.size, 7, none⟩ = some (.int .i64 F.whi) ∧ w'.cell? ⟨wr.heap.size, 8, none⟩ = some (.int .i64 F.cost)) ∧
            (w'.cell? ⟨w.heap.size, 0, none⟩ = some (.slice (some ⟨b, off, none⟩) fs.length fc) ∧ w'.cell? ⟨w.heap.size, 1, none⟩ = some (.int .i64 dry))))
        (first | (with_reducible exact hx) | (with_reducible refine HeldP.step ?_ hB1 hB2 hb3; with_reducible assumption))
        (first | (go_at_call 12; (with_reducible refine (checkPlot_any F (some ⟨b, off, none⟩) j fc (fs.take j) _ hfin hp1 hl1).mono ?_); rintro r w3 ⟨rfl, hb3⟩))
      have hb7 := g2.trans ((hb0.drew.trans (hb3.mono (by simp))).mono g2.size)
      have g7 := g1.belowS (hb0.drew.trans (hb3.mono (by simp)))
      generalize hge : plotE F (fs.take j) = E
      have HGE := Lib.hid hge
      clear hge hx hp1 hb3 hb0
      by_cases hE : E = 0
      · have hz1 : (E == 0) = true := by simp [hE]
        have hz2 : (E != 0) = false := by simp [hE]
        have HE := Lib.hid hE
        clear hE
        go_wp2_with fail
        refine ⟨⟨j + 1, by omega, by simp, ?_, g7, hb7⟩, by simp [intOf]; omega⟩
        intro k hk
        by_cases hkj : k = j
        · subst hkj
          rw [HQ.out]
          exact HGE.out.trans HE.out
        · exact HNO.out k (by omega)
      · have hz1 : (E == 0) = false := by simp [hE]
        have hz2 : (E != 0) = true := by simp [hE]
        have hfe : plotsE fs = E := by
          have := firstNZ_at (g := fun i => match fs[i]? with | some f => plotE f (fs.take i) | none => 0) hlj (fun i hi => HNO.out i hi) (by simp only [HQ.out]; rw [HGE.out]; exact hE)
          simp only [HQ.out] at this
          exact this.trans HGE.out
        have hv : checkE ⟨some ⟨b, off, none⟩, fc, fs, dry⟩ = E := by
          show (if 12 < fs.length then _ else _) = E
          rw [if_neg (by omega), if_pos (by rw [hfe]; exact hE), hfe]
        have HV := Lib.hid hv
        clear hv hfe hE
        go_wp2_with fail
        go_ret
        exact ⟨by rw [HV.out]; rfl, hb7⟩
    · obtain rfl : j = fs.length := by omega
      have hfe : plotsE fs = 0 := firstNZ_zero (fun i hi => HNO.out i hi)
      have HFE := Lib.hid hfe
      clear hfe HNO hRr
      have c1 := g1.cell 1
      simp only [List.getElem?_toArray, List.getElem?_cons_zero, List.getElem?_cons_succ] at c1
      go_wp2_with fail
      refine (isFrom_any dry 0 1000 _).mono ?_
      rintro e w2 ⟨rfl, rfl⟩
      have hv : checkE ⟨fa, fc, fs, dry⟩ = if isFromB dry 0 1000 = false then 1 else 0 := by
        show (if 12 < fs.length then _ else _) = _
        rw [if_neg (by omega), if_neg (by rw [HFE.out]; simp)]
      have HV := Lib.hid hv
      clear hv
      cases hd : isFromB dry 0 1000 with
      | false =>
        have HD := Lib.hid hd
        clear hd
        go_wp2_with fail
        go_ret
        exact ⟨by rw [HV.out, if_pos HD.out]; rfl, g2⟩
      | true =>
        have HD := Lib.hid hd
        clear hd
        go_wp2_with fail
        go_ret
        exact ⟨by rw [HV.out, if_neg (by rw [HD.out]; simp)]; rfl, g2⟩
end
end Go.Proofs.Ytghepojnimlafaa
