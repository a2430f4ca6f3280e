/- Rows in memory: numbers, parts, heaps, a store. -/
import Derived.Test.YtfhalmlpnoepcaaGreatFB
namespace Go.Proofs.YtfhalmlpnoepcaaGreat
open Go.RowKit

/-- A slice value that holds a list of elements, each of sz cells, that are read. -/
def IsRow {α : Type} (sz : Nat) (At : World → Nat → Nat → α → Prop) (w : World) (a : Option Addr) (c : Nat) (l : List α) : Prop :=
  l = [] ∨ ∃ b off, a = some ⟨b, off, none⟩ ∧ b < w.heap.size ∧ l.length ≤ c ∧ c ≤ 9223372036854775807 ∧ ∀ j x, l[j]? = some x → At w b (off + j * sz) x
theorem IsRow.below {α : Type} {sz : Nat} {At : World → Nat → Nat → α → Prop} {w w' : World} {a : Option Addr} {c : Nat} {l : List α} (h : IsRow sz At w a c l) (hb : Below w.heap.size w w')
    (hAt : ∀ b o x, b < w.heap.size → At w b o x → At w' b o x) : IsRow sz At w' a c l := by
  rcases h with h | ⟨b, off, e, hl, hc, hc', hp⟩
  · exact .inl h
  · exact .inr ⟨b, off, e, Nat.lt_of_lt_of_le hl hb.size, hc, hc', fun j x hj => hAt _ _ _ hl (hp j x hj)⟩
theorem IsRow.at {α : Type} {sz : Nat} {At : World → Nat → Nat → α → Prop} {w : World} {a : Option Addr} {c : Nat} {l : List α} (h : IsRow sz At w a c l) {j : Nat} {x : α} (hj : l[j]? = some x) :
    ∃ b off, a = some ⟨b, off, none⟩ ∧ b < w.heap.size ∧ l.length ≤ c ∧ c ≤ 9223372036854775807 ∧ At w b (off + j * sz) x := by
  rcases h with rfl | ⟨b, off, e, hl, hc, hc', hp⟩
  · simp at hj
  · exact ⟨b, off, e, hl, hc, hc', hp j x hj⟩
theorem IsRow.len {α : Type} {sz : Nat} {At : World → Nat → Nat → α → Prop} {w : World} {a : Option Addr} {c : Nat} {l : List α} (h : IsRow sz At w a c l) : l.length ≤ 9223372036854775807 := by
  rcases h with rfl | ⟨_, _, _, _, h1, h2, _⟩
  · simp
  · omega
theorem IsRow.pre {α : Type} {sz : Nat} {At : World → Nat → Nat → α → Prop} {w : World} {a : Option Addr} {c : Nat} {l : List α} (h : IsRow sz At w a c l) (i : Nat) : IsRow sz At w a c (l.take i) := by
  rcases h with rfl | ⟨b, off, e, hl, hc, hc', hp⟩
  · exact .inl (by simp)
  · refine .inr ⟨b, off, e, hl, ?_, hc', fun j x hj => ?_⟩
    · rw [List.length_take]; omega
    · rw [List.getElem?_take] at hj
      split at hj
      · exact hp j x hj
      · cases hj

/-- A number, some loads of a field, a heap, in memory. -/
def IntAt (w : World) (b o : Nat) (x : Int) : Prop := w.cell? ⟨b, o, none⟩ = some (.int .i64 x)
structure Prt where
  plot : Int
  loads : Int
def PrtAt (w : World) (b o : Nat) (p : Prt) : Prop := w.cell? ⟨b, o, none⟩ = some (.int .i64 p.plot) ∧ w.cell? ⟨b, o + 1, none⟩ = some (.int .i64 p.loads)
structure Hep where
  name : ByteArray
  crop : Int
  stage : Int
  pa : Option Addr
  pc : Nat
  parts : List Prt
  per : Int
  wlo : Int
  whi : Int
abbrev IsNums (w : World) (a : Option Addr) (c : Nat) (l : List Int) : Prop := IsRow 1 IntAt w a c l
abbrev IsPrts (w : World) (a : Option Addr) (c : Nat) (l : List Prt) : Prop := IsRow 2 PrtAt w a c l
def HepAt (w : World) (b o : Nat) (h : Hep) : Prop :=
  (w.cell? ⟨b, o, none⟩ = some (.string h.name) ∧ w.cell? ⟨b, o + 1, none⟩ = some (.int .i64 h.crop) ∧ w.cell? ⟨b, o + 2, none⟩ = some (.int .i64 h.stage) ∧ w.cell? ⟨b, o + 3, none⟩ = some (.slice h.pa h.parts.length h.pc) ∧
    w.cell? ⟨b, o + 4, none⟩ = some (.int .i64 h.per) ∧ w.cell? ⟨b, o + 5, none⟩ = some (.int .i64 h.wlo) ∧ w.cell? ⟨b, o + 6, none⟩ = some (.int .i64 h.whi)) ∧ IsPrts w h.pa h.pc h.parts ∧ h.name.size ≤ maxLen
abbrev IsHeps (w : World) (a : Option Addr) (c : Nat) (l : List Hep) : Prop := IsRow 7 HepAt w a c l
theorem IntAt.keep {w w' : World} (hb : Below w.heap.size w w') (b o : Nat) (x : Int) (hl : b < w.heap.size) (h : IntAt w b o x) : IntAt w' b o x := (hb.cell (p := ⟨b, o, none⟩) hl).trans h
theorem PrtAt.keep {w w' : World} (hb : Below w.heap.size w w') (b o : Nat) (x : Prt) (hl : b < w.heap.size) (h : PrtAt w b o x) : PrtAt w' b o x :=
  ⟨(hb.cell (p := ⟨b, _, none⟩) hl).trans h.1, (hb.cell (p := ⟨b, _, none⟩) hl).trans h.2⟩
theorem IsNums.belowS {w w' : World} {a : Option Addr} {c : Nat} {l : List Int} (h : IsNums w a c l) (hb : Below w.heap.size w w') : IsNums w' a c l := IsRow.below h hb (IntAt.keep hb)
theorem IsPrts.belowS {w w' : World} {a : Option Addr} {c : Nat} {l : List Prt} (h : IsPrts w a c l) (hb : Below w.heap.size w w') : IsPrts w' a c l := IsRow.below h hb (PrtAt.keep hb)
theorem HepAt.keep {w w' : World} (hb : Below w.heap.size w w') (b o : Nat) (x : Hep) (hl : b < w.heap.size) (h : HepAt w b o x) : HepAt w' b o x := by
  have c : ∀ i, w'.cell? ⟨b, i, none⟩ = w.cell? ⟨b, i, none⟩ := fun i => hb.cell (p := ⟨b, i, none⟩) hl
  obtain ⟨⟨h0, h1, h2, h3, h4, h5, h6⟩, hp, hn⟩ := h
  exact ⟨⟨(c _).trans h0, (c _).trans h1, (c _).trans h2, (c _).trans h3, (c _).trans h4, (c _).trans h5, (c _).trans h6⟩, hp.belowS hb, hn⟩
theorem IsHeps.belowS {w w' : World} {a : Option Addr} {c : Nat} {l : List Hep} (h : IsHeps w a c l) (hb : Below w.heap.size w w') : IsHeps w' a c l := IsRow.below h hb (HepAt.keep hb)

/-- A store in memory. -/
structure Sto where
  year : Int
  la : Option Addr
  lc : Nat
  last : List Int
  ga : Option Addr
  gc : Nat
  given : List Int
  ha : Option Addr
  hc : Nat
  heaps : List Hep
  ua : Option Addr
  uc : Nat
  used : List Prt
  wa : Option Addr
  wc : Nat
  waste : List Prt
abbrev stoV (S : Sto) : Value := .agg #[.int .i64 S.year, .slice S.la S.last.length S.lc, .slice S.ga S.given.length S.gc, .slice S.ha S.heaps.length S.hc, .slice S.ua S.used.length S.uc, .slice S.wa S.waste.length S.wc]
abbrev stoC (S : Sto) : Array Value := #[.int .i64 S.year, .slice S.la S.last.length S.lc, .slice S.ga S.given.length S.gc, .slice S.ha S.heaps.length S.hc, .slice S.ua S.used.length S.uc, .slice S.wa S.waste.length S.wc]
abbrev hepC (h : Hep) : Array Value := #[.string h.name, .int .i64 h.crop, .int .i64 h.stage, .slice h.pa h.parts.length h.pc, .int .i64 h.per, .int .i64 h.wlo, .int .i64 h.whi]
structure IsStore (w : World) (S : Sto) : Prop where
  last : IsNums w S.la S.lc S.last
  given : IsNums w S.ga S.gc S.given
  heaps : IsHeps w S.ha S.hc S.heaps
  used : IsPrts w S.ua S.uc S.used
  waste : IsPrts w S.wa S.wc S.waste
theorem IsStore.below {w w' : World} {S : Sto} (h : IsStore w S) (hb : Below w.heap.size w w') : IsStore w' S :=
  ⟨h.last.belowS hb, h.given.belowS hb, h.heaps.belowS hb, h.used.belowS hb, h.waste.belowS hb⟩

/-- What each part is. -/
def partB (n : Nat) (p : Prt) : Bool := isFromB p.plot 0 ((n : Int) - 1) && isFromB p.loads 1 100000
/-- Parts in order, of fields that there are. -/
def partsB (n : Nat) (l : List Prt) : Bool := (List.range l.length).all fun i => match l[i]? with
  | some p => partB n p && (decide (i = 0) || (match l[i - 1]? with | some q => !(q.plot == p.plot) | none => true))
  | none => true
def loadsM : List Prt → Int
  | [] => 0
  | p :: l => p.loads + loadsM l
def ofM (i : Int) : List Prt → Int
  | [] => 0
  | p :: l => (if p.plot = i then p.loads else 0) + ofM i l
def leftM (i : Int) : List Hep → Int
  | [] => 0
  | h :: l => ofM i h.parts + leftM i l
def heapsM : List Hep → Int
  | [] => 0
  | h :: l => loadsM h.parts + heapsM l
theorem loadsM_append (a b : List Prt) : loadsM (a ++ b) = loadsM a + loadsM b := by
  induction a with
  | nil => simp [loadsM]
  | cons p a ih => simp only [List.cons_append, loadsM, ih]; omega
theorem ofM_append (i : Int) (a b : List Prt) : ofM i (a ++ b) = ofM i a + ofM i b := by
  induction a with
  | nil => simp [ofM]
  | cons p a ih => simp only [List.cons_append, ofM, ih]; omega
theorem leftM_append (i : Int) (a b : List Hep) : leftM i (a ++ b) = leftM i a + leftM i b := by
  induction a with
  | nil => simp [leftM]
  | cons p a ih => simp only [List.cons_append, leftM, ih]; omega
theorem heapsM_append (a b : List Hep) : heapsM (a ++ b) = heapsM a + heapsM b := by
  induction a with
  | nil => simp [heapsM]
  | cons p a ih => simp only [List.cons_append, heapsM, ih]; omega
/-- A part as it may be, of one of n fields. -/
def Prt.ok (n : Nat) (p : Prt) : Prop := (0 ≤ p.plot ∧ p.plot < n) ∧ 1 ≤ p.loads ∧ p.loads ≤ 100000
theorem loadsM_bd {n : Nat} {l : List Prt} (h : ∀ p ∈ l, p.ok n) : 0 ≤ loadsM l ∧ loadsM l ≤ 100000 * l.length := by
  induction l with
  | nil => simp [loadsM]
  | cons p l ih =>
    obtain ⟨_, h1, h2⟩ := h p (by simp)
    obtain ⟨h3, h4⟩ := ih fun q hq => h q (by simp [hq])
    simp only [loadsM, List.length_cons]
    push_cast
    omega
theorem ofM_bd {n : Nat} (i : Int) {l : List Prt} (h : ∀ p ∈ l, p.ok n) : 0 ≤ ofM i l ∧ ofM i l ≤ 100000 * l.length := by
  induction l with
  | nil => simp [ofM]
  | cons p l ih =>
    obtain ⟨_, h1, h2⟩ := h p (by simp)
    obtain ⟨h3, h4⟩ := ih fun q hq => h q (by simp [hq])
    simp only [ofM, List.length_cons]
    push_cast
    split <;> omega
/-- The sum of the first n of them. -/
def sumN (f : Nat → Int) : Nat → Int
  | 0 => 0
  | n + 1 => sumN f n + f n
theorem sumN_add (f g : Nat → Int) (n : Nat) : sumN (fun i => f i + g i) n = sumN f n + sumN g n := by
  induction n with
  | zero => rfl
  | succ n ih => simp only [sumN, ih]; omega
theorem sumN_zero (n : Nat) : sumN (fun _ => 0) n = 0 := by
  induction n with
  | zero => rfl
  | succ n ih => simp only [sumN, ih]; omega
theorem sumN_one (k : Int) (v : Int) : ∀ n : Nat, sumN (fun i => if k = (i : Int) then v else 0) n = if 0 ≤ k ∧ k < n then v else 0 := by
  intro n
  induction n with
  | zero => rw [if_neg (by omega)]; rfl
  | succ n ih =>
    simp only [sumN, ih]
    by_cases h1 : k = (n : Int)
    · rw [if_pos h1, if_neg (by omega), if_pos (by push_cast; omega)]; omega
    · rw [if_neg h1]
      by_cases h2 : 0 ≤ k ∧ k < n
      · rw [if_pos h2, if_pos (by push_cast; omega)]; omega
      · rw [if_neg h2, if_neg (by push_cast; omega)]; omega
/-- All fields' loads together are all loads. -/
theorem sum_of {n : Nat} {l : List Prt} (h : ∀ p ∈ l, p.ok n) : sumN (fun i => ofM i l) n = loadsM l := by
  induction l with
  | nil => exact sumN_zero n
  | cons p l ih =>
    obtain ⟨⟨h1, h2⟩, _⟩ := h p (by simp)
    show sumN (fun i => (if p.plot = (i : Int) then p.loads else 0) + ofM i l) n = _
    rw [sumN_add, sumN_one, if_pos ⟨h1, h2⟩, ih fun q hq => h q (by simp [hq])]
    rfl
theorem sum_left {n : Nat} {l : List Hep} (h : ∀ x ∈ l, ∀ p ∈ x.parts, p.ok n) : sumN (fun i => leftM i l) n = heapsM l := by
  induction l with
  | nil => exact sumN_zero n
  | cons x l ih =>
    show sumN (fun i => ofM i x.parts + leftM i l) n = _
    rw [sumN_add, sum_of (h x (by simp)), ih fun y hy => h y (by simp [hy])]
    rfl
theorem partB_ok {n : Nat} {p : Prt} (h : partB n p = true) : p.ok n := by
  simp [partB, isFromB] at h
  exact ⟨⟨h.1.1, by omega⟩, h.2⟩
theorem partsB_ok {n : Nat} {l : List Prt} (h : partsB n l = true) : ∀ p ∈ l, p.ok n := by
  intro p hp
  obtain ⟨i, hi, rfl⟩ := List.getElem_of_mem hp
  have := List.all_eq_true.1 h i (by simpa using hi)
  rw [List.getElem?_eq_getElem hi] at this
  simp only [Bool.and_eq_true] at this
  exact partB_ok this.1
end Go.Proofs.YtfhalmlpnoepcaaGreat
