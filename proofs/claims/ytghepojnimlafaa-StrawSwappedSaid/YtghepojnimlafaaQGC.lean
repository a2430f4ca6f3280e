/- Rows in memory: numbers, parts, heaps, a store. The specification's Check of a farm: the first error is the same. Parts: areParts, loadsOf; the specification's ordered, loads, of. Rows that are made by appends. slices.Clone of numbers, parts, heaps: a row of the call's own with the same cells. A store whose rows are the call's own and lie apart: what the chores change. Heaps: a heap found by its name, the crops of its parts, isHeap. -/
import Derived.Test.YtghepojnimlafaaQFB
import Derived.Deep.DeepCutAuto
import Derived.Deep.CutRange
import Derived.Deep.AppendLies
import Derived.Deep.Upon
import Derived.Laws.OwnMore
import Derived.Lib.SliceRun
namespace Go.Proofs.Ytghepojnimlafaa
section
open Go.RowKit

/-- A slice value that holds a list of elements, each of sz cells, that are read. -/
def IsRow {α : Type} (sz : Nat) (At : World → Nat → Nat → α → Prop) (w : World) (a : Option Addr) (c : Nat) (l : List α) : Prop :=
  l = [] ∨ ∃ b off, a = some ⟨b, off, none⟩ ∧ b < w.heap.size ∧ l.length ≤ c ∧ c ≤ 9223372036854775807 ∧ ∀ j x, l[j]? = some x → At w b (off + j * sz) x
theorem IsRow.below {α : Type} {sz : Nat} {At : World → Nat → Nat → α → Prop} {w w' : World} {a : Option Addr} {c : Nat} {l : List α} (h : IsRow sz At w a c l) (hb : Below w.heap.size w w')
    (hAt : ∀ b o x, b < w.heap.size → At w b o x → At w' b o x) : IsRow sz At w' a c l := by
  rcases h with h | ⟨b, off, e, hl, hc, hc', hp⟩
  · exact .inl h
  · exact .inr ⟨b, off, e, Nat.lt_of_lt_of_le hl hb.size, hc, hc', fun j x hj => hAt _ _ _ hl (hp j x hj)⟩
theorem IsRow.at {α : Type} {sz : Nat} {At : World → Nat → Nat → α → Prop} {w : World} {a : Option Addr} {c : Nat} {l : List α} (h : IsRow sz At w a c l) {j : Nat} {x : α} (hj : l[j]? = some x) :
    ∃ b off, a = some ⟨b, off, none⟩ ∧ b < w.heap.size ∧ l.length ≤ c ∧ c ≤ 9223372036854775807 ∧ At w b (off + j * sz) x := by
  rcases h with rfl | ⟨b, off, e, hl, hc, hc', hp⟩
  · simp at hj
  · exact ⟨b, off, e, hl, hc, hc', hp j x hj⟩
theorem IsRow.len {α : Type} {sz : Nat} {At : World → Nat → Nat → α → Prop} {w : World} {a : Option Addr} {c : Nat} {l : List α} (h : IsRow sz At w a c l) : l.length ≤ 9223372036854775807 := by
  rcases h with rfl | ⟨_, _, _, _, h1, h2, _⟩
  · simp
  · omega
theorem IsRow.pre {α : Type} {sz : Nat} {At : World → Nat → Nat → α → Prop} {w : World} {a : Option Addr} {c : Nat} {l : List α} (h : IsRow sz At w a c l) (i : Nat) : IsRow sz At w a c (l.take i) := by
  rcases h with rfl | ⟨b, off, e, hl, hc, hc', hp⟩
  · exact .inl (by simp)
  · refine .inr ⟨b, off, e, hl, ?_, hc', fun j x hj => ?_⟩
    · rw [List.length_take]; omega
    · rw [List.getElem?_take] at hj
      split at hj
      · exact hp j x hj
      · cases hj

/-- A number, some loads of a field, a heap, in memory. -/
def IntAt (w : World) (b o : Nat) (x : Int) : Prop := w.cell? ⟨b, o, none⟩ = some (.int .i64 x)
structure Prt where
  plot : Int
  loads : Int
def PrtAt (w : World) (b o : Nat) (p : Prt) : Prop := w.cell? ⟨b, o, none⟩ = some (.int .i64 p.plot) ∧ w.cell? ⟨b, o + 1, none⟩ = some (.int .i64 p.loads)
structure Hep where
  name : ByteArray
  crop : Int
  stage : Int
  pa : Option Addr
  pc : Nat
  parts : List Prt
  per : Int
  wlo : Int
  whi : Int
abbrev IsNums (w : World) (a : Option Addr) (c : Nat) (l : List Int) : Prop := IsRow 1 IntAt w a c l
abbrev IsPrts (w : World) (a : Option Addr) (c : Nat) (l : List Prt) : Prop := IsRow 2 PrtAt w a c l
def HepAt (w : World) (b o : Nat) (h : Hep) : Prop :=
  (w.cell? ⟨b, o, none⟩ = some (.string h.name) ∧ w.cell? ⟨b, o + 1, none⟩ = some (.int .i64 h.crop) ∧ w.cell? ⟨b, o + 2, none⟩ = some (.int .i64 h.stage) ∧ w.cell? ⟨b, o + 3, none⟩ = some (.slice h.pa h.parts.length h.pc) ∧
    w.cell? ⟨b, o + 4, none⟩ = some (.int .i64 h.per) ∧ w.cell? ⟨b, o + 5, none⟩ = some (.int .i64 h.wlo) ∧ w.cell? ⟨b, o + 6, none⟩ = some (.int .i64 h.whi)) ∧ IsPrts w h.pa h.pc h.parts ∧ h.name.size ≤ maxLen
abbrev IsHeps (w : World) (a : Option Addr) (c : Nat) (l : List Hep) : Prop := IsRow 7 HepAt w a c l
theorem IntAt.keep {w w' : World} (hb : Below w.heap.size w w') (b o : Nat) (x : Int) (hl : b < w.heap.size) (h : IntAt w b o x) : IntAt w' b o x := (hb.cell (p := ⟨b, o, none⟩) hl).trans h
theorem PrtAt.keep {w w' : World} (hb : Below w.heap.size w w') (b o : Nat) (x : Prt) (hl : b < w.heap.size) (h : PrtAt w b o x) : PrtAt w' b o x :=
  ⟨(hb.cell (p := ⟨b, _, none⟩) hl).trans h.1, (hb.cell (p := ⟨b, _, none⟩) hl).trans h.2⟩
theorem IsNums.belowS {w w' : World} {a : Option Addr} {c : Nat} {l : List Int} (h : IsNums w a c l) (hb : Below w.heap.size w w') : IsNums w' a c l := IsRow.below h hb (IntAt.keep hb)
theorem IsPrts.belowS {w w' : World} {a : Option Addr} {c : Nat} {l : List Prt} (h : IsPrts w a c l) (hb : Below w.heap.size w w') : IsPrts w' a c l := IsRow.below h hb (PrtAt.keep hb)
theorem HepAt.keep {w w' : World} (hb : Below w.heap.size w w') (b o : Nat) (x : Hep) (hl : b < w.heap.size) (h : HepAt w b o x) : HepAt w' b o x := by
  have c : ∀ i, w'.cell? ⟨b, i, none⟩ = w.cell? ⟨b, i, none⟩ := fun i => hb.cell (p := ⟨b, i, none⟩) hl
  obtain ⟨⟨h0, h1, h2, h3, h4, h5, h6⟩, hp, hn⟩ := h
  exact ⟨⟨(c _).trans h0, (c _).trans h1, (c _).trans h2, (c _).trans h3, (c _).trans h4, (c _).trans h5, (c _).trans h6⟩, hp.belowS hb, hn⟩
theorem IsHeps.belowS {w w' : World} {a : Option Addr} {c : Nat} {l : List Hep} (h : IsHeps w a c l) (hb : Below w.heap.size w w') : IsHeps w' a c l := IsRow.below h hb (HepAt.keep hb)

/-- A store in memory. -/
structure Sto where
  year : Int
  la : Option Addr
  lc : Nat
  last : List Int
  ga : Option Addr
  gc : Nat
  given : List Int
  ha : Option Addr
  hc : Nat
  heaps : List Hep
  ua : Option Addr
  uc : Nat
  used : List Prt
  wa : Option Addr
  wc : Nat
  waste : List Prt
abbrev stoV (S : Sto) : Value := .agg #[.int .i64 S.year, .slice S.la S.last.length S.lc, .slice S.ga S.given.length S.gc, .slice S.ha S.heaps.length S.hc, .slice S.ua S.used.length S.uc, .slice S.wa S.waste.length S.wc]
abbrev stoC (S : Sto) : Array Value := #[.int .i64 S.year, .slice S.la S.last.length S.lc, .slice S.ga S.given.length S.gc, .slice S.ha S.heaps.length S.hc, .slice S.ua S.used.length S.uc, .slice S.wa S.waste.length S.wc]
abbrev hepC (h : Hep) : Array Value := #[.string h.name, .int .i64 h.crop, .int .i64 h.stage, .slice h.pa h.parts.length h.pc, .int .i64 h.per, .int .i64 h.wlo, .int .i64 h.whi]
structure IsStore (w : World) (S : Sto) : Prop where
  last : IsNums w S.la S.lc S.last
  given : IsNums w S.ga S.gc S.given
  heaps : IsHeps w S.ha S.hc S.heaps
  used : IsPrts w S.ua S.uc S.used
  waste : IsPrts w S.wa S.wc S.waste
theorem IsStore.below {w w' : World} {S : Sto} (h : IsStore w S) (hb : Below w.heap.size w w') : IsStore w' S :=
  ⟨h.last.belowS hb, h.given.belowS hb, h.heaps.belowS hb, h.used.belowS hb, h.waste.belowS hb⟩

/-- What each part is. -/
def partB (n : Nat) (p : Prt) : Bool := isFromB p.plot 0 ((n : Int) - 1) && isFromB p.loads 1 100000
/-- Parts in order, of fields that there are. -/
def partsB (n : Nat) (l : List Prt) : Bool := (List.range l.length).all fun i => match l[i]? with
  | some p => partB n p && (decide (i = 0) || (match l[i - 1]? with | some q => !(q.plot == p.plot) | none => true))
  | none => true
def loadsM : List Prt → Int
  | [] => 0
  | p :: l => p.loads + loadsM l
def ofM (i : Int) : List Prt → Int
  | [] => 0
  | p :: l => (if p.plot = i then p.loads else 0) + ofM i l
def leftM (i : Int) : List Hep → Int
  | [] => 0
  | h :: l => ofM i h.parts + leftM i l
def heapsM : List Hep → Int
  | [] => 0
  | h :: l => loadsM h.parts + heapsM l
theorem loadsM_append (a b : List Prt) : loadsM (a ++ b) = loadsM a + loadsM b := by
  induction a with
  | nil => simp [loadsM]
  | cons p a ih => simp only [List.cons_append, loadsM, ih]; omega
theorem ofM_append (i : Int) (a b : List Prt) : ofM i (a ++ b) = ofM i a + ofM i b := by
  induction a with
  | nil => simp [ofM]
  | cons p a ih => simp only [List.cons_append, ofM, ih]; omega
theorem leftM_append (i : Int) (a b : List Hep) : leftM i (a ++ b) = leftM i a + leftM i b := by
  induction a with
  | nil => simp [leftM]
  | cons p a ih => simp only [List.cons_append, leftM, ih]; omega
theorem heapsM_append (a b : List Hep) : heapsM (a ++ b) = heapsM a + heapsM b := by
  induction a with
  | nil => simp [heapsM]
  | cons p a ih => simp only [List.cons_append, heapsM, ih]; omega
/-- A part as it may be, of one of n fields. -/
def Prt.ok (n : Nat) (p : Prt) : Prop := (0 ≤ p.plot ∧ p.plot < n) ∧ 1 ≤ p.loads ∧ p.loads ≤ 100000
theorem loadsM_bd {n : Nat} {l : List Prt} (h : ∀ p ∈ l, p.ok n) : 0 ≤ loadsM l ∧ loadsM l ≤ 100000 * l.length := by
  induction l with
  | nil => simp [loadsM]
  | cons p l ih =>
    obtain ⟨_, h1, h2⟩ := h p (by simp)
    obtain ⟨h3, h4⟩ := ih fun q hq => h q (by simp [hq])
    simp only [loadsM, List.length_cons]
    push_cast
    omega
theorem ofM_bd {n : Nat} (i : Int) {l : List Prt} (h : ∀ p ∈ l, p.ok n) : 0 ≤ ofM i l ∧ ofM i l ≤ 100000 * l.length := by
  induction l with
  | nil => simp [ofM]
  | cons p l ih =>
    obtain ⟨_, h1, h2⟩ := h p (by simp)
    obtain ⟨h3, h4⟩ := ih fun q hq => h q (by simp [hq])
    simp only [ofM, List.length_cons]
    push_cast
    split <;> omega
/-- The sum of the first n of them. -/
def sumN (f : Nat → Int) : Nat → Int
  | 0 => 0
  | n + 1 => sumN f n + f n
theorem sumN_add (f g : Nat → Int) (n : Nat) : sumN (fun i => f i + g i) n = sumN f n + sumN g n := by
  induction n with
  | zero => rfl
  | succ n ih => simp only [sumN, ih]; omega
theorem sumN_zero (n : Nat) : sumN (fun _ => 0) n = 0 := by
  induction n with
  | zero => rfl
  | succ n ih => simp only [sumN, ih]; omega
theorem sumN_one (k : Int) (v : Int) : ∀ n : Nat, sumN (fun i => if k = (i : Int) then v else 0) n = if 0 ≤ k ∧ k < n then v else 0 := by
  intro n
  induction n with
  | zero => rw [if_neg (by omega)]; rfl
  | succ n ih =>
    simp only [sumN, ih]
    by_cases h1 : k = (n : Int)
    · rw [if_pos h1, if_neg (by omega), if_pos (by push_cast; omega)]; omega
    · rw [if_neg h1]
      by_cases h2 : 0 ≤ k ∧ k < n
      · rw [if_pos h2, if_pos (by push_cast; omega)]; omega
      · rw [if_neg h2, if_neg (by push_cast; omega)]; omega
/-- All fields' loads together are all loads. -/
theorem sum_of {n : Nat} {l : List Prt} (h : ∀ p ∈ l, p.ok n) : sumN (fun i => ofM i l) n = loadsM l := by
  induction l with
  | nil => exact sumN_zero n
  | cons p l ih =>
    obtain ⟨⟨h1, h2⟩, _⟩ := h p (by simp)
    show sumN (fun i => (if p.plot = (i : Int) then p.loads else 0) + ofM i l) n = _
    rw [sumN_add, sumN_one, if_pos ⟨h1, h2⟩, ih fun q hq => h q (by simp [hq])]
    rfl
theorem sum_left {n : Nat} {l : List Hep} (h : ∀ x ∈ l, ∀ p ∈ x.parts, p.ok n) : sumN (fun i => leftM i l) n = heapsM l := by
  induction l with
  | nil => exact sumN_zero n
  | cons x l ih =>
    show sumN (fun i => ofM i x.parts + leftM i l) n = _
    rw [sumN_add, sum_of (h x (by simp)), ih fun y hy => h y (by simp [hy])]
    rfl
theorem partB_ok {n : Nat} {p : Prt} (h : partB n p = true) : p.ok n := by
  simp [partB, isFromB] at h
  exact ⟨⟨h.1.1, by omega⟩, h.2⟩
theorem partsB_ok {n : Nat} {l : List Prt} (h : partsB n l = true) : ∀ p ∈ l, p.ok n := by
  intro p hp
  obtain ⟨i, hi, rfl⟩ := List.getElem_of_mem hp
  have := List.all_eq_true.1 h i (by simpa using hi)
  rw [List.getElem?_eq_getElem hi] at this
  simp only [Bool.and_eq_true] at this
  exact partB_ok this.1
end
end Go.Proofs.Ytghepojnimlafaa
namespace Go.Proofs.Ytghepojnimlafaa
section
open Go.RowKit

theorem bad_name {s : ByteArray} {k : Nat} (hk : k < s.size) (h : badB k (byteAt s k) = true) : nameB s = false := by
  unfold nameB
  rw [Bool.and_eq_false_iff]
  right
  rw [Bool.eq_false_iff]
  intro h2
  have := List.all_eq_true.1 h2 k (by simpa using hk)
  rw [h] at this
  cases this
theorem byte_at {s : ByteArray} {k : Nat} (hk : k < s.size) : byteAt s k = (s[k].toNat : Int) := by
  unfold byteAt
  rw [Array.getElem?_eq_getElem (by simpa using hk)]
  rfl
end
end Go.Proofs.Ytghepojnimlafaa
namespace Go.Proofs.Ytghepojnimlafaa
section
open Go.RowKit

theorem below_drewN' (B : Nat) (w : World) (n : Nat) : Below B w (w.drewN n) := ⟨rfl, rfl, rfl, Nat.le_refl _, fun _ _ => rfl⟩
theorem take_snoc' {α : Type} {l : List α} {j : Nat} {x : α} (h : l[j]? = some x) : l.take (j + 1) = l.take j ++ [x] := by rw [List.take_add_one, h]; rfl
def partAt (n : Nat) (l : List Prt) (i : Nat) : Bool := match l[i]? with
  | some p => partB n p && (decide (i = 0) || (match l[i - 1]? with | some q => !(q.plot == p.plot) | none => true))
  | none => true
theorem partsB_no {n : Nat} {l : List Prt} {i : Nat} (hi : i < l.length) (h : partAt n l i = false) : partsB n l = false := by
  rw [Bool.eq_false_iff]
  intro k
  have := List.all_eq_true.1 k i (by simpa using hi)
  have this' : partAt n l i = true := this
  rw [h] at this'
  cases this'
theorem partsB_yes {n : Nat} {l : List Prt} (h : ∀ i, i < l.length → partAt n l i = true) : partsB n l = true :=
  List.all_eq_true.2 fun i hi => h i (by simpa using hi)

set_option maxRecDepth 100000 in
set_option maxHeartbeats 4000000 in
theorem areParts_any (F : Frm) (a : Option Addr) (c : Nat) (l : List Prt) (w : World) (hn : F.ps.length ≤ 12) (hl : IsPrts w a c l) :
    Calls Try.prog 40 #[.agg #[.slice F.pa F.ps.length F.pc, .int .i64 F.dry], .slice a l.length c] w fun e w' => e = .returned (.bool (partsB F.ps.length l)) ∧ Below w.heap.size w w' := by
  have hlen := hl.len
  have k0 := Blk.new w 24 #[.slice F.pa F.ps.length F.pc, .int .i64 F.dry]
  have hB : Below w.heap.size w (w.alloc (.cells #[.slice F.pa F.ps.length F.pc, .int .i64 F.dry] 24)) := (Below.refl _ _).alloc (Nat.le_refl _) _
  have HL := Lib.hid hl
  clear hl
  go_enter Try.func40, Try.ntmps40
  go_wp2_with fail
  go_loopw [9, 5, 6] (fun i _ _ wr => ∃ j : Nat, j ≤ l.length ∧ i = .int .i64 j ∧ (∀ k, k < j → partAt F.ps.length l k = true) ∧ Blk wr w.heap.size #[.slice F.pa F.ps.length F.pc, .int .i64 F.dry] 24 ∧ Below w.heap.size w wr) (fun i _ _ _ => l.length - (intOf i).toNat)
  case atStart => exact ⟨0, Nat.zero_le _, rfl, fun k h => by omega, k0, hB⟩
  case round =>
    obtain ⟨j, hj, rfl, hall, g1, g2⟩ := hrel
    have HA := Lib.hid hall
    have G1 := Lib.hid g1
    have hLr := HL.out.belowS g2
    have HLr := Lib.hid hLr
    clear hall k0 hB
    by_cases hlj : j < l.length
    · have hq : l[j]? = some l[j] := List.getElem?_eq_getElem hlj
      have hprev : ∀ k, k + 1 = j → ∃ q, l[k]? = some q ∧ partAt F.ps.length l j = (partB F.ps.length l[j] && !(q.plot == l[j].plot)) := fun k hk => by
        have hk2 : k < l.length := by omega
        refine ⟨l[k], List.getElem?_eq_getElem hk2, ?_⟩
        subst hk
        rw [partAt, hq]
        simp only [Nat.add_sub_cancel, List.getElem?_eq_getElem hk2]
        simp
      have hfirst : j = 0 → partAt F.ps.length l j = partB F.ps.length l[j] := fun h0 => by
        rw [partAt, hq]
        simp [h0]
      obtain ⟨b, off, hea, hblt, hcap, hcx, p0, p1⟩ := hLr.at hq
      subst hea
      generalize l[j] = p at *
      have hj0 : (0 : Int) ≤ (j : Int) := Int.natCast_nonneg _
      have hj1 : (j : Int) < (l.length : Int) := by omega
      have HPV := Lib.hid hprev
      have HFI := Lib.hid hfirst
      have kP := Blk.new wr 80 #[.int .i64 p.plot, .int .i64 p.loads]
      have kF := g1.alloc (.cells #[.int .i64 p.plot, .int .i64 p.loads] 80)
      have hb1 : Below wr.heap.size wr (wr.alloc (.cells #[.int .i64 p.plot, .int .i64 p.loads] 80)) := (Below.refl _ _).alloc (Nat.le_refl _) _
      clear hprev hfirst hq hLr
      go_upto_region 4 with fail
      generalize wr.alloc (.cells #[.int .i64 p.plot, .int .i64 p.loads] 80) = w1 at kP kF hb1 ⊢
      have e0 := kP.cell 0
      have e1 := kP.cell 1
      have f0 := kF.cell 0
      simp only [List.getElem?_toArray, List.getElem?_cons_zero, List.getElem?_cons_succ] at e0 e1 f0
      have hb2 := g2.trans (hb1.mono g2.size)
      have HB2 := Lib.hid hb2
      have HB1 := Lib.hid hb1
      have lP := kP.lt
      have lF := kF.lt
      have hb1s := hb1.size
      have HLw := Lib.hid (HLr.out.belowS hb1)
      clear p0 p1 kP g1 g2 hb2
      go_wp2_with fail
      refine (isFrom_any p.plot 0 ((F.ps.length : Int) - 1) _).mono ?_
      rintro e w' ⟨rfl, rfl⟩
      cases h1 : isFromB p.plot 0 ((F.ps.length : Int) - 1) with
      | false =>
        have hno : partAt F.ps.length l j = false := by
          rcases Nat.eq_zero_or_pos j with hz | hz
          · rw [HFI.out hz, partB, h1]; rfl
          · obtain ⟨q, _, e⟩ := HPV.out (j - 1) (by omega)
            rw [e, partB, h1]; rfl
        have hv := partsB_no hlj hno
        have HV := Lib.hid hv
        clear hv hno h1
        go_wp2_with fail
        go_ret
        exact ⟨by rw [HV.out]; rfl, HB2.out⟩
      | true =>
      have H1 := Lib.hid h1
      clear h1
      go_wp2_with fail
      refine (isFrom_any p.loads 1 100000 _).mono ?_
      rintro e w' ⟨rfl, rfl⟩
      cases h2 : isFromB p.loads 1 100000 with
      | false =>
        have hno : partAt F.ps.length l j = false := by
          rcases Nat.eq_zero_or_pos j with hz | hz
          · rw [HFI.out hz, partB, h2, Bool.and_false]
          · obtain ⟨q, _, e⟩ := HPV.out (j - 1) (by omega)
            rw [e, partB, h2, Bool.and_false]; rfl
        have hv := partsB_no hlj hno
        have HV := Lib.hid hv
        clear hv hno h2
        go_wp2_with fail
        go_ret
        exact ⟨by rw [HV.out]; rfl, HB2.out⟩
      | true =>
      have H2 := Lib.hid h2
      clear h2
      go_upto_region 6 with fail
      go_cut [40] from 10 to 41 (fun s40 wx => s40 = .bool (!partAt F.ps.length l j) ∧ Below w1.heap.size w1 wx)
      case first =>
        rcases Nat.eq_zero_or_pos j with hz | hz
        · have hp : partAt F.ps.length l j = true := by rw [HFI.out hz, partB, H1.out, H2.out]; rfl
          have HP := Lib.hid hp
          have q3 : decide ((0 : Int) < (j : Int)) = false := decide_eq_false (by omega)
          have n3 : decide (0 < j) = false := decide_eq_false (by omega)
          clear hz hp
          go_quiet (fail)
          go_wp2_with fail
          go_meet
          exact ⟨by rw [HP.out]; rfl, below_drewN' _ _ _⟩
        · obtain ⟨k, rfl⟩ : ∃ k, j = k + 1 := ⟨j - 1, by omega⟩
          obtain ⟨q, hqk, hpe⟩ := HPV.out k rfl
          have q3 : decide ((0 : Int) < ((k + 1 : Nat) : Int)) = true := decide_eq_true (by omega)
          have n3 : decide (0 < k + 1) = true := decide_eq_true (by omega)
          have hpe2 : partAt F.ps.length l (k + 1) = !(q.plot == p.plot) := by rw [hpe, partB, H1.out, H2.out]; rfl
          have HP := Lib.hid hpe2
          obtain ⟨b', off', hea', _, _, _, z0, _⟩ := HLw.out.at hqk
          obtain ⟨rfl, rfl, _⟩ : b = b' ∧ off = off' ∧ True := by injection hea' with h; injection h with h1 h2; exact ⟨h1, h2, trivial⟩
          have hk0 : (0 : Int) ≤ (k : Int) := Int.natCast_nonneg _
          have hk1 : (k : Int) < (l.length : Int) := by omega
          clear hpe hpe2 hqk hz hea'
          have z0' : w1.cell? ⟨b, off + k * 2, none⟩ = some (.int .i64 q.plot) := z0
          go_quiet (fail)
          go_wp2_with fail
          go_meet
          refine ⟨?_, below_drewN' _ _ _⟩
          rw [HP.out]
          simp
      case rest =>
        obtain ⟨rfl, hcx2⟩ := hcut
        obtain ⟨w4, rfl⟩ : ∃ w4 : World, w4 = wc := ⟨_, rfl⟩
        have HB4 := Lib.hid (HB2.out.trans (hcx2.mono HB2.out.size))
        have kF4 := kF.belowS hcx2
        cases hpa : partAt F.ps.length l j with
        | false =>
          have hv := partsB_no hlj hpa
          have HV := Lib.hid hv
          clear hv hpa
          go_wp2_with fail
          go_ret
          exact ⟨by rw [HV.out]; rfl, HB4.out⟩
        | true =>
          have HPA := Lib.hid hpa
          clear hpa
          go_wp2_with fail
          refine ⟨⟨j + 1, by omega, by simp, fun k hk => ?_, kF4, HB4.out⟩, by simp [intOf]; omega⟩
          by_cases hkj : k = j
          · subst hkj; exact HPA.out
          · exact HA.out k (by omega)
    · obtain rfl : j = l.length := by omega
      have hv := partsB_yes HA.out
      have HV := Lib.hid hv
      clear hv hLr
      go_wp2_with fail
      go_ret
      exact ⟨by rw [HV.out]; rfl, g2⟩

/-- A sum over parts, round by round. -/
theorem take_len_of {α : Type} {l : List α} {j : Nat} (h : j ≤ l.length) : (l.take j).length = j := by rw [List.length_take, Nat.min_eq_left h]
theorem ok_take {n : Nat} {l : List Prt} (h : ∀ p ∈ l, p.ok n) (j : Nat) : ∀ p ∈ l.take j, p.ok n := fun p hp => h p (List.mem_of_mem_take hp)

set_option maxRecDepth 100000 in
set_option maxHeartbeats 4000000 in
theorem loadsOf_any (n : Nat) (a : Option Addr) (c : Nat) (l : List Prt) (w : World) (hl : IsPrts w a c l) (hok : ∀ p ∈ l, p.ok n) (hlen : l.length ≤ 1000) :
    Calls Try.prog 63 #[.slice a l.length c] w fun e w' => e = .returned (.int .i64 (loadsM l)) ∧ Below w.heap.size w w' := by
  have HL := Lib.hid hl
  have HOK := Lib.hid hok
  clear hl hok
  go_enter Try.func63, Try.ntmps63
  go_wp2_with fail
  go_loopw [8, 3, 5] (fun i s _ wr => ∃ (j : Nat) (v : Int), j ≤ l.length ∧ i = .int .i64 j ∧ s = .int .i64 v ∧ loadsM (l.take j) = v ∧ Below w.heap.size w wr) (fun i _ _ _ => l.length - (intOf i).toNat)
  case atStart => exact ⟨0, 0, Nat.zero_le _, rfl, rfl, by simp [loadsM], Below.refl _ _⟩
  case round =>
    obtain ⟨j, v, hj, rfl, rfl, hv, hb⟩ := hrel
    have HV := Lib.hid hv
    by_cases hlj : j < l.length
    · have hq : l[j]? = some l[j] := List.getElem?_eq_getElem hlj
      have hp := HOK.out _ (List.getElem_mem hlj)
      have hbd := loadsM_bd (ok_take HOK.out j)
      rw [take_len_of hj, hv] at hbd
      have hsn : loadsM (l.take (j + 1)) = v + l[j].loads := by rw [take_snoc' hq, loadsM_append, hv]; simp [loadsM]
      obtain ⟨b, off, hea, hblt, hcap, hcx, p0, p1⟩ := (HL.out.belowS hb).at hq
      subst hea
      generalize l[j] = p at *
      obtain ⟨_, y1, y2⟩ := hp
      obtain ⟨y3, y4⟩ := hbd
      have HSN := Lib.hid hsn
      have hj0 : (0 : Int) ≤ (j : Int) := Int.natCast_nonneg _
      have hj1 : (j : Int) < (l.length : Int) := by omega
      have hb1 : Below wr.heap.size wr (wr.alloc (.cells #[.int .i64 p.plot, .int .i64 p.loads] 80)) := (Below.refl _ _).alloc (Nat.le_refl _) _
      clear hq hsn hv
      go_wp2_with fail
      exact ⟨⟨j + 1, v + p.loads, by omega, by simp, rfl, HSN.out, hb.trans (hb1.mono hb.size)⟩, by simp [intOf]; omega⟩
    · obtain rfl : j = l.length := by omega
      rw [List.take_length] at hv
      go_wp2_with fail
      go_ret
      exact ⟨by rw [hv]; rfl, hb⟩
end
end Go.Proofs.Ytghepojnimlafaa
namespace Go.Proofs.Ytghepojnimlafaa
section
open Go.RowKit

theorem info_int' : ((Try.prog : Program).info? 3).map (fun i => (i.zero, i.size, i.bytes)) = some (some (.int .i64 0), 1, 8) := by kernel_rfl
theorem info_portion : ((Try.prog : Program).info? 80).map (fun i => (i.zero, i.size, i.bytes)) = some (some (.agg #[.int .i64 0, .int .i64 0]), 2, 16) := by kernel_rfl
theorem rowOf_own' (a : Option Addr) (l c : Nat) : (Value.slice a l c).ownBlock = a.map (·.block) := by cases a <;> rfl
theorem flat_at {α : Type} (f : α → List Value) (n : Nat) (hf : ∀ x, (f x).length = n) (l : List α) : ∀ (j i : Nat) (x : α), l[j]? = some x → i < n → (l.flatMap f)[j * n + i]? = (f x)[i]? := by
  induction l with
  | nil => intro j i x h _; simp at h
  | cons y l ih =>
    intro j i x h hi
    cases j with
    | zero =>
      obtain rfl : y = x := by simpa using h
      rw [List.flatMap_cons, List.getElem?_append_left (by rw [hf]; omega)]
      simp
    | succ j =>
      rw [List.flatMap_cons, List.getElem?_append_right (by rw [hf, Nat.succ_mul]; omega), hf, show (j + 1) * n + i - n = j * n + i by rw [Nat.succ_mul]; omega]
      exact ih j i x (by simpa using h) hi
/-- The cells of a row that was made by appends of whole elements. -/
theorem row_at {α : Type} (f : α → List Value) (n : Nat) (hf : ∀ x, (f x).length = n) {w : World} {base : Nat} {t : TypeId} {v : Value} {l : List α} (h : w.ownsRow base t n v l.length (l.flatMap f)) :
    (v = .slice none 0 0 ∧ l = []) ∨ ∃ g cap, v = .slice (some ⟨g, 0, none⟩) l.length cap ∧ base ≤ g ∧ g < w.heap.size ∧ l.length ≤ cap ∧ cap ≤ 9223372036854775807 ∧ ∀ j x, l[j]? = some x → ∀ i, i < n → w.cell? ⟨g, j * n + i, none⟩ = (f x)[i]? := by
  rcases h.2 with ⟨rfl, h0⟩ | ⟨g, cap, cur, hv, hb, hg, h1, h2, h3, h4⟩
  · exact .inl ⟨rfl, List.eq_nil_of_length_eq_zero h0⟩
  · refine .inr ⟨g, cap, hv, hb, (Array.getElem?_eq_some_iff.1 hg).1, h1, by unfold maxLen at h2; omega, fun j x hj i hi => ?_⟩
    have hjl : j < l.length := (List.getElem?_eq_some_iff.1 hj).1
    have hjn : j * n + i < l.length * n := by
      have := Nat.mul_le_mul_right n (Nat.succ_le_of_lt hjl)
      rw [Nat.succ_mul] at this
      omega
    have e1 : w.cell? ⟨g, j * n + i, none⟩ = cur[j * n + i]? := by simp [World.cell?, hg]
    have e2 : cur[j * n + i]? = (cur.toList.take (l.length * n))[j * n + i]? := by
      rw [List.getElem?_take_of_lt hjn]
      simp
    rw [e1, e2, h4, flat_at f n hf l j i x hj hi]
def cellsI (x : Int) : List Value := [.int .i64 x]
def cellsPrt (p : Prt) : List Value := [.int .i64 p.plot, .int .i64 p.loads]
theorem isNums_own {w : World} {base c : Nat} {t : TypeId} {a : Option Addr} {l : List Int} (h : w.ownsRow base t 1 (.slice a l.length c) l.length (l.flatMap cellsI)) : IsNums w a c l := by
  rcases row_at cellsI 1 (fun _ => rfl) h with ⟨e, rfl⟩ | ⟨g, cap, hv, _, hg, h1, h2, key⟩
  · obtain ⟨rfl, _, rfl⟩ := slice_inj e
    exact .inl rfl
  · obtain ⟨rfl, _, rfl⟩ := slice_inj hv
    refine .inr ⟨g, 0, rfl, hg, h1, h2, fun j x hj => ?_⟩
    have := key j x hj 0 (by omega)
    show w.cell? ⟨g, 0 + j * 1, none⟩ = _
    rw [Nat.zero_add]
    exact this
theorem isPrts_own {w : World} {base c : Nat} {t : TypeId} {a : Option Addr} {l : List Prt} (h : w.ownsRow base t 2 (.slice a l.length c) l.length (l.flatMap cellsPrt)) : IsPrts w a c l := by
  rcases row_at cellsPrt 2 (fun _ => rfl) h with ⟨e, rfl⟩ | ⟨g, cap, hv, _, hg, h1, h2, key⟩
  · obtain ⟨rfl, _, rfl⟩ := slice_inj e
    exact .inl rfl
  · obtain ⟨rfl, _, rfl⟩ := slice_inj hv
    refine .inr ⟨g, 0, rfl, hg, h1, h2, fun j x hj => ?_⟩
    have k0 := key j x hj 0 (by omega)
    have k1 := key j x hj 1 (by omega)
    refine ⟨?_, ?_⟩
    · show w.cell? ⟨g, 0 + j * 2, none⟩ = _
      rw [Nat.zero_add]
      exact k0
    · show w.cell? ⟨g, 0 + j * 2 + 1, none⟩ = _
      rw [Nat.zero_add]
      exact k1
theorem own_below {w w' : World} {base : Nat} {e : TypeId} {size : Nat} {v : Value} {n : Nat} {xs : List Value} (h : w.ownsRow base e size v n xs) (hb : Below w.heap.size w w') : w'.ownsRow base e size v n xs :=
  h.kept (row := none) ⟨hb.os, hb.tape, hb.output, hb.size, fun k hk _ => hb.block k hk⟩ (by cases v.ownBlock <;> simp)
end
end Go.Proofs.Ytghepojnimlafaa
namespace Go.Proofs.Ytghepojnimlafaa
section
open Go.RowKit

/-- The cells of a row that came in, as they are appended. -/
theorem news_of {α : Type} (f : α → List Value) (n : Nat) (hn : 0 < n) (hf : ∀ x, (f x).length = n) {w : World} {l : List α} {b off : Nat} (h : ∀ j x, l[j]? = some x → ∀ i u, (f x)[i]? = some u → w.cell? ⟨b, off + j * n + i, none⟩ = some u) :
    ∀ j u, (l.flatMap f)[j]? = some u → w.cell? ((⟨b, off, none⟩ : Addr).add j) = some u := by
  intro j u hu
  have hlen : (l.flatMap f).length = l.length * n := by
    clear hu h
    induction l with
    | nil => simp
    | cons x l ih => rw [List.flatMap_cons, List.length_append, hf, ih, List.length_cons, Nat.succ_mul, Nat.add_comm]
  have hj : j < l.length * n := by rw [← hlen]; exact (List.getElem?_eq_some_iff.1 hu).1
  have hq : j / n < l.length := Nat.div_lt_of_lt_mul (by rw [Nat.mul_comm]; exact hj)
  have hr : j % n < n := Nat.mod_lt _ hn
  have he : j / n * n + j % n = j := by rw [Nat.mul_comm]; exact Nat.div_add_mod j n
  have hx : l[j / n]? = some l[j / n] := List.getElem?_eq_getElem hq
  have h1 := flat_at f n hf l (j / n) (j % n) _ hx hr
  rw [he, hu] at h1
  have h2 := h (j / n) _ hx (j % n) u h1.symm
  rw [Nat.add_assoc, he] at h2
  have hadd : (⟨b, off, none⟩ : Addr).add j = ⟨b, off + j, none⟩ := by unfold Addr.add; split <;> simp_all
  rw [hadd]
  exact h2
theorem flat_len {α : Type} (f : α → List Value) (n : Nat) (hf : ∀ x, (f x).length = n) (l : List α) : (l.flatMap f).length = l.length * n := by
  induction l with
  | nil => simp
  | cons x l ih => rw [List.flatMap_cons, List.length_append, hf, ih, List.length_cons, Nat.succ_mul, Nat.add_comm]


def cellsHep (h : Hep) : List Value := [.string h.name, .int .i64 h.crop, .int .i64 h.stage, .slice h.pa h.parts.length h.pc, .int .i64 h.per, .int .i64 h.wlo, .int .i64 h.whi]
theorem info_heap : ((Try.prog : Program).info? 77).map (fun i => (i.zero, i.size, i.bytes)) = some (some (.agg #[.string ⟨#[]⟩, .int .i64 0, .int .i64 0, .slice none 0 0, .int .i64 0, .int .i64 0, .int .i64 0]), 7, 80) := by kernel_rfl

set_option maxRecDepth 100000 in
set_option maxHeartbeats 4000000 in
theorem cloneInts_any (a : Option Addr) (c : Nat) (l : List Int) (w : World) (hl : IsNums w a c l) (hlen : l.length ≤ 100000) :
    Calls Try.prog 26 #[.slice a l.length c] w fun e w' => (∃ a' c', e = .returned (.slice a' l.length c') ∧ w'.ownsRow w.heap.size 3 1 (.slice a' l.length c') l.length (l.flatMap cellsI)) ∧ Below w.heap.size w w' := by
  obtain ⟨i0, hi, hz0, hz1, hz2⟩ := info_parts info_int'
  have hb1 : Below w.heap.size w (w.alloc (.cells #[] 3)) := (Below.refl _ w).alloc (by simp) _
  have hown1 : (w.alloc (.cells #[] 3)).ownsRow w.heap.size 3 1 (.slice (some ⟨w.heap.size, 0, none⟩) 0 0) 0 [] := World.ownsRow_lit w #[] 0 (Nat.le_refl _) (by unfold maxLen; omega) rfl
  cases a with
  | none =>
    have h0 : l = [] := by
      rcases hl with h | ⟨_, _, h, _⟩
      · exact h
      · cases h
    subst h0
    have heq := fun w' => Lib.run_eql_slice_nil (P := Try.prog) w' 41 3 none 0 c 0 0 Try.underlying41
    simp only [Option.isNone_none] at heq
    go_enter Try.func26, Try.ntmps26
    go_wp2_with fail
    go_ret
    exact ⟨⟨none, 0, rfl, World.ownsRow_nil _ _ _ _⟩, Below.refl _ _⟩
  | some p =>
    have heq := fun w' n => Lib.run_eql_slice_nil (P := Try.prog) w' 41 3 (some p) n c 0 0 Try.underlying41
    simp only [Option.isNone_some] at heq
    by_cases h0 : l = []
    · subst h0
      have hap : ∀ w', (Builtin.append_ #[41, 41] 41 #[.slice (some ⟨w.heap.size, 0, none⟩) 0 0, .slice (some p) 0 c]).run Try.prog w' = .ok (.slice (some ⟨w.heap.size, 0, none⟩) 0 0) w' := fun w' =>
        run_append_nothing w' _ _ _ 3 i0 Try.underlying41 hi _ 0 0 (Nat.le_refl _) _ (Src.ofSlice w' Try.underlying41 p 0 c [] (by simp) (fun j u h => by simp at h) (fun u h => by cases h))
      go_enter Try.func26, Try.ntmps26
      go_wp2_with (rw [hap])
      go_ret
      exact ⟨⟨_, _, rfl, hown1⟩, hb1⟩
    · obtain ⟨b, off, hea, hlt, h1, h2, hp⟩ : ∃ b off, some p = some ⟨b, off, none⟩ ∧ b < w.heap.size ∧ l.length ≤ c ∧ c ≤ 9223372036854775807 ∧ ∀ j x, l[j]? = some x → ∀ i u, (cellsI x)[i]? = some u → w.cell? ⟨b, off + j * 1 + i, none⟩ = some u := by
        rcases hl with h | ⟨b, off, h, k1, k2, k3, k4⟩
        · exact absurd h h0
        · exact ⟨b, off, h, k1, k2, k3, fun j x hj => fun i u hu => by
            obtain ⟨rfl, rfl⟩ : i = 0 ∧ u = .int .i64 x := by
              cases i with
              | zero => exact ⟨rfl, by simpa [cellsI] using hu.symm⟩
              | succ i => simp [cellsI] at hu
            exact k4 j x hj⟩
      obtain rfl : p = ⟨b, off, none⟩ := by injection hea
      have hpos : 0 < l.length := by cases l with | nil => exact absurd rfl h0 | cons _ _ => simp
      have hnews : ∀ j u, (l.flatMap cellsI)[j]? = some u → (w.alloc (.cells #[] 3)).cell? ((⟨b, off, none⟩ : Addr).add j) = some u := fun j u hu => by
        have hadd : (⟨b, off, none⟩ : Addr).add j = ⟨b, off + j, none⟩ := by unfold Addr.add; split <;> simp_all
        have := news_of cellsI 1 (by omega) (fun _ => rfl) hp j u hu
        rw [hadd] at this ⊢
        exact (hb1.cell (p := ⟨b, off + j, none⟩) hlt).trans this
      have hone : ∀ u ∈ l.flatMap cellsI, u.oneCell' = true := fun u hu => by
        obtain ⟨x, _, hx⟩ := List.mem_flatMap.1 hu
        obtain rfl : u = .int .i64 x := by simpa [cellsI] using hx
        rfl
      have HNEWS := Lib.hid hnews
      have HOWN := Lib.hid hown1
      have HONE := Lib.hid hone
      have HFL := Lib.hid (flat_len cellsI 1 (fun _ => rfl) l)
      have HB := Lib.hid hb1
      clear hl hp hnews hown1 hone hb1
      go_enter Try.func26, Try.ntmps26
      go_wp2_with (at_builtin; refine wpList_append_lies _ rfl _ _ 41 rfl w.heap.size 3 i0 (.int .i64 0) 1 8 Try.underlying41 hi hz0 hz1 hz2 rfl (by decide) (.slice (some ⟨w.heap.size, 0, none⟩) 0 0) 0 [] rfl HOWN.out ⟨b, off, none⟩ l.length c (l.flatMap cellsI) rfl HFL.out HNEWS.out HONE.out hpos (by unfold maxLen; omega) (by omega) (by simp) _ rfl ?_; intro g cap w6 hown6 hgrow hat hlt6; have HO6 := Lib.hid hown6; have HG6 := Lib.hid hgrow; clear hown6 hgrow hat hlt6)
      go_ret
      have ho := HO6.out
      rw [Nat.zero_add, List.nil_append] at ho
      exact ⟨⟨_, _, rfl, ho⟩, HB.out.grown HG6.out (by simp) (fun k e => by simp [Value.ownBlock] at e; omega)⟩

set_option maxRecDepth 100000 in
set_option maxHeartbeats 4000000 in
theorem clonePrts_any (a : Option Addr) (c : Nat) (l : List Prt) (w : World) (hl : IsPrts w a c l) (hlen : l.length ≤ 100000) :
    Calls Try.prog 28 #[.slice a l.length c] w fun e w' => (∃ a' c', e = .returned (.slice a' l.length c') ∧ w'.ownsRow w.heap.size 80 2 (.slice a' l.length c') l.length (l.flatMap cellsPrt)) ∧ Below w.heap.size w w' := by
  obtain ⟨i0, hi, hz0, hz1, hz2⟩ := info_parts info_portion
  have hb1 : Below w.heap.size w (w.alloc (.cells #[] 80)) := (Below.refl _ w).alloc (by simp) _
  have hown1 : (w.alloc (.cells #[] 80)).ownsRow w.heap.size 80 2 (.slice (some ⟨w.heap.size, 0, none⟩) 0 0) 0 [] := World.ownsRow_lit w #[] 0 (Nat.le_refl _) (by unfold maxLen; omega) rfl
  cases a with
  | none =>
    have h0 : l = [] := by
      rcases hl with h | ⟨_, _, h, _⟩
      · exact h
      · cases h
    subst h0
    have heq := fun w' => Lib.run_eql_slice_nil (P := Try.prog) w' 43 80 none 0 c 0 0 Try.underlying43
    simp only [Option.isNone_none] at heq
    go_enter Try.func28, Try.ntmps28
    go_wp2_with fail
    go_ret
    exact ⟨⟨none, 0, rfl, World.ownsRow_nil _ _ _ _⟩, Below.refl _ _⟩
  | some p =>
    have heq := fun w' n => Lib.run_eql_slice_nil (P := Try.prog) w' 43 80 (some p) n c 0 0 Try.underlying43
    simp only [Option.isNone_some] at heq
    by_cases h0 : l = []
    · subst h0
      have hap : ∀ w', (Builtin.append_ #[43, 43] 43 #[.slice (some ⟨w.heap.size, 0, none⟩) 0 0, .slice (some p) 0 c]).run Try.prog w' = .ok (.slice (some ⟨w.heap.size, 0, none⟩) 0 0) w' := fun w' =>
        run_append_nothing w' _ _ _ 80 i0 Try.underlying43 hi _ 0 0 (Nat.le_refl _) _ (Src.ofSlice w' Try.underlying43 p 0 c [] (by simp) (fun j u h => by simp at h) (fun u h => by cases h))
      go_enter Try.func28, Try.ntmps28
      go_wp2_with (rw [hap])
      go_ret
      exact ⟨⟨_, _, rfl, hown1⟩, hb1⟩
    · obtain ⟨b, off, hea, hlt, h1, h2, hp⟩ : ∃ b off, some p = some ⟨b, off, none⟩ ∧ b < w.heap.size ∧ l.length ≤ c ∧ c ≤ 9223372036854775807 ∧ ∀ j x, l[j]? = some x → ∀ i u, (cellsPrt x)[i]? = some u → w.cell? ⟨b, off + j * 2 + i, none⟩ = some u := by
        rcases hl with h | ⟨b, off, h, k1, k2, k3, k4⟩
        · exact absurd h h0
        · exact ⟨b, off, h, k1, k2, k3, fun j x hj => fun i u hu => by
            obtain ⟨z0, z1⟩ := k4 j x hj
            match i, hu with
            | 0, hu => obtain rfl : u = .int .i64 x.plot := by simpa [cellsPrt] using hu.symm
                       exact z0
            | 1, hu => obtain rfl : u = .int .i64 x.loads := by simpa [cellsPrt] using hu.symm
                       exact z1
            | i + 2, hu => simp [cellsPrt] at hu⟩
      obtain rfl : p = ⟨b, off, none⟩ := by injection hea
      have hpos : 0 < l.length := by cases l with | nil => exact absurd rfl h0 | cons _ _ => simp
      have hnews : ∀ j u, (l.flatMap cellsPrt)[j]? = some u → (w.alloc (.cells #[] 80)).cell? ((⟨b, off, none⟩ : Addr).add j) = some u := fun j u hu => by
        have hadd : (⟨b, off, none⟩ : Addr).add j = ⟨b, off + j, none⟩ := by unfold Addr.add; split <;> simp_all
        have := news_of cellsPrt 2 (by omega) (fun _ => rfl) hp j u hu
        rw [hadd] at this ⊢
        exact (hb1.cell (p := ⟨b, off + j, none⟩) hlt).trans this
      have hone : ∀ u ∈ l.flatMap cellsPrt, u.oneCell' = true := fun u hu => by
        obtain ⟨x, _, hx⟩ := List.mem_flatMap.1 hu
        rcases (show u = .int .i64 x.plot ∨ u = .int .i64 x.loads by simpa [cellsPrt] using hx) with rfl | rfl
        · rfl
        · rfl
      have HNEWS := Lib.hid hnews
      have HOWN := Lib.hid hown1
      have HONE := Lib.hid hone
      have HFL := Lib.hid (flat_len cellsPrt 2 (fun _ => rfl) l)
      have HB := Lib.hid hb1
      clear hl hp hnews hown1 hone hb1
      go_enter Try.func28, Try.ntmps28
      go_wp2_with (at_builtin; refine wpList_append_lies _ rfl _ _ 43 rfl w.heap.size 80 i0 (.agg #[.int .i64 0, .int .i64 0]) 2 16 Try.underlying43 hi hz0 hz1 hz2 rfl (by decide) (.slice (some ⟨w.heap.size, 0, none⟩) 0 0) 0 [] rfl HOWN.out ⟨b, off, none⟩ l.length c (l.flatMap cellsPrt) rfl HFL.out HNEWS.out HONE.out hpos (by unfold maxLen; omega) (by omega) (by simp) _ rfl ?_; intro g cap w6 hown6 hgrow hat hlt6; have HO6 := Lib.hid hown6; have HG6 := Lib.hid hgrow; clear hown6 hgrow hat hlt6)
      go_ret
      have ho := HO6.out
      rw [Nat.zero_add, List.nil_append] at ho
      exact ⟨⟨_, _, rfl, ho⟩, HB.out.grown HG6.out (by simp) (fun k e => by simp [Value.ownBlock] at e; omega)⟩

set_option maxRecDepth 100000 in
set_option maxHeartbeats 4000000 in
theorem cloneHeps_any (a : Option Addr) (c : Nat) (l : List Hep) (w : World) (hl : IsHeps w a c l) (hlen : l.length ≤ 100000) :
    Calls Try.prog 27 #[.slice a l.length c] w fun e w' => (∃ a' c', e = .returned (.slice a' l.length c') ∧ w'.ownsRow w.heap.size 77 7 (.slice a' l.length c') l.length (l.flatMap cellsHep)) ∧ Below w.heap.size w w' := by
  obtain ⟨i0, hi, hz0, hz1, hz2⟩ := info_parts info_heap
  have hb1 : Below w.heap.size w (w.alloc (.cells #[] 77)) := (Below.refl _ w).alloc (by simp) _
  have hown1 : (w.alloc (.cells #[] 77)).ownsRow w.heap.size 77 7 (.slice (some ⟨w.heap.size, 0, none⟩) 0 0) 0 [] := World.ownsRow_lit w #[] 0 (Nat.le_refl _) (by unfold maxLen; omega) rfl
  cases a with
  | none =>
    have h0 : l = [] := by
      rcases hl with h | ⟨_, _, h, _⟩
      · exact h
      · cases h
    subst h0
    have heq := fun w' => Lib.run_eql_slice_nil (P := Try.prog) w' 42 77 none 0 c 0 0 Try.underlying42
    simp only [Option.isNone_none] at heq
    go_enter Try.func27, Try.ntmps27
    go_wp2_with fail
    go_ret
    exact ⟨⟨none, 0, rfl, World.ownsRow_nil _ _ _ _⟩, Below.refl _ _⟩
  | some p =>
    have heq := fun w' n => Lib.run_eql_slice_nil (P := Try.prog) w' 42 77 (some p) n c 0 0 Try.underlying42
    simp only [Option.isNone_some] at heq
    by_cases h0 : l = []
    · subst h0
      have hap : ∀ w', (Builtin.append_ #[42, 42] 42 #[.slice (some ⟨w.heap.size, 0, none⟩) 0 0, .slice (some p) 0 c]).run Try.prog w' = .ok (.slice (some ⟨w.heap.size, 0, none⟩) 0 0) w' := fun w' =>
        run_append_nothing w' _ _ _ 77 i0 Try.underlying42 hi _ 0 0 (Nat.le_refl _) _ (Src.ofSlice w' Try.underlying42 p 0 c [] (by simp) (fun j u h => by simp at h) (fun u h => by cases h))
      go_enter Try.func27, Try.ntmps27
      go_wp2_with (rw [hap])
      go_ret
      exact ⟨⟨_, _, rfl, hown1⟩, hb1⟩
    · obtain ⟨b, off, hea, hlt, h1, h2, hp⟩ : ∃ b off, some p = some ⟨b, off, none⟩ ∧ b < w.heap.size ∧ l.length ≤ c ∧ c ≤ 9223372036854775807 ∧ ∀ j x, l[j]? = some x → ∀ i u, (cellsHep x)[i]? = some u → w.cell? ⟨b, off + j * 7 + i, none⟩ = some u := by
        rcases hl with h | ⟨b, off, h, k1, k2, k3, k4⟩
        · exact absurd h h0
        · exact ⟨b, off, h, k1, k2, k3, fun j x hj => fun i u hu => by
            obtain ⟨⟨z0, z1, z2, z3, z4, z5, z6⟩, _, _⟩ := k4 j x hj
            match i, hu with
            | 0, hu => obtain rfl : u = .string x.name := by simpa [cellsHep] using hu.symm
                       exact z0
            | 1, hu => obtain rfl : u = .int .i64 x.crop := by simpa [cellsHep] using hu.symm
                       exact z1
            | 2, hu => obtain rfl : u = .int .i64 x.stage := by simpa [cellsHep] using hu.symm
                       exact z2
            | 3, hu => obtain rfl : u = .slice x.pa x.parts.length x.pc := by simpa [cellsHep] using hu.symm
                       exact z3
            | 4, hu => obtain rfl : u = .int .i64 x.per := by simpa [cellsHep] using hu.symm
                       exact z4
            | 5, hu => obtain rfl : u = .int .i64 x.wlo := by simpa [cellsHep] using hu.symm
                       exact z5
            | 6, hu => obtain rfl : u = .int .i64 x.whi := by simpa [cellsHep] using hu.symm
                       exact z6
            | i + 7, hu => simp [cellsHep] at hu⟩
      obtain rfl : p = ⟨b, off, none⟩ := by injection hea
      have hpos : 0 < l.length := by cases l with | nil => exact absurd rfl h0 | cons _ _ => simp
      have hnews : ∀ j u, (l.flatMap cellsHep)[j]? = some u → (w.alloc (.cells #[] 77)).cell? ((⟨b, off, none⟩ : Addr).add j) = some u := fun j u hu => by
        have hadd : (⟨b, off, none⟩ : Addr).add j = ⟨b, off + j, none⟩ := by unfold Addr.add; split <;> simp_all
        have := news_of cellsHep 7 (by omega) (fun _ => rfl) hp j u hu
        rw [hadd] at this ⊢
        exact (hb1.cell (p := ⟨b, off + j, none⟩) hlt).trans this
      have hone : ∀ u ∈ l.flatMap cellsHep, u.oneCell' = true := fun u hu => by
        obtain ⟨x, _, hx⟩ := List.mem_flatMap.1 hu
        rcases (show u = .string x.name ∨ u = .int .i64 x.crop ∨ u = .int .i64 x.stage ∨ u = .slice x.pa x.parts.length x.pc ∨ u = .int .i64 x.per ∨ u = .int .i64 x.wlo ∨ u = .int .i64 x.whi by simpa [cellsHep] using hx) with rfl | rfl | rfl | rfl | rfl | rfl | rfl
        all_goals rfl
      have HNEWS := Lib.hid hnews
      have HOWN := Lib.hid hown1
      have HONE := Lib.hid hone
      have HFL := Lib.hid (flat_len cellsHep 7 (fun _ => rfl) l)
      have HB := Lib.hid hb1
      clear hl hp hnews hown1 hone hb1
      go_enter Try.func27, Try.ntmps27
      go_wp2_with (at_builtin; refine wpList_append_lies _ rfl _ _ 42 rfl w.heap.size 77 i0 (.agg #[.string ⟨#[]⟩, .int .i64 0, .int .i64 0, .slice none 0 0, .int .i64 0, .int .i64 0, .int .i64 0]) 7 80 Try.underlying42 hi hz0 hz1 hz2 rfl (by decide) (.slice (some ⟨w.heap.size, 0, none⟩) 0 0) 0 [] rfl HOWN.out ⟨b, off, none⟩ l.length c (l.flatMap cellsHep) rfl HFL.out HNEWS.out HONE.out hpos (by unfold maxLen; omega) (by omega) (by simp) _ rfl ?_; intro g cap w6 hown6 hgrow hat hlt6; have HO6 := Lib.hid hown6; have HG6 := Lib.hid hgrow; clear hown6 hgrow hat hlt6)
      go_ret
      have ho := HO6.out
      rw [Nat.zero_add, List.nil_append] at ho
      exact ⟨⟨_, _, rfl, ho⟩, HB.out.grown HG6.out (by simp) (fun k e => by simp [Value.ownBlock] at e; omega)⟩
end
end Go.Proofs.Ytghepojnimlafaa
namespace Go.Proofs.Ytghepojnimlafaa
section
open Go.RowKit

theorem isHeps_own {w : World} {base c : Nat} {t : TypeId} {a : Option Addr} {l : List Hep} (h : w.ownsRow base t 7 (.slice a l.length c) l.length (l.flatMap cellsHep)) (hp : ∀ x ∈ l, IsPrts w x.pa x.pc x.parts ∧ x.name.size ≤ maxLen) : IsHeps w a c l := by
  rcases row_at cellsHep 7 (fun _ => rfl) h with ⟨e, rfl⟩ | ⟨g, cap, hv, _, hg, h1, h2, key⟩
  · obtain ⟨rfl, _, rfl⟩ := slice_inj e
    exact .inl rfl
  · obtain ⟨rfl, _, rfl⟩ := slice_inj hv
    refine .inr ⟨g, 0, rfl, hg, h1, h2, fun j x hj => ?_⟩
    have k := fun i hi => key j x hj i hi
    obtain ⟨p1, p2⟩ := hp x (List.mem_of_getElem? hj)
    refine ⟨⟨?_, ?_, ?_, ?_, ?_, ?_, ?_⟩, p1, p2⟩
    all_goals rw [Nat.zero_add]
    · exact k 0 (by omega)
    · exact k 1 (by omega)
    · exact k 2 (by omega)
    · exact k 3 (by omega)
    · exact k 4 (by omega)
    · exact k 5 (by omega)
    · exact k 6 (by omega)
/-- The blocks of a store's rows. -/
def rowsOf (S : Sto) : List Nat := ([S.la, S.ga, S.ha, S.ua, S.wa] ++ S.heaps.map (·.pa)).filterMap (·.map (·.block))
/-- A store whose rows are own ones from a base on, and apart from one another. -/
structure OwnSto (base : Nat) (w : World) (S : Sto) : Prop where
  last : w.ownsRow base 3 1 (.slice S.la S.last.length S.lc) S.last.length (S.last.flatMap cellsI)
  given : w.ownsRow base 3 1 (.slice S.ga S.given.length S.gc) S.given.length (S.given.flatMap cellsI)
  heaps : w.ownsRow base 77 7 (.slice S.ha S.heaps.length S.hc) S.heaps.length (S.heaps.flatMap cellsHep)
  parts : ∀ h ∈ S.heaps, w.ownsRow base 80 2 (.slice h.pa h.parts.length h.pc) h.parts.length (h.parts.flatMap cellsPrt)
  used : w.ownsRow base 80 2 (.slice S.ua S.used.length S.uc) S.used.length (S.used.flatMap cellsPrt)
  waste : w.ownsRow base 80 2 (.slice S.wa S.waste.length S.wc) S.waste.length (S.waste.flatMap cellsPrt)
  names : ∀ h ∈ S.heaps, h.name.size ≤ maxLen
  apart : (rowsOf S).Nodup
theorem OwnSto.store {base : Nat} {w : World} {S : Sto} (h : OwnSto base w S) : IsStore w S :=
  ⟨isNums_own h.last, isNums_own h.given, isHeps_own h.heaps fun x hx => ⟨isPrts_own (h.parts x hx), h.names x hx⟩, isPrts_own h.used, isPrts_own h.waste⟩
theorem OwnSto.below {base : Nat} {w w' : World} {S : Sto} (h : OwnSto base w S) (hb : Below w.heap.size w w') : OwnSto base w' S :=
  ⟨own_below h.last hb, own_below h.given hb, own_below h.heaps hb, fun x hx => own_below (h.parts x hx) hb, own_below h.used hb, own_below h.waste hb, h.names, h.apart⟩
/-- Each row lies at or above the base. -/
theorem OwnSto.ge {base : Nat} {w : World} {S : Sto} (h : OwnSto base w S) : ∀ k ∈ rowsOf S, base ≤ k ∧ k < w.heap.size := by
  have key : ∀ {t : TypeId} {sz n c : Nat} {a : Option Addr} {xs : List Value}, w.ownsRow base t sz (.slice a n c) n xs → ∀ k, a.map (·.block) = some k → base ≤ k ∧ k < w.heap.size := fun hr k hk => hr.lt k (by rw [rowOf_own']; exact hk)
  intro k hk
  simp only [rowsOf, List.mem_filterMap, List.mem_append, List.mem_cons, List.mem_map, List.not_mem_nil, or_false] at hk
  obtain ⟨a, ha, hk⟩ := hk
  rcases ha with (rfl | rfl | rfl | rfl | rfl) | ⟨x, hx, rfl⟩
  · exact key h.last k hk
  · exact key h.given k hk
  · exact key h.heaps k hk
  · exact key h.used k hk
  · exact key h.waste k hk
  · exact key (h.parts x hx) k hk
end
end Go.Proofs.Ytghepojnimlafaa
namespace Go.Proofs.Ytghepojnimlafaa
section
open Go.RowKit

abbrev hepV (h : Hep) : Value := .agg #[.string h.name, .int .i64 h.crop, .int .i64 h.stage, .slice h.pa h.parts.length h.pc, .int .i64 h.per, .int .i64 h.wlo, .int .i64 h.whi]


theorem isFromStage_any (n lo hi : Int) (w : World) :
    Calls Try.prog 60 #[.int .i64 n, .int .i64 lo, .int .i64 hi] w fun e w' => e = .returned (.bool (isFromB n lo hi)) ∧ w = w' := by
  by_cases h : lo ≤ n
  all_goals by_cases h2 : n ≤ hi
  all_goals
    go_enter Try.func60, Try.ntmps60
    go_wp2
    all_goals go_ret
    all_goals refine ⟨?_, rfl⟩
    all_goals simp [isFromB, h, h2]

theorem heapName_any (h : Hep) (nm : ByteArray) (B : Nat) (w : World) (hm : Blk w B #[.string nm] 9) :
    Calls Try.prog 59 #[.agg #[.string h.name, .int .i64 h.crop, .int .i64 h.stage, .slice h.pa h.parts.length h.pc, .int .i64 h.per, .int .i64 h.wlo, .int .i64 h.whi], .pointer (some ⟨B, 0, none⟩)] w
      fun e w' => e = .returned (.bool (strB h.name nm)) ∧ Below w.heap.size w w' := by
  have hlt : B < w.heap.size := hm.lt
  have c0 : w.cell? ⟨B, 0, none⟩ = some (.string nm) := hm.cell 0
  go_enter Try.func59, Try.ntmps59
  go_wp2
  go_ret
  exact ⟨rfl, (Below.refl _ _).alloc (Nat.le_refl _) _⟩

/-- The first heap of a name, or -1. -/
def idxH (l : List Hep) (nm : ByteArray) : Int := match l.findIdx? (fun h => strB h.name nm) with | some k => k | none => -1

set_option maxRecDepth 100000 in
set_option maxHeartbeats 1000000 in
theorem indexH_any (a : Option Addr) (cap B : Nat) (l : List Hep) (nm : ByteArray) (w : World) (hs : IsHeps w a cap l) (hm : Blk w B #[.string nm] 9) :
    Calls Try.prog 58 #[.slice a l.length cap, .func (.func 59) #[] #[.pointer (some ⟨B, 0, none⟩)]] w fun e w' => e = .returned (.int .i64 (idxH l nm)) ∧ Below w.heap.size w w' := by
  have hB : B < w.heap.size := hm.lt
  have HS := Lib.hid hs
  have HM := Lib.hid hm
  clear hm hs
  go_enter Try.func58, Try.ntmps58
  go_wp2_with fail
  go_loopw [8, 5] (fun i _ wr => ∃ j : Nat, j ≤ l.length ∧ i = .int .i64 j ∧ (∀ f ∈ l.take j, strB f.name nm = false) ∧ Below w.heap.size w wr) (fun i _ _ => l.length - (intOf i).toNat)
  case atStart => exact ⟨0, Nat.zero_le _, rfl, by simp, Below.refl _ _⟩
  case round =>
    obtain ⟨j, hj, rfl, hno, g2⟩ := hrel
    by_cases hlj : j < l.length
    · have hq : l[j]? = some l[j] := List.getElem?_eq_getElem hlj
      have htk : l.take (j + 1) = l.take j ++ [l[j]] := by rw [List.take_add_one, hq]; rfl
      obtain ⟨b, off, hea, hblt, hcap, hcx, ⟨c0, c1, c2, c3, c4, c5, c6⟩, _, _⟩ := (HS.out.belowS g2).at hq
      subst hea
      generalize l[j] = q at *
      have HQ := Lib.hid hq
      have HT := Lib.hid htk
      have HN := Lib.hid hno
      clear hq htk hno
      have hj0 : (0 : Int) ≤ (j : Int) := Int.natCast_nonneg _
      have hj1 : (j : Int) < (l.length : Int) := by omega
      go_wp2_with fail
      refine (heapName_any q nm B _ (HM.out.belowS g2)).mono ?_
      rintro e w1 ⟨rfl, hb1⟩
      have hb2 := g2.trans (hb1.mono g2.size)
      cases hst : strB q.name nm with
      | true =>
        have hv : idxH l nm = j := by rw [idxH, findIdx_at l _ j q HQ.out hst HN.out]
        have HV := Lib.hid hv
        clear hv
        go_wp2_with fail
        go_ret
        exact ⟨by rw [HV.out]; rfl, hb2⟩
      | false =>
        have HSt := Lib.hid hst
        go_wp2_with fail
        refine ⟨⟨j + 1, by omega, by simp, ?_, hb2⟩, by simp [intOf]; omega⟩
        intro x hx
        rw [HT.out] at hx
        rcases List.mem_append.1 hx with hx | hx
        · exact HN.out x hx
        · obtain rfl := List.mem_singleton.1 hx
          exact HSt.out
    · obtain rfl : j = l.length := by omega
      rw [List.take_length] at hno
      have hv : idxH l nm = -1 := by rw [idxH, findIdx_none_take l _ hno]
      have HV := Lib.hid hv
      clear hv hno
      go_wp2_with fail
      go_ret
      exact ⟨by rw [HV.out]; rfl, g2⟩

theorem findHeap_any (a : Option Addr) (cap : Nat) (l : List Hep) (nm : ByteArray) (w : World) (hs : IsHeps w a cap l) :
    Calls Try.prog 47 #[.slice a l.length cap, .string nm] w fun e w' => e = .returned (.int .i64 (idxH l nm)) ∧ Below w.heap.size w w' := by
  have hB : Below w.heap.size w (w.alloc (.cells #[.string nm] 9)) := (Below.refl _ _).alloc (Nat.le_refl _) _
  have hk := Blk.new w 9 #[.string nm]
  have HS := Lib.hid hs
  clear hs
  go_enter Try.func47, Try.ntmps47
  go_wp2_with fail
  refine (indexH_any a cap w.heap.size l nm _ (HS.out.belowS hB) hk).mono ?_
  rintro e w1 ⟨rfl, hb1⟩
  have hb2 := hB.trans (hb1.mono hB.size)
  go_wp2_with fail
  go_ret
  exact ⟨rfl, hb2⟩

theorem idxH_none {l : List Hep} {nm : ByteArray} (h : ∀ f ∈ l, strB f.name nm = false) : decide (0 ≤ idxH l nm) = false := by
  rw [idxH, findIdx_none_take l _ h]
  rfl
theorem idxH_some {l : List Hep} {nm : ByteArray} {q : Hep} {k : Nat} (hk : l[k]? = some q) (h : strB q.name nm = true) : decide (0 ≤ idxH l nm) = true := by
  unfold idxH
  cases hf : l.findIdx? (fun f => strB f.name nm) with
  | none =>
    rw [List.findIdx?_eq_none_iff] at hf
    rw [hf q (List.mem_of_getElem? hk)] at h
    cases h
  | some i => simp

/-- The crop of a field, by its number. -/
def cropAt (ps : List Plt) (k : Int) : Int := match ps[k.toNat]? with | some q => q.crop | none => 0
/-- A part is of another crop. -/
def offB (ps : List Plt) (c : Int) (p : Prt) : Bool := !(cropAt ps p.plot == c)
def cropsB (ps : List Plt) (c : Int) (l : List Prt) : Bool := l.all fun p => !offB ps c p
theorem IsPlts.at {w : World} {a : Option Addr} {cap : Nat} {l : List Plt} (h : IsPlts w (.slice a l.length cap) l) {j : Nat} {x : Plt} (hj : l[j]? = some x) :
    ∃ b off, a = some ⟨b, off, none⟩ ∧ b < w.heap.size ∧ l.length ≤ cap ∧ cap ≤ 9223372036854775807 ∧ PltAt w b (off + j * 9) x := by
  rcases h with ⟨_, rfl⟩ | ⟨b, off, c, e, hl, hc, hc', hp⟩
  · simp at hj
  · obtain ⟨rfl, _, rfl⟩ := slice_inj e
    exact ⟨b, off, rfl, hl, hc, hc', (hp j x hj).1⟩

set_option maxRecDepth 100000 in
set_option maxHeartbeats 4000000 in
theorem partOff_any (F : Frm) (h : Hep) (p : Prt) (B D : Nat) (w : World) (hF : IsFarm w F) (hB : Blk w B #[.slice F.pa F.ps.length F.pc, .int .i64 F.dry] 24) (hD : Blk w D (hepC h) 77) (hp : p.ok F.ps.length) (_ : F.ps.length ≤ 12) :
    Calls Try.prog 62 #[.agg #[.int .i64 p.plot, .int .i64 p.loads], .pointer (some ⟨B, 0, none⟩), .pointer (some ⟨D, 0, none⟩)] w
      fun e w' => e = .returned (.bool (offB F.ps h.crop p)) ∧ Below w.heap.size w w' := by
  obtain ⟨⟨h0, h1⟩, _⟩ := hp
  obtain ⟨k, hk⟩ : ∃ k : Nat, p.plot = (k : Int) := ⟨p.plot.toNat, by omega⟩
  have hkl : k < F.ps.length := by omega
  have hq : F.ps[k]? = some F.ps[k] := List.getElem?_eq_getElem hkl
  have hv : offB F.ps h.crop p = !(F.ps[k].crop == h.crop) := by rw [offB, cropAt, hk, Int.toNat_natCast, hq]
  rw [hv, hk]
  have kP := Blk.new w 80 #[.int .i64 (k : Int), .int .i64 p.loads]
  have hb : Below w.heap.size w (w.alloc (.cells #[.int .i64 (k : Int), .int .i64 p.loads] 80)) := (Below.refl _ _).alloc (Nat.le_refl _) _
  have hF1 := IsFarm.below hF hb
  obtain ⟨b, off, hea, hblt, hcap, hcx, p0, p1, _⟩ := IsPlts.at hF1 hq
  have kB := hB.belowS hb
  have kD := hD.belowS hb
  have l1 := kB.lt
  have l2 := kD.lt
  have l3 := kP.lt
  have hneq : ∀ x y : Int, (x != y) = !(x == y) := fun _ _ => rfl
  rw [hea] at kB
  have e0 := kB.cell 0
  have e1 := kD.cell 1
  have e2 := kP.cell 0
  simp only [List.getElem?_toArray, List.getElem?_cons_zero, List.getElem?_cons_succ] at e0 e1 e2
  have hk0 : (0 : Int) ≤ (k : Int) := Int.natCast_nonneg _
  have hk1 : (k : Int) < (F.ps.length : Int) := by omega
  generalize F.ps[k] = q at *
  clear hv hF hF1 hB hD kB kD kP hq
  go_enter Try.func62, Try.ntmps62
  go_upto_region 1 with fail
  generalize (w.alloc (.cells #[.int .i64 (k : Int), .int .i64 p.loads] 80)) = w1 at *
  go_quiet (fail)
  go_wp2_with fail
  go_ret
  exact ⟨rfl, hb.trans (below_drewN' _ _ _)⟩
end
end Go.Proofs.Ytghepojnimlafaa
