/- Leaf functions of package straw: numbers in a range, names, fields in memory, a field found by its name. -/
import Derived.Test.YtfhalmlpnoepcaaGreatFM
import Derived.Test.YtfhalmlpnoepcaaGreatRows
import Derived.WalkKit
import Derived.ProofKit
import Derived.Deep.QuietTactic
import Derived.Deep.RegionHeld3
import Derived.BigQuiet
import Derived.Lib.Hide
import Derived.Shelf.Abstract
import Derived.Shelf.RegionOpen
import Derived.RangeFuncNested
import Derived.RangeFuncBound
import Derived.RangeFuncCalls
import Derived.RangeFuncLeaves
import Derived.OwnWalkIn
import Derived.TacticsInMore
import Derived.LoopNIn
import Derived.LoopIn
namespace Go.Proofs.YtfhalmlpnoepcaaGreat
open Go.RowKit

def Blk (W : World) (B : Nat) (cs : Array Value) (t : TypeId) : Prop := W.heap[B]? = some (.cells cs t (0, 0))
theorem Blk.lt {W : World} {B : Nat} {cs : Array Value} {t : TypeId} (h : Blk W B cs t) : B < W.heap.size := (Array.getElem?_eq_some_iff.1 h).1
theorem Blk.cell {W : World} {B : Nat} {cs : Array Value} {t : TypeId} (h : Blk W B cs t) (i : Nat) : W.cell? ⟨B, i, none⟩ = cs[i]? := by simp [World.cell?, show W.heap[B]? = _ from h]
theorem Blk.frozen {W : World} {B : Nat} {cs : Array Value} {t : TypeId} (h : Blk W B cs t) (i : Nat) : W.frozen? ⟨B, i, none⟩ = false := by simp [World.frozen?, show W.heap[B]? = _ from h]
theorem Blk.new (W : World) (t : TypeId) (cs : Array Value) : Blk (W.alloc (.cells cs t)) W.heap.size cs t := World.alloc_heap_new W _
theorem Blk.kept {W W' : World} {row : Option Nat} {B : Nat} {cs : Array Value} {t : TypeId} (h : Blk W B cs t) (hg : W.grownBy W' row) (hne : some B ≠ row) : Blk W' B cs t := (hg.block B h.lt hne).trans h
theorem Blk.alloc {W : World} {B : Nat} {cs : Array Value} {t : TypeId} (h : Blk W B cs t) (o : Obj) : Blk (W.alloc o) B cs t := h.kept (World.grownBy_alloc W o none) (by simp)
theorem Blk.below {W W' : World} {B n : Nat} {cs : Array Value} {t : TypeId} (h : Blk W B cs t) (hb : Below n W W') (hn : B < n) : Blk W' B cs t := (hb.block B hn).trans h
theorem Blk.belowS {W W' : World} {B : Nat} {cs : Array Value} {t : TypeId} (h : Blk W B cs t) (hb : Below W.heap.size W W') : Blk W' B cs t := h.below hb h.lt
theorem Blk.set {W : World} {B : Nat} {cs : Array Value} {t : TypeId} (h : Blk W B cs t) (i : Nat) (v : Value) : Blk (W.setCell ⟨B, i, none⟩ v) B (cs.setIfInBounds i v) t := by
  obtain ⟨hlt, hk⟩ := Array.getElem?_eq_some_iff.1 h
  show (W.heap.modify B _)[B]? = _
  rw [Array.getElem?_eq_getElem (by rw [Array.size_modify]; exact hlt), Array.getElem_modify_self, hk]
  rfl
theorem Blk.other {W : World} {B B' i : Nat} {cs : Array Value} {t : TypeId} (h : Blk W B cs t) (hne : B ≠ B') (v : Value) : Blk (W.setCell ⟨B', i, none⟩ v) B cs t := (Below.heap_setCell W ⟨B', i, none⟩ v B hne).trans h
theorem Blk.putObj {W : World} {B D : Nat} {cs : Array Value} {t : TypeId} {o : Obj} (h : Blk W B cs t) (o' : Obj) (hK : W.heap[D]? = some o) (ho : o.isCells = false) : Blk (W.putObj D o') B cs t :=
  (World.putObj_heap_other (fun e => by rw [← e, show W.heap[B]? = _ from h] at hK; cases hK; cases ho)).trans h
theorem Blk.drew {W : World} {B : Nat} {cs : Array Value} {t : TypeId} (h : Blk W B cs t) : Blk W.drew B cs t := h.below (Below.refl _ _).drew h.lt
theorem take_all_succ {α : Type} (l : List α) (f : α → Bool) (j : Nat) (q : α) (h : l[j]? = some q) : (l.take (j + 1)).all f = ((l.take j).all f && f q) := by
  rw [List.take_add_one, h]
  simp

theorem slice_inj {a : Option Addr} {n c : Nat} {a' : Option Addr} {n' c' : Nat} (h : Value.slice a n c = .slice a' n' c') : a = a' ∧ n = n' ∧ c = c' := by injection h with h1 h2 h3; exact ⟨h1, h2, h3⟩
theorem findIdx_none_take {α : Type} (l : List α) (f : α → Bool) (h : ∀ x ∈ l, f x = false) : l.findIdx? f = none := by
  rw [List.findIdx?_eq_none_iff]
  exact h
theorem findIdx_at {α : Type} (l : List α) (f : α → Bool) (j : Nat) (x : α) (hj : l[j]? = some x) (hx : f x = true) (h : ∀ y ∈ l.take j, f y = false) : l.findIdx? f = some j := by
  obtain ⟨hlt, hx'⟩ := List.getElem?_eq_some_iff.1 hj
  rw [List.findIdx?_eq_some_iff_getElem]
  refine ⟨hlt, by rw [hx']; exact hx, fun i hi => ?_⟩
  have := h (l[i]'(by omega)) (by rw [List.mem_take_iff_getElem]; exact ⟨i, by omega, rfl⟩)
  simp [this]

def isFromB (n lo hi : Int) : Bool := decide (lo ≤ n) && decide (n ≤ hi)
theorem isFromB_iff {n lo hi : Int} : isFromB n lo hi = true ↔ lo ≤ n ∧ n ≤ hi := by simp [isFromB]
def isSpanB (a b lo hi : Int) : Bool := decide (lo ≤ a) && (decide (a ≤ b) && decide (b ≤ hi))
theorem isSpanB_iff {a b lo hi : Int} : isSpanB a b lo hi = true ↔ lo ≤ a ∧ a ≤ b ∧ b ≤ hi := by simp [isSpanB]

theorem isFrom_any (n lo hi : Int) (w : World) :
    Calls Tryz.prog 28 #[.int .i64 n, .int .i64 lo, .int .i64 hi] w fun e w' => e = .returned (.bool (isFromB n lo hi)) ∧ w = w' := by
  by_cases h : lo ≤ n
  all_goals by_cases h2 : n ≤ hi
  all_goals
    go_enter Tryz.func28, Tryz.ntmps28
    go_wp2
    all_goals go_ret
    all_goals refine ⟨?_, rfl⟩
    all_goals simp [isFromB, h, h2]
theorem isFromCrop_any (n lo hi : Int) (w : World) :
    Calls Tryz.prog 98 #[.int .i64 n, .int .i64 lo, .int .i64 hi] w fun e w' => e = .returned (.bool (isFromB n lo hi)) ∧ w = w' := by
  by_cases h : lo ≤ n
  all_goals by_cases h2 : n ≤ hi
  all_goals
    go_enter Tryz.func98, Tryz.ntmps98
    go_wp2
    all_goals go_ret
    all_goals refine ⟨?_, rfl⟩
    all_goals simp [isFromB, h, h2]
theorem isCrop_any (n : Int) (w : World) :
    Calls Tryz.prog 79 #[.int .i64 n] w fun e w' => e = .returned (.bool (isFromB n 1 3)) ∧ w = w' := by
  go_enter Tryz.func79, Tryz.ntmps79
  go_wp2_with fail
  refine (isFromCrop_any _ _ _ _).mono ?_
  rintro e w' ⟨rfl, rfl⟩
  go_wp2_with fail
  go_ret
  exact ⟨rfl, rfl⟩
theorem isSpan_any (a b lo hi : Int) (w : World) :
    Calls Tryz.prog 80 #[.agg #[.int .i64 a, .int .i64 b], .int .i64 lo, .int .i64 hi] w fun e w' => e = .returned (.bool (isSpanB a b lo hi)) ∧ Below w.heap.size w w' := by
  by_cases h : lo ≤ a
  all_goals by_cases h1 : a ≤ b
  all_goals by_cases h2 : b ≤ hi
  all_goals
    go_enter Tryz.func80, Tryz.ntmps80
    go_wp2_with fail
    all_goals go_ret
    all_goals refine ⟨?_, (Below.refl _ _).alloc (Nat.le_refl _) _⟩
    all_goals simp [isSpanB, h, h1, h2]

/-! Names. -/
def letterB (c : Int) : Bool := decide (97 ≤ c) && decide (c ≤ 122)
def digitB (c : Int) : Bool := decide (48 ≤ c) && decide (c ≤ 57)
/-- A letter that may not stand at place i of a name. -/
def badB (i : Nat) (c : Int) : Bool := !letterB c && (decide (i = 0) || (!digitB c && !(c == 45)))
def byteAt (s : ByteArray) (i : Nat) : Int := ((s.data[i]?.getD 0).toNat : Int)
def nameB (s : ByteArray) : Bool := decide (1 ≤ s.size) && decide (s.size ≤ 16) && (List.range s.size).all fun i => !badB i (byteAt s i)

theorem letter_any (c : Int) (w : World) : Calls Tryz.prog 95 #[.int .u8 c] w fun e w' => e = .returned (.bool (letterB c)) ∧ w = w' := by
  by_cases h : 97 ≤ c
  all_goals by_cases h2 : c ≤ 122
  all_goals
    go_enter Tryz.func95, Tryz.ntmps95
    go_wp2
    all_goals go_ret
    all_goals refine ⟨?_, rfl⟩
    all_goals simp [letterB, h, h2]
theorem digit_any (c : Int) (w : World) : Calls Tryz.prog 96 #[.int .u8 c] w fun e w' => e = .returned (.bool (digitB c)) ∧ w = w' := by
  by_cases h : 48 ≤ c
  all_goals by_cases h2 : c ≤ 57
  all_goals
    go_enter Tryz.func96, Tryz.ntmps96
    go_wp2
    all_goals go_ret
    all_goals refine ⟨?_, rfl⟩
    all_goals simp [digitB, h, h2]

set_option maxRecDepth 100000 in
set_option maxHeartbeats 1000000 in
theorem isName_any (s : ByteArray) (w : World) (hs : s.size ≤ maxLen) : Calls Tryz.prog 76 #[.string s] w fun e w' => e = .returned (.bool (nameB s)) ∧ w = w' := by
  unfold maxLen at hs
  by_cases h1 : s.size < 1
  · have hv : nameB s = false := by simp [nameB]; omega
    have HV := Lib.hid hv
    clear hv
    go_enter Tryz.func76, Tryz.ntmps76
    go_wp2_with fail
    go_ret
    exact ⟨by rw [HV.out]; rfl, rfl⟩
  · by_cases h2 : 16 < s.size
    · have hv : nameB s = false := by simp [nameB]; omega
      have HV := Lib.hid hv
      clear hv
      go_enter Tryz.func76, Tryz.ntmps76
      go_wp2_with fail
      go_ret
      exact ⟨by rw [HV.out]; rfl, rfl⟩
    · go_enter Tryz.func76, Tryz.ntmps76
      go_wp2_with fail
      go_loop [3, 4, 15] (fun _ _ i => ∃ k : Nat, k ≤ s.size ∧ i = .int .i64 k ∧ ∀ j, j < k → badB j (byteAt s j) = false) (fun _ _ i => s.size - (intOf i).toNat)
      case atStart => exact ⟨0, Nat.zero_le _, rfl, fun j h => by omega⟩
      case round =>
        obtain ⟨k, hk, rfl, hall⟩ := hrel
        by_cases hlt : k < s.size
        · have hbk : byteAt s k = (s[k].toNat : Int) := by
            unfold byteAt
            rw [Array.getElem?_eq_getElem (by simpa using hlt)]
            rfl
          have hc0 : (0 : Int) ≤ (s[k].toNat : Int) := Int.natCast_nonneg _
          have HA := Lib.hid hall
          have HB := Lib.hid hbk
          clear hall hbk
          by_cases hl : letterB (s[k].toNat : Int) = true
          · have hbad : badB k (byteAt s k) = false := by rw [HB.out]; simp [badB, hl]
            have HBAD := Lib.hid hbad
            clear hbad
            go_wp2_with (go_at_call 95; refine (letter_any _ _).mono ?_; rintro e w' ⟨rfl, rfl⟩)
            refine ⟨⟨k + 1, by omega, by simp, fun j hj => ?_⟩, by simp [intOf]; omega⟩
            by_cases hjk : j = k
            · subst hjk; exact HBAD.out
            · exact HA.out j (by omega)
          · have hl' : letterB (s[k].toNat : Int) = false := by simpa using hl
            clear hl
            by_cases h0 : k = 0
            · have hbad : nameB s = false := by
                unfold nameB
                rw [Bool.and_eq_false_iff]
                right
                rw [Bool.eq_false_iff]
                intro h
                have := List.all_eq_true.1 h k (by simpa using hlt)
                rw [HB.out] at this
                rw [badB, hl', decide_eq_true h0] at this
                simp at this
              have HBAD := Lib.hid hbad
              clear hbad
              have hk0 : ((k : Int) == 0) = true := by simp [h0]
              clear h0
              go_wp2_with (go_at_call 95; refine (letter_any _ _).mono ?_; rintro e w' ⟨rfl, rfl⟩)
              go_ret
              exact ⟨by rw [HBAD.out]; rfl, rfl⟩
            · have hk0 : ((k : Int) == 0) = false := by simp [h0]
              have H0 := Lib.hid h0
              clear h0
              by_cases hd : digitB (s[k].toNat : Int) = true
              · have hbad : badB k (byteAt s k) = false := by rw [HB.out]; simp [badB, hd, H0.out]
                have HBAD := Lib.hid hbad
                clear hbad
                go_wp2_with (first | (go_at_call 95; refine (letter_any _ _).mono ?_; rintro e w' ⟨rfl, rfl⟩) | (go_at_call 96; refine (digit_any _ _).mono ?_; rintro e w' ⟨rfl, rfl⟩))
                refine ⟨⟨k + 1, by omega, by simp, fun j hj => ?_⟩, by simp [intOf]; omega⟩
                by_cases hjk : j = k
                · subst hjk; exact HBAD.out
                · exact HA.out j (by omega)
              · have hd' : digitB (s[k].toNat : Int) = false := by simpa using hd
                clear hd
                by_cases h45 : (s[k].toNat : Int) = 45
                · have hbad : badB k (byteAt s k) = false := by rw [HB.out, h45]; simp [badB, H0.out]
                  have hq : ((s[k].toNat : Int) == 45) = true := by simpa using h45
                  have hq' : ((s[k].toNat : Int) != 45) = false := by simpa using h45
                  have HBAD := Lib.hid hbad
                  clear hbad h45
                  go_wp2_with (first | (go_at_call 95; refine (letter_any _ _).mono ?_; rintro e w' ⟨rfl, rfl⟩) | (go_at_call 96; refine (digit_any _ _).mono ?_; rintro e w' ⟨rfl, rfl⟩))
                  refine ⟨⟨k + 1, by omega, by simp, fun j hj => ?_⟩, by simp [intOf]; omega⟩
                  by_cases hjk : j = k
                  · subst hjk; exact HBAD.out
                  · exact HA.out j (by omega)
                · have hbad : nameB s = false := by
                    unfold nameB
                    rw [Bool.and_eq_false_iff]
                    right
                    rw [Bool.eq_false_iff]
                    intro h
                    have := List.all_eq_true.1 h k (by simpa using hlt)
                    rw [HB.out] at this
                    simp [badB, hl', hd', h45] at this
                  have hq : ((s[k].toNat : Int) == 45) = false := by simpa using h45
                  have hq' : ((s[k].toNat : Int) != 45) = true := by simpa using h45
                  have HBAD := Lib.hid hbad
                  clear hbad h45
                  go_wp2_with (first | (go_at_call 95; refine (letter_any _ _).mono ?_; rintro e w' ⟨rfl, rfl⟩) | (go_at_call 96; refine (digit_any _ _).mono ?_; rintro e w' ⟨rfl, rfl⟩))
                  go_ret
                  exact ⟨by rw [HBAD.out]; rfl, rfl⟩
        · obtain rfl : k = s.size := by omega
          have hv : nameB s = true := by
            unfold nameB
            rw [Bool.and_eq_true, Bool.and_eq_true]
            refine ⟨⟨decide_eq_true (by omega), decide_eq_true (by omega)⟩, List.all_eq_true.2 fun j hj => ?_⟩
            rw [hall j (by simpa using hj)]
            rfl
          have HV := Lib.hid hv
          clear hv hall
          go_wp2
          go_ret
          exact ⟨by rw [HV.out]; rfl, rfl⟩

/-! Fields in memory. -/
/-- The cells of a field at an address. -/
def PltAt (w : World) (b o : Nat) (f : Plt) : Prop :=
  w.cell? ⟨b, o, none⟩ = some (.string f.name) ∧ w.cell? ⟨b, o + 1, none⟩ = some (.int .i64 f.crop) ∧ w.cell? ⟨b, o + 2, none⟩ = some (.int .i64 f.size) ∧ w.cell? ⟨b, o + 3, none⟩ = some (.int .i64 f.ylo) ∧
    w.cell? ⟨b, o + 4, none⟩ = some (.int .i64 f.yhi) ∧ w.cell? ⟨b, o + 5, none⟩ = some (.int .i64 f.rest) ∧ w.cell? ⟨b, o + 6, none⟩ = some (.int .i64 f.wlo) ∧ w.cell? ⟨b, o + 7, none⟩ = some (.int .i64 f.whi) ∧ w.cell? ⟨b, o + 8, none⟩ = some (.int .i64 f.cost)
theorem PltAt.below {w w' : World} {B b o : Nat} {f : Plt} (h : PltAt w b o f) (hb : Below B w w') (hlt : b < B) : PltAt w' b o f := by
  have c : ∀ i, w'.cell? ⟨b, i, none⟩ = w.cell? ⟨b, i, none⟩ := fun i => hb.cell (p := ⟨b, i, none⟩) hlt
  obtain ⟨h0, h1, h2, h3, h4, h5, h6, h7, h8⟩ := h
  exact ⟨(c _).trans h0, (c _).trans h1, (c _).trans h2, (c _).trans h3, (c _).trans h4, (c _).trans h5, (c _).trans h6, (c _).trans h7, (c _).trans h8⟩
/-- A slice value that holds fields. -/
def IsPlts (w : World) (v : Value) (l : List Plt) : Prop :=
  (v = .slice none 0 0 ∧ l = []) ∨ ∃ b off cap, v = .slice (some ⟨b, off, none⟩) l.length cap ∧ b < w.heap.size ∧ l.length ≤ cap ∧ cap ≤ 9223372036854775807 ∧ ∀ j f, l[j]? = some f → PltAt w b (off + j * 9) f ∧ f.name.size ≤ maxLen
theorem IsPlts.below {w w' : World} {v : Value} {l : List Plt} (h : IsPlts w v l) (hb : Below w.heap.size w w') : IsPlts w' v l := by
  rcases h with h | ⟨b, off, cap, e, hl, hc, hc', hp⟩
  · exact .inl h
  · exact .inr ⟨b, off, cap, e, Nat.lt_of_lt_of_le hl hb.size, hc, hc', fun j f hj => ⟨(hp j f hj).1.below hb hl, (hp j f hj).2⟩⟩
theorem IsPlts.pre {w : World} {b off cap : Nat} {l : List Plt} {i : Nat} (hi : i ≤ l.length) (h2 : b < w.heap.size) (h3 : l.length ≤ cap) (h4 : cap ≤ 9223372036854775807) (h5 : ∀ j f, l[j]? = some f → PltAt w b (off + j * 9) f ∧ f.name.size ≤ maxLen) :
    IsPlts w (.slice (some ⟨b, off, none⟩) i cap) (l.take i) := by
  refine .inr ⟨b, off, cap, ?_, h2, ?_, h4, ?_⟩
  · rw [List.length_take, Nat.min_eq_left hi]
  · rw [List.length_take]; omega
  · intro j f hj
    rw [List.getElem?_take] at hj
    split at hj
    · exact h5 j f hj
    · cases hj
abbrev pltV (f : Plt) : Value := .agg #[.string f.name, .int .i64 f.crop, .int .i64 f.size, .int .i64 f.ylo, .int .i64 f.yhi, .int .i64 f.rest, .int .i64 f.wlo, .int .i64 f.whi, .int .i64 f.cost]
abbrev pltC (f : Plt) : Array Value := #[.string f.name, .int .i64 f.crop, .int .i64 f.size, .int .i64 f.ylo, .int .i64 f.yhi, .int .i64 f.rest, .int .i64 f.wlo, .int .i64 f.whi, .int .i64 f.cost]

/-- Two strings are one. -/
def strB (a b : ByteArray) : Bool := a.toList == b.toList

theorem plotName_any (f m : Plt) (B : Nat) (w : World) (hm : Blk w B (pltC m) 50) :
    Calls Tryz.prog 78 #[.agg #[.string f.name, .int .i64 f.crop, .int .i64 f.size, .int .i64 f.ylo, .int .i64 f.yhi, .int .i64 f.rest, .int .i64 f.wlo, .int .i64 f.whi, .int .i64 f.cost], .pointer (some ⟨B, 0, none⟩)] w
      fun e w' => e = .returned (.bool (strB f.name m.name)) ∧ Below w.heap.size w w' := by
  have hlt : B < w.heap.size := hm.lt
  have c0 : w.cell? ⟨B, 0, none⟩ = some (.string m.name) := hm.cell 0
  go_enter Tryz.func78, Tryz.ntmps78
  go_wp2
  go_ret
  exact ⟨rfl, (Below.refl _ _).alloc (Nat.le_refl _) _⟩

/-- The first field of a name, or -1. -/
def idxP (l : List Plt) (m : Plt) : Int := match l.findIdx? (fun f => strB f.name m.name) with | some k => k | none => -1

set_option maxRecDepth 100000 in
set_option maxHeartbeats 1000000 in
theorem indexP_any (sa : Option Addr) (slen cap B : Nat) (l : List Plt) (m : Plt) (w : World) (hs : IsPlts w (.slice sa slen cap) l) (hl : l.length ≤ 100000) (hm : Blk w B (pltC m) 50) :
    Calls Tryz.prog 97 #[.slice sa slen cap, .func (.func 78) #[] #[.pointer (some ⟨B, 0, none⟩)]] w fun e w' => e = .returned (.int .i64 (idxP l m)) ∧ Below w.heap.size w w' := by
  have hB : B < w.heap.size := hm.lt
  rcases hs with ⟨h1, rfl⟩ | ⟨b, off, c, h1, h2, h3, h4, h5⟩
  · obtain ⟨rfl, rfl, rfl⟩ := slice_inj h1
    clear h1
    go_enter Tryz.func97, Tryz.ntmps97
    go_wp2_with fail
    go_loopw [8, 5] (fun i _ wr => i = .int .i64 0 ∧ Below w.heap.size w wr) (fun _ _ _ => 0)
    case atStart => exact ⟨rfl, Below.refl _ _⟩
    case round =>
      obtain ⟨rfl, hb⟩ := hrel
      go_wp2_with fail
      go_ret
      exact ⟨rfl, hb⟩
  · obtain ⟨rfl, rfl, rfl⟩ := slice_inj h1
    clear h1
    have HM := Lib.hid hm
    clear hm
    go_enter Tryz.func97, Tryz.ntmps97
    go_wp2_with fail
    go_loopw [8, 5] (fun i _ wr => ∃ j : Nat, j ≤ l.length ∧ i = .int .i64 j ∧ (∀ f ∈ l.take j, strB f.name m.name = false) ∧ Below w.heap.size w wr) (fun i _ _ => l.length - (intOf i).toNat)
    case atStart => exact ⟨0, Nat.zero_le _, rfl, by simp, Below.refl _ _⟩
    case round =>
      obtain ⟨j, hj, rfl, hno, g2⟩ := hrel
      by_cases hlj : j < l.length
      · have hq : l[j]? = some l[j] := List.getElem?_eq_getElem hlj
        obtain ⟨c0, c1, c2, c3, c4, c5, c6, c7, c8⟩ := (h5 j _ hq).1.below g2 h2
        have htk : l.take (j + 1) = l.take j ++ [l[j]] := by rw [List.take_add_one, hq]; rfl
        generalize l[j] = q at *
        have HQ := Lib.hid hq
        have HT := Lib.hid htk
        have HN := Lib.hid hno
        have H5 := Lib.hid h5
        clear hq htk hno h5
        have hj0 : (0 : Int) ≤ (j : Int) := Int.natCast_nonneg _
        have hj1 : (j : Int) < (l.length : Int) := by omega
        go_wp2_with fail
        refine (plotName_any q m B _ (HM.out.belowS g2)).mono ?_
        rintro e w1 ⟨rfl, hb1⟩
        have hb2 := g2.trans (hb1.mono g2.size)
        cases hst : strB q.name m.name with
        | true =>
          have hv : idxP l m = j := by rw [idxP, findIdx_at l _ j q HQ.out hst HN.out]
          have HV := Lib.hid hv
          clear hv
          go_wp2_with fail
          go_ret
          exact ⟨by rw [HV.out]; rfl, hb2⟩
        | false =>
          have HS := Lib.hid hst
          go_wp2_with fail
          refine ⟨⟨j + 1, by omega, by simp, ?_, hb2⟩, by simp [intOf]; omega⟩
          intro x hx
          rw [HT.out] at hx
          rcases List.mem_append.1 hx with hx | hx
          · exact HN.out x hx
          · obtain rfl := List.mem_singleton.1 hx
            exact HS.out
      · obtain rfl : j = l.length := by omega
        rw [List.take_length] at hno
        have hv : idxP l m = -1 := by rw [idxP, findIdx_none_take l _ hno]
        have HV := Lib.hid hv
        clear hv hno
        go_wp2_with fail
        go_ret
        exact ⟨by rw [HV.out]; rfl, g2⟩

theorem containsP_any (sa : Option Addr) (slen cap B : Nat) (l : List Plt) (m : Plt) (w : World) (hs : IsPlts w (.slice sa slen cap) l) (hl : l.length ≤ 100000) (hm : Blk w B (pltC m) 50) :
    Calls Tryz.prog 77 #[.slice sa slen cap, .func (.func 78) #[] #[.pointer (some ⟨B, 0, none⟩)]] w fun e w' => e = .returned (.bool (decide (0 ≤ idxP l m))) ∧ Below w.heap.size w w' := by
  go_enter Tryz.func77, Tryz.ntmps77
  go_wp2_with fail
  refine (indexP_any sa slen cap B l m _ hs hl hm).mono ?_
  rintro e w1 ⟨rfl, hb1⟩
  go_wp2
  go_ret
  exact ⟨rfl, hb1⟩
end Go.Proofs.YtfhalmlpnoepcaaGreat
