/- slices.Index and Contains over points; names, Names, Faces and openings in memory; a face found by its name, Openings: names and boxes compared; slices.ContainsFunc over openings. -/
import Derived.Test.YtpdgcajbdaleeaaH
import Derived.Deep.QuietTactic
import Derived.BigQuiet
namespace Go.Proofs.Ytpdgcajbdaleeaa

/-! ### slices.Index and Contains over points; names. -/
section
open Go.RowKit

/-- The first index of a point, or -1. -/
def idxP (l : List Pnt) (p : Pnt) : Int := match l.findIdx? (fun q => decide (p = q)) with | some k => k | none => -1

theorem findIdx_none_take {α : Type} (l : List α) (f : α → Bool) (h : ∀ x ∈ l, f x = false) : l.findIdx? f = none := by
  rw [List.findIdx?_eq_none_iff]
  exact h
theorem findIdx_at {α : Type} (l : List α) (f : α → Bool) (j : Nat) (x : α) (hj : l[j]? = some x) (hx : f x = true) (h : ∀ y ∈ l.take j, f y = false) : l.findIdx? f = some j := by
  obtain ⟨hlt, hx'⟩ := List.getElem?_eq_some_iff.1 hj
  rw [List.findIdx?_eq_some_iff_getElem]
  refine ⟨hlt, by rw [hx']; exact hx, fun i hi => ?_⟩
  have := h (l[i]'(by omega)) (by rw [List.mem_take_iff_getElem]; exact ⟨i, by omega, rfl⟩)
  simp [this]

theorem below_drewN (B : Nat) (w : World) (n : Nat) : Below B w (w.drewN n) := ⟨rfl, rfl, rfl, Nat.le_refl _, fun _ _ => rfl⟩

set_option maxRecDepth 100000 in
set_option maxHeartbeats 1000000 in
theorem indexP_any (sa : Option Addr) (slen cap : Nat) (l : List Pnt) (p : Pnt) (w : World) (hs : IsPts w (.slice sa slen cap) l) (hl : l.length ≤ 1000) :
    Calls Try.prog 129 #[.slice sa slen cap, .agg #[.int .i64 p.x, .int .i64 p.y]] w fun e w' => e = .returned (.int .i64 (idxP l p)) ∧ Below w.heap.size w w' := by
  rcases hs with ⟨⟨_, _, h1⟩, rfl⟩ | ⟨b, off, c, h1, h2, h3, h4, h5⟩
  · obtain ⟨rfl, rfl, rfl⟩ := slice_inj h1
    clear h1
    go_enter Try.func129, Try.ntmps129
    go_wp2
    go_loopw [8, 5] (fun i _ wr => i = .int .i64 0 ∧ Below w.heap.size w wr) (fun _ _ _ => 0)
    case atStart => exact ⟨rfl, (Below.refl _ _).alloc (Nat.le_refl _) _⟩
    case round =>
      obtain ⟨rfl, hb⟩ := hrel
      go_wp2
      go_ret
      exact ⟨rfl, hb⟩
  · obtain ⟨rfl, rfl, rfl⟩ := slice_inj h1
    clear h1
    have bP := Blk.new w 27 #[.int .i64 p.x, .int .i64 p.y]
    go_enter Try.func129, Try.ntmps129
    go_wp2
    go_loopw [8, 5] (fun i _ wr => ∃ j : Nat, j ≤ l.length ∧ i = .int .i64 j ∧ (∀ q ∈ l.take j, decide (p = q) = false) ∧ Blk wr w.heap.size #[.int .i64 p.x, .int .i64 p.y] 27 ∧ Below w.heap.size w wr) (fun i _ _ => l.length - (intOf i).toNat)
    case atStart => exact ⟨0, Nat.zero_le _, rfl, by simp, bP, (Below.refl _ _).alloc (Nat.le_refl _) _⟩
    case round =>
      obtain ⟨j, hj, rfl, hno, g1, g2⟩ := hrel
      by_cases hlj : j < l.length
      · have hq : l[j]? = some l[j] := List.getElem?_eq_getElem hlj
        have hcc := h5.below g2 h2 j _ hq
        have htk : l.take (j + 1) = l.take j ++ [l[j]] := by rw [List.take_add_one, hq]; rfl
        generalize l[j] = q at *
        have HQ := Lib.hid hq
        have HT := Lib.hid htk
        have HN := Lib.hid hno
        clear hq htk hno
        have q0 := hcc.1
        have q1 := hcc.2
        clear hcc
        have p0 := g1.cell 0
        have p1 := g1.cell 1
        simp only [List.getElem?_toArray, List.getElem?_cons_zero, List.getElem?_cons_succ] at p0 p1
        by_cases hpq : p = q
        · subst hpq
          have he : ∀ w, (Op.equalIn 10000 27 (.agg #[.int .i64 p.x, .int .i64 p.y]) (.agg #[.int .i64 p.x, .int .i64 p.y])).run Try.prog w = .ok true w := fun w => (run_equalIn_at 9998 p p w).trans (by simp)
          have hj0 : (0 : Int) ≤ (j : Int) := Int.natCast_nonneg _
          have hj1 : (j : Int) < (l.length : Int) := by omega
          go_wp2
          go_quiet (fail)
          go_wp2
          go_ret
          refine ⟨?_, g2.trans (below_drewN _ _ _)⟩
          rw [idxP, findIdx_at l _ j p HQ.out (by simp) HN.out]
          rfl
        · have he : ∀ w, (Op.equalIn 10000 27 (.agg #[.int .i64 p.x, .int .i64 p.y]) (.agg #[.int .i64 q.x, .int .i64 q.y])).run Try.prog w = .ok false w := fun w => (run_equalIn_at 9998 p q w).trans (by simp [hpq])
          have hj0 : (0 : Int) ≤ (j : Int) := Int.natCast_nonneg _
          have hj1 : (j : Int) < (l.length : Int) := by omega
          have HPQ := Lib.hid hpq
          clear hpq
          go_wp2
          go_quiet (fail)
          go_wp2
          refine ⟨⟨j + 1, by omega, by simp, ?_, g1, g2.trans (below_drewN _ _ _)⟩, by simp [intOf]; omega⟩
          intro x hx
          rw [HT.out] at hx
          rcases List.mem_append.1 hx with hx | hx
          · exact HN.out x hx
          · obtain rfl := List.mem_singleton.1 hx
            exact decide_eq_false HPQ.out
      · obtain rfl : j = l.length := by omega
        rw [List.take_length] at hno
        have hv : idxP l p = -1 := by rw [idxP, findIdx_none_take l _ hno]
        have HV := Lib.hid hv
        clear hv hno
        go_wp2
        go_ret
        exact ⟨by rw [HV.out]; rfl, g2⟩

theorem idxP_mem (l : List Pnt) (p : Pnt) : decide (0 ≤ idxP l p) = decide (p ∈ l) := by
  unfold idxP
  cases h : l.findIdx? (fun q => decide (p = q)) with
  | none =>
    rw [List.findIdx?_eq_none_iff] at h
    have : p ∉ l := fun hp => by simpa using h p hp
    simp [this]
  | some k =>
    obtain ⟨hk, h1, _⟩ := List.findIdx?_eq_some_iff_getElem.1 h
    have : p ∈ l := by
      have e : p = l[k] := by simpa using h1
      rw [e]; exact List.getElem_mem hk
    simp [this]

theorem containsP_any (sa : Option Addr) (slen cap : Nat) (l : List Pnt) (p : Pnt) (w : World) (hs : IsPts w (.slice sa slen cap) l) (hl : l.length ≤ 1000) :
    Calls Try.prog 113 #[.slice sa slen cap, .agg #[.int .i64 p.x, .int .i64 p.y]] w fun e w' => e = .returned (.bool (decide (p ∈ l))) ∧ Below w.heap.size w w' := by
  have hB : Below w.heap.size w (w.alloc (.cells #[.int .i64 p.x, .int .i64 p.y] 27)) := (Below.refl _ _).alloc (Nat.le_refl _) _
  have hm := Lib.hid (idxP_mem l p)
  go_enter Try.func113, Try.ntmps113
  go_wp2_with fail
  refine (indexP_any sa slen cap l p _ (hs.below hB) hl).mono ?_
  rintro e w1 ⟨rfl, hb1⟩
  go_wp2
  go_ret
  exact ⟨by rw [← hm.out]; rfl, hB.trans (hb1.mono (by simp))⟩
end

/-! ### Names. -/
section
open Go.RowKit

def letterB (c : Int) : Bool := decide (97 ≤ c) && decide (c ≤ 122)
def digitB (c : Int) : Bool := decide (48 ≤ c) && decide (c ≤ 57)
/-- A letter that may not stand at place i of a name. -/
def badB (i : Nat) (c : Int) : Bool := !letterB c && (decide (i = 0) || (!digitB c && !(c == 45)))
def byteAt (s : ByteArray) (i : Nat) : Int := ((s.data[i]?.getD 0).toNat : Int)
def nameB (s : ByteArray) : Bool := decide (1 ≤ s.size) && decide (s.size ≤ 16) && (List.range s.size).all fun i => !badB i (byteAt s i)

theorem letter_any (c : Int) (w : World) : Calls Try.prog 109 #[.int .u8 c] w fun e w' => e = .returned (.bool (letterB c)) ∧ w = w' := by
  by_cases h : 97 ≤ c
  all_goals by_cases h2 : c ≤ 122
  all_goals
    go_enter Try.func109, Try.ntmps109
    go_wp2
    all_goals go_ret
    all_goals refine ⟨?_, rfl⟩
    all_goals simp [letterB, h, h2]
theorem digit_any (c : Int) (w : World) : Calls Try.prog 110 #[.int .u8 c] w fun e w' => e = .returned (.bool (digitB c)) ∧ w = w' := by
  by_cases h : 48 ≤ c
  all_goals by_cases h2 : c ≤ 57
  all_goals
    go_enter Try.func110, Try.ntmps110
    go_wp2
    all_goals go_ret
    all_goals refine ⟨?_, rfl⟩
    all_goals simp [digitB, h, h2]

set_option maxRecDepth 100000 in
set_option maxHeartbeats 1000000 in
theorem isName_any (s : ByteArray) (w : World) (hs : s.size ≤ maxLen) : Calls Try.prog 78 #[.string s] w fun e w' => e = .returned (.bool (nameB s)) ∧ w = w' := by
  unfold maxLen at hs
  by_cases h1 : s.size < 1
  · have hv : nameB s = false := by simp [nameB]; omega
    have HV := Lib.hid hv
    clear hv
    go_enter Try.func78, Try.ntmps78
    go_wp2_with fail
    go_ret
    exact ⟨by rw [HV.out]; rfl, rfl⟩
  · by_cases h2 : 16 < s.size
    · have hv : nameB s = false := by simp [nameB]; omega
      have HV := Lib.hid hv
      clear hv
      go_enter Try.func78, Try.ntmps78
      go_wp2_with fail
      go_ret
      exact ⟨by rw [HV.out]; rfl, rfl⟩
    · go_enter Try.func78, Try.ntmps78
      go_wp2_with fail
      go_loop [3, 4, 15] (fun _ _ i => ∃ k : Nat, k ≤ s.size ∧ i = .int .i64 k ∧ ∀ j, j < k → badB j (byteAt s j) = false) (fun _ _ i => s.size - (intOf i).toNat)
      case atStart => exact ⟨0, Nat.zero_le _, rfl, fun j h => by omega⟩
      case round =>
        obtain ⟨k, hk, rfl, hall⟩ := hrel
        by_cases hlt : k < s.size
        · have hbk : byteAt s k = (s[k].toNat : Int) := by
            unfold byteAt
            rw [Array.getElem?_eq_getElem (by simpa using hlt)]
            rfl
          have hc0 : (0 : Int) ≤ (s[k].toNat : Int) := Int.natCast_nonneg _
          have HA := Lib.hid hall
          have HB := Lib.hid hbk
          clear hall hbk
          by_cases hl : letterB (s[k].toNat : Int) = true
          · have hbad : badB k (byteAt s k) = false := by rw [HB.out]; simp [badB, hl]
            have HBAD := Lib.hid hbad
            clear hbad
            go_wp2_with (go_at_call 109; refine (letter_any _ _).mono ?_; rintro e w' ⟨rfl, rfl⟩)
            refine ⟨⟨k + 1, by omega, by simp, fun j hj => ?_⟩, by simp [intOf]; omega⟩
            by_cases hjk : j = k
            · subst hjk; exact HBAD.out
            · exact HA.out j (by omega)
          · have hl' : letterB (s[k].toNat : Int) = false := by simpa using hl
            clear hl
            by_cases h0 : k = 0
            · have hbad : nameB s = false := by
                unfold nameB
                rw [Bool.and_eq_false_iff]
                right
                rw [Bool.eq_false_iff]
                intro h
                have := List.all_eq_true.1 h k (by simpa using hlt)
                rw [HB.out] at this
                rw [badB, hl', decide_eq_true h0] at this
                simp at this
              have HBAD := Lib.hid hbad
              clear hbad
              have hk0 : ((k : Int) == 0) = true := by simp [h0]
              clear h0
              go_wp2_with (go_at_call 109; refine (letter_any _ _).mono ?_; rintro e w' ⟨rfl, rfl⟩)
              go_ret
              exact ⟨by rw [HBAD.out]; rfl, rfl⟩
            · have hk0 : ((k : Int) == 0) = false := by simp [h0]
              have H0 := Lib.hid h0
              clear h0
              by_cases hd : digitB (s[k].toNat : Int) = true
              · have hbad : badB k (byteAt s k) = false := by rw [HB.out]; simp [badB, hd, H0.out]
                have HBAD := Lib.hid hbad
                clear hbad
                go_wp2_with (first | (go_at_call 109; refine (letter_any _ _).mono ?_; rintro e w' ⟨rfl, rfl⟩) | (go_at_call 110; refine (digit_any _ _).mono ?_; rintro e w' ⟨rfl, rfl⟩))
                refine ⟨⟨k + 1, by omega, by simp, fun j hj => ?_⟩, by simp [intOf]; omega⟩
                by_cases hjk : j = k
                · subst hjk; exact HBAD.out
                · exact HA.out j (by omega)
              · have hd' : digitB (s[k].toNat : Int) = false := by simpa using hd
                clear hd
                by_cases h45 : (s[k].toNat : Int) = 45
                · have hbad : badB k (byteAt s k) = false := by rw [HB.out, h45]; simp [badB, H0.out]
                  have hq : ((s[k].toNat : Int) == 45) = true := by simpa using h45
                  have hq' : ((s[k].toNat : Int) != 45) = false := by simpa using h45
                  have HBAD := Lib.hid hbad
                  clear hbad h45
                  go_wp2_with (first | (go_at_call 109; refine (letter_any _ _).mono ?_; rintro e w' ⟨rfl, rfl⟩) | (go_at_call 110; refine (digit_any _ _).mono ?_; rintro e w' ⟨rfl, rfl⟩))
                  refine ⟨⟨k + 1, by omega, by simp, fun j hj => ?_⟩, by simp [intOf]; omega⟩
                  by_cases hjk : j = k
                  · subst hjk; exact HBAD.out
                  · exact HA.out j (by omega)
                · have hbad : nameB s = false := by
                    unfold nameB
                    rw [Bool.and_eq_false_iff]
                    right
                    rw [Bool.eq_false_iff]
                    intro h
                    have := List.all_eq_true.1 h k (by simpa using hlt)
                    rw [HB.out] at this
                    simp [badB, hl', hd', h45] at this
                  have hq : ((s[k].toNat : Int) == 45) = false := by simpa using h45
                  have hq' : ((s[k].toNat : Int) != 45) = true := by simpa using h45
                  have HBAD := Lib.hid hbad
                  clear hbad h45
                  go_wp2_with (first | (go_at_call 109; refine (letter_any _ _).mono ?_; rintro e w' ⟨rfl, rfl⟩) | (go_at_call 110; refine (digit_any _ _).mono ?_; rintro e w' ⟨rfl, rfl⟩))
                  go_ret
                  exact ⟨by rw [HBAD.out]; rfl, rfl⟩
        · obtain rfl : k = s.size := by omega
          have hv : nameB s = true := by
            unfold nameB
            rw [Bool.and_eq_true, Bool.and_eq_true]
            refine ⟨⟨decide_eq_true (by omega), decide_eq_true (by omega)⟩, List.all_eq_true.2 fun j hj => ?_⟩
            rw [hall j (by simpa using hj)]
            rfl
          have HV := Lib.hid hv
          clear hv hall
          go_wp2
          go_ret
          exact ⟨by rw [HV.out]; rfl, rfl⟩
end

/-! ### Faces and openings in memory; a face found by its name. -/
section
open Go.RowKit

structure Fac where
  name : ByteArray
  side : Int
  foot : Int
  base : Int
  rise : Int
  run : Int
  ca : Option Addr
  cc : Nat
  cs : List Pnt
structure Opn where
  name : ByteArray
  face : Int
  lo : Pnt
  hi : Pnt

/-- The cells of a face at an address. -/
def FacAt (w : World) (b o : Nat) (f : Fac) : Prop :=
  w.cell? ⟨b, o, none⟩ = some (.string f.name) ∧ w.cell? ⟨b, o + 1, none⟩ = some (.int .i64 f.side) ∧ w.cell? ⟨b, o + 2, none⟩ = some (.int .i64 f.foot) ∧ w.cell? ⟨b, o + 3, none⟩ = some (.int .i64 f.base) ∧
    w.cell? ⟨b, o + 4, none⟩ = some (.int .i64 f.rise) ∧ w.cell? ⟨b, o + 5, none⟩ = some (.int .i64 f.run) ∧ w.cell? ⟨b, o + 6, none⟩ = some (.slice f.ca f.cs.length f.cc)
def OpnAt (w : World) (b o : Nat) (f : Opn) : Prop :=
  w.cell? ⟨b, o, none⟩ = some (.string f.name) ∧ w.cell? ⟨b, o + 1, none⟩ = some (.int .i64 f.face) ∧ w.cell? ⟨b, o + 2, none⟩ = some (.int .i64 f.lo.x) ∧ w.cell? ⟨b, o + 3, none⟩ = some (.int .i64 f.lo.y) ∧
    w.cell? ⟨b, o + 4, none⟩ = some (.int .i64 f.hi.x) ∧ w.cell? ⟨b, o + 5, none⟩ = some (.int .i64 f.hi.y)
theorem FacAt.below {w w' : World} {B b o : Nat} {f : Fac} (h : FacAt w b o f) (hb : Below B w w') (hlt : b < B) : FacAt w' b o f := by
  have c : ∀ i, w'.cell? ⟨b, i, none⟩ = w.cell? ⟨b, i, none⟩ := fun i => hb.cell (p := ⟨b, i, none⟩) hlt
  obtain ⟨h0, h1, h2, h3, h4, h5, h6⟩ := h
  exact ⟨(c _).trans h0, (c _).trans h1, (c _).trans h2, (c _).trans h3, (c _).trans h4, (c _).trans h5, (c _).trans h6⟩
theorem OpnAt.below {w w' : World} {B b o : Nat} {f : Opn} (h : OpnAt w b o f) (hb : Below B w w') (hlt : b < B) : OpnAt w' b o f := by
  have c : ∀ i, w'.cell? ⟨b, i, none⟩ = w.cell? ⟨b, i, none⟩ := fun i => hb.cell (p := ⟨b, i, none⟩) hlt
  obtain ⟨h0, h1, h2, h3, h4, h5⟩ := h
  exact ⟨(c _).trans h0, (c _).trans h1, (c _).trans h2, (c _).trans h3, (c _).trans h4, (c _).trans h5⟩

/-- What a face's value refers to. -/
def FacIn (w : World) (f : Fac) : Prop := IsPts w (.slice f.ca f.cs.length f.cc) f.cs ∧ f.name.size ≤ maxLen
/-- A slice value that holds faces. -/
def IsFacs (w : World) (v : Value) (l : List Fac) : Prop :=
  (v = .slice none 0 0 ∧ l = []) ∨ ∃ b off cap, v = .slice (some ⟨b, off, none⟩) l.length cap ∧ b < w.heap.size ∧ l.length ≤ cap ∧ cap ≤ 9223372036854775807 ∧ ∀ j f, l[j]? = some f → FacAt w b (off + j * 7) f ∧ FacIn w f
def IsOpns (w : World) (v : Value) (l : List Opn) : Prop :=
  (v = .slice none 0 0 ∧ l = []) ∨ ∃ b off cap, v = .slice (some ⟨b, off, none⟩) l.length cap ∧ b < w.heap.size ∧ l.length ≤ cap ∧ cap ≤ 9223372036854775807 ∧ ∀ j f, l[j]? = some f → OpnAt w b (off + j * 6) f ∧ f.name.size ≤ maxLen
theorem FacIn.below {w w' : World} {f : Fac} (h : FacIn w f) (hb : Below w.heap.size w w') : FacIn w' f := ⟨h.1.below hb, h.2⟩
theorem IsFacs.below {w w' : World} {v : Value} {l : List Fac} (h : IsFacs w v l) (hb : Below w.heap.size w w') : IsFacs w' v l := by
  rcases h with h | ⟨b, off, cap, e, hl, hc, hc', hp⟩
  · exact .inl h
  · exact .inr ⟨b, off, cap, e, Nat.lt_of_lt_of_le hl hb.size, hc, hc', fun j f hj => ⟨(hp j f hj).1.below hb hl, (hp j f hj).2.below hb⟩⟩
theorem IsOpns.below {w w' : World} {v : Value} {l : List Opn} (h : IsOpns w v l) (hb : Below w.heap.size w w') : IsOpns w' v l := by
  rcases h with h | ⟨b, off, cap, e, hl, hc, hc', hp⟩
  · exact .inl h
  · exact .inr ⟨b, off, cap, e, Nat.lt_of_lt_of_le hl hb.size, hc, hc', fun j f hj => ⟨(hp j f hj).1.below hb hl, (hp j f hj).2⟩⟩

/-- Two strings are one. -/
def strB (a b : ByteArray) : Bool := a.toList == b.toList

theorem findFace1_any (f : Fac) (B : Nat) (m : ByteArray) (w : World) (hm : w.cell? ⟨B, 0, none⟩ = some (.string m)) :
    Calls Try.prog 112 #[.agg #[.string f.name, .int .i64 f.side, .int .i64 f.foot, .int .i64 f.base, .int .i64 f.rise, .int .i64 f.run, .slice f.ca f.cs.length f.cc], .pointer (some ⟨B, 0, none⟩)] w
      fun e w' => e = .returned (.bool (strB f.name m)) ∧ Below w.heap.size w w' := by
  have hlt : B < w.heap.size := World.block_lt_of_cell? _ _ hm
  go_enter Try.func112, Try.ntmps112
  go_wp2
  go_ret
  exact ⟨rfl, (Below.refl _ _).alloc (Nat.le_refl _) _⟩

/-- The first face of a name, or -1. -/
def idxF (l : List Fac) (m : ByteArray) : Int := match l.findIdx? (fun f => strB f.name m) with | some k => k | none => -1

set_option maxRecDepth 100000 in
set_option maxHeartbeats 1000000 in
theorem indexF_any (sa : Option Addr) (slen cap B : Nat) (l : List Fac) (m : ByteArray) (w : World) (hs : IsFacs w (.slice sa slen cap) l) (hl : l.length ≤ 100000) (hm : w.cell? ⟨B, 0, none⟩ = some (.string m)) :
    Calls Try.prog 111 #[.slice sa slen cap, .func (.func 112) #[] #[.pointer (some ⟨B, 0, none⟩)]] w fun e w' => e = .returned (.int .i64 (idxF l m)) ∧ Below w.heap.size w w' := by
  have hB : B < w.heap.size := World.block_lt_of_cell? _ _ hm
  rcases hs with ⟨h1, rfl⟩ | ⟨b, off, c, h1, h2, h3, h4, h5⟩
  · obtain ⟨rfl, rfl, rfl⟩ := slice_inj h1
    clear h1
    go_enter Try.func111, Try.ntmps111
    go_wp2_with fail
    go_loopw [8, 5] (fun i _ wr => i = .int .i64 0 ∧ Below w.heap.size w wr) (fun _ _ _ => 0)
    case atStart => exact ⟨rfl, Below.refl _ _⟩
    case round =>
      obtain ⟨rfl, hb⟩ := hrel
      go_wp2_with fail
      go_ret
      exact ⟨rfl, hb⟩
  · obtain ⟨rfl, rfl, rfl⟩ := slice_inj h1
    clear h1
    go_enter Try.func111, Try.ntmps111
    go_wp2_with fail
    go_loopw [8, 5] (fun i _ wr => ∃ j : Nat, j ≤ l.length ∧ i = .int .i64 j ∧ (∀ f ∈ l.take j, strB f.name m = false) ∧ Below w.heap.size w wr) (fun i _ _ => l.length - (intOf i).toNat)
    case atStart => exact ⟨0, Nat.zero_le _, rfl, by simp, Below.refl _ _⟩
    case round =>
      obtain ⟨j, hj, rfl, hno, g2⟩ := hrel
      have hmr := (g2.cell (p := ⟨B, 0, none⟩) hB).trans hm
      by_cases hlj : j < l.length
      · have hq : l[j]? = some l[j] := List.getElem?_eq_getElem hlj
        obtain ⟨c0, c1, c2, c3, c4, c5, c6⟩ := (h5 j _ hq).1.below g2 h2
        have htk : l.take (j + 1) = l.take j ++ [l[j]] := by rw [List.take_add_one, hq]; rfl
        generalize l[j] = q at *
        have HQ := Lib.hid hq
        have HT := Lib.hid htk
        have HN := Lib.hid hno
        have H5 := Lib.hid h5
        clear hq htk hno h5
        have hj0 : (0 : Int) ≤ (j : Int) := Int.natCast_nonneg _
        have hj1 : (j : Int) < (l.length : Int) := by omega
        go_wp2_with fail
        refine (findFace1_any q B m _ hmr).mono ?_
        rintro e w1 ⟨rfl, hb1⟩
        have hb2 := g2.trans (hb1.mono g2.size)
        cases hst : strB q.name m with
        | true =>
          have hv : idxF l m = j := by rw [idxF, findIdx_at l _ j q HQ.out hst HN.out]
          have HV := Lib.hid hv
          clear hv
          go_wp2_with fail
          go_ret
          exact ⟨by rw [HV.out]; rfl, hb2⟩
        | false =>
          have HS := Lib.hid hst
          go_wp2_with fail
          refine ⟨⟨j + 1, by omega, by simp, ?_, hb2⟩, by simp [intOf]; omega⟩
          intro x hx
          rw [HT.out] at hx
          rcases List.mem_append.1 hx with hx | hx
          · exact HN.out x hx
          · obtain rfl := List.mem_singleton.1 hx
            exact HS.out
      · obtain rfl : j = l.length := by omega
        rw [List.take_length] at hno
        have hv : idxF l m = -1 := by rw [idxF, findIdx_none_take l _ hno]
        have HV := Lib.hid hv
        clear hv hno
        go_wp2_with fail
        go_ret
        exact ⟨by rw [HV.out]; rfl, g2⟩

theorem findFace_any (sa : Option Addr) (slen cap : Nat) (l : List Fac) (m : ByteArray) (w : World) (hs : IsFacs w (.slice sa slen cap) l) (hl : l.length ≤ 100000) :
    Calls Try.prog 79 #[.slice sa slen cap, .string m] w fun e w' => e = .returned (.int .i64 (idxF l m)) ∧ Below w.heap.size w w' := by
  have hB : Below w.heap.size w (w.alloc (.cells #[.string m] 9)) := (Below.refl _ _).alloc (Nat.le_refl _) _
  go_enter Try.func79, Try.ntmps79
  go_wp2_with fail
  refine (indexF_any sa slen cap w.heap.size l m _ (hs.below hB) hl ((Blk.new w _ _).cell 0)).mono ?_
  rintro e w1 ⟨rfl, hb1⟩
  go_wp2
  go_ret
  exact ⟨rfl, hB.trans (hb1.mono (by simp))⟩
end

/-! ### Openings: names and boxes compared; slices.ContainsFunc over openings. -/
section
open Go.RowKit

def meetB (a b : Opn) : Bool := decide (a.lo.x ≤ b.hi.x) && (decide (b.lo.x ≤ a.hi.x) && (decide (a.lo.y ≤ b.hi.y) && decide (b.lo.y ≤ a.hi.y)))

set_option maxHeartbeats 1000000 in
theorem boxesMeet_any (a b : Opn) (w : World) :
    Calls Try.prog 86 #[.agg #[.string a.name, .int .i64 a.face, .int .i64 a.lo.x, .int .i64 a.lo.y, .int .i64 a.hi.x, .int .i64 a.hi.y], .agg #[.string b.name, .int .i64 b.face, .int .i64 b.lo.x, .int .i64 b.lo.y, .int .i64 b.hi.x, .int .i64 b.hi.y]] w
      fun e w' => e = .returned (.bool (meetB a b)) ∧ Below w.heap.size w w' := by
  by_cases h1 : a.lo.x ≤ b.hi.x
  · by_cases h2 : b.lo.x ≤ a.hi.x
    · by_cases h3 : a.lo.y ≤ b.hi.y
      · have hv : meetB a b = decide (b.lo.y ≤ a.hi.y) := by simp [meetB, h1, h2, h3]
        have HV := Lib.hid hv
        clear hv
        go_enter Try.func86, Try.ntmps86
        go_wp2_with fail
        go_ret
        exact ⟨by rw [HV.out]; rfl, ((Below.refl _ _).alloc (Nat.le_refl _) _).alloc (by simp) _⟩
      · have hv : meetB a b = false := by simp [meetB, h3]
        have HV := Lib.hid hv
        clear hv
        go_enter Try.func86, Try.ntmps86
        go_wp2_with fail
        go_ret
        exact ⟨by rw [HV.out]; rfl, ((Below.refl _ _).alloc (Nat.le_refl _) _).alloc (by simp) _⟩
    · have hv : meetB a b = false := by simp [meetB, h2]
      have HV := Lib.hid hv
      clear hv
      go_enter Try.func86, Try.ntmps86
      go_wp2_with fail
      go_ret
      exact ⟨by rw [HV.out]; rfl, ((Below.refl _ _).alloc (Nat.le_refl _) _).alloc (by simp) _⟩
  · have hv : meetB a b = false := by simp [meetB, h1]
    have HV := Lib.hid hv
    clear hv
    go_enter Try.func86, Try.ntmps86
    go_wp2_with fail
    go_ret
    exact ⟨by rw [HV.out]; rfl, ((Below.refl _ _).alloc (Nat.le_refl _) _).alloc (by simp) _⟩

def opnC (o : Opn) : Array Value := #[.string o.name, .int .i64 o.face, .int .i64 o.lo.x, .int .i64 o.lo.y, .int .i64 o.hi.x, .int .i64 o.hi.y]

theorem checkOpen1_any (a o : Opn) (B : Nat) (w : World) (hm : Blk w B (opnC o) 76) :
    Calls Try.prog 83 #[.agg #[.string a.name, .int .i64 a.face, .int .i64 a.lo.x, .int .i64 a.lo.y, .int .i64 a.hi.x, .int .i64 a.hi.y], .pointer (some ⟨B, 0, none⟩)] w
      fun e w' => e = .returned (.bool (strB a.name o.name)) ∧ Below w.heap.size w w' := by
  have hlt := hm.lt
  have c0 : w.cell? ⟨B, 0, none⟩ = some (.string o.name) := hm.cell 0
  go_enter Try.func83, Try.ntmps83
  go_wp2
  go_ret
  exact ⟨rfl, (Below.refl _ _).alloc (Nat.le_refl _) _⟩

theorem checkOpen2_any (a o : Opn) (B : Nat) (w : World) (hm : Blk w B (opnC o) 76) :
    Calls Try.prog 85 #[.agg #[.string a.name, .int .i64 a.face, .int .i64 a.lo.x, .int .i64 a.lo.y, .int .i64 a.hi.x, .int .i64 a.hi.y], .pointer (some ⟨B, 0, none⟩)] w
      fun e w' => e = .returned (.bool (meetB a o)) ∧ Below w.heap.size w w' := by
  have hlt := hm.lt
  have hB : Below w.heap.size w (w.alloc (.cells (opnC a) 76)) := (Below.refl _ _).alloc (Nat.le_refl _) _
  have c0 : w.cell? ⟨B, 0, none⟩ = some (.string o.name) := hm.cell 0
  have c1 : w.cell? ⟨B, 1, none⟩ = some (.int .i64 o.face) := hm.cell 1
  have c2 : w.cell? ⟨B, 2, none⟩ = some (.int .i64 o.lo.x) := hm.cell 2
  have c3 : w.cell? ⟨B, 3, none⟩ = some (.int .i64 o.lo.y) := hm.cell 3
  have c4 : w.cell? ⟨B, 4, none⟩ = some (.int .i64 o.hi.x) := hm.cell 4
  have c5 : w.cell? ⟨B, 5, none⟩ = some (.int .i64 o.hi.y) := hm.cell 5
  go_enter Try.func85, Try.ntmps85
  go_wp2_with fail
  refine (boxesMeet_any a o _).mono ?_
  rintro e w1 ⟨rfl, hb1⟩
  go_wp2_with fail
  go_ret
  exact ⟨rfl, hB.trans (hb1.mono (by simp))⟩

/-- The first opening, or -1. -/
def idxO (l : List Opn) (m : Opn) : Int := match l.findIdx? (fun f => strB f.name m.name) with | some k => k | none => -1

set_option maxRecDepth 100000 in
set_option maxHeartbeats 1000000 in
theorem indexO_any (sa : Option Addr) (slen cap B : Nat) (l : List Opn) (m : Opn) (w : World) (hs : IsOpns w (.slice sa slen cap) l) (hl : l.length ≤ 100000) (hm : Blk w B (opnC m) 76) :
    Calls Try.prog 115 #[.slice sa slen cap, .func (.func 83) #[] #[.pointer (some ⟨B, 0, none⟩)]] w fun e w' => e = .returned (.int .i64 (idxO l m)) ∧ Below w.heap.size w w' := by
  have hB : B < w.heap.size := hm.lt
  rcases hs with ⟨h1, rfl⟩ | ⟨b, off, c, h1, h2, h3, h4, h5⟩
  · obtain ⟨rfl, rfl, rfl⟩ := slice_inj h1
    clear h1
    go_enter Try.func115, Try.ntmps115
    go_wp2_with fail
    go_loopw [8, 5] (fun i _ wr => i = .int .i64 0 ∧ Below w.heap.size w wr) (fun _ _ _ => 0)
    case atStart => exact ⟨rfl, Below.refl _ _⟩
    case round =>
      obtain ⟨rfl, hb⟩ := hrel
      go_wp2_with fail
      go_ret
      exact ⟨rfl, hb⟩
  · obtain ⟨rfl, rfl, rfl⟩ := slice_inj h1
    clear h1
    go_enter Try.func115, Try.ntmps115
    go_wp2_with fail
    go_loopw [8, 5] (fun i _ wr => ∃ j : Nat, j ≤ l.length ∧ i = .int .i64 j ∧ (∀ f ∈ l.take j, strB f.name m.name = false) ∧ Below w.heap.size w wr) (fun i _ _ => l.length - (intOf i).toNat)
    case atStart => exact ⟨0, Nat.zero_le _, rfl, by simp, Below.refl _ _⟩
    case round =>
      obtain ⟨j, hj, rfl, hno, g2⟩ := hrel
      have hmr := hm.below g2 hB
      by_cases hlj : j < l.length
      · have hq : l[j]? = some l[j] := List.getElem?_eq_getElem hlj
        obtain ⟨c0, c1, c2, c3, c4, c5⟩ := (h5 j _ hq).1.below g2 h2
        have htk : l.take (j + 1) = l.take j ++ [l[j]] := by rw [List.take_add_one, hq]; rfl
        generalize l[j] = q at *
        have HQ := Lib.hid hq
        have HT := Lib.hid htk
        have HN := Lib.hid hno
        have H5 := Lib.hid h5
        clear hq htk hno h5
        have hj0 : (0 : Int) ≤ (j : Int) := Int.natCast_nonneg _
        have hj1 : (j : Int) < (l.length : Int) := by omega
        go_wp2_with fail
        refine (checkOpen1_any q m B _ hmr).mono ?_
        rintro e w1 ⟨rfl, hb1⟩
        have hb2 := g2.trans (hb1.mono g2.size)
        cases hst : strB q.name m.name with
        | true =>
          have hv : idxO l m = j := by rw [idxO, findIdx_at l _ j q HQ.out hst HN.out]
          have HV := Lib.hid hv
          clear hv
          go_wp2_with fail
          go_ret
          exact ⟨by rw [HV.out]; rfl, hb2⟩
        | false =>
          have HS := Lib.hid hst
          go_wp2_with fail
          refine ⟨⟨j + 1, by omega, by simp, ?_, hb2⟩, by simp [intOf]; omega⟩
          intro x hx
          rw [HT.out] at hx
          rcases List.mem_append.1 hx with hx | hx
          · exact HN.out x hx
          · obtain rfl := List.mem_singleton.1 hx
            exact HS.out
      · obtain rfl : j = l.length := by omega
        rw [List.take_length] at hno
        have hv : idxO l m = -1 := by rw [idxO, findIdx_none_take l _ hno]
        have HV := Lib.hid hv
        clear hv hno
        go_wp2_with fail
        go_ret
        exact ⟨by rw [HV.out]; rfl, g2⟩


/-- The first opening, or -1. -/
def idxM (l : List Opn) (m : Opn) : Int := match l.findIdx? (fun f => meetB f m) with | some k => k | none => -1

set_option maxRecDepth 100000 in
set_option maxHeartbeats 1000000 in
theorem indexM_any (sa : Option Addr) (slen cap B : Nat) (l : List Opn) (m : Opn) (w : World) (hs : IsOpns w (.slice sa slen cap) l) (hl : l.length ≤ 100000) (hm : Blk w B (opnC m) 76) :
    Calls Try.prog 115 #[.slice sa slen cap, .func (.func 85) #[] #[.pointer (some ⟨B, 0, none⟩)]] w fun e w' => e = .returned (.int .i64 (idxM l m)) ∧ Below w.heap.size w w' := by
  have hB : B < w.heap.size := hm.lt
  rcases hs with ⟨h1, rfl⟩ | ⟨b, off, c, h1, h2, h3, h4, h5⟩
  · obtain ⟨rfl, rfl, rfl⟩ := slice_inj h1
    clear h1
    go_enter Try.func115, Try.ntmps115
    go_wp2_with fail
    go_loopw [8, 5] (fun i _ wr => i = .int .i64 0 ∧ Below w.heap.size w wr) (fun _ _ _ => 0)
    case atStart => exact ⟨rfl, Below.refl _ _⟩
    case round =>
      obtain ⟨rfl, hb⟩ := hrel
      go_wp2_with fail
      go_ret
      exact ⟨rfl, hb⟩
  · obtain ⟨rfl, rfl, rfl⟩ := slice_inj h1
    clear h1
    go_enter Try.func115, Try.ntmps115
    go_wp2_with fail
    go_loopw [8, 5] (fun i _ wr => ∃ j : Nat, j ≤ l.length ∧ i = .int .i64 j ∧ (∀ f ∈ l.take j, meetB f m = false) ∧ Below w.heap.size w wr) (fun i _ _ => l.length - (intOf i).toNat)
    case atStart => exact ⟨0, Nat.zero_le _, rfl, by simp, Below.refl _ _⟩
    case round =>
      obtain ⟨j, hj, rfl, hno, g2⟩ := hrel
      have hmr := hm.below g2 hB
      by_cases hlj : j < l.length
      · have hq : l[j]? = some l[j] := List.getElem?_eq_getElem hlj
        obtain ⟨c0, c1, c2, c3, c4, c5⟩ := (h5 j _ hq).1.below g2 h2
        have htk : l.take (j + 1) = l.take j ++ [l[j]] := by rw [List.take_add_one, hq]; rfl
        generalize l[j] = q at *
        have HQ := Lib.hid hq
        have HT := Lib.hid htk
        have HN := Lib.hid hno
        have H5 := Lib.hid h5
        clear hq htk hno h5
        have hj0 : (0 : Int) ≤ (j : Int) := Int.natCast_nonneg _
        have hj1 : (j : Int) < (l.length : Int) := by omega
        go_wp2_with fail
        refine (checkOpen2_any q m B _ hmr).mono ?_
        rintro e w1 ⟨rfl, hb1⟩
        have hb2 := g2.trans (hb1.mono g2.size)
        cases hst : meetB q m with
        | true =>
          have hv : idxM l m = j := by rw [idxM, findIdx_at l _ j q HQ.out hst HN.out]
          have HV := Lib.hid hv
          clear hv
          go_wp2_with fail
          go_ret
          exact ⟨by rw [HV.out]; rfl, hb2⟩
        | false =>
          have HS := Lib.hid hst
          go_wp2_with fail
          refine ⟨⟨j + 1, by omega, by simp, ?_, hb2⟩, by simp [intOf]; omega⟩
          intro x hx
          rw [HT.out] at hx
          rcases List.mem_append.1 hx with hx | hx
          · exact HN.out x hx
          · obtain rfl := List.mem_singleton.1 hx
            exact HS.out
      · obtain rfl : j = l.length := by omega
        rw [List.take_length] at hno
        have hv : idxM l m = -1 := by rw [idxM, findIdx_none_take l _ hno]
        have HV := Lib.hid hv
        clear hv hno
        go_wp2_with fail
        go_ret
        exact ⟨by rw [HV.out]; rfl, g2⟩


theorem containsO_any (sa : Option Addr) (slen cap B : Nat) (l : List Opn) (m : Opn) (w : World) (hs : IsOpns w (.slice sa slen cap) l) (hl : l.length ≤ 100000) (hm : Blk w B (opnC m) 76) :
    Calls Try.prog 82 #[.slice sa slen cap, .func (.func 83) #[] #[.pointer (some ⟨B, 0, none⟩)]] w fun e w' => e = .returned (.bool (decide (0 ≤ idxO l m))) ∧ Below w.heap.size w w' := by
  go_enter Try.func82, Try.ntmps82
  go_wp2_with fail
  refine (indexO_any sa slen cap B l m _ hs hl hm).mono ?_
  rintro e w1 ⟨rfl, hb1⟩
  go_wp2
  go_ret
  exact ⟨rfl, hb1⟩

theorem containsM_any (sa : Option Addr) (slen cap B : Nat) (l : List Opn) (m : Opn) (w : World) (hs : IsOpns w (.slice sa slen cap) l) (hl : l.length ≤ 100000) (hm : Blk w B (opnC m) 76) :
    Calls Try.prog 82 #[.slice sa slen cap, .func (.func 85) #[] #[.pointer (some ⟨B, 0, none⟩)]] w fun e w' => e = .returned (.bool (decide (0 ≤ idxM l m))) ∧ Below w.heap.size w w' := by
  go_enter Try.func82, Try.ntmps82
  go_wp2_with fail
  refine (indexM_any sa slen cap B l m _ hs hl hm).mono ?_
  rintro e w1 ⟨rfl, hb1⟩
  go_wp2
  go_ret
  exact ⟨rfl, hb1⟩
end
end Go.Proofs.Ytpdgcajbdaleeaa
