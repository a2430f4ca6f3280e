/- What is required of a ridge: names, numbers, mirrors. No condition but the bounds of what is given. -/
import Derived.Test.YtmcmhgjlpffcnaaPG
import Derived.Defers
import Derived.Laws.Pointers
set_option linter.unusedSimpArgs false
namespace Go.Proofs.Ytmcmhgjlpffcnaa
open Go.RowKit

theorem take_all_succ {α : Type} (l : List α) (f : α → Bool) (j : Nat) (q : α) (h : l[j]? = some q) : (l.take (j + 1)).all f = ((l.take j).all f && f q) := by
  rw [List.take_add_one, h]
  simp

theorem findIdx_none_take {α : Type} (l : List α) (f : α → Bool) (h : ∀ x ∈ l, f x = false) : l.findIdx? f = none := by
  rw [List.findIdx?_eq_none_iff]
  exact h
theorem findIdx_at {α : Type} (l : List α) (f : α → Bool) (j : Nat) (x : α) (hj : l[j]? = some x) (hx : f x = true) (h : ∀ y ∈ l.take j, f y = false) : l.findIdx? f = some j := by
  obtain ⟨hlt, hx'⟩ := List.getElem?_eq_some_iff.1 hj
  rw [List.findIdx?_eq_some_iff_getElem]
  refine ⟨hlt, by rw [hx']; exact hx, fun i hi => ?_⟩
  have := h (l[i]'(by omega)) (by rw [List.mem_take_iff_getElem]; exact ⟨i, by omega, rfl⟩)
  simp [this]
theorem isFromB_iff {n lo hi : Int} : isFromB n lo hi = true ↔ lo ≤ n ∧ n ≤ hi := by simp [isFromB]
def strB (a b : ByteArray) : Bool := a.toList == b.toList

def letterB (c : Int) : Bool := decide (97 ≤ c) && decide (c ≤ 122)
def digitB (c : Int) : Bool := decide (48 ≤ c) && decide (c ≤ 57)
/-- A letter that may not stand at place i of a name. -/
def badB (i : Nat) (c : Int) : Bool := !letterB c && (decide (i = 0) || (!digitB c && !(c == 45)))
def byteAt (s : ByteArray) (i : Nat) : Int := ((s.data[i]?.getD 0).toNat : Int)
def nameB (s : ByteArray) : Bool := decide (1 ≤ s.size) && decide (s.size ≤ 16) && (List.range s.size).all fun i => !badB i (byteAt s i)

theorem letter_any (c : Int) (w : World) : Calls Try.prog 97 #[.int .u8 c] w fun e w' => e = .returned (.bool (letterB c)) ∧ w = w' := by
  by_cases h : 97 ≤ c
  all_goals by_cases h2 : c ≤ 122
  all_goals
    go_enter Try.func97, Try.ntmps97
    go_wp2
    all_goals go_ret
    all_goals refine ⟨?_, rfl⟩
    all_goals simp [letterB, h, h2]
theorem digit_any (c : Int) (w : World) : Calls Try.prog 98 #[.int .u8 c] w fun e w' => e = .returned (.bool (digitB c)) ∧ w = w' := by
  by_cases h : 48 ≤ c
  all_goals by_cases h2 : c ≤ 57
  all_goals
    go_enter Try.func98, Try.ntmps98
    go_wp2
    all_goals go_ret
    all_goals refine ⟨?_, rfl⟩
    all_goals simp [digitB, h, h2]

set_option maxRecDepth 100000 in
set_option maxHeartbeats 1000000 in
theorem isName_any (s : ByteArray) (w : World) (hs : s.size ≤ maxLen) : Calls Try.prog 78 #[.string s] w fun e w' => e = .returned (.bool (nameB s)) ∧ w = w' := by
  unfold maxLen at hs
  by_cases h1 : s.size < 1
  · have hv : nameB s = false := by simp [nameB]; omega
    have HV := Lib.hid hv
    clear hv
    go_enter Try.func78, Try.ntmps78
    go_wp2_with fail
    go_ret
    exact ⟨by rw [HV.out]; rfl, rfl⟩
  · by_cases h2 : 16 < s.size
    · have hv : nameB s = false := by simp [nameB]; omega
      have HV := Lib.hid hv
      clear hv
      go_enter Try.func78, Try.ntmps78
      go_wp2_with fail
      go_ret
      exact ⟨by rw [HV.out]; rfl, rfl⟩
    · go_enter Try.func78, Try.ntmps78
      go_wp2_with fail
      go_loop [3, 4, 15] (fun _ _ i => ∃ k : Nat, k ≤ s.size ∧ i = .int .i64 k ∧ ∀ j, j < k → badB j (byteAt s j) = false) (fun _ _ i => s.size - (intOf i).toNat)
      case atStart => exact ⟨0, Nat.zero_le _, rfl, fun j h => by omega⟩
      case round =>
        obtain ⟨k, hk, rfl, hall⟩ := hrel
        by_cases hlt : k < s.size
        · have hbk : byteAt s k = (s[k].toNat : Int) := by
            unfold byteAt
            rw [Array.getElem?_eq_getElem (by simpa using hlt)]
            rfl
          have hc0 : (0 : Int) ≤ (s[k].toNat : Int) := Int.natCast_nonneg _
          have HA := Lib.hid hall
          have HB := Lib.hid hbk
          clear hall hbk
          by_cases hl : letterB (s[k].toNat : Int) = true
          · have hbad : badB k (byteAt s k) = false := by rw [HB.out]; simp [badB, hl]
            have HBAD := Lib.hid hbad
            clear hbad
            go_wp2_with (go_at_call 97; refine (letter_any _ _).mono ?_; rintro e w' ⟨rfl, rfl⟩)
            refine ⟨⟨k + 1, by omega, by simp, fun j hj => ?_⟩, by simp [intOf]; omega⟩
            by_cases hjk : j = k
            · subst hjk; exact HBAD.out
            · exact HA.out j (by omega)
          · have hl' : letterB (s[k].toNat : Int) = false := by simpa using hl
            clear hl
            by_cases h0 : k = 0
            · have hbad : nameB s = false := by
                unfold nameB
                rw [Bool.and_eq_false_iff]
                right
                rw [Bool.eq_false_iff]
                intro h
                have := List.all_eq_true.1 h k (by simpa using hlt)
                rw [HB.out] at this
                rw [badB, hl', decide_eq_true h0] at this
                simp at this
              have HBAD := Lib.hid hbad
              clear hbad
              have hk0 : ((k : Int) == 0) = true := by simp [h0]
              clear h0
              go_wp2_with (go_at_call 97; refine (letter_any _ _).mono ?_; rintro e w' ⟨rfl, rfl⟩)
              go_ret
              exact ⟨by rw [HBAD.out]; rfl, rfl⟩
            · have hk0 : ((k : Int) == 0) = false := by simp [h0]
              have H0 := Lib.hid h0
              clear h0
              by_cases hd : digitB (s[k].toNat : Int) = true
              · have hbad : badB k (byteAt s k) = false := by rw [HB.out]; simp [badB, hd, H0.out]
                have HBAD := Lib.hid hbad
                clear hbad
                go_wp2_with (first | (go_at_call 97; refine (letter_any _ _).mono ?_; rintro e w' ⟨rfl, rfl⟩) | (go_at_call 98; refine (digit_any _ _).mono ?_; rintro e w' ⟨rfl, rfl⟩))
                refine ⟨⟨k + 1, by omega, by simp, fun j hj => ?_⟩, by simp [intOf]; omega⟩
                by_cases hjk : j = k
                · subst hjk; exact HBAD.out
                · exact HA.out j (by omega)
              · have hd' : digitB (s[k].toNat : Int) = false := by simpa using hd
                clear hd
                by_cases h45 : (s[k].toNat : Int) = 45
                · have hbad : badB k (byteAt s k) = false := by rw [HB.out, h45]; simp [badB, H0.out]
                  have hq : ((s[k].toNat : Int) == 45) = true := by simpa using h45
                  have hq' : ((s[k].toNat : Int) != 45) = false := by simpa using h45
                  have HBAD := Lib.hid hbad
                  clear hbad h45
                  go_wp2_with (first | (go_at_call 97; refine (letter_any _ _).mono ?_; rintro e w' ⟨rfl, rfl⟩) | (go_at_call 98; refine (digit_any _ _).mono ?_; rintro e w' ⟨rfl, rfl⟩))
                  refine ⟨⟨k + 1, by omega, by simp, fun j hj => ?_⟩, by simp [intOf]; omega⟩
                  by_cases hjk : j = k
                  · subst hjk; exact HBAD.out
                  · exact HA.out j (by omega)
                · have hbad : nameB s = false := by
                    unfold nameB
                    rw [Bool.and_eq_false_iff]
                    right
                    rw [Bool.eq_false_iff]
                    intro h
                    have := List.all_eq_true.1 h k (by simpa using hlt)
                    rw [HB.out] at this
                    simp [badB, hl', hd', h45] at this
                  have hq : ((s[k].toNat : Int) == 45) = false := by simpa using h45
                  have hq' : ((s[k].toNat : Int) != 45) = true := by simpa using h45
                  have HBAD := Lib.hid hbad
                  clear hbad h45
                  go_wp2_with (first | (go_at_call 97; refine (letter_any _ _).mono ?_; rintro e w' ⟨rfl, rfl⟩) | (go_at_call 98; refine (digit_any _ _).mono ?_; rintro e w' ⟨rfl, rfl⟩))
                  go_ret
                  exact ⟨by rw [HBAD.out]; rfl, rfl⟩
        · obtain rfl : k = s.size := by omega
          have hv : nameB s = true := by
            unfold nameB
            rw [Bool.and_eq_true, Bool.and_eq_true]
            refine ⟨⟨decide_eq_true (by omega), decide_eq_true (by omega)⟩, List.all_eq_true.2 fun j hj => ?_⟩
            rw [hall j (by simpa using hj)]
            rfl
          have HV := Lib.hid hv
          clear hv hall
          go_wp2
          go_ret
          exact ⟨by rw [HV.out]; rfl, rfl⟩


/-! ### Leaf functions -/
theorem isProfile_any (n : Int) (w : World) : Calls Try.prog 77 #[.int .i64 n] w fun e w' => e = .returned (.bool (isFromB n 0 9)) ∧ w = w' := by
  go_enter Try.func77, Try.ntmps77
  go_wp2_with fail
  refine (isFrom_any _ _ _ _).mono ?_
  rintro e w' ⟨rfl, rfl⟩
  go_wp2_with fail
  go_ret
  exact ⟨rfl, rfl⟩
theorem isPiece_any (R : Rdg) (n : Int) (w : World) (hl : R.ps.length ≤ 1000000) :
    Calls Try.prog 72 #[.agg #[.int .i64 R.len, .int .i64 R.st, .int .i64 R.en, .slice R.pa R.ps.length R.pc], .int .i64 n] w fun e w' => e = .returned (.bool (isFromB n 0 ((R.ps.length : Int) - 1))) ∧ Below w.heap.size w w' := by
  have hb1 : Below w.heap.size w (w.alloc (.cells #[.int .i64 R.len, .int .i64 R.st, .int .i64 R.en, .slice R.pa R.ps.length R.pc] 24)) := (Below.refl _ w).alloc (Nat.le_refl _) _
  have hs : IntKind.i64.wrap ((R.ps.length : Int) - 1) = (R.ps.length : Int) - 1 := by rw [IntKind.wrap_i64]; omega
  go_enter Try.func72, Try.ntmps72
  go_wp2_with fail
  refine (isFrom_any _ _ _ _).mono ?_
  rintro e w' ⟨rfl, rfl⟩
  go_wp2_with fail
  go_ret
  exact ⟨rfl, hb1⟩
def areM (i : Int) (x y : Pce) : Bool := (y.mr == i) && ((y.wd == x.wd) && ((y.lf == x.rt) && (y.rt == x.lf)))
theorem areMirrors_any (i : Int) (x y : Pce) (w : World) :
    Calls Try.prog 80 #[.int .i64 i, .agg #[.string x.name, .int .i64 x.wd, .int .i64 x.lf, .int .i64 x.rt, .int .i64 x.mr], .agg #[.string y.name, .int .i64 y.wd, .int .i64 y.lf, .int .i64 y.rt, .int .i64 y.mr]] w fun e w' => e = .returned (.bool (areM i x y)) ∧ Below w.heap.size w w' := by
  have hbel : Below w.heap.size w ((w.alloc (.cells #[.string x.name, .int .i64 x.wd, .int .i64 x.lf, .int .i64 x.rt, .int .i64 x.mr] 54)).alloc (.cells #[.string y.name, .int .i64 y.wd, .int .i64 y.lf, .int .i64 y.rt, .int .i64 y.mr] 54)) := ((Below.refl _ _).alloc (Nat.le_refl _) _).alloc (by simp) _
  have HB := Lib.hid hbel
  clear hbel
  cases h1 : (y.mr == i) with
  | false =>
    have hv := Lib.hid (show areM i x y = false by simp [areM, h1])
    go_enter Try.func80, Try.ntmps80
    go_wp2
    go_ret
    exact ⟨by rw [hv.out]; rfl, HB.out⟩
  | true =>
    cases h2 : (y.wd == x.wd) with
    | false =>
      have hv := Lib.hid (show areM i x y = false by simp [areM, h2])
      go_enter Try.func80, Try.ntmps80
      go_wp2
      go_ret
      exact ⟨by rw [hv.out]; rfl, HB.out⟩
    | true =>
      cases h3 : (y.lf == x.rt) with
      | false =>
        have hv := Lib.hid (show areM i x y = false by simp [areM, h3])
        go_enter Try.func80, Try.ntmps80
        go_wp2
        go_ret
        exact ⟨by rw [hv.out]; rfl, HB.out⟩
      | true =>
        cases h4 : (y.rt == x.lf) with
        | false =>
          have hv := Lib.hid (show areM i x y = false by simp [areM, h4])
          go_enter Try.func80, Try.ntmps80
          go_wp2
          go_ret
          exact ⟨by rw [hv.out]; rfl, HB.out⟩
        | true =>
          have hv := Lib.hid (show areM i x y = true by simp [areM, h1, h2, h3, h4])
          go_enter Try.func80, Try.ntmps80
          go_wp2
          go_ret
          exact ⟨by rw [hv.out]; rfl, HB.out⟩

/-! ### A piece found by its name -/
theorem pieceName_any (f : Pce) (nm : ByteArray) (B : Nat) (w : World) (hm : Blk w B #[.string nm] 9) :
    Calls Try.prog 100 #[.agg #[.string f.name, .int .i64 f.wd, .int .i64 f.lf, .int .i64 f.rt, .int .i64 f.mr], .pointer (some ⟨B, 0, none⟩)] w fun e w' => e = .returned (.bool (strB f.name nm)) ∧ Below w.heap.size w w' := by
  have hB : B < w.heap.size := hm.lt
  have c0 : w.cell? ⟨B, 0, none⟩ = some (.string nm) := hm.cell 0
  clear hm
  go_enter Try.func100, Try.ntmps100
  go_wp2
  go_ret
  exact ⟨rfl, (Below.refl _ _).alloc (Nat.le_refl _) _⟩
def idxN (l : List Pce) (nm : ByteArray) : Int := match l.findIdx? (fun f => strB f.name nm) with | some k => k | none => -1
theorem idxN_neg (l : List Pce) (nm : ByteArray) : decide (idxN l nm < 0) = !(l.any fun f => strB f.name nm) := by
  unfold idxN
  cases h : l.findIdx? (fun f => strB f.name nm) with
  | none =>
    have : (l.any fun f => strB f.name nm) = false := by
      rw [List.any_eq_false]
      intro x hx
      have := List.findIdx?_eq_none_iff.1 h x hx
      simpa using this
    rw [this]
    decide
  | some k =>
    have : (l.any fun f => strB f.name nm) = true := by
      rw [List.findIdx?_eq_some_iff_getElem] at h
      obtain ⟨hk, h1, _⟩ := h
      rw [List.any_eq_true]
      exact ⟨_, List.getElem_mem hk, h1⟩
    rw [this]
    simp

set_option maxRecDepth 100000 in
set_option maxHeartbeats 1000000 in
theorem indexN_any (sa : Option Addr) (cap B : Nat) (l : List Pce) (nm : ByteArray) (w : World) (hs : IsPcs w sa cap l) (hm : Blk w B #[.string nm] 9) :
    Calls Try.prog 99 #[.slice sa l.length cap, .func (.func 100) #[] #[.pointer (some ⟨B, 0, none⟩)]] w fun e w' => e = .returned (.int .i64 (idxN l nm)) ∧ Below w.heap.size w w' := by
  have hB : B < w.heap.size := hm.lt
  have HM := Lib.hid hm
  have HR := Lib.hid hs
  clear hm hs
  go_enter Try.func99, Try.ntmps99
  go_wp2_with fail
  go_loopw [8, 5] (fun i _ wr => ∃ j : Nat, j ≤ l.length ∧ i = .int .i64 j ∧ (∀ f ∈ l.take j, strB f.name nm = false) ∧ Below w.heap.size w wr) (fun i _ _ => l.length - (intOf i).toNat)
  case atStart => exact ⟨0, Nat.zero_le _, rfl, by simp, Below.refl _ _⟩
  case round =>
    obtain ⟨j, hj, rfl, hno, g2⟩ := hrel
    by_cases hlj : j < l.length
    · have hq : l[j]? = some l[j] := List.getElem?_eq_getElem hlj
      obtain ⟨b, off, e, hbl, hc1, hc2, hp⟩ := (HR.out.belowS g2).at hq
      subst e
      obtain ⟨c0, c1, c2, c3, c4⟩ := hp
      have htk : l.take (j + 1) = l.take j ++ [l[j]] := by rw [List.take_add_one, hq]; rfl
      generalize l[j] = q at *
      have HQ := Lib.hid hq
      have HT := Lib.hid htk
      have HN := Lib.hid hno
      clear hq htk hno
      have hj0 : (0 : Int) ≤ (j : Int) := Int.natCast_nonneg _
      have hj1 : (j : Int) < (l.length : Int) := by omega
      go_wp2_with fail
      refine (pieceName_any q nm B _ (HM.out.belowS g2)).mono ?_
      rintro e w1 ⟨rfl, hb1⟩
      have hb2 := g2.trans (hb1.mono g2.size)
      cases hst : strB q.name nm with
      | true =>
        have hv : idxN l nm = j := by rw [idxN, findIdx_at l _ j q HQ.out hst HN.out]
        have HV := Lib.hid hv
        clear hv
        go_wp2_with fail
        go_ret
        exact ⟨by rw [HV.out]; rfl, hb2⟩
      | false =>
        have HS := Lib.hid hst
        go_wp2_with fail
        refine ⟨⟨j + 1, by omega, by simp, ?_, hb2⟩, by simp [intOf]; omega⟩
        rw [HT.out]
        intro f hf
        rcases List.mem_append.1 hf with hf | hf
        · exact HN.out f hf
        · obtain rfl := List.mem_singleton.1 hf
          exact HS.out
    · obtain rfl : j = l.length := by omega
      have hv : idxN l nm = -1 := by
        rw [idxN, findIdx_none_take l _ (fun x hx => hno x (by rw [List.take_length]; exact hx))]
      have HV := Lib.hid hv
      clear hv hno
      go_wp2_with fail
      go_ret
      exact ⟨by rw [HV.out]; rfl, g2⟩
theorem findPiece_any (sa : Option Addr) (cap : Nat) (l : List Pce) (nm : ByteArray) (w : World) (hs : IsPcs w sa cap l) :
    Calls Try.prog 79 #[.slice sa l.length cap, .string nm] w fun e w' => e = .returned (.int .i64 (idxN l nm)) ∧ Below w.heap.size w w' := by
  have hmf : ∀ (fn : Fn) (first cap : Array Value) (w : World), (Instr.makeFunc fn first cap).run Try.prog w = .ok (.func fn first cap) w := fun _ _ _ _ => rfl
  have hb1 : Below w.heap.size w (w.alloc (.cells #[.string nm] 9)) := (Below.refl _ w).alloc (Nat.le_refl _) _
  have HI := Lib.hid (indexN_any sa cap w.heap.size l nm _ (hs.belowS hb1) (Blk.new w _ _))
  have HB := Lib.hid hb1
  clear hb1 hs
  go_enter Try.func79, Try.ntmps79
  go_wp2_with fail
  refine HI.out.mono ?_
  rintro e w1 ⟨rfl, hb⟩
  have HB2 := Lib.hid (HB.out.trans (hb.mono HB.out.size))
  clear hb
  go_wp2_with fail
  go_ret
  exact ⟨rfl, HB2.out⟩
end Go.Proofs.Ytmcmhgjlpffcnaa
