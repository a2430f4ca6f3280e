/- A skin in memory: its marks, holes and outline; whether a point is one of an area's; marks in order. No condition. -/
import Derived.Test.YtoigihmgjacbjaaDoorWF
import Derived.Test.YtoigihmgjacbjaaDoorWB
set_option linter.unusedSimpArgs false
namespace Go.Proofs.YtoigihmgjacbjaaDoor
open Go.RowKit

/-! ### Marks and holes in memory -/
abbrev mrkC (m : Mrk) : Array Value := #[.int .i64 m.at_.x, .int .i64 m.at_.y, .int .i64 m.th.lo, .int .i64 m.th.hi]
structure Hol where
  a : Pnt
  b : Pnt
deriving DecidableEq
abbrev holC (h : Hol) : Array Value := #[.int .i64 h.a.x, .int .i64 h.a.y, .int .i64 h.b.x, .int .i64 h.b.y]
/-- A list of things of four numbers each. -/
def IsRow4 {α : Type} (cs : α → Array Value) (w : World) (a : Option Addr) (c : Nat) (l : List α) : Prop :=
  l = [] ∨ ∃ b off, a = some ⟨b, off, none⟩ ∧ b < w.heap.size ∧ l.length ≤ c ∧ c ≤ 9223372036854775807 ∧ ∀ j x, l[j]? = some x → ∀ i, i < 4 → w.cell? ⟨b, off + j * 4 + i, none⟩ = (cs x)[i]?
theorem IsRow4.below {α : Type} {cs : α → Array Value} {w w' : World} {a : Option Addr} {c : Nat} {l : List α} (h : IsRow4 cs w a c l) (hb : Below w.heap.size w w') : IsRow4 cs w' a c l := by
  rcases h with h | ⟨b, off, e, hl, hc, hc', hp⟩
  · exact .inl h
  · exact .inr ⟨b, off, e, Nat.lt_of_lt_of_le hl hb.size, hc, hc', fun j x hj i hi => (hb.cell (p := ⟨b, _, none⟩) hl).trans (hp j x hj i hi)⟩
theorem IsRow4.at {α : Type} {cs : α → Array Value} {w : World} {a : Option Addr} {c : Nat} {l : List α} (h : IsRow4 cs w a c l) {j : Nat} {x : α} (hj : l[j]? = some x) :
    ∃ b off, a = some ⟨b, off, none⟩ ∧ b < w.heap.size ∧ l.length ≤ c ∧ c ≤ 9223372036854775807 ∧ w.cell? ⟨b, off + j * 4, none⟩ = (cs x)[0]? ∧ w.cell? ⟨b, off + j * 4 + 1, none⟩ = (cs x)[1]? ∧ w.cell? ⟨b, off + j * 4 + 2, none⟩ = (cs x)[2]? ∧ w.cell? ⟨b, off + j * 4 + 3, none⟩ = (cs x)[3]? := by
  rcases h with rfl | ⟨b, off, e, hl, hc, hc', hp⟩
  · simp at hj
  · exact ⟨b, off, e, hl, hc, hc', hp j x hj 0 (by omega), hp j x hj 1 (by omega), hp j x hj 2 (by omega), hp j x hj 3 (by omega)⟩
theorem IsRow4.len {α : Type} {cs : α → Array Value} {w : World} {a : Option Addr} {c : Nat} {l : List α} (h : IsRow4 cs w a c l) : l.length ≤ 9223372036854775807 := by
  rcases h with rfl | ⟨_, _, _, _, h1, h2, _⟩
  · simp
  · omega

/-! ### An area: whether a point is one of its points -/
def inHole (p : Pnt) (h : Hol) : Bool := (decide (h.a.x < p.x) && decide (p.x < h.b.x)) && (decide (h.a.y < p.y) && decide (p.y < h.b.y))
def inAreaM (l : List Pnt) (hs : List Hol) (p : Pnt) : Bool := !decide (insM l p < 0) && hs.all fun h => !inHole p h
theorem all_take_succ {α : Type} (l : List α) (f : α → Bool) (j : Nat) (q : α) (h : l[j]? = some q) : (l.take (j + 1)).all f = ((l.take j).all f && f q) := by
  rw [List.take_add_one, h]
  simp

set_option maxRecDepth 100000 in
set_option maxHeartbeats 4000000 in
theorem isPoint_any (pa : Option Addr) (pn pc : Nat) (ha : Option Addr) (hc : Nat) (l : List Pnt) (hs : List Hol) (p : Pnt) (w : World) (hl : IsPts w (.slice pa pn pc) l) (hll : l.length ≤ 1000) (hok : okPts4 l) (hh : IsRow4 holC w ha hc hs) :
    Calls Tryd.prog 65 #[.agg #[.slice pa pn pc, .slice ha hs.length hc], .agg #[.int .i64 p.x, .int .i64 p.y]] w fun e w' => e = .returned (.bool (inAreaM l hs p)) ∧ Below w.heap.size w w' := by
  have k1 := (Blk.new w 25 #[.slice pa pn pc, .slice ha hs.length hc]).alloc (.cells #[.int .i64 p.x, .int .i64 p.y] 45)
  have k2 := Blk.new (w.alloc (.cells #[.slice pa pn pc, .slice ha hs.length hc] 25)) 45 #[.int .i64 p.x, .int .i64 p.y]
  rw [World.size_alloc] at k2
  have hb1 : Below w.heap.size w ((w.alloc (.cells #[.slice pa pn pc, .slice ha hs.length hc] 25)).alloc (.cells #[.int .i64 p.x, .int .i64 p.y] 45)) := ((Below.refl _ w).alloc (Nat.le_refl _) _).alloc (by simp) _
  have HL := Lib.hid hl
  have HH := Lib.hid hh
  have hlen := hh.len
  clear hl hh
  go_enter Tryd.func65, Tryd.ntmps65
  go_upto_region 1 with fail
  generalize ((w.alloc (.cells #[.slice pa pn pc, .slice ha hs.length hc] 25)).alloc (.cells #[.int .i64 p.x, .int .i64 p.y] 45)) = w1 at *
  have l1 := k1.lt
  have l2 := k2.lt
  obtain ⟨a0, a1⟩ := (show w1.cell? ⟨w.heap.size, 0, none⟩ = some (.slice pa pn pc) ∧ w1.cell? ⟨w.heap.size, 1, none⟩ = some (.slice ha hs.length hc) from ⟨k1.cell 0, k1.cell 1⟩)
  obtain ⟨b0, b1⟩ := (show w1.cell? ⟨w.heap.size + 1, 0, none⟩ = some (.int .i64 p.x) ∧ w1.cell? ⟨w.heap.size + 1, 1, none⟩ = some (.int .i64 p.y) from ⟨k2.cell 0, k2.cell 1⟩)
  have HB1 := Lib.hid hb1
  have K1 := Lib.hid k1
  have K2 := Lib.hid k2
  clear hb1 k1 k2
  go_wp2_with fail
  refine (inside_any pa pn pc l p _ (HL.out.below HB1.out) hll hok).mono ?_
  rintro e w2 ⟨rfl, hb⟩
  have HB2 := Lib.hid (HB1.out.trans (hb.mono HB1.out.size))
  have K12 := Lib.hid (K1.out.belowS hb)
  have K22 := Lib.hid (K2.out.belowS hb)
  clear a0 a1 b0 b1 l1 l2 hb K1 K2
  have l1 := K12.out.lt
  have a1 : w2.cell? ⟨w.heap.size, 1, none⟩ = some (.slice ha hs.length hc) := K12.out.cell 1
  obtain ⟨bb, hbb⟩ : ∃ bb : Bool, decide (insM l p < 0) = bb := ⟨_, rfl⟩
  have HV := Lib.hid (show inAreaM l hs p = (!bb && hs.all fun h => !inHole p h) by unfold inAreaM; rw [hbb])
  have HBB := Lib.hid hbb
  clear hbb
  cases bb with
  | true =>
    have q : insM l p < 0 := of_decide_eq_true HBB.out
    go_wp2_with fail
    go_ret
    exact ⟨by rw [HV.out]; rfl, HB2.out⟩
  | false =>
    have q : ¬ insM l p < 0 := of_decide_eq_false HBB.out
    go_wp2_with fail
    go_loopw [6, 15] (fun _ s15 wr => ∃ j : Nat, j ≤ hs.length ∧ s15 = .int .i64 j ∧ ((hs.take j).all fun h => !inHole p h) = true ∧ Below w2.heap.size w2 wr) (fun _ i _ => hs.length - (intOf i).toNat)
    case atStart => exact ⟨0, Nat.zero_le _, rfl, by simp, Below.refl _ _⟩
    case round =>
    obtain ⟨j, hj, rfl, hall, hb3⟩ := hrel
    obtain ⟨w3, rfl⟩ : ∃ w3 : World, w3 = wr := ⟨_, rfl⟩
    by_cases hlj : j < hs.length
    · have hlj' : (j : Int) < (hs.length : Int) := by omega
      have hjs : IntKind.i64.wrap ((j : Int) + 1) = ((j + 1 : Nat) : Int) := by rw [IntKind.wrap_i64]; omega
      have hq : hs[j]? = some hs[j] := List.getElem?_eq_getElem hlj
      obtain ⟨b, off, hea, hbl, hcap, hcx, x0, x1, x2, x3⟩ := ((HH.out.below HB2.out).below hb3).at hq
      have HA := Lib.hid (all_take_succ hs (fun h => !inHole p h) j _ hq)
      have HX := Lib.hid (fun h : inHole p hs[j] = true => show (hs.all fun h => !inHole p h) = false from by
        rw [List.all_eq_false]
        exact ⟨_, List.getElem_mem hlj, by simp [h]⟩)
      generalize hs[j] = h at *
      simp only [holC, List.getElem?_toArray, List.getElem?_cons_zero, List.getElem?_cons_succ] at x0 x1 x2 x3
      subst hea
      have k2' := K22.out.belowS hb3
      obtain ⟨b0, b1⟩ := (show w3.cell? ⟨w.heap.size + 1, 0, none⟩ = some (.int .i64 p.x) ∧ w3.cell? ⟨w.heap.size + 1, 1, none⟩ = some (.int .i64 p.y) from ⟨k2'.cell 0, k2'.cell 1⟩)
      have l2 := k2'.lt
      have HB3 := Lib.hid hb3
      have HALL := Lib.hid hall
      have HLJ := Lib.hid hlj
      have kH := Blk.new w3 64 #[.int .i64 h.a.x, .int .i64 h.a.y, .int .i64 h.b.x, .int .i64 h.b.y]
      have hb4 : Below w3.heap.size w3 (w3.alloc (.cells #[.int .i64 h.a.x, .int .i64 h.a.y, .int .i64 h.b.x, .int .i64 h.b.y] 64)) := (Below.refl _ w3).alloc (Nat.le_refl _) _
      have k24 := k2'.belowS hb4
      clear hq hb3 hall hj hlj q
      go_upto_region 6 with fail
      clear x0 x1 x2 x3 b0 b1 l2 hbl hcap hcx k2'
      generalize w3.alloc (.cells #[.int .i64 h.a.x, .int .i64 h.a.y, .int .i64 h.b.x, .int .i64 h.b.y] 64) = w4 at *
      obtain ⟨b0, b1⟩ := (show w4.cell? ⟨w.heap.size + 1, 0, none⟩ = some (.int .i64 p.x) ∧ w4.cell? ⟨w.heap.size + 1, 1, none⟩ = some (.int .i64 p.y) from ⟨k24.cell 0, k24.cell 1⟩)
      obtain ⟨x0, x1, x2, x3⟩ := (show w4.cell? ⟨w3.heap.size, 0, none⟩ = some (.int .i64 h.a.x) ∧ w4.cell? ⟨w3.heap.size, 1, none⟩ = some (.int .i64 h.a.y) ∧ w4.cell? ⟨w3.heap.size, 2, none⟩ = some (.int .i64 h.b.x) ∧ w4.cell? ⟨w3.heap.size, 3, none⟩ = some (.int .i64 h.b.y) from ⟨kH.cell 0, kH.cell 1, kH.cell 2, kH.cell 3⟩)
      have l2 := k24.lt
      have l3 := kH.lt
      have HB4 := Lib.hid (HB3.out.trans (hb4.mono HB3.out.size))
      clear kH k24 hb4
      go_cut [48] from 19 to 47 (fun t wx => t = .bool (inHole p h) ∧ wx = w4)
      case first =>
        clear hjs
        by_cases c1 : h.a.x < p.x
        all_goals by_cases c2 : p.x < h.b.x
        all_goals by_cases c3 : h.a.y < p.y
        all_goals by_cases c4 : p.y < h.b.y
        all_goals
          go_wp2_with fail
          go_meet
          refine ⟨?_, rfl⟩
          simp [inHole]
          try omega
      case rest =>
      obtain ⟨rfl, rfl⟩ := hcut
      clear b0 b1 x0 x1 x2 x3 l2 l3
      generalize hih : inHole p h = ih at *
      have HIH := Lib.hid hih
      clear hih
      cases ih with
      | true =>
        go_wp2_with fail
        go_ret
        exact ⟨by rw [HV.out, HX.out trivial]; rfl, HB2.out.trans (HB4.out.mono HB2.out.size)⟩
      | false =>
        go_wp2_with fail
        refine ⟨⟨j + 1, by have := HLJ.out; omega, rfl, ?_, HB4.out⟩, by have := HLJ.out; simp [intOf]; omega⟩
        rw [HA.out, HALL.out]
        rfl
    · obtain rfl : j = hs.length := by omega
      have hlj' : ¬ (hs.length : Int) < (hs.length : Int) := by omega
      rw [List.take_of_length_le (Nat.le_refl _)] at hall
      have HALL := Lib.hid hall
      have HB3 := Lib.hid hb3
      clear hall hb3 hj hlj
      go_wp2_with fail
      go_ret
      exact ⟨by rw [HV.out, HALL.out]; rfl, HB2.out.trans (HB3.out.mono HB2.out.size)⟩
end Go.Proofs.YtoigihmgjacbjaaDoor
