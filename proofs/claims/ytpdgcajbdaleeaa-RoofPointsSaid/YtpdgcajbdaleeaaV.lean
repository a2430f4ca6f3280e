/- openAt: the opening that a point is in. -/
import Derived.Test.YtpdgcajbdaleeaaP
namespace Go.Proofs.Ytpdgcajbdaleeaa
open Go.RowKit

/-- A point is in an opening. -/
def inOpn (p : Pnt) (o : Opn) : Bool := decide (o.lo.x < p.x) && (decide (p.x < o.hi.x) && (decide (o.lo.y < p.y) && decide (p.y < o.hi.y)))
def openAtI (l : List Opn) (p : Pnt) : Int := match l.findIdx? (inOpn p) with | some k => k | none => -1

set_option maxRecDepth 100000 in
set_option maxHeartbeats 2000000 in
theorem openAt_any (sa : Option Addr) (slen cap : Nat) (l : List Opn) (p : Pnt) (w : World) (hs : IsOpns w (.slice sa slen cap) l) (hl : l.length ≤ 100000) :
    Calls Try.prog 41 #[.slice sa slen cap, .agg #[.int .i64 p.x, .int .i64 p.y]] w fun e w' => e = .returned (.int .i64 (openAtI l p)) ∧ Below w.heap.size w w' := by
  have hB : Below w.heap.size w (w.alloc (.cells #[.int .i64 p.x, .int .i64 p.y] 27)) := (Below.refl _ _).alloc (Nat.le_refl _) _
  have hbk : Blk (w.alloc (.cells #[.int .i64 p.x, .int .i64 p.y] 27)) w.heap.size #[.int .i64 p.x, .int .i64 p.y] 27 := Blk.new _ _ _
  rcases hs with ⟨h1, rfl⟩ | ⟨b, off, c, h1, h2, h3, h4, h5⟩
  · obtain ⟨rfl, rfl, rfl⟩ := slice_inj h1
    clear h1
    go_enter Try.func41, Try.ntmps41
    go_wp2_with fail
    go_loopw [9] (fun i wr => i = .int .i64 0 ∧ Below w.heap.size w wr) (fun _ _ => 0)
    case atStart => exact ⟨rfl, hB⟩
    case round =>
      obtain ⟨rfl, hb⟩ := hrel
      go_wp2_with fail
      go_ret
      exact ⟨rfl, hb⟩
  · obtain ⟨rfl, rfl, rfl⟩ := slice_inj h1
    clear h1
    have H5 := Lib.hid h5
    clear h5
    go_enter Try.func41, Try.ntmps41
    go_wp2_with fail
    go_loopw [9, 5, 6] (fun i _ _ wr => ∃ j : Nat, j ≤ l.length ∧ i = .int .i64 j ∧ (∀ f ∈ l.take j, inOpn p f = false) ∧ Blk wr w.heap.size #[.int .i64 p.x, .int .i64 p.y] 27 ∧ Below w.heap.size w wr) (fun i _ _ _ => l.length - (intOf i).toNat)
    case atStart => exact ⟨0, Nat.zero_le _, rfl, by simp, hbk, hB⟩
    case round =>
      obtain ⟨j, hj, rfl, hno, g1, g2⟩ := hrel
      by_cases hlj : j < l.length
      · have hq : l[j]? = some l[j] := List.getElem?_eq_getElem hlj
        obtain ⟨c0, c1, c2, c3, c4, c5⟩ := (H5.out j _ hq).1.below g2 h2
        have htk : l.take (j + 1) = l.take j ++ [l[j]] := by rw [List.take_add_one, hq]; rfl
        generalize l[j] = q at *
        have HQ := Lib.hid hq
        have HT := Lib.hid htk
        have HN := Lib.hid hno
        clear hq htk hno
        have hbs : b < wr.heap.size := Nat.lt_of_lt_of_le h2 g2.size
        have hb0 : Below wr.heap.size wr (wr.alloc (.cells (opnC q) 76)) := (Below.refl _ wr).alloc (Nat.le_refl _) _
        have g3 := g1.belowS hb0
        have g4 := g2.trans (hb0.mono g2.size)
        unfold opnC at g3 g4 hb0
        have hj0 : (0 : Int) ≤ (j : Int) := Int.natCast_nonneg _
        have hj1 : (j : Int) < (l.length : Int) := by omega
        have p0 := g1.cell 0
        have p1 := g1.cell 1
        have lt1 := g1.lt
        simp only [List.getElem?_toArray, List.getElem?_cons_zero, List.getElem?_cons_succ] at p0 p1
        have hyes : inOpn p q = true → openAtI l p = j := fun hi => by rw [openAtI, findIdx_at l _ j q HQ.out hi HN.out]
        have hstep : inOpn p q = false → ∀ f ∈ l.take (j + 1), inOpn p f = false := fun hi x hx => by
          rw [HT.out] at hx
          rcases List.mem_append.1 hx with hx | hx
          · exact HN.out x hx
          · obtain rfl := List.mem_singleton.1 hx
            exact hi
        have HY := Lib.hid hyes
        have HS := Lib.hid hstep
        clear hyes hstep
        by_cases t1 : q.lo.x < p.x
        · by_cases t2 : p.x < q.hi.x
          · by_cases t3 : q.lo.y < p.y
            · by_cases t4 : p.y < q.hi.y
              · have hi : inOpn p q = true := by simp [inOpn, t1, t2, t3, t4]
                have HI := Lib.hid hi
                clear hi
                go_wp2_with fail
                go_ret
                exact ⟨by rw [HY.out HI.out]; rfl, g4⟩
              · have hi : inOpn p q = false := by simp [inOpn, t4]
                have HI := Lib.hid hi
                clear hi
                go_wp2_with fail
                exact ⟨⟨j + 1, by omega, by simp, HS.out HI.out, g3, g4⟩, by simp [intOf]; omega⟩
            · have hi : inOpn p q = false := by simp [inOpn, t3]
              have HI := Lib.hid hi
              clear hi
              go_wp2_with fail
              exact ⟨⟨j + 1, by omega, by simp, HS.out HI.out, g3, g4⟩, by simp [intOf]; omega⟩
          · have hi : inOpn p q = false := by simp [inOpn, t2]
            have HI := Lib.hid hi
            clear hi
            go_wp2_with fail
            exact ⟨⟨j + 1, by omega, by simp, HS.out HI.out, g3, g4⟩, by simp [intOf]; omega⟩
        · have hi : inOpn p q = false := by simp [inOpn, t1]
          have HI := Lib.hid hi
          clear hi
          go_wp2_with fail
          exact ⟨⟨j + 1, by omega, by simp, HS.out HI.out, g3, g4⟩, by simp [intOf]; omega⟩
      · obtain rfl : j = l.length := by omega
        rw [List.take_length] at hno
        have hv : openAtI l p = -1 := by rw [openAtI, findIdx_none_take l _ hno]
        have HV := Lib.hid hv
        clear hv hno
        go_wp2_with fail
        go_ret
        exact ⟨by rw [HV.out]; rfl, g2⟩
end Go.Proofs.Ytpdgcajbdaleeaa
