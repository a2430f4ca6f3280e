/- checkTogether: what is woong between faces that may be, each by itself. -/
import Derived.Test.YtpdgcajbdaleeaaP
namespace Go.Proofs.Ytpdgcajbdaleeaa
open Go.RowKit

/-- Some face covers one ahead of it. -/
def coverF (fs : List Fac) : Bool := (List.range fs.length).any fun i => (fs.take i).any fun g => (fs[i]?.map fun f => coveredL f.cs g.cs).getD false
def overF (fs : List Fac) : Bool := (List.range fs.length).any fun i => (fs.take i).any fun g => (fs[i]?.map fun f => edgesOverL f.cs g.cs).getD false
def togetherE (fs : List Fac) : Int := if coverF fs = true then 10 else if overF fs = true then 9 else 0

theorem pairF_false {fs : List Fac} {P : List Pnt → List Pnt → Bool} (h : ∀ k f, k < fs.length → fs[k]? = some f → ((fs.take k).any fun g => P f.cs g.cs) = false) :
    ((List.range fs.length).any fun i => (fs.take i).any fun g => (fs[i]?.map fun f => P f.cs g.cs).getD false) = false := by
  rw [Bool.eq_false_iff]
  intro hx
  obtain ⟨i, hi, hx⟩ := List.any_eq_true.1 hx
  have hi' : i < fs.length := by simpa using hi
  have := h i fs[i] hi' (List.getElem?_eq_getElem hi')
  rw [List.getElem?_eq_getElem hi'] at hx
  simp only [Option.map_some, Option.getD_some] at hx
  rw [this] at hx
  cases hx
theorem pairF_true {fs : List Fac} {P : List Pnt → List Pnt → Bool} {i m : Nat} {f g : Fac} (hi : fs[i]? = some f) (hm : fs[m]? = some g) (hlt : m < i) (h : P f.cs g.cs = true) :
    ((List.range fs.length).any fun i => (fs.take i).any fun g => (fs[i]?.map fun f => P f.cs g.cs).getD false) = true := by
  have hl := (List.getElem?_eq_some_iff.1 hi).1
  refine List.any_eq_true.2 ⟨i, by simpa using hl, List.any_eq_true.2 ⟨g, ?_, ?_⟩⟩
  · have : (fs.take i)[m]? = some g := by rw [List.getElem?_take, if_pos hlt]; exact hm
    exact List.mem_of_getElem? this
  · rw [hi]; exact h

set_option maxRecDepth 100000 in
set_option maxHeartbeats 4000000 in
theorem checkTogether_any (sa : Option Addr) (la cap : Nat) (fs : List Fac) (w : World) (hs : IsFacs w (.slice sa la cap) fs) (hfl : fs.length ≤ 100000) (hok : ∀ f ∈ fs, okPts f.cs ∧ f.cs.length ≤ 1000) :
    Calls Try.prog 50 #[.slice sa la cap] w fun e w' => e = .returned (.int .i64 (togetherE fs)) ∧ Below w.heap.size w w' := by
  have HOK := Lib.hid hok
  clear hok
  rcases hs with ⟨h1, rfl⟩ | ⟨b, off, c, h1, h2, h3, h4, h5⟩
  · obtain ⟨rfl, rfl, rfl⟩ := slice_inj h1
    clear h1
    go_enter Try.func50, Try.ntmps50
    go_wp2_with fail
    go_loopw [13] (fun i wr => i = .int .i64 0 ∧ wr = w) (fun _ _ => 0)
    case atStart => exact ⟨rfl, rfl⟩
    case round =>
      obtain ⟨wo, rfl⟩ : ∃ wo : World, wo = wr := ⟨_, rfl⟩
      obtain ⟨rfl, rfl⟩ := hrel
      go_wp2_with fail
      go_loopw [35] (fun i wx => i = .int .i64 0 ∧ wx = wo) (fun _ _ => 0)
      case atStart => exact ⟨rfl, rfl⟩
      case round =>
        obtain ⟨rfl, rfl⟩ := hrel
        go_wp2_with fail
        go_ret
        exact ⟨rfl, Below.refl _ _⟩
  · obtain ⟨rfl, rfl, rfl⟩ := slice_inj h1
    clear h1
    have H5 := Lib.hid h5
    clear h5
    go_enter Try.func50, Try.ntmps50
    go_wp2_with fail
    go_loopw [13] (fun i wr => ∃ j : Nat, j ≤ fs.length ∧ i = .int .i64 j ∧ (∀ k f, k < j → fs[k]? = some f → ((fs.take k).any fun g => coveredL f.cs g.cs) = false) ∧ Below w.heap.size w wr) (fun i _ => fs.length - (intOf i).toNat)
    case atStart => exact ⟨0, Nat.zero_le _, rfl, fun k f h => by omega, Below.refl _ _⟩
    case round =>
      obtain ⟨wo, rfl⟩ : ∃ wo : World, wo = wr := ⟨_, rfl⟩
      obtain ⟨j, hj, rfl, hno, g2⟩ := hrel
      have HNO := Lib.hid hno
      clear hno
      by_cases hlj : j < fs.length
      · have hq : fs[j]? = some fs[j] := List.getElem?_eq_getElem hlj
        obtain ⟨hokl, hokp⟩ := HOK.out fs[j] (List.getElem_mem hlj)
        obtain ⟨⟨d0, d1, d2, d3, d4, d5, d6⟩, hpts⟩ := H5.out j _ hq
        have hpp := hpts.1.below g2
        have hat : FacAt wo b (off + j * 7) fs[j] := FacAt.below ⟨d0, d1, d2, d3, d4, d5, d6⟩ g2 h2
        clear d0 d1 d2 d3 d4 d5 d6 hpts
        obtain ⟨d0, d1, d2, d3, d4, d5, d6⟩ := hat
        generalize fs[j] = F at *
        have HQ := Lib.hid hq
        clear hq
        have hbs : b < wo.heap.size := Nat.lt_of_lt_of_le h2 g2.size
        have hj0 : (0 : Int) ≤ (j : Int) := Int.natCast_nonneg _
        have hj1 : (j : Int) < (fs.length : Int) := by omega
        have hj2 : (j : Int) ≤ (cap : Int) := by omega
        have hbF : Blk (wo.alloc (.cells (facC F) 72)) wo.heap.size (facC F) 72 := Blk.new _ _ _
        have hb0 : Below w.heap.size w (wo.alloc (.cells (facC F) 72)) := g2.alloc g2.size _
        have hpp0 : IsPts (wo.alloc (.cells (facC F) 72)) (.slice F.ca F.cs.length F.cc) F.cs := hpp.below ((Below.refl _ wo).alloc (Nat.le_refl _) _)
        go_wp2_with fail
        go_loopw [22] (fun i wr => ∃ m : Nat, m ≤ j ∧ i = .int .i64 m ∧ ((fs.take m).any fun g => coveredL F.cs g.cs) = false ∧ Blk wr wo.heap.size (facC F) 72 ∧ Below w.heap.size w wr ∧ IsPts wr (.slice F.ca F.cs.length F.cc) F.cs) (fun i _ => j - (intOf i).toNat)
        case atStart => exact ⟨0, Nat.zero_le _, rfl, by simp, hbF, hb0, hpp0⟩
        case round =>
          obtain ⟨m, hm, rfl, hno, k1, k2, k3⟩ := hrel
          by_cases hlm : m < j
          · have hml : m < fs.length := by omega
            have hq : fs[m]? = some fs[m] := List.getElem?_eq_getElem hml
            obtain ⟨hokl', hokp'⟩ := HOK.out fs[m] (List.getElem_mem hml)
            obtain ⟨⟨e0, e1, e2, e3, e4, e5, e6⟩, hpts⟩ := H5.out m _ hq
            have hpg := hpts.1.below k2
            have hat : FacAt wr b (off + m * 7) fs[m] := FacAt.below ⟨e0, e1, e2, e3, e4, e5, e6⟩ k2 h2
            clear e0 e1 e2 e3 e4 e5 e6 hpts
            obtain ⟨e0, e1, e2, e3, e4, e5, e6⟩ := hat
            have ht := take_any_succ fs (fun g => coveredL F.cs g.cs) m _ hq
            generalize fs[m] = G at *
            rw [hno] at ht
            have HQ' := Lib.hid hq
            have HT := Lib.hid ht
            clear hq ht hno
            have hbs' : b < wr.heap.size := Nat.lt_of_lt_of_le h2 k2.size
            have hm0 : (0 : Int) ≤ (m : Int) := Int.natCast_nonneg _
            have hm1 : (m : Int) < (j : Int) := by omega
            have c6 : wr.cell? ⟨wo.heap.size, 6, none⟩ = some (.slice F.ca F.cs.length F.cc) := k1.cell 6
            have hlt1 := k1.lt
            have hbx : Below wr.heap.size wr (wr.alloc (.cells (facC G) 72)) := (Below.refl _ wr).alloc (Nat.le_refl _) _
            have K1 := Lib.hid k1
            clear k1
            go_wp2_with fail
            refine (isCovered_any F.ca G.ca F.cs.length F.cc G.cs.length G.cc F.cs G.cs _ (k3.below hbx) (hpg.below hbx) hokp hokp' hokl hokl').mono ?_
            rintro e w5 ⟨rfl, hb5⟩
            have hb6 : Below wr.heap.size wr w5 := hbx.trans (hb5.mono (by simp))
            cases hwi : coveredL F.cs G.cs with
            | true =>
              have hv9 : togetherE fs = 10 := by
                rw [togetherE, if_pos (show coverF fs = true from pairF_true HQ.out HQ'.out hlm hwi)]
              have HV9 := Lib.hid hv9
              clear hv9
              go_wp2_with fail
              go_ret
              exact ⟨by rw [HV9.out]; rfl, k2.trans (hb6.mono k2.size)⟩
            | false =>
              have HW := Lib.hid hwi
              go_wp2_with fail
              refine ⟨⟨m + 1, by omega, by simp, ?_, K1.out.belowS hb6, k2.trans (hb6.mono k2.size), k3.below hb6⟩, by simp [intOf]; omega⟩
              rw [HT.out, HW.out]
              rfl
          · obtain rfl : m = j := by omega
            have HN := Lib.hid hno
            clear hno
            go_wp2_with fail
            refine ⟨⟨m + 1, by omega, by simp, ?_, k2⟩, by simp [intOf]; omega⟩
            intro k f hk hf
            by_cases hkm : k = m
            · subst hkm
              obtain rfl : F = f := by simpa using HQ.out.symm.trans hf
              exact HN.out
            · exact HNO.out k f (by omega) hf
      · obtain rfl : j = fs.length := by omega
        have hc : coverF fs = false := pairF_false (fun k f hk hf => HNO.out k f hk hf)
        have HC := Lib.hid hc
        clear hc HNO
        go_wp2_with fail
        go_loopw [35] (fun i wo => ∃ j : Nat, j ≤ fs.length ∧ i = .int .i64 j ∧ (∀ k f, k < j → fs[k]? = some f → ((fs.take k).any fun g => edgesOverL f.cs g.cs) = false) ∧ Below w.heap.size w wo) (fun i _ => fs.length - (intOf i).toNat)
        case atStart => exact ⟨0, Nat.zero_le _, rfl, fun k f h => by omega, g2⟩
        case round =>
          obtain ⟨wo, rfl⟩ : ∃ wo : World, wo = wr := ⟨_, rfl⟩
          obtain ⟨j, hj, rfl, hno, g2⟩ := hrel
          have HNO := Lib.hid hno
          clear hno
          by_cases hlj : j < fs.length
          · have hq : fs[j]? = some fs[j] := List.getElem?_eq_getElem hlj
            obtain ⟨hokl, hokp⟩ := HOK.out fs[j] (List.getElem_mem hlj)
            obtain ⟨⟨d0, d1, d2, d3, d4, d5, d6⟩, hpts⟩ := H5.out j _ hq
            have hpp := hpts.1.below g2
            have hat : FacAt wo b (off + j * 7) fs[j] := FacAt.below ⟨d0, d1, d2, d3, d4, d5, d6⟩ g2 h2
            clear d0 d1 d2 d3 d4 d5 d6 hpts
            obtain ⟨d0, d1, d2, d3, d4, d5, d6⟩ := hat
            generalize fs[j] = F at *
            have HQ := Lib.hid hq
            clear hq
            have hbs : b < wo.heap.size := Nat.lt_of_lt_of_le h2 g2.size
            have hj0 : (0 : Int) ≤ (j : Int) := Int.natCast_nonneg _
            have hj1 : (j : Int) < (fs.length : Int) := by omega
            have hj2 : (j : Int) ≤ (cap : Int) := by omega
            have hbF : Blk (wo.alloc (.cells (facC F) 72)) wo.heap.size (facC F) 72 := Blk.new _ _ _
            have hb0 : Below w.heap.size w (wo.alloc (.cells (facC F) 72)) := g2.alloc g2.size _
            have hpp0 : IsPts (wo.alloc (.cells (facC F) 72)) (.slice F.ca F.cs.length F.cc) F.cs := hpp.below ((Below.refl _ wo).alloc (Nat.le_refl _) _)
            go_wp2_with fail
            go_loopw [44] (fun i wr => ∃ m : Nat, m ≤ j ∧ i = .int .i64 m ∧ ((fs.take m).any fun g => edgesOverL F.cs g.cs) = false ∧ Blk wr wo.heap.size (facC F) 72 ∧ Below w.heap.size w wr ∧ IsPts wr (.slice F.ca F.cs.length F.cc) F.cs) (fun i _ => j - (intOf i).toNat)
            case atStart => exact ⟨0, Nat.zero_le _, rfl, by simp, hbF, hb0, hpp0⟩
            case round =>
              obtain ⟨m, hm, rfl, hno, k1, k2, k3⟩ := hrel
              by_cases hlm : m < j
              · have hml : m < fs.length := by omega
                have hq : fs[m]? = some fs[m] := List.getElem?_eq_getElem hml
                obtain ⟨hokl', hokp'⟩ := HOK.out fs[m] (List.getElem_mem hml)
                obtain ⟨⟨e0, e1, e2, e3, e4, e5, e6⟩, hpts⟩ := H5.out m _ hq
                have hpg := hpts.1.below k2
                have hat : FacAt wr b (off + m * 7) fs[m] := FacAt.below ⟨e0, e1, e2, e3, e4, e5, e6⟩ k2 h2
                clear e0 e1 e2 e3 e4 e5 e6 hpts
                obtain ⟨e0, e1, e2, e3, e4, e5, e6⟩ := hat
                have ht := take_any_succ fs (fun g => edgesOverL F.cs g.cs) m _ hq
                generalize fs[m] = G at *
                rw [hno] at ht
                have HQ' := Lib.hid hq
                have HT := Lib.hid ht
                clear hq ht hno
                have hbs' : b < wr.heap.size := Nat.lt_of_lt_of_le h2 k2.size
                have hm0 : (0 : Int) ≤ (m : Int) := Int.natCast_nonneg _
                have hm1 : (m : Int) < (j : Int) := by omega
                have c6 : wr.cell? ⟨wo.heap.size, 6, none⟩ = some (.slice F.ca F.cs.length F.cc) := k1.cell 6
                have hlt1 := k1.lt
                have hbx : Below wr.heap.size wr (wr.alloc (.cells (facC G) 72)) := (Below.refl _ wr).alloc (Nat.le_refl _) _
                have K1 := Lib.hid k1
                clear k1
                go_wp2_with fail
                refine (edgesOverlap_any F.ca G.ca F.cs.length F.cc G.cs.length G.cc F.cs G.cs _ (k3.below hbx) (hpg.below hbx) hokp hokp' hokl hokl').mono ?_
                rintro e w5 ⟨rfl, hb5⟩
                have hb6 : Below wr.heap.size wr w5 := hbx.trans (hb5.mono (by simp))
                cases hwi : edgesOverL F.cs G.cs with
                | true =>
                  have hv9 : togetherE fs = 9 := by
                    rw [togetherE, if_neg (by rw [HC.out]; simp), if_pos (show overF fs = true from pairF_true HQ.out HQ'.out hlm hwi)]
                  have HV9 := Lib.hid hv9
                  clear hv9
                  go_wp2_with fail
                  go_ret
                  exact ⟨by rw [HV9.out]; rfl, k2.trans (hb6.mono k2.size)⟩
                | false =>
                  have HW := Lib.hid hwi
                  go_wp2_with fail
                  refine ⟨⟨m + 1, by omega, by simp, ?_, K1.out.belowS hb6, k2.trans (hb6.mono k2.size), k3.below hb6⟩, by simp [intOf]; omega⟩
                  rw [HT.out, HW.out]
                  rfl
              · obtain rfl : m = j := by omega
                have HN := Lib.hid hno
                clear hno
                go_wp2_with fail
                refine ⟨⟨m + 1, by omega, by simp, ?_, k2⟩, by simp [intOf]; omega⟩
                intro k f hk hf
                by_cases hkm : k = m
                · subst hkm
                  obtain rfl : F = f := by simpa using HQ.out.symm.trans hf
                  exact HN.out
                · exact HNO.out k f (by omega) hf
          · obtain rfl : j = fs.length := by omega
            have hv : togetherE fs = 0 := by
              rw [togetherE, if_neg (by rw [HC.out]; simp), if_neg]
              rw [show overF fs = false from pairF_false (fun k f hk hf => HNO.out k f hk hf)]
              simp
            have HV := Lib.hid hv
            clear hv
            go_wp2_with fail
            go_ret
            exact ⟨by rw [HV.out]; rfl, g2⟩
end Go.Proofs.Ytpdgcajbdaleeaa
