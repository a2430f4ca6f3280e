/- checkOpen: the first error of an opening. -/
import Derived.Test.YtpdgcajbdaleeaaO
namespace Go.Proofs.Ytpdgcajbdaleeaa
open Go.RowKit

def withinO (l : List Pnt) (p : Pnt) : Bool := p.okB && withinL l p

theorem isWithin_any (sa : Option Addr) (slen cap : Nat) (l : List Pnt) (p : Pnt) (w : World) (hs : IsPts w (.slice sa slen cap) l) (hl : l.length ≤ 1000) (hok : okPts l) :
    Calls Try.prog 84 #[.slice sa slen cap, .agg #[.int .i64 p.x, .int .i64 p.y]] w fun e w' => e = .returned (.bool (withinO l p)) ∧ Below w.heap.size w w' := by
  cases hp : p.okB with
  | true =>
    have := isWithin_yes sa slen cap l p w hs hl hok (Pnt.okB_iff.1 hp)
    simpa [withinO, hp] using this
  | false =>
    have := isWithin_no (.slice sa slen cap) p w hp
    simpa [withinO, hp] using this

/-- The corners of an opening. -/
def opnPts (o : Opn) : List Pnt := [o.lo, ⟨o.hi.x, o.lo.y⟩, o.hi, ⟨o.lo.x, o.hi.y⟩]
def openE (o : Opn) (ahead : List Opn) (faces : List Fac) : Int :=
  if nameB o.name = false then 5 else if decide (0 ≤ idxO ahead o) = true then 6 else if isFromB o.face 0 ((faces.length : Int) - 1) = false then 7 else
    if o.hi.x ≤ o.lo.x then 1 else if o.hi.y ≤ o.lo.y then 1 else
    match faces[o.face.toNat]? with
    | none => 7
    | some f => if (opnPts o).all (withinO f.cs) = false then 9 else if decide (0 ≤ idxM ahead o) = true then 10 else 0

theorem opn_cells {W : World} {B : Nat} {o : Opn} {t : TypeId} (h : Blk W B (opnC o) t) : OpnAt W B 0 o := ⟨h.cell 0, h.cell 1, h.cell 2, h.cell 3, h.cell 4, h.cell 5⟩

set_option maxRecDepth 100000 in
set_option maxHeartbeats 4000000 in
theorem checkOpen_any (o : Opn) (sa sb : Option Addr) (la ca lb cb : Nat) (l : List Opn) (fs : List Fac) (w : World) (hname : o.name.size ≤ maxLen) (hs : IsOpns w (.slice sa la ca) l) (hl : l.length ≤ 100000)
    (ht : IsFacs w (.slice sb lb cb) fs) (hfl : fs.length ≤ 100000) (hok : ∀ f ∈ fs, okPts f.cs ∧ f.cs.length ≤ 1000) :
    Calls Try.prog 49 #[.agg #[.string o.name, .int .i64 o.face, .int .i64 o.lo.x, .int .i64 o.lo.y, .int .i64 o.hi.x, .int .i64 o.hi.y], .slice sa la ca, .slice sb lb cb] w
      fun e w' => e = .returned (.int .i64 (openE o l fs)) ∧ Below w.heap.size w w' := by
  have hB : Below w.heap.size w (w.alloc (.cells (opnC o) 76)) := (Below.refl _ _).alloc (Nat.le_refl _) _
  have hbk : Blk (w.alloc (.cells (opnC o) 76)) w.heap.size (opnC o) 76 := Blk.new _ _ _
  have hlb : lb = fs.length := by
    rcases ht with ⟨h1, rfl⟩ | ⟨b, off, c, h1, _⟩
    · exact (slice_inj h1).2.1
    · exact (slice_inj h1).2.1
  subst hlb
  have HS := Lib.hid hs
  have HT := Lib.hid ht
  have HOK := Lib.hid hok
  clear hs ht hok
  go_enter Try.func49, Try.ntmps49
  go_wp2_with fail
  refine (isName_any o.name _ hname).mono ?_
  rintro e w1 ⟨rfl, rfl⟩
  cases hn : nameB o.name with
  | false =>
    have hv : openE o l fs = 5 := by simp [openE, hn]
    have HV := Lib.hid hv
    clear hv
    go_wp2_with fail
    go_ret
    exact ⟨by rw [HV.out]; rfl, hB⟩
  | true =>
  have HN := Lib.hid hn
  go_wp2_with fail
  refine (containsO_any sa la ca w.heap.size l o _ (HS.out.below hB) hl hbk).mono ?_
  rintro e w1 ⟨rfl, hb1⟩
  have hb2 := hB.trans (hb1.mono (by simp))
  have hbk1 := hbk.belowS hb1
  obtain ⟨c0, c1, c2, c3, c4, c5⟩ := opn_cells hbk1
  simp only [Nat.zero_add] at c1 c2 c3 c4 c5
  have hltB := hbk1.lt
  have HBK := Lib.hid hbk1
  clear hb1 hbk hbk1
  generalize hidx : decide (0 ≤ idxO l o) = x
  have HX := Lib.hid hidx
  clear hidx hn
  cases x with
  | true =>
    have hv : openE o l fs = 6 := by rw [openE, if_neg (by rw [HN.out]; simp), if_pos HX.out]
    have HV := Lib.hid hv
    clear hv
    go_wp2_with fail
    go_ret
    exact ⟨by rw [HV.out]; rfl, hb2⟩
  | false =>
  go_wp2_with fail
  refine (isFrom_any o.face 0 ((fs.length : Int) - 1) _).mono ?_
  rintro e w2 ⟨rfl, rfl⟩
  cases hfc : isFromB o.face 0 ((fs.length : Int) - 1) with
  | false =>
    have hv : openE o l fs = 7 := by rw [openE, if_neg (by rw [HN.out]; simp), if_neg (by rw [HX.out]; simp), if_pos hfc]
    have HV := Lib.hid hv
    clear hv
    go_wp2_with fail
    go_ret
    exact ⟨by rw [HV.out]; rfl, hb2⟩
  | true =>
  have HFC := Lib.hid hfc
  have hf0 : 0 ≤ o.face ∧ o.face < (fs.length : Int) := by
    have := hfc
    simp [isFromB] at this
    omega
  obtain ⟨hf0, hf1⟩ := hf0
  by_cases hx : o.hi.x ≤ o.lo.x
  · have hv : openE o l fs = 1 := by rw [openE, if_neg (by rw [HN.out]; simp), if_neg (by rw [HX.out]; simp), if_neg (by rw [hfc]; simp), if_pos hx]
    have HV := Lib.hid hv
    clear hv
    go_wp2_with fail
    go_ret
    exact ⟨by rw [HV.out]; rfl, hb2⟩
  by_cases hy : o.hi.y ≤ o.lo.y
  · have hv : openE o l fs = 1 := by rw [openE, if_neg (by rw [HN.out]; simp), if_neg (by rw [HX.out]; simp), if_neg (by rw [hfc]; simp), if_neg hx, if_pos hy]
    have HV := Lib.hid hv
    clear hv
    go_wp2_with fail
    go_ret
    exact ⟨by rw [HV.out]; rfl, hb2⟩
  obtain ⟨k, hk⟩ := Int.eq_ofNat_of_zero_le hf0
  have hkl : k < fs.length := by omega
  have hq : fs[k]? = some fs[k] := List.getElem?_eq_getElem hkl
  have hokf := HOK.out fs[k] (List.getElem_mem hkl)
  have hfin := HT.out.below hb2
  rcases hfin with ⟨h1, h2⟩ | ⟨b, off, c, h1, h2, h3, h4, h5⟩
  · rw [h2] at hkl
    simp at hkl
  obtain ⟨⟨d0, d1, d2, d3, d4, d5, d6⟩, hpts, _⟩ := h5 k _ hq
  obtain ⟨rfl, _, rfl⟩ := slice_inj h1
  have hv : openE o l fs = if (opnPts o).all (withinO fs[k].cs) = false then 9 else if decide (0 ≤ idxM l o) = true then 10 else 0 := by
    rw [openE, if_neg (by rw [HN.out]; simp), if_neg (by rw [HX.out]; simp), if_neg (by rw [hfc]; simp), if_neg hx, if_neg hy, hk]
    simp only [Int.toNat_natCast, hq]
  generalize fs[k] = F at *
  have HV := Lib.hid hv
  have HK := Lib.hid hk
  clear h1 h5 hq hv hfc d0 d1 d2 d3 d4 d5
  rw [hk] at c1
  clear hk
  have hk0 : (0 : Int) ≤ (k : Int) := Int.natCast_nonneg _
  have hk1 : (k : Int) < (fs.length : Int) := by omega
  go_wp2_with fail
  clear c0 c1 c2 c3 c4 c5
  go_loopw [69, 9] (fun i _ wr => ∃ j : Nat, j ≤ 4 ∧ i = .int .i64 j ∧ ((opnPts o).take j).all (withinO F.cs) = true ∧ Blk wr w.heap.size (opnC o) 76 ∧ Below w.heap.size w wr ∧ IsPts wr (.slice F.ca F.cs.length F.cc) F.cs) (fun i _ _ => 4 - (intOf i).toNat)
  case atStart => exact ⟨0, Nat.zero_le _, rfl, rfl, HBK.out, hb2, hpts⟩
  case round =>
    obtain ⟨j, hj, rfl, hall, g1, g2, g3⟩ := hrel
    by_cases hj4 : j < 4
    · obtain ⟨q, hq⟩ : ∃ q, (opnPts o)[j]? = some q := ⟨_, List.getElem?_eq_getElem (by simpa [opnPts] using hj4)⟩
      have ht := take_all_succ (opnPts o) (withinO F.cs) j q hq
      rw [hall] at ht
      have HT1 := Lib.hid ht
      have HQ := Lib.hid hq
      have HA := Lib.hid hall
      have G1 := Lib.hid g1
      clear ht hall g1
      have hix : ∀ w, (Instr.index 141 (.agg #[.int .i64 o.lo.x, .int .i64 o.lo.y, .int .i64 o.hi.x, .int .i64 o.lo.y, .int .i64 o.hi.x, .int .i64 o.hi.y, .int .i64 o.lo.x, .int .i64 o.hi.y]) (.int .i64 (j : Int))).run Try.prog w = .ok (.agg #[.int .i64 q.x, .int .i64 q.y]) w := by
        intro w
        match j, hj4 with
        | 0, _ =>
          obtain rfl : o.lo = q := by simpa [opnPts] using hq
          rfl
        | 1, _ =>
          obtain rfl : (⟨o.hi.x, o.lo.y⟩ : Pnt) = q := by simpa [opnPts] using hq
          rfl
        | 2, _ =>
          obtain rfl : o.hi = q := by simpa [opnPts] using hq
          rfl
        | 3, _ =>
          obtain rfl : (⟨o.lo.x, o.hi.y⟩ : Pnt) = q := by simpa [opnPts] using hq
          rfl
      clear hq
      have hb0 : Below wr.heap.size wr (wr.alloc (.cells #[.int .i64 q.x, .int .i64 q.y] 27)) := (Below.refl _ wr).alloc (Nat.le_refl _) _
      have hpw := g3.below hb0
      go_wp2_with fail
      refine (isWithin_any F.ca F.cs.length F.cc F.cs q _ hpw hokf.2 hokf.1).mono ?_
      rintro e w5 ⟨rfl, hb5⟩
      have hb6 : Below wr.heap.size wr w5 := hb0.trans (hb5.mono (by simp))
      cases hwi : withinO F.cs q with
      | true =>
        have HW := Lib.hid hwi
        go_wp2_with fail
        refine ⟨⟨j + 1, by omega, by simp, ?_, G1.out.belowS hb6, g2.trans (hb6.mono g2.size), g3.below hb6⟩, by simp [intOf]; omega⟩
        rw [HT1.out, HW.out]
        rfl
      | false =>
        have hv9 : openE o l fs = 9 := by
          rw [HV.out, if_pos]
          rw [Bool.eq_false_iff]
          intro h
          have := List.all_eq_true.1 h q (List.mem_of_getElem? HQ.out)
          rw [hwi] at this
          cases this
        have HV9 := Lib.hid hv9
        clear hv9
        go_wp2_with fail
        go_ret
        exact ⟨by rw [HV9.out]; rfl, g2.trans (hb6.mono g2.size)⟩
    · obtain rfl : j = 4 := by omega
      have hall' : (opnPts o).all (withinO F.cs) = true := hall
      have hv8 : openE o l fs = if decide (0 ≤ idxM l o) = true then 10 else 0 := by rw [HV.out, if_neg (by rw [hall']; simp)]
      have HV8 := Lib.hid hv8
      have G1 := Lib.hid g1
      clear hall hall' hv8 g1
      go_wp2_with fail
      refine (containsM_any sa la ca w.heap.size l o _ (HS.out.below g2) hl G1.out).mono ?_
      rintro e w5 ⟨rfl, hb5⟩
      generalize hidx : decide (0 ≤ idxM l o) = x
      have HI := Lib.hid hidx
      clear hidx
      cases x with
      | true =>
        have hv7 : openE o l fs = 10 := by rw [HV8.out, if_pos HI.out]
        have HV7 := Lib.hid hv7
        clear hv7
        go_wp2_with fail
        go_ret
        exact ⟨by rw [HV7.out]; rfl, g2.trans (hb5.mono g2.size)⟩
      | false =>
        have hv7 : openE o l fs = 0 := by rw [HV8.out, if_neg (by rw [HI.out]; simp)]
        have HV7 := Lib.hid hv7
        clear hv7
        go_wp2_with fail
        go_ret
        exact ⟨by rw [HV7.out]; rfl, g2.trans (hb5.mono g2.size)⟩
end Go.Proofs.Ytpdgcajbdaleeaa
