/- within, on and open of the specification: the first error of an opening. No condition but the bounds of what is given. -/
import Derived.Test.YtpdgcajbdaleeaaEF
import Derived.Deep.DeepCutAuto
set_option linter.unusedSimpArgs false
namespace Go.Proofs.Ytpdgcajbdaleeaa
open Go.RowKit

set_option maxHeartbeats 4000000 in
theorem refWithin_any (f : Fac) (p : Pnt) (w : World) (hs : IsPts w (.slice f.ca f.cs.length f.cc) f.cs) (hl : f.cs.length ≤ 1000) (hok : okPts f.cs) (hp : p.ok) :
    Calls Try.prog 100 #[.agg #[.string f.name, .int .i64 f.side, .int .i64 f.foot, .int .i64 f.base, .int .i64 f.rise, .int .i64 f.run, .slice f.ca f.cs.length f.cc], .agg #[.int .i64 p.x, .int .i64 p.y]] w fun e w' => e = .returned (.bool (withinL f.cs p)) ∧ Below w.heap.size w w' := by
  have hb1 : Below w.heap.size w ((w.alloc (.cells #[.string f.name, .int .i64 f.side, .int .i64 f.foot, .int .i64 f.base, .int .i64 f.rise, .int .i64 f.run, .slice f.ca f.cs.length f.cc] 72)).alloc (.cells #[.int .i64 p.x, .int .i64 p.y] 27)) := ((Below.refl _ w).alloc (Nat.le_refl _) _).alloc (by simp) _
  have k1 := (Blk.new w 72 #[.string f.name, .int .i64 f.side, .int .i64 f.foot, .int .i64 f.base, .int .i64 f.rise, .int .i64 f.run, .slice f.ca f.cs.length f.cc]).alloc (.cells #[.int .i64 p.x, .int .i64 p.y] 27)
  have k2 := Blk.new (w.alloc (.cells #[.string f.name, .int .i64 f.side, .int .i64 f.foot, .int .i64 f.base, .int .i64 f.rise, .int .i64 f.run, .slice f.ca f.cs.length f.cc] 72)) 27 #[.int .i64 p.x, .int .i64 p.y]
  rw [World.size_alloc] at k2
  have hc := refBeyond_any f p _ (hs.below hb1) hl hok hp
  have HL := Lib.hid (beyV_in f.cs p)
  obtain ⟨V, hV⟩ : ∃ V, beyV f.cs p = V := ⟨_, rfl⟩
  rw [hV] at hc HL
  have HC := Lib.hid hc
  have HB1 := Lib.hid hb1
  clear hs hok hp hc hV
  go_enter Try.func100, Try.ntmps100
  go_upto_region 1 with fail
  obtain ⟨c0, c1, c2, c3, c4, c5, c6⟩ := fac_cells k1
  have l1 := k1.lt
  obtain ⟨p0, p1⟩ := And.intro (k2.cell 0) (k2.cell 1)
  simp only [List.getElem?_toArray, List.getElem?_cons_zero, List.getElem?_cons_succ] at p0 p1
  have l2 := k2.lt
  generalize (w.alloc (.cells #[.string f.name, .int .i64 f.side, .int .i64 f.foot, .int .i64 f.base, .int .i64 f.rise, .int .i64 f.run, .slice f.ca f.cs.length f.cc] 72)).alloc (.cells #[.int .i64 p.x, .int .i64 p.y] 27) = w1 at *
  clear k1 k2 hb1
  go_wp2_with fail
  refine HC.out.mono ?_
  rintro e w2 ⟨rfl, hb2⟩
  have HB2 := Lib.hid (HB1.out.trans (hb2.mono HB1.out.size))
  clear hb2 c0 c1 c2 c3 c4 c5 c6 l1 p0 p1 l2 HC
  go_wp2_with fail
  go_ret
  exact ⟨by rw [← HL.out]; rfl, HB2.out⟩

set_option maxHeartbeats 4000000 in
theorem refOn_any (f : Fac) (p : Pnt) (w : World) (hs : IsPts w (.slice f.ca f.cs.length f.cc) f.cs) (hl : f.cs.length ≤ 1000) (hok : okPts f.cs) (hp : p.ok) :
    Calls Try.prog 42 #[.agg #[.string f.name, .int .i64 f.side, .int .i64 f.foot, .int .i64 f.base, .int .i64 f.rise, .int .i64 f.run, .slice f.ca f.cs.length f.cc], .agg #[.int .i64 p.x, .int .i64 p.y]] w fun e w' => e = .returned (.bool (onL f.cs p)) ∧ Below w.heap.size w w' := by
  have hb1 : Below w.heap.size w ((w.alloc (.cells #[.string f.name, .int .i64 f.side, .int .i64 f.foot, .int .i64 f.base, .int .i64 f.rise, .int .i64 f.run, .slice f.ca f.cs.length f.cc] 72)).alloc (.cells #[.int .i64 p.x, .int .i64 p.y] 27)) := ((Below.refl _ w).alloc (Nat.le_refl _) _).alloc (by simp) _
  have k1 := (Blk.new w 72 #[.string f.name, .int .i64 f.side, .int .i64 f.foot, .int .i64 f.base, .int .i64 f.rise, .int .i64 f.run, .slice f.ca f.cs.length f.cc]).alloc (.cells #[.int .i64 p.x, .int .i64 p.y] 27)
  have k2 := Blk.new (w.alloc (.cells #[.string f.name, .int .i64 f.side, .int .i64 f.foot, .int .i64 f.base, .int .i64 f.rise, .int .i64 f.run, .slice f.ca f.cs.length f.cc] 72)) 27 #[.int .i64 p.x, .int .i64 p.y]
  rw [World.size_alloc] at k2
  have hc := refBeyond_any f p _ (hs.below hb1) hl hok hp
  have HL := Lib.hid (beyV_on f.cs p)
  obtain ⟨V, hV⟩ : ∃ V, beyV f.cs p = V := ⟨_, rfl⟩
  rw [hV] at hc HL
  have HC := Lib.hid hc
  have HB1 := Lib.hid hb1
  clear hs hok hp hc hV
  go_enter Try.func42, Try.ntmps42
  go_upto_region 1 with fail
  obtain ⟨c0, c1, c2, c3, c4, c5, c6⟩ := fac_cells k1
  have l1 := k1.lt
  obtain ⟨p0, p1⟩ := And.intro (k2.cell 0) (k2.cell 1)
  simp only [List.getElem?_toArray, List.getElem?_cons_zero, List.getElem?_cons_succ] at p0 p1
  have l2 := k2.lt
  generalize (w.alloc (.cells #[.string f.name, .int .i64 f.side, .int .i64 f.foot, .int .i64 f.base, .int .i64 f.rise, .int .i64 f.run, .slice f.ca f.cs.length f.cc] 72)).alloc (.cells #[.int .i64 p.x, .int .i64 p.y] 27) = w1 at *
  clear k1 k2 hb1
  go_wp2_with fail
  refine HC.out.mono ?_
  rintro e w2 ⟨rfl, hb2⟩
  have HB2 := Lib.hid (HB1.out.trans (hb2.mono HB1.out.size))
  clear hb2 c0 c1 c2 c3 c4 c5 c6 l1 p0 p1 l2 HC
  go_wp2_with fail
  go_ret
  exact ⟨by rw [← HL.out]; rfl, HB2.out⟩

theorem idxO_any (l : List Opn) (o : Opn) : decide (0 ≤ idxO l o) = (l.any fun f => strB f.name o.name) := by
  unfold idxO
  cases h : l.findIdx? (fun f => strB f.name o.name) with
  | none =>
    have : (l.any fun f => strB f.name o.name) = false := by
      rw [List.any_eq_false]
      intro x hx
      have := List.findIdx?_eq_none_iff.1 h x hx
      simpa using this
    rw [this]
    decide
  | some k =>
    have : (l.any fun f => strB f.name o.name) = true := by
      rw [List.findIdx?_eq_some_iff_getElem] at h
      obtain ⟨hk, h1, _⟩ := h
      rw [List.any_eq_true]
      exact ⟨_, List.getElem_mem hk, h1⟩
    rw [this]
    simp
theorem idxM_any (l : List Opn) (o : Opn) : decide (0 ≤ idxM l o) = (l.any fun f => meetB f o) := by
  unfold idxM
  cases h : l.findIdx? (fun f => meetB f o) with
  | none =>
    have : (l.any fun f => meetB f o) = false := by
      rw [List.any_eq_false]
      intro x hx
      have := List.findIdx?_eq_none_iff.1 h x hx
      simpa using this
    rw [this]
    decide
  | some k =>
    have : (l.any fun f => meetB f o) = true := by
      rw [List.findIdx?_eq_some_iff_getElem] at h
      obtain ⟨hk, h1, _⟩ := h
      rw [List.any_eq_true]
      exact ⟨_, List.getElem_mem hk, h1⟩
    rw [this]
    simp
/-- The openings of a roof in memory. -/
theorem opn_of {w : World} {R : Roo} (hR : IsRoof w R) {i : Nat} {o : Opn} (hF : R.os[i]? = some o) : ∃ b off, R.oa = some ⟨b, off, none⟩ ∧ b < w.heap.size ∧ R.os.length ≤ R.oc ∧ R.oc ≤ 9223372036854775807 ∧ ∀ j f, R.os[j]? = some f → OpnAt w b (off + j * 6) f ∧ f.name.size ≤ maxLen := by
  rcases hR.2 with ⟨_, h2⟩ | ⟨b, off, cap, h1, h2, h3, h4, h5⟩
  · rw [h2] at hF; simp at hF
  · obtain ⟨e1, -, e3⟩ := slice_inj h1
    subst e3
    exact ⟨b, off, e1, h2, h3, h4, h5⟩

set_option maxRecDepth 100000 in
set_option maxHeartbeats 16000000 in
theorem refOpen_any (R : Roo) (i : Nat) (o : Opn) (w : World) (hO : R.os[i]? = some o) (hR : IsRoof w R) (hn : R.fs.length ≤ 1000000) (hfs : ∀ f ∈ R.fs, okPts f.cs ∧ f.cs.length ≤ 1000) (hah : ∀ x ∈ R.os.take i, x.lo.x < x.hi.x ∧ x.lo.y < x.hi.y) :
    Calls Try.prog 60 #[.agg #[.slice R.fa R.fs.length R.fc, .slice R.oa R.os.length R.oc], .int .i64 (i : Int)] w fun e w' => e = .returned (.int .i64 (openE o (R.os.take i) R.fs)) ∧ Below w.heap.size w w' := by
  have k1 := Blk.new w 25 #[.slice R.fa R.fs.length R.fc, .slice R.oa R.os.length R.oc]
  have hb1 : Below w.heap.size w (w.alloc (.cells #[.slice R.fa R.fs.length R.fc, .slice R.oa R.os.length R.oc] 25)) := (Below.refl _ w).alloc (Nat.le_refl _) _
  have HR := Lib.hid hR
  have HFS := Lib.hid hfs
  have HAH := Lib.hid hah
  have hil : i < R.os.length := (List.getElem?_eq_some_iff.1 hO).1
  have HIL := Lib.hid hil
  obtain ⟨ob, oo, hoa, hobl, hoc1, hoc2, hos⟩ := opn_of (hR.below hb1) hO
  have HOS := Lib.hid hos
  have hi0 : (0 : Int) ≤ (i : Int) := Int.natCast_nonneg _
  have hi1 : (i : Int) < (R.os.length : Int) := by omega
  obtain ⟨⟨c0, c1, c2, c3, c4, c5⟩, hin⟩ := hos i o hO
  have HIN := Lib.hid hin
  have HOA := Lib.hid hoa
  clear hR hO hin hos hoa hfs hah
  go_enter Try.func60, Try.ntmps60
  go_upto_region 1 with fail
  generalize w.alloc (.cells #[.slice R.fa R.fs.length R.fc, .slice R.oa R.os.length R.oc] 25) = w1 at *
  have K1 := Lib.hid k1
  have HB1 := Lib.hid hb1
  have r1 : w1.cell? ⟨w.heap.size, 1, none⟩ = some (.slice (some ⟨ob, oo, none⟩) R.os.length R.oc) := by rw [← HOA.out]; exact k1.cell 1
  have hlr := k1.lt
  clear k1 hb1
  go_upto_region 2 with fail
  have kX := Blk.new w1 76 #[.string o.name, .int .i64 o.face, .int .i64 o.lo.x, .int .i64 o.lo.y, .int .i64 o.hi.x, .int .i64 o.hi.y]
  have hbx : Below w1.heap.size w1 (w1.alloc (.cells #[.string o.name, .int .i64 o.face, .int .i64 o.lo.x, .int .i64 o.lo.y, .int .i64 o.hi.x, .int .i64 o.hi.y] 76)) := (Below.refl _ w1).alloc (Nat.le_refl _) _
  have HBX := Lib.hid (HB1.out.trans (hbx.mono HB1.out.size))
  have HBX1 := Lib.hid hbx
  obtain ⟨BX, hBX⟩ : ∃ BX, w1.heap.size = BX := ⟨_, rfl⟩
  have HOB := Lib.hid (show ob < w1.heap.size from hobl)
  rw [hBX] at kX ⊢
  clear r1 hlr c0 c1 c2 c3 c4 c5 hbx hBX hobl
  generalize w1.alloc (.cells #[.string o.name, .int .i64 o.face, .int .i64 o.lo.x, .int .i64 o.lo.y, .int .i64 o.hi.x, .int .i64 o.hi.y] 76) = wx at *
  have KX := Lib.hid kX
  obtain ⟨x0, x1, x2, x3, x4, x5⟩ := opn_cells (o := o) kX
  have lX := kX.lt
  clear kX
  go_wp2_with fail
  refine (refName_any o.name _ HIN.out).mono ?_
  rintro e w' ⟨rfl, rfl⟩
  cases hN : nameB o.name with
  | false =>
    have HV := Lib.hid (show openE o (R.os.take i) R.fs = 5 by simp [openE, hN])
    clear hN
    go_wp2_with fail
    go_ret
    exact ⟨by rw [HV.out]; try rfl, HBX.out⟩
  | true =>
  have HN := Lib.hid hN
  clear hN
  go_wp2_with fail
  obtain ⟨wx, rfl⟩ : ∃ w0 : World, w0 = wx := ⟨_, rfl⟩
  go_loopw [6] (fun s6 wv => ∃ m : Nat, m ≤ i ∧ s6 = .int .i64 m ∧ (∀ f ∈ R.os.take m, strB f.name o.name = false) ∧ Below wx.heap.size wx wv) (fun s6 _ => i - (intOf s6).toNat)
  case atStart => exact ⟨0, Nat.zero_le _, rfl, by simp, Below.refl _ _⟩
  case round =>
    clear x0 x1 x2 x3 x4 x5 lX
    obtain ⟨m, hm, rfl, hno, hb⟩ := hrel
    have HNO := Lib.hid hno
    have HB := Lib.hid hb
    have HBW := Lib.hid (HBX.out.trans (hb.mono HBX.out.size))
    have KF := Lib.hid (KX.out.belowS hb)
    have HW1 := Lib.hid (HBX1.out.trans (hb.mono HBX1.out.size))
    obtain ⟨wo, rfl⟩ : ∃ wo : World, wo = wr := ⟨_, rfl⟩
    have hm0 : (0 : Int) ≤ (m : Int) := Int.natCast_nonneg _
    obtain ⟨x0, x1, x2, x3, x4, x5⟩ := opn_cells (o := o) KF.out
    have lX := KF.out.lt
    have hlr := (K1.out.belowS HW1.out).lt
    clear hno hb
    by_cases hmi : m < i
    · have hml : m < R.os.length := by have := HIL.out; omega
      have hqm : R.os[m]? = some R.os[m] := List.getElem?_eq_getElem hml
      have hta : R.os.take (m + 1) = R.os.take m ++ [R.os[m]] := by rw [List.take_add_one, hqm]; rfl
      have g0 := ((HOS.out m _ hqm).1.below HW1.out HOB.out).1
      have hlb : ob < wo.heap.size := Nat.lt_of_lt_of_le HOB.out HW1.out.size
      have r1 : wo.cell? ⟨w.heap.size, 1, none⟩ = some (.slice (some ⟨ob, oo, none⟩) R.os.length R.oc) := by rw [← HOA.out]; exact (K1.out.belowS HW1.out).cell 1
      generalize R.os[m] = y at *
      have HTA := Lib.hid hta
      have hm1 : (m : Int) < (R.os.length : Int) := by omega
      have hm2 : (m : Int) < (i : Int) := by omega
      clear hqm hta
      go_upto_region 7 with fail
      cases hS : strB y.name o.name with
      | true =>
        have HV := Lib.hid (show openE o (R.os.take i) R.fs = 6 by
          have h1 : decide (0 ≤ idxO (R.os.take i) o) = true := by
            rw [idxO_any, List.any_eq_true]
            exact ⟨y, List.mem_of_mem_take (i := m + 1) (by rw [List.take_take, Nat.min_eq_left (by omega), HTA.out]; simp), hS⟩
          unfold openE
          rw [if_neg (by rw [HN.out]; simp), if_pos h1])
        have hs2 : (y.name.toList == o.name.toList) = true := hS
        clear hS
        go_region
        go_wp2_with fail
        go_ret
        exact ⟨by rw [HV.out]; rfl, HBW.out.drew⟩
      | false =>
        have hs2 : (y.name.toList == o.name.toList) = false := hS
        have HSF := Lib.hid hS
        clear hS
        go_region
        go_wp2_with fail
        refine ⟨⟨m + 1, by omega, by simp, ?_, HB.out.drew⟩, by simp [intOf]; omega⟩
        rw [HTA.out]
        intro f hf
        rcases List.mem_append.1 hf with hf | hf
        · exact HNO.out f hf
        · obtain rfl := List.mem_singleton.1 hf
          exact HSF.out
    obtain rfl : m = i := by omega
    have hmm : ¬ (m : Int) < (m : Int) := by omega
    have HD := Lib.hid (show decide (0 ≤ idxO (R.os.take m) o) = false by
      rw [idxO_any, List.any_eq_false]
      intro f hf
      rw [HNO.out f hf]
      simp)
    have r0 : wo.cell? ⟨w.heap.size, 0, none⟩ = some (.slice R.fa R.fs.length R.fc) := (K1.out.belowS HW1.out).cell 0
    have ef : IntKind.i64.wrap ((R.fs.length : Int) - 1) = (R.fs.length : Int) - 1 := by rw [IntKind.wrap_i64]; omega
    clear hm hmi HNO
    go_wp2_with fail
    refine (refIn1_any _ _ _ _).mono ?_
    rintro e w' ⟨rfl, rfl⟩
    cases hfi : isFromB o.face 0 ((R.fs.length : Int) - 1) with
    | false =>
      have HV := Lib.hid (show openE o (R.os.take m) R.fs = 7 by
        unfold openE
        rw [if_neg (by rw [HN.out]; simp), if_neg (by rw [HD.out]; simp), if_pos hfi])
      clear hfi
      go_wp2_with fail
      go_ret
      exact ⟨by rw [HV.out]; try rfl, HBW.out⟩
    | true =>
    have HFI := Lib.hid hfi
    have hfr := isFromB_iff.1 hfi
    obtain ⟨fi, hfj⟩ : ∃ fi : Nat, o.face = (fi : Int) := ⟨o.face.toNat, by omega⟩
    have hfl' : fi < R.fs.length := by omega
    have hqf : R.fs[fi]? = some R.fs[fi] := List.getElem?_eq_getElem hfl'
    clear hfi
    by_cases hx : o.hi.x ≤ o.lo.x
    · have HV := Lib.hid (show openE o (R.os.take m) R.fs = 1 by
        unfold openE
        rw [if_neg (by rw [HN.out]; simp), if_neg (by rw [HD.out]; simp), if_neg (by rw [HFI.out]; simp), if_pos hx])
      go_wp2_with fail
      go_ret
      exact ⟨by rw [HV.out]; try rfl, HBW.out⟩
    by_cases hy : o.hi.y ≤ o.lo.y
    · have HV := Lib.hid (show openE o (R.os.take m) R.fs = 1 by
        unfold openE
        rw [if_neg (by rw [HN.out]; simp), if_neg (by rw [HD.out]; simp), if_neg (by rw [HFI.out]; simp), if_neg hx, if_pos hy])
      go_wp2_with fail
      go_ret
      exact ⟨by rw [HV.out]; try rfl, HBW.out⟩
    have HXY := Lib.hid (show o.lo.x < o.hi.x ∧ o.lo.y < o.hi.y by omega)
    have HOE := Lib.hid (show openE o (R.os.take m) R.fs = if (opnPts o).all (withinO R.fs[fi].cs) = false then 9 else if decide (0 ≤ idxM (R.os.take m) o) = true then 10 else 0 by
      unfold openE
      rw [if_neg (by rw [HN.out]; simp), if_neg (by rw [HD.out]; simp), if_neg (by rw [HFI.out]; simp), if_neg hx, if_neg hy, show o.face.toNat = fi by omega, hqf])
    obtain ⟨fb, fo, hfa, hfb, hfc, hfc2, hfp⟩ := fac_of (HR.out.below HBW.out) hqf
    obtain ⟨⟨f0, f1, f2, f3, f4, f5, f6⟩, hfin⟩ := hfp fi _ hqf
    have HFIN := Lib.hid hfin
    have HFOK := Lib.hid (HFS.out _ (List.mem_of_getElem? hqf)).1
    have hfl := (HFS.out _ (List.mem_of_getElem? hqf)).2
    have hf0 : (0 : Int) ≤ (fi : Int) := Int.natCast_nonneg _
    have hf1 : (fi : Int) < (R.fs.length : Int) := by omega
    have hfc3 : (fi : Int) < (R.fc : Int) := by omega
    have HFA := Lib.hid hfa
    rw [hfa] at r0
    rw [hfj] at x1
    generalize hF : R.fs[fi] = F at *
    clear hF hqf hfp hfin hfa hfr
    go_upto_region 14 with fail
    have hbf : Below wo.heap.size wo (wo.alloc (.cells #[.string F.name, .int .i64 F.side, .int .i64 F.foot, .int .i64 F.base, .int .i64 F.rise, .int .i64 F.run, .slice F.ca F.cs.length F.cc] 72)) := (Below.refl _ wo).alloc (Nat.le_refl _) _
    have HPT := Lib.hid (HFIN.out.1.below hbf)
    have HBB := Lib.hid (HBW.out.trans (hbf.mono HBW.out.size))
    have HB1B := Lib.hid (HW1.out.trans (hbf.mono HW1.out.size))
    have HKO := Lib.hid (KF.out.alloc (.cells #[.string F.name, .int .i64 F.side, .int .i64 F.foot, .int .i64 F.base, .int .i64 F.rise, .int .i64 F.run, .slice F.ca F.cs.length F.cc] 72))
    have HKG := Lib.hid (Blk.new wo 72 #[.string F.name, .int .i64 F.side, .int .i64 F.foot, .int .i64 F.base, .int .i64 F.rise, .int .i64 F.run, .slice F.ca F.cs.length F.cc])
    have HBOX := Lib.hid (show (boxX o F.cs = false → openE o (R.os.take m) R.fs = 9) ∧ True from ⟨fun h => by rw [HOE.out, if_pos (by rw [← boxX_eq, h])], trivial⟩)
    have HBX2 := Lib.hid (show boxX o F.cs = true → openE o (R.os.take m) R.fs = if decide (0 ≤ idxM (R.os.take m) o) = true then 10 else 0 from fun h => by rw [HOE.out, if_neg (by rw [← boxX_eq, h]; simp)])
    clear hbf x0 x1 x2 x3 x4 x5 lX hlr r0 f0 f1 f2 f3 f4 f5 f6 hfb hfc hfc2 hfc3 hf0 hf1 HOE ef hmm hx hy hfl'
    obtain ⟨GB, hGB⟩ : ∃ GB, wo.heap.size = GB := ⟨_, rfl⟩
    rw [hGB] at HKG ⊢
    generalize wo.alloc (.cells #[.string F.name, .int .i64 F.side, .int .i64 F.foot, .int .i64 F.base, .int .i64 F.rise, .int .i64 F.run, .slice F.ca F.cs.length F.cc] 72) = wb at *
    obtain ⟨b0, b1, b2, b3, b4, b5⟩ := opn_cells (o := o) HKO.out
    have lb := HKO.out.lt
    obtain ⟨g0, g1, g2, g3, g4, g5, g6⟩ := fac_cells (f := F) HKG.out
    have lg := HKG.out.lt
    clear hGB
    go_wp2_with fail
    refine (refPlanned_any o.lo _).mono ?_
    rintro e v0 ⟨rfl, hv⟩
    have HV0 := Lib.hid (show Below wb.heap.size wb v0 from (Below.refl wb.heap.size wb).trans (hv.mono (Below.refl wb.heap.size wb).size))
    clear hv b0 b1 b2 b3 b4 b5 lb g0 g1 g2 g3 g4 g5 g6 lg
    obtain ⟨b0, b1, b2, b3, b4, b5⟩ := opn_cells (o := o) (HKO.out.belowS HV0.out)
    have lb := (HKO.out.belowS HV0.out).lt
    obtain ⟨g0, g1, g2, g3, g4, g5, g6⟩ := fac_cells (f := F) (HKG.out.belowS HV0.out)
    have lg := (HKG.out.belowS HV0.out).lt
    cases hq : o.lo.okB with
    | false =>
      have HV := Lib.hid (show openE o (R.os.take m) R.fs = 9 by
        refine HBOX.out.1 ?_
        simp [boxX, hq])
      have HBE := Lib.hid (HBB.out.trans (HV0.out.mono HBB.out.size))
      clear hq
      go_wp2_with fail
      go_ret
      exact ⟨by rw [HV.out]; try rfl, HBE.out⟩
    | true =>
    have A0 := Lib.hid hq
    clear hq
    go_wp2_with fail
    refine (refPlanned_any o.hi _).mono ?_
    rintro e v1 ⟨rfl, hv⟩
    have HV1 := Lib.hid (show Below wb.heap.size wb v1 from HV0.out.trans (hv.mono HV0.out.size))
    clear hv b0 b1 b2 b3 b4 b5 lb g0 g1 g2 g3 g4 g5 g6 lg
    obtain ⟨b0, b1, b2, b3, b4, b5⟩ := opn_cells (o := o) (HKO.out.belowS HV1.out)
    have lb := (HKO.out.belowS HV1.out).lt
    obtain ⟨g0, g1, g2, g3, g4, g5, g6⟩ := fac_cells (f := F) (HKG.out.belowS HV1.out)
    have lg := (HKG.out.belowS HV1.out).lt
    cases hq : o.hi.okB with
    | false =>
      have HV := Lib.hid (show openE o (R.os.take m) R.fs = 9 by
        refine HBOX.out.1 ?_
        simp [boxX, A0.out, hq])
      have HBE := Lib.hid (HBB.out.trans (HV1.out.mono HBB.out.size))
      clear hq
      go_wp2_with fail
      go_ret
      exact ⟨by rw [HV.out]; try rfl, HBE.out⟩
    | true =>
    have A1 := Lib.hid hq
    clear hq
    have HM1 := Lib.hid (show (Pnt.mk o.lo.x o.hi.y).ok from ⟨(Pnt.okB_iff.1 A0.out).1, (Pnt.okB_iff.1 A1.out).2⟩)
    have HM2 := Lib.hid (show (Pnt.mk o.hi.x o.lo.y).ok from ⟨(Pnt.okB_iff.1 A1.out).1, (Pnt.okB_iff.1 A0.out).2⟩)
    go_wp2_with fail
    refine (refWithin_any F o.lo _ (HPT.out.below HV1.out) hfl HFOK.out (Pnt.okB_iff.1 A0.out)).mono ?_
    rintro e v2 ⟨rfl, hv⟩
    have HV2 := Lib.hid (show Below wb.heap.size wb v2 from HV1.out.trans (hv.mono HV1.out.size))
    clear hv b0 b1 b2 b3 b4 b5 lb g0 g1 g2 g3 g4 g5 g6 lg
    obtain ⟨b0, b1, b2, b3, b4, b5⟩ := opn_cells (o := o) (HKO.out.belowS HV2.out)
    have lb := (HKO.out.belowS HV2.out).lt
    obtain ⟨g0, g1, g2, g3, g4, g5, g6⟩ := fac_cells (f := F) (HKG.out.belowS HV2.out)
    have lg := (HKG.out.belowS HV2.out).lt
    cases hq : withinL F.cs o.lo with
    | false =>
      have HV := Lib.hid (show openE o (R.os.take m) R.fs = 9 by
        refine HBOX.out.1 ?_
        simp [boxX, A0.out, A1.out, hq])
      have HBE := Lib.hid (HBB.out.trans (HV2.out.mono HBB.out.size))
      clear hq
      go_wp2_with fail
      go_ret
      exact ⟨by rw [HV.out]; try rfl, HBE.out⟩
    | true =>
    have A2 := Lib.hid hq
    clear hq
    go_wp2_with fail
    refine (refWithin_any F o.hi _ (HPT.out.below HV2.out) hfl HFOK.out (Pnt.okB_iff.1 A1.out)).mono ?_
    rintro e v3 ⟨rfl, hv⟩
    have HV3 := Lib.hid (show Below wb.heap.size wb v3 from HV2.out.trans (hv.mono HV2.out.size))
    clear hv b0 b1 b2 b3 b4 b5 lb g0 g1 g2 g3 g4 g5 g6 lg
    obtain ⟨b0, b1, b2, b3, b4, b5⟩ := opn_cells (o := o) (HKO.out.belowS HV3.out)
    have lb := (HKO.out.belowS HV3.out).lt
    obtain ⟨g0, g1, g2, g3, g4, g5, g6⟩ := fac_cells (f := F) (HKG.out.belowS HV3.out)
    have lg := (HKG.out.belowS HV3.out).lt
    cases hq : withinL F.cs o.hi with
    | false =>
      have HV := Lib.hid (show openE o (R.os.take m) R.fs = 9 by
        refine HBOX.out.1 ?_
        simp [boxX, A0.out, A1.out, A2.out, hq])
      have HBE := Lib.hid (HBB.out.trans (HV3.out.mono HBB.out.size))
      clear hq
      go_wp2_with fail
      go_ret
      exact ⟨by rw [HV.out]; try rfl, HBE.out⟩
    | true =>
    have A3 := Lib.hid hq
    clear hq
    go_wp2_with fail
    refine (refWithin_any F ⟨o.lo.x, o.hi.y⟩ _ (HPT.out.below HV3.out) hfl HFOK.out HM1.out).mono ?_
    rintro e v4 ⟨rfl, hv⟩
    have HV4 := Lib.hid (show Below wb.heap.size wb v4 from HV3.out.trans (hv.mono HV3.out.size))
    clear hv b0 b1 b2 b3 b4 b5 lb g0 g1 g2 g3 g4 g5 g6 lg
    obtain ⟨b0, b1, b2, b3, b4, b5⟩ := opn_cells (o := o) (HKO.out.belowS HV4.out)
    have lb := (HKO.out.belowS HV4.out).lt
    obtain ⟨g0, g1, g2, g3, g4, g5, g6⟩ := fac_cells (f := F) (HKG.out.belowS HV4.out)
    have lg := (HKG.out.belowS HV4.out).lt
    cases hq : withinL F.cs ⟨o.lo.x, o.hi.y⟩ with
    | false =>
      have HV := Lib.hid (show openE o (R.os.take m) R.fs = 9 by
        refine HBOX.out.1 ?_
        simp [boxX, A0.out, A1.out, A2.out, A3.out, hq])
      have HBE := Lib.hid (HBB.out.trans (HV4.out.mono HBB.out.size))
      clear hq
      go_wp2_with fail
      go_ret
      exact ⟨by rw [HV.out]; try rfl, HBE.out⟩
    | true =>
    have A4 := Lib.hid hq
    clear hq
    go_wp2_with fail
    refine (refWithin_any F ⟨o.hi.x, o.lo.y⟩ _ (HPT.out.below HV4.out) hfl HFOK.out HM2.out).mono ?_
    rintro e v5 ⟨rfl, hv⟩
    have HV5 := Lib.hid (show Below wb.heap.size wb v5 from HV4.out.trans (hv.mono HV4.out.size))
    clear hv b0 b1 b2 b3 b4 b5 lb g0 g1 g2 g3 g4 g5 g6 lg
    obtain ⟨b0, b1, b2, b3, b4, b5⟩ := opn_cells (o := o) (HKO.out.belowS HV5.out)
    have lb := (HKO.out.belowS HV5.out).lt
    obtain ⟨g0, g1, g2, g3, g4, g5, g6⟩ := fac_cells (f := F) (HKG.out.belowS HV5.out)
    have lg := (HKG.out.belowS HV5.out).lt
    cases hq : withinL F.cs ⟨o.hi.x, o.lo.y⟩ with
    | false =>
      have HV := Lib.hid (show openE o (R.os.take m) R.fs = 9 by
        refine HBOX.out.1 ?_
        simp [boxX, A0.out, A1.out, A2.out, A3.out, A4.out, hq])
      have HBE := Lib.hid (HBB.out.trans (HV5.out.mono HBB.out.size))
      clear hq
      go_wp2_with fail
      go_ret
      exact ⟨by rw [HV.out]; try rfl, HBE.out⟩
    | true =>
    have A5 := Lib.hid hq
    clear hq
    have HX := Lib.hid (HBX2.out (by simp [boxX, A0.out, A1.out, A2.out, A3.out, A4.out, A5.out]))
    clear HBOX HBX2 A0 A1 A2 A3 A4 A5 HM1 HM2 g0 g1 g2 g3 g4 g5 g6 lg HPT HFOK hfl HFIN
    have HBL := Lib.hid (HBB.out.trans (HV5.out.mono HBB.out.size))
    have HB1L := Lib.hid (HB1B.out.trans (HV5.out.mono HB1B.out.size))
    have HKL := Lib.hid (HKO.out.belowS HV5.out)
    go_wp2_with fail
    obtain ⟨wl, rfl⟩ : ∃ w0 : World, w0 = v5 := ⟨_, rfl⟩
    go_loopw [8, 9] (fun s8 _ wv => ∃ k : Nat, k ≤ m ∧ s8 = .int .i64 k ∧ (∀ f ∈ R.os.take k, meetB f o = false) ∧ Below wl.heap.size wl wv) (fun s8 _ _ => m - (intOf s8).toNat)
    case atStart => exact ⟨0, Nat.zero_le _, rfl, by simp, Below.refl _ _⟩
    case round =>
      clear b0 b1 b2 b3 b4 b5 lb
      obtain ⟨k, hk, rfl, hno, hb⟩ := hrel
      have HNO := Lib.hid hno
      have HB := Lib.hid hb
      have HBW := Lib.hid (HBL.out.trans (hb.mono HBL.out.size))
      have HW1 := Lib.hid (HB1L.out.trans (hb.mono HB1L.out.size))
      have KO := Lib.hid (HKL.out.belowS hb)
      obtain ⟨wp, rfl⟩ : ∃ wp : World, wp = wr := ⟨_, rfl⟩
      have hk0 : (0 : Int) ≤ (k : Int) := Int.natCast_nonneg _
      clear hno hb
      by_cases hkm : k < m
      · have hkl : k < R.os.length := by have := HIL.out; omega
        have hqk : R.os[k]? = some R.os[k] := List.getElem?_eq_getElem hkl
        have hta : R.os.take (k + 1) = R.os.take k ++ [R.os[k]] := by rw [List.take_add_one, hqk]; rfl
        have hin : R.os[k] ∈ R.os.take m := List.mem_of_mem_take (i := k + 1) (by rw [List.take_take, Nat.min_eq_left (by omega), hta]; exact List.mem_append_right _ (List.mem_singleton.2 rfl))
        have HMI := Lib.hid hin
        have HYH := Lib.hid (HAH.out _ hin)
        obtain ⟨y0, y1, y2, y3, y4, y5⟩ := (HOS.out k _ hqk).1.below HW1.out HOB.out
        have hlb : ob < wp.heap.size := Nat.lt_of_lt_of_le HOB.out HW1.out.size
        have hlr := (K1.out.belowS HW1.out).lt
        have r1 : wp.cell? ⟨w.heap.size, 1, none⟩ = some (.slice (some ⟨ob, oo, none⟩) R.os.length R.oc) := by rw [← HOA.out]; exact (K1.out.belowS HW1.out).cell 1
        generalize R.os[k] = y at *
        have HTA := Lib.hid hta
        have hk1 : (k : Int) < (R.os.length : Int) := by omega
        have hk2 : (k : Int) < (m : Int) := by omega
        clear hqk hta hin
        go_upto_region 20 with fail
        have kY := Blk.new wp 76 #[.string y.name, .int .i64 y.face, .int .i64 y.lo.x, .int .i64 y.lo.y, .int .i64 y.hi.x, .int .i64 y.hi.y]
        have kO := KO.out.alloc (.cells #[.string y.name, .int .i64 y.face, .int .i64 y.lo.x, .int .i64 y.lo.y, .int .i64 y.hi.x, .int .i64 y.hi.y] 76)
        have hbz : Below wp.heap.size wp (wp.alloc (.cells #[.string y.name, .int .i64 y.face, .int .i64 y.lo.x, .int .i64 y.lo.y, .int .i64 y.hi.x, .int .i64 y.hi.y] 76)) := (Below.refl _ wp).alloc (Nat.le_refl _) _
        have HBZ := Lib.hid (HB.out.trans (hbz.mono HB.out.size))
        have HBZW := Lib.hid (HBW.out.trans (hbz.mono HBW.out.size))
        obtain ⟨BY, hBY⟩ : ∃ BY, wp.heap.size = BY := ⟨_, rfl⟩
        rw [hBY] at kY ⊢
        clear y0 y1 y2 y3 y4 y5 hlb hlr r1 hbz hBY
        generalize wp.alloc (.cells #[.string y.name, .int .i64 y.face, .int .i64 y.lo.x, .int .i64 y.lo.y, .int .i64 y.hi.x, .int .i64 y.hi.y] 76) = wz at *
        obtain ⟨y0, y1, y2, y3, y4, y5⟩ := opn_cells (o := y) kY
        obtain ⟨b0, b1, b2, b3, b4, b5⟩ := opn_cells (o := o) kO
        have ly := kY.lt
        have lb := kO.lt
        clear kY kO
        obtain ⟨mm, hmm⟩ : ∃ mm : Bool, meetX y o = mm := ⟨_, rfl⟩
        have HMM := Lib.hid hmm
        clear hmm
        go_cut [152] from 116 to 153 (fun s152 wq => s152 = .bool mm ∧ Below wz.heap.size wz wq)
        case first =>
          have hmm2 := HMM.out
          unfold meetX at hmm2
          obtain ⟨xa, hxa⟩ : ∃ xa, (if y.lo.x < o.lo.x then o.lo.x else y.lo.x) = xa := ⟨_, rfl⟩
          obtain ⟨xb, hxb⟩ : ∃ xb, (if y.hi.x < o.hi.x then y.hi.x else o.hi.x) = xb := ⟨_, rfl⟩
          obtain ⟨xc, hxc⟩ : ∃ xc, (if y.lo.y < o.lo.y then o.lo.y else y.lo.y) = xc := ⟨_, rfl⟩
          obtain ⟨xd, hxd⟩ : ∃ xd, (if y.hi.y < o.hi.y then y.hi.y else o.hi.y) = xd := ⟨_, rfl⟩
          rw [hxa, hxb, hxc, hxd] at hmm2
          by_cases m5 : xa ≤ xb
          · have HG := Lib.hid (show mm = decide (xc ≤ xd) by rw [← hmm2, decide_eq_true m5, Bool.true_and])
            clear hmm2
            go_wp2_with fail
            all_goals go_meet
            all_goals refine ⟨?_, Below.refl _ _⟩
            all_goals rw [HG.out]
            all_goals first
              | rfl
              | (refine congrArg Value.bool ?_; refine decide_eq_decide.2 ?_; (rw [← hxc, ← hxd]); ((repeat' split) <;> omega))
              | (refine congrArg Value.bool ?_; (rw [← hxc, ← hxd]); refine (decide_eq_true ?_).symm; ((repeat' split) <;> omega))
              | (refine congrArg Value.bool ?_; (rw [← hxc, ← hxd]); refine (decide_eq_false ?_).symm; ((repeat' split) <;> omega))
              | (exfalso; omega)
          · have HG := Lib.hid (show mm = false by rw [← hmm2, decide_eq_false m5, Bool.false_and])
            clear hmm2
            go_wp2_with fail
            all_goals go_meet
            all_goals refine ⟨?_, Below.refl _ _⟩
            all_goals rw [HG.out]
            all_goals first
              | rfl
              | (refine congrArg Value.bool ?_; refine decide_eq_decide.2 ?_; (rw [← hxc, ← hxd]); ((repeat' split) <;> omega))
              | (refine congrArg Value.bool ?_; (rw [← hxc, ← hxd]); refine (decide_eq_true ?_).symm; ((repeat' split) <;> omega))
              | (refine congrArg Value.bool ?_; (rw [← hxc, ← hxd]); refine (decide_eq_false ?_).symm; ((repeat' split) <;> omega))
              | (exfalso; omega)
        case rest =>
          obtain ⟨rfl, hbq⟩ := hcut
          have HBQ := Lib.hid (HBZ.out.trans (hbq.mono HBZ.out.size))
          have HBQW := Lib.hid (HBZW.out.trans (hbq.mono HBZW.out.size))
          clear hbq y0 y1 y2 y3 y4 y5 b0 b1 b2 b3 b4 b5 ly lb
          have hME := (meetX_eq HYH.out HXY.out).symm.trans HMM.out
          cases mm with
          | true =>
            have HV := Lib.hid (show openE o (R.os.take m) R.fs = 10 by
              rw [HX.out, if_pos (by rw [idxM_any, List.any_eq_true]; exact ⟨y, HMI.out, hME⟩)])
            go_wp2_with fail
            go_ret
            exact ⟨by rw [HV.out]; rfl, HBQW.out⟩
          | false =>
            have HME := Lib.hid hME
            clear hME
            go_wp2_with fail
            refine ⟨⟨k + 1, by omega, by simp, ?_, HBQ.out⟩, by simp [intOf]; omega⟩
            rw [HTA.out]
            intro f hf
            rcases List.mem_append.1 hf with hf | hf
            · exact HNO.out f hf
            · obtain rfl := List.mem_singleton.1 hf
              exact HME.out
      obtain rfl : k = m := by omega
      have hkk : ¬ (k : Int) < (k : Int) := by omega
      have HV := Lib.hid (show openE o (R.os.take k) R.fs = 0 by
        rw [HX.out, if_neg (by
          rw [idxM_any]
          have : (List.any (R.os.take k) fun f => meetB f o) = false := by
            rw [List.any_eq_false]
            intro f hf
            rw [HNO.out f hf]
            simp
          rw [this]
          simp)])
      clear hk hkm HNO
      go_wp2_with fail
      go_ret
      exact ⟨by rw [HV.out]; try rfl, HBW.out⟩
end Go.Proofs.Ytpdgcajbdaleeaa
