/- Where of the specification: the faces that a point is on, and the opening that it is in. -/
import Derived.Test.YtpdgcajbdaleeaaEJ
import Derived.Test.YtpdgcajbdaleeaaEK
import Derived.Test.YtpdgcajbdaleeaaW
import Derived.WalkSpells
import Derived.Maps.AppendAt
set_option linter.unusedSimpArgs false
namespace Go.Proofs.Ytpdgcajbdaleeaa
open Go.RowKit

theorem openAt_some {l : List Opn} {p : Pnt} {k : Nat} {o : Opn} (hq : l[k]? = some o) (h : inOpn p o = true) (hn : ∀ j o, j < k → l[j]? = some o → inOpn p o = false) : openAtI l p = (k : Int) := by
  have hk := (List.getElem?_eq_some_iff.1 hq).1
  have ho : l[k] = o := (List.getElem?_eq_some_iff.1 hq).2
  unfold openAtI
  rw [List.findIdx?_eq_some_iff_getElem.2 ⟨hk, by rw [ho]; exact h, fun j hj => by rw [hn j _ hj (List.getElem?_eq_getElem (by omega))]; simp⟩]
theorem openAt_none {l : List Opn} {p : Pnt} (hn : ∀ j o, j < l.length → l[j]? = some o → inOpn p o = false) : openAtI l p = -1 := by
  unfold openAtI
  rw [List.findIdx?_eq_none_iff.2 fun x hx => by
    obtain ⟨j, hj, rfl⟩ := List.getElem_of_mem hx
    exact hn j _ hj (List.getElem?_eq_getElem hj)]

set_option maxRecDepth 100000 in
set_option maxHeartbeats 16000000 in
theorem refWhere_any (R : Roo) (p : Pnt) (w : World) (hR : IsRoof w R) :
    Calls Try.prog 13 #[.agg #[.slice R.fa R.fs.length R.fc, .slice R.oa R.os.length R.oc], .agg #[.int .i64 p.x, .int .i64 p.y]] w (WhereSaid R p w) := by
  obtain ⟨i0, hi, hz0, hz1, hz2⟩ := info_parts Try.info_int
  have kR := (Blk.new w 25 #[.slice R.fa R.fs.length R.fc, .slice R.oa R.os.length R.oc]).alloc (.cells #[.int .i64 p.x, .int .i64 p.y] 27)
  have kP := Blk.new (w.alloc (.cells #[.slice R.fa R.fs.length R.fc, .slice R.oa R.os.length R.oc] 25)) 27 #[.int .i64 p.x, .int .i64 p.y]
  simp only [World.size_alloc] at kP
  have hb1 : Below w.heap.size w ((w.alloc (.cells #[.slice R.fa R.fs.length R.fc, .slice R.oa R.os.length R.oc] 25)).alloc (.cells #[.int .i64 p.x, .int .i64 p.y] 27)) := ((Below.refl _ _).alloc (Nat.le_refl _) _).alloc (by simp) _
  have HR := Lib.hid hR
  have HR1 := Lib.hid (hR.below hb1)
  have HS := Lib.hid (show w.heap.size + 2 = ((w.alloc (.cells #[.slice R.fa R.fs.length R.fc, .slice R.oa R.os.length R.oc] 25)).alloc (.cells #[.int .i64 p.x, .int .i64 p.y] 27)).heap.size by simp)
  clear hR
  go_enter Try.func13, Try.ntmps13
  go_upto_region 1 with fail
  generalize ((w.alloc (.cells #[.slice R.fa R.fs.length R.fc, .slice R.oa R.os.length R.oc] 25)).alloc (.cells #[.int .i64 p.x, .int .i64 p.y] 27)) = w1 at *
  have HB1 := Lib.hid hb1
  have HKR := Lib.hid kR
  have HKP := Lib.hid kP
  clear hb1 kR kP
  have r0 := (HKR.out.belowS (Below.refl _ _)).cell 0
  have r1 := (HKR.out.belowS (Below.refl _ _)).cell 1
  have lr := (HKR.out.belowS (Below.refl _ _)).lt
  simp only [List.getElem?_toArray, List.getElem?_cons_zero, List.getElem?_cons_succ] at r0 r1
  go_wp2_with fail
  refine (refCheck_any R w1 HR1.out).mono ?_
  rintro e w2 ⟨rfl, hb2⟩
  have HB2 := Lib.hid hb2
  clear hb2 r0 r1 lr
  obtain ⟨E, hE⟩ : ∃ E, checkE R = E := ⟨_, rfl⟩
  rw [hE]
  have HE := Lib.hid hE
  clear hE
  by_cases h0 : E = 0
  rotate_left
  · have hz : (E == 0) = false := by simp [h0]
    have hz' : (E != 0) = true := by simp [h0]
    have H0 := Lib.hid h0
    clear h0
    go_wp2_with fail
    go_ret3
    refine ⟨HB1.out.trans (HB2.out.mono HB1.out.size), ?_⟩
    rw [if_pos (by rw [HE.out]; exact H0.out), HE.out]
    rfl
  subst h0
  have hz : ((0 : Int) == 0) = true := rfl
  have p0 := (HKP.out.belowS HB2.out).cell 0
  have p1 := (HKP.out.belowS HB2.out).cell 1
  have lp := (HKP.out.belowS HB2.out).lt
  simp only [List.getElem?_toArray, List.getElem?_cons_zero, List.getElem?_cons_succ] at p0 p1
  go_wp2_with fail
  refine (refPlanned_any p _).mono ?_
  rintro e w3 ⟨rfl, hb3⟩
  have HB3 := Lib.hid (HB2.out.trans (hb3.mono HB2.out.size))
  have HB3W := Lib.hid (HB1.out.trans (HB3.out.mono HB1.out.size))
  clear hb3 p0 p1 lp
  cases hp : p.okB with
  | false =>
    have HP := Lib.hid hp
    clear hp
    go_wp2_with fail
    go_ret3
    refine ⟨HB3W.out, ?_⟩
    rw [if_neg (by rw [HE.out]; simp), if_pos HP.out]
    rfl
  | true =>
  have HP := Lib.hid hp
  have HPOK := Lib.hid (Pnt.okB_iff.1 hp)
  clear hp
  obtain ⟨hl16, hokf⟩ := checkE_faces HE.out
  have HOK := Lib.hid hokf
  have hl16' : (R.fs.length : Int) ≤ 16 := by omega
  clear hokf
  have r0 := (HKR.out.belowS HB3.out).cell 0
  have r1 := (HKR.out.belowS HB3.out).cell 1
  have lr := (HKR.out.belowS HB3.out).lt
  simp only [List.getElem?_toArray, List.getElem?_cons_zero, List.getElem?_cons_succ] at r0 r1
  go_wp2_with fail
  go_loopw [8, 9] (fun v s wv => ∃ j : Nat, j ≤ R.fs.length ∧ s = .int .i64 j ∧ wv.ownsRow (w.heap.size + 2) 3 1 v (whereL R.fs p j).length ((whereL R.fs p j).map (fun i : Nat => Value.int .i64 (i : Int))) ∧ Blk wv w.heap.size #[.slice R.fa R.fs.length R.fc, .slice R.oa R.os.length R.oc] 25 ∧ Blk wv (w.heap.size + 1) #[.int .i64 p.x, .int .i64 p.y] 27 ∧ Below w.heap.size w wv) (fun _ s _ => R.fs.length - (intOf s).toNat)
  case atStart => exact ⟨0, Nat.zero_le _, rfl, World.ownsRow_nil _ _ _ _, HKR.out.belowS HB3.out, HKP.out.belowS HB3.out, HB3W.out⟩
  case round =>
    clear r0 r1 lr
    obtain ⟨j, hj, rfl, hown, g1, g2, g3⟩ := hrel
    have HOW := Lib.hid hown
    have HG1 := Lib.hid g1
    have HG2 := Lib.hid g2
    have HG3 := Lib.hid g3
    obtain ⟨wp, rfl⟩ : ∃ wp : World, wp = wr := ⟨_, rfl⟩
    have hj0 : (0 : Int) ≤ (j : Int) := Int.natCast_nonneg _
    have r0 := g1.cell 0
    have lr := g1.lt
    simp only [List.getElem?_toArray, List.getElem?_cons_zero, List.getElem?_cons_succ] at r0
    clear hown g1 g2 g3
    by_cases hlj : j < R.fs.length
    · have hq : R.fs[j]? = some R.fs[j] := List.getElem?_eq_getElem hlj
      have hj1 : (j : Int) < (R.fs.length : Int) := by omega
      obtain ⟨fb, fo, hfa, hfb, hfc, hfc2, hfp⟩ := fac_of (HR.out.below HG3.out) hq
      have hokl := HOK.out R.fs[j] (List.getElem_mem hlj)
      have hfk := hfp j _ hq
      have hwl := whereL_succ R.fs p j
      have hon : onF R.fs p j = onL R.fs[j].cs p := by simp [onF, hq]
      rw [hon] at hwl
      have hj3 : (j : Int) < (R.fc : Int) := by omega
      generalize R.fs[j] = F at *
      have HWL := Lib.hid hwl
      have HFK := Lib.hid (fun W (h : Below wp.heap.size wp W) => (show FacAt W fb (fo + j * 7) F ∧ FacIn W F from ⟨hfk.1.below h hfb, hfk.2.below h⟩))
      have HFA := Lib.hid hfa
      have HLJ := Lib.hid hlj
      have HON := Lib.hid (fun W (h : Below wp.heap.size wp W) => refOn_any F p W (HFK.out W h).2.1 hokl.2 hokl.1 HPOK.out)
      have hx0 : ∀ W, Below wp.heap.size wp W → (fun w' : World => w'.cell? ⟨w.heap.size, 0, none⟩ = some (.slice (some ⟨fb, fo, none⟩) R.fs.length R.fc) ∧ w'.cell? ⟨w.heap.size + 1, 0, none⟩ = some (.int .i64 p.x) ∧ w'.cell? ⟨w.heap.size + 1, 1, none⟩ = some (.int .i64 p.y) ∧ w'.cell? ⟨fb, fo + j * 7, none⟩ = some (.string F.name) ∧ w'.cell? ⟨fb, fo + j * 7 + 1, none⟩ = some (.int .i64 F.side) ∧ w'.cell? ⟨fb, fo + j * 7 + 2, none⟩ = some (.int .i64 F.foot) ∧ w'.cell? ⟨fb, fo + j * 7 + 3, none⟩ = some (.int .i64 F.base) ∧ w'.cell? ⟨fb, fo + j * 7 + 4, none⟩ = some (.int .i64 F.rise) ∧ w'.cell? ⟨fb, fo + j * 7 + 5, none⟩ = some (.int .i64 F.run) ∧ w'.cell? ⟨fb, fo + j * 7 + 6, none⟩ = some (.slice F.ca F.cs.length F.cc)) W := fun W h => by
        obtain ⟨b0, b1, b2, b3, b4, b5, b6⟩ := (HFK.out W h).1
        have a0 : W.cell? ⟨w.heap.size, 0, none⟩ = some (.slice (some ⟨fb, fo, none⟩) R.fs.length R.fc) := by rw [← HFA.out]; exact (HG1.out.belowS h).cell 0
        exact ⟨a0, (HG2.out.belowS h).cell 0, (HG2.out.belowS h).cell 1, b0, b1, b2, b3, b4, b5, b6⟩
      have HX := Lib.hid hx0
      rw [hfa] at r0
      clear hx0 hq hfa hfb hfp hfk hokl hwl hon hlj
      go_upto_region 10 with fail
      refine wp_region_E 7 (fun w' => w'.cell? ⟨w.heap.size, 0, none⟩ = some (.slice (some ⟨fb, fo, none⟩) R.fs.length R.fc) ∧ w'.cell? ⟨w.heap.size + 1, 0, none⟩ = some (.int .i64 p.x) ∧ w'.cell? ⟨w.heap.size + 1, 1, none⟩ = some (.int .i64 p.y) ∧ w'.cell? ⟨fb, fo + j * 7, none⟩ = some (.string F.name) ∧ w'.cell? ⟨fb, fo + j * 7 + 1, none⟩ = some (.int .i64 F.side) ∧ w'.cell? ⟨fb, fo + j * 7 + 2, none⟩ = some (.int .i64 F.foot) ∧ w'.cell? ⟨fb, fo + j * 7 + 3, none⟩ = some (.int .i64 F.base) ∧ w'.cell? ⟨fb, fo + j * 7 + 4, none⟩ = some (.int .i64 F.rise) ∧ w'.cell? ⟨fb, fo + j * 7 + 5, none⟩ = some (.int .i64 F.run) ∧ w'.cell? ⟨fb, fo + j * 7 + 6, none⟩ = some (.slice F.ca F.cs.length F.cc)) (by kernel_rfl) ?_
      have Bh0 := Lib.hid ((Below.refl wp.heap.size wp).drew)
      have hh0 := HX.out wp.drew Bh0.out
      refine E_takeR (i := 0) (oi := _) (v := ?v1) rfl (by kernel_rfl) (by kernel_rfl) (by kernel_rfl) (by decide) (fun _ _ _ h => h) hh0 (Or.inl ⟨by rfl, ?y1⟩) ?r1
      case y1 => (intro w' hSw; (try dsimp only at hSw); go_simp; try with_reducible rfl)
      try simp only [Act.put, List.getElem_toArray, List.getElem_cons_zero, List.getElem_cons_succ, List.setIfInBounds_toArray, List.set_cons_zero, List.set_cons_succ]
      refine E_takeR (i := 1) (oi := _) (v := ?v2) rfl (by kernel_rfl) (by kernel_rfl) (by kernel_rfl) (by decide) (fun _ _ _ h => h) hh0 (Or.inl ⟨by rfl, ?y2⟩) ?r2
      case y2 => (intro w' hSw; (try dsimp only at hSw); go_simp; try with_reducible rfl)
      try simp only [Act.put, List.getElem_toArray, List.getElem_cons_zero, List.getElem_cons_succ, List.setIfInBounds_toArray, List.set_cons_zero, List.set_cons_succ]
      refine E_takeR (i := 2) (oi := _) (v := ?v3) rfl (by kernel_rfl) (by kernel_rfl) (by kernel_rfl) (by decide) (fun _ _ _ h => h) hh0 (Or.inl ⟨by rfl, ?y3⟩) ?r3
      case y3 => (intro w' hSw; (try dsimp only at hSw); go_simp; try with_reducible rfl)
      try simp only [Act.put, List.getElem_toArray, List.getElem_cons_zero, List.getElem_cons_succ, List.setIfInBounds_toArray, List.set_cons_zero, List.set_cons_succ]
      refine E_takeR (i := 3) (oi := _) (v := ?v4) rfl (by kernel_rfl) (by kernel_rfl) (by kernel_rfl) (by decide) (fun _ _ _ h => h) hh0 (Or.inl ⟨by rfl, ?y4⟩) ?r4
      case y4 => (intro w' hSw; (try dsimp only at hSw); go_simp; try with_reducible rfl)
      try simp only [Act.put, List.getElem_toArray, List.getElem_cons_zero, List.getElem_cons_succ, List.setIfInBounds_toArray, List.set_cons_zero, List.set_cons_succ]
      refine E_takeR (i := 4) (oi := _) (v := ?v5) rfl (by kernel_rfl) (by kernel_rfl) (by kernel_rfl) (by decide) (fun _ _ _ h => h) hh0 (Or.inl ⟨by rfl, ?y5⟩) ?r5
      case y5 => (intro w' hSw; (try dsimp only at hSw); go_simp; try with_reducible rfl)
      try simp only [Act.put, List.getElem_toArray, List.getElem_cons_zero, List.getElem_cons_succ, List.setIfInBounds_toArray, List.set_cons_zero, List.set_cons_succ]
      refine E_takeR (i := 5) (oi := _) (v := ?v6) rfl (by kernel_rfl) (by kernel_rfl) (by kernel_rfl) (by decide) (fun _ _ _ h => h) hh0 (Or.inl ⟨by rfl, ?y6⟩) ?r6
      case y6 => (intro w' hSw; (try dsimp only at hSw); go_simp; try with_reducible rfl)
      try simp only [Act.put, List.getElem_toArray, List.getElem_cons_zero, List.getElem_cons_succ, List.setIfInBounds_toArray, List.set_cons_zero, List.set_cons_succ]
      refine E_step (i := 6) (o := _) (by kernel_rfl) rfl (fun K hK => ?_)
      go_simp
      refine (HON.out wp.drew Bh0.out).mono ?_
      rintro e wh1 ⟨rfl, hbh1⟩
      dsimp only
      have Bwh1 := Lib.hid (Bh0.out.trans (hbh1.mono Bh0.out.size))
      have hwh1 := HX.out wh1 Bwh1.out
      refine hK.out _ _ (fun h => hwh1) ?_
      clear hK K hbh1
      try simp only [Act.put, List.getElem_toArray, List.getElem_cons_zero, List.getElem_cons_succ, List.setIfInBounds_toArray, List.set_cons_zero, List.set_cons_succ]
      refine E_done (by kernel_rfl) ?_ _
      clear hh0 hwh1

      have HB6 := Lib.hid Bwh1.out
      obtain ⟨w5, hw5⟩ : ∃ w5, wh1 = w5 := ⟨_, rfl⟩
      rw [hw5] at HB6 ⊢
      clear hw5 r0 lr
      have k1 := HG1.out.belowS HB6.out
      have k2 := HG2.out.belowS HB6.out
      have hb7 := HG3.out.trans (HB6.out.mono HG3.out.size)
      have hown5 := ownsRow_below HOW.out HB6.out
      have HK1 := Lib.hid k1
      have HK2 := Lib.hid k2
      have HB7 := Lib.hid hb7
      clear k1 k2 hb7
      cases hon : onL F.cs p with
      | false =>
        have HO := Lib.hid hon
        have HW5 := Lib.hid hown5
        clear hown5 hon
        go_wp2_with fail
        refine ⟨⟨j + 1, by have := HLJ.out; omega, by simp, ?_, HK1.out, HK2.out, HB7.out⟩, by have := HLJ.out; simp [intOf]; omega⟩
        rw [HWL.out, HO.out]
        simpa using HW5.out
      | true =>
        have HO := Lib.hid hon
        have hle := whereL_le R.fs p j
        have hsz6 : w.heap.size + 2 ≤ w5.heap.size := by have := HK2.out.lt; omega
        have hmx : (whereL R.fs p j).length + 1 ≤ maxLen := by unfold maxLen; omega
        have HOWN := Lib.hid hown5
        clear hown5 hon
        go_wp2_with (at_builtin; refine wpList_append_own _ rfl _ _ 35 rfl (w.heap.size + 2) 3 i0 (.int .i64 0) 1 8 Try.underlying35 hi hz0 hz1 hz2 rfl (by decide) _ _ _ rfl (HOWN.out.alloc _) ⟨w5.heap.size, 0, none⟩ 1 1 [.int .i64 (j : Int)] rfl rfl (cell_one_new _ _ _) (by simp [Value.oneCell']) hmx (by omega) (by simp; omega) ?_; intro v' w6 hown6 hgrow _; have HOWN6 := Lib.hid hown6; have HGR := Lib.hid hgrow; clear hown6 hgrow)
        have hgo : ∀ k, _ = some k → w.heap.size + 2 ≤ k := fun k e => ((HOWN.out.alloc (.cells #[.int .i64 (j : Int)] 3)).lt k e).1
        refine ⟨⟨j + 1, by have := HLJ.out; omega, by simp, ?_, (HK1.out.alloc _).kept HGR.out (fun e => by have := hgo _ e.symm; omega), (HK2.out.alloc _).kept HGR.out (fun e => by have := hgo _ e.symm; omega), (HB7.out.alloc HB7.out.size _).grown HGR.out (by have := HB7.out.size; simp; omega) (fun k e => by have := hgo _ e; omega)⟩, by have := HLJ.out; simp [intOf]; omega⟩
        rw [HWL.out, HO.out]
        simpa using HOWN6.out
    obtain rfl : j = R.fs.length := by omega
    have hjj : ¬ (R.fs.length : Int) < (R.fs.length : Int) := by omega
    have hl12 := checkE_opens HE.out
    have hl12' : (R.os.length : Int) ≤ 100000 := by omega
    have r1 := HG1.out.cell 1
    have p0 := HG2.out.cell 0
    have p1 := HG2.out.cell 1
    have lp := HG2.out.lt
    simp only [List.getElem?_toArray, List.getElem?_cons_zero, List.getElem?_cons_succ] at r1 p0 p1
    go_wp2_with fail
    obtain ⟨wl, rfl⟩ : ∃ wl : World, wl = wp := ⟨_, rfl⟩
    go_loopw [10, 11] (fun s _ wv => ∃ k : Nat, k ≤ R.os.length ∧ s = .int .i64 k ∧ (∀ j o, j < k → R.os[j]? = some o → inOpn p o = false) ∧ Below wl.heap.size wl wv) (fun s _ _ => R.os.length - (intOf s).toNat)
    case atStart => exact ⟨0, Nat.zero_le _, rfl, fun j o h => by omega, Below.refl _ _⟩
    case round =>
      clear r0 r1 p0 p1 lp lr
      obtain ⟨k, hk, rfl, hno, hb⟩ := hrel
      have HNO := Lib.hid hno
      have HB := Lib.hid hb
      have HBW := Lib.hid (HG3.out.trans (hb.mono HG3.out.size))
      have HOWB := Lib.hid (ownsRow_below HOW.out hb)
      obtain ⟨wp, rfl⟩ : ∃ wp : World, wp = wr := ⟨_, rfl⟩
      have hk0 : (0 : Int) ≤ (k : Int) := Int.natCast_nonneg _
      have r1 := (HG1.out.belowS hb).cell 1
      have lr := (HG1.out.belowS hb).lt
      have p0 := (HG2.out.belowS hb).cell 0
      have p1 := (HG2.out.belowS hb).cell 1
      have lp := (HG2.out.belowS hb).lt
      simp only [List.getElem?_toArray, List.getElem?_cons_zero, List.getElem?_cons_succ] at r1 p0 p1
      by_cases hlk : k < R.os.length
      · have hq : R.os[k]? = some R.os[k] := List.getElem?_eq_getElem hlk
        have hk1 : (k : Int) < (R.os.length : Int) := by omega
        obtain ⟨ob, oo, hoa, hob, hoc, hoc2, hop⟩ := opn_of (HR.out.below HBW.out) hq
        obtain ⟨⟨o0, o1, o2, o3, o4, o5⟩, -⟩ := hop k _ hq
        have hk3 : (k : Int) < (R.oc : Int) := by omega
        generalize R.os[k] = o at *
        have HQ := Lib.hid hq
        have HLK := Lib.hid hlk
        rw [hoa] at r1
        have HK2 := Lib.hid (HG2.out.belowS hb)
        clear hq hoa hop hlk hno hb p0 p1 lp
        go_upto_region 16 with fail
        have kY := Blk.new wp 76 #[.string o.name, .int .i64 o.face, .int .i64 o.lo.x, .int .i64 o.lo.y, .int .i64 o.hi.x, .int .i64 o.hi.y]
        have kP := HK2.out.alloc (.cells #[.string o.name, .int .i64 o.face, .int .i64 o.lo.x, .int .i64 o.lo.y, .int .i64 o.hi.x, .int .i64 o.hi.y] 76)
        have hbz : Below wp.heap.size wp (wp.alloc (.cells #[.string o.name, .int .i64 o.face, .int .i64 o.lo.x, .int .i64 o.lo.y, .int .i64 o.hi.x, .int .i64 o.hi.y] 76)) := (Below.refl _ wp).alloc (Nat.le_refl _) _
        have HBZ := Lib.hid (HB.out.trans (hbz.mono HB.out.size))
        have HBZW := Lib.hid (HBW.out.trans (hbz.mono HBW.out.size))
        have HOWZ := Lib.hid (ownsRow_below HOWB.out hbz)
        obtain ⟨BY, hBY⟩ : ∃ BY, wp.heap.size = BY := ⟨_, rfl⟩
        rw [hBY] at kY ⊢
        clear o0 o1 o2 o3 o4 o5 lr r1 hbz hBY hob
        generalize wp.alloc (.cells #[.string o.name, .int .i64 o.face, .int .i64 o.lo.x, .int .i64 o.lo.y, .int .i64 o.hi.x, .int .i64 o.hi.y] 76) = wz at *
        obtain ⟨y0, y1, y2, y3, y4, y5⟩ := opn_cells (o := o) kY
        have p0 := kP.cell 0
        have p1 := kP.cell 1
        have lp := kP.lt
        simp only [List.getElem?_toArray, List.getElem?_cons_zero, List.getElem?_cons_succ] at p0 p1
        have ly := kY.lt
        clear kY kP
        by_cases c0 : o.lo.x < p.x
        rotate_left
        · have HNI := Lib.hid (show inOpn p o = false by unfold inOpn; simp [c0])
          replace c0 := Int.not_lt.1 c0
          go_wp2_with fail
          refine ⟨⟨k + 1, by have := HLK.out; omega, by simp, ?_, HBZ.out⟩, by have := HLK.out; simp [intOf]; omega⟩
          intro j' o' hj' ho'
          by_cases h : j' = k
          · subst h
            obtain rfl : o' = o := Option.some.inj (ho'.symm.trans HQ.out)
            exact HNI.out
          · exact HNO.out j' o' (by omega) ho'
        have C0 := Lib.hid c0
        by_cases c1 : p.x < o.hi.x
        rotate_left
        · have HNI := Lib.hid (show inOpn p o = false by unfold inOpn; simp [c1, C0.out])
          replace c1 := Int.not_lt.1 c1
          go_wp2_with fail
          refine ⟨⟨k + 1, by have := HLK.out; omega, by simp, ?_, HBZ.out⟩, by have := HLK.out; simp [intOf]; omega⟩
          intro j' o' hj' ho'
          by_cases h : j' = k
          · subst h
            obtain rfl : o' = o := Option.some.inj (ho'.symm.trans HQ.out)
            exact HNI.out
          · exact HNO.out j' o' (by omega) ho'
        have C1 := Lib.hid c1
        by_cases c2 : o.lo.y < p.y
        rotate_left
        · have HNI := Lib.hid (show inOpn p o = false by unfold inOpn; simp [c2, C0.out, C1.out])
          replace c2 := Int.not_lt.1 c2
          go_wp2_with fail
          refine ⟨⟨k + 1, by have := HLK.out; omega, by simp, ?_, HBZ.out⟩, by have := HLK.out; simp [intOf]; omega⟩
          intro j' o' hj' ho'
          by_cases h : j' = k
          · subst h
            obtain rfl : o' = o := Option.some.inj (ho'.symm.trans HQ.out)
            exact HNI.out
          · exact HNO.out j' o' (by omega) ho'
        have C2 := Lib.hid c2
        by_cases c3 : p.y < o.hi.y
        rotate_left
        · have HNI := Lib.hid (show inOpn p o = false by unfold inOpn; simp [c3, C0.out, C1.out, C2.out])
          replace c3 := Int.not_lt.1 c3
          go_wp2_with fail
          refine ⟨⟨k + 1, by have := HLK.out; omega, by simp, ?_, HBZ.out⟩, by have := HLK.out; simp [intOf]; omega⟩
          intro j' o' hj' ho'
          by_cases h : j' = k
          · subst h
            obtain rfl : o' = o := Option.some.inj (ho'.symm.trans HQ.out)
            exact HNI.out
          · exact HNO.out j' o' (by omega) ho'
        have C3 := Lib.hid c3
        have HV := Lib.hid (openAt_some HQ.out (show inOpn p o = true by unfold inOpn; simp [c0, c1, c2, c3]) HNO.out)
        go_wp2_with fail
        go_ret3
        refine ⟨HBZW.out, ?_⟩
        rw [if_neg (by rw [HE.out]; simp), if_neg (by rw [HP.out]; simp)]
        exact ⟨_, by rw [HV.out]; rfl, isInts_of HOWZ.out⟩
      obtain rfl : k = R.os.length := by omega
      have hkk : ¬ (R.os.length : Int) < (R.os.length : Int) := by omega
      have HV := Lib.hid (openAt_none HNO.out)
      clear hno hb hlk
      go_wp2_with fail
      go_ret3
      refine ⟨HBW.out, ?_⟩
      rw [if_neg (by rw [HE.out]; simp), if_neg (by rw [HP.out]; simp)]
      exact ⟨_, by rw [HV.out]; rfl, isInts_of HOWB.out⟩
end Go.Proofs.Ytpdgcajbdaleeaa
