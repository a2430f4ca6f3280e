/- RidgeFirst's walk. No condition. -/
import Derived.Test.YtmcmhgjlpffcnaaPW
set_option linter.unusedSimpArgs false
namespace Go.Proofs.Ytmcmhgjlpffcnaa
open Go.RowKit

/-- The ridge that is left behind a first piece. -/
def leftR (R : Rdg) (x : Pce) : Rdg := ⟨R.len - x.wd, x.rt, R.en, R.pa, R.pc, R.ps⟩
/-- How many rows begin with one of the first k pieces. -/
def firstTo (R : Rdg) (k : Nat) : Nat := ((R.ps.take k).map fun x => if x.lf = R.st ∧ x.wd ≤ R.len then waysN (leftR R x) else 0).sum
theorem firstTo_succ {R : Rdg} {k : Nat} {x : Pce} (h : R.ps[k]? = some x) : firstTo R (k + 1) = firstTo R k + (if x.lf = R.st ∧ x.wd ≤ R.len then waysN (leftR R x) else 0) := by
  simp only [firstTo, List.take_add_one, h, Option.toList_some, List.map_append, List.sum_append, List.map_cons, List.map_nil, List.sum_cons, List.sum_nil]
  omega
theorem first_all {R : Rdg} (hR : rdgE R = 0) (hl : R.len ≠ 0) : firstTo R R.ps.length = waysN R := by
  have hok := rdgE_ridge hR
  have h0 := hok.top
  have hlen : 0 ≤ R.len ∧ 0 ≤ R.st := by
    obtain ⟨h1, -⟩ := rdgE_zero hR
    simp only [rdgB, Bool.and_eq_true, isFromB_iff] at h1
    omega
  unfold waysN
  rw [wy_step hok.2.2.2.2, firstTo, List.take_length]
  have hb : baseW R.en.toNat R.top = 0 := by
    unfold baseW Rdg.top
    rw [if_neg]
    simp only
    omega
  rw [hb, Nat.zero_add]
  congr 1
  refine List.map_congr_left fun x hx => ?_
  have ht : takB R.top x = true ↔ x.lf = R.st ∧ x.wd ≤ R.len := by
    rw [takB_iff]
    simp only [Rdg.top]
    omega
  by_cases h : takB R.top x = true
  · rw [if_pos h, if_pos (ht.1 h)]
    have hxo := hok.2.2.2.2 x hx
    obtain ⟨⟨w1, w2⟩, -⟩ := hxo
    have e : (leftR R x).top = behG R.top x := by
      simp only [leftR, Rdg.top, behG]
      congr 1
      omega
    unfold waysN
    rw [e]
    rfl
  · rw [if_neg h, if_neg (fun h2 => h (ht.2 h2))]
theorem left_ok {R : Rdg} {x : Pce} (hR : rdgE R = 0) (hx : x ∈ R.ps) (h : x.lf = R.st ∧ x.wd ≤ R.len) : rdgE (leftR R x) = 0 := by
  obtain ⟨h1, h2, h3, h4⟩ := rdgE_zero hR
  have hok := (rdgE_ridge hR).2.2.2.2 x hx
  obtain ⟨⟨w1, w2⟩, ⟨l1, l2⟩, r1, r2⟩ := hok
  refine rdgE_ok ?_ h2 h3 h4
  simp only [rdgB, Bool.and_eq_true, isFromB_iff] at h1 ⊢
  simp only [leftR]
  omega
theorem mem_first {R : Rdg} {x : Pce} (hR : rdgE R = 0) (hl : R.len ≠ 0) (hx : x ∈ R.ps) (h : x.lf = R.st ∧ x.wd ≤ R.len) : waysN (leftR R x) ≤ waysN R := by
  rw [← first_all hR hl, firstTo, List.take_length]
  have := mem_le_sum (fun x => if x.lf = R.st ∧ x.wd ≤ R.len then waysN (leftR R x) else 0) R.ps x hx
  simp only [if_pos h] at this
  exact this
theorem left_E {R : Rdg} {x : Pce} (hE : waysE R = 0) (hl : R.len ≠ 0) (hx : x ∈ R.ps) (h : x.lf = R.st ∧ x.wd ≤ R.len) : waysE (leftR R x) = 0 ∧ waysN (leftR R x) ≤ waysN R := by
  obtain ⟨h1, h2⟩ := waysE_zero hE
  have h3 := mem_first h1 hl hx h
  refine ⟨?_, h3⟩
  unfold waysE
  rw [if_neg (by rw [left_ok h1 hx h]; simp), if_neg (by omega)]
theorem firstTo_le {R : Rdg} (hR : rdgE R = 0) (hl : R.len ≠ 0) (k : Nat) : firstTo R k ≤ waysN R := by
  rw [← first_all hR hl]
  unfold firstTo
  rw [List.take_length]
  have h := List.take_append_drop k R.ps
  have h2 : ((R.ps.take k ++ R.ps.drop k).map fun x => if x.lf = R.st ∧ x.wd ≤ R.len then waysN (leftR R x) else 0).sum = (R.ps.map fun x => if x.lf = R.st ∧ x.wd ≤ R.len then waysN (leftR R x) else 0).sum := by rw [h]
  rw [List.map_append, List.sum_append] at h2
  omega

set_option maxRecDepth 100000 in
set_option maxHeartbeats 16000000 in
theorem firstLaw_any (R : Rdg) (w : World) (hR : IsRdg w R) : Calls Try.prog 8 #[.agg #[.int .i64 R.len, .int .i64 R.st, .int .i64 R.en, .slice R.pa R.ps.length R.pc]] w fun e w' => e = .returned (.bool true) ∧ Below w.heap.size w w' := by
  have k1 := Blk.new w 24 #[.int .i64 R.len, .int .i64 R.st, .int .i64 R.en, .slice R.pa R.ps.length R.pc]
  have hb1 : Below w.heap.size w (w.alloc (.cells #[.int .i64 R.len, .int .i64 R.st, .int .i64 R.en, .slice R.pa R.ps.length R.pc] 24)) := (Below.refl _ w).alloc (Nat.le_refl _) _
  have HR := Lib.hid hR
  clear hR
  go_enter Try.func8, Try.ntmps8
  go_upto_region 1 with fail
  generalize w.alloc (.cells #[.int .i64 R.len, .int .i64 R.st, .int .i64 R.en, .slice R.pa R.ps.length R.pc] 24) = w1 at *
  have K1 := Lib.hid k1
  have HB1 := Lib.hid hb1
  obtain ⟨r0, r1, r2, r3⟩ := rdg_cells (R := R) k1
  have hlr := k1.lt
  clear k1 hb1
  go_wp2_with fail
  refine (great_any R _ (HR.out.belowS HB1.out)).mono ?_
  rintro e w2 ⟨b, rfl, hb, hb2⟩
  have K2 := Lib.hid (K1.out.belowS hb2)
  have HB2 := Lib.hid (HB1.out.trans (hb2.mono HB1.out.size))
  clear r0 r1 r2 r3 hlr hb2
  cases b with
  | true =>
    clear hb
    go_wp2_with fail
    refine (lives_any _).mono ?_
    rintro e w3 ⟨rfl, hb3⟩
    have HB3 := Lib.hid (HB2.out.trans (hb3.mono HB2.out.size))
    clear hb3
    go_wp2_with fail
    go_ret
    exact ⟨rfl, HB3.out⟩
  | false =>
    obtain ⟨hl30, -⟩ := hb rfl
    obtain ⟨r0, r1, r2, r3⟩ := rdg_cells (R := R) K2.out
    have hlr := K2.out.lt
    clear hb
    go_wp2_with fail
    refine (ways_any R _ (HR.out.belowS HB2.out).row (by omega) HR.out.names).mono ?_
    rintro e w3 ⟨rfl, hb3⟩
    have K3 := Lib.hid (K2.out.belowS hb3)
    have HB3 := Lib.hid (HB2.out.trans (hb3.mono HB2.out.size))
    clear r0 r1 r2 r3 hlr hb3
    obtain ⟨r0, r1, r2, r3⟩ := rdg_cells (R := R) K3.out
    have hlr := K3.out.lt
    by_cases hE : waysE R = 0
    rotate_left
    · generalize waysE R = eR at *
      go_wp2_with fail
      refine (lives_any _).mono ?_
      rintro e w4 ⟨rfl, hb4⟩
      have HB4 := Lib.hid (HB3.out.trans (hb4.mono HB3.out.size))
      clear hb4
      go_wp2_with fail
      go_ret
      exact ⟨rfl, HB4.out⟩
    rw [hE, show endI 0 ((waysN R : Nat) : Int) = (waysN R : Nat) from rfl]
    by_cases hz : R.len = 0
    · have hz2 : ((R.len : Int) == 0) = true := by simp [hz]
      have HZ := Lib.hid hz
      go_wp2_with fail
      refine (lives_any _).mono ?_
      rintro e w4 ⟨rfl, hb4⟩
      have HB4 := Lib.hid (HB3.out.trans (hb4.mono HB3.out.size))
      clear hb4
      go_wp2_with fail
      go_ret
      exact ⟨rfl, HB4.out⟩
    have hM : waysN R ≤ MW := (waysE_zero hE).2
    have hro := rdgE_ridge (waysE_zero hE).1
    obtain ⟨⟨hl1, hl2⟩, -, -, -, hpo⟩ := hro
    have hrE := (waysE_zero hE).1
    have HE := Lib.hid (And.intro hE (And.intro hrE (And.intro hz hpo)))
    unfold MW at hM
    have hMi : (waysN R : Int) ≤ 1000000000000000 := by omega
    have HMI := Lib.hid (And.intro hM hMi)
    obtain ⟨N, hN⟩ : ∃ N : Int, (waysN R : Int) = N := ⟨_, rfl⟩
    rw [hN] at hMi ⊢
    have HN := Lib.hid hN
    clear hE hrE hpo hM hN
    go_wp2_with fail
    clear r0 r1 r2 r3 hlr
    have hzb : (R.len == 0) = false := by simp [HE.out.2.2.1]
    rw [hzb]
    clear hzb
    go_loopw [5, 6, 7, 8, 9, 10] (fun s i _ _ _ _ wr => ∃ j : Nat, j ≤ R.ps.length ∧ i = .int .i64 j ∧ s = .int .i64 (firstTo R j : Nat) ∧ Blk wr w.heap.size #[.int .i64 R.len, .int .i64 R.st, .int .i64 R.en, .slice R.pa R.ps.length R.pc] 24 ∧ Below w.heap.size w wr) (fun _ i _ _ _ _ _ => R.ps.length - (intOf i).toNat)
    case atStart => exact ⟨0, Nat.zero_le _, rfl, rfl, K3.out, HB3.out⟩
    case round =>
      obtain ⟨j, hj, rfl, rfl, hk, g2⟩ := hrel
      have hfb := firstTo_le HE.out.2.1 HE.out.2.2.1 j
      have hj0 : (0 : Int) ≤ (j : Int) := Int.natCast_nonneg _
      have hMN := HMI.out.1
      by_cases hlj : j < R.ps.length
      · have hq : R.ps[j]? = some R.ps[j] := List.getElem?_eq_getElem hlj
        have hxm := List.mem_of_getElem? hq
        obtain ⟨b, off, e, hbl, hc1, hc2, hp⟩ := (HR.out.belowS g2).row.at hq
        have hst := firstTo_succ hq
        have hfb2 := firstTo_le HE.out.2.1 HE.out.2.2.1 (j + 1)
        generalize R.ps[j] = x at *
        have hxo := HE.out.2.2.2 x hxm
        obtain ⟨⟨x1, x2⟩, ⟨x3, x4⟩, x5, x6⟩ := hxo
        obtain ⟨c0, c1, c2, c3, c4⟩ := hp
        have kx := Blk.new wr 54 #[.string x.name, .int .i64 x.wd, .int .i64 x.lf, .int .i64 x.rt, .int .i64 x.mr]
        have kr := hk.alloc (.cells #[.string x.name, .int .i64 x.wd, .int .i64 x.lf, .int .i64 x.rt, .int .i64 x.mr] 54)
        have hbx : Below wr.heap.size wr (wr.alloc (.cells #[.string x.name, .int .i64 x.wd, .int .i64 x.lf, .int .i64 x.rt, .int .i64 x.mr] 54)) := (Below.refl _ _).alloc (Nat.le_refl _) _
        obtain ⟨r0, r1, r2, r3⟩ := rdg_cells (R := R) hk
        have hlr := hk.lt
        have HG := Lib.hid g2
        have HST := Lib.hid (And.intro hst hxm)
        have HEE := Lib.hid e
        rw [e] at r3
        have hj1 : (j : Int) < (R.ps.length : Int) := by omega
        clear hk g2 hst hxm hq e
        go_upto_region 11 with fail
        clear r0 r1 r2 r3 hlr c0 c1 c2 c3 c4 hbl
        generalize wr.alloc (.cells #[.string x.name, .int .i64 x.wd, .int .i64 x.lf, .int .i64 x.rt, .int .i64 x.mr] 54) = w4 at *
        have KX := Lib.hid kx
        have KR := Lib.hid kr
        have HB4 := Lib.hid (HG.out.trans (hbx.mono HG.out.size))
        obtain ⟨r0, r1, r2, r3⟩ := rdg_cells (R := R) kr
        obtain ⟨c0, c1, c2, c3, c4⟩ := pce_cells (x := x) kx
        have hlr := kr.lt
        have hlx := kx.lt
        clear kx kr hbx
        by_cases hx1 : x.lf = R.st
        · by_cases hx2 : x.wd ≤ R.len
          · have HX := Lib.hid (And.intro hx1 hx2)
            go_upto_region 13 with fail
            have ko := Blk.new w4 24 #[.int .i64 R.len, .int .i64 R.st, .int .i64 R.en, .slice R.pa R.ps.length R.pc]
            have kx := KX.out.alloc (.cells #[.int .i64 R.len, .int .i64 R.st, .int .i64 R.en, .slice R.pa R.ps.length R.pc] 24)
            have kr := KR.out.alloc (.cells #[.int .i64 R.len, .int .i64 R.st, .int .i64 R.en, .slice R.pa R.ps.length R.pc] 24)
            have hb5 : Below w.heap.size w (w4.alloc (.cells #[.int .i64 R.len, .int .i64 R.st, .int .i64 R.en, .slice R.pa R.ps.length R.pc] 24)) := HB4.out.alloc HB4.out.size _
            clear r0 r1 r2 r3 c0 c1 c2 c3 c4
            generalize w4.alloc (.cells #[.int .i64 R.len, .int .i64 R.st, .int .i64 R.en, .slice R.pa R.ps.length R.pc] 24) = w5 at *
            have KO := Lib.hid ko
            have KX5 := Lib.hid kx
            have KR5 := Lib.hid kr
            have HB5 := Lib.hid hb5
            obtain ⟨r0, r1, r2, r3⟩ := rdg_cells (R := R) kr
            obtain ⟨o0, o1, o2, o3⟩ := rdg_cells (R := R) ko
            obtain ⟨c0, c1, c2, c3, c4⟩ := pce_cells (x := x) kx
            have z0 := ko.frozen 0
            have z1 := ko.frozen 1
            have lo := ko.lt
            have lr := kr.lt
            have lx := kx.lt
            have hne1 : w4.heap.size ≠ w.heap.size := by omega
            have hne2 : w4.heap.size ≠ wr.heap.size := by omega
            have ew : IntKind.i64.wrap (R.len - x.wd) = R.len - x.wd := by rw [IntKind.wrap_i64]; omega
            clear ko kx kr hb5
            go_region
            have kf := (((KO.out.set 0 (.int .i64 (R.len - x.wd))).set 1 (.int .i64 x.rt))).drew
            simp only [List.setIfInBounds_toArray, List.set_cons_zero, List.set_cons_succ] at kf
            have krf := ((KR5.out.other hne1.symm (i := 0) (.int .i64 (R.len - x.wd))).other hne1.symm (i := 1) (.int .i64 x.rt)).drew
            have hbf := ((HB5.out.setCell (p := ⟨w4.heap.size, 0, none⟩) (by show w.heap.size ≤ w4.heap.size; omega) (.int .i64 (R.len - x.wd))).setCell (p := ⟨w4.heap.size, 1, none⟩) (by show w.heap.size ≤ w4.heap.size; omega) (.int .i64 x.rt)).drew
            clear r0 r1 r2 r3 o0 o1 o2 o3 c0 c1 c2 c3 c4 z0 z1 lo lr lx
            generalize ((w5.setCell ⟨w4.heap.size, 0, none⟩ (.int .i64 (R.len - x.wd))).setCell ⟨w4.heap.size, 1, none⟩ (.int .i64 x.rt)).drew = w6 at *
            have hle := left_E HE.out.1 HE.out.2.2.1 HST.out.2 HX.out
            have hw := ways_any (leftR R x) w6 (HR.out.belowS hbf).row (show R.ps.length ≤ 1000000000 by omega) HR.out.names
            rw [hle.1, show endI 0 ((waysN (leftR R x) : Nat) : Int) = (waysN (leftR R x) : Nat) from rfl] at hw
            have hfs : firstTo R (j + 1) = firstTo R j + waysN (leftR R x) := by rw [HST.out.1, if_pos HX.out]
            have hnn := HN.out
            obtain ⟨M, hM⟩ : ∃ M : Nat, waysN (leftR R x) = M := ⟨_, rfl⟩
            rw [hM] at hw hle hfs
            have HFS := Lib.hid hfs
            have m0 : ¬ ((M : Nat) : Int) < 0 := by omega
            have m1 : ¬ N < ((M : Nat) : Int) := by omega
            have e1 : IntKind.i64.wrap ((firstTo R j : Int) + (M : Int)) = (firstTo R j : Int) + (M : Int) := by rw [IntKind.wrap_i64]; omega
            obtain ⟨o0, o1, o2, o3⟩ := rdg_cells (R := leftR R x) kf
            simp only [leftR] at o0 o1 o2 o3
            have lo := kf.lt
            have HW := Lib.hid hw
            have KR := Lib.hid krf
            have HBF := Lib.hid hbf
            clear hw hle hfs kf krf hbf hM hnn
            generalize firstTo R j = f0 at *
            go_wp2_with fail
            refine HW.out.mono ?_
            rintro e w7 ⟨rfl, hb7⟩
            have HKR := Lib.hid (KR.out.belowS hb7)
            have HB7 := Lib.hid (HBF.out.trans (hb7.mono HBF.out.size))
            clear hb7 o0 o1 o2 o3 lo HW
            go_wp2_with fail
            exact ⟨⟨j + 1, by omega, by simp, by rw [HFS.out]; simp, HKR.out, HB7.out⟩, by simp [intOf]; omega⟩
          · have hadd : firstTo R (j + 1) = firstTo R j := by rw [HST.out.1, if_neg (fun h => hx2 h.2)]; rfl
            have HA := Lib.hid hadd
            clear hadd
            go_wp2_with fail
            exact ⟨⟨j + 1, by omega, by simp, by rw [HA.out], KR.out, HB4.out⟩, by simp [intOf]; omega⟩
        · have hadd : firstTo R (j + 1) = firstTo R j := by rw [HST.out.1, if_neg (fun h => hx1 h.1)]; rfl
          have HA := Lib.hid hadd
          clear hadd
          go_wp2_with fail
          exact ⟨⟨j + 1, by omega, by simp, by rw [HA.out], KR.out, HB4.out⟩, by simp [intOf]; omega⟩
      · obtain rfl : j = R.ps.length := by omega
        have hall := first_all HE.out.2.1 HE.out.2.2.1
        obtain ⟨r0, r1, r2, r3⟩ := rdg_cells (R := R) hk
        have hlr := hk.lt
        have HG := Lib.hid g2
        rw [hall, HN.out]
        clear hall hk g2
        go_wp2_with fail
        refine (lives_any _).mono ?_
        rintro e w5 ⟨rfl, hb5⟩
        have HB5 := Lib.hid (HG.out.trans (hb5.mono HG.out.size))
        clear hb5
        go_wp2_with fail
        go_ret
        exact ⟨rfl, HB5.out⟩
end Go.Proofs.Ytmcmhgjlpffcnaa
