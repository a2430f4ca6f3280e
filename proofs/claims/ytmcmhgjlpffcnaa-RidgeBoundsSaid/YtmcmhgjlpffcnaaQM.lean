/- The specification's Check of a ridge: the first error is the same. No condition but the bounds of what is given. -/
import Derived.Test.YtmcmhgjlpffcnaaQI
import Derived.Deep.DeepCutAuto
import Derived.Deep.CutRange
set_option linter.unusedSimpArgs false
namespace Go.Proofs.Ytmcmhgjlpffcnaa
open Go.RowKit

theorem refIn1_any (n lo hi : Int) (w : World) :
    Calls Try.prog 81 #[.int .i64 n, .int .i64 lo, .int .i64 hi] w fun e w' => e = .returned (.bool (isFromB n lo hi)) ∧ w = w' := by
  by_cases h : lo ≤ n
  all_goals by_cases h2 : n ≤ hi
  all_goals
    go_enter Try.func81, Try.ntmps81
    go_wp2
    all_goals go_ret
    all_goals refine ⟨?_, rfl⟩
    all_goals simp [isFromB, h, h2]
theorem refIn_any (n lo hi : Int) (w : World) :
    Calls Try.prog 47 #[.int .i64 n, .int .i64 lo, .int .i64 hi] w fun e w' => e = .returned (.bool (isFromB n lo hi)) ∧ w = w' := by
  by_cases h : lo ≤ n
  all_goals by_cases h2 : n ≤ hi
  all_goals
    go_enter Try.func47, Try.ntmps47
    go_wp2
    all_goals go_ret
    all_goals refine ⟨?_, rfl⟩
    all_goals simp [isFromB, h, h2]
theorem bad_name {s : ByteArray} {k : Nat} (hk : k < s.size) (h : badB k (byteAt s k) = true) : nameB s = false := by
  unfold nameB
  rw [Bool.and_eq_false_iff]
  right
  rw [Bool.eq_false_iff]
  intro h2
  have := List.all_eq_true.1 h2 k (by simpa using hk)
  rw [h] at this
  cases this
theorem byte_at {s : ByteArray} {k : Nat} (hk : k < s.size) : byteAt s k = (s[k].toNat : Int) := by
  unfold byteAt
  rw [Array.getElem?_eq_getElem (by simpa using hk)]
  rfl

set_option maxRecDepth 100000 in
set_option maxHeartbeats 2000000 in
theorem refName_any (s : ByteArray) (w : World) (hs : s.size ≤ maxLen) : Calls Try.prog 48 #[.string s] w fun e w' => e = .returned (.bool (nameB s)) ∧ w = w' := by
  unfold maxLen at hs
  go_enter Try.func48, Try.ntmps48
  go_wp2_with fail
  refine (refIn1_any _ _ _ _).mono ?_
  rintro e w' ⟨rfl, rfl⟩
  cases h1 : isFromB (s.size : Int) 1 16 with
  | false =>
    have hv : nameB s = false := by
      simp [isFromB] at h1
      simp [nameB]
      omega
    have HV := Lib.hid hv
    clear hv h1
    go_wp2_with fail
    go_ret
    exact ⟨by rw [HV.out]; rfl, rfl⟩
  | true =>
  obtain ⟨h2, h3⟩ := isFromB_iff.1 h1
  have hz : 0 < s.size := by omega
  have hb0 := byte_at hz
  by_cases ha : (s[0].toNat : Int) < 97
  · have hv : nameB s = false := bad_name hz (by rw [hb0]; simp [badB, letterB]; omega)
    have HV := Lib.hid hv
    have q1 : decide ((s[0].toNat : Int) < 97) = true := decide_eq_true ha
    have q2 : decide (s[0].toNat < 97) = true := decide_eq_true (by omega)
    clear hv h1 hb0 ha
    go_wp2_with fail
    go_ret
    exact ⟨by rw [HV.out]; rfl, rfl⟩
  by_cases hc : (122 : Int) < (s[0].toNat : Int)
  · have hv : nameB s = false := bad_name hz (by rw [hb0]; simp [badB, letterB]; omega)
    have HV := Lib.hid hv
    clear hv h1 hb0
    go_wp2_with fail
    go_ret
    exact ⟨by rw [HV.out]; rfl, rfl⟩
  have hl0 : badB 0 (byteAt s 0) = false := by rw [hb0]; simp [badB, letterB]; omega
  have HL0 := Lib.hid hl0
  clear h1 hl0 hb0
  go_wp2_with fail
  go_loop [3, 4] (fun i _ => ∃ k : Nat, k ≤ s.size ∧ i = .int .i64 k ∧ ∀ j, j < k → badB j (byteAt s j) = false) (fun i _ => s.size - (intOf i).toNat)
  case atStart => exact ⟨0, Nat.zero_le _, rfl, fun j h => by omega⟩
  case round =>
    obtain ⟨k, hk, rfl, hall⟩ := hrel
    have HA := Lib.hid hall
    clear hall
    by_cases hlt : k < s.size
    · have hbk := byte_at hlt
      have hk0 : (0 : Int) ≤ (k : Int) := Int.natCast_nonneg _
      have hk1 : (k : Int) < (s.size : Int) := by omega
      go_upto_region 7 with fail
      have hu : (0 : Int) ≤ (s[k].toNat : Int) := Int.natCast_nonneg _
      generalize (s[k].toNat : Int) = c at *
      have HB := Lib.hid hbk
      clear hbk
      rcases (show (97 ≤ c ∧ c ≤ 122) ∨ (48 ≤ c ∧ c ≤ 57) ∨ c = 45 ∨ (c < 48 ∧ c ≠ 45) ∨ (57 < c ∧ c < 97) ∨ 122 < c by omega) with ⟨y1, y2⟩ | ⟨y1, y2⟩ | y1 | ⟨y1, y2⟩ | ⟨y1, y2⟩ | y1
      · have hbad : badB k (byteAt s k) = false := by rw [HB.out]; simp [badB, letterB, y1, y2]
        have HBAD := Lib.hid hbad
        have z1 : ¬ c < 97 := by omega
        have z2 : ¬ 122 < c := by omega
        clear hbad
        go_wp2_with fail
        refine ⟨⟨k + 1, by omega, by simp, fun j hj => ?_⟩, by simp [intOf]; omega⟩
        by_cases hjk : j = k
        · subst hjk; exact HBAD.out
        · exact HA.out j (by omega)
      · have hbad : badB k (byteAt s k) = false := by rw [HB.out]; have hk9 : k ≠ 0 := (fun e => by subst e; have := HL0.out; rw [HB.out] at this; simp [badB, letterB] at this; omega); simp [badB, digitB, y1, y2, hk9]
        have HBAD := Lib.hid hbad
        have z1 : c < 97 := by omega
        have z3 : ¬ c < 48 := by omega
        have z4 : ¬ 57 < c := by omega
        clear hbad
        go_wp2_with fail
        refine ⟨⟨k + 1, by omega, by simp, fun j hj => ?_⟩, by simp [intOf]; omega⟩
        by_cases hjk : j = k
        · subst hjk; exact HBAD.out
        · exact HA.out j (by omega)
      · have hbad : badB k (byteAt s k) = false := by rw [HB.out]; have hk9 : k ≠ 0 := (fun e => by subst e; have := HL0.out; rw [HB.out] at this; simp [badB, letterB] at this; omega); simp [badB, y1, hk9]
        have HBAD := Lib.hid hbad
        have z1 : c < 97 := by omega
        have z3 : c < 48 := by omega
        have z5 : (c != 45) = false := by simp [y1]
        clear hbad
        go_wp2_with fail
        refine ⟨⟨k + 1, by omega, by simp, fun j hj => ?_⟩, by simp [intOf]; omega⟩
        by_cases hjk : j = k
        · subst hjk; exact HBAD.out
        · exact HA.out j (by omega)
      · have hbad : nameB s = false := bad_name hlt (by rw [HB.out]; simp only [badB, letterB, digitB]; rw [Bool.and_eq_true]; refine ⟨by simp; omega, ?_⟩; rw [Bool.or_eq_true]; right; rw [Bool.and_eq_true]; exact ⟨by simp; omega, by simp; omega⟩)
        have HBAD := Lib.hid hbad
        have z1 : c < 97 := by omega
        have z3 : c < 48 := by omega
        have z5 : (c != 45) = true := by simp; omega
        clear hbad
        go_wp2_with fail
        go_ret
        exact ⟨by rw [HBAD.out]; rfl, rfl⟩
      · have hbad : nameB s = false := bad_name hlt (by rw [HB.out]; simp only [badB, letterB, digitB]; rw [Bool.and_eq_true]; refine ⟨by simp; omega, ?_⟩; rw [Bool.or_eq_true]; right; rw [Bool.and_eq_true]; exact ⟨by simp; omega, by simp; omega⟩)
        have HBAD := Lib.hid hbad
        have z3 : ¬ c < 48 := by omega
        have z5 : (c != 45) = true := by simp; omega
        clear hbad
        go_wp2_with fail
        go_ret
        exact ⟨by rw [HBAD.out]; rfl, rfl⟩
      · have hbad : nameB s = false := bad_name hlt (by rw [HB.out]; simp only [badB, letterB, digitB]; rw [Bool.and_eq_true]; refine ⟨by simp; omega, ?_⟩; rw [Bool.or_eq_true]; right; rw [Bool.and_eq_true]; exact ⟨by simp; omega, by simp; omega⟩)
        have HBAD := Lib.hid hbad
        have z1 : ¬ c < 97 := by omega
        have z3 : ¬ c < 48 := by omega
        have z4 : 57 < c := by omega
        have z5 : (c != 45) = true := by simp; omega
        clear hbad
        go_wp2_with fail
        go_ret
        exact ⟨by rw [HBAD.out]; rfl, rfl⟩
    · obtain rfl : k = s.size := by omega
      have hv : nameB s = true := by
        unfold nameB
        rw [Bool.and_eq_true, Bool.and_eq_true]
        refine ⟨⟨decide_eq_true (by omega), decide_eq_true (by omega)⟩, List.all_eq_true.2 fun j hj => ?_⟩
        rw [HA.out j (by simpa using hj)]
        rfl
      have HV := Lib.hid hv
      clear hv
      go_wp2_with fail
      go_ret
      exact ⟨by rw [HV.out]; rfl, rfl⟩

set_option maxRecDepth 100000 in
set_option maxHeartbeats 16000000 in
theorem refCheck_any (R : Rdg) (w : World) (hrow : IsPcs w R.pa R.pc R.ps) (hbig : R.ps.length ≤ 1000000000) (hnm : ∀ x ∈ R.ps, x.name.size ≤ maxLen) :
    Calls Try.prog 18 #[.agg #[.int .i64 R.len, .int .i64 R.st, .int .i64 R.en, .slice R.pa R.ps.length R.pc]] w fun e w' => e = .returned (.int .i64 (rdgE R)) ∧ Below w.heap.size w w' := by
  have k1 := Blk.new w 24 #[.int .i64 R.len, .int .i64 R.st, .int .i64 R.en, .slice R.pa R.ps.length R.pc]
  have hb1 : Below w.heap.size w (w.alloc (.cells #[.int .i64 R.len, .int .i64 R.st, .int .i64 R.en, .slice R.pa R.ps.length R.pc] 24)) := (Below.refl _ w).alloc (Nat.le_refl _) _
  have hrow1 := hrow.belowS hb1
  have HNM := Lib.hid hnm
  clear hrow hnm
  go_enter Try.func18, Try.ntmps18
  go_upto_region 1 with fail
  generalize w.alloc (.cells #[.int .i64 R.len, .int .i64 R.st, .int .i64 R.en, .slice R.pa R.ps.length R.pc] 24) = w1 at *
  have K1 := Lib.hid k1
  have HB1 := Lib.hid hb1
  have HROW := Lib.hid hrow1
  obtain ⟨r0, r1, r2, r3⟩ := rdg_cells (R := R) k1
  have hlr := k1.lt
  clear k1 hb1 hrow1
  go_wp2_with fail
  refine (refIn_any _ _ _ _).mono ?_
  rintro e w' ⟨rfl, rfl⟩
  cases h1 : isFromB R.len 0 2000 with
  | false =>
    have HV := Lib.hid (show rdgE R = 1 by simp [rdgE, rdgB, h1])
    clear h1
    go_wp2_with fail
    go_ret
    exact ⟨by rw [HV.out]; rfl, HB1.out⟩
  | true =>
    have H1 := Lib.hid h1
    clear h1
    go_wp2_with fail
    refine (refIn_any _ _ _ _).mono ?_
    rintro e w' ⟨rfl, rfl⟩
    cases h2 : isFromB R.st 0 9 with
    | false =>
      have HV := Lib.hid (show rdgE R = 1 by simp [rdgE, rdgB, h2])
      clear h2
      go_wp2_with fail
      go_ret
      exact ⟨by rw [HV.out]; rfl, HB1.out⟩
    | true =>
      have H2 := Lib.hid h2
      clear h2
      go_wp2_with fail
      refine (refIn_any _ _ _ _).mono ?_
      rintro e w' ⟨rfl, rfl⟩
      cases h3 : isFromB R.en 0 9 with
      | false =>
        have HV := Lib.hid (show rdgE R = 1 by simp [rdgE, rdgB, h3])
        clear h3
        go_wp2_with fail
        go_ret
        exact ⟨by rw [HV.out]; rfl, HB1.out⟩
      | true =>
        have H3 := Lib.hid h3
        clear h3
        have HRB := Lib.hid (show rdgB R = true by simp [rdgB, H1.out, H2.out, H3.out])
        clear H1 H2 H3
        by_cases hl10 : R.ps.length ≤ 10
        rotate_left
        · have HV := Lib.hid (show rdgE R = 3 by simp [rdgE, HRB.out, hl10])
          have hd : (10 : Int) < (R.ps.length : Int) := by omega
          clear hl10
          go_wp2_with fail
          go_ret
          exact ⟨by rw [HV.out]; rfl, HB1.out⟩
        have hd : ¬ (10 : Int) < (R.ps.length : Int) := by omega
        have HL := Lib.hid hl10
        clear hl10 hbig
        go_wp2_with fail
        clear hd r0 r1 r2 r3 hlr
        obtain ⟨w2, rfl⟩ : ∃ w2 : World, w2 = w1 := ⟨_, rfl⟩
        go_loopw [3, 4, 5] (fun i _ _ wr => ∃ j : Nat, j ≤ R.ps.length ∧ i = .int .i64 j ∧ (∀ k, k < j → pE R.ps k = 0) ∧ Below w2.heap.size w2 wr) (fun i _ _ _ => R.ps.length - (intOf i).toNat)
        case atStart => exact ⟨0, Nat.zero_le _, rfl, fun k h => by omega, Below.refl _ _⟩
        case round =>
          obtain ⟨j, hj, rfl, hno, g2⟩ := hrel
          have KW := Lib.hid (K1.out.belowS g2)
          have g2' := Lib.hid g2
          have HBW := Lib.hid (HB1.out.trans (g2.mono HB1.out.size))
          have HNO := Lib.hid hno
          clear hno
          obtain ⟨wo, rfl⟩ : ∃ wo : World, wo = wr := ⟨_, rfl⟩
          by_cases hlj : j < R.ps.length
          · have hq : R.ps[j]? = some R.ps[j] := List.getElem?_eq_getElem hlj
            have hmem := List.getElem_mem hlj
            obtain ⟨b, off, e, hbl, hc1, hc2, hp⟩ := (HROW.out.belowS g2).at hq
            generalize R.ps[j] = x at *
            obtain ⟨c0, c1, c2, c3, c4⟩ := hp
            have hnx := HNM.out x hmem
            have HQ := Lib.hid hq
            have HNX := Lib.hid hnx
            have HE := Lib.hid e
            obtain ⟨r0, r1, r2, r3⟩ := rdg_cells (R := R) KW.out
            rw [e] at r3
            have hlr := KW.out.lt
            have hj0 : (0 : Int) ≤ (j : Int) := Int.natCast_nonneg _
            have hj1 : (j : Int) < (R.ps.length : Int) := by omega
            clear hq hmem g2 hnx e
            go_wp2_with fail
            have kX := Blk.new wo 54 #[.string x.name, .int .i64 x.wd, .int .i64 x.lf, .int .i64 x.rt, .int .i64 x.mr]
            have hbx : Below wo.heap.size wo (wo.alloc (.cells #[.string x.name, .int .i64 x.wd, .int .i64 x.lf, .int .i64 x.rt, .int .i64 x.mr] 54)) := (Below.refl _ wo).alloc (Nat.le_refl _) _
            have kR := KW.out.belowS hbx
            have hbw := HBW.out.trans (hbx.mono HBW.out.size)
            have hrx := HROW.out.belowS (g2'.out.trans (hbx.mono g2'.out.size))
            generalize wo.alloc (.cells #[.string x.name, .int .i64 x.wd, .int .i64 x.lf, .int .i64 x.rt, .int .i64 x.mr] 54) = wx at *
            have KX := Lib.hid kX
            have KR := Lib.hid kR
            have HBX := Lib.hid hbx
            have HB2 := Lib.hid hbw
            have HRX := Lib.hid hrx
            clear hbw hrx c0 c1 c2 c3 c4 r0 r1 r2 r3 hlr
            refine (refName_any x.name _ HNX.out).mono ?_
            rintro e w3 ⟨rfl, rfl⟩
            clear kX kR hbx
            cases hN : nameB x.name with
            | false =>
              have HV := Lib.hid (show rdgE R = 5 by
                have h : pE R.ps j = 5 := by simp [pE, HQ.out, pceE, hN]
                rw [rdgE_first HRB.out HL.out HNO.out hlj (by rw [h]; decide), h])
              clear hN
              go_wp2_with fail
              go_ret
              exact ⟨by rw [HV.out]; rfl, HB2.out⟩
            | true =>
            have HN := Lib.hid hN
            clear hN
            go_wp2_with fail
            go_loopw [5] (fun s wv => ∃ m : Nat, m ≤ j ∧ s = .int .i64 m ∧ (∀ f ∈ R.ps.take m, strB f.name x.name = false) ∧ Below wx.heap.size wx wv) (fun s _ => j - (intOf s).toNat)
            case atStart => exact ⟨0, Nat.zero_le _, rfl, by simp, Below.refl _ _⟩
            case round =>
              obtain ⟨m, hm, rfl, hnf, gv⟩ := hrel
              have HNF := Lib.hid hnf
              have GV := Lib.hid gv
              have KXV := Lib.hid (KX.out.belowS gv)
              have KRV := Lib.hid (KR.out.belowS gv)
              have HBV := Lib.hid (HB2.out.trans (gv.mono HB2.out.size))
              obtain ⟨wi, rfl⟩ : ∃ wi : World, wi = wr := ⟨_, rfl⟩
              clear hnf
              by_cases hmj : m < j
              · have hml : m < R.ps.length := by omega
                have hqm : R.ps[m]? = some R.ps[m] := List.getElem?_eq_getElem hml
                obtain ⟨b', off', e', hbl', _, _, hp'⟩ := (HRX.out.belowS gv).at hqm
                rw [HE.out] at e'
                obtain ⟨rfl, rfl⟩ : b' = b ∧ off' = off := by cases e'; exact ⟨rfl, rfl⟩
                have hta : R.ps.take (m + 1) = R.ps.take m ++ [R.ps[m]] := by rw [List.take_add_one, hqm]; rfl
                generalize R.ps[m] = y at *
                have q0 := hp'.1
                have x0 := KXV.out.cell 0
                simp only [List.getElem?_toArray, List.getElem?_cons_zero] at x0
                obtain ⟨r0, r1, r2, r3⟩ := rdg_cells (R := R) KRV.out
                rw [HE.out] at r3
                have lR := KRV.out.lt
                have lX := KXV.out.lt
                have HTA := Lib.hid hta
                have hm0 : (0 : Int) ≤ (m : Int) := Int.natCast_nonneg _
                have hm1 : (m : Int) < (R.ps.length : Int) := by omega
                have hm2 : (m : Int) < (j : Int) := by omega
                clear hqm hp' e' hta gv
                go_upto_region 14 with fail
                cases hS : strB y.name x.name with
                | true =>
                  have HV := Lib.hid (show rdgE R = 6 by
                    have h : pE R.ps j = 6 := by
                      have : ((R.ps.take j).any fun f => strB f.name x.name) = true := by
                        rw [List.any_eq_true]
                        exact ⟨y, List.mem_of_mem_take (i := m + 1) (by rw [List.take_take, Nat.min_eq_left (by omega), HTA.out]; simp), hS⟩
                      simp [pE, HQ.out, pceE, HN.out, this]
                    rw [rdgE_first HRB.out HL.out HNO.out hlj (by rw [h]; decide), h])
                  have hs2 : (y.name.toList == x.name.toList) = true := hS
                  clear hS
                  go_region
                  go_wp2_with fail
                  go_ret
                  exact ⟨by rw [HV.out]; rfl, HBV.out.drew⟩
                | false =>
                  have hs2 : (y.name.toList == x.name.toList) = false := hS
                  have HS := Lib.hid hS
                  clear hS
                  go_region
                  go_wp2_with fail
                  refine ⟨⟨m + 1, by omega, by simp, ?_, GV.out.drew⟩, by simp [intOf]; omega⟩
                  rw [HTA.out]
                  intro f hf
                  rcases List.mem_append.1 hf with hf | hf
                  · exact HNF.out f hf
                  · obtain rfl := List.mem_singleton.1 hf
                    exact HS.out
              · have hme : m = j := by omega
                have HAN := Lib.hid (show ((R.ps.take j).any fun f => strB f.name x.name) = false by
                  rw [List.any_eq_false]
                  intro f hf
                  have := HNF.out f (by rw [hme]; exact hf)
                  simp [this])
                rw [hme]
                have hjj : ¬ (j : Int) < (j : Int) := by omega
                obtain ⟨x0, x1, x2, x3, x4⟩ := pce_cells (x := x) KXV.out
                have lX := KXV.out.lt
                have HBF := Lib.hid ((g2'.out.trans (HBX.out.mono g2'.out.size)).trans (GV.out.mono (Nat.le_trans g2'.out.size HBX.out.size)))
                clear hmj hm hme gv
                go_wp2_with fail
                refine (refIn_any _ _ _ _).mono ?_
                rintro e wz ⟨rfl, rfl⟩
                cases h1 : isFromB x.wd 1 2000 with
                | false =>
                  have HV := Lib.hid (show rdgE R = 1 by exact rdgE_nums HRB.out HL.out HNO.out hlj HQ.out HN.out HAN.out (by simp [pceB, h1]))
                  clear h1
                  go_wp2_with fail
                  go_ret
                  exact ⟨by rw [HV.out]; rfl, HBV.out⟩
                | true =>
                have H1 := Lib.hid h1
                clear h1
                go_wp2_with fail
                refine (refIn_any _ _ _ _).mono ?_
                rintro e wz ⟨rfl, rfl⟩
                cases h2 : isFromB x.lf 0 9 with
                | false =>
                  have HV := Lib.hid (show rdgE R = 1 by exact rdgE_nums HRB.out HL.out HNO.out hlj HQ.out HN.out HAN.out (by simp [pceB, h2]))
                  clear h2
                  go_wp2_with fail
                  go_ret
                  exact ⟨by rw [HV.out]; rfl, HBV.out⟩
                | true =>
                have H2 := Lib.hid h2
                clear h2
                go_wp2_with fail
                refine (refIn_any _ _ _ _).mono ?_
                rintro e wz ⟨rfl, rfl⟩
                cases h3 : isFromB x.rt 0 9 with
                | false =>
                  have HV := Lib.hid (show rdgE R = 1 by exact rdgE_nums HRB.out HL.out HNO.out hlj HQ.out HN.out HAN.out (by simp [pceB, h3]))
                  clear h3
                  go_wp2_with fail
                  go_ret
                  exact ⟨by rw [HV.out]; rfl, HBV.out⟩
                | true =>
                have H3 := Lib.hid h3
                clear h3
                go_wp2_with fail
                refine ⟨⟨j + 1, by omega, by simp, fun k hk => ?_, HBF.out⟩, by simp [intOf]; omega⟩
                by_cases e : k = j
                · subst e; simp [pE, HQ.out, pceE, HN.out, HAN.out, pceB, H1.out, H2.out, H3.out]
                · exact HNO.out k (by omega)
          · obtain rfl : j = R.ps.length := by omega
            obtain ⟨r0, r1, r2, r3⟩ := rdg_cells (R := R) KW.out
            have lR := KW.out.lt
            have HNP := Lib.hid HNO.out
            have hjj : ¬ (R.ps.length : Int) < (R.ps.length : Int) := by omega
            clear hlj hj g2
            go_wp2_with fail
            clear r0 r1 r2 r3 lR hjj
            go_loopw [6, 7, 8] (fun i _ _ wv => ∃ j : Nat, j ≤ R.ps.length ∧ i = .int .i64 j ∧ (∀ k, k < j → mE R.ps k = 0) ∧ Below wo.heap.size wo wv) (fun i _ _ _ => R.ps.length - (intOf i).toNat)
            case atStart => exact ⟨0, Nat.zero_le _, rfl, fun k h => by omega, Below.refl _ _⟩
            case round =>
              obtain ⟨j, hj, rfl, hno, g3⟩ := hrel
              have HNO := Lib.hid hno
              have G3 := Lib.hid g3
              have KV := Lib.hid (KW.out.belowS g3)
              have HBV := Lib.hid (HBW.out.trans (g3.mono HBW.out.size))
              have hrv := HROW.out.belowS (g2'.out.trans (g3.mono g2'.out.size))
              obtain ⟨wi, rfl⟩ : ∃ wi : World, wi = wr := ⟨_, rfl⟩
              clear hno g3
              obtain ⟨r0, r1, r2, r3⟩ := rdg_cells (R := R) KV.out
              have lR := KV.out.lt
              by_cases hlj : j < R.ps.length
              · have hq : R.ps[j]? = some R.ps[j] := List.getElem?_eq_getElem hlj
                generalize R.ps[j] = x at *
                obtain ⟨b, off, e, hbl, hc1, hc2, hp⟩ := hrv.at hq
                obtain ⟨c0, c1, c2, c3, c4⟩ := hp
                have HQ := Lib.hid hq
                have HRV := Lib.hid hrv
                have HE := Lib.hid e
                rw [e] at r3
                have hj0 : (0 : Int) ≤ (j : Int) := Int.natCast_nonneg _
                have hj1 : (j : Int) < (R.ps.length : Int) := by omega
                clear hq hrv e
                go_upto_region 22 with fail
                have kX := Blk.new wi 54 #[.string x.name, .int .i64 x.wd, .int .i64 x.lf, .int .i64 x.rt, .int .i64 x.mr]
                have hbx : Below wi.heap.size wi (wi.alloc (.cells #[.string x.name, .int .i64 x.wd, .int .i64 x.lf, .int .i64 x.rt, .int .i64 x.mr] 54)) := (Below.refl _ wi).alloc (Nat.le_refl _) _
                have kR := KV.out.belowS hbx
                have hbw := HBV.out.trans (hbx.mono HBV.out.size)
                generalize wi.alloc (.cells #[.string x.name, .int .i64 x.wd, .int .i64 x.lf, .int .i64 x.rt, .int .i64 x.mr] 54) = wx at *
                have KX := Lib.hid kX
                have KR := Lib.hid kR
                have HBX := Lib.hid hbx
                have HB2 := Lib.hid hbw
                have hrx := HRV.out.belowS HBX.out
                have HRX := Lib.hid hrx
                clear r0 r1 r2 r3 lR c0 c1 c2 c3 c4 hbl hbx hbw hrx
                obtain ⟨r0, r1, r2, r3⟩ := rdg_cells (R := R) kR
                rw [HE.out] at r3
                obtain ⟨x0, x1, x2, x3, x4⟩ := pce_cells (x := x) kX
                have lR := kR.lt
                have lX := kX.lt
                clear kX kR
                have hw1 : IntKind.i64.wrap ((R.ps.length : Int) - 1) = (R.ps.length : Int) - 1 := by have := HL.out; rw [IntKind.wrap_i64]; omega
                go_wp2_with fail
                refine (refIn_any _ _ _ _).mono ?_
                rintro e wz ⟨rfl, rfl⟩
                cases hM : isFromB x.mr 0 ((R.ps.length : Int) - 1) with
                | false =>
                  have HV := Lib.hid (show rdgE R = 7 by
                    have h : mE R.ps j = 7 := by simp [mE, HQ.out, mirE, hM]
                    rw [rdgE_second HRB.out HL.out HNP.out HNO.out hlj (by rw [h]; decide), h])
                  clear hM
                  go_wp2_with fail
                  go_ret
                  exact ⟨by rw [HV.out]; rfl, HB2.out⟩
                | true =>
                  obtain ⟨hm1, hm2⟩ := isFromB_iff.1 hM
                  obtain ⟨m, hm⟩ : ∃ m : Nat, x.mr = (m : Int) := ⟨x.mr.toNat, by omega⟩
                  have hml : m < R.ps.length := by omega
                  have hqy : R.ps[m]? = some R.ps[m] := List.getElem?_eq_getElem hml
                  obtain ⟨b', off', e', hbl', _, _, hp'⟩ := HRX.out.at hqy
                  generalize R.ps[m] = y at *
                  rw [HE.out] at e'
                  obtain ⟨rfl, rfl⟩ : b' = b ∧ off' = off := by cases e'; exact ⟨rfl, rfl⟩
                  obtain ⟨q0, q1, q2, q3, q4⟩ := hp'
                  have HQY := Lib.hid hqy
                  have HMR := Lib.hid hm
                  have HMB := Lib.hid (show isFromB (m : Int) 0 ((R.ps.length : Int) - 1) = true by rw [← hm]; exact hM)
                  have g0 : (0 : Int) ≤ (m : Int) := by omega
                  have g1 : (m : Int) < (R.ps.length : Int) := by omega
                  rw [hm] at x4 ⊢
                  clear hM hm1 hm2 hm hqy e'
                  go_upto_region 25 with fail
                  have kY := Blk.new wx 54 #[.string y.name, .int .i64 y.wd, .int .i64 y.lf, .int .i64 y.rt, .int .i64 y.mr]
                  have hby : Below wx.heap.size wx (wx.alloc (.cells #[.string y.name, .int .i64 y.wd, .int .i64 y.lf, .int .i64 y.rt, .int .i64 y.mr] 54)) := (Below.refl _ wx).alloc (Nat.le_refl _) _
                  have kX := KX.out.belowS hby
                  have hbw := HB2.out.trans (hby.mono HB2.out.size)
                  generalize wx.alloc (.cells #[.string y.name, .int .i64 y.wd, .int .i64 y.lf, .int .i64 y.rt, .int .i64 y.mr] 54) = wy at *
                  have HBY := Lib.hid hbw
                  have HYB := Lib.hid hby
                  clear r0 r1 r2 r3 lR x0 x1 x2 x3 x4 lX q0 q1 q2 q3 q4 hbl' hby hbw
                  obtain ⟨y0, y1, y2, y3, y4⟩ := pce_cells (x := y) kY
                  obtain ⟨x0, x1, x2, x3, x4⟩ := pce_cells (x := x) kX
                  have lX := kX.lt
                  have lY := kY.lt
                  clear kX kY
                  have hbad : areM (j : Int) x y = false → rdgE R = 10 := fun hb => by
                    have h : mE R.ps j = 10 := by simp [mE, HQ.out, mirE, HMB.out, HMR.out, HQY.out, hb]
                    rw [rdgE_second HRB.out HL.out HNP.out HNO.out hlj (by rw [h]; decide), h]
                  have HBAD := Lib.hid hbad
                  clear hbad
                  by_cases m1 : y.mr = (j : Int)
                  rotate_left
                  · have q : (y.mr != (j : Int)) = true := by simpa using m1
                    have HV := Lib.hid (HBAD.out (by simp [areM, m1]))
                    clear m1
                    go_wp2_with fail
                    go_ret
                    exact ⟨by rw [HV.out]; rfl, HBY.out⟩
                  have M1 := Lib.hid m1
                  have z1 : (y.mr != (j : Int)) = false := by simpa using m1
                  clear m1
                  by_cases m2 : y.wd = x.wd
                  rotate_left
                  · have q : (y.wd != x.wd) = true := by simpa using m2
                    have HV := Lib.hid (HBAD.out (by simp [areM, m2]))
                    clear m2
                    go_wp2_with fail
                    go_ret
                    exact ⟨by rw [HV.out]; rfl, HBY.out⟩
                  have M2 := Lib.hid m2
                  have z2 : (y.wd != x.wd) = false := by simpa using m2
                  clear m2
                  by_cases m3 : y.lf = x.rt
                  rotate_left
                  · have q : (y.lf != x.rt) = true := by simpa using m3
                    have HV := Lib.hid (HBAD.out (by simp [areM, m3]))
                    clear m3
                    go_wp2_with fail
                    go_ret
                    exact ⟨by rw [HV.out]; rfl, HBY.out⟩
                  have M3 := Lib.hid m3
                  have z3 : (y.lf != x.rt) = false := by simpa using m3
                  clear m3
                  by_cases m4 : y.rt = x.lf
                  rotate_left
                  · have q : (y.rt != x.lf) = true := by simpa using m4
                    have HV := Lib.hid (HBAD.out (by simp [areM, m4]))
                    clear m4
                    go_wp2_with fail
                    go_ret
                    exact ⟨by rw [HV.out]; rfl, HBY.out⟩
                  have M4 := Lib.hid m4
                  have z4 : (y.rt != x.lf) = false := by simpa using m4
                  clear m4
                  have HBF := Lib.hid ((G3.out.trans (HBX.out.mono G3.out.size)).trans (HYB.out.mono (Nat.le_trans G3.out.size HBX.out.size)))
                  go_wp2_with fail
                  refine ⟨⟨j + 1, by omega, by simp, fun k hk => ?_, HBF.out⟩, by simp [intOf]; omega⟩
                  by_cases e : k = j
                  · subst e
                    have ha : areM (k : Int) x y = true := by simp [areM, M1.out, M2.out, M3.out, M4.out]
                    simp [mE, HQ.out, mirE, HMB.out, HMR.out, HQY.out, ha]
                  · exact HNO.out k (by omega)
              · obtain rfl : j = R.ps.length := by omega
                have hjj : ¬ (R.ps.length : Int) < (R.ps.length : Int) := by omega
                have HV := Lib.hid (rdgE_ok HRB.out HL.out HNP.out HNO.out)
                clear hlj hj hrv
                go_wp2_with fail
                go_ret
                exact ⟨by rw [HV.out]; rfl, HBV.out⟩
end Go.Proofs.Ytmcmhgjlpffcnaa
