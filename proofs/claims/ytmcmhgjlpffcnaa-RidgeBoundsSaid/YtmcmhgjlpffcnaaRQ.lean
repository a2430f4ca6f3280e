/- CheckRods of the specification: the same first error. No condition but the bounds of what is given. -/
import Derived.Test.YtmcmhgjlpffcnaaQM
import Derived.Test.YtmcmhgjlpffcnaaQN
set_option linter.unusedSimpArgs false
namespace Go.Proofs.Ytmcmhgjlpffcnaa
open Go.RowKit

set_option maxRecDepth 100000 in
set_option maxHeartbeats 16000000 in
theorem refCheckRods_any (r : Rds) (w : World) (hrow : IsCts w r.ca r.cc r.cs) (hbig : r.cs.length ≤ 1000000000) :
    Calls Try.prog 34 #[.agg #[.int .i64 r.stock, .int .i64 r.kerf, .slice r.ca r.cs.length r.cc]] w fun e w' => e = .returned (.int .i64 (rodsE r)) ∧ Below w.heap.size w w' := by
  have k1 := Blk.new w 43 #[.int .i64 r.stock, .int .i64 r.kerf, .slice r.ca r.cs.length r.cc]
  have hb1 : Below w.heap.size w (w.alloc (.cells #[.int .i64 r.stock, .int .i64 r.kerf, .slice r.ca r.cs.length r.cc] 43)) := (Below.refl _ w).alloc (Nat.le_refl _) _
  have hrow1 := hrow.belowS hb1
  clear hrow
  go_enter Try.func34, Try.ntmps34
  go_upto_region 1 with fail
  generalize w.alloc (.cells #[.int .i64 r.stock, .int .i64 r.kerf, .slice r.ca r.cs.length r.cc] 43) = w1 at *
  have K1 := Lib.hid k1
  have HB1 := Lib.hid hb1
  have HROW := Lib.hid hrow1
  obtain ⟨r0, r1, r2⟩ := rds_cells (r := r) k1
  have hlr := k1.lt
  clear k1 hb1 hrow1
  go_wp2_with fail
  refine (refIn_any _ _ _ _).mono ?_
  rintro e w' ⟨rfl, rfl⟩
  cases h1 : isFromB r.stock 1 100000 with
  | false =>
    have HV := Lib.hid (show rodsE r = 1 by simp [rodsE, rodB, h1])
    clear h1
    go_wp2_with fail
    go_ret
    exact ⟨by rw [HV.out]; rfl, HB1.out⟩
  | true =>
  have H1 := Lib.hid h1
  clear h1
  go_wp2_with fail
  refine (refIn_any _ _ _ _).mono ?_
  rintro e w' ⟨rfl, rfl⟩
  cases h2 : isFromB r.kerf 0 100000 with
  | false =>
    have HV := Lib.hid (show rodsE r = 1 by simp [rodsE, rodB, h2])
    clear h2
    go_wp2_with fail
    go_ret
    exact ⟨by rw [HV.out]; rfl, HB1.out⟩
  | true =>
  have HRB := Lib.hid (show rodB r = true by simp [rodB, H1.out, h2])
  clear h2
  by_cases hl8 : r.cs.length ≤ 8
  rotate_left
  · have HV := Lib.hid (show rodsE r = 3 by simp [rodsE, HRB.out, hl8])
    have hd : (8 : Int) < (r.cs.length : Int) := by omega
    clear hl8
    go_wp2_with fail
    go_ret
    exact ⟨by rw [HV.out]; rfl, HB1.out⟩
  have hd : ¬ (8 : Int) < (r.cs.length : Int) := by omega
  have HL := Lib.hid hl8
  clear hbig
  go_wp2_with fail
  clear hd r0 r1 r2 hlr
  obtain ⟨w2, rfl⟩ : ∃ w2 : World, w2 = w1 := ⟨_, rfl⟩
  go_loopw [3, 4] (fun s i wr => ∃ j : Nat, j ≤ r.cs.length ∧ i = .int .i64 j ∧ s = .int .i64 (manyM (r.cs.take j)) ∧ (∀ x ∈ r.cs.take j, cutB x = true) ∧ Below w2.heap.size w2 wr) (fun _ i _ => r.cs.length - (intOf i).toNat)
  case atStart => exact ⟨0, Nat.zero_le _, rfl, by simp [manyM], by simp, Below.refl _ _⟩
  case round =>
    obtain ⟨j, hj, rfl, rfl, hno, g2⟩ := hrel
    have KW := Lib.hid (K1.out.belowS g2)
    have HBW := Lib.hid (HB1.out.trans (g2.mono HB1.out.size))
    have HG := Lib.hid g2
    have HNO := Lib.hid hno
    obtain ⟨wo, rfl⟩ : ∃ wo : World, wo = wr := ⟨_, rfl⟩
    have hj0 : (0 : Int) ≤ (j : Int) := Int.natCast_nonneg _
    obtain ⟨r0, r1, r2⟩ := rds_cells (r := r) KW.out
    have hlr := KW.out.lt
    by_cases hlj : j < r.cs.length
    · have hq : r.cs[j]? = some r.cs[j] := List.getElem?_eq_getElem hlj
      obtain ⟨b, off, e, hbl, hc1, hc2, hp⟩ := (HROW.out.belowS g2).at hq
      have htk : r.cs.take (j + 1) = r.cs.take j ++ [r.cs[j]] := by rw [List.take_add_one, hq]; rfl
      have hmem := List.mem_of_getElem? hq
      have hsb := sum_bd hno
      rw [List.length_take] at hsb
      generalize r.cs[j] = x at *
      obtain ⟨c0, c1⟩ := hp
      have HT := Lib.hid htk
      have HMEM := Lib.hid hmem
      have hj1 : (j : Int) < (r.cs.length : Int) := by omega
      obtain ⟨M, hM⟩ : ∃ M, manyM (r.cs.take j) = M := ⟨_, rfl⟩
      have HM := Lib.hid hM
      rw [hM] at hsb ⊢
      have HE := Lib.hid e
      rw [e] at r2
      clear hq hno g2 htk hmem hM e
      go_wp2_with fail
      refine (refIn_any _ _ _ _).mono ?_
      rintro e w' ⟨rfl, rfl⟩
      cases h3 : isFromB x.ln 1 100000 with
      | false =>
        have HV := Lib.hid (show rodsE r = 1 by
          have : r.cs.all cutB = false := by
            rw [List.all_eq_false]
            exact ⟨x, HMEM.out, by simp [cutB, h3]⟩
          simp [rodsE, HRB.out, HL.out, this])
        clear h3
        go_wp2_with fail
        go_ret
        exact ⟨by rw [HV.out]; rfl, HBW.out⟩
      | true =>
      have H3 := Lib.hid h3
      clear h3
      go_wp2_with fail
      refine (refIn_any _ _ _ _).mono ?_
      rintro e w' ⟨rfl, rfl⟩
      cases h4 : isFromB x.mn 0 12 with
      | false =>
        have HV := Lib.hid (show rodsE r = 1 by
          have : r.cs.all cutB = false := by
            rw [List.all_eq_false]
            exact ⟨x, HMEM.out, by simp [cutB, h4]⟩
          simp [rodsE, HRB.out, HL.out, this])
        clear h4
        go_wp2_with fail
        go_ret
        exact ⟨by rw [HV.out]; rfl, HBW.out⟩
      | true =>
      have H4 := Lib.hid (show cutB x = true by simp [cutB, H3.out, h4])
      have hx := isFromB_iff.1 h4
      have ew : IntKind.i64.wrap (M + x.mn) = M + x.mn := by rw [IntKind.wrap_i64]; omega
      clear h4 hx
      go_wp2_with fail
      refine ⟨⟨j + 1, by omega, by simp, by rw [HT.out, many_snoc, HM.out], ?_, HG.out⟩, by simp [intOf]; omega⟩
      rw [HT.out]
      intro y hy
      rcases List.mem_append.1 hy with hy | hy
      · exact HNO.out y hy
      · rw [List.mem_singleton.1 hy]; exact H4.out
    · obtain rfl : j = r.cs.length := by omega
      have hjj : ¬ (r.cs.length : Int) < (r.cs.length : Int) := by omega
      rw [List.take_of_length_le (Nat.le_refl _)] at hno ⊢
      have HALL := Lib.hid (show r.cs.all cutB = true from List.all_eq_true.2 hno)
      have hsb := sum_bd hno
      by_cases hm : manyM r.cs ≤ 12
      rotate_left
      · have HV := Lib.hid (show rodsE r = 3 by simp [rodsE, HRB.out, HL.out, HALL.out, hm])
        have hd : (12 : Int) < manyM r.cs := by omega
        clear hno g2 hm hsb hlj hj HNO
        go_wp2_with fail
        go_ret
        exact ⟨by rw [HV.out]; rfl, HBW.out⟩
      have hd : ¬ (12 : Int) < manyM r.cs := by omega
      have HMM := Lib.hid hm
      clear hno g2 hm hsb hlj hj HNO
      go_wp2_with fail
      go_loopw [5] (fun i wv => ∃ k : Nat, k ≤ r.cs.length ∧ i = .int .i64 k ∧ (∀ x ∈ r.cs.take k, x.ln ≤ r.stock) ∧ Below w.heap.size w wv ∧ Below w2.heap.size w2 wv) (fun i _ => r.cs.length - (intOf i).toNat)
      case atStart => exact ⟨0, Nat.zero_le _, rfl, by simp, HBW.out, HG.out⟩
      case round =>
        clear r0 r1 r2 hlr hd hjj
        obtain ⟨k, hk, rfl, hno, hb, g3⟩ := hrel
        have HB := Lib.hid hb
        have HG3 := Lib.hid g3
        have HNO := Lib.hid hno
        obtain ⟨wi, rfl⟩ : ∃ wi : World, wi = wr := ⟨_, rfl⟩
        have hk0 : (0 : Int) ≤ (k : Int) := Int.natCast_nonneg _
        obtain ⟨r0, r1, r2⟩ := rds_cells (r := r) (K1.out.belowS g3)
        have hlr := (K1.out.belowS g3).lt
        by_cases hlk : k < r.cs.length
        · have hq : r.cs[k]? = some r.cs[k] := List.getElem?_eq_getElem hlk
          obtain ⟨b, off, e, hbl, hc1, hc2, hp⟩ := (HROW.out.belowS g3).at hq
          have htk : r.cs.take (k + 1) = r.cs.take k ++ [r.cs[k]] := by rw [List.take_add_one, hq]; rfl
          have hmem := List.mem_of_getElem? hq
          generalize r.cs[k] = x at *
          obtain ⟨c0, c1⟩ := hp
          have HT := Lib.hid htk
          have HMEM := Lib.hid hmem
          have hk1 : (k : Int) < (r.cs.length : Int) := by omega
          have HE := Lib.hid e
          rw [e] at r2
          clear hq hno g3 hb htk hmem e
          by_cases hx : x.ln ≤ r.stock
          · have hx2 : ¬ r.stock < x.ln := by omega
            have HX := Lib.hid hx
            clear hx
            go_upto_region 17 with fail
            go_region
            all_goals (go_wp2_with fail)
            all_goals refine ⟨⟨k + 1, by omega, by simp, ?_, HB.out.drew, HG3.out.drew⟩, by simp [intOf]; omega⟩
            all_goals
              rw [HT.out]
              intro y hy
              rcases List.mem_append.1 hy with hy | hy
              · exact HNO.out y hy
              · rw [List.mem_singleton.1 hy]; exact HX.out
          · have hx2 : r.stock < x.ln := by omega
            have HV := Lib.hid (show rodsE r = 9 by
              have : (r.cs.all fun x => decide (x.ln ≤ r.stock)) = false := by
                rw [List.all_eq_false]
                exact ⟨x, HMEM.out, by simp; omega⟩
              simp only [rodsE, HRB.out, HL.out, HALL.out, HMM.out, this]
              rfl)
            clear hx
            go_upto_region 17 with fail
            go_region
            all_goals (go_wp2_with fail)
            all_goals go_ret
            all_goals exact ⟨by rw [HV.out]; rfl, HB.out.drew⟩
        · obtain rfl : k = r.cs.length := by omega
          have hkk : ¬ (r.cs.length : Int) < (r.cs.length : Int) := by omega
          rw [List.take_of_length_le (Nat.le_refl _)] at hno
          have HV := Lib.hid (show rodsE r = 0 by
            have : (r.cs.all fun x => decide (x.ln ≤ r.stock)) = true := by
              rw [List.all_eq_true]
              intro x hx
              exact decide_eq_true (hno x hx)
            simp only [rodsE, HRB.out, HL.out, HALL.out, HMM.out, this]
            rfl)
          clear hno g3 hb hlk hk HNO
          go_wp2_with fail
          go_ret
          exact ⟨by rw [HV.out]; rfl, HB.out⟩
end Go.Proofs.Ytmcmhgjlpffcnaa
