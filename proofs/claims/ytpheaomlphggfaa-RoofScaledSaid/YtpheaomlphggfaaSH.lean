/- RoofScaled: the law's walk: it returns true. -/
import Derived.Test.YtpheaomlphggfaaSG
import Derived.Deep.DeepCutAuto
import Derived.Deep.QuietTactic
import Derived.BigQuiet
namespace Go.Proofs.Ytpheaomlphggfaa
open Go.RowKit

theorem IsWys.below {w w' : World} {v : Value} {l : List WyR} (h : IsWys w v l) (hb : Below w.heap.size w w') : IsWys w' v l := by
  rcases h with h | ⟨g, cap, e, h2, h3, h4, h5⟩
  · exact .inl h
  · exact .inr ⟨g, cap, e, Nat.lt_of_lt_of_le h2 hb.size, h3, h4, fun j x hj => (h5 j x hj).below hb h2⟩
theorem IsInts.below {w w' : World} {v : Value} {l : List Int} (h : IsInts w v l) (hb : Below w.heap.size w w') : IsInts w' v l := by
  rcases h with h | ⟨g, off, cap, e, h2, h3, h4, h5⟩
  · exact .inl h
  · exact .inr ⟨g, off, cap, e, Nat.lt_of_lt_of_le h2 hb.size, h3, h4, fun j x hj => (hb.cell (p := ⟨g, _, none⟩) h2).trans (h5 j x hj)⟩

theorem heightS_is (R : Roo) (hE : checkE R = 0) (i : Nat) (F : Fac) (hf : R.fs[i]? = some F) (p : Pnt) (hp : p.ok) (w : World) (hR : IsRoof w R) :
    Calls Try.prog 23 #[.agg #[.slice R.fa R.fs.length R.fc, .slice R.oa R.os.length R.oc], .int .i64 i, .agg #[.int .i64 p.x, .int .i64 p.y]] w fun e w' => e = .returned (.tuple #[.agg #[.int .i64 (hgtN F p), .int .i64 (hgtD F p)], .int .i64 0]) ∧ Below w.heap.size w w' := by
  refine (height_any R i p w hR).mono ?_
  rintro e w' ⟨hb, h⟩
  have hil := (List.getElem?_eq_some_iff.1 hf).1
  rw [if_neg (by simpa using hE), if_neg (by unfold hasB; simp; omega), if_neg (by rw [Pnt.okB_iff.2 hp]; simp)] at h
  obtain ⟨G, hG, rfl⟩ := h
  rw [Int.toNat_natCast, hf] at hG
  cases hG
  exact ⟨rfl, hb⟩
theorem areaF_bd {R : Roo} (hE : checkE R = 0) (i : Nat) : -200000000000 ≤ areaF R.fs R.os i ∧ areaF R.fs R.os i ≤ 200000000000 := by
  have h1 : -100000000000 ≤ baseA R.fs i ∧ baseA R.fs i ≤ 100000000000 := baseA_bd (fun f hf => by
    obtain ⟨n, hn⟩ := List.getElem?_of_mem hf
    exact ⟨((checkE_faces hE).2 f hf).1, by have := (face_len3 hE hn).2; omega⟩) i
  obtain ⟨h2, h3⟩ := opens_fine hE
  have h4 := opS_bd h3 i
  unfold baseA at h1
  unfold areaF
  omega

set_option maxRecDepth 100000 in
set_option maxHeartbeats 16000000 in
theorem scaledLaw_any (R : Roo) (k : Int) (p : Pnt) (w : World) (hR : IsRoof w R) :
    Calls Try.prog 10 #[.agg #[.slice R.fa R.fs.length R.fc, .slice R.oa R.os.length R.oc], .int .i64 k, .agg #[.int .i64 p.x, .int .i64 p.y]] w fun e w' => e = .returned (.bool true) ∧ Below w.heap.size w w' := by
  have hgreat := great_any R
  have hcheck := check_any R
  have hsc := scaled_any R k
  have hedges := edges_is R
  have hways := ways_any R
  have hareas := areas_any R
  obtain ⟨fa, fc, fs, oa, oc, os⟩ := R
  simp only [] at hgreat hcheck hsc hedges hways hareas
  have hB : Below w.heap.size w ((w.alloc (.cells #[.slice fa fs.length fc, .slice oa os.length oc] 25)).alloc (.cells #[.int .i64 p.x, .int .i64 p.y] 27)) := ((Below.refl _ _).alloc (Nat.le_refl _) _).alloc (by simp) _
  have kR := (Blk.new w 25 #[.slice fa fs.length fc, .slice oa os.length oc]).alloc (.cells #[.int .i64 p.x, .int .i64 p.y] 27)
  have kP := Blk.new (w.alloc (.cells #[.slice fa fs.length fc, .slice oa os.length oc] 25)) 27 #[.int .i64 p.x, .int .i64 p.y]
  simp only [World.size_alloc] at kP
  have HG := Lib.hid hgreat
  have HCK := Lib.hid hcheck
  have HSC := Lib.hid hsc
  have HED := Lib.hid hedges
  have HWY := Lib.hid hways
  have HAR := Lib.hid hareas
  have HR := Lib.hid hR
  clear hR hgreat hcheck hsc hedges hways hareas
  go_enter Try.func10, Try.ntmps10
  go_wp2_with fail
  refine (HG.out _ (HR.out.below hB)).mono ?_
  rintro e w1 ⟨hb1, gb, rfl, hgb⟩
  have hB1 := hB.trans (hb1.mono hB.size)
  have kR1 := kR.belowS hb1
  have kP1 := kP.belowS hb1
  clear kR kP hB hb1
  have c0 := kR1.cell 0
  have c1 := kR1.cell 1
  simp only [List.getElem?_toArray, List.getElem?_cons_zero, List.getElem?_cons_succ] at c0 c1
  cases gb with
  | true =>
    clear hgb
    go_wp2_with fail
    refine (lives_any _).mono ?_
    rintro e wl ⟨rfl, hbl⟩
    go_wp2_with fail
    go_ret
    exact ⟨rfl, hB1.trans (hbl.mono hB1.size)⟩
  | false =>
    obtain ⟨hfl, _, _⟩ := hgb rfl
    simp only [] at hfl
    clear hgb
    by_cases hk2 : k < 2
    · skip
      go_wp2_with fail
      refine (lives_any _).mono ?_
      rintro e wl ⟨rfl, hbl⟩
      go_wp2_with fail
      go_ret
      exact ⟨rfl, hB1.trans (hbl.mono hB1.size)⟩
    · by_cases hk5 : 5 < k
      · skip
        go_wp2_with fail
        refine (lives_any _).mono ?_
        rintro e wl ⟨rfl, hbl⟩
        go_wp2_with fail
        go_ret
        exact ⟨rfl, hB1.trans (hbl.mono hB1.size)⟩
      · go_wp2_with fail
        refine (HCK.out _ (HR.out.below hB1)).mono ?_
        rintro e w2 ⟨rfl, hb2⟩
        have hB2 := hB1.trans (hb2.mono hB1.size)
        have kR2 := kR1.belowS hb2
        have kP2 := kP1.belowS hb2
        clear kR1 kP1 hB1 hb2 c0 c1
        have c0 := kR2.cell 0
        have c1 := kR2.cell 1
        simp only [List.getElem?_toArray, List.getElem?_cons_zero, List.getElem?_cons_succ] at c0 c1
        generalize hE : checkE ⟨fa, fc, fs, oa, oc, os⟩ = E
        have HE := Lib.hid hE
        clear hE
        by_cases h0 : E = 0
        · subst h0
          go_wp2_with fail
          refine (HSC.out (by omega) (by omega) HE.out _ (HR.out.below hB2)).mono ?_
          rintro e w3 ⟨hb3, v, u, b, rfl, ⟨va, vn, vc, rfl⟩, ⟨ua, un, uc, rfl⟩, hif⟩
          have hB3 := hB2.trans (hb3.mono hB2.size)
          have kR3 := kR2.belowS hb3
          have kP3 := kP2.belowS hb3
          clear kR2 kP2 hB2 hb3 c0 c1
          have c0 := kR3.cell 0
          have c1 := kR3.cell 1
          simp only [List.getElem?_toArray, List.getElem?_cons_zero, List.getElem?_cons_succ] at c0 c1
          cases b with
          | false =>
            clear hif
            have hB4 := hB3.alloc hB3.size (.cells #[.slice va vn vc, .slice ua un uc] 25)
            go_wp2_with fail
            refine (lives_any _).mono ?_
            rintro e wl ⟨rfl, hbl⟩
            go_wp2_with fail
            go_ret
            exact ⟨rfl, hB4.trans (hbl.mono hB4.size)⟩
          | true =>
            obtain ⟨R', hv, hu, hR', hfs, hos, hfit⟩ := hif rfl
            have hE' := checkE_sc (k := k) (by omega) hfs hos HE.out hfit
            have hok := checkE_ok HE.out
            have hok' := checkE_ok hE'
            have eqE : allR R'.fs R'.fs.length = allR fs fs.length := by rw [hfs.1]; exact allR_sc (by omega) hfs hok hok' _ (Nat.le_refl _)
            have eqW : waysL R'.fs (allR R'.fs R'.fs.length) = waysL fs (allR fs fs.length) := waysL_sc (by omega) hfs hok hok'
            have hle : (allR fs fs.length).length ≤ 1000000 := by
              have h12 : ∀ f ∈ fs, f.cs.length ≤ 1000 := fun f hf => by
                obtain ⟨i, hi⟩ := List.getElem?_of_mem hf
                have := (face_len3 HE.out hi).2
                omega
              have := allR_len h12 fs.length
              omega
            have harea : ∀ i, areaF R'.fs R'.os i = k * k * areaF fs os i := fun i => areaF_sc hfs hos i
            have habd := areaF_bd HE.out
            have hhgt := heightS_is _ HE.out
            have hhgt' := heightS_is R' hE'
            have hedges' := edges_is R'
            have hways' := ways_any R'
            have hareas' := areas_any R'
            obtain ⟨fa', fc', fs', oa', oc', os'⟩ := R'
            obtain ⟨rfl, rfl, rfl⟩ := slice_inj hv
            obtain ⟨rfl, rfl, rfl⟩ := slice_inj hu
            simp only [] at hfs hos hfit hedges' hways' hareas' eqE eqW hok' harea habd hhgt hhgt'
            have HARE := Lib.hid harea
            have HABD := Lib.hid habd
            have HHG := Lib.hid hhgt
            have HHG' := Lib.hid hhgt'
            have HOK' := Lib.hid hok'
            have HEE := Lib.hid eqE
            have HWW := Lib.hid eqW
            have HLE := Lib.hid hle
            have HOK := Lib.hid hok
            have HR' := Lib.hid hR'
            have HE' := Lib.hid hE'
            have HFS := Lib.hid hfs
            have HOS := Lib.hid hos
            have HFIT := Lib.hid hfit
            have HED' := Lib.hid hedges'
            have HWY' := Lib.hid hways'
            have HAR' := Lib.hid hareas'
            clear hif hv hu hR' hfs hos hfit hE' hedges' hways' hareas' eqE eqW hle hok hok' harea habd hhgt hhgt'
            have hO4 : Below w3.heap.size w3 (w3.alloc (.cells #[.slice va fs'.length vc, .slice ua os'.length uc] 25)) := (Below.refl _ _).alloc (Nat.le_refl _) _
            have hB4 := hB3.alloc hB3.size (.cells #[.slice va fs'.length vc, .slice ua os'.length uc] 25)
            have kR4 := kR3.alloc (.cells #[.slice va fs'.length vc, .slice ua os'.length uc] 25)
            have kP4 := kP3.alloc (.cells #[.slice va fs'.length vc, .slice ua os'.length uc] 25)
            have kO4 := Blk.new w3 25 #[.slice va fs'.length vc, .slice ua os'.length uc]
            have hC4 := hO4
            have lR3 := kR3.lt
            have lP3 := kP3.lt
            go_wp2_with fail
            refine (HED.out _ (HR.out.below hB4)).mono ?_
            rintro e w5 ⟨hb5, hif⟩
            rw [if_neg (by simpa using HE.out)] at hif
            obtain ⟨v, rfl, heds⟩ := hif
            obtain ⟨a1, cap1, rfl, _, _, _⟩ := heds.shape
            have HL1 := Lib.hid heds
            clear heds
            have hB5 := hB4.trans (hb5.mono hB4.size)
            have hC5 := hC4.trans (hb5.mono hC4.size)
            have kR5 := kR4.belowS hb5
            have kP5 := kP4.belowS hb5
            have kO5 := kO4.belowS hb5
            clear kR4 kP4 kO4 hB4 hC4 hb5 hO4 kR3 kP3 hB3 c0 c1 lR3 lP3
            have c0 := kR5.cell 0
            have c1 := kR5.cell 1
            have e0 := kO5.cell 0
            have e1 := kO5.cell 1
            have lR5 := kR5.lt
            have lP5 := kP5.lt
            have lO5 := kO5.lt
            simp only [List.getElem?_toArray, List.getElem?_cons_zero, List.getElem?_cons_succ] at c0 c1 e0 e1
            go_wp2_with fail
            refine (HED'.out _ (HR'.out.below hC5)).mono ?_
            rintro e w6 ⟨hb6, hif⟩
            rw [if_neg (by simpa using HE'.out)] at hif
            obtain ⟨v, rfl, heds⟩ := hif
            rw [HEE.out] at heds
            obtain ⟨a2, cap2, rfl, _, _, _⟩ := heds.shape
            have HL2 := Lib.hid heds
            have hl1 := HL1.out.below hb6
            have HL1 := Lib.hid hl1
            clear heds hl1
            have hB6 := hB5.trans (hb6.mono hB5.size)
            have hC6 := hC5.trans (hb6.mono hC5.size)
            have kR6 := kR5.belowS hb6
            have kP6 := kP5.belowS hb6
            have kO6 := kO5.belowS hb6
            clear kR5 kP5 kO5 hB5 hC5 hb6 c0 c1 e0 e1 lR5 lP5 lO5
            have c0 := kR6.cell 0
            have c1 := kR6.cell 1
            have e0 := kO6.cell 0
            have e1 := kO6.cell 1
            have lR6 := kR6.lt
            have lP6 := kP6.lt
            have lO6 := kO6.lt
            simp only [List.getElem?_toArray, List.getElem?_cons_zero, List.getElem?_cons_succ] at c0 c1 e0 e1
            go_wp2_with fail
            refine (sameEdges_any a1 a2 cap1 cap2 _ _ HL1.out HL2.out HLE.out).mono ?_
            rintro e w7 ⟨rfl, hb7⟩
            have hB7 := hB6.trans (hb7.mono hB6.size)
            have hC7 := hC6.trans (hb7.mono hC6.size)
            have kR7 := kR6.belowS hb7
            have kP7 := kP6.belowS hb7
            have kO7 := kO6.belowS hb7
            clear kR6 kP6 kO6 hB6 hC6 hb7 c0 c1 e0 e1 lR6 lP6 lO6
            have c0 := kR7.cell 0
            have c1 := kR7.cell 1
            have e0 := kO7.cell 0
            have e1 := kO7.cell 1
            have lR7 := kR7.lt
            have lP7 := kP7.lt
            have lO7 := kO7.lt
            simp only [List.getElem?_toArray, List.getElem?_cons_zero, List.getElem?_cons_succ] at c0 c1 e0 e1
            clear HL1 HL2
            go_wp2_with fail
            refine (HWY.out _ (HR.out.below hB7)).mono ?_
            rintro e w8 ⟨hb8, hif⟩
            rw [if_neg (by simpa using HE.out)] at hif
            obtain ⟨v, rfl, heds⟩ := hif
            obtain ⟨a3, cap3, rfl, _, _, _⟩ := heds.shape
            have HL1 := Lib.hid heds
            clear heds
            have hB8 := hB7.trans (hb8.mono hB7.size)
            have hC8 := hC7.trans (hb8.mono hC7.size)
            have kR8 := kR7.belowS hb8
            have kP8 := kP7.belowS hb8
            have kO8 := kO7.belowS hb8
            clear kR7 kP7 kO7 hB7 hC7 hb8 c0 c1 e0 e1 lR7 lP7 lO7
            have c0 := kR8.cell 0
            have c1 := kR8.cell 1
            have e0 := kO8.cell 0
            have e1 := kO8.cell 1
            have lR8 := kR8.lt
            have lP8 := kP8.lt
            have lO8 := kO8.lt
            simp only [List.getElem?_toArray, List.getElem?_cons_zero, List.getElem?_cons_succ] at c0 c1 e0 e1
            go_wp2_with fail
            refine (HWY'.out _ (HR'.out.below hC8)).mono ?_
            rintro e w9 ⟨hb9, hif⟩
            rw [if_neg (by simpa using HE'.out)] at hif
            obtain ⟨v, rfl, heds⟩ := hif
            rw [HWW.out] at heds
            obtain ⟨a4, cap4, rfl, _, _, _⟩ := heds.shape
            have HL2 := Lib.hid heds
            have hl1 := HL1.out.below hb9
            have HL1 := Lib.hid hl1
            clear heds hl1
            have hB9 := hB8.trans (hb9.mono hB8.size)
            have hC9 := hC8.trans (hb9.mono hC8.size)
            have kR9 := kR8.belowS hb9
            have kP9 := kP8.belowS hb9
            have kO9 := kO8.belowS hb9
            clear kR8 kP8 kO8 hB8 hC8 hb9 c0 c1 e0 e1 lR8 lP8 lO8
            have c0 := kR9.cell 0
            have c1 := kR9.cell 1
            have e0 := kO9.cell 0
            have e1 := kO9.cell 1
            have lR9 := kR9.lt
            have lP9 := kP9.lt
            have lO9 := kO9.lt
            simp only [List.getElem?_toArray, List.getElem?_cons_zero, List.getElem?_cons_succ] at c0 c1 e0 e1
            have hlw := waysL_le fs (allR fs fs.length)
            go_wp2_with fail
            refine (sameWays_any a3 a4 cap3 cap4 _ _ HL1.out HL2.out (Nat.le_trans hlw HLE.out)).mono ?_
            rintro e w10 ⟨rfl, hb10⟩
            have hB10 := hB9.trans (hb10.mono hB9.size)
            have hC10 := hC9.trans (hb10.mono hC9.size)
            have kR10 := kR9.belowS hb10
            have kP10 := kP9.belowS hb10
            have kO10 := kO9.belowS hb10
            clear kR9 kP9 kO9 hB9 hC9 hb10 c0 c1 e0 e1 lR9 lP9 lO9
            have c0 := kR10.cell 0
            have c1 := kR10.cell 1
            have e0 := kO10.cell 0
            have e1 := kO10.cell 1
            have lR10 := kR10.lt
            have lP10 := kP10.lt
            have lO10 := kO10.lt
            simp only [List.getElem?_toArray, List.getElem?_cons_zero, List.getElem?_cons_succ] at c0 c1 e0 e1
            clear HL1 HL2 hlw
            go_wp2_with fail
            refine (HAR.out _ (HR.out.below hB10)).mono ?_
            rintro e w11 ⟨hb11, hif⟩
            rw [if_neg (by simpa using HE.out)] at hif
            obtain ⟨v, rfl, hA⟩ := hif
            have hB11 := hB10.trans (hb11.mono hB10.size)
            have hC11 := hC10.trans (hb11.mono hC10.size)
            have kR11 := kR10.belowS hb11
            have kP11 := kP10.belowS hb11
            have kO11 := kO10.belowS hb11
            clear kR10 kP10 kO10 hB10 hC10 hb11 c0 c1 e0 e1 lR10 lP10 lO10
            have c0 := kR11.cell 0
            have c1 := kR11.cell 1
            have e0 := kO11.cell 0
            have e1 := kO11.cell 1
            have lR11 := kR11.lt
            have lP11 := kP11.lt
            have lO11 := kO11.lt
            simp only [List.getElem?_toArray, List.getElem?_cons_zero, List.getElem?_cons_succ] at c0 c1 e0 e1
            go_wp2_with fail
            refine (HAR'.out _ (HR'.out.below hC11)).mono ?_
            rintro e w12 ⟨hb12, hif⟩
            rw [if_neg (by simpa using HE'.out)] at hif
            obtain ⟨v', rfl, hA'⟩ := hif
            have hB12 := hB11.trans (hb12.mono hB11.size)
            have hC12 := hC11.trans (hb12.mono hC11.size)
            have kR12 := kR11.belowS hb12
            have kP12 := kP11.belowS hb12
            have kO12 := kO11.belowS hb12
            clear kR11 kP11 kO11 hB11 hC11 c0 c1 e0 e1 lR11 lP11 lO11
            have c0 := kR12.cell 0
            have c1 := kR12.cell 1
            have e0 := kO12.cell 0
            have e1 := kO12.cell 1
            have lR12 := kR12.lt
            have lP12 := kP12.lt
            have lO12 := kO12.lt
            simp only [List.getElem?_toArray, List.getElem?_cons_zero, List.getElem?_cons_succ] at c0 c1 e0 e1
            have hA2 := hA.below hb12
            clear hA hb12
            obtain ⟨a5, cap5, hv5, h51, h52, h53⟩ := hA2.shape
            obtain ⟨a6, cap6, hv6, h61, h62, h63⟩ := hA'.shape
            rw [List.length_map, List.length_range] at hv5 h51 hv6 h61
            rw [HFS.out.1] at hv6 h61 h63
            subst hv5 hv6
            have H53 := Lib.hid h53
            have H63 := Lib.hid h63
            clear hA2 hA' h53 h63
            obtain ⟨M, hM, hMk, hM0, hM1⟩ : ∃ M : Int, (10000 : Int) / k = M ∧ k * M ≤ 10000 ∧ 0 ≤ M ∧ M ≤ 10000 := ⟨_, rfl, Int.mul_ediv_self_le (by omega), Int.ediv_nonneg (by omega) (by omega), Int.ediv_le_self _ (by omega)⟩
            have HFT := Lib.hid (show ∀ x : Int, x ≤ M → k * x ≤ 10000 from fun x hx => Int.le_trans (Int.mul_le_mul_of_nonneg_left hx (by omega)) hMk)
            clear hMk
            have p0 := kP12.cell 0
            have p1 := kP12.cell 1
            simp only [List.getElem?_toArray, List.getElem?_cons_zero, List.getElem?_cons_succ] at p0 p1
            have kkb := mul_bd (a := k) (b := k) (m := 5) (n := 5) (by omega) (by omega) (by omega) (by omega)
            go_wp2_with fail
            go_loopw [17, 18, 19, 20, 21] (fun i' _ _ _ _ wr => ∃ t : Nat, t ≤ fs.length ∧ i' = .int .i64 t ∧ Below w12.heap.size w12 wr) (fun i' _ _ _ _ _ => fs.length - (intOf i').toNat)
            case atStart => exact ⟨0, Nat.zero_le _, rfl, Below.refl _ _⟩
            case round =>
              obtain ⟨t, ht, rfl, hbq⟩ := hrel
              have ht0 : (0 : Int) ≤ (t : Int) := Int.natCast_nonneg _
              have c0q := (hbq.cell (p := ⟨w.heap.size, 0, none⟩) lR12).trans c0
              have c1q := (hbq.cell (p := ⟨w.heap.size, 1, none⟩) lR12).trans c1
              have e0q := (hbq.cell (p := ⟨w3.heap.size, 0, none⟩) lO12).trans e0
              have e1q := (hbq.cell (p := ⟨w3.heap.size, 1, none⟩) lO12).trans e1
              have p0q := (hbq.cell (p := ⟨w.heap.size + 1, 0, none⟩) lP12).trans p0
              have p1q := (hbq.cell (p := ⟨w.heap.size + 1, 1, none⟩) lP12).trans p1
              by_cases hlt : t < fs.length
              · have htm : (t : Int) < (fs.length : Int) := by omega
                obtain ⟨F, hF⟩ : ∃ F, fs[t]? = some F := ⟨_, List.getElem?_eq_getElem hlt⟩
                obtain ⟨F', hF', hFs⟩ := HFS.out.get hF
                obtain ⟨b5, o5, rfl, l5, s5⟩ := H53.out t (areaF fs os t) (by simp [hlt])
                obtain ⟨b6, o6, rfl, l6, s6⟩ := H63.out t (areaF fs' os' t) (by simp [hlt])
                rw [HARE.out] at s6
                have s5q := (hbq.cell (p := ⟨b5, o5 + t, none⟩) l5).trans s5
                have s6q := (hbq.cell (p := ⟨b6, o6 + t, none⟩) l6).trans s6
                have abd := HABD.out t
                generalize areaF fs os t = A at *
                have abd2 := mul_bd (a := k * k) (b := A) (m := 25) (n := 200000000000) (by omega) (by omega) (by omega) (by omega)
                have HFF := Lib.hid hF
                have HFF' := Lib.hid hF'
                have HFFs := Lib.hid hFs
                clear hF hF' hFs s5 s6
                go_upto_region 21 with fail
                go_quiet (fail)
                have hbr : Below w12.heap.size w12 (wr.drewN nq) := hbq.trans ((below_drewN _ _ _).mono hbq.size)
                generalize wr.drewN nq = wr at *
                clear hbq s5q s6q abd2 c0q c1q e0q e1q p0q p1q
                have c0q := (hbr.cell (p := ⟨w.heap.size, 0, none⟩) lR12).trans c0
                have c1q := (hbr.cell (p := ⟨w.heap.size, 1, none⟩) lR12).trans c1
                have e0q := (hbr.cell (p := ⟨w3.heap.size, 0, none⟩) lO12).trans e0
                have e1q := (hbr.cell (p := ⟨w3.heap.size, 1, none⟩) lO12).trans e1
                have p0q := (hbr.cell (p := ⟨w.heap.size + 1, 0, none⟩) lP12).trans p0
                have p1q := (hbr.cell (p := ⟨w.heap.size + 1, 1, none⟩) lP12).trans p1
                have hk0 : k ≠ 0 := by omega
                cases q1 : decide (p.x < 0) with
                | true =>
                  go_upto_region 23 with fail
                  go_quiet (fail)
                  go_wp2_with fail
                  exact ⟨⟨t + 1, by omega, by simp, hbr.trans ((below_drewN _ _ _).mono hbr.size)⟩, by simp [intOf]; omega⟩
                | false =>
                  cases q2 : decide (p.y < 0) with
                  | true =>
                    go_upto_region 23 with fail
                    go_quiet (fail)
                    go_wp2_with fail
                    exact ⟨⟨t + 1, by omega, by simp, hbr.trans ((below_drewN _ _ _).mono hbr.size)⟩, by simp [intOf]; omega⟩
                  | false =>
                    cases q3 : decide (M < p.x) with
                    | true =>
                      go_upto_region 23 with fail
                      go_quiet (fail)
                      go_wp2_with fail
                      exact ⟨⟨t + 1, by omega, by simp, hbr.trans ((below_drewN _ _ _).mono hbr.size)⟩, by simp [intOf]; omega⟩
                    | false =>
                      cases q4 : decide (M < p.y) with
                      | true =>
                        go_upto_region 23 with fail
                        go_quiet (fail)
                        go_wp2_with fail
                        exact ⟨⟨t + 1, by omega, by simp, hbr.trans ((below_drewN _ _ _).mono hbr.size)⟩, by simp [intOf]; omega⟩
                      | false =>
                        go_upto_region 23 with fail
                        go_quiet (fail)
                        have hbs : Below w12.heap.size w12 (wr.drewN nq) := hbr.trans ((below_drewN _ _ _).mono hbr.size)
                        generalize wr.drewN nq = wr at *
                        clear hbr c0q c1q e0q e1q p0q p1q
                        have c0q := (hbs.cell (p := ⟨w.heap.size, 0, none⟩) lR12).trans c0
                        have c1q := (hbs.cell (p := ⟨w.heap.size, 1, none⟩) lR12).trans c1
                        have e0q := (hbs.cell (p := ⟨w3.heap.size, 0, none⟩) lO12).trans e0
                        have e1q := (hbs.cell (p := ⟨w3.heap.size, 1, none⟩) lO12).trans e1
                        have p0q := (hbs.cell (p := ⟨w.heap.size + 1, 0, none⟩) lP12).trans p0
                        have p1q := (hbs.cell (p := ⟨w.heap.size + 1, 1, none⟩) lP12).trans p1
                        simp only [decide_eq_false_iff_not, Int.not_lt] at q1 q2 q3 q4
                        have hp : p.ok := ⟨⟨q1, by omega⟩, q2, by omega⟩
                        have hp' : (scP k p).ok := ⟨⟨Int.mul_nonneg (by omega) q1, HFT.out _ q3⟩, Int.mul_nonneg (by omega) q2, HFT.out _ q4⟩
                        have g1 := mul_bd (a := k) (b := p.x) (m := 5) (n := 10000) (by omega) (by omega) (by omega) (by omega)
                        have g2 := mul_bd (a := k) (b := p.y) (m := 5) (n := 10000) (by omega) (by omega) (by omega) (by omega)
                        have hN := hgt_bd (HOK.out F (List.mem_of_getElem? HFF.out)) hp
                        have hN' := hgt_bd (HOK'.out F' (List.mem_of_getElem? HFF'.out)) hp'
                        have heq := height_sc (HOK.out F (List.mem_of_getElem? HFF.out)) HFFs.out p
                        have hh1 := HHG.out t F HFF.out p hp
                        have hh2 := HHG'.out t F' HFF'.out (scP k p) hp'
                        generalize hgtN F p = N1 at *
                        generalize hgtD F p = D1 at *
                        generalize hgtN F' (scP k p) = N2 at *
                        generalize hgtD F' (scP k p) = D2 at *
                        have m1 := mul_bd (a := N2) (b := D1) (m := 3000000) (n := 100) (by omega) (by omega) (by omega) (by omega)
                        have m2 := mul_bd (a := k) (b := N1) (m := 5) (n := 3000000) (by omega) (by omega) (by omega) (by omega)
                        have m3 := mul_bd (a := k * N1) (b := D2) (m := 15000000) (n := 100) (by omega) (by omega) (by omega) (by omega)
                        have hne : (N2 * D1 != k * N1 * D2) = false := by rw [heq]; simp
                        have hB13 := hB12.trans (hbs.mono hB12.size)
                        have hC13 := hC12.trans (hbs.mono hC12.size)
                        have H1 := Lib.hid hh1
                        have H2 := Lib.hid hh2
                        clear hh1 hh2 hN hN' heq hp hp'
                        have hs13 := hbs.size
                        go_wp2_with fail
                        refine (H1.out _ (HR.out.below hB13)).mono ?_
                        rintro e w14 ⟨rfl, hb14⟩
                        have hbt := hbs.trans (hb14.mono hbs.size)
                        have hC14 := hC13.trans (hb14.mono hC13.size)
                        clear c0q c1q e0q e1q p0q p1q
                        have c0q := (hbt.cell (p := ⟨w.heap.size, 0, none⟩) lR12).trans c0
                        have c1q := (hbt.cell (p := ⟨w.heap.size, 1, none⟩) lR12).trans c1
                        have e0q := (hbt.cell (p := ⟨w3.heap.size, 0, none⟩) lO12).trans e0
                        have e1q := (hbt.cell (p := ⟨w3.heap.size, 1, none⟩) lO12).trans e1
                        have p0q := (hbt.cell (p := ⟨w.heap.size + 1, 0, none⟩) lP12).trans p0
                        have p1q := (hbt.cell (p := ⟨w.heap.size + 1, 1, none⟩) lP12).trans p1
                        have hs14 := hbt.size
                        have lq1 : w.heap.size < w14.heap.size := by omega
                        have lq2 : w.heap.size + 1 < w14.heap.size := by omega
                        have lq3 : w3.heap.size < w14.heap.size := by omega
                        have kg := Blk.new w14 55 #[.int .i64 N1, .int .i64 D1]
                        have hbu := hbt.alloc hbt.size (.cells #[.int .i64 N1, .int .i64 D1] 55)
                        have hC15 := hC14.alloc hC14.size (.cells #[.int .i64 N1, .int .i64 D1] 55)
                        go_wp2_with fail
                        refine (H2.out _ (HR'.out.below hC15)).mono ?_
                        rintro e w16 ⟨rfl, hb16⟩
                        have kg6 := kg.belowS hb16
                        have lg6 := kg6.lt
                        have g0 := kg6.cell 0
                        have g3 := kg6.cell 1
                        simp only [List.getElem?_toArray, List.getElem?_cons_zero, List.getElem?_cons_succ] at g0 g3
                        have hbv := hbu.trans (hb16.mono hbu.size)
                        go_wp2_with fail
                        exact ⟨⟨t + 1, by omega, by simp, hbv.alloc hbv.size _⟩, by simp [intOf]; omega⟩
              · obtain rfl : t = fs.length := by omega
                go_wp2_with fail
                refine (lives_any _).mono ?_
                rintro e wl ⟨rfl, hbl⟩
                go_wp2_with fail
                go_ret
                exact ⟨rfl, (hB12.trans (hbq.mono hB12.size)).trans (hbl.mono (hB12.trans (hbq.mono hB12.size)).size)⟩
        · have hz : (E == 0) = false := by simp [h0]
          have hz' : (E != 0) = true := by simp [h0]
          clear h0
          go_wp2_with fail
          refine (lives_any _).mono ?_
          rintro e wl ⟨rfl, hbl⟩
          go_wp2_with fail
          go_ret
          exact ⟨rfl, hB2.trans (hbl.mono hB2.size)⟩
end Go.Proofs.Ytpheaomlphggfaa
