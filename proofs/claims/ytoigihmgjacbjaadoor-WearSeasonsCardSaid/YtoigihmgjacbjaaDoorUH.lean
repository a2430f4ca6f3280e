/- thatchref07.outline: whether an outline may be. No condition. -/
import Derived.Test.YtoigihmgjacbjaaDoorUG
import Derived.BigRegion
set_option linter.unusedSimpArgs false
namespace Go.Proofs.YtoigihmgjacbjaaDoor
open Go.RowKit

theorem side_rng {a b p : Pnt} (ha : pointB a = true) (hb : pointB b = true) (hp : pointB p = true) : -320000 ≤ (Edg.mk a b).side p ∧ (Edg.mk a b).side p ≤ 320000 := by
  obtain ⟨⟨h1, h2⟩, h3, h4⟩ := pointB_iff.1 ha
  obtain ⟨⟨h5, h6⟩, h7, h8⟩ := pointB_iff.1 hb
  obtain ⟨⟨h9, h10⟩, h11, h12⟩ := pointB_iff.1 hp
  have b1 := mul_bd (a := b.x - a.x) (b := p.y - a.y) (m := 400) (n := 400) (by omega) (by omega) (by omega) (by omega)
  have b2 := mul_bd (a := b.y - a.y) (b := p.x - a.x) (m := 400) (n := 400) (by omega) (by omega) (by omega) (by omega)
  simp only [Edg.side]
  omega
theorem cor_ok {l : List Pnt} (h : okPts4 l) (i : Nat) : pointB (cor l i) = true := by
  unfold cor
  by_cases hi : i < l.length
  · rw [List.getElem?_eq_getElem hi]; exact h _ (List.getElem_mem hi)
  · rw [List.getElem?_eq_none (by omega)]; decide
theorem areaS_bd {l : List Pnt} (h : okPts4 l) : ∀ i : Nat, -(320000 * (i : Int)) ≤ areaS l i ∧ areaS l i ≤ 320000 * (i : Int)
  | 0 => by simp [areaS]
  | i + 1 => by
    have := areaS_bd h i
    have := side_rng (cor_ok h 0) (cor_ok h i) (cor_ok h ((i + 1) % l.length))
    simp only [areaS]
    omega
theorem cor_get {l : List Pnt} {i : Nat} (h : i < l.length) : l[i]? = some (cor l i) := by
  unfold cor
  rw [List.getElem?_eq_getElem h]
  rfl

theorem blk3 (w : World) (x y z : Array Value) : Blk (((w.alloc (.cells x 45)).alloc (.cells y 45)).alloc (.cells z 45)).drew w.heap.size x 45 ∧ Blk (((w.alloc (.cells x 45)).alloc (.cells y 45)).alloc (.cells z 45)).drew (w.heap.size + 1) y 45 ∧ Blk (((w.alloc (.cells x 45)).alloc (.cells y 45)).alloc (.cells z 45)).drew (w.heap.size + 1 + 1) z 45 ∧ Below w.heap.size w (((w.alloc (.cells x 45)).alloc (.cells y 45)).alloc (.cells z 45)).drew := by
  have h1 := (((Blk.new w 45 x).alloc (.cells y 45)).alloc (.cells z 45)).drew
  have h2 := ((Blk.new (w.alloc (.cells x 45)) 45 y).alloc (.cells z 45)).drew
  have h3 := (Blk.new ((w.alloc (.cells x 45)).alloc (.cells y 45)) 45 z).drew
  rw [World.size_alloc] at h2 h3
  rw [World.size_alloc] at h3
  exact ⟨h1, h2, h3, ((((Below.refl _ _).alloc (Nat.le_refl _) _).alloc (by simp) _).alloc (by simp; omega) _).drew⟩

set_option maxRecDepth 100000 in
set_option maxHeartbeats 16000000 in
theorem refOutline_any (sa : Option Addr) (cap : Nat) (l : List Pnt) (w : World) (hs : IsPts w (.slice sa l.length cap) l) :
    Calls Tryd.prog 51 #[.slice sa l.length cap] w fun e w' => e = .returned (.int .i64 (outE l)) ∧ Below w.heap.size w w' := by
  have HS := Lib.hid hs
  clear hs
  go_enter Tryd.func51, Tryd.ntmps51
  go_wp2_with fail
  refine (refIn_any _ _ _ _).mono ?_
  rintro e w2 ⟨rfl, rfl⟩
  obtain ⟨b1, hb1⟩ : ∃ b1, isFromB (l.length : Int) 3 12 = b1 := ⟨_, rfl⟩
  rw [hb1]
  cases b1 with
  | false =>
    have HV := Lib.hid (show outE l = 1 by unfold outE; rw [if_pos hb1])
    go_wp2_with fail
    go_ret
    exact ⟨by rw [HV.out]; rfl, Below.refl _ _⟩
  | true =>
  have HR := Lib.hid hb1
  have HN := Lib.hid (show 3 ≤ l.length ∧ l.length ≤ 12 by simp [isFromB] at hb1; omega)
  have hll : l.length ≤ 1000 := by have := HN.out; omega
  have HLL := Lib.hid hll
  clear hb1
  go_wp2_with fail
  go_loopw [4] (fun s4 wr => ∃ j : Nat, j ≤ l.length ∧ s4 = .int .i64 j ∧ (l.take j).all pointB = true ∧ Below w.heap.size w wr) (fun i _ => l.length - (intOf i).toNat)
  case atStart => exact ⟨0, Nat.zero_le _, rfl, by simp, Below.refl _ _⟩
  case round =>
  obtain ⟨j, hj, rfl, hall, hb⟩ := hrel
  obtain ⟨w3, rfl⟩ : ∃ w3 : World, w3 = wr := ⟨_, rfl⟩
  have HB3 := Lib.hid hb
  have HALL := Lib.hid hall
  clear hall hb
  by_cases hlj : j < l.length
  · have hlj' : (j : Int) < (l.length : Int) := by omega
    have hj0 : (0 : Int) ≤ (j : Int) := Int.natCast_nonneg _
    have hjs : IntKind.i64.wrap ((j : Int) + 1) = ((j + 1 : Nat) : Int) := by rw [IntKind.wrap_i64]; omega
    have hq := cor_get hlj
    obtain ⟨b, off, hea, hbl, hcap, hcx, y0, y1⟩ := pts_at (HS.out.below HB3.out) hq
    have HT := Lib.hid (take_all_succ' l pointB j _ hq)
    have HM := Lib.hid (cor_mem hlj)
    have HLJ := Lib.hid hlj
    generalize cor l j = q at *
    subst hea
    clear hq hlj hj
    have HBAD := Lib.hid (fun h : pointB q = false => show outE l = 1 by
      have h1 : l.all pointB = false := List.all_eq_false.2 ⟨q, HM.out, by rw [h]; decide⟩
      unfold outE cornE
      rw [if_pos h1, ite_self])
    go_wp2_with fail
    refine (refIn_any _ _ _ _).mono ?_
    rintro e w2 ⟨rfl, rfl⟩
    obtain ⟨b2, hb2⟩ : ∃ b2, isFromB q.x 0 400 = b2 := ⟨_, rfl⟩
    rw [hb2]
    cases b2 with
    | false =>
      have HV := Lib.hid (HBAD.out (by unfold pointB; rw [hb2]; rfl))
      go_wp2_with fail
      go_ret
      exact ⟨by rw [HV.out]; rfl, HB3.out⟩
    | true =>
    have HX1 := Lib.hid hb2
    clear hb2
    go_wp2_with fail
    refine (refIn_any _ _ _ _).mono ?_
    rintro e w2 ⟨rfl, rfl⟩
    obtain ⟨b2, hb2⟩ : ∃ b2, isFromB q.y 0 400 = b2 := ⟨_, rfl⟩
    rw [hb2]
    cases b2 with
    | false =>
      have HV := Lib.hid (HBAD.out (by unfold pointB; rw [hb2, HX1.out]; rfl))
      go_wp2_with fail
      go_ret
      exact ⟨by rw [HV.out]; rfl, HB3.out⟩
    | true =>
    have HX2 := Lib.hid hb2
    clear hb2
    go_wp2_with fail
    exact ⟨⟨j + 1, by have := HLJ.out; omega, by simp, by rw [HT.out, HALL.out]; unfold pointB; rw [HX1.out, HX2.out]; rfl, HB3.out⟩, by have := HLJ.out; simp [intOf]; omega⟩
  obtain rfl : j = l.length := by omega
  have hlj' : ¬ (l.length : Int) < (l.length : Int) := by omega
  have hal : l.all pointB = true := by have := HALL.out; rwa [List.take_of_length_le (Nat.le_refl _)] at this
  have HA := Lib.hid hal
  have HOK := Lib.hid (show okPts4 l from fun p hp => List.all_eq_true.1 hal p hp)
  clear hlj hj hal
  go_wp2_with fail
  go_loopw [5, 6] (fun s5 s6 wr => ∃ j : Nat, j ≤ l.length ∧ s5 = .int .i64 j ∧ (∀ k, k < j → decide (l[k]?.getD ⟨0, 0⟩ ∈ l.take k) = false) ∧ Below w.heap.size w wr) (fun i _ _ => l.length - (intOf i).toNat)
  case atStart => exact ⟨0, Nat.zero_le _, rfl, fun k h => by omega, HB3.out⟩
  case round =>
  obtain ⟨j, hj, rfl, hno, hb⟩ := hrel
  obtain ⟨w4, rfl⟩ : ∃ w4 : World, w4 = wr := ⟨_, rfl⟩
  have HB4 := Lib.hid hb
  have HNO := Lib.hid hno
  clear hno hb
  by_cases hlj : j < l.length
  · have hlj' : (j : Int) < (l.length : Int) := by omega
    have hj0 : (0 : Int) ≤ (j : Int) := Int.natCast_nonneg _
    have hjs : IntKind.i64.wrap ((j : Int) + 1) = ((j + 1 : Nat) : Int) := by rw [IntKind.wrap_i64]; omega
    have HLJ := Lib.hid hlj
    clear hlj hj
    go_wp2_with fail
    go_loopw [6] (fun s6 wr => ∃ k : Nat, k ≤ j ∧ s6 = .int .i64 k ∧ (∀ i, i < k → cor l i ≠ cor l j) ∧ Below w.heap.size w wr) (fun i _ => j - (intOf i).toNat)
    case atStart => exact ⟨0, Nat.zero_le _, rfl, fun k h => by omega, HB4.out⟩
    case round =>
    obtain ⟨k, hk, rfl, hdi, hb⟩ := hrel
    obtain ⟨w5, rfl⟩ : ∃ w5 : World, w5 = wr := ⟨_, rfl⟩
    have HB5 := Lib.hid hb
    have HDI := Lib.hid hdi
    clear hdi hb
    by_cases hkj : k < j
    · have hkj' : (k : Int) < (j : Int) := by omega
      have hk0 : (0 : Int) ≤ (k : Int) := Int.natCast_nonneg _
      have hkl' : (k : Int) < (l.length : Int) := by omega
      have hks : IntKind.i64.wrap ((k : Int) + 1) = ((k + 1 : Nat) : Int) := by rw [IntKind.wrap_i64]; have := HLL.out; omega
      have hq := cor_get HLJ.out
      have hr := cor_get (Nat.lt_trans hkj HLJ.out)
      obtain ⟨b, off, hea, hbl, hcap, hcx, y0, y1⟩ := pts_at (HS.out.below HB5.out) hq
      obtain ⟨b2, off2, hea2, _, _, _, v0, v1⟩ := pts_at (HS.out.below HB5.out) hr
      rw [hea] at hea2
      simp only [Option.some.injEq, Addr.mk.injEq, and_true] at hea2
      obtain ⟨rfl, rfl⟩ := hea2
      have HQ := Lib.hid (show cor l j = cor l j from rfl)
      have HKJ := Lib.hid hkj
      obtain ⟨d, hd⟩ : ∃ d, decide (cor l j = cor l k) = d := ⟨_, rfl⟩
      have he : ∀ w, (Op.equalIn 10000 45 (.agg #[.int .i64 (cor l j).x, .int .i64 (cor l j).y]) (.agg #[.int .i64 (cor l k).x, .int .i64 (cor l k).y])).run Tryd.prog w = .ok d w := fun w => (run_equalIn_at 9998 (cor l j) (cor l k) w).trans (by rw [hd])
      have HTW := Lib.hid (fun h : d = true => show outE l = 6 by
        subst h
        have ht : twiceP l = true := List.any_eq_true.2 ⟨j, List.mem_range.2 HLJ.out, by
          rw [decide_eq_true_iff]
          show cor l j ∈ l.take j
          rw [of_decide_eq_true hd, List.mem_take_iff_getElem]
          exact ⟨k, by have := HLJ.out; omega, by unfold cor; rw [List.getElem?_eq_getElem (by have := HLJ.out; omega)]; rfl⟩⟩
        unfold outE cornE
        rw [if_neg (by rw [HR.out]; decide), if_neg (by rw [HA.out]; decide), if_pos ht])
      have HNE := Lib.hid (fun h : d = false => show ∀ i, i < k + 1 → cor l i ≠ cor l j from fun i hi e => by
        by_cases hik : i = k
        · subst hik
          rw [decide_eq_true e.symm] at hd
          rw [← hd] at h
          cases h
        · exact HDI.out i (by omega) e)
      generalize cor l j = q at *
      generalize cor l k = r at *
      subst hea
      clear hq hr hd hkj hk HDI
      go_wp2_with fail
      go_quiet (fail)
      cases d with
      | true =>
        have HV := Lib.hid (HTW.out rfl)
        go_wp2_with fail
        go_ret
        exact ⟨by rw [HV.out]; rfl, HB5.out.trans ((below_drewN _ _ _).mono HB5.out.size)⟩
      | false =>
        go_wp2_with fail
        exact ⟨⟨k + 1, by have := HKJ.out; omega, by simp, HNE.out rfl, HB5.out.trans ((below_drewN _ _ _).mono HB5.out.size)⟩, by have := HKJ.out; simp [intOf]; omega⟩
    obtain rfl : k = j := by omega
    have hkj' : ¬ (k : Int) < (k : Int) := by omega
    clear hkj hk
    go_wp2_with fail
    exact ⟨⟨k + 1, by have := HLJ.out; omega, by simp, fun i hi => by
      by_cases hik : i < k
      · exact HNO.out i hik
      · obtain rfl : i = k := by omega
        rw [decide_eq_false_iff_not]
        intro hm
        obtain ⟨x, hx, e⟩ := List.mem_take_iff_getElem.1 hm
        refine HDI.out x (by omega) ?_
        show cor l x = l[i]?.getD ⟨0, 0⟩
        rw [← e]
        unfold cor
        rw [List.getElem?_eq_getElem (by omega)]
        rfl, HB5.out⟩, by have := HLJ.out; simp [intOf]; omega⟩
  obtain rfl : j = l.length := by omega
  have hlj' : ¬ (l.length : Int) < (l.length : Int) := by omega
  have HTW := Lib.hid (show twiceP l = false from List.any_eq_false.2 fun i hi => by
    rw [HNO.out i (List.mem_range.1 hi)]
    decide)
  clear hlj hj
  go_wp2_with fail
  go_loopw [7, 8, 9, 10, 11, 12] (fun s7 s8 s9 s10 s11 s12 wr => ∃ j : Nat, j ≤ l.length ∧ s7 = .int .i64 (areaS l j) ∧ s8 = .int .i64 j ∧ (∀ i, i < j → (leftAll l (edgN l i) && !spikeB (cor l i) (cor l ((i + 1) % l.length)) (cor l ((i + 2) % l.length))) = true) ∧ Below w.heap.size w wr) (fun _ i _ _ _ _ _ => l.length - (intOf i).toNat)
  case atStart => exact ⟨0, Nat.zero_le _, rfl, rfl, fun k h => by omega, HB4.out⟩
  case round =>
  obtain ⟨j, hj, rfl, rfl, hgo, hb⟩ := hrel
  obtain ⟨w5, rfl⟩ : ∃ w5 : World, w5 = wr := ⟨_, rfl⟩
  have HB5 := Lib.hid hb
  have HGO := Lib.hid hgo
  clear hgo hb
  by_cases hlj : j < l.length
  rotate_left
  · obtain rfl : j = l.length := by omega
    have hlj' : ¬ (l.length : Int) < (l.length : Int) := by omega
    have HV := Lib.hid (show outE l = if areaS l l.length ≤ 0 then 9 else 0 by
      rw [outE_ref HR.out HA.out HTW.out]
      unfold refConv
      have : ((List.range l.length).all fun i => leftAll l (edgN l i) && !spikeB (cor l i) (cor l ((i + 1) % l.length)) (cor l ((i + 2) % l.length))) = true := List.all_eq_true.2 fun i hi => HGO.out i (List.mem_range.1 hi)
      rw [this, Bool.true_and]
      by_cases h : areaS l l.length ≤ 0
      · rw [if_pos h, decide_eq_false (by omega)]; rfl
      · rw [if_neg h, decide_eq_true (by omega)]; rfl)
    clear hlj hj
    by_cases har : areaS l l.length ≤ 0
    · have HV2 := Lib.hid (HV.out.trans (if_pos har))
      go_wp2_with fail
      go_ret
      exact ⟨by rw [HV2.out]; rfl, HB5.out⟩
    · have HV2 := Lib.hid (HV.out.trans (if_neg har))
      go_wp2_with fail
      go_ret
      exact ⟨by rw [HV2.out]; rfl, HB5.out⟩
  have hlj' : (j : Int) < (l.length : Int) := by omega
  have hj0 : (0 : Int) ≤ (j : Int) := Int.natCast_nonneg _
  have hjs : IntKind.i64.wrap ((j : Int) + 1) = ((j + 1 : Nat) : Int) := by rw [IntKind.wrap_i64]; omega
  have hjs2 : IntKind.i64.wrap ((j : Int) + 2) = (j : Int) + 2 := by rw [IntKind.wrap_i64]; omega
  obtain ⟨k, hk⟩ : ∃ k, k = (j + 1) % l.length := ⟨_, rfl⟩
  obtain ⟨m, hm⟩ : ∃ m, m = (j + 2) % l.length := ⟨_, rfl⟩
  have hkl : k < l.length := by rw [hk]; exact Nat.mod_lt _ (by omega)
  have hml : m < l.length := by rw [hm]; exact Nat.mod_lt _ (by omega)
  have hnz : ((l.length : Int) == 0) = false := by rw [beq_eq_false_iff_ne]; omega
  have hnz' : ¬ ((l.length : Int) = 0) := by omega
  have hne0 : ¬ (l = []) := fun e => by rw [e] at hlj; simp at hlj
  have hmd : (((j + 1 : Nat) : Int)).tmod (l.length : Int) = (k : Int) := by rw [Int.tmod_eq_emod_of_nonneg (by omega), hk, Int.natCast_emod]
  have hmd1 : ((j : Int) + 1).tmod (l.length : Int) = (k : Int) := by rw [Int.tmod_eq_emod_of_nonneg (by omega), hk, Int.natCast_emod, Int.natCast_add]; rfl
  have hmd' : ((j : Int) + 1) % (l.length : Int) = (k : Int) := by rw [hk, Int.natCast_emod, Int.natCast_add]; rfl
  have hmd2 : ((j : Int) + 2).tmod (l.length : Int) = (m : Int) := by rw [Int.tmod_eq_emod_of_nonneg (by omega), hm, Int.natCast_emod, Int.natCast_add]; rfl
  have hmd2' : ((j : Int) + 2) % (l.length : Int) = (m : Int) := by rw [hm, Int.natCast_emod, Int.natCast_add]; rfl
  have hk0 : (0 : Int) ≤ (k : Int) := Int.natCast_nonneg _
  have hkl' : (k : Int) < (l.length : Int) := by omega
  have hm0 : (0 : Int) ≤ (m : Int) := Int.natCast_nonneg _
  have hml' : (m : Int) < (l.length : Int) := by omega
  obtain ⟨b, off, hea, hbl, hcap, hcx, y0, y1⟩ := pts_at (HS.out.below HB5.out) (cor_get hlj)
  obtain ⟨b2, off2, hea2, _, _, _, v0, v1⟩ := pts_at (HS.out.below HB5.out) (cor_get hkl)
  obtain ⟨b3, off3, hea3, _, _, _, z0, z1⟩ := pts_at (HS.out.below HB5.out) (cor_get hml)
  rw [hea] at hea2 hea3
  simp only [Option.some.injEq, Addr.mk.injEq, and_true] at hea2 hea3
  obtain ⟨rfl, rfl⟩ := hea2
  obtain ⟨rfl, rfl⟩ := hea3
  have HED := Lib.hid (show edgN l j = ⟨cor l j, cor l k⟩ by rw [edgN_cor, ← hk])
  have HSP := Lib.hid (show spikeB (cor l j) (cor l ((j + 1) % l.length)) (cor l ((j + 2) % l.length)) = spikeB (cor l j) (cor l k) (cor l m) by rw [hk, hm])
  have HAR := Lib.hid (show areaS l (j + 1) = areaS l j + (Edg.mk (cor l 0) (cor l j)).side (cor l k) by rw [hk]; rfl)
  have HLJ := Lib.hid hlj
  have HQ := Lib.hid (cor_ok HOK.out j)
  have HQK := Lib.hid (cor_ok HOK.out k)
  have HQM := Lib.hid (cor_ok HOK.out m)
  have HQ0 := Lib.hid (cor_ok HOK.out 0)
  subst hea
  have hst : ∀ w', Below w5.heap.size w5 w' → (w'.cell? ⟨b, off + j * 2, none⟩ = some (.int .i64 (cor l j).x) ∧ w'.cell? ⟨b, off + j * 2 + 1, none⟩ = some (.int .i64 (cor l j).y)) ∧ (w'.cell? ⟨b, off + k * 2, none⟩ = some (.int .i64 (cor l k).x) ∧ w'.cell? ⟨b, off + k * 2 + 1, none⟩ = some (.int .i64 (cor l k).y)) ∧ w'.cell? ⟨b, off + m * 2, none⟩ = some (.int .i64 (cor l m).x) ∧ w'.cell? ⟨b, off + m * 2 + 1, none⟩ = some (.int .i64 (cor l m).y) := fun w' hb => by
    have e : ∀ o, w'.cell? ⟨b, o, none⟩ = w5.cell? ⟨b, o, none⟩ := fun o => hb.cell (p := ⟨b, o, none⟩) hbl
    exact ⟨⟨(e _).trans y0, (e _).trans y1⟩, ⟨(e _).trans v0, (e _).trans v1⟩, (e _).trans z0, (e _).trans z1⟩
  have HST := Lib.hid hst
  have HBL := Lib.hid hbl
  clear hst hk hm hlj hj hkl hml
  obtain ⟨qa, hqa⟩ : ∃ qa, qa = cor l j := ⟨_, rfl⟩
  obtain ⟨qb, hqb⟩ : ∃ qb, qb = cor l k := ⟨_, rfl⟩
  obtain ⟨qc, hqc⟩ : ∃ qc, qc = cor l m := ⟨_, rfl⟩
  rw [← hqa] at y0 y1 HQ HED HSP HAR HST
  rw [← hqb] at v0 v1 HQK HED HSP HAR HST
  rw [← hqc] at z0 z1 HQM HSP HST
  have HQA := Lib.hid hqa
  have HQB := Lib.hid hqb
  have HQC := Lib.hid hqc
  clear hqa hqb hqc
  go_upto_region 21 with fail
  go_cut [9, 10, 11] from 58 to 132 (fun s9 s10 s11 wx => ∃ A B C : Nat, s9 = .pointer (some ⟨A, 0, none⟩) ∧ s10 = .pointer (some ⟨B, 0, none⟩) ∧ s11 = .pointer (some ⟨C, 0, none⟩) ∧ Blk wx A #[.int .i64 qa.x, .int .i64 qa.y] 45 ∧ Blk wx B #[.int .i64 qb.x, .int .i64 qb.y] 45 ∧ Blk wx C #[.int .i64 qc.x, .int .i64 qc.y] 45 ∧ w5.heap.size ≤ A ∧ w5.heap.size ≤ B ∧ w5.heap.size ≤ C ∧ Below w5.heap.size w5 wx)
  case first =>
    have hbl := HBL.out
    have g1 : ∀ o1, Below w5.heap.size w5 (w5.alloc o1) := fun o1 => (Below.refl _ _).alloc (Nat.le_refl _) _
    have g2 : ∀ o1 o2, Below w5.heap.size w5 ((w5.alloc o1).alloc o2) := fun o1 o2 => (g1 o1).alloc (by simp) _
    have g3 : ∀ o1 o2 o3, Below w5.heap.size w5 (((w5.alloc o1).alloc o2).alloc o3) := fun o1 o2 o3 => (g2 o1 o2).alloc (by simp; omega) _
    have f00 : ∀ o1, (w5.alloc o1).cell? ⟨b, off + j * 2, none⟩ = some (.int .i64 qa.x) := fun o1 => (HST.out _ (g1 o1)).1.1
    have f01 : ∀ o1 o2, ((w5.alloc o1).alloc o2).cell? ⟨b, off + j * 2, none⟩ = some (.int .i64 qa.x) := fun o1 o2 => (HST.out _ (g2 o1 o2)).1.1
    have f02 : ∀ o1 o2 o3, (((w5.alloc o1).alloc o2).alloc o3).cell? ⟨b, off + j * 2, none⟩ = some (.int .i64 qa.x) := fun o1 o2 o3 => (HST.out _ (g3 o1 o2 o3)).1.1
    have f10 : ∀ o1, (w5.alloc o1).cell? ⟨b, off + j * 2 + 1, none⟩ = some (.int .i64 qa.y) := fun o1 => (HST.out _ (g1 o1)).1.2
    have f11 : ∀ o1 o2, ((w5.alloc o1).alloc o2).cell? ⟨b, off + j * 2 + 1, none⟩ = some (.int .i64 qa.y) := fun o1 o2 => (HST.out _ (g2 o1 o2)).1.2
    have f12 : ∀ o1 o2 o3, (((w5.alloc o1).alloc o2).alloc o3).cell? ⟨b, off + j * 2 + 1, none⟩ = some (.int .i64 qa.y) := fun o1 o2 o3 => (HST.out _ (g3 o1 o2 o3)).1.2
    have f20 : ∀ o1, (w5.alloc o1).cell? ⟨b, off + k * 2, none⟩ = some (.int .i64 qb.x) := fun o1 => (HST.out _ (g1 o1)).2.1.1
    have f21 : ∀ o1 o2, ((w5.alloc o1).alloc o2).cell? ⟨b, off + k * 2, none⟩ = some (.int .i64 qb.x) := fun o1 o2 => (HST.out _ (g2 o1 o2)).2.1.1
    have f22 : ∀ o1 o2 o3, (((w5.alloc o1).alloc o2).alloc o3).cell? ⟨b, off + k * 2, none⟩ = some (.int .i64 qb.x) := fun o1 o2 o3 => (HST.out _ (g3 o1 o2 o3)).2.1.1
    have f30 : ∀ o1, (w5.alloc o1).cell? ⟨b, off + k * 2 + 1, none⟩ = some (.int .i64 qb.y) := fun o1 => (HST.out _ (g1 o1)).2.1.2
    have f31 : ∀ o1 o2, ((w5.alloc o1).alloc o2).cell? ⟨b, off + k * 2 + 1, none⟩ = some (.int .i64 qb.y) := fun o1 o2 => (HST.out _ (g2 o1 o2)).2.1.2
    have f32 : ∀ o1 o2 o3, (((w5.alloc o1).alloc o2).alloc o3).cell? ⟨b, off + k * 2 + 1, none⟩ = some (.int .i64 qb.y) := fun o1 o2 o3 => (HST.out _ (g3 o1 o2 o3)).2.1.2
    have f40 : ∀ o1, (w5.alloc o1).cell? ⟨b, off + m * 2, none⟩ = some (.int .i64 qc.x) := fun o1 => (HST.out _ (g1 o1)).2.2.1
    have f41 : ∀ o1 o2, ((w5.alloc o1).alloc o2).cell? ⟨b, off + m * 2, none⟩ = some (.int .i64 qc.x) := fun o1 o2 => (HST.out _ (g2 o1 o2)).2.2.1
    have f42 : ∀ o1 o2 o3, (((w5.alloc o1).alloc o2).alloc o3).cell? ⟨b, off + m * 2, none⟩ = some (.int .i64 qc.x) := fun o1 o2 o3 => (HST.out _ (g3 o1 o2 o3)).2.2.1
    have f50 : ∀ o1, (w5.alloc o1).cell? ⟨b, off + m * 2 + 1, none⟩ = some (.int .i64 qc.y) := fun o1 => (HST.out _ (g1 o1)).2.2.2
    have f51 : ∀ o1 o2, ((w5.alloc o1).alloc o2).cell? ⟨b, off + m * 2 + 1, none⟩ = some (.int .i64 qc.y) := fun o1 o2 => (HST.out _ (g2 o1 o2)).2.2.2
    have f52 : ∀ o1 o2 o3, (((w5.alloc o1).alloc o2).alloc o3).cell? ⟨b, off + m * 2 + 1, none⟩ = some (.int .i64 qc.y) := fun o1 o2 o3 => (HST.out _ (g3 o1 o2 o3)).2.2.2
    clear g1 g2 g3
    go_region
    all_goals go_wp2_with fail
    all_goals go_meet
    all_goals refine ⟨_, _, _, rfl, rfl, rfl, ?_, ?_, ?_, ?_, ?_, ?_, ?_⟩
    all_goals first | exact (blk3 _ _ _ _).1 | exact (blk3 _ _ _ _).2.1 | exact (blk3 _ _ _ _).2.2.1 | exact (blk3 _ _ _ _).2.2.2 | omega
  case rest =>
    clear y0 y1 v0 v1 z0 z1
    obtain ⟨A, B, C, rfl, rfl, rfl, kA, kB, kC, a1, a2, a3, hb6⟩ := hcut
    have HB6 := Lib.hid (HB5.out.trans (hb6.mono HB5.out.size))
    have HB56 := Lib.hid hb6
    have KA := Lib.hid kA
    have KB := Lib.hid kB
    have KC := Lib.hid kC
    have H9 := Lib.hid (fun h : (leftAll l (edgN l j) && !spikeB (cor l j) (cor l ((j + 1) % l.length)) (cor l ((j + 2) % l.length))) = false => show outE l = 9 by
      rw [outE_ref HR.out HA.out HTW.out]
      have h' : ((List.range l.length).all fun i => leftAll l (edgN l i) && !spikeB (cor l i) (cor l ((i + 1) % l.length)) (cor l ((i + 2) % l.length))) = false := List.all_eq_false.2 ⟨j, List.mem_range.2 HLJ.out, by rw [h]; decide⟩
      unfold refConv
      rw [h', Bool.false_and, if_pos rfl])
    clear kA kB kC a1 a2 a3 hb6
    go_wp2_with fail
    go_loopw [12] (fun s12 wr => ∃ i : Nat, i ≤ l.length ∧ s12 = .int .i64 i ∧ (∀ x, x < i → 0 ≤ (edgN l j).side (cor l x)) ∧ Below wc.heap.size wc wr) (fun i _ => l.length - (intOf i).toNat)
    case atStart => exact ⟨0, Nat.zero_le _, rfl, fun k h => by omega, Below.refl _ _⟩
    case round =>
    obtain ⟨i, hi, rfl, hle, hb⟩ := hrel
    obtain ⟨w7, rfl⟩ : ∃ w7 : World, w7 = wr := ⟨_, rfl⟩
    have HB7 := Lib.hid (HB6.out.trans (hb.mono HB6.out.size))
    have HB67 := Lib.hid hb
    have KA7 := Lib.hid (KA.out.belowS hb)
    have KB7 := Lib.hid (KB.out.belowS hb)
    have KC7 := Lib.hid (KC.out.belowS hb)
    have HLE := Lib.hid hle
    clear hle hb
    by_cases hli : i < l.length
    · have hli' : (i : Int) < (l.length : Int) := by omega
      have hi0 : (0 : Int) ≤ (i : Int) := Int.natCast_nonneg _
      have his : IntKind.i64.wrap ((i : Int) + 1) = ((i + 1 : Nat) : Int) := by rw [IntKind.wrap_i64]; omega
      obtain ⟨b4, off4, hea4, hbl4, hcap4, _, x0, x1⟩ := pts_at (HS.out.below HB7.out) (cor_get hli)
      simp only [Option.some.injEq, Addr.mk.injEq, and_true] at hea4
      obtain ⟨rfl, rfl⟩ := hea4
      have HPI := Lib.hid (cor_ok HOK.out i)
      have HLI := Lib.hid hli
      have HBL7 := Lib.hid hbl4
      obtain ⟨q, hq⟩ : ∃ q, q = cor l i := ⟨_, rfl⟩
      rw [← hq] at x0 x1 HPI
      have HQI := Lib.hid hq
      obtain ⟨c0, c1⟩ := pnt_cells KA7.out
      obtain ⟨d0, d1⟩ := pnt_cells KB7.out
      have hst7 : ∀ w', Below w7.heap.size w7 w' → (fun w' : World => Below w7.heap.size w7 w' ∧ (w'.cell? ⟨A, 0, none⟩ = some (.int .i64 qa.x) ∧ w'.cell? ⟨A, 1, none⟩ = some (.int .i64 qa.y) ∧ w'.cell? ⟨B, 0, none⟩ = some (.int .i64 qb.x) ∧ w'.cell? ⟨B, 1, none⟩ = some (.int .i64 qb.y) ∧ w'.cell? ⟨b, off + i * 2, none⟩ = some (.int .i64 q.x) ∧ w'.cell? ⟨b, off + i * 2 + 1, none⟩ = some (.int .i64 q.y))) w' := fun w' hb => by
        have x2 := KA7.out.belowS hb
        have x3 := KB7.out.belowS hb
        have e : ∀ o, w'.cell? ⟨b, o, none⟩ = w7.cell? ⟨b, o, none⟩ := fun o => hb.cell (p := ⟨b, o, none⟩) HBL7.out
        exact ⟨hb, x2.cell 0, x2.cell 1, x3.cell 0, x3.cell 1, (e _).trans x0, (e _).trans x1⟩
      have HST7 := Lib.hid hst7
      clear hst7 x0 x1 c0 c1 d0 d1 hq hli hi hbl4 hcap4
      go_upto_region 25 with fail
      have hx := HST7.out w7.drew ((Below.refl _ w7).drew)
      refine wp_region_E 8 (fun w' : World => Below w7.heap.size w7 w' ∧ (w'.cell? ⟨A, 0, none⟩ = some (.int .i64 qa.x) ∧ w'.cell? ⟨A, 1, none⟩ = some (.int .i64 qa.y) ∧ w'.cell? ⟨B, 0, none⟩ = some (.int .i64 qb.x) ∧ w'.cell? ⟨B, 1, none⟩ = some (.int .i64 qb.y) ∧ w'.cell? ⟨b, off + i * 2, none⟩ = some (.int .i64 q.x) ∧ w'.cell? ⟨b, off + i * 2 + 1, none⟩ = some (.int .i64 q.y))) (by kernel_rfl) ?_
      refine E_takeR (i := 0) (oi := _) (v := ?vt10) rfl (by kernel_rfl) (by kernel_rfl) (by kernel_rfl) (by decide) (fun _ _ _ h => h) hx (Or.inl ⟨by rfl, ?yt10⟩) ?rt10
      case yt10 => (intro w' hSw; (try dsimp only at hSw); go_simp; try with_reducible rfl)
      try simp only [Act.put, List.getElem_toArray, List.getElem_cons_zero, List.getElem_cons_succ, List.setIfInBounds_toArray, List.set_cons_zero, List.set_cons_succ]
      refine E_takeR (i := 1) (oi := _) (v := ?vt11) rfl (by kernel_rfl) (by kernel_rfl) (by kernel_rfl) (by decide) (fun _ _ _ h => h) hx (Or.inl ⟨by rfl, ?yt11⟩) ?rt11
      case yt11 => (intro w' hSw; (try dsimp only at hSw); go_simp; try with_reducible rfl)
      try simp only [Act.put, List.getElem_toArray, List.getElem_cons_zero, List.getElem_cons_succ, List.setIfInBounds_toArray, List.set_cons_zero, List.set_cons_succ]
      refine E_takeR (i := 2) (oi := _) (v := ?vt12) rfl (by kernel_rfl) (by kernel_rfl) (by kernel_rfl) (by decide) (fun _ _ _ h => h) hx (Or.inl ⟨by rfl, ?yt12⟩) ?rt12
      case yt12 => (intro w' hSw; (try dsimp only at hSw); go_simp; try with_reducible rfl)
      try simp only [Act.put, List.getElem_toArray, List.getElem_cons_zero, List.getElem_cons_succ, List.setIfInBounds_toArray, List.set_cons_zero, List.set_cons_succ]
      refine E_takeR (i := 3) (oi := _) (v := ?vt13) rfl (by kernel_rfl) (by kernel_rfl) (by kernel_rfl) (by decide) (fun _ _ _ h => h) hx (Or.inl ⟨by rfl, ?yt13⟩) ?rt13
      case yt13 => (intro w' hSw; (try dsimp only at hSw); go_simp; try with_reducible rfl)
      try simp only [Act.put, List.getElem_toArray, List.getElem_cons_zero, List.getElem_cons_succ, List.setIfInBounds_toArray, List.set_cons_zero, List.set_cons_succ]
      refine E_takeR (i := 4) (oi := _) (v := ?vt14) rfl (by kernel_rfl) (by kernel_rfl) (by kernel_rfl) (by decide) (fun _ _ _ h => h) hx (Or.inl ⟨by rfl, ?yt14⟩) ?rt14
      case yt14 => (intro w' hSw; (try dsimp only at hSw); go_simp; try with_reducible rfl)
      try simp only [Act.put, List.getElem_toArray, List.getElem_cons_zero, List.getElem_cons_succ, List.setIfInBounds_toArray, List.set_cons_zero, List.set_cons_succ]
      refine E_takeR (i := 5) (oi := _) (v := ?vt15) rfl (by kernel_rfl) (by kernel_rfl) (by kernel_rfl) (by decide) (fun _ _ _ h => h) hx (Or.inl ⟨by rfl, ?yt15⟩) ?rt15
      case yt15 => (intro w' hSw; (try dsimp only at hSw); go_simp; try with_reducible rfl)
      try simp only [Act.put, List.getElem_toArray, List.getElem_cons_zero, List.getElem_cons_succ, List.setIfInBounds_toArray, List.set_cons_zero, List.set_cons_succ]
      refine E_step (i := 6) (o := _) (by kernel_rfl) rfl (fun K hK => ?_)
      go_simp
      refine (refLeft_any qa qb q HQ.out HQK.out HPI.out _).mono ?_
      rintro e w8 ⟨rfl, hb8⟩
      (try dsimp only)
      have hb78 : Below w7.heap.size w7 w8 := hx.1.trans (hb8.mono hx.1.size)
      refine hK.out _ _ (fun _ => HST7.out w8 hb78) ?_
      clear hK K
      try simp only [Act.put, List.getElem_toArray, List.getElem_cons_zero, List.getElem_cons_succ, List.setIfInBounds_toArray, List.set_cons_zero, List.set_cons_succ]
      have hx8 := HST7.out w8 hb78
      refine E_takeR (i := 7) (oi := _) (v := ?vt16) rfl (by kernel_rfl) (by kernel_rfl) (by kernel_rfl) (by decide) (fun _ _ _ h => h) hx8 (Or.inl ⟨by rfl, ?yt16⟩) ?rt16
      case yt16 => (intro w' hSw; (try dsimp only at hSw); go_simp; try with_reducible rfl)
      try simp only [Act.put, List.getElem_toArray, List.getElem_cons_zero, List.getElem_cons_succ, List.setIfInBounds_toArray, List.set_cons_zero, List.set_cons_succ]
      refine E_done (by kernel_rfl) ?_ _
      have HB8 := Lib.hid (HB7.out.trans (hb78.mono HB7.out.size))
      have HB68 := Lib.hid (HB67.out.trans (hb78.mono HB67.out.size))
      clear hx hx8 hb8 hb78
      rw [← HED.out]
      by_cases hsd : (edgN l j).side q < 0
      · have HV := Lib.hid (H9.out (by
          have h : leftAll l (edgN l j) = false := by
            rw [Bool.eq_false_iff]
            intro h
            have := leftAll_iff.1 h _ (cor_mem HLI.out)
            rw [← HQI.out] at this
            omega
          rw [h]
          rfl))
        go_wp2_with fail
        go_ret
        exact ⟨by rw [HV.out]; rfl, HB8.out⟩
      · have HSD := Lib.hid hsd
        go_wp2_with fail
        exact ⟨⟨i + 1, by have := HLI.out; omega, by simp, fun x hx => by
          by_cases hxi : x < i
          · exact HLE.out x hxi
          · obtain rfl : x = i := by omega
            rw [← HQI.out]
            have := HSD.out
            omega, HB68.out⟩, by have := HLI.out; simp [intOf]; omega⟩
    obtain rfl : i = l.length := by omega
    have hli' : ¬ (l.length : Int) < (l.length : Int) := by omega
    have HL := Lib.hid (show leftAll l (edgN l j) = true from leftAll_iff.2 fun q hq => by
      obtain ⟨x, hx, rfl⟩ := mem_cor hq
      exact HLE.out x hx)
    clear hli hi
    go_upto_region 27 with fail
    go_cut [124] from 58 to 123 (fun t wx => t = .bool (spikeB qa qb qc) ∧ Below w7.heap.size w7 wx)
    case first =>
      obtain ⟨c0, c1⟩ := pnt_cells KA7.out
      obtain ⟨d0, d1⟩ := pnt_cells KB7.out
      obtain ⟨e0, e1⟩ := pnt_cells KC7.out
      have l1 := KA7.out.lt
      have l2 := KB7.out.lt
      have l3 := KC7.out.lt
      go_wp2_with fail
      refine (refLeft_any qa qb qc HQ.out HQK.out HQM.out _).mono ?_
      rintro e w9 ⟨rfl, hb9⟩
      clear c0 c1 d0 d1 e0 e1 l1 l2 l3
      have KA9 := Lib.hid (KA7.out.belowS hb9)
      have KB9 := Lib.hid (KB7.out.belowS hb9)
      have KC9 := Lib.hid (KC7.out.belowS hb9)
      have HB9 := Lib.hid hb9
      clear hb9
      obtain ⟨c0, c1⟩ := pnt_cells KA9.out
      obtain ⟨d0, d1⟩ := pnt_cells KB9.out
      obtain ⟨e0, e1⟩ := pnt_cells KC9.out
      have l1 := KA9.out.lt
      have l2 := KB9.out.lt
      have l3 := KC9.out.lt
      obtain ⟨sd, hsd⟩ : ∃ sd, (Edg.mk qa qb).side qc = sd := ⟨_, rfl⟩
      obtain ⟨D, hD⟩ : ∃ D, dotE qa qb qc = D := ⟨_, rfl⟩
      rw [hsd]
      obtain ⟨⟨h1, h2⟩, h3, h4⟩ := pointB_iff.1 HQ.out
      obtain ⟨⟨h5, h6⟩, h7, h8⟩ := pointB_iff.1 HQK.out
      obtain ⟨⟨h9, h10⟩, h11, h12⟩ := pointB_iff.1 HQM.out
      have b1 := mul_bd (a := qb.x - qa.x) (b := qc.x - qb.x) (m := 400) (n := 400) (by omega) (by omega) (by omega) (by omega)
      have b2 := mul_bd (a := qb.y - qa.y) (b := qc.y - qb.y) (m := 400) (n := 400) (by omega) (by omega) (by omega) (by omega)
      have r1 : IntKind.i64.wrap (qb.x - qa.x) = qb.x - qa.x := by rw [IntKind.wrap_i64]; omega
      have r2 : IntKind.i64.wrap (qc.x - qb.x) = qc.x - qb.x := by rw [IntKind.wrap_i64]; omega
      have r3 : IntKind.i64.wrap (qb.y - qa.y) = qb.y - qa.y := by rw [IntKind.wrap_i64]; omega
      have r4 : IntKind.i64.wrap (qc.y - qb.y) = qc.y - qb.y := by rw [IntKind.wrap_i64]; omega
      have r5 : IntKind.i64.wrap ((qb.x - qa.x) * (qc.x - qb.x)) = (qb.x - qa.x) * (qc.x - qb.x) := by rw [IntKind.wrap_i64]; omega
      have r6 : IntKind.i64.wrap ((qb.y - qa.y) * (qc.y - qb.y)) = (qb.y - qa.y) * (qc.y - qb.y) := by rw [IntKind.wrap_i64]; omega
      have r7 : IntKind.i64.wrap ((qb.x - qa.x) * (qc.x - qb.x) + (qb.y - qa.y) * (qc.y - qb.y)) = D := by rw [← hD, IntKind.wrap_i64]; unfold dotE; omega
      clear b1 b2 h1 h2 h3 h4 h5 h6 h7 h8 h9 h10 h11 h12
      have HSDE := Lib.hid hsd
      have HDE := Lib.hid hD
      clear hsd hD
      by_cases hz : sd = 0
      · subst hz
        by_cases hd : D < 0
        · have HV := Lib.hid (show spikeB qa qb qc = true by unfold spikeB; rw [HSDE.out, HDE.out, decide_eq_true hd]; rfl)
          go_wp2_with fail
          go_meet
          exact ⟨by first | (rw [HV.out]; done) | (rw [HV.out]; simp; done) | (rw [HV.out]; simp; omega), HB9.out⟩
        · have HV := Lib.hid (show spikeB qa qb qc = false by unfold spikeB; rw [HSDE.out, HDE.out, decide_eq_false hd]; rfl)
          go_wp2_with fail
          go_meet
          exact ⟨by first | (rw [HV.out]; done) | (rw [HV.out]; simp; done) | (rw [HV.out]; simp; omega), HB9.out⟩
      · have hzb : (sd == 0) = false := by rw [beq_eq_false_iff_ne]; exact hz
        have HV := Lib.hid (show spikeB qa qb qc = false by unfold spikeB; rw [HSDE.out, decide_eq_false hz]; rfl)
        go_wp2_with fail
        go_meet
        exact ⟨by first | (rw [HV.out]; done) | (rw [HV.out]; simp; done) | (rw [HV.out]; simp; omega), HB9.out⟩
    case rest =>
      obtain ⟨rfl, hb9⟩ := hcut
      have KA9 := Lib.hid (KA7.out.belowS hb9)
      have KB9 := Lib.hid (KB7.out.belowS hb9)
      have HB9 := Lib.hid (HB7.out.trans (hb9.mono HB7.out.size))
      clear hb9
      obtain ⟨sp, hsp⟩ : ∃ sp, spikeB qa qb qc = sp := ⟨_, rfl⟩
      rw [hsp]
      cases sp with
      | true =>
        have HV := Lib.hid (H9.out (by rw [← HQA.out, HSP.out, hsp, Bool.and_comm]; rfl))
        go_wp2_with fail
        go_ret
        exact ⟨by rw [HV.out]; rfl, HB9.out⟩
      | false =>
      have HSF := Lib.hid hsp
      clear hsp
      obtain ⟨b5, off5, hea5, hbl5, hcap5, _, x0, x1⟩ := pts_at (HS.out.below HB9.out) (cor_get (l := l) (i := 0) (by have := HN.out; omega))
      simp only [Option.some.injEq, Addr.mk.injEq, and_true] at hea5
      obtain ⟨rfl, rfl⟩ := hea5
      simp only [Nat.zero_mul, Nat.add_zero] at x0 x1
      obtain ⟨p0, hp0⟩ : ∃ p0, p0 = cor l 0 := ⟨_, rfl⟩
      rw [← hp0] at x0 x1 HQ0 HAR
      have HBL9 := Lib.hid hbl5
      have hlen0 : (0 : Int) < (l.length : Int) := by have := HN.out; omega
      have hl0 : 0 < l.length := by have := HN.out; omega
      have hwr : IntKind.i64.wrap (areaS l j + (Edg.mk p0 qa).side qb) = areaS l (j + 1) := by
        rw [HAR.out, IntKind.wrap_i64]
        have := areaS_bd HOK.out j
        have := side_rng HQ0.out HQ.out HQK.out
        have := HLJ.out
        have := HLL.out
        omega
      have hst9 : ∀ w', Below wc.heap.size wc w' → (fun w' : World => Below wc.heap.size wc w' ∧ (w'.cell? ⟨A, 0, none⟩ = some (.int .i64 qa.x) ∧ w'.cell? ⟨A, 1, none⟩ = some (.int .i64 qa.y) ∧ w'.cell? ⟨B, 0, none⟩ = some (.int .i64 qb.x) ∧ w'.cell? ⟨B, 1, none⟩ = some (.int .i64 qb.y) ∧ w'.cell? ⟨b, off, none⟩ = some (.int .i64 p0.x) ∧ w'.cell? ⟨b, off + 1, none⟩ = some (.int .i64 p0.y))) w' := fun w' hb => by
        have x2 := KA9.out.belowS hb
        have x3 := KB9.out.belowS hb
        have e : ∀ o, w'.cell? ⟨b, o, none⟩ = wc.cell? ⟨b, o, none⟩ := fun o => hb.cell (p := ⟨b, o, none⟩) HBL9.out
        exact ⟨hb, x2.cell 0, x2.cell 1, x3.cell 0, x3.cell 1, (e _).trans x0, (e _).trans x1⟩
      have HST9 := Lib.hid hst9
      clear hst9 x0 x1 hp0 hbl5 hcap5
      go_upto_region 29 with fail
      have hx := HST9.out wc.drew ((Below.refl _ wc).drew)
      refine wp_region_E 9 (fun w' : World => Below wc.heap.size wc w' ∧ (w'.cell? ⟨A, 0, none⟩ = some (.int .i64 qa.x) ∧ w'.cell? ⟨A, 1, none⟩ = some (.int .i64 qa.y) ∧ w'.cell? ⟨B, 0, none⟩ = some (.int .i64 qb.x) ∧ w'.cell? ⟨B, 1, none⟩ = some (.int .i64 qb.y) ∧ w'.cell? ⟨b, off, none⟩ = some (.int .i64 p0.x) ∧ w'.cell? ⟨b, off + 1, none⟩ = some (.int .i64 p0.y))) (by kernel_rfl) ?_
      refine E_takeR (i := 0) (oi := _) (v := ?vt17) rfl (by kernel_rfl) (by kernel_rfl) (by kernel_rfl) (by decide) (fun _ _ _ h => h) hx (Or.inl ⟨by rfl, ?yt17⟩) ?rt17
      case yt17 => (intro w' hSw; (try dsimp only at hSw); go_simp; try with_reducible rfl)
      try simp only [Act.put, List.getElem_toArray, List.getElem_cons_zero, List.getElem_cons_succ, List.setIfInBounds_toArray, List.set_cons_zero, List.set_cons_succ]
      refine E_takeR (i := 1) (oi := _) (v := ?vt18) rfl (by kernel_rfl) (by kernel_rfl) (by kernel_rfl) (by decide) (fun _ _ _ h => h) hx (Or.inl ⟨by rfl, ?yt18⟩) ?rt18
      case yt18 => (intro w' hSw; (try dsimp only at hSw); go_simp; try with_reducible rfl)
      try simp only [Act.put, List.getElem_toArray, List.getElem_cons_zero, List.getElem_cons_succ, List.setIfInBounds_toArray, List.set_cons_zero, List.set_cons_succ]
      refine E_takeR (i := 2) (oi := _) (v := ?vt19) rfl (by kernel_rfl) (by kernel_rfl) (by kernel_rfl) (by decide) (fun _ _ _ h => h) hx (Or.inl ⟨by rfl, ?yt19⟩) ?rt19
      case yt19 => (intro w' hSw; (try dsimp only at hSw); go_simp; try with_reducible rfl)
      try simp only [Act.put, List.getElem_toArray, List.getElem_cons_zero, List.getElem_cons_succ, List.setIfInBounds_toArray, List.set_cons_zero, List.set_cons_succ]
      refine E_takeR (i := 3) (oi := _) (v := ?vt20) rfl (by kernel_rfl) (by kernel_rfl) (by kernel_rfl) (by decide) (fun _ _ _ h => h) hx (Or.inl ⟨by rfl, ?yt20⟩) ?rt20
      case yt20 => (intro w' hSw; (try dsimp only at hSw); go_simp; try with_reducible rfl)
      try simp only [Act.put, List.getElem_toArray, List.getElem_cons_zero, List.getElem_cons_succ, List.setIfInBounds_toArray, List.set_cons_zero, List.set_cons_succ]
      refine E_takeR (i := 4) (oi := _) (v := ?vt21) rfl (by kernel_rfl) (by kernel_rfl) (by kernel_rfl) (by decide) (fun _ _ _ h => h) hx (Or.inl ⟨by rfl, ?yt21⟩) ?rt21
      case yt21 => (intro w' hSw; (try dsimp only at hSw); go_simp; try with_reducible rfl)
      try simp only [Act.put, List.getElem_toArray, List.getElem_cons_zero, List.getElem_cons_succ, List.setIfInBounds_toArray, List.set_cons_zero, List.set_cons_succ]
      refine E_takeR (i := 5) (oi := _) (v := ?vt22) rfl (by kernel_rfl) (by kernel_rfl) (by kernel_rfl) (by decide) (fun _ _ _ h => h) hx (Or.inl ⟨by rfl, ?yt22⟩) ?rt22
      case yt22 => (intro w' hSw; (try dsimp only at hSw); go_simp; try with_reducible rfl)
      try simp only [Act.put, List.getElem_toArray, List.getElem_cons_zero, List.getElem_cons_succ, List.setIfInBounds_toArray, List.set_cons_zero, List.set_cons_succ]
      refine E_step (i := 6) (o := _) (by kernel_rfl) rfl (fun K hK => ?_)
      go_simp
      refine (refLeft_any p0 qa qb HQ0.out HQ.out HQK.out _).mono ?_
      rintro e w10 ⟨rfl, hb10⟩
      (try dsimp only)
      have hb910 : Below wc.heap.size wc w10 := hx.1.trans (hb10.mono hx.1.size)
      refine hK.out _ _ (fun _ => HST9.out w10 hb910) ?_
      clear hK K
      try simp only [Act.put, List.getElem_toArray, List.getElem_cons_zero, List.getElem_cons_succ, List.setIfInBounds_toArray, List.set_cons_zero, List.set_cons_succ]
      have hx10 := HST9.out w10 hb910
      refine E_takeR (i := 7) (oi := _) (v := ?vt23) rfl (by kernel_rfl) (by kernel_rfl) (by kernel_rfl) (by decide) (fun _ _ _ h => h) hx10 (Or.inl ⟨by rfl, ?yt23⟩) ?rt23
      case yt23 => (intro w' hSw; (try dsimp only at hSw); go_simp; try with_reducible rfl)
      try simp only [Act.put, List.getElem_toArray, List.getElem_cons_zero, List.getElem_cons_succ, List.setIfInBounds_toArray, List.set_cons_zero, List.set_cons_succ]
      refine E_takeR (i := 8) (oi := _) (v := ?vt24) rfl (by kernel_rfl) (by kernel_rfl) (by kernel_rfl) (by decide) (fun _ _ _ h => h) hx10 (Or.inl ⟨by rfl, ?yt24⟩) ?rt24
      case yt24 => (intro w' hSw; (try dsimp only at hSw); go_simp; try with_reducible rfl)
      try simp only [Act.put, List.getElem_toArray, List.getElem_cons_zero, List.getElem_cons_succ, List.setIfInBounds_toArray, List.set_cons_zero, List.set_cons_succ]
      refine E_done (by kernel_rfl) ?_ _
      have HB10 := Lib.hid (HB9.out.trans (hb910.mono HB9.out.size))
      clear hx hx10 hb10 hb910
      go_wp2_with fail
      exact ⟨⟨j + 1, by have := HLJ.out; omega, rfl, by simp, fun x hx => by
        by_cases hxj : x < j
        · exact HGO.out x hxj
        · obtain rfl : x = j := by have := HLJ.out; omega
          rw [HL.out, ← HQA.out, HSP.out, HSF.out]; rfl, HB10.out⟩, by have := HLJ.out; simp [intOf]; omega⟩
end Go.Proofs.YtoigihmgjacbjaaDoor
