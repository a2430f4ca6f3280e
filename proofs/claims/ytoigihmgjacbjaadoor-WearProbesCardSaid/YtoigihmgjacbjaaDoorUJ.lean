/- thatchref07.agree: whether there are thicknesses of which all is true. No condition. -/
import Derived.Test.YtoigihmgjacbjaaDoorUF
import Derived.Test.YtoigihmgjacbjaaDoorUI
set_option linter.unusedSimpArgs false
namespace Go.Proofs.YtoigihmgjacbjaaDoor
open Go.RowKit

set_option maxRecDepth 100000 in
set_option maxHeartbeats 16000000 in
theorem refAgree_any (S : Skn) (w : World) (hS : IsSkn w S) (hst : 0 ≤ S.steep ∧ S.steep ≤ 1000) (hmk : ∀ m ∈ S.ms, mrkOk m) :
    Calls Tryd.prog 53 #[.agg #[.slice S.pa S.pts.length S.pc, .slice S.ha S.hs.length S.hc, .int .i64 S.steep, .int .i64 S.th.lo, .int .i64 S.th.hi, .slice S.ma S.ms.length S.mc]] w fun e w' => e = .returned (.bool (agreeB S)) ∧ Below w.heap.size w w' := by
  have k1 := Blk.new w 30 #[.slice S.pa S.pts.length S.pc, .slice S.ha S.hs.length S.hc, .int .i64 S.steep, .int .i64 S.th.lo, .int .i64 S.th.hi, .slice S.ma S.ms.length S.mc]
  have hb1 : Below w.heap.size w (w.alloc (.cells #[.slice S.pa S.pts.length S.pc, .slice S.ha S.hs.length S.hc, .int .i64 S.steep, .int .i64 S.th.lo, .int .i64 S.th.hi, .slice S.ma S.ms.length S.mc] 30)) := (Below.refl _ w).alloc (Nat.le_refl _) _
  have HS := Lib.hid hS
  have HSTP := Lib.hid hst
  have HMK := Lib.hid hmk
  have hlen := hS.ms.len
  clear hS hst hmk
  go_enter Tryd.func53, Tryd.ntmps53
  go_upto_region 1 with fail
  generalize (w.alloc (.cells #[.slice S.pa S.pts.length S.pc, .slice S.ha S.hs.length S.hc, .int .i64 S.steep, .int .i64 S.th.lo, .int .i64 S.th.hi, .slice S.ma S.ms.length S.mc] 30)) = w1 at *
  obtain ⟨s0, s1, s2, s3, s4, s5⟩ := skn_cells (S := S) k1
  have l1 := k1.lt
  have HB1 := Lib.hid hb1
  have K1 := Lib.hid k1
  clear k1 hb1
  go_wp2_with fail
  go_loopw [3, 4, 5, 6] (fun s3 s4 s5 s6 wr => ∃ j : Nat, j ≤ S.ms.length ∧ s3 = .int .i64 j ∧ ((S.ms.take j).all fun a => selfB S a && S.ms.all fun b => farB S a b) = true ∧ Below w1.heap.size w1 wr) (fun i _ _ _ _ => S.ms.length - (intOf i).toNat)
  case atStart => exact ⟨0, Nat.zero_le _, rfl, by simp, Below.refl _ _⟩
  case round =>
  clear s0 s1 s2 s3 s4 s5 l1
  obtain ⟨j, hj, rfl, hall, hb⟩ := hrel
  obtain ⟨w5, rfl⟩ : ∃ w5 : World, w5 = wr := ⟨_, rfl⟩
  have HB5 := Lib.hid (HB1.out.trans (hb.mono HB1.out.size))
  have HB15 := Lib.hid hb
  have K5 := Lib.hid (K1.out.belowS hb)
  have HALL := Lib.hid hall
  clear hall hb
  obtain ⟨s0, s1, s2, s3, s4, s5⟩ := skn_cells (S := S) K5.out
  have l1 := K5.out.lt
  by_cases hlj : j < S.ms.length
  rotate_left
  · obtain rfl : j = S.ms.length := by omega
    have hlj' : ¬ (S.ms.length : Int) < (S.ms.length : Int) := by omega
    have HV := Lib.hid (show agreeB S = true by have := HALL.out; rwa [List.take_of_length_le (Nat.le_refl _)] at this)
    clear hlj hj
    go_wp2_with fail
    go_ret
    exact ⟨by rw [HV.out]; rfl, HB5.out⟩
  have hlj' : (j : Int) < (S.ms.length : Int) := by omega
  have hj0 : (0 : Int) ≤ (j : Int) := Int.natCast_nonneg _
  have hjs : IntKind.i64.wrap ((j : Int) + 1) = ((j + 1 : Nat) : Int) := by rw [IntKind.wrap_i64]; omega
  have hq : S.ms[j]? = some S.ms[j] := List.getElem?_eq_getElem hlj
  obtain ⟨b, off, hea, hbl, hcap, hcx, x0, x1, x2, x3⟩ := (HS.out.below HB5.out).ms.at hq
  have HT := Lib.hid (all_take_succ S.ms (fun a => selfB S a && S.ms.all fun b => farB S a b) j _ hq)
  have HM := Lib.hid (List.getElem_mem hlj)
  generalize S.ms[j] = a at *
  simp only [mrkC, List.getElem?_toArray, List.getElem?_cons_zero, List.getElem?_cons_succ] at x0 x1 x2 x3 hea
  have HMA := Lib.hid (HMK.out a HM.out)
  have HNO := Lib.hid (fun h : (selfB S a && S.ms.all fun b => farB S a b) = false => show agreeB S = false from List.all_eq_false.2 ⟨a, HM.out, by rw [h]; decide⟩)
  rw [hea] at s5
  have HEA := Lib.hid hea
  have HLJ := Lib.hid hlj
  have kA := Blk.new w5 61 #[.int .i64 a.at_.x, .int .i64 a.at_.y, .int .i64 a.th.lo, .int .i64 a.th.hi]
  have hb6 : Below w5.heap.size w5 (w5.alloc (.cells #[.int .i64 a.at_.x, .int .i64 a.at_.y, .int .i64 a.th.lo, .int .i64 a.th.hi] 61)) := (Below.refl _ w5).alloc (Nat.le_refl _) _
  have HB6 := Lib.hid (HB5.out.trans (hb6.mono HB5.out.size))
  have HB16 := Lib.hid (HB15.out.trans (hb6.mono HB15.out.size))
  have K6 := Lib.hid (K5.out.belowS hb6)
  clear hq hlj hj hb6 hea
  go_upto_region 5 with fail
  clear s0 s1 s2 s3 s4 s5 l1 x0 x1 x2 x3 hbl hcap hcx
  generalize w5.alloc (.cells #[.int .i64 a.at_.x, .int .i64 a.at_.y, .int .i64 a.th.lo, .int .i64 a.th.hi] 61) = w6 at *
  obtain ⟨x0, x1, x2, x3⟩ := (show w6.cell? ⟨w5.heap.size, 0, none⟩ = some (.int .i64 a.at_.x) ∧ w6.cell? ⟨w5.heap.size, 1, none⟩ = some (.int .i64 a.at_.y) ∧ w6.cell? ⟨w5.heap.size, 2, none⟩ = some (.int .i64 a.th.lo) ∧ w6.cell? ⟨w5.heap.size, 3, none⟩ = some (.int .i64 a.th.hi) from ⟨kA.cell 0, kA.cell 1, kA.cell 2, kA.cell 3⟩)
  have la := kA.lt
  have KA := Lib.hid kA
  clear kA
  obtain ⟨s0, s1, s2, s3, s4, s5⟩ := skn_cells (S := S) K6.out
  have l1 := K6.out.lt
  by_cases c1 : S.th.hi < a.th.lo
  · have HV := Lib.hid (HNO.out (by
      have : selfB S a = false := by unfold selfB; rw [decide_eq_false (by omega), Bool.false_and]
      rw [this, Bool.false_and]))
    go_wp2_with fail
    go_ret
    exact ⟨by rw [HV.out]; rfl, HB6.out⟩
  by_cases c2 : a.th.hi < S.th.lo
  · have HV := Lib.hid (HNO.out (by
      have : selfB S a = false := by unfold selfB; rw [decide_eq_false (p := S.th.lo ≤ a.th.hi) (by omega), Bool.and_false]
      rw [this, Bool.false_and]))
    go_wp2_with fail
    go_ret
    exact ⟨by rw [HV.out]; rfl, HB6.out⟩
  have HSELF := Lib.hid (show selfB S a = true by unfold selfB; rw [decide_eq_true (p := S.th.lo ≤ a.th.hi) (by omega), decide_eq_true (by omega)]; rfl)
  go_wp2_with fail
  go_loopw [5, 6] (fun s5 s6 wr => ∃ k : Nat, k ≤ S.ms.length ∧ s5 = .int .i64 k ∧ ((S.ms.take k).all fun b => farB S a b) = true ∧ Below w6.heap.size w6 wr) (fun i _ _ => S.ms.length - (intOf i).toNat)
  case atStart => exact ⟨0, Nat.zero_le _, rfl, by simp, Below.refl _ _⟩
  case round =>
  clear s0 s1 s2 s3 s4 s5 l1 x0 x1 x2 x3 la c1 c2
  obtain ⟨k, hk, rfl, hall, hb⟩ := hrel
  obtain ⟨w7, rfl⟩ : ∃ w7 : World, w7 = wr := ⟨_, rfl⟩
  have HB7 := Lib.hid (HB6.out.trans (hb.mono HB6.out.size))
  have HB67 := Lib.hid hb
  have HB17 := Lib.hid (HB16.out.trans (hb.mono HB16.out.size))
  have K7 := Lib.hid (K6.out.belowS hb)
  have KA7 := Lib.hid (KA.out.belowS hb)
  have HFAR := Lib.hid hall
  clear hall hb
  obtain ⟨s0, s1, s2, s3, s4, s5⟩ := skn_cells (S := S) K7.out
  have l1 := K7.out.lt
  by_cases hlk : k < S.ms.length
  rotate_left
  · obtain rfl : k = S.ms.length := by omega
    have hlk' : ¬ (S.ms.length : Int) < (S.ms.length : Int) := by omega
    have HV := Lib.hid (show (S.ms.all fun b => farB S a b) = true by have := HFAR.out; rwa [List.take_of_length_le (Nat.le_refl _)] at this)
    clear hlk hk
    go_wp2_with fail
    exact ⟨⟨j + 1, by have := HLJ.out; omega, by simp, by rw [HT.out, HALL.out, HSELF.out, HV.out]; rfl, HB17.out⟩, by have := HLJ.out; simp [intOf]; omega⟩
  have hlk' : (k : Int) < (S.ms.length : Int) := by omega
  have hk0 : (0 : Int) ≤ (k : Int) := Int.natCast_nonneg _
  have hks : IntKind.i64.wrap ((k : Int) + 1) = ((k + 1 : Nat) : Int) := by rw [IntKind.wrap_i64]; omega
  have hq : S.ms[k]? = some S.ms[k] := List.getElem?_eq_getElem hlk
  obtain ⟨b2, off2, hea2, hbl, hcap, hcx, x0, x1, x2, x3⟩ := (HS.out.below HB7.out).ms.at hq
  have HT2 := Lib.hid (all_take_succ S.ms (fun b => farB S a b) k _ hq)
  have HM2 := Lib.hid (List.getElem_mem hlk)
  generalize S.ms[k] = q at *
  simp only [mrkC, List.getElem?_toArray, List.getElem?_cons_zero, List.getElem?_cons_succ] at x0 x1 x2 x3 hea2
  have HMQ := Lib.hid (HMK.out q HM2.out)
  rw [hea2] at s5
  have HLK := Lib.hid hlk
  have kQ := Blk.new w7 61 #[.int .i64 q.at_.x, .int .i64 q.at_.y, .int .i64 q.th.lo, .int .i64 q.th.hi]
  have hb8 : Below w7.heap.size w7 (w7.alloc (.cells #[.int .i64 q.at_.x, .int .i64 q.at_.y, .int .i64 q.th.lo, .int .i64 q.th.hi] 61)) := (Below.refl _ w7).alloc (Nat.le_refl _) _
  have HB8 := Lib.hid (HB7.out.trans (hb8.mono HB7.out.size))
  have HB68 := Lib.hid (HB67.out.trans (hb8.mono HB67.out.size))
  have K8 := Lib.hid (K7.out.belowS hb8)
  have KA8 := Lib.hid (KA7.out.belowS hb8)
  clear hq hlk hk hb8 hea2
  go_upto_region 11 with fail
  clear s0 s1 s2 s3 s4 s5 l1 x0 x1 x2 x3 hbl hcap hcx
  generalize w7.alloc (.cells #[.int .i64 q.at_.x, .int .i64 q.at_.y, .int .i64 q.th.lo, .int .i64 q.th.hi] 61) = w8 at *
  have KQ := Lib.hid kQ
  clear kQ
  have hst : ∀ w', Below w8.heap.size w8 w' → (fun w' : World => Below w8.heap.size w8 w' ∧ (w'.cell? ⟨w5.heap.size, 0, none⟩ = some (.int .i64 a.at_.x) ∧ w'.cell? ⟨w5.heap.size, 1, none⟩ = some (.int .i64 a.at_.y) ∧ w'.cell? ⟨w5.heap.size, 2, none⟩ = some (.int .i64 a.th.lo) ∧ w'.cell? ⟨w5.heap.size, 3, none⟩ = some (.int .i64 a.th.hi) ∧ w'.cell? ⟨w7.heap.size, 0, none⟩ = some (.int .i64 q.at_.x) ∧ w'.cell? ⟨w7.heap.size, 1, none⟩ = some (.int .i64 q.at_.y) ∧ w'.cell? ⟨w7.heap.size, 2, none⟩ = some (.int .i64 q.th.lo) ∧ w'.cell? ⟨w7.heap.size, 3, none⟩ = some (.int .i64 q.th.hi) ∧ w'.cell? ⟨w.heap.size, 2, none⟩ = some (.int .i64 S.steep))) w' := fun w' hb => by
    have y1 := KA8.out.belowS hb
    have y2 := KQ.out.belowS hb
    have y3 := K8.out.belowS hb
    exact ⟨hb, y1.cell 0, y1.cell 1, y1.cell 2, y1.cell 3, y2.cell 0, y2.cell 1, y2.cell 2, y2.cell 3, y3.cell 2⟩
  have HST := Lib.hid hst
  clear hst
  obtain ⟨d, hd⟩ : ∃ d, S.steep * distM a.at_ q.at_ = d := ⟨_, rfl⟩
  have hdr : 0 ≤ d ∧ d ≤ 800000 := by
    have k1 := dist_bd HMA.out.1 HMQ.out.1
    have k2 := HSTP.out
    have k3 := mul_bd (a := S.steep) (b := distM a.at_ q.at_) (m := 1000) (n := 800) (by omega) (by omega) (by omega) (by omega)
    have k4 := Int.mul_nonneg k2.1 k1.1
    omega
  have hqr := isSpanB_iff.1 HMQ.out.2
  have w1' : IntKind.i64.wrap (S.steep * distM a.at_ q.at_) = d := by rw [IntKind.wrap_i64, hd]; omega
  have w2' : IntKind.i64.wrap (q.th.hi + d) = q.th.hi + d := by rw [IntKind.wrap_i64]; omega
  have HD := Lib.hid hd
  clear hd hdr hqr
  have hx := HST.out w8.drew ((Below.refl _ w8).drew)
  refine wp_region_E 16 (fun w' : World => Below w8.heap.size w8 w' ∧ (w'.cell? ⟨w5.heap.size, 0, none⟩ = some (.int .i64 a.at_.x) ∧ w'.cell? ⟨w5.heap.size, 1, none⟩ = some (.int .i64 a.at_.y) ∧ w'.cell? ⟨w5.heap.size, 2, none⟩ = some (.int .i64 a.th.lo) ∧ w'.cell? ⟨w5.heap.size, 3, none⟩ = some (.int .i64 a.th.hi) ∧ w'.cell? ⟨w7.heap.size, 0, none⟩ = some (.int .i64 q.at_.x) ∧ w'.cell? ⟨w7.heap.size, 1, none⟩ = some (.int .i64 q.at_.y) ∧ w'.cell? ⟨w7.heap.size, 2, none⟩ = some (.int .i64 q.th.lo) ∧ w'.cell? ⟨w7.heap.size, 3, none⟩ = some (.int .i64 q.th.hi) ∧ w'.cell? ⟨w.heap.size, 2, none⟩ = some (.int .i64 S.steep))) (by kernel_rfl) ?_
  refine E_takeR (i := 0) (oi := _) (v := ?vt10) rfl (by kernel_rfl) (by kernel_rfl) (by kernel_rfl) (by decide) (fun _ _ _ h => h) hx (Or.inl ⟨by rfl, ?yt10⟩) ?rt10
  case yt10 => (intro w' hSw; (try dsimp only at hSw); go_simp; try with_reducible rfl)
  try simp only [Act.put, List.getElem_toArray, List.getElem_cons_zero, List.getElem_cons_succ, List.setIfInBounds_toArray, List.set_cons_zero, List.set_cons_succ]
  refine E_takeR (i := 1) (oi := _) (v := ?vt11) rfl (by kernel_rfl) (by kernel_rfl) (by kernel_rfl) (by decide) (fun _ _ _ h => h) hx (Or.inl ⟨by rfl, ?yt11⟩) ?rt11
  case yt11 => (intro w' hSw; (try dsimp only at hSw); go_simp; try with_reducible rfl)
  try simp only [Act.put, List.getElem_toArray, List.getElem_cons_zero, List.getElem_cons_succ, List.setIfInBounds_toArray, List.set_cons_zero, List.set_cons_succ]
  refine E_takeR (i := 2) (oi := _) (v := ?vt12) rfl (by kernel_rfl) (by kernel_rfl) (by kernel_rfl) (by decide) (fun _ _ _ h => h) hx (Or.inl ⟨by rfl, ?yt12⟩) ?rt12
  case yt12 => (intro w' hSw; (try dsimp only at hSw); go_simp; try with_reducible rfl)
  try simp only [Act.put, List.getElem_toArray, List.getElem_cons_zero, List.getElem_cons_succ, List.setIfInBounds_toArray, List.set_cons_zero, List.set_cons_succ]
  refine E_takeR (i := 3) (oi := _) (v := ?vt13) rfl (by kernel_rfl) (by kernel_rfl) (by kernel_rfl) (by decide) (fun _ _ _ h => h) hx (Or.inl ⟨by rfl, ?yt13⟩) ?rt13
  case yt13 => (intro w' hSw; (try dsimp only at hSw); go_simp; try with_reducible rfl)
  try simp only [Act.put, List.getElem_toArray, List.getElem_cons_zero, List.getElem_cons_succ, List.setIfInBounds_toArray, List.set_cons_zero, List.set_cons_succ]
  refine E_takeR (i := 4) (oi := _) (v := ?vt14) rfl (by kernel_rfl) (by kernel_rfl) (by kernel_rfl) (by decide) (fun _ _ _ h => h) hx (Or.inl ⟨by rfl, ?yt14⟩) ?rt14
  case yt14 => (intro w' hSw; (try dsimp only at hSw); go_simp; try with_reducible rfl)
  try simp only [Act.put, List.getElem_toArray, List.getElem_cons_zero, List.getElem_cons_succ, List.setIfInBounds_toArray, List.set_cons_zero, List.set_cons_succ]
  refine E_takeR (i := 5) (oi := _) (v := ?vt15) rfl (by kernel_rfl) (by kernel_rfl) (by kernel_rfl) (by decide) (fun _ _ _ h => h) hx (Or.inl ⟨by rfl, ?yt15⟩) ?rt15
  case yt15 => (intro w' hSw; (try dsimp only at hSw); go_simp; try with_reducible rfl)
  try simp only [Act.put, List.getElem_toArray, List.getElem_cons_zero, List.getElem_cons_succ, List.setIfInBounds_toArray, List.set_cons_zero, List.set_cons_succ]
  refine E_takeR (i := 6) (oi := _) (v := ?vt16) rfl (by kernel_rfl) (by kernel_rfl) (by kernel_rfl) (by decide) (fun _ _ _ h => h) hx (Or.inl ⟨by rfl, ?yt16⟩) ?rt16
  case yt16 => (intro w' hSw; (try dsimp only at hSw); go_simp; try with_reducible rfl)
  try simp only [Act.put, List.getElem_toArray, List.getElem_cons_zero, List.getElem_cons_succ, List.setIfInBounds_toArray, List.set_cons_zero, List.set_cons_succ]
  refine E_takeR (i := 7) (oi := _) (v := ?vt17) rfl (by kernel_rfl) (by kernel_rfl) (by kernel_rfl) (by decide) (fun _ _ _ h => h) hx (Or.inl ⟨by rfl, ?yt17⟩) ?rt17
  case yt17 => (intro w' hSw; (try dsimp only at hSw); go_simp; try with_reducible rfl)
  try simp only [Act.put, List.getElem_toArray, List.getElem_cons_zero, List.getElem_cons_succ, List.setIfInBounds_toArray, List.set_cons_zero, List.set_cons_succ]
  refine E_takeR (i := 8) (oi := _) (v := ?vt18) rfl (by kernel_rfl) (by kernel_rfl) (by kernel_rfl) (by decide) (fun _ _ _ h => h) hx (Or.inl ⟨by rfl, ?yt18⟩) ?rt18
  case yt18 => (intro w' hSw; (try dsimp only at hSw); go_simp; try with_reducible rfl)
  try simp only [Act.put, List.getElem_toArray, List.getElem_cons_zero, List.getElem_cons_succ, List.setIfInBounds_toArray, List.set_cons_zero, List.set_cons_succ]
  refine E_takeR (i := 9) (oi := _) (v := ?vt19) rfl (by kernel_rfl) (by kernel_rfl) (by kernel_rfl) (by decide) (fun _ _ _ h => h) hx (Or.inl ⟨by rfl, ?yt19⟩) ?rt19
  case yt19 => (intro w' hSw; (try dsimp only at hSw); go_simp; try with_reducible rfl)
  try simp only [Act.put, List.getElem_toArray, List.getElem_cons_zero, List.getElem_cons_succ, List.setIfInBounds_toArray, List.set_cons_zero, List.set_cons_succ]
  refine E_takeR (i := 10) (oi := _) (v := ?vt20) rfl (by kernel_rfl) (by kernel_rfl) (by kernel_rfl) (by decide) (fun _ _ _ h => h) hx (Or.inl ⟨by rfl, ?yt20⟩) ?rt20
  case yt20 => (intro w' hSw; (try dsimp only at hSw); go_simp; try with_reducible rfl)
  try simp only [Act.put, List.getElem_toArray, List.getElem_cons_zero, List.getElem_cons_succ, List.setIfInBounds_toArray, List.set_cons_zero, List.set_cons_succ]
  refine E_takeR (i := 11) (oi := _) (v := ?vt21) rfl (by kernel_rfl) (by kernel_rfl) (by kernel_rfl) (by decide) (fun _ _ _ h => h) hx (Or.inl ⟨by rfl, ?yt21⟩) ?rt21
  case yt21 => (intro w' hSw; (try dsimp only at hSw); go_simp; try with_reducible rfl)
  try simp only [Act.put, List.getElem_toArray, List.getElem_cons_zero, List.getElem_cons_succ, List.setIfInBounds_toArray, List.set_cons_zero, List.set_cons_succ]
  refine E_step (i := 12) (o := _) (by kernel_rfl) rfl (fun K hK => ?_)
  go_simp
  refine (refFar_any a.at_ q.at_ HMA.out.1 HMQ.out.1 _).mono ?_
  rintro e w9 ⟨rfl, hb9⟩
  (try dsimp only)
  have hb89 : Below w8.heap.size w8 w9 := hx.1.trans (hb9.mono hx.1.size)
  refine hK.out _ _ (fun _ => HST.out w9 hb89) ?_
  clear hK K
  try simp only [Act.put, List.getElem_toArray, List.getElem_cons_zero, List.getElem_cons_succ, List.setIfInBounds_toArray, List.set_cons_zero, List.set_cons_succ]
  have hx9 := HST.out w9 hb89
  refine E_takeR (i := 13) (oi := _) (v := ?vt22) rfl (by kernel_rfl) (by kernel_rfl) (by kernel_rfl) (by decide) (fun _ _ _ h => h) hx9 (Or.inl ⟨by rfl, ?yt22⟩) ?rt22
  case yt22 => (intro w' hSw; (try dsimp only at hSw); go_simp; try with_reducible rfl)
  try simp only [Act.put, List.getElem_toArray, List.getElem_cons_zero, List.getElem_cons_succ, List.setIfInBounds_toArray, List.set_cons_zero, List.set_cons_succ]
  refine E_takeR (i := 14) (oi := _) (v := ?vt23) rfl (by kernel_rfl) (by kernel_rfl) (by kernel_rfl) (by decide) (fun _ _ _ h => h) hx9 (Or.inl ⟨by rfl, ?yt23⟩) ?rt23
  case yt23 => (intro w' hSw; (try dsimp only at hSw); go_simp; try with_reducible rfl)
  try simp only [Act.put, List.getElem_toArray, List.getElem_cons_zero, List.getElem_cons_succ, List.setIfInBounds_toArray, List.set_cons_zero, List.set_cons_succ]
  refine E_takeR (i := 15) (oi := _) (v := ?vt24) rfl (by kernel_rfl) (by kernel_rfl) (by kernel_rfl) (by decide) (fun _ _ _ h => h) hx9 (Or.inl ⟨by rfl, ?yt24⟩) ?rt24
  case yt24 => (intro w' hSw; (try dsimp only at hSw); go_simp; try with_reducible rfl)
  try simp only [Act.put, List.getElem_toArray, List.getElem_cons_zero, List.getElem_cons_succ, List.setIfInBounds_toArray, List.set_cons_zero, List.set_cons_succ]
  refine E_done (by kernel_rfl) ?_ _
  have HB9 := Lib.hid (HB8.out.trans (hb89.mono HB8.out.size))
  have HB69 := Lib.hid (HB68.out.trans (hb89.mono HB68.out.size))
  clear hx hx9 hb9 hb89 w1' w2'
  by_cases hgt : q.th.hi + d < a.th.lo
  · have HV := Lib.hid (HNO.out (by
      have h1 : farB S a q = false := by unfold farB; rw [HD.out]; exact decide_eq_false (by omega)
      have h2 : (S.ms.all fun b => farB S a b) = false := List.all_eq_false.2 ⟨q, HM2.out, by rw [h1]; decide⟩
      rw [h2, Bool.and_false]))
    go_wp2_with fail
    go_ret
    exact ⟨by rw [HV.out]; rfl, HB9.out⟩
  · have HF := Lib.hid (show farB S a q = true by unfold farB; rw [HD.out]; exact decide_eq_true (by omega))
    go_wp2_with fail
    exact ⟨⟨k + 1, by have := HLK.out; omega, by simp, by rw [HT2.out, HFAR.out, HF.out]; rfl, HB69.out⟩, by have := HLK.out; simp [intOf]; omega⟩
end Go.Proofs.YtoigihmgjacbjaaDoor
