/- thatchref07.Same of skins that are alike: they are the same. No condition. -/
import Derived.Test.YtoigihmgjacbjaaDoorVI
set_option linter.unusedSimpArgs false
namespace Go.Proofs.YtoigihmgjacbjaaDoor
open Go.RowKit

theorem run_equalIn_mark (d : Nat) (m : Mrk) (w : World) : (Op.equalIn (d + 3) 61 (.agg #[.int .i64 m.at_.x, .int .i64 m.at_.y, .int .i64 m.th.lo, .int .i64 m.th.hi]) (.agg #[.int .i64 m.at_.x, .int .i64 m.at_.y, .int .i64 m.th.lo, .int .i64 m.th.hi])).run Tryd.prog w = .ok true w := by
  have h1 := fun w => run_equalIn_at d m.at_ m.at_ w
  have h2 := fun w => run_equalIn_span d m.th m.th w
  rw [run_equalIn_struct w (d + 2) 61 _ _ (by kernel_rfl) (by kernel_rfl)]
  simp [Program.fieldsOf, Tryd.underlying61, Op.eqFields, go_sem, h1, h2]
theorem run_equalIn_box (d : Nat) (h : Hol) (w : World) : (Op.equalIn (d + 3) 64 (.agg #[.int .i64 h.a.x, .int .i64 h.a.y, .int .i64 h.b.x, .int .i64 h.b.y]) (.agg #[.int .i64 h.a.x, .int .i64 h.a.y, .int .i64 h.b.x, .int .i64 h.b.y])).run Tryd.prog w = .ok true w := by
  have h1 := fun w => run_equalIn_at d h.a h.a w
  have h2 := fun w => run_equalIn_at d h.b h.b w
  rw [run_equalIn_struct w (d + 2) 64 _ _ (by kernel_rfl) (by kernel_rfl)]
  simp [Program.fieldsOf, Tryd.underlying64, Op.eqFields, go_sem, h1, h2]
theorem pts_at {w : World} {a : Option Addr} {c : Nat} {l : List Pnt} (h : IsPts w (.slice a l.length c) l) {j : Nat} {p : Pnt} (hj : l[j]? = some p) :
    ∃ b off, a = some ⟨b, off, none⟩ ∧ b < w.heap.size ∧ l.length ≤ c ∧ c ≤ 9223372036854775807 ∧ w.cell? ⟨b, off + j * 2, none⟩ = some (.int .i64 p.x) ∧ w.cell? ⟨b, off + j * 2 + 1, none⟩ = some (.int .i64 p.y) := by
  rcases h with ⟨_, h⟩ | ⟨b, off, cap, e, h1, h2, h3, h4⟩
  · subst h
    simp at hj
  · obtain ⟨rfl, _, rfl⟩ := slice_inj e
    exact ⟨b, off, rfl, h1, h2, h3, (h4 j p hj).1, (h4 j p hj).2⟩

set_option maxRecDepth 100000 in
set_option maxHeartbeats 16000000 in
theorem sameAlike_any (S R : Skn) (w : World) (hS : IsSkn w S) (hR : IsSkn w R) (h : Alike S R) :
    Calls Tryd.prog 14 #[.agg (sknC S), .agg (sknC R)] w fun e w' => e = .returned (.bool true) ∧ Below w.heap.size w w' := by
  obtain ⟨ba, bc, bpts, ha2, hc2, bhs, bst, bth, ma2, mc2, bms⟩ := R
  obtain ⟨h1, h2, h3, h4, h5⟩ := h
  simp only at h1 h2 h3 h4 h5
  subst h1 h2 h3 h4 h5
  simp only [sknC]
  have k1 := (Blk.new w 30 #[.slice S.pa S.pts.length S.pc, .slice S.ha S.hs.length S.hc, .int .i64 S.steep, .int .i64 S.th.lo, .int .i64 S.th.hi, .slice S.ma S.ms.length S.mc]).alloc (.cells #[.slice ba S.pts.length bc, .slice ha2 S.hs.length hc2, .int .i64 S.steep, .int .i64 S.th.lo, .int .i64 S.th.hi, .slice ma2 S.ms.length mc2] 30)
  have k2 := Blk.new (w.alloc (.cells #[.slice S.pa S.pts.length S.pc, .slice S.ha S.hs.length S.hc, .int .i64 S.steep, .int .i64 S.th.lo, .int .i64 S.th.hi, .slice S.ma S.ms.length S.mc] 30)) 30 #[.slice ba S.pts.length bc, .slice ha2 S.hs.length hc2, .int .i64 S.steep, .int .i64 S.th.lo, .int .i64 S.th.hi, .slice ma2 S.ms.length mc2]
  rw [World.size_alloc] at k2
  have hb1 : Below w.heap.size w ((w.alloc (.cells #[.slice S.pa S.pts.length S.pc, .slice S.ha S.hs.length S.hc, .int .i64 S.steep, .int .i64 S.th.lo, .int .i64 S.th.hi, .slice S.ma S.ms.length S.mc] 30)).alloc (.cells #[.slice ba S.pts.length bc, .slice ha2 S.hs.length hc2, .int .i64 S.steep, .int .i64 S.th.lo, .int .i64 S.th.hi, .slice ma2 S.ms.length mc2] 30)) := ((Below.refl _ w).alloc (Nat.le_refl _) _).alloc (by simp) _
  have y0 : (S.steep == S.steep) = true := by simp
  have y1 : (S.steep != S.steep) = false := by simp
  have y2 : ((S.ms.length : Int) == (S.ms.length : Int)) = true := by simp
  have y3 : ((S.ms.length : Int) != (S.ms.length : Int)) = false := by simp
  have y4 : ((S.pts.length : Int) == (S.pts.length : Int)) = true := by simp
  have y5 : ((S.pts.length : Int) != (S.pts.length : Int)) = false := by simp
  have y6 : ((S.hs.length : Int) == (S.hs.length : Int)) = true := by simp
  have y7 : ((S.hs.length : Int) != (S.hs.length : Int)) = false := by simp
  have he : ∀ w, (Op.equalIn 10000 27 (.agg #[.int .i64 S.th.lo, .int .i64 S.th.hi]) (.agg #[.int .i64 S.th.lo, .int .i64 S.th.hi])).run Tryd.prog w = .ok true w := fun w => (run_equalIn_span 9998 S.th S.th w).trans (by simp)
  have hpl : S.pts.length ≤ 9223372036854775807 := by
    rcases hS.pts with ⟨_, h⟩ | ⟨_, _, _, _, _, h1, h2, _⟩
    · rw [h]; simp
    · omega
  have HLEN := Lib.hid (And.intro hpl (And.intro hS.hs.len hS.ms.len))
  have HA1 := Lib.hid (hS.below hb1)
  have HA2 := Lib.hid (hR.below hb1)
  clear hS hR hpl
  go_enter Tryd.func14, Tryd.ntmps14
  go_upto_region 1 with fail
  generalize ((w.alloc (.cells #[.slice S.pa S.pts.length S.pc, .slice S.ha S.hs.length S.hc, .int .i64 S.steep, .int .i64 S.th.lo, .int .i64 S.th.hi, .slice S.ma S.ms.length S.mc] 30)).alloc (.cells #[.slice ba S.pts.length bc, .slice ha2 S.hs.length hc2, .int .i64 S.steep, .int .i64 S.th.lo, .int .i64 S.th.hi, .slice ma2 S.ms.length mc2] 30)) = w1 at *
  have HB1 := Lib.hid hb1
  have HX0 := Lib.hid (Below.refl w1.heap.size w1)
  have K1 := Lib.hid k1
  have K2 := Lib.hid k2
  clear k1 k2 hb1
  obtain ⟨s0, s1, s2, s3, s4, s5⟩ := skn_cells (S := S) K1.out
  obtain ⟨r0, r1, r2, r3, r4, r5⟩ := (show w1.cell? ⟨w.heap.size + 1, 0, none⟩ = some (.slice ba S.pts.length bc) ∧ w1.cell? ⟨w.heap.size + 1, 1, none⟩ = some (.slice ha2 S.hs.length hc2) ∧ w1.cell? ⟨w.heap.size + 1, 2, none⟩ = some (.int .i64 S.steep) ∧ w1.cell? ⟨w.heap.size + 1, 3, none⟩ = some (.int .i64 S.th.lo) ∧ w1.cell? ⟨w.heap.size + 1, 4, none⟩ = some (.int .i64 S.th.hi) ∧ w1.cell? ⟨w.heap.size + 1, 5, none⟩ = some (.slice ma2 S.ms.length mc2) from ⟨K2.out.cell 0, K2.out.cell 1, K2.out.cell 2, K2.out.cell 3, K2.out.cell 4, K2.out.cell 5⟩)
  have l1 := K1.out.lt
  have l2 := K2.out.lt
  go_wp2_with fail
  clear he y0 y1 y2 y3 y4 y5 y6 y7
  go_loopw [5] (fun sN wr => ∃ j : Nat, j ≤ S.ms.length ∧ sN = .int .i64 j ∧ Below w1.heap.size w1 wr) (fun i _ => S.ms.length - (intOf i).toNat)
  case atStart => exact ⟨0, Nat.zero_le _, rfl, HX0.out⟩
  case round =>
  clear s0 s1 s2 s3 s4 s5 r0 r1 r2 r3 r4 r5 l1 l2
  obtain ⟨j, hj, rfl, hb3⟩ := hrel
  obtain ⟨wl1, rfl⟩ : ∃ wl1 : World, wl1 = wr := ⟨_, rfl⟩
  have HX1 := Lib.hid hb3
  have KA1 := Lib.hid (K1.out.belowS hb3)
  have KB1 := Lib.hid (K2.out.belowS hb3)
  clear hb3
  obtain ⟨s0, s1, s2, s3, s4, s5⟩ := skn_cells (S := S) KA1.out
  obtain ⟨r0, r1, r2, r3, r4, r5⟩ := (show wl1.cell? ⟨w.heap.size + 1, 0, none⟩ = some (.slice ba S.pts.length bc) ∧ wl1.cell? ⟨w.heap.size + 1, 1, none⟩ = some (.slice ha2 S.hs.length hc2) ∧ wl1.cell? ⟨w.heap.size + 1, 2, none⟩ = some (.int .i64 S.steep) ∧ wl1.cell? ⟨w.heap.size + 1, 3, none⟩ = some (.int .i64 S.th.lo) ∧ wl1.cell? ⟨w.heap.size + 1, 4, none⟩ = some (.int .i64 S.th.hi) ∧ wl1.cell? ⟨w.heap.size + 1, 5, none⟩ = some (.slice ma2 S.ms.length mc2) from ⟨KB1.out.cell 0, KB1.out.cell 1, KB1.out.cell 2, KB1.out.cell 3, KB1.out.cell 4, KB1.out.cell 5⟩)
  have l1 := KA1.out.lt
  have l2 := KB1.out.lt
  by_cases hlj : j < S.ms.length
  · have hlj' : (j : Int) < (S.ms.length : Int) := by omega
    have hj0 : (0 : Int) ≤ (j : Int) := Int.natCast_nonneg _
    have hjs : IntKind.i64.wrap ((j : Int) + 1) = ((j + 1 : Nat) : Int) := by have := HLEN.out; rw [IntKind.wrap_i64]; omega
    have hq : S.ms[j]? = some S.ms[j] := List.getElem?_eq_getElem hlj
    obtain ⟨b, off, hea, hbl, hcap, hcx, x0, x1, x2, x3⟩ := (HA1.out.below HX1.out).ms.at hq
    obtain ⟨b', off', hea', hbl', hcap', hcx', v0, v1, v2, v3⟩ := (HA2.out.below HX1.out).ms.at hq
    generalize S.ms[j] = m at *
    simp only [mrkC, List.getElem?_toArray, List.getElem?_cons_zero, List.getElem?_cons_succ] at x0 x1 x2 x3 v0 v1 v2 v3 hea'
    have he : ∀ w, (Op.equalIn 10000 61 (.agg #[.int .i64 m.at_.x, .int .i64 m.at_.y, .int .i64 m.th.lo, .int .i64 m.th.hi]) (.agg #[.int .i64 m.at_.x, .int .i64 m.at_.y, .int .i64 m.th.lo, .int .i64 m.th.hi])).run Tryd.prog w = .ok true w := fun w => run_equalIn_mark 9997 m w
    rw [hea] at s5
    rw [hea'] at r5
    clear hea hea'
    have HLJ := Lib.hid hlj
    clear hq hlj hj
    go_wp2_with fail
    go_quiet (fail)
    go_wp2_with fail
    exact ⟨⟨j + 1, by have := HLJ.out; omega, by simp, HX1.out.trans (below_drewN _ _ _)⟩, by have := HLJ.out; simp [intOf]; omega⟩
  have hlj' : ¬ (j : Int) < (S.ms.length : Int) := by omega
  clear hlj hj
  go_wp2_with fail
  go_loopw [6] (fun sN wr => ∃ j : Nat, j ≤ S.pts.length ∧ sN = .int .i64 j ∧ Below w1.heap.size w1 wr) (fun i _ => S.pts.length - (intOf i).toNat)
  case atStart => exact ⟨0, Nat.zero_le _, rfl, HX1.out⟩
  case round =>
  clear s0 s1 s2 s3 s4 s5 r0 r1 r2 r3 r4 r5 l1 l2
  obtain ⟨j, hj, rfl, hb3⟩ := hrel
  obtain ⟨wl2, rfl⟩ : ∃ wl2 : World, wl2 = wr := ⟨_, rfl⟩
  have HX2 := Lib.hid hb3
  have KA2 := Lib.hid (K1.out.belowS hb3)
  have KB2 := Lib.hid (K2.out.belowS hb3)
  clear hb3
  obtain ⟨s0, s1, s2, s3, s4, s5⟩ := skn_cells (S := S) KA2.out
  obtain ⟨r0, r1, r2, r3, r4, r5⟩ := (show wl2.cell? ⟨w.heap.size + 1, 0, none⟩ = some (.slice ba S.pts.length bc) ∧ wl2.cell? ⟨w.heap.size + 1, 1, none⟩ = some (.slice ha2 S.hs.length hc2) ∧ wl2.cell? ⟨w.heap.size + 1, 2, none⟩ = some (.int .i64 S.steep) ∧ wl2.cell? ⟨w.heap.size + 1, 3, none⟩ = some (.int .i64 S.th.lo) ∧ wl2.cell? ⟨w.heap.size + 1, 4, none⟩ = some (.int .i64 S.th.hi) ∧ wl2.cell? ⟨w.heap.size + 1, 5, none⟩ = some (.slice ma2 S.ms.length mc2) from ⟨KB2.out.cell 0, KB2.out.cell 1, KB2.out.cell 2, KB2.out.cell 3, KB2.out.cell 4, KB2.out.cell 5⟩)
  have l1 := KA2.out.lt
  have l2 := KB2.out.lt
  by_cases hlj : j < S.pts.length
  · have hlj' : (j : Int) < (S.pts.length : Int) := by omega
    have hj0 : (0 : Int) ≤ (j : Int) := Int.natCast_nonneg _
    have hjs : IntKind.i64.wrap ((j : Int) + 1) = ((j + 1 : Nat) : Int) := by have := HLEN.out; rw [IntKind.wrap_i64]; omega
    have hq : S.pts[j]? = some S.pts[j] := List.getElem?_eq_getElem hlj
    obtain ⟨b, off, hea, hbl, hcap, hcx, x0, x1⟩ := pts_at (HA1.out.below HX2.out).pts hq
    obtain ⟨b', off', hea', hbl', hcap', hcx', v0, v1⟩ := pts_at (HA2.out.below HX2.out).pts hq
    generalize S.pts[j] = m at *
    have he : ∀ w, (Op.equalIn 10000 45 (.agg #[.int .i64 m.x, .int .i64 m.y]) (.agg #[.int .i64 m.x, .int .i64 m.y])).run Tryd.prog w = .ok true w := fun w => (run_equalIn_at 9998 m m w).trans (by simp)
    simp only at hea'
    rw [hea] at s0
    rw [hea'] at r0
    clear hea hea'
    have HLJ := Lib.hid hlj
    clear hq hlj hj
    go_wp2_with fail
    go_quiet (fail)
    go_wp2_with fail
    exact ⟨⟨j + 1, by have := HLJ.out; omega, by simp, HX2.out.trans (below_drewN _ _ _)⟩, by have := HLJ.out; simp [intOf]; omega⟩
  have hlj' : ¬ (j : Int) < (S.pts.length : Int) := by omega
  clear hlj hj
  go_wp2_with fail
  go_loopw [7] (fun sN wr => ∃ j : Nat, j ≤ S.hs.length ∧ sN = .int .i64 j ∧ Below w1.heap.size w1 wr) (fun i _ => S.hs.length - (intOf i).toNat)
  case atStart => exact ⟨0, Nat.zero_le _, rfl, HX2.out⟩
  case round =>
  clear s0 s1 s2 s3 s4 s5 r0 r1 r2 r3 r4 r5 l1 l2
  obtain ⟨j, hj, rfl, hb3⟩ := hrel
  obtain ⟨wl3, rfl⟩ : ∃ wl3 : World, wl3 = wr := ⟨_, rfl⟩
  have HX3 := Lib.hid hb3
  have KA3 := Lib.hid (K1.out.belowS hb3)
  have KB3 := Lib.hid (K2.out.belowS hb3)
  clear hb3
  obtain ⟨s0, s1, s2, s3, s4, s5⟩ := skn_cells (S := S) KA3.out
  obtain ⟨r0, r1, r2, r3, r4, r5⟩ := (show wl3.cell? ⟨w.heap.size + 1, 0, none⟩ = some (.slice ba S.pts.length bc) ∧ wl3.cell? ⟨w.heap.size + 1, 1, none⟩ = some (.slice ha2 S.hs.length hc2) ∧ wl3.cell? ⟨w.heap.size + 1, 2, none⟩ = some (.int .i64 S.steep) ∧ wl3.cell? ⟨w.heap.size + 1, 3, none⟩ = some (.int .i64 S.th.lo) ∧ wl3.cell? ⟨w.heap.size + 1, 4, none⟩ = some (.int .i64 S.th.hi) ∧ wl3.cell? ⟨w.heap.size + 1, 5, none⟩ = some (.slice ma2 S.ms.length mc2) from ⟨KB3.out.cell 0, KB3.out.cell 1, KB3.out.cell 2, KB3.out.cell 3, KB3.out.cell 4, KB3.out.cell 5⟩)
  have l1 := KA3.out.lt
  have l2 := KB3.out.lt
  by_cases hlj : j < S.hs.length
  · have hlj' : (j : Int) < (S.hs.length : Int) := by omega
    have hj0 : (0 : Int) ≤ (j : Int) := Int.natCast_nonneg _
    have hjs : IntKind.i64.wrap ((j : Int) + 1) = ((j + 1 : Nat) : Int) := by have := HLEN.out; rw [IntKind.wrap_i64]; omega
    have hq : S.hs[j]? = some S.hs[j] := List.getElem?_eq_getElem hlj
    obtain ⟨b, off, hea, hbl, hcap, hcx, x0, x1, x2, x3⟩ := (HA1.out.below HX3.out).hs.at hq
    obtain ⟨b', off', hea', hbl', hcap', hcx', v0, v1, v2, v3⟩ := (HA2.out.below HX3.out).hs.at hq
    generalize S.hs[j] = m at *
    simp only [holC, List.getElem?_toArray, List.getElem?_cons_zero, List.getElem?_cons_succ] at x0 x1 x2 x3 v0 v1 v2 v3 hea'
    have he : ∀ w, (Op.equalIn 10000 64 (.agg #[.int .i64 m.a.x, .int .i64 m.a.y, .int .i64 m.b.x, .int .i64 m.b.y]) (.agg #[.int .i64 m.a.x, .int .i64 m.a.y, .int .i64 m.b.x, .int .i64 m.b.y])).run Tryd.prog w = .ok true w := fun w => run_equalIn_box 9997 m w
    rw [hea] at s1
    rw [hea'] at r1
    clear hea hea'
    have HLJ := Lib.hid hlj
    clear hq hlj hj
    go_wp2_with fail
    go_quiet (fail)
    go_wp2_with fail
    exact ⟨⟨j + 1, by have := HLJ.out; omega, by simp, HX3.out.trans (below_drewN _ _ _)⟩, by have := HLJ.out; simp [intOf]; omega⟩
  have hlj' : ¬ (j : Int) < (S.hs.length : Int) := by omega
  clear hlj hj
  go_wp2_with fail
  go_ret
  exact ⟨rfl, HB1.out.trans (HX3.out.mono HB1.out.size)⟩
end Go.Proofs.YtoigihmgjacbjaaDoor
