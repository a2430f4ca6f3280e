/- Height of the specification: what it returns of any roof, face and point. -/
import Derived.Test.YtpdgcajbdaleeaaEJ
import Derived.Test.YtpdgcajbdaleeaaEK
import Derived.Deep.RegionWith
set_option linter.unusedSimpArgs false
namespace Go.Proofs.Ytpdgcajbdaleeaa
open Go.RowKit

theorem cset_other {w : World} {X i L c : Nat} {u z : Value} (h : w.cell? ⟨X, i, none⟩ = some u) (hne : X ≠ L) : (w.setCell ⟨L, c, none⟩ z).cell? ⟨X, i, none⟩ = some u :=
  (World.cell?_of_block (w := w) (a := ⟨X, i, none⟩) (Below.heap_setCell w ⟨L, c, none⟩ z X hne)).trans h
theorem hnum_bd {f : Fac} {p : Pnt} (hf : f.ok) (hp : p.ok) : -1000000000 ≤ hNum f p ∧ hNum f p ≤ 1000000000 := by
  have h1 : -10000 ≤ ownV f.side p ∧ ownV f.side p ≤ 10000 := by
    obtain ⟨⟨h1, h2⟩, h3, h4⟩ := hp
    unfold ownV
    (repeat' split) <;> omega
  have h2 : -10000 ≤ ownV f.side ⟨f.foot, f.foot⟩ ∧ ownV f.side ⟨f.foot, f.foot⟩ ≤ 10000 := by
    have h1 := hf.f0
    have h2 := hf.f1
    unfold ownV
    (repeat' split) <;> simp only [] <;> omega
  have q1 := mul_bd5 (a := f.base) (b := f.run) (by have := hf.b0; omega) (by have := hf.b1; omega) (by have := hf.n0; omega) (by have := hf.n1; omega)
  have q2 := mul_bd5 (a := f.rise) (b := ownV f.side p - ownV f.side ⟨f.foot, f.foot⟩) (by have := hf.r0; omega) (by have := hf.r1; omega) (by omega) (by omega)
  unfold hNum
  omega
theorem has_from (R : Roo) (i : Int) : isFromB i 0 ((R.fs.length : Int) - 1) = hasB R i := by
  unfold isFromB hasB
  congr 1
  rw [decide_eq_decide]
  omega

set_option maxRecDepth 100000 in
set_option maxHeartbeats 8000000 in
theorem refHeight_any (R : Roo) (i : Int) (p : Pnt) (w : World) (hR : IsRoof w R) :
    Calls Try.prog 11 #[.agg #[.slice R.fa R.fs.length R.fc, .slice R.oa R.os.length R.oc], .int .i64 i, .agg #[.int .i64 p.x, .int .i64 p.y]] w (HeightSaid R i p w) := by
  have kR := ((Blk.new w 25 #[.slice R.fa R.fs.length R.fc, .slice R.oa R.os.length R.oc]).alloc (.cells #[.int .i64 p.x, .int .i64 p.y] 27)).alloc (.cells #[.int .i64 0, .int .i64 0] 31)
  have kP := (Blk.new (w.alloc (.cells #[.slice R.fa R.fs.length R.fc, .slice R.oa R.os.length R.oc] 25)) 27 #[.int .i64 p.x, .int .i64 p.y]).alloc (.cells #[.int .i64 0, .int .i64 0] 31)
  have kQ := Blk.new ((w.alloc (.cells #[.slice R.fa R.fs.length R.fc, .slice R.oa R.os.length R.oc] 25)).alloc (.cells #[.int .i64 p.x, .int .i64 p.y] 27)) 31 #[.int .i64 0, .int .i64 0]
  simp only [World.size_alloc] at kP kQ
  have hb1 : Below w.heap.size w (((w.alloc (.cells #[.slice R.fa R.fs.length R.fc, .slice R.oa R.os.length R.oc] 25)).alloc (.cells #[.int .i64 p.x, .int .i64 p.y] 27)).alloc (.cells #[.int .i64 0, .int .i64 0] 31)) := (((Below.refl _ _).alloc (Nat.le_refl _) _).alloc (by simp) _).alloc (by simp; omega) _
  have HR := Lib.hid hR
  have HR1 := Lib.hid (hR.below hb1)
  clear hR
  go_enter Try.func11, Try.ntmps11
  go_upto_region 1 with fail
  generalize (((w.alloc (.cells #[.slice R.fa R.fs.length R.fc, .slice R.oa R.os.length R.oc] 25)).alloc (.cells #[.int .i64 p.x, .int .i64 p.y] 27)).alloc (.cells #[.int .i64 0, .int .i64 0] 31)) = w1 at *
  have HB1 := Lib.hid hb1
  have HKR := Lib.hid kR
  have HKP := Lib.hid kP
  have HKQ := Lib.hid kQ
  clear hb1 kR kP kQ
  have r0 := (HKR.out.belowS (Below.refl _ _)).cell 0
  have r1 := (HKR.out.belowS (Below.refl _ _)).cell 1
  have lr := (HKR.out.belowS (Below.refl _ _)).lt
  simp only [List.getElem?_toArray, List.getElem?_cons_zero, List.getElem?_cons_succ] at r0 r1
  go_wp2_with fail
  refine (refCheck_any R w1 HR1.out).mono ?_
  rintro e w2 ⟨rfl, hb2⟩
  have HB2 := Lib.hid hb2
  clear hb2 r0 r1 lr
  obtain ⟨E, hE⟩ : ∃ E, checkE R = E := ⟨_, rfl⟩
  rw [hE]
  have HE := Lib.hid hE
  clear hE
  by_cases h0 : E = 0
  rotate_left
  · have hz : (E == 0) = false := by simp [h0]
    have hz' : (E != 0) = true := by simp [h0]
    have H0 := Lib.hid h0
    clear h0
    have q0 := (HKQ.out.belowS HB2.out).cell 0
    have q1 := (HKQ.out.belowS HB2.out).cell 1
    have f0 := (HKQ.out.belowS HB2.out).frozen 0
    have f1 := (HKQ.out.belowS HB2.out).frozen 1
    have lq := (HKQ.out.belowS HB2.out).lt
    simp only [List.getElem?_toArray, List.getElem?_cons_zero, List.getElem?_cons_succ] at q0 q1
    go_wp2_with fail
    have kz := ((HKQ.out.belowS HB2.out).set 0 (.int .i64 (0))).set 1 (.int .i64 (0))
    have z0 := kz.cell 0
    have z1 := kz.cell 1
    simp only [List.setIfInBounds_toArray, List.set_cons_zero, List.set_cons_succ, List.getElem?_toArray, List.getElem?_cons_zero, List.getElem?_cons_succ] at z0 z1
    refine bodyPost_ret (v := .tuple #[.agg #[.int .i64 (0), .int .i64 (0)], .int .i64 E]) (by simp [results, Try.results11, go_sem, z0, z1]) rfl ⟨((HB1.out.trans ((HB2.out).mono HB1.out.size)).setCell (p := ⟨w.heap.size + 1 + 1, 0, none⟩) (by simp; omega) _).setCell (p := ⟨w.heap.size + 1 + 1, 1, none⟩) (by simp; omega) _, ?_⟩
    rw [if_pos (by rw [HE.out]; exact H0.out), HE.out]
  subst h0
  have hz : ((0 : Int) == 0) = true := rfl
  have hl16 := (checkE_faces HE.out).1
  have hwl : IntKind.i64.wrap ((R.fs.length : Int) - 1) = (R.fs.length : Int) - 1 := by rw [IntKind.wrap_i64]; omega
  have r0 := (HKR.out.belowS HB2.out).cell 0
  have r1 := (HKR.out.belowS HB2.out).cell 1
  have lr := (HKR.out.belowS HB2.out).lt
  simp only [List.getElem?_toArray, List.getElem?_cons_zero, List.getElem?_cons_succ] at r0 r1
  have q0 := (HKQ.out.belowS HB2.out).cell 0
  have q1 := (HKQ.out.belowS HB2.out).cell 1
  have f0 := (HKQ.out.belowS HB2.out).frozen 0
  have f1 := (HKQ.out.belowS HB2.out).frozen 1
  have lq := (HKQ.out.belowS HB2.out).lt
  simp only [List.getElem?_toArray, List.getElem?_cons_zero, List.getElem?_cons_succ] at q0 q1
  go_wp2_with fail
  refine (refIn1_any i 0 ((R.fs.length : Int) - 1) _).mono ?_
  rintro e w' ⟨rfl, rfl⟩
  rw [has_from]
  cases hh : hasB R i with
  | false =>
    have HH := Lib.hid hh
    clear hh
    go_wp2_with fail
    have kz := ((HKQ.out.belowS HB2.out).set 0 (.int .i64 (0))).set 1 (.int .i64 (0))
    have z0 := kz.cell 0
    have z1 := kz.cell 1
    simp only [List.setIfInBounds_toArray, List.set_cons_zero, List.set_cons_succ, List.getElem?_toArray, List.getElem?_cons_zero, List.getElem?_cons_succ] at z0 z1
    refine bodyPost_ret (v := .tuple #[.agg #[.int .i64 (0), .int .i64 (0)], .int .i64 7]) (by simp [results, Try.results11, go_sem, z0, z1]) rfl ⟨((HB1.out.trans ((HB2.out).mono HB1.out.size)).setCell (p := ⟨w.heap.size + 1 + 1, 0, none⟩) (by simp; omega) _).setCell (p := ⟨w.heap.size + 1 + 1, 1, none⟩) (by simp; omega) _, ?_⟩
    rw [if_neg (by rw [HE.out]; simp), if_pos HH.out]
  | true =>
  have HH := Lib.hid hh
  have hh' := hh
  simp only [hasB, Bool.and_eq_true, decide_eq_true_eq] at hh'
  obtain ⟨hi0, hi1⟩ := hh'
  clear hh
  have p0 := (HKP.out.belowS HB2.out).cell 0
  have p1 := (HKP.out.belowS HB2.out).cell 1
  have lp := (HKP.out.belowS HB2.out).lt
  simp only [List.getElem?_toArray, List.getElem?_cons_zero, List.getElem?_cons_succ] at p0 p1
  go_wp2_with fail
  refine (refPlanned_any p _).mono ?_
  rintro e w3 ⟨rfl, hb3⟩
  have HB3 := Lib.hid (HB2.out.trans (hb3.mono HB2.out.size))
  clear hb3 p0 p1 lp q0 q1 f0 f1 lq r0 r1 lr
  have q0 := (HKQ.out.belowS HB3.out).cell 0
  have q1 := (HKQ.out.belowS HB3.out).cell 1
  have f0 := (HKQ.out.belowS HB3.out).frozen 0
  have f1 := (HKQ.out.belowS HB3.out).frozen 1
  have lq := (HKQ.out.belowS HB3.out).lt
  simp only [List.getElem?_toArray, List.getElem?_cons_zero, List.getElem?_cons_succ] at q0 q1
  cases hp : p.okB with
  | false =>
    have HP := Lib.hid hp
    clear hp
    go_wp2_with fail
    have kz := ((HKQ.out.belowS HB3.out).set 0 (.int .i64 (0))).set 1 (.int .i64 (0))
    have z0 := kz.cell 0
    have z1 := kz.cell 1
    simp only [List.setIfInBounds_toArray, List.set_cons_zero, List.set_cons_succ, List.getElem?_toArray, List.getElem?_cons_zero, List.getElem?_cons_succ] at z0 z1
    refine bodyPost_ret (v := .tuple #[.agg #[.int .i64 (0), .int .i64 (0)], .int .i64 1]) (by simp [results, Try.results11, go_sem, z0, z1]) rfl ⟨((HB1.out.trans ((HB3.out).mono HB1.out.size)).setCell (p := ⟨w.heap.size + 1 + 1, 0, none⟩) (by simp; omega) _).setCell (p := ⟨w.heap.size + 1 + 1, 1, none⟩) (by simp; omega) _, ?_⟩
    rw [if_neg (by rw [HE.out]; simp), if_neg (by rw [HH.out]; simp), if_pos HP.out]
  | true =>
  have HP := Lib.hid hp
  have hpok : p.ok := Pnt.okB_iff.1 hp
  clear hp q0 q1 f0 f1 lq
  obtain ⟨k, rfl⟩ := Int.eq_ofNat_of_zero_le hi0
  have hkl : k < R.fs.length := by omega
  have hq : R.fs[k]? = some R.fs[k] := List.getElem?_eq_getElem hkl
  obtain ⟨fb, fo, hfa, hfb, hfc, hfc2, hfp⟩ := fac_of HR.out hq
  have hfok := checkE_ok HE.out R.fs[k] (List.getElem_mem hkl)
  have hk3 : (k : Int) < (R.fc : Int) := by omega
  have hfk := hfp k _ hq
  have HBW := Lib.hid (HB1.out.trans (HB3.out.mono HB1.out.size))
  have HFK := Lib.hid (fun W (h : Below w.heap.size w W) => hfk.1.below h hfb)
  generalize R.fs[k] = F at *
  have HQ := Lib.hid hq
  have HFA := Lib.hid hfa
  have HFN := Lib.hid (show fb ≠ w.heap.size + 1 + 1 by omega)
  have hbd := hnum_bd hfok hpok
  have HRI := Lib.hid (fun W => refRise_any F p W hfok hpok)
  have HLO := Lib.hid (fun W => refLowest_any (hNum F p) F.run hbd.1 hbd.2 hfok.n0 (by have := hfok.n1; omega) W)
  have hx0 : ∀ W, Below w3.heap.size w3 W → (fun w' : World => w'.cell? ⟨w.heap.size, 0, none⟩ = some (.slice (some ⟨fb, fo, none⟩) R.fs.length R.fc) ∧ w'.cell? ⟨w.heap.size + 1, 0, none⟩ = some (.int .i64 p.x) ∧ w'.cell? ⟨w.heap.size + 1, 1, none⟩ = some (.int .i64 p.y) ∧ w'.cell? ⟨fb, fo + k * 7, none⟩ = some (.string F.name) ∧ w'.cell? ⟨fb, fo + k * 7 + 1, none⟩ = some (.int .i64 F.side) ∧ w'.cell? ⟨fb, fo + k * 7 + 2, none⟩ = some (.int .i64 F.foot) ∧ w'.cell? ⟨fb, fo + k * 7 + 3, none⟩ = some (.int .i64 F.base) ∧ w'.cell? ⟨fb, fo + k * 7 + 4, none⟩ = some (.int .i64 F.rise) ∧ w'.cell? ⟨fb, fo + k * 7 + 5, none⟩ = some (.int .i64 F.run) ∧ w'.cell? ⟨fb, fo + k * 7 + 6, none⟩ = some (.slice F.ca F.cs.length F.cc)) W := fun W h => by
    have hb := HB3.out.trans (h.mono HB3.out.size)
    obtain ⟨b0, b1, b2, b3, b4, b5, b6⟩ := HFK.out W (HB1.out.trans (hb.mono HB1.out.size))
    have a0 : W.cell? ⟨w.heap.size, 0, none⟩ = some (.slice (some ⟨fb, fo, none⟩) R.fs.length R.fc) := by rw [← HFA.out]; exact (HKR.out.belowS hb).cell 0
    exact ⟨a0, (HKP.out.belowS hb).cell 0, (HKP.out.belowS hb).cell 1, b0, b1, b2, b3, b4, b5, b6⟩
  have HX := Lib.hid hx0
  have HBP := Lib.hid HB3.out
  obtain ⟨wp, rfl⟩ : ∃ wp : World, wp = w3 := ⟨_, rfl⟩
  clear hx0 hq hfa hfb hfp hfk hbd hfok hpok hkl
  go_upto_region 8 with fail
  refine wp_region_E 16 (fun w' => w'.cell? ⟨w.heap.size, 0, none⟩ = some (.slice (some ⟨fb, fo, none⟩) R.fs.length R.fc) ∧ w'.cell? ⟨w.heap.size + 1, 0, none⟩ = some (.int .i64 p.x) ∧ w'.cell? ⟨w.heap.size + 1, 1, none⟩ = some (.int .i64 p.y) ∧ w'.cell? ⟨fb, fo + k * 7, none⟩ = some (.string F.name) ∧ w'.cell? ⟨fb, fo + k * 7 + 1, none⟩ = some (.int .i64 F.side) ∧ w'.cell? ⟨fb, fo + k * 7 + 2, none⟩ = some (.int .i64 F.foot) ∧ w'.cell? ⟨fb, fo + k * 7 + 3, none⟩ = some (.int .i64 F.base) ∧ w'.cell? ⟨fb, fo + k * 7 + 4, none⟩ = some (.int .i64 F.rise) ∧ w'.cell? ⟨fb, fo + k * 7 + 5, none⟩ = some (.int .i64 F.run) ∧ w'.cell? ⟨fb, fo + k * 7 + 6, none⟩ = some (.slice F.ca F.cs.length F.cc)) (by kernel_rfl) ?_
  have Bh0 := Lib.hid ((Below.refl wp.heap.size wp).drew)
  have hh0 := HX.out wp.drew Bh0.out
  refine E_takeR (i := 0) (oi := _) (v := ?v1) rfl (by kernel_rfl) (by kernel_rfl) (by kernel_rfl) (by decide) (fun _ _ _ h => h) hh0 (Or.inl ⟨by rfl, ?y1⟩) ?r1
  case y1 => (intro w' hSw; (try dsimp only at hSw); go_simp; try with_reducible rfl)
  try simp only [Act.put, List.getElem_toArray, List.getElem_cons_zero, List.getElem_cons_succ, List.setIfInBounds_toArray, List.set_cons_zero, List.set_cons_succ]
  refine E_takeR (i := 1) (oi := _) (v := ?v2) rfl (by kernel_rfl) (by kernel_rfl) (by kernel_rfl) (by decide) (fun _ _ _ h => h) hh0 (Or.inl ⟨by rfl, ?y2⟩) ?r2
  case y2 => (intro w' hSw; (try dsimp only at hSw); go_simp; try with_reducible rfl)
  try simp only [Act.put, List.getElem_toArray, List.getElem_cons_zero, List.getElem_cons_succ, List.setIfInBounds_toArray, List.set_cons_zero, List.set_cons_succ]
  refine E_takeR (i := 2) (oi := _) (v := ?v3) rfl (by kernel_rfl) (by kernel_rfl) (by kernel_rfl) (by decide) (fun _ _ _ h => h) hh0 (Or.inl ⟨by rfl, ?y3⟩) ?r3
  case y3 => (intro w' hSw; (try dsimp only at hSw); go_simp; try with_reducible rfl)
  try simp only [Act.put, List.getElem_toArray, List.getElem_cons_zero, List.getElem_cons_succ, List.setIfInBounds_toArray, List.set_cons_zero, List.set_cons_succ]
  refine E_takeR (i := 3) (oi := _) (v := ?v4) rfl (by kernel_rfl) (by kernel_rfl) (by kernel_rfl) (by decide) (fun _ _ _ h => h) hh0 (Or.inl ⟨by rfl, ?y4⟩) ?r4
  case y4 => (intro w' hSw; (try dsimp only at hSw); go_simp; try with_reducible rfl)
  try simp only [Act.put, List.getElem_toArray, List.getElem_cons_zero, List.getElem_cons_succ, List.setIfInBounds_toArray, List.set_cons_zero, List.set_cons_succ]
  refine E_takeR (i := 4) (oi := _) (v := ?v5) rfl (by kernel_rfl) (by kernel_rfl) (by kernel_rfl) (by decide) (fun _ _ _ h => h) hh0 (Or.inl ⟨by rfl, ?y5⟩) ?r5
  case y5 => (intro w' hSw; (try dsimp only at hSw); go_simp; try with_reducible rfl)
  try simp only [Act.put, List.getElem_toArray, List.getElem_cons_zero, List.getElem_cons_succ, List.setIfInBounds_toArray, List.set_cons_zero, List.set_cons_succ]
  refine E_takeR (i := 5) (oi := _) (v := ?v6) rfl (by kernel_rfl) (by kernel_rfl) (by kernel_rfl) (by decide) (fun _ _ _ h => h) hh0 (Or.inl ⟨by rfl, ?y6⟩) ?r6
  case y6 => (intro w' hSw; (try dsimp only at hSw); go_simp; try with_reducible rfl)
  try simp only [Act.put, List.getElem_toArray, List.getElem_cons_zero, List.getElem_cons_succ, List.setIfInBounds_toArray, List.set_cons_zero, List.set_cons_succ]
  refine E_takeR (i := 7) (oi := _) (v := ?v7) rfl (by kernel_rfl) (by kernel_rfl) (by kernel_rfl) (by decide) (fun _ _ _ h => h) hh0 (Or.inl ⟨by rfl, ?y7⟩) ?r7
  case y7 => (intro w' hSw; (try dsimp only at hSw); go_simp; try with_reducible rfl)
  try simp only [Act.put, List.getElem_toArray, List.getElem_cons_zero, List.getElem_cons_succ, List.setIfInBounds_toArray, List.set_cons_zero, List.set_cons_succ]
  refine E_takeR (i := 8) (oi := _) (v := ?v8) rfl (by kernel_rfl) (by kernel_rfl) (by kernel_rfl) (by decide) (fun _ _ _ h => h) hh0 (Or.inl ⟨by rfl, ?y8⟩) ?r8
  case y8 => (intro w' hSw; (try dsimp only at hSw); go_simp; try with_reducible rfl)
  try simp only [Act.put, List.getElem_toArray, List.getElem_cons_zero, List.getElem_cons_succ, List.setIfInBounds_toArray, List.set_cons_zero, List.set_cons_succ]
  refine E_takeR (i := 9) (oi := _) (v := ?v9) rfl (by kernel_rfl) (by kernel_rfl) (by kernel_rfl) (by decide) (fun _ _ _ h => h) hh0 (Or.inl ⟨by rfl, ?y9⟩) ?r9
  case y9 => (intro w' hSw; (try dsimp only at hSw); go_simp; try with_reducible rfl)
  try simp only [Act.put, List.getElem_toArray, List.getElem_cons_zero, List.getElem_cons_succ, List.setIfInBounds_toArray, List.set_cons_zero, List.set_cons_succ]
  refine E_takeR (i := 10) (oi := _) (v := ?v10) rfl (by kernel_rfl) (by kernel_rfl) (by kernel_rfl) (by decide) (fun _ _ _ h => h) hh0 (Or.inl ⟨by rfl, ?y10⟩) ?r10
  case y10 => (intro w' hSw; (try dsimp only at hSw); go_simp; try with_reducible rfl)
  try simp only [Act.put, List.getElem_toArray, List.getElem_cons_zero, List.getElem_cons_succ, List.setIfInBounds_toArray, List.set_cons_zero, List.set_cons_succ]
  refine E_takeR (i := 11) (oi := _) (v := ?v11) rfl (by kernel_rfl) (by kernel_rfl) (by kernel_rfl) (by decide) (fun _ _ _ h => h) hh0 (Or.inl ⟨by rfl, ?y11⟩) ?r11
  case y11 => (intro w' hSw; (try dsimp only at hSw); go_simp; try with_reducible rfl)
  try simp only [Act.put, List.getElem_toArray, List.getElem_cons_zero, List.getElem_cons_succ, List.setIfInBounds_toArray, List.set_cons_zero, List.set_cons_succ]
  refine E_takeR (i := 12) (oi := _) (v := ?v12) rfl (by kernel_rfl) (by kernel_rfl) (by kernel_rfl) (by decide) (fun _ _ _ h => h) hh0 (Or.inl ⟨by rfl, ?y12⟩) ?r12
  case y12 => (intro w' hSw; (try dsimp only at hSw); go_simp; try with_reducible rfl)
  try simp only [Act.put, List.getElem_toArray, List.getElem_cons_zero, List.getElem_cons_succ, List.setIfInBounds_toArray, List.set_cons_zero, List.set_cons_succ]
  refine E_step (i := 6) (o := _) (by kernel_rfl) rfl (fun K hK => ?_)
  go_simp
  refine (HRI.out wp.drew).mono ?_
  rintro e wh1 ⟨rfl, hbh1⟩
  dsimp only
  have Bwh1 := Lib.hid (Bh0.out.trans (hbh1.mono Bh0.out.size))
  have hwh1 := HX.out wh1 Bwh1.out
  refine hK.out _ _ (fun h => hwh1) ?_
  clear hK K hbh1
  try simp only [Act.put, List.getElem_toArray, List.getElem_cons_zero, List.getElem_cons_succ, List.setIfInBounds_toArray, List.set_cons_zero, List.set_cons_succ]
  refine E_step (i := 13) (o := _) (by kernel_rfl) rfl (fun K hK => ?_)
  go_simp
  refine (HLO.out wh1).mono ?_
  rintro e wh2 ⟨rfl, hbh2⟩
  dsimp only
  have Bwh2 := Lib.hid (Bwh1.out.trans (hbh2.mono Bwh1.out.size))
  have hwh2 := HX.out wh2 Bwh2.out
  refine hK.out _ _ (fun h => hwh2) ?_
  clear hK K hbh2
  try simp only [Act.put, List.getElem_toArray, List.getElem_cons_zero, List.getElem_cons_succ, List.setIfInBounds_toArray, List.set_cons_zero, List.set_cons_succ]
  have kq14 := HKQ.out.belowS (HBP.out.trans (Bwh2.out.mono HBP.out.size))
  have q0 := kq14.cell 0
  have q1 := kq14.cell 1
  have f0 := kq14.frozen 0
  have f1 := kq14.frozen 1
  have lq := kq14.lt
  simp only [List.getElem?_toArray, List.getElem?_cons_zero, List.getElem?_cons_succ] at q0 q1
  refine E_step (i := 14) (o := _) (by kernel_rfl) rfl (fun K hK => ?_)
  go_simp
  have hs14 : (fun w' : World => w'.cell? ⟨w.heap.size, 0, none⟩ = some (.slice (some ⟨fb, fo, none⟩) R.fs.length R.fc) ∧ w'.cell? ⟨w.heap.size + 1, 0, none⟩ = some (.int .i64 p.x) ∧ w'.cell? ⟨w.heap.size + 1, 1, none⟩ = some (.int .i64 p.y) ∧ w'.cell? ⟨fb, fo + k * 7, none⟩ = some (.string F.name) ∧ w'.cell? ⟨fb, fo + k * 7 + 1, none⟩ = some (.int .i64 F.side) ∧ w'.cell? ⟨fb, fo + k * 7 + 2, none⟩ = some (.int .i64 F.foot) ∧ w'.cell? ⟨fb, fo + k * 7 + 3, none⟩ = some (.int .i64 F.base) ∧ w'.cell? ⟨fb, fo + k * 7 + 4, none⟩ = some (.int .i64 F.rise) ∧ w'.cell? ⟨fb, fo + k * 7 + 5, none⟩ = some (.int .i64 F.run) ∧ w'.cell? ⟨fb, fo + k * 7 + 6, none⟩ = some (.slice F.ca F.cs.length F.cc)) ((wh2.setCell ⟨w.heap.size + 1 + 1, 0, none⟩ (.int .i64 (hgtN F p))).setCell ⟨w.heap.size + 1 + 1, 1, none⟩ (.int .i64 (hgtD F p))) := by
    obtain ⟨a0, a1, a2, b0, b1, b2, b3, b4, b5, b6⟩ := hwh2
    refine ⟨?_, ?_, ?_, ?_, ?_, ?_, ?_, ?_, ?_, ?_⟩ <;> exact cset_other (cset_other (by assumption) (by have := HFN.out; omega)) (by have := HFN.out; omega)
  refine hK.out _ _ (fun h => hs14) ?_
  clear hK K q0 q1 f0 f1 lq
  try simp only [Act.put, List.getElem_toArray, List.getElem_cons_zero, List.getElem_cons_succ, List.setIfInBounds_toArray, List.set_cons_zero, List.set_cons_succ]
  refine E_step (i := 15) (o := _) (by kernel_rfl) rfl (fun K hK => ?_)
  go_simp
  refine hK.out _ _ (fun h => hs14) ?_
  clear hK K
  try simp only [Act.put, List.getElem_toArray, List.getElem_cons_zero, List.getElem_cons_succ, List.setIfInBounds_toArray, List.set_cons_zero, List.set_cons_succ]
  refine E_done (by kernel_rfl) ?_ _
  clear hh0 hwh1 hwh2
  have hbz := HB1.out.trans ((HBP.out.trans (Bwh2.out.mono HBP.out.size)).mono HB1.out.size)
  have kz := (kq14.set 0 (.int .i64 (lowN (hNum F p) F.run))).set 1 (.int .i64 (lowD (hNum F p) F.run))
  have z0 := kz.cell 0
  have z1 := kz.cell 1
  simp only [List.setIfInBounds_toArray, List.set_cons_zero, List.set_cons_succ, List.getElem?_toArray, List.getElem?_cons_zero, List.getElem?_cons_succ] at z0 z1
  clear kq14
  go_wp2_with fail
  refine bodyPost_ret (v := .tuple #[.agg #[.int .i64 (lowN (hNum F p) F.run), .int .i64 (lowD (hNum F p) F.run)], .int .i64 0]) (by simp [results, Try.results11, go_sem, z0, z1]) rfl ⟨(hbz.setCell (p := ⟨w.heap.size + 1 + 1, 0, none⟩) (by simp; omega) _).setCell (p := ⟨w.heap.size + 1 + 1, 1, none⟩) (by simp; omega) _, ?_⟩
  rw [if_neg (by rw [HE.out]; simp), if_neg (by rw [HH.out]; simp), if_neg (by rw [HP.out]; simp)]
  exact ⟨F, HQ.out, rfl⟩
end Go.Proofs.Ytpdgcajbdaleeaa
