/- convex of the specification: whether an outline is convex. No condition but the limits of the plan. -/
import Derived.Test.YtpdgcajbdaleeaaEC
import Derived.Deep.DeepCutAuto
set_option linter.unusedSimpArgs false
namespace Go.Proofs.Ytpdgcajbdaleeaa
open Go.RowKit

theorem blw_alloc {w w' : World} (h : Below w.heap.size w w') (o : Obj) : Below w.heap.size w (w'.alloc o) := h.alloc h.size o
theorem blw_call {w w' w2 : World} (h : Below w.heap.size w w') (hb : Below w'.heap.size w' w2) : Below w.heap.size w w2 := h.trans (hb.mono h.size)
theorem blw_set {w w' : World} (h : Below w.heap.size w w') {A o : Nat} (hA : w.heap.size ≤ A) (v : Value) : Below w.heap.size w (w'.setCell ⟨A, o, none⟩ v) := h.setCell hA v
theorem blw_drew {w w' : World} (h : Below w.heap.size w w') : Below w.heap.size w w'.drew := h.drew
/-- The cells of a face's box. -/
abbrev HeldFB (W : World) (B : Nat) (f : Fac) (v : Value) (w' : World) : Prop := Below W.heap.size W w' ∧ (w'.cell? ⟨B, 0, none⟩ = some (.string f.name) ∧ w'.cell? ⟨B, 1, none⟩ = some (.int .i64 f.side) ∧ w'.cell? ⟨B, 2, none⟩ = some (.int .i64 f.foot) ∧ w'.cell? ⟨B, 3, none⟩ = some (.int .i64 f.base) ∧ w'.cell? ⟨B, 4, none⟩ = some (.int .i64 f.rise) ∧ w'.cell? ⟨B, 5, none⟩ = some (.int .i64 f.run) ∧ w'.cell? ⟨B, 6, none⟩ = some v)
theorem HeldFB.step {W w w' : World} {B : Nat} {f : Fac} {v : Value} (h : HeldFB W B f v w) (hB : B < W.heap.size) (hbe : Below W.heap.size w w') : HeldFB W B f v w' := by
  have c : ∀ i, w'.cell? ⟨B, i, none⟩ = w.cell? ⟨B, i, none⟩ := fun i => hbe.cell (p := ⟨B, i, none⟩) hB
  obtain ⟨h0, a0, a1, a2, a3, a4, a5, a6⟩ := h
  exact ⟨h0.trans hbe, (c _).trans a0, (c _).trans a1, (c _).trans a2, (c _).trans a3, (c _).trans a4, (c _).trans a5, (c _).trans a6⟩
theorem cross_bd {a b : Pnt} (ha : a.ok) (hb : b.ok) : -100000000 ≤ crossP a b ∧ crossP a b ≤ 100000000 := by
  obtain ⟨⟨h1, h2⟩, h3, h4⟩ := ha
  obtain ⟨⟨h5, h6⟩, h7, h8⟩ := hb
  have b1 := mul_bd4 (a := a.x) (b := b.y) (by omega) (by omega) (by omega) (by omega)
  have b2 := mul_bd4 (a := a.y) (b := b.x) (by omega) (by omega) (by omega) (by omega)
  have c1 := Int.mul_nonneg h1 h7
  have c2 := Int.mul_nonneg h3 h5
  simp only [crossP]
  omega
theorem areaX_bd {l : List Pnt} (hok : okPts l) : ∀ m : Nat, m ≤ l.length → -100000000 * (m : Int) ≤ areaX l m ∧ areaX l m ≤ 100000000 * (m : Int)
  | 0, _ => by simp [areaX]
  | m + 1, h => by
    have h1 := areaX_bd hok m (by omega)
    have h2 := cross_bd (cor_ok hok (show m < l.length by omega)) (cor_ok hok (i := (m + 1) % l.length) (Nat.mod_lt _ (by omega)))
    rw [areaX]
    omega
theorem cross_next (p q n : Pnt) : crossP (subP q p) (subP n q) = (Edg.mk p q).side n := by simp only [crossP, subP, Edg.side]; grind
/-- What is asked of the corner behind an edge. -/
def okAt (l : List Pnt) (k : Nat) : Bool := leftAll l (edgN l k) && !spikeB (cor l k) (cor l ((k + 1) % l.length)) (cor l ((k + 2) % l.length))
theorem convX_iff (l : List Pnt) : convX l = (((List.range l.length).all (okAt l)) && decide (0 < areaX l l.length)) := rfl
theorem conv_no {l : List Pnt} {k : Nat} (hk : k < l.length) (h : okAt l k = false) : convX l = false := by
  rw [convX_iff, Bool.and_eq_false_iff]
  exact .inl (List.all_eq_false.2 ⟨k, List.mem_range.2 hk, by rw [h]; simp⟩)
theorem conv_yes {l : List Pnt} (h : ∀ k, k < l.length → okAt l k = true) : convX l = decide (0 < areaX l l.length) := by
  rw [convX_iff, List.all_eq_true.2 (fun k hk => h k (List.mem_range.1 hk)), Bool.true_and]

set_option maxRecDepth 100000 in
set_option maxHeartbeats 16000000 in
theorem refConvex_any (f : Fac) (w : World) (hs : IsPts w (.slice f.ca f.cs.length f.cc) f.cs) (hl : f.cs.length ≤ 1000) (hok : okPts f.cs) :
    Calls Try.prog 99 #[.agg #[.string f.name, .int .i64 f.side, .int .i64 f.foot, .int .i64 f.base, .int .i64 f.rise, .int .i64 f.run, .slice f.ca f.cs.length f.cc]] w fun e w' => e = .returned (.bool (convX f.cs)) ∧ Below w.heap.size w w' := by
  have k1 := Blk.new w 72 #[.string f.name, .int .i64 f.side, .int .i64 f.foot, .int .i64 f.base, .int .i64 f.rise, .int .i64 f.run, .slice f.ca f.cs.length f.cc]
  have hb1 : Below w.heap.size w (w.alloc (.cells #[.string f.name, .int .i64 f.side, .int .i64 f.foot, .int .i64 f.base, .int .i64 f.rise, .int .i64 f.run, .slice f.ca f.cs.length f.cc] 72)) := (Below.refl _ w).alloc (Nat.le_refl _) _
  have HS := Lib.hid hs
  have HOK := Lib.hid hok
  have HLL := Lib.hid hl
  clear hs hok
  go_enter Try.func99, Try.ntmps99
  go_upto_region 1 with fail
  generalize w.alloc (.cells #[.string f.name, .int .i64 f.side, .int .i64 f.foot, .int .i64 f.base, .int .i64 f.rise, .int .i64 f.run, .slice f.ca f.cs.length f.cc] 72) = w1 at *
  have K1 := Lib.hid k1
  have HB1 := Lib.hid hb1
  obtain ⟨c0, c1, c2, c3, c4, c5, c6⟩ := fac_cells k1
  have hlf := k1.lt
  clear k1 hb1
  go_wp2_with fail
  clear c0 c1 c2 c3 c4 c5 c6 hlf
  go_loopw [4, 5, 6, 7, 8, 9, 10] (fun s4 s5 _ _ _ _ _ wv => ∃ k : Nat, k ≤ f.cs.length ∧ s5 = .int .i64 k ∧ s4 = .int .i64 (areaX f.cs k) ∧ (∀ j, j < k → okAt f.cs j = true) ∧ Below w1.heap.size w1 wv) (fun _ s5 _ _ _ _ _ _ => f.cs.length - (intOf s5).toNat)
  case atStart => exact ⟨0, Nat.zero_le _, rfl, rfl, fun j h => by omega, Below.refl _ _⟩
  case round =>
    obtain ⟨k, hk, rfl, rfl, hno, hb⟩ := hrel
    have HB := Lib.hid hb
    have HNO := Lib.hid hno
    have HBW := Lib.hid (HB1.out.trans (hb.mono HB1.out.size))
    have KF := Lib.hid (K1.out.belowS hb)
    obtain ⟨wo, rfl⟩ : ∃ wo : World, wo = wr := ⟨_, rfl⟩
    have hk0 : (0 : Int) ≤ (k : Int) := Int.natCast_nonneg _
    obtain ⟨c0, c1, c2, c3, c4, c5, c6⟩ := fac_cells KF.out
    have hlf := KF.out.lt
    have hab := areaX_bd HOK.out k hk
    clear hno hb
    by_cases hkl : k < f.cs.length
    rotate_left
    · obtain rfl : k = f.cs.length := by omega
      have hjj : ¬ (f.cs.length : Int) < (f.cs.length : Int) := by omega
      have HV := Lib.hid (show convX f.cs = decide (0 < areaX f.cs f.cs.length) from conv_yes HNO.out)
      obtain ⟨N, hN⟩ : ∃ N : Int, areaX f.cs f.cs.length = N := ⟨_, rfl⟩
      rw [hN] at HV ⊢
      clear hN hkl hk
      go_wp2_with fail
      go_ret
      exact ⟨by rw [HV.out]; rfl, HBW.out⟩
    have hk1 : (k : Int) < (f.cs.length : Int) := by omega
    have hml : (k + 1) % f.cs.length < f.cs.length := Nat.mod_lt _ (by omega)
    have HEN := Lib.hid (refEnds_any f k wo (HS.out.below HBW.out) hl hkl)
    have HEN2 := Lib.hid (fun W (h : Below wo.heap.size wo W) => refEnds_any f ((k + 1) % f.cs.length) W (HS.out.below (HBW.out.trans (h.mono HBW.out.size))) hl hml)
    have HOP := Lib.hid (cor_ok HOK.out hkl)
    have HOQ := Lib.hid (cor_ok HOK.out hml)
    have hnx : ((k + 1) % f.cs.length + 1) % f.cs.length = (k + 2) % f.cs.length := by rw [Nat.mod_add_mod]
    have HON := Lib.hid (cor_ok HOK.out (i := (k + 2) % f.cs.length) (Nat.mod_lt _ (by omega)))
    rw [hnx] at HEN2
    have HKL := Lib.hid hkl
    have em : ((k : Int) + 1) % (f.cs.length : Int) = (((k + 1) % f.cs.length : Nat) : Int) := by push_cast; rfl
    have hn0 : ¬ (f.cs.length : Int) = 0 := by omega
    have HAT := Lib.hid (show okAt f.cs k = (leftAll f.cs ⟨cor f.cs k, cor f.cs ((k + 1) % f.cs.length)⟩ && !spikeB (cor f.cs k) (cor f.cs ((k + 1) % f.cs.length)) (cor f.cs ((k + 2) % f.cs.length))) from rfl)
    have HAR := Lib.hid (show areaX f.cs (k + 1) = areaX f.cs k + crossP (cor f.cs k) (cor f.cs ((k + 1) % f.cs.length)) from rfl)
    generalize (k + 1) % f.cs.length = m at *
    generalize hcp : cor f.cs k = p at *
    generalize cor f.cs m = q at *
    generalize cor f.cs ((k + 2) % f.cs.length) = nx at *
    obtain ⟨AR, hAR⟩ : ∃ AR, areaX f.cs k = AR := ⟨_, rfl⟩
    rw [hAR] at HAR hab ⊢
    have hks : IntKind.i64.wrap ((k : Int) + 1) = ((k + 1 : Nat) : Int) := by rw [IntKind.wrap_i64]; omega
    clear hkl hcp hAR hnx
    go_wp2_with fail
    refine HEN.out.mono ?_
    rintro e w3 ⟨rfl, hb3⟩
    have HB3 := Lib.hid hb3
    clear hb3 c0 c1 c2 c3 c4 c5 c6 hlf HEN
    go_upto_region 7 with fail
    have kP := (Blk.new w3 27 #[.int .i64 p.x, .int .i64 p.y]).alloc (.cells #[.int .i64 q.x, .int .i64 q.y] 27)
    have kQ := Blk.new (w3.alloc (.cells #[.int .i64 p.x, .int .i64 p.y] 27)) 27 #[.int .i64 q.x, .int .i64 q.y]
    have hb6 : Below w3.heap.size w3 ((w3.alloc (.cells #[.int .i64 p.x, .int .i64 p.y] 27)).alloc (.cells #[.int .i64 q.x, .int .i64 q.y] 27)) := ((Below.refl _ _).alloc (Nat.le_refl _) _).alloc (by simp) _
    rw [World.size_alloc] at kQ
    generalize (w3.alloc (.cells #[.int .i64 p.x, .int .i64 p.y] 27)).alloc (.cells #[.int .i64 q.x, .int .i64 q.y] 27) = w6 at *
    obtain ⟨BP, hBP⟩ : ∃ BP, w3.heap.size = BP := ⟨_, rfl⟩
    have HB6 := Lib.hid (HB3.out.trans (hb6.mono HB3.out.size))
    rw [hBP] at kP kQ ⊢
    obtain ⟨BQ, hBQ⟩ : ∃ BQ, BP + 1 = BQ := ⟨_, rfl⟩
    rw [hBQ] at kQ ⊢
    have HKP := Lib.hid kP
    have HKQ := Lib.hid kQ
    have HKF := Lib.hid (KF.out.belowS HB6.out)
    clear hb6 kP kQ hBP hBQ
    have HB6T := Lib.hid (fun W (h : Below w6.heap.size w6 W) => show Below wo.heap.size wo W from HB6.out.trans (h.mono HB6.out.size))
    have emt : ((k : Int) + 1).tmod (f.cs.length : Int) = (m : Int) := by rw [Int.tmod_eq_emod_of_nonneg (by omega)]; exact em
    have hnb : ((f.cs.length : Int) == 0) = false := by rw [beq_eq_false_iff_ne]; omega
    have hkw : IntKind.i64.wrap ((k : Int) + 1) = (k : Int) + 1 := by have := HLL.out; rw [IntKind.wrap_i64]; omega
    have hnN : ¬ f.cs.length = 0 := by have := HKL.out; omega
    generalize hnn : f.cs.length = n at *
    have HNN := Lib.hid hnn
    clear hnn
    go_cut [8, 9] from 25 to 34 (fun s8 s9 wx => ∃ A B, s8 = .pointer (some ⟨A, 0, none⟩) ∧ s9 = .pointer (some ⟨B, 0, none⟩) ∧ (wx.cell? ⟨B, 0, none⟩ = some (.int .i64 nx.x) ∧ wx.cell? ⟨B, 1, none⟩ = some (.int .i64 nx.y)) ∧ Below w6.heap.size w6 wx)
    case first =>
      have hx : HeldFB w6 w.heap.size f (.slice f.ca n f.cc) w6 := ⟨Below.refl _ _, HKF.out.cell 0, HKF.out.cell 1, HKF.out.cell 2, HKF.out.cell 3, HKF.out.cell 4, HKF.out.cell 5, HKF.out.cell 6⟩
      have lR := HKF.out.lt
      go_region_held3 (fun w' => Below w6.heap.size w6 w' ∧ (w'.cell? ⟨w.heap.size, 0, none⟩ = some (.string f.name) ∧ w'.cell? ⟨w.heap.size, 1, none⟩ = some (.int .i64 f.side) ∧ w'.cell? ⟨w.heap.size, 2, none⟩ = some (.int .i64 f.foot) ∧ w'.cell? ⟨w.heap.size, 3, none⟩ = some (.int .i64 f.base) ∧ w'.cell? ⟨w.heap.size, 4, none⟩ = some (.int .i64 f.rise) ∧ w'.cell? ⟨w.heap.size, 5, none⟩ = some (.int .i64 f.run) ∧ w'.cell? ⟨w.heap.size, 6, none⟩ = some (.slice f.ca n f.cc)))
        ((refine HeldFB.step hx lR ?_; repeat (first | (with_reducible exact Below.refl _ _) | (with_reducible refine blw_alloc ?_ _) | (with_reducible refine blw_drew ?_) | (with_reducible refine blw_call ?_ hb7) | (with_reducible refine blw_set ?_ ?hA _; case hA => (first | exact Nat.le_refl _ | exact Nat.le_succ _)))))
        (first | (go_at_call 62; (refine (HEN2.out _ (HB6T.out _ (And.left (by with_reducible assumption)))).mono ?_); rintro r w7 ⟨rfl, hb7⟩; (first | (have y1 := (show Blk ((w6.alloc (.cells #[.int .i64 0, .int .i64 0] 27)).alloc (.cells #[.int .i64 0, .int .i64 0] 27)).drew _ _ _ from (Blk.new w6 27 #[.int .i64 0, .int .i64 0]).alloc (.cells #[.int .i64 0, .int .i64 0] 27)).belowS hb7; have y2 := (show Blk ((w6.alloc (.cells #[.int .i64 0, .int .i64 0] 27)).alloc (.cells #[.int .i64 0, .int .i64 0] 27)).drew _ _ _ from Blk.new (w6.alloc (.cells #[.int .i64 0, .int .i64 0] 27)) 27 #[.int .i64 0, .int .i64 0]).belowS hb7; simp only [World.size_alloc] at y2; have y10 := y1.cell 0; have y11 := y1.cell 1; have y1f0 := y1.frozen 0; have y1f1 := y1.frozen 1; have y1l := y1.lt; simp only [List.getElem?_toArray, List.getElem?_cons_zero, List.getElem?_cons_succ] at y10 y11; have y20 := y2.cell 0; have y21 := y2.cell 1; have y2f0 := y2.frozen 0; have y2f1 := y2.frozen 1; have y2l := y2.lt; simp only [List.getElem?_toArray, List.getElem?_cons_zero, List.getElem?_cons_succ] at y20 y21; clear y1 y2) | (have y1 := (show Blk (w6.alloc (.cells #[.int .i64 0, .int .i64 0] 27)).drew _ _ _ from Blk.new w6 27 #[.int .i64 0, .int .i64 0]).belowS hb7; have y10 := y1.cell 0; have y11 := y1.cell 1; have y1f0 := y1.frozen 0; have y1f1 := y1.frozen 1; have y1l := y1.lt; simp only [List.getElem?_toArray, List.getElem?_cons_zero, List.getElem?_cons_succ] at y10 y11; clear y1) | skip)))
      all_goals
        go_wp2_with fail
        go_meet
        refine ⟨_, _, rfl, rfl, ⟨?_, ?_⟩, ?_⟩
        all_goals first | (go_simp; done) | (repeat (first | (with_reducible exact Below.refl _ _) | (with_reducible refine blw_alloc ?_ _) | (with_reducible refine blw_drew ?_) | (with_reducible refine blw_call ?_ hb7) | (with_reducible refine blw_set ?_ ?hA _; case hA => (first | exact Nat.le_refl _ | exact Nat.le_succ _))))
    case rest =>
    have hnn := HNN.out
    subst hnn
    clear HNN
    obtain ⟨BA, BN, rfl, rfl, ⟨n0, n1⟩, hcb⟩ := hcut
    obtain ⟨w8, rfl⟩ : ∃ w8 : World, w8 = wc := ⟨_, rfl⟩
    have HB8 := Lib.hid (HB6.out.trans (hcb.mono HB6.out.size))
    have HP8 := Lib.hid (HKP.out.belowS hcb)
    have HQ8 := Lib.hid (HKQ.out.belowS hcb)
    have HF8 := Lib.hid (HKF.out.belowS hcb)
    have HN8 := Lib.hid (And.intro (World.block_lt_of_cell? _ _ n0) (And.intro n0 n1))
    have HBW8 := Lib.hid (HBW.out.trans (HB8.out.mono HBW.out.size))
    clear hcb n0 n1 em emt hnb hkw hn0 hnN HB6T HEN2 HB6 HKP HKQ HKF HB3
    go_wp2_with fail
    go_loopw [10] (fun s10 wv => ∃ i : Nat, i ≤ f.cs.length ∧ s10 = .int .i64 i ∧ (∀ j, j < i → 0 ≤ (Edg.mk p q).side (cor f.cs j)) ∧ Below w8.heap.size w8 wv) (fun s10 _ => f.cs.length - (intOf s10).toNat)
    case atStart => exact ⟨0, Nat.zero_le _, rfl, fun j h => by omega, Below.refl _ _⟩
    case round =>
      obtain ⟨i, hi, rfl, hno, hbi⟩ := hrel
      have HNI := Lib.hid hno
      have HBI := Lib.hid hbi
      obtain ⟨wi, rfl⟩ : ∃ wi : World, wi = wr := ⟨_, rfl⟩
      have hi0 : (0 : Int) ≤ (i : Int) := Int.natCast_nonneg _
      have HBWI := Lib.hid (HBW8.out.trans (hbi.mono HBW8.out.size))
      have kp := HP8.out.belowS hbi
      have kq := HQ8.out.belowS hbi
      have kf := HF8.out.belowS hbi
      clear hno
      by_cases hil : i < f.cs.length
      · have hi1 : (i : Int) < (f.cs.length : Int) := by omega
        have hic : (i : Int) < (f.cc : Int) := by
          obtain ⟨_, _, _, _, h3, _⟩ := cor_at (HS.out.below HBWI.out) hil
          omega
        obtain ⟨cb, co, hca, hcbl, hcc1, hcc2, hcp⟩ := cor_at (HS.out.below HBWI.out) hil
        obtain ⟨x0, x1⟩ := hcp i hil
        have HOX := Lib.hid (cor_ok HOK.out hil)
        have HIL := Lib.hid hil
        have HCI := Lib.hid (show cor f.cs i = cor f.cs i from rfl)
        obtain ⟨x, hx⟩ : ∃ x, cor f.cs i = x := ⟨_, rfl⟩
        have HXX := Lib.hid hx
        rw [hx] at x0 x1 HOX
        obtain ⟨C, hC⟩ : ∃ C, crossP (subP q p) (subP x p) = C := ⟨_, rfl⟩
        have HSD := Lib.hid (show (Edg.mk p q).side x = C from hC)
        have hcr := fun W => refCross_any _ _ W (subP_sm HOQ.out HOP.out) (subP_sm HOX.out HOP.out)
        simp only [hC] at hcr
        have HCR := Lib.hid hcr
        have f6 : wi.cell? ⟨w.heap.size, 6, none⟩ = some (.slice (some ⟨cb, co, none⟩) f.cs.length f.cc) := by rw [← hca]; exact kf.cell 6
        have hx0 : ∀ W, Below wi.heap.size wi W → (fun w' : World => w'.cell? ⟨BQ, 0, none⟩ = some (.int .i64 q.x) ∧ w'.cell? ⟨BQ, 1, none⟩ = some (.int .i64 q.y) ∧ w'.cell? ⟨BP, 0, none⟩ = some (.int .i64 p.x) ∧ w'.cell? ⟨BP, 1, none⟩ = some (.int .i64 p.y) ∧ w'.cell? ⟨w.heap.size, 6, none⟩ = some (.slice (some ⟨cb, co, none⟩) f.cs.length f.cc) ∧ w'.cell? ⟨cb, co + i * 2, none⟩ = some (.int .i64 x.x) ∧ w'.cell? ⟨cb, co + i * 2 + 1, none⟩ = some (.int .i64 x.y)) W := fun W h => ⟨(h.cell (p := ⟨BQ, 0, none⟩) kq.lt).trans (kq.cell 0), (h.cell (p := ⟨BQ, 1, none⟩) kq.lt).trans (kq.cell 1), (h.cell (p := ⟨BP, 0, none⟩) kp.lt).trans (kp.cell 0), (h.cell (p := ⟨BP, 1, none⟩) kp.lt).trans (kp.cell 1), (h.cell (p := ⟨w.heap.size, 6, none⟩) kf.lt).trans f6, (h.cell (p := ⟨cb, co + i * 2, none⟩) hcbl).trans x0, (h.cell (p := ⟨cb, co + i * 2 + 1, none⟩) hcbl).trans x1⟩
        have HX := Lib.hid hx0
        clear hx0 kp kq kf hca hcbl hcc1 hcc2 hcp x0 x1 hx hC hcr f6 hil hbi
        go_upto_region 11 with fail
        refine wp_region_E 12 (fun w' => w'.cell? ⟨BQ, 0, none⟩ = some (.int .i64 q.x) ∧ w'.cell? ⟨BQ, 1, none⟩ = some (.int .i64 q.y) ∧ w'.cell? ⟨BP, 0, none⟩ = some (.int .i64 p.x) ∧ w'.cell? ⟨BP, 1, none⟩ = some (.int .i64 p.y) ∧ w'.cell? ⟨w.heap.size, 6, none⟩ = some (.slice (some ⟨cb, co, none⟩) f.cs.length f.cc) ∧ w'.cell? ⟨cb, co + i * 2, none⟩ = some (.int .i64 x.x) ∧ w'.cell? ⟨cb, co + i * 2 + 1, none⟩ = some (.int .i64 x.y)) (by kernel_rfl) ?_
        have Bq0 := Lib.hid ((Below.refl wi.heap.size wi).drew)
        have hq0 := HX.out wi.drew Bq0.out
        refine E_takeR (i := 0) (oi := _) (v := ?v1) rfl (by kernel_rfl) (by kernel_rfl) (by kernel_rfl) (by decide) (fun _ _ _ h => h) hq0 (Or.inl ⟨by rfl, ?y1⟩) ?r1
        case y1 => (intro w' hSw; (try dsimp only at hSw); go_simp; try with_reducible rfl)
        try simp only [Act.put, List.getElem_toArray, List.getElem_cons_zero, List.getElem_cons_succ, List.setIfInBounds_toArray, List.set_cons_zero, List.set_cons_succ]
        refine E_takeR (i := 1) (oi := _) (v := ?v2) rfl (by kernel_rfl) (by kernel_rfl) (by kernel_rfl) (by decide) (fun _ _ _ h => h) hq0 (Or.inl ⟨by rfl, ?y2⟩) ?r2
        case y2 => (intro w' hSw; (try dsimp only at hSw); go_simp; try with_reducible rfl)
        try simp only [Act.put, List.getElem_toArray, List.getElem_cons_zero, List.getElem_cons_succ, List.setIfInBounds_toArray, List.set_cons_zero, List.set_cons_succ]
        refine E_takeR (i := 3) (oi := _) (v := ?v3) rfl (by kernel_rfl) (by kernel_rfl) (by kernel_rfl) (by decide) (fun _ _ _ h => h) hq0 (Or.inl ⟨by rfl, ?y3⟩) ?r3
        case y3 => (intro w' hSw; (try dsimp only at hSw); go_simp; try with_reducible rfl)
        try simp only [Act.put, List.getElem_toArray, List.getElem_cons_zero, List.getElem_cons_succ, List.setIfInBounds_toArray, List.set_cons_zero, List.set_cons_succ]
        refine E_takeR (i := 4) (oi := _) (v := ?v4) rfl (by kernel_rfl) (by kernel_rfl) (by kernel_rfl) (by decide) (fun _ _ _ h => h) hq0 (Or.inl ⟨by rfl, ?y4⟩) ?r4
        case y4 => (intro w' hSw; (try dsimp only at hSw); go_simp; try with_reducible rfl)
        try simp only [Act.put, List.getElem_toArray, List.getElem_cons_zero, List.getElem_cons_succ, List.setIfInBounds_toArray, List.set_cons_zero, List.set_cons_succ]
        refine E_takeR (i := 5) (oi := _) (v := ?v5) rfl (by kernel_rfl) (by kernel_rfl) (by kernel_rfl) (by decide) (fun _ _ _ h => h) hq0 (Or.inl ⟨by rfl, ?y5⟩) ?r5
        case y5 => (intro w' hSw; (try dsimp only at hSw); go_simp; try with_reducible rfl)
        try simp only [Act.put, List.getElem_toArray, List.getElem_cons_zero, List.getElem_cons_succ, List.setIfInBounds_toArray, List.set_cons_zero, List.set_cons_succ]
        refine E_takeR (i := 6) (oi := _) (v := ?v6) rfl (by kernel_rfl) (by kernel_rfl) (by kernel_rfl) (by decide) (fun _ _ _ h => h) hq0 (Or.inl ⟨by rfl, ?y6⟩) ?r6
        case y6 => (intro w' hSw; (try dsimp only at hSw); go_simp; try with_reducible rfl)
        try simp only [Act.put, List.getElem_toArray, List.getElem_cons_zero, List.getElem_cons_succ, List.setIfInBounds_toArray, List.set_cons_zero, List.set_cons_succ]
        refine E_takeR (i := 7) (oi := _) (v := ?v7) rfl (by kernel_rfl) (by kernel_rfl) (by kernel_rfl) (by decide) (fun _ _ _ h => h) hq0 (Or.inl ⟨by rfl, ?y7⟩) ?r7
        case y7 => (intro w' hSw; (try dsimp only at hSw); go_simp; try with_reducible rfl)
        try simp only [Act.put, List.getElem_toArray, List.getElem_cons_zero, List.getElem_cons_succ, List.setIfInBounds_toArray, List.set_cons_zero, List.set_cons_succ]
        refine E_takeR (i := 8) (oi := _) (v := ?v8) rfl (by kernel_rfl) (by kernel_rfl) (by kernel_rfl) (by decide) (fun _ _ _ h => h) hq0 (Or.inl ⟨by rfl, ?y8⟩) ?r8
        case y8 => (intro w' hSw; (try dsimp only at hSw); go_simp; try with_reducible rfl)
        try simp only [Act.put, List.getElem_toArray, List.getElem_cons_zero, List.getElem_cons_succ, List.setIfInBounds_toArray, List.set_cons_zero, List.set_cons_succ]
        refine E_step (i := 2) (o := _) (by kernel_rfl) rfl (fun K hK => ?_)
        go_simp
        refine (refMinus_any q p wi.drew HOQ.out HOP.out).mono ?_
        rintro e wq1 ⟨rfl, hbq1⟩
        dsimp only
        have Bwq1 := Lib.hid (Bq0.out.trans (hbq1.mono Bq0.out.size))
        have hwq1 := HX.out wq1 Bwq1.out
        refine hK.out _ _ (fun h => hwq1) ?_
        clear hK K hbq1
        try simp only [Act.put, List.getElem_toArray, List.getElem_cons_zero, List.getElem_cons_succ, List.setIfInBounds_toArray, List.set_cons_zero, List.set_cons_succ]
        refine E_step (i := 9) (o := _) (by kernel_rfl) rfl (fun K hK => ?_)
        go_simp
        refine (refMinus_any x p wq1 HOX.out HOP.out).mono ?_
        rintro e wq2 ⟨rfl, hbq2⟩
        dsimp only
        have Bwq2 := Lib.hid (Bwq1.out.trans (hbq2.mono Bwq1.out.size))
        have hwq2 := HX.out wq2 Bwq2.out
        refine hK.out _ _ (fun h => hwq2) ?_
        clear hK K hbq2
        try simp only [Act.put, List.getElem_toArray, List.getElem_cons_zero, List.getElem_cons_succ, List.setIfInBounds_toArray, List.set_cons_zero, List.set_cons_succ]
        refine E_step (i := 10) (o := _) (by kernel_rfl) rfl (fun K hK => ?_)
        go_simp
        refine (HCR.out wq2).mono ?_
        rintro e wq3 ⟨rfl, hbq3⟩
        dsimp only
        have Bwq3 := Lib.hid (Bwq2.out.trans (hbq3.mono Bwq2.out.size))
        have hwq3 := HX.out wq3 Bwq3.out
        refine hK.out _ _ (fun h => hwq3) ?_
        clear hK K hbq3
        try simp only [Act.put, List.getElem_toArray, List.getElem_cons_zero, List.getElem_cons_succ, List.setIfInBounds_toArray, List.set_cons_zero, List.set_cons_succ]
        refine E_step (i := 11) (o := _) (by kernel_rfl) rfl (fun K hK => ?_)
        go_simp
        refine hK.out _ _ (fun h => hwq3) ?_
        clear hK K
        try simp only [Act.put, List.getElem_toArray, List.getElem_cons_zero, List.getElem_cons_succ, List.setIfInBounds_toArray, List.set_cons_zero, List.set_cons_succ]
        refine E_done (by kernel_rfl) ?_ _
        clear hq0 hwq1 hwq2 hwq3
        have HBZ := Lib.hid (HBI.out.trans (Bwq3.out.mono HBI.out.size))
        have HBR := Lib.hid (HBW8.out.trans (HBZ.out.mono HBW8.out.size))
        by_cases hC : C < 0
        · have HV := Lib.hid (show convX f.cs = false by
            refine conv_no HKL.out ?_
            rw [HAT.out, Bool.and_eq_false_iff]
            refine .inl (Bool.eq_false_iff.2 fun h => ?_)
            have h2 := leftAll_iff.1 h x (by rw [← HXX.out]; exact cor_mem HIL.out)
            rw [HSD.out] at h2
            omega)
          go_wp2_with fail
          go_ret
          exact ⟨by rw [HV.out]; rfl, HBR.out⟩
        · have HNX := Lib.hid (show ∀ j, j < i + 1 → 0 ≤ (Edg.mk p q).side (cor f.cs j) from fun j hj => by
            by_cases e : j = i
            · subst e; rw [HXX.out, HSD.out]; omega
            · exact HNI.out j (by omega))
          go_wp2_with fail
          exact ⟨⟨i + 1, by have := HIL.out; omega, by simp, HNX.out, HBZ.out⟩, by have := HIL.out; simp [intOf]; omega⟩
      obtain rfl : i = f.cs.length := by omega
      have hjj : ¬ (f.cs.length : Int) < (f.cs.length : Int) := by omega
      have HLA := Lib.hid (show leftAll f.cs ⟨p, q⟩ = true from leftAll_iff.2 fun y hy => by
        obtain ⟨j, hj, rfl⟩ := mem_cor hy
        exact HNI.out j hj)
      obtain ⟨C, hC⟩ : ∃ C, crossP (subP q p) (subP nx q) = C := ⟨_, rfl⟩
      obtain ⟨D, hD⟩ : ∃ D, dotP (subP q p) (subP nx q) = D := ⟨_, rfl⟩
      have HSP := Lib.hid (show okAt f.cs k = !(decide (C = 0) && decide (D < 0)) by
        rw [HAT.out, HLA.out, Bool.true_and, spikeB, ← cross_next, hC, show dotE p q nx = D from hD])
      have hcr := fun W => refCross_any _ _ W (subP_sm HOQ.out HOP.out) (subP_sm HON.out HOQ.out)
      have hdr := fun W => refDot_any _ _ W (subP_sm HOQ.out HOP.out) (subP_sm HON.out HOQ.out)
      simp only [hC] at hcr
      simp only [hD] at hdr
      have HCR := Lib.hid hcr
      have HDR := Lib.hid hdr
      obtain ⟨hnl, n0, n1⟩ := HN8.out
      have hx0 : ∀ W, Below wi.heap.size wi W → (fun w' : World => w'.cell? ⟨BQ, 0, none⟩ = some (.int .i64 q.x) ∧ w'.cell? ⟨BQ, 1, none⟩ = some (.int .i64 q.y) ∧ w'.cell? ⟨BP, 0, none⟩ = some (.int .i64 p.x) ∧ w'.cell? ⟨BP, 1, none⟩ = some (.int .i64 p.y) ∧ w'.cell? ⟨BN, 0, none⟩ = some (.int .i64 nx.x) ∧ w'.cell? ⟨BN, 1, none⟩ = some (.int .i64 nx.y)) W := fun W h => ⟨(h.cell (p := ⟨BQ, 0, none⟩) kq.lt).trans (kq.cell 0), (h.cell (p := ⟨BQ, 1, none⟩) kq.lt).trans (kq.cell 1), (h.cell (p := ⟨BP, 0, none⟩) kp.lt).trans (kp.cell 0), (h.cell (p := ⟨BP, 1, none⟩) kp.lt).trans (kp.cell 1), ((hbi.trans (h.mono hbi.size)).cell (p := ⟨BN, 0, none⟩) hnl).trans n0, ((hbi.trans (h.mono hbi.size)).cell (p := ⟨BN, 1, none⟩) hnl).trans n1⟩
      have HX := Lib.hid hx0
      have HPI := Lib.hid kp
      have HQI := Lib.hid kq
      clear hx0 kp kq kf hC hD hcr hdr hnl n0 n1 hil hi hbi
      by_cases hC0 : C = 0
      · have z : (C == 0) = true := by simpa using hC0
        go_upto_region 13 with fail
        refine wp_region_E 18 (fun w' => w'.cell? ⟨BQ, 0, none⟩ = some (.int .i64 q.x) ∧ w'.cell? ⟨BQ, 1, none⟩ = some (.int .i64 q.y) ∧ w'.cell? ⟨BP, 0, none⟩ = some (.int .i64 p.x) ∧ w'.cell? ⟨BP, 1, none⟩ = some (.int .i64 p.y) ∧ w'.cell? ⟨BN, 0, none⟩ = some (.int .i64 nx.x) ∧ w'.cell? ⟨BN, 1, none⟩ = some (.int .i64 nx.y)) (by kernel_rfl) ?_
        have Ba0 := Lib.hid ((Below.refl wi.heap.size wi).drew)
        have ha0 := HX.out wi.drew Ba0.out
        refine E_takeR (i := 0) (oi := _) (v := ?v9) rfl (by kernel_rfl) (by kernel_rfl) (by kernel_rfl) (by decide) (fun _ _ _ h => h) ha0 (Or.inl ⟨by rfl, ?y9⟩) ?r9
        case y9 => (intro w' hSw; (try dsimp only at hSw); go_simp; try with_reducible rfl)
        try simp only [Act.put, List.getElem_toArray, List.getElem_cons_zero, List.getElem_cons_succ, List.setIfInBounds_toArray, List.set_cons_zero, List.set_cons_succ]
        refine E_takeR (i := 1) (oi := _) (v := ?v10) rfl (by kernel_rfl) (by kernel_rfl) (by kernel_rfl) (by decide) (fun _ _ _ h => h) ha0 (Or.inl ⟨by rfl, ?y10⟩) ?r10
        case y10 => (intro w' hSw; (try dsimp only at hSw); go_simp; try with_reducible rfl)
        try simp only [Act.put, List.getElem_toArray, List.getElem_cons_zero, List.getElem_cons_succ, List.setIfInBounds_toArray, List.set_cons_zero, List.set_cons_succ]
        refine E_takeR (i := 3) (oi := _) (v := ?v11) rfl (by kernel_rfl) (by kernel_rfl) (by kernel_rfl) (by decide) (fun _ _ _ h => h) ha0 (Or.inl ⟨by rfl, ?y11⟩) ?r11
        case y11 => (intro w' hSw; (try dsimp only at hSw); go_simp; try with_reducible rfl)
        try simp only [Act.put, List.getElem_toArray, List.getElem_cons_zero, List.getElem_cons_succ, List.setIfInBounds_toArray, List.set_cons_zero, List.set_cons_succ]
        refine E_takeR (i := 4) (oi := _) (v := ?v12) rfl (by kernel_rfl) (by kernel_rfl) (by kernel_rfl) (by decide) (fun _ _ _ h => h) ha0 (Or.inl ⟨by rfl, ?y12⟩) ?r12
        case y12 => (intro w' hSw; (try dsimp only at hSw); go_simp; try with_reducible rfl)
        try simp only [Act.put, List.getElem_toArray, List.getElem_cons_zero, List.getElem_cons_succ, List.setIfInBounds_toArray, List.set_cons_zero, List.set_cons_succ]
        refine E_step (i := 2) (o := _) (by kernel_rfl) rfl (fun K hK => ?_)
        go_simp
        refine (refMinus_any q p wi.drew HOQ.out HOP.out).mono ?_
        rintro e wa1 ⟨rfl, hba1⟩
        dsimp only
        have Bwa1 := Lib.hid (Ba0.out.trans (hba1.mono Ba0.out.size))
        have hwa1 := HX.out wa1 Bwa1.out
        refine hK.out _ _ (fun h => hwa1) ?_
        clear hK K hba1
        try simp only [Act.put, List.getElem_toArray, List.getElem_cons_zero, List.getElem_cons_succ, List.setIfInBounds_toArray, List.set_cons_zero, List.set_cons_succ]
        refine E_step (i := 5) (o := _) (by kernel_rfl) rfl (fun K hK => ?_)
        go_simp
        refine (refMinus_any nx q wa1 HON.out HOQ.out).mono ?_
        rintro e wa2 ⟨rfl, hba2⟩
        dsimp only
        have Bwa2 := Lib.hid (Bwa1.out.trans (hba2.mono Bwa1.out.size))
        have hwa2 := HX.out wa2 Bwa2.out
        refine hK.out _ _ (fun h => hwa2) ?_
        clear hK K hba2
        try simp only [Act.put, List.getElem_toArray, List.getElem_cons_zero, List.getElem_cons_succ, List.setIfInBounds_toArray, List.set_cons_zero, List.set_cons_succ]
        refine E_step (i := 6) (o := _) (by kernel_rfl) rfl (fun K hK => ?_)
        go_simp
        refine (HCR.out wa2).mono ?_
        rintro e wa3 ⟨rfl, hba3⟩
        dsimp only
        have Bwa3 := Lib.hid (Bwa2.out.trans (hba3.mono Bwa2.out.size))
        have hwa3 := HX.out wa3 Bwa3.out
        refine hK.out _ _ (fun h => hwa3) ?_
        clear hK K hba3
        try simp only [Act.put, List.getElem_toArray, List.getElem_cons_zero, List.getElem_cons_succ, List.setIfInBounds_toArray, List.set_cons_zero, List.set_cons_succ]
        try rw [z]
        refine E_step (i := 7) (o := _) (by kernel_rfl) rfl (fun K hK => ?_)
        go_simp
        refine hK.out _ _ (fun h => hwa3) ?_
        clear hK K
        try simp only [Act.put, List.getElem_toArray, List.getElem_cons_zero, List.getElem_cons_succ, List.setIfInBounds_toArray, List.set_cons_zero, List.set_cons_succ]
        refine E_step (i := 8) (o := _) (by kernel_rfl) rfl (fun K hK => ?_)
        go_simp
        refine hK.out _ _ (fun h => hwa3) ?_
        clear hK K
        try simp only [Act.put, List.getElem_toArray, List.getElem_cons_zero, List.getElem_cons_succ, List.setIfInBounds_toArray, List.set_cons_zero, List.set_cons_succ]
        refine E_takeR (i := 9) (oi := _) (v := ?v13) rfl (by kernel_rfl) (by kernel_rfl) (by kernel_rfl) (by decide) (fun _ _ _ h => h) hwa3 (Or.inl ⟨by rfl, ?y13⟩) ?r13
        case y13 => (intro w' hSw; (try dsimp only at hSw); go_simp; try with_reducible rfl)
        try simp only [Act.put, List.getElem_toArray, List.getElem_cons_zero, List.getElem_cons_succ, List.setIfInBounds_toArray, List.set_cons_zero, List.set_cons_succ]
        refine E_takeR (i := 10) (oi := _) (v := ?v14) rfl (by kernel_rfl) (by kernel_rfl) (by kernel_rfl) (by decide) (fun _ _ _ h => h) hwa3 (Or.inl ⟨by rfl, ?y14⟩) ?r14
        case y14 => (intro w' hSw; (try dsimp only at hSw); go_simp; try with_reducible rfl)
        try simp only [Act.put, List.getElem_toArray, List.getElem_cons_zero, List.getElem_cons_succ, List.setIfInBounds_toArray, List.set_cons_zero, List.set_cons_succ]
        refine E_takeR (i := 12) (oi := _) (v := ?v15) rfl (by kernel_rfl) (by kernel_rfl) (by kernel_rfl) (by decide) (fun _ _ _ h => h) hwa3 (Or.inl ⟨by rfl, ?y15⟩) ?r15
        case y15 => (intro w' hSw; (try dsimp only at hSw); go_simp; try with_reducible rfl)
        try simp only [Act.put, List.getElem_toArray, List.getElem_cons_zero, List.getElem_cons_succ, List.setIfInBounds_toArray, List.set_cons_zero, List.set_cons_succ]
        refine E_takeR (i := 13) (oi := _) (v := ?v16) rfl (by kernel_rfl) (by kernel_rfl) (by kernel_rfl) (by decide) (fun _ _ _ h => h) hwa3 (Or.inl ⟨by rfl, ?y16⟩) ?r16
        case y16 => (intro w' hSw; (try dsimp only at hSw); go_simp; try with_reducible rfl)
        try simp only [Act.put, List.getElem_toArray, List.getElem_cons_zero, List.getElem_cons_succ, List.setIfInBounds_toArray, List.set_cons_zero, List.set_cons_succ]
        refine E_step (i := 11) (o := _) (by kernel_rfl) rfl (fun K hK => ?_)
        go_simp
        refine (refMinus_any q p wa3 HOQ.out HOP.out).mono ?_
        rintro e wa4 ⟨rfl, hba4⟩
        dsimp only
        have Bwa4 := Lib.hid (Bwa3.out.trans (hba4.mono Bwa3.out.size))
        have hwa4 := HX.out wa4 Bwa4.out
        refine hK.out _ _ (fun h => hwa4) ?_
        clear hK K hba4
        try simp only [Act.put, List.getElem_toArray, List.getElem_cons_zero, List.getElem_cons_succ, List.setIfInBounds_toArray, List.set_cons_zero, List.set_cons_succ]
        refine E_step (i := 14) (o := _) (by kernel_rfl) rfl (fun K hK => ?_)
        go_simp
        refine (refMinus_any nx q wa4 HON.out HOQ.out).mono ?_
        rintro e wa5 ⟨rfl, hba5⟩
        dsimp only
        have Bwa5 := Lib.hid (Bwa4.out.trans (hba5.mono Bwa4.out.size))
        have hwa5 := HX.out wa5 Bwa5.out
        refine hK.out _ _ (fun h => hwa5) ?_
        clear hK K hba5
        try simp only [Act.put, List.getElem_toArray, List.getElem_cons_zero, List.getElem_cons_succ, List.setIfInBounds_toArray, List.set_cons_zero, List.set_cons_succ]
        refine E_step (i := 15) (o := _) (by kernel_rfl) rfl (fun K hK => ?_)
        go_simp
        refine (HDR.out wa5).mono ?_
        rintro e wa6 ⟨rfl, hba6⟩
        dsimp only
        have Bwa6 := Lib.hid (Bwa5.out.trans (hba6.mono Bwa5.out.size))
        have hwa6 := HX.out wa6 Bwa6.out
        refine hK.out _ _ (fun h => hwa6) ?_
        clear hK K hba6
        try simp only [Act.put, List.getElem_toArray, List.getElem_cons_zero, List.getElem_cons_succ, List.setIfInBounds_toArray, List.set_cons_zero, List.set_cons_succ]
        refine E_step (i := 16) (o := _) (by kernel_rfl) rfl (fun K hK => ?_)
        go_simp
        refine hK.out _ _ (fun h => hwa6) ?_
        clear hK K
        try simp only [Act.put, List.getElem_toArray, List.getElem_cons_zero, List.getElem_cons_succ, List.setIfInBounds_toArray, List.set_cons_zero, List.set_cons_succ]
        refine E_step (i := 17) (o := _) (by kernel_rfl) rfl (fun K hK => ?_)
        go_simp
        refine hK.out _ _ (fun h => hwa6) ?_
        clear hK K
        try simp only [Act.put, List.getElem_toArray, List.getElem_cons_zero, List.getElem_cons_succ, List.setIfInBounds_toArray, List.set_cons_zero, List.set_cons_succ]
        refine E_done (by kernel_rfl) ?_ _
        clear ha0 hwa1 hwa2 hwa3 hwa4 hwa5 hwa6
        have HBZ := Lib.hid (HBI.out.trans (Bwa6.out.mono HBI.out.size))
        have HPZ := Lib.hid (HPI.out.belowS Bwa6.out)
        have HQZ := Lib.hid (HQI.out.belowS Bwa6.out)
        by_cases hD0 : D < 0
        · have HV := Lib.hid (show convX f.cs = false from conv_no HKL.out (by rw [HSP.out]; simp [hC0, hD0]))
          have HBR := Lib.hid (HBW8.out.trans (HBZ.out.mono HBW8.out.size))
          go_wp2_with fail
          go_ret
          exact ⟨by rw [HV.out]; rfl, HBR.out⟩
        have HOA := Lib.hid (show okAt f.cs k = true by rw [HSP.out]; simp [hC0, hD0])
        have HNK := Lib.hid (show ∀ j, j < k + 1 → okAt f.cs j = true from fun j hj => by
          by_cases e : j = k
          · subst e; exact HOA.out
          · exact HNO.out j (by omega))
        have ecr := cross_bd HOP.out HOQ.out
        have HCP := Lib.hid (fun W => refCross_any p q W HOP.out.sm HOQ.out.sm)
        obtain ⟨E, hE⟩ : ∃ E, crossP p q = E := ⟨_, rfl⟩
        rw [hE] at HAR ecr
        simp only [hE] at HCP
        have eae : IntKind.i64.wrap (AR + E) = AR + E := by have := HLL.out; rw [IntKind.wrap_i64]; omega
        obtain ⟨p0, p1⟩ := And.intro (HPZ.out.cell 0) (HPZ.out.cell 1)
        obtain ⟨q0, q1⟩ := And.intro (HQZ.out.cell 0) (HQZ.out.cell 1)
        simp only [List.getElem?_toArray, List.getElem?_cons_zero, List.getElem?_cons_succ] at p0 p1 q0 q1
        have lP := HPZ.out.lt
        have lQ := HQZ.out.lt
        clear hE ecr
        go_wp2_with fail
        refine (HCP.out _).mono ?_
        rintro e w9 ⟨rfl, hb9⟩
        have HB9 := Lib.hid (HB8.out.trans ((HBZ.out.trans (hb9.mono HBZ.out.size)).mono HB8.out.size))
        have HB10 := Lib.hid (HB.out.trans (HB9.out.mono HB.out.size))
        clear hb9 p0 p1 q0 q1 lP lQ HCP
        go_wp2_with fail
        first
          | exact ⟨⟨k + 1, by have := HKL.out; omega, by simp, by rw [HAR.out], HNK.out, HB10.out⟩, by have := HKL.out; simp [intOf]; omega⟩
      have z : (C == 0) = false := by simpa using hC0
      go_upto_region 13 with fail
      refine wp_region_E 18 (fun w' => w'.cell? ⟨BQ, 0, none⟩ = some (.int .i64 q.x) ∧ w'.cell? ⟨BQ, 1, none⟩ = some (.int .i64 q.y) ∧ w'.cell? ⟨BP, 0, none⟩ = some (.int .i64 p.x) ∧ w'.cell? ⟨BP, 1, none⟩ = some (.int .i64 p.y) ∧ w'.cell? ⟨BN, 0, none⟩ = some (.int .i64 nx.x) ∧ w'.cell? ⟨BN, 1, none⟩ = some (.int .i64 nx.y)) (by kernel_rfl) ?_
      have Bb0 := Lib.hid ((Below.refl wi.heap.size wi).drew)
      have hb0 := HX.out wi.drew Bb0.out
      refine E_takeR (i := 0) (oi := _) (v := ?v17) rfl (by kernel_rfl) (by kernel_rfl) (by kernel_rfl) (by decide) (fun _ _ _ h => h) hb0 (Or.inl ⟨by rfl, ?y17⟩) ?r17
      case y17 => (intro w' hSw; (try dsimp only at hSw); go_simp; try with_reducible rfl)
      try simp only [Act.put, List.getElem_toArray, List.getElem_cons_zero, List.getElem_cons_succ, List.setIfInBounds_toArray, List.set_cons_zero, List.set_cons_succ]
      refine E_takeR (i := 1) (oi := _) (v := ?v18) rfl (by kernel_rfl) (by kernel_rfl) (by kernel_rfl) (by decide) (fun _ _ _ h => h) hb0 (Or.inl ⟨by rfl, ?y18⟩) ?r18
      case y18 => (intro w' hSw; (try dsimp only at hSw); go_simp; try with_reducible rfl)
      try simp only [Act.put, List.getElem_toArray, List.getElem_cons_zero, List.getElem_cons_succ, List.setIfInBounds_toArray, List.set_cons_zero, List.set_cons_succ]
      refine E_takeR (i := 3) (oi := _) (v := ?v19) rfl (by kernel_rfl) (by kernel_rfl) (by kernel_rfl) (by decide) (fun _ _ _ h => h) hb0 (Or.inl ⟨by rfl, ?y19⟩) ?r19
      case y19 => (intro w' hSw; (try dsimp only at hSw); go_simp; try with_reducible rfl)
      try simp only [Act.put, List.getElem_toArray, List.getElem_cons_zero, List.getElem_cons_succ, List.setIfInBounds_toArray, List.set_cons_zero, List.set_cons_succ]
      refine E_takeR (i := 4) (oi := _) (v := ?v20) rfl (by kernel_rfl) (by kernel_rfl) (by kernel_rfl) (by decide) (fun _ _ _ h => h) hb0 (Or.inl ⟨by rfl, ?y20⟩) ?r20
      case y20 => (intro w' hSw; (try dsimp only at hSw); go_simp; try with_reducible rfl)
      try simp only [Act.put, List.getElem_toArray, List.getElem_cons_zero, List.getElem_cons_succ, List.setIfInBounds_toArray, List.set_cons_zero, List.set_cons_succ]
      refine E_step (i := 2) (o := _) (by kernel_rfl) rfl (fun K hK => ?_)
      go_simp
      refine (refMinus_any q p wi.drew HOQ.out HOP.out).mono ?_
      rintro e wb1 ⟨rfl, hbb1⟩
      dsimp only
      have Bwb1 := Lib.hid (Bb0.out.trans (hbb1.mono Bb0.out.size))
      have hwb1 := HX.out wb1 Bwb1.out
      refine hK.out _ _ (fun h => hwb1) ?_
      clear hK K hbb1
      try simp only [Act.put, List.getElem_toArray, List.getElem_cons_zero, List.getElem_cons_succ, List.setIfInBounds_toArray, List.set_cons_zero, List.set_cons_succ]
      refine E_step (i := 5) (o := _) (by kernel_rfl) rfl (fun K hK => ?_)
      go_simp
      refine (refMinus_any nx q wb1 HON.out HOQ.out).mono ?_
      rintro e wb2 ⟨rfl, hbb2⟩
      dsimp only
      have Bwb2 := Lib.hid (Bwb1.out.trans (hbb2.mono Bwb1.out.size))
      have hwb2 := HX.out wb2 Bwb2.out
      refine hK.out _ _ (fun h => hwb2) ?_
      clear hK K hbb2
      try simp only [Act.put, List.getElem_toArray, List.getElem_cons_zero, List.getElem_cons_succ, List.setIfInBounds_toArray, List.set_cons_zero, List.set_cons_succ]
      refine E_step (i := 6) (o := _) (by kernel_rfl) rfl (fun K hK => ?_)
      go_simp
      refine (HCR.out wb2).mono ?_
      rintro e wb3 ⟨rfl, hbb3⟩
      dsimp only
      have Bwb3 := Lib.hid (Bwb2.out.trans (hbb3.mono Bwb2.out.size))
      have hwb3 := HX.out wb3 Bwb3.out
      refine hK.out _ _ (fun h => hwb3) ?_
      clear hK K hbb3
      try simp only [Act.put, List.getElem_toArray, List.getElem_cons_zero, List.getElem_cons_succ, List.setIfInBounds_toArray, List.set_cons_zero, List.set_cons_succ]
      refine E_step (i := 7) (o := _) (by kernel_rfl) rfl (fun K hK => ?_)
      go_simp
      refine hK.out _ _ (fun h => hwb3) ?_
      clear hK K
      try simp only [Act.put, List.getElem_toArray, List.getElem_cons_zero, List.getElem_cons_succ, List.setIfInBounds_toArray, List.set_cons_zero, List.set_cons_succ]
      try rw [z]
      refine E_step (i := 8) (o := _) (by kernel_rfl) rfl (fun K hK => ?_)
      go_simp
      refine hK.out _ _ (fun h => hwb3) ?_
      clear hK K
      try simp only [Act.put, List.getElem_toArray, List.getElem_cons_zero, List.getElem_cons_succ, List.setIfInBounds_toArray, List.set_cons_zero, List.set_cons_succ]
      refine E_takeR (i := 9) (oi := _) (v := undef) rfl (by kernel_rfl) (by kernel_rfl) (by kernel_rfl) (by decide) (fun _ _ _ h => h) hwb3 (Or.inr ⟨by rfl, rfl⟩) ?_
      try simp only [Act.put, List.getElem_toArray, List.getElem_cons_zero, List.getElem_cons_succ, List.setIfInBounds_toArray, List.set_cons_zero, List.set_cons_succ]
      refine E_takeR (i := 10) (oi := _) (v := undef) rfl (by kernel_rfl) (by kernel_rfl) (by kernel_rfl) (by decide) (fun _ _ _ h => h) hwb3 (Or.inr ⟨by rfl, rfl⟩) ?_
      try simp only [Act.put, List.getElem_toArray, List.getElem_cons_zero, List.getElem_cons_succ, List.setIfInBounds_toArray, List.set_cons_zero, List.set_cons_succ]
      refine E_takeR (i := 12) (oi := _) (v := undef) rfl (by kernel_rfl) (by kernel_rfl) (by kernel_rfl) (by decide) (fun _ _ _ h => h) hwb3 (Or.inr ⟨by rfl, rfl⟩) ?_
      try simp only [Act.put, List.getElem_toArray, List.getElem_cons_zero, List.getElem_cons_succ, List.setIfInBounds_toArray, List.set_cons_zero, List.set_cons_succ]
      refine E_takeR (i := 13) (oi := _) (v := undef) rfl (by kernel_rfl) (by kernel_rfl) (by kernel_rfl) (by decide) (fun _ _ _ h => h) hwb3 (Or.inr ⟨by rfl, rfl⟩) ?_
      try simp only [Act.put, List.getElem_toArray, List.getElem_cons_zero, List.getElem_cons_succ, List.setIfInBounds_toArray, List.set_cons_zero, List.set_cons_succ]
      refine E_step (i := 11) (o := _) (by kernel_rfl) rfl (fun K hK => ?_)
      go_simp
      refine hK.out _ _ (fun h => hwb3) ?_
      clear hK K
      try simp only [Act.put, List.getElem_toArray, List.getElem_cons_zero, List.getElem_cons_succ, List.setIfInBounds_toArray, List.set_cons_zero, List.set_cons_succ]
      refine E_step (i := 14) (o := _) (by kernel_rfl) rfl (fun K hK => ?_)
      go_simp
      refine hK.out _ _ (fun h => hwb3) ?_
      clear hK K
      try simp only [Act.put, List.getElem_toArray, List.getElem_cons_zero, List.getElem_cons_succ, List.setIfInBounds_toArray, List.set_cons_zero, List.set_cons_succ]
      refine E_step (i := 15) (o := _) (by kernel_rfl) rfl (fun K hK => ?_)
      go_simp
      refine hK.out _ _ (fun h => hwb3) ?_
      clear hK K
      try simp only [Act.put, List.getElem_toArray, List.getElem_cons_zero, List.getElem_cons_succ, List.setIfInBounds_toArray, List.set_cons_zero, List.set_cons_succ]
      refine E_step (i := 16) (o := _) (by kernel_rfl) rfl (fun K hK => ?_)
      go_simp
      refine hK.out _ _ (fun h => hwb3) ?_
      clear hK K
      try simp only [Act.put, List.getElem_toArray, List.getElem_cons_zero, List.getElem_cons_succ, List.setIfInBounds_toArray, List.set_cons_zero, List.set_cons_succ]
      refine E_step (i := 17) (o := _) (by kernel_rfl) rfl (fun K hK => ?_)
      go_simp
      refine hK.out _ _ (fun h => hwb3) ?_
      clear hK K
      try simp only [Act.put, List.getElem_toArray, List.getElem_cons_zero, List.getElem_cons_succ, List.setIfInBounds_toArray, List.set_cons_zero, List.set_cons_succ]
      refine E_done (by kernel_rfl) ?_ _
      clear hb0 hwb1 hwb2 hwb3
      have HBZ := Lib.hid (HBI.out.trans (Bwb3.out.mono HBI.out.size))
      have HPZ := Lib.hid (HPI.out.belowS Bwb3.out)
      have HQZ := Lib.hid (HQI.out.belowS Bwb3.out)
      have HOA := Lib.hid (show okAt f.cs k = true by rw [HSP.out]; simp [hC0])
      have HNK := Lib.hid (show ∀ j, j < k + 1 → okAt f.cs j = true from fun j hj => by
        by_cases e : j = k
        · subst e; exact HOA.out
        · exact HNO.out j (by omega))
      have ecr := cross_bd HOP.out HOQ.out
      have HCP := Lib.hid (fun W => refCross_any p q W HOP.out.sm HOQ.out.sm)
      obtain ⟨E, hE⟩ : ∃ E, crossP p q = E := ⟨_, rfl⟩
      rw [hE] at HAR ecr
      simp only [hE] at HCP
      have eae : IntKind.i64.wrap (AR + E) = AR + E := by have := HLL.out; rw [IntKind.wrap_i64]; omega
      obtain ⟨p0, p1⟩ := And.intro (HPZ.out.cell 0) (HPZ.out.cell 1)
      obtain ⟨q0, q1⟩ := And.intro (HQZ.out.cell 0) (HQZ.out.cell 1)
      simp only [List.getElem?_toArray, List.getElem?_cons_zero, List.getElem?_cons_succ] at p0 p1 q0 q1
      have lP := HPZ.out.lt
      have lQ := HQZ.out.lt
      clear hE ecr
      go_wp2_with fail
      refine (HCP.out _).mono ?_
      rintro e w9 ⟨rfl, hb9⟩
      have HB9 := Lib.hid (HB8.out.trans ((HBZ.out.trans (hb9.mono HBZ.out.size)).mono HB8.out.size))
      have HB10 := Lib.hid (HB.out.trans (HB9.out.mono HB.out.size))
      clear hb9 p0 p1 q0 q1 lP lQ HCP
      go_wp2_with fail
      first
        | exact ⟨⟨k + 1, by have := HKL.out; omega, by simp, by rw [HAR.out], HNK.out, HB10.out⟩, by have := HKL.out; simp [intOf]; omega⟩
end Go.Proofs.Ytpdgcajbdaleeaa
