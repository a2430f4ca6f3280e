/- RoofLaid: the law's walk: it returns true. -/
import Derived.Test.YtpheaomlphggfaaLH
import Derived.Deep.DeepCutAuto
import Derived.Deep.QuietTactic
import Derived.BigQuiet
namespace Go.Proofs.Ytpheaomlphggfaa
open Go.RowKit

theorem low_back (n d : Int) : n = lowN n d * (Int.gcd n d : Int) ∧ d = lowD n d * (Int.gcd n d : Int) := by
  unfold lowN lowD
  exact ⟨(Int.ediv_mul_cancel (Int.gcd_dvd_left ..)).symm, (Int.ediv_mul_cancel (Int.gcd_dvd_right ..)).symm⟩
theorem low_bd {n d m : Int} (hd : 0 < d) (hn : -m ≤ n) (hn' : n ≤ m) : (-m ≤ lowN n d ∧ lowN n d ≤ m) ∧ 1 ≤ lowD n d ∧ lowD n d ≤ d := by
  obtain ⟨a1, a2⟩ := low_back n d
  have g0 : (1 : Int) ≤ (Int.gcd n d : Int) := by
    have : Int.gcd n d ≠ 0 := fun h => by rw [Int.gcd_eq_zero_iff] at h; omega
    omega
  generalize lowN n d = A at *
  generalize lowD n d = B at *
  generalize (Int.gcd n d : Int) = g at *
  have hB : 1 ≤ B := by
    rcases Int.lt_or_le 0 B with k | k
    · omega
    · have := Int.mul_nonpos_of_nonpos_of_nonneg k (show 0 ≤ g by omega)
      omega
  refine ⟨⟨?_, ?_⟩, hB, ?_⟩
  · rcases Int.le_total 0 A with k | k
    · omega
    · have := Int.mul_nonneg (show 0 ≤ -A by omega) (show 0 ≤ g - 1 by omega)
      rw [Int.neg_mul, Int.mul_sub, Int.mul_one] at this
      omega
  · rcases Int.le_total 0 A with k | k
    · have := Int.mul_le_mul_of_nonneg_left g0 k
      omega
    · omega
  · have := Int.mul_le_mul_of_nonneg_left g0 (show 0 ≤ B by omega)
    omega

theorem hNum_bd {f : Fac} (hf : f.ok) {p : Pnt} (hp : p.ok) : -3000000 ≤ hNum f p ∧ hNum f p ≤ 3000000 := by
  obtain ⟨⟨a, b⟩, c, d⟩ := hp
  have v : -20000 ≤ ownV f.side p - ownV f.side ⟨f.foot, f.foot⟩ ∧ ownV f.side p - ownV f.side ⟨f.foot, f.foot⟩ ≤ 20000 := by
    have h0 := hf.f0
    have h1 := hf.f1
    unfold ownV
    (repeat' split) <;> simp only [] <;> omega
  have h1 := mul_bd (a := f.base) (b := f.run) (m := 10000) (n := 100) (by have := hf.b0; omega) hf.b1 (by have := hf.n0; omega) hf.n1
  have h2 := mul_bd (a := f.rise) (b := ownV f.side p - ownV f.side ⟨f.foot, f.foot⟩) (m := 100) (n := 20000) (by have := hf.r0; omega) hf.r1 v.1 v.2
  unfold hNum
  omega
theorem hgt_bd {f : Fac} (hf : f.ok) {p : Pnt} (hp : p.ok) : (-3000000 ≤ hgtN f p ∧ hgtN f p ≤ 3000000) ∧ 1 ≤ hgtD f p ∧ hgtD f p ≤ 100 := by
  obtain ⟨h1, h2⟩ := hNum_bd hf hp
  have n0 := hf.n0
  have n1 := hf.n1
  obtain ⟨k1, k2, k3⟩ := low_bd (n := hNum f p) (d := f.run) (m := 3000000) (by omega) h1 h2
  exact ⟨k1, k2, by unfold hgtD; omega⟩


theorem bel_alloc {w w' : World} (h : Below w.heap.size w w') (o : Obj) : Below w.heap.size w (w'.alloc o) := h.alloc h.size o
theorem bel_call {w w' w2 : World} (h : Below w.heap.size w w') (hb : Below w'.heap.size w' w2) : Below w.heap.size w w2 := h.trans (hb.mono h.size)
theorem bel_set {w w' : World} (h : Below w.heap.size w w') {A o : Nat} (hA : w.heap.size ≤ A) (v : Value) : Below w.heap.size w (w'.setCell ⟨A, o, none⟩ v) := h.setCell hA v
theorem bel_drew {w w' : World} (h : Below w.heap.size w w') : Below w.heap.size w w'.drew := h.drew
/-- Height at a point of the plan, of a roof that may be. -/
theorem height_is (R : Roo) (hE : checkE R = 0) (i : Nat) (F : Fac) (hf : R.fs[i]? = some F) (p : Pnt) (hp : p.ok) (w : World) (hR : IsRoof w R) :
    Calls Try.prog 23 #[.agg #[.slice R.fa R.fs.length R.fc, .slice R.oa R.os.length R.oc], .int .i64 i, .agg #[.int .i64 p.x, .int .i64 p.y]] w fun e w' => e = .returned (.tuple #[.agg #[.int .i64 (hgtN F p), .int .i64 (hgtD F p)], .int .i64 0]) ∧ Below w.heap.size w w' := by
  refine (height_any R i p w hR).mono ?_
  rintro e w' ⟨hb, h⟩
  have hil := (List.getElem?_eq_some_iff.1 hf).1
  rw [if_neg (by simpa using hE), if_neg (by unfold hasB; simp; omega), if_neg (by rw [Pnt.okB_iff.2 hp]; simp)] at h
  obtain ⟨G, hG, rfl⟩ := h
  rw [Int.toNat_natCast, hf] at hG
  cases hG
  exact ⟨rfl, hb⟩
theorem run_equalIn_pt (d : Nat) (n m n' m' : Int) (w : World) : (Op.equalIn (d + 2) 68 (.agg #[.int .i64 n, .int .i64 m]) (.agg #[.int .i64 n', .int .i64 m'])).run Try.prog w = .ok (decide (n = n' ∧ m = m')) w := by
  rw [run_equalIn_struct w (d + 1) 68 _ _ (by kernel_rfl) (by kernel_rfl)]
  by_cases h1 : n = n' <;> by_cases h2 : m = m'
  all_goals simp [Program.fieldsOf, Try.underlying68, Op.eqFields, go_sem, h1, h2]
theorem near_sub {p c : Pnt} (hp : p.near 10000) (hc : c.near 10000) : (subP c p).near 20000 := by
  obtain ⟨⟨h1, h2⟩, h3, h4⟩ := hp
  obtain ⟨⟨h5, h6⟩, h7, h8⟩ := hc
  unfold subP
  exact ⟨⟨by simp only []; omega, by simp only []; omega⟩, by simp only []; omega, by simp only []; omega⟩
theorem ownB_near {f : Fac} (h : okPts f.cs) (h0 : 0 < f.cs.length) : (ownB f).lo.near 10000 := by
  have hn : ∀ p ∈ ownL f, p.near 10000 := by
    intro p hp
    obtain ⟨q, hq, rfl⟩ := List.mem_map.1 hp
    exact own_near f.side (h q hq)
  have hf : (fstP (ownL f)).near 10000 := by
    unfold fstP
    rw [List.getElem?_eq_getElem (by unfold ownL; rw [List.length_map]; exact h0)]
    exact hn _ (List.getElem_mem _)
  exact loP_near _ _ hf hn
theorem outF_near {f : Fac} (h : okPts f.cs) (h0 : 0 < f.cs.length) : ∀ p ∈ outF f, p.near 20000 := by
  intro p hp
  obtain ⟨q, hq, rfl⟩ := List.mem_map.1 hp
  obtain ⟨r, hr, rfl⟩ := List.mem_map.1 hq
  exact near_sub (own_near f.side (h r hr)) (ownB_near h h0)
theorem holF_near {fs : List Fac} {f : Fac} {os : List Opn} (hos : ∀ o ∈ os, o.fine fs) (h : okPts f.cs) (h0 : 0 < f.cs.length) (i : Nat) : ∀ b ∈ holF f os i, b.lo.near 20000 ∧ b.hi.near 20000 := by
  intro b hb
  obtain ⟨c, hc, rfl⟩ := List.mem_map.1 hb
  obtain ⟨o, ho, rfl⟩ := List.mem_map.1 hc
  have hof := hos o (List.mem_filter.1 ho).1
  have a1 := own_near f.side hof.lo
  have a3 : ∀ p ∈ [ownP f.side o.lo, ownP f.side o.hi], p.near 10000 := by
    intro p hp
    rcases List.mem_cons.1 hp with rfl | hp
    · exact a1
    · obtain rfl := List.mem_singleton.1 hp
      exact own_near f.side hof.hi
  exact ⟨near_sub (loP_near _ _ a1 a3) (ownB_near h h0), near_sub (hiP_near _ _ a1 a3) (ownB_near h h0)⟩
theorem twoS_bd {l : List Box} (h : ∀ b ∈ l, 0 ≤ b.two ∧ b.two ≤ 200000000) : 0 ≤ twoS l ∧ twoS l ≤ 200000000 * (l.length : Int) := by
  induction l with
  | nil => simp [twoS]
  | cons b l ih =>
    have hb := h b (by simp)
    have := ih (fun c hc => h c (by simp [hc]))
    have e : twoS (b :: l) = b.two + twoS l := by simp [twoS]
    rw [e, List.length_cons]
    omega
theorem near_more {p : Pnt} {m n : Int} (h : p.near m) (hm : m ≤ n) : p.near n := by
  obtain ⟨⟨h1, h2⟩, h3, h4⟩ := h
  exact ⟨⟨by omega, by omega⟩, by omega, by omega⟩
theorem shape_pts {w : World} {v : Value} {l : List Pnt} (h : IsPts w v l) (h0 : 0 < l.length) : ∃ b off cap, v = .slice (some ⟨b, off, none⟩) l.length cap ∧ b < w.heap.size ∧ l.length ≤ cap ∧ cap ≤ 9223372036854775807 ∧ PtsAt w b off l := by
  rcases h with ⟨_, hn⟩ | h
  · rw [hn] at h0; simp at h0
  · exact h
theorem shape_bxs {w : World} {v : Value} {l : List Box} (h : IsBxs w v l) : ∃ a cap, v = .slice a l.length cap ∧ l.length ≤ cap ∧ cap ≤ 9223372036854775807 ∧ ∀ j x, l[j]? = some x → ∃ g, a = some ⟨g, 0, none⟩ ∧ g < w.heap.size ∧ BxAt w g (j * 4) x := by
  rcases h with ⟨rfl, rfl⟩ | ⟨g, cap, rfl, h1, h2, h3, h4⟩
  · exact ⟨none, 0, rfl, Nat.le_refl _, by omega, fun j x h => by simp at h⟩
  · exact ⟨some ⟨g, 0, none⟩, cap, rfl, h2, h3, fun j x hx => ⟨g, rfl, h1, h4 j x hx⟩⟩

/-- The cells that the two questions for a height read. -/
abbrev HeldL (W : World) (B X cb o : Nat) (s0 s1 s6 : Value) (p : Pnt) (w : World) : Prop := Below W.heap.size W w ∧ (w.cell? ⟨B, 0, none⟩ = some s0 ∧ w.cell? ⟨B, 1, none⟩ = some s1) ∧ w.cell? ⟨X, 6, none⟩ = some s6 ∧ w.cell? ⟨cb, o, none⟩ = some (.int .i64 p.x) ∧ w.cell? ⟨cb, o + 1, none⟩ = some (.int .i64 p.y)
theorem HeldL.step {W w' : World} {B X cb o : Nat} {s0 s1 s6 : Value} {p : Pnt} (h : HeldL W B X cb o s0 s1 s6 p W) (hbe : Below W.heap.size W w') : HeldL W B X cb o s0 s1 s6 p w' := by
  have c : ∀ b i v, W.cell? ⟨b, i, none⟩ = some v → w'.cell? ⟨b, i, none⟩ = some v := fun b i v hv => (hbe.cell (p := ⟨b, i, none⟩) (World.block_lt_of_cell? _ _ hv)).trans hv
  obtain ⟨_, ⟨h1, h2⟩, h3, h4, h5⟩ := h
  exact ⟨hbe, ⟨c _ _ _ h1, c _ _ _ h2⟩, c _ _ _ h3, c _ _ _ h4, c _ _ _ h5⟩

set_option maxRecDepth 100000 in
set_option maxHeartbeats 16000000 in
theorem laidLaw_any (R : Roo) (i : Int) (w : World) (hR : IsRoof w R) :
    Calls Try.prog 6 #[.agg #[.slice R.fa R.fs.length R.fc, .slice R.oa R.os.length R.oc], .int .i64 i] w fun e w' => e = .returned (.bool true) ∧ Below w.heap.size w w' := by
  have hgreat := great_any R
  have hlay := lay_any R i
  have hareas := areas_any R
  have hhgt := height_is R
  obtain ⟨fa, fc, fs, oa, oc, os⟩ := R
  simp only [] at hgreat hlay hareas hhgt
  have hB : Below w.heap.size w (w.alloc (.cells #[.slice fa fs.length fc, .slice oa os.length oc] 25)) := (Below.refl _ _).alloc (Nat.le_refl _) _
  have kR := Blk.new w 25 #[.slice fa fs.length fc, .slice oa os.length oc]
  have HG := Lib.hid hgreat
  have HLAY := Lib.hid hlay
  have HARE := Lib.hid hareas
  have HHT := Lib.hid hhgt
  have HR := Lib.hid hR
  clear hR hgreat hlay hareas hhgt
  go_enter Try.func6, Try.ntmps6
  go_wp2_with fail
  refine (HG.out _ (HR.out.below hB)).mono ?_
  rintro e w1 ⟨hb1, gb, rfl, hgb⟩
  have hB1 := hB.trans (hb1.mono hB.size)
  have kR1 := kR.belowS hb1
  clear kR hB hb1 hgb
  cases gb with
  | true =>
    go_wp2_with fail
    refine (lives_any _).mono ?_
    rintro e w2 ⟨rfl, hb2⟩
    go_wp2_with fail
    go_ret
    exact ⟨rfl, hB1.trans (hb2.mono hB1.size)⟩
  | false =>
    have c0 := kR1.cell 0
    have c1 := kR1.cell 1
    simp only [List.getElem?_toArray, List.getElem?_cons_zero, List.getElem?_cons_succ] at c0 c1
    go_wp2_with fail
    refine (HLAY.out _ (HR.out.below hB1)).mono ?_
    rintro e w2 ⟨hb2, hif⟩
    have hB2 := hB1.trans (hb2.mono hB1.size)
    have kR2 := kR1.belowS hb2
    clear kR1 hB1 hb2 c0 c1
    by_cases hE : checkE ⟨fa, fc, fs, oa, oc, os⟩ = 0
    · rw [if_neg (by simpa using hE)] at hif
      have HE := Lib.hid hE
      clear hE
      cases hh : hasB ⟨fa, fc, fs, oa, oc, os⟩ i with
      | false =>
        rw [if_pos hh] at hif
        subst hif
        clear hh
        go_wp2_with fail
        refine (lives_any _).mono ?_
        rintro e w3 ⟨rfl, hb3⟩
        go_wp2_with fail
        go_ret
        exact ⟨rfl, (hB2.alloc hB2.size _).trans (hb3.mono (by have := hB2.size; simp; omega))⟩
      | true =>
        rw [if_neg (by rw [hh]; simp)] at hif
        obtain ⟨F, hF, hif⟩ := hif
        cases hw : wideF F os i.toNat with
        | true =>
          rw [if_pos hw] at hif
          subst hif
          clear hh hF hw
          go_wp2_with fail
          refine (lives_any _).mono ?_
          rintro e w3 ⟨rfl, hb3⟩
          go_wp2_with fail
          go_ret
          exact ⟨rfl, (hB2.alloc hB2.size _).trans (hb3.mono (by have := hB2.size; simp; omega))⟩
        | false =>
          rw [if_neg (by rw [hw]; simp)] at hif
          unfold hasB at hh
          simp only [Bool.and_eq_true, decide_eq_true_eq] at hh
          obtain ⟨hi0, hi1⟩ := hh
          obtain ⟨k, rfl⟩ := Int.eq_ofNat_of_zero_le hi0
          simp only [Int.toNat_natCast] at hF hif
          obtain ⟨v, u, rfl, hv, hu⟩ := hif
          clear hw
          have hkl : k < fs.length := by omega
          have hFok := checkE_ok HE.out F (List.mem_of_getElem? hF)
          obtain ⟨hokp, _⟩ := (checkE_faces HE.out).2 F (List.mem_of_getElem? hF)
          obtain ⟨hl3, hl12⟩ := face_len HE.out hF
          obtain ⟨hol, hofn⟩ := opens_fine HE.out
          have hfl16 := (checkE_faces HE.out).1
          have hrise := rise_said F
          have hbd := fun p hp => @hgt_bd F hFok p hp
          have hht := fun p hp W hr => HHT.out HE.out k F hF p hp W hr
          have hon := outF_near hokp (by omega)
          have hhm := holF_mem hofn F k
          have hhn := holF_near hofn hokp (by omega) k
          have hh2 := holF_two hofn F k
          have hoa := outF_area F
          have hls := outF_least F (by omega)
          have hoat := fun t p h => @outF_at F t p h
          have hola : (outF F).length = F.cs.length := by unfold outF ownL; rw [List.length_map, List.length_map]
          have hbase : areaF fs os k = area2 F.cs - opS os k := by unfold areaF; rw [hF]
          have habd := area2_bd hokp (by omega)
          simp only [] at hol hofn hfl16 hh2 hhm hhn
          rw [← hh2] at hbase
          have hhl : (holF F os k).length ≤ 12 := by
            unfold holF ownH
            rw [List.length_map, List.length_map]
            exact Nat.le_trans (List.length_filter_le ..) hol
          obtain ⟨vb, vo, vcap, e1, vlt, vc1, vc2, vpts⟩ := shape_pts hv (by rw [hola]; omega)
          obtain ⟨ua, ucap, rfl, uc1, uc2, ubx⟩ := shape_bxs hu
          subst e1
          have hal : ∀ W, IsPts W (.slice (some ⟨vb, vo, none⟩) (outF F).length vcap) (outF F) → Calls Try.prog 26 #[.slice (some ⟨vb, vo, none⟩) F.cs.length vcap] W fun e w' => e = .returned (.int .i64 (area2 F.cs)) ∧ Below W.heap.size W w' := fun W h => by
            have := area_any (some ⟨vb, vo, none⟩) vcap (outF F) W h (by rw [hola]; omega) (fun p hp => near_more (hon p hp) (by omega))
            rwa [hoa, hola] at this
          obtain ⟨fb, fo, efa, f2, f3, f4, hfac, hfin⟩ := (HR.out.below hB2).face hF
          simp only [] at f3 f4 efa
          subst efa
          have hlo := (ownB F).lo
          rw [hola] at vc1 ⊢
          have HAL := Lib.hid hal
          have HHB := Lib.hid hht
          have HRI := Lib.hid hrise
          have HBD := Lib.hid hbd
          have HON := Lib.hid hon
          have HHM := Lib.hid hhm
          have HHN := Lib.hid hhn
          have HLS := Lib.hid hls
          have HOAT := Lib.hid hoat
          have HOLA := Lib.hid hola
          have HBASE := Lib.hid hbase
          have HV := Lib.hid hv
          have HUB := Lib.hid ubx
          have HVP := Lib.hid vpts
          have HOKP := Lib.hid hokp
          have hr0 := hFok.r0
          have hr1 := hFok.r1
          have hn0 := hFok.n0
          have hn1 := hFok.n1
          clear hal hht hrise hbd hon hhm hhn hls hoat hola hbase hv hu ubx vpts hlo hoa hh2 hokp hofn hF hFok
          generalize outF F = OL at *
          generalize holF F os k = HL at *
          generalize hgtN F = hN at *
          generalize hgtD F = hD at *
          generalize (ownB F).lo = LO at *
          obtain ⟨nm, sd, ft, ba, ri, ru, ca, cc, cs⟩ := F
          obtain ⟨d0, d1, d2, d3, d4, d5, d6⟩ := hfac
          have hip := hfin.1
          simp only [] at hl3 hl12 habd vc1 hr0 hr1 hn0 hn1 d0 d1 d2 d3 d4 d5 d6 hip
          clear hfin
          rcases hip with ⟨_, hn⟩ | ⟨cb, co, c, e1, hcb, hcc, hcc', hpt⟩
          · rw [hn] at hl3; simp at hl3
          obtain ⟨rfl, _, rfl⟩ := slice_inj e1
          clear e1
          have HPT := Lib.hid hpt
          have hfa : FacAt w2 fb (fo + k * 7) ⟨nm, sd, ft, ba, ri, ru, some ⟨cb, co, none⟩, cc, cs⟩ := ⟨d0, d1, d2, d3, d4, d5, d6⟩
          have HFA := Lib.hid hfa
          clear hfa hpt d0 d1 d2 d3 d4 d5 d6
          have c0 := kR2.cell 0
          have c1 := kR2.cell 1
          simp only [List.getElem?_toArray, List.getElem?_cons_zero, List.getElem?_cons_succ] at c0 c1
          have lR2 := kR2.lt
          have hk0 : (0 : Int) ≤ (k : Int) := Int.natCast_nonneg _
          have hlN : 0 < cs.length := by omega
          have hcn : ¬ (cs = []) := by
            intro h
            rw [h] at hl3
            simp at hl3
          have hk1 : (k : Int) < (fs.length : Int) := by omega
          go_wp2_with fail
          have kX3 := Blk.new w2 61 #[.slice (some ⟨vb, vo, none⟩) cs.length vcap, .slice ua HL.length ucap]
          have hbx : Below w2.heap.size w2 (w2.alloc (.cells #[.slice (some ⟨vb, vo, none⟩) cs.length vcap, .slice ua HL.length ucap] 61)) := (Below.refl _ _).alloc (Nat.le_refl _) _
          generalize w2.alloc (.cells #[.slice (some ⟨vb, vo, none⟩) cs.length vcap, .slice ua HL.length ucap] 61) = W3 at *
          have hB3 := hB2.trans (hbx.mono hB2.size)
          refine (HARE.out _ (HR.out.below hB3)).mono ?_
          rintro e w4 ⟨hb4, hif⟩
          rw [if_neg (fun h => h HE.out)] at hif
          obtain ⟨z, rfl, hz⟩ := hif
          obtain ⟨za, zcap, rfl, zc1, zc2, hzc⟩ := hz.shape
          obtain ⟨zb, zo, rfl, zlt, zcell⟩ := hzc k (areaF fs os k) (by simp [hkl])
          simp only [List.length_map, List.length_range] at zc1 ⊢
          have hg4 : Below w2.heap.size w2 w4 := hbx.trans (hb4.mono hbx.size)
          have hB4 := hB2.trans (hg4.mono hB2.size)
          have kR4 := kR2.belowS hg4
          have kX4 := kX3.belowS hb4
          clear c0 c1 kR2 kX3 hb4 hB3 hbx hz hzc
          have hw4 := hg4.size
          have lX4 := kX4.lt
          have hfr4 : fb < w4.heap.size := by omega
          rw [HBASE.out] at zcell
          have c0 := kR4.cell 0
          have x0 := kX4.cell 0
          obtain ⟨d0, d1, d2, d3, d4, d5, d6⟩ := HFA.out.below hg4 f2
          simp only [List.getElem?_toArray, List.getElem?_cons_zero] at c0 x0 d0 d1 d2 d3 d4 d5 d6
          have q1 : decide ((k : Int) < 0) = false := by simp
          have q2 : decide ((fs.length : Int) ≤ (k : Int)) = false := by simp; omega
          go_upto_region 7 with fail
          go_quiet (fail)
          have hg5 : Below w4.heap.size w4 (w4.drewN nq) := below_drewN _ _ _
          generalize w4.drewN nq = w5 at *
          have kR5 := kR4.belowS hg5
          have kX5 := kX4.belowS hg5
          have zc5 := cell_below zcell hg5
          have hg25 := hg4.trans (hg5.mono hg4.size)
          have hB5 := hB4.trans (hg5.mono hB4.size)
          clear c0 x0 d0 d1 d2 d3 d4 d5 d6 kR4 kX4 zcell q1 q2
          have x0 := kX5.cell 0
          simp only [List.getElem?_toArray, List.getElem?_cons_zero] at x0
          go_wp2_with fail
          refine (HAL.out _ (HV.out.below hg25)).mono ?_
          rintro e w6 ⟨rfl, hb6⟩
          have hg26 := hg25.trans (hb6.mono hg25.size)
          have hB6 := hB5.trans (hb6.mono hB5.size)
          have kR6 := kR5.belowS hb6
          have kX6 := kX5.belowS hb6
          have zc6 := cell_below zc5 hb6
          clear x0 kR5 kX5 zc5 hg5 hg25 hb6 hB4 hB5 hg4
          have x1 := kX6.cell 1
          simp only [List.getElem?_toArray, List.getElem?_cons_zero, List.getElem?_cons_succ] at x1
          go_wp2_with fail
          clear x1
          go_loopw [9, 8, 10] (fun k' n _ wr => ∃ t : Nat, t ≤ HL.length ∧ k' = .int .i64 t ∧ n = .int .i64 (area2 cs - twoS (HL.take t)) ∧ Below w6.heap.size w6 wr) (fun k' _ _ _ => HL.length - (intOf k').toNat)
          case atStart => exact ⟨0, Nat.zero_le _, rfl, by simp [twoS], Below.refl _ _⟩
          case round =>
            obtain ⟨t, ht, rfl, rfl, g1⟩ := hrel
            have x1 := (kX6.belowS g1).cell 1
            simp only [List.getElem?_toArray, List.getElem?_cons_zero, List.getElem?_cons_succ] at x1
            by_cases hlt : t < HL.length
            · obtain ⟨b, hb⟩ : ∃ b, HL[t]? = some b := ⟨_, List.getElem?_eq_getElem hlt⟩
              obtain ⟨⟨hbx1, hby1⟩, _, _⟩ := HHM.out b (List.mem_of_getElem? hb)
              obtain ⟨⟨⟨n1, n2⟩, n3, n4⟩, ⟨n5, n6⟩, n7, n8⟩ := HHN.out b (List.mem_of_getElem? hb)
              obtain ⟨ug, rfl, hug, hbx⟩ := HUB.out t b hb
              have hg16 := hg26.trans (g1.mono hg26.size)
              obtain ⟨c0, c1, c2, c3⟩ := hbx.below hg16 hug
              have htk := take_snoc hb
              have hsu : area2 cs - twoS (HL.take (t + 1)) = area2 cs - twoS (HL.take t) - 2 * (b.hi.x - b.lo.x) * (b.hi.y - b.lo.y) := by
                rw [htk, twoS_snoc]
                unfold Box.two
                omega
              have hsb := twoS_bd (l := HL.take t) (fun b hb => (HHM.out b (List.mem_of_mem_take hb)).2)
              rw [List.length_take] at hsb
              obtain ⟨⟨bx0, by0⟩, bx1, by1⟩ := b
              simp only [] at c0 c1 c2 c3 hbx1 hby1 n1 n2 n3 n4 n5 n6 n7 n8 hsu
              have HSU := Lib.hid hsu
              have m1 := mul_bd (a := 2 * (bx1 - bx0)) (b := by1 - by0) (m := 80000) (n := 40000) (by omega) (by omega) (by omega) (by omega)
              have p1 : ¬ (bx1 ≤ bx0) := by omega
              have p2 : ¬ (by1 ≤ by0) := by omega
              have ht0 : (0 : Int) ≤ (t : Int) := Int.natCast_nonneg _
              have ht1 : (t : Int) < (HL.length : Int) := by omega
              have hugl : ug < wr.heap.size := Nat.lt_of_lt_of_le hug hg16.size
              generalize twoS (HL.take t) = S0 at *
              clear hb hbx htk hsu hbx1 hby1
              go_wp2_with fail
              refine ⟨⟨t + 1, by omega, by simp, ?_, g1.alloc g1.size _⟩, by simp [intOf]; omega⟩
              rw [HSU.out]
            · obtain rfl : t = HL.length := by omega
              rw [List.take_length]
              obtain ⟨w7, rfl⟩ : ∃ w7 : World, w7 = wr := ⟨_, rfl⟩
              have hg27 := hg26.trans (g1.mono hg26.size)
              have hB7 := hB6.trans (g1.mono hB6.size)
              have kR7 := kR6.belowS g1
              have kX7 := kX6.belowS g1
              have zc7 := cell_below zc6 g1
              clear kR6 kX6 zc6 g1 hg26 hB6 x1 hlt ht
              obtain ⟨p0, hp0⟩ : ∃ p, cs[0]? = some p := ⟨_, List.getElem?_eq_getElem (by omega)⟩
              have hp0k := HOKP.out p0 (List.mem_of_getElem? hp0)
              have ho0 := HOAT.out 0 p0 hp0
              have hfst : fstP OL = subP LO (ownP sd p0) := by unfold fstP; rw [ho0]; rfl
              obtain ⟨y0, y1⟩ := (HVP.out.below hg27 vlt) 0 _ ho0
              simp only [Nat.zero_mul, Nat.add_zero] at y0 y1
              obtain ⟨d0, d1, d2, d3, d4, d5, d6⟩ := HFA.out.below hg27 f2
              obtain ⟨s0, s1⟩ := (HPT.out.below hg27 hcb) 0 p0 hp0
              simp only [Nat.zero_mul, Nat.add_zero] at s0 s1
              have hls := HLS.out
              rw [hfst] at hls
              have hPy : ∀ (t : Nat) (p : Pnt), cs[t]? = some p → (subP LO (ownP sd p)).y - (subP LO (ownP sd p0)).y = ownV sd p - ownV sd p0 := fun t p _ => by unfold subP ownP; simp only []; omega
              have hn0' := HON.out _ (List.mem_of_getElem? ho0)
              generalize subP LO (ownP sd p0) = P0 at *
              have HLS2 := Lib.hid hls
              have HPY := Lib.hid hPy
              have HP0 := Lib.hid hp0k
              have HY1 := Lib.hid y1
              have HS0 := Lib.hid s0
              have HS1 := Lib.hid s1
              have x0 := kX7.cell 0
              have x1 := kX7.cell 1
              have c0 := kR7.cell 0
              simp only [List.getElem?_toArray, List.getElem?_cons_zero, List.getElem?_cons_succ] at x0 x1 c0 d0 d1 d2 d3 d4 d5 d6
              have hvl7 : vb < w7.heap.size := Nat.lt_of_lt_of_le vlt hg27.size
              have hfl7 : fb < w7.heap.size := Nat.lt_of_lt_of_le f2 hg27.size
              have hcb7 : cb < w7.heap.size := Nat.lt_of_lt_of_le hcb hg27.size
              have lX7 := kX7.lt
              have lR7 := kR7.lt
              have hl0 : (0 : Int) < (cs.length : Int) := by omega
              clear hp0 ho0 hfst hls hPy hp0k s0 s1
              go_wp2_with fail
              have kL8 := (Blk.new w7 68 #[.int .i64 P0.x, .int .i64 P0.y]).alloc (.cells #[.string nm, .int .i64 sd, .int .i64 ft, .int .i64 ba, .int .i64 ri, .int .i64 ru, .slice (some ⟨cb, co, none⟩) cs.length cc] 37)
              have kF8 := Blk.new (w7.alloc (.cells #[.int .i64 P0.x, .int .i64 P0.y] 68)) 37 #[.string nm, .int .i64 sd, .int .i64 ft, .int .i64 ba, .int .i64 ri, .int .i64 ru, .slice (some ⟨cb, co, none⟩) cs.length cc]
              simp only [World.size_alloc] at kF8
              have hb8 : Below w7.heap.size w7 ((w7.alloc (.cells #[.int .i64 P0.x, .int .i64 P0.y] 68)).alloc (.cells #[.string nm, .int .i64 sd, .int .i64 ft, .int .i64 ba, .int .i64 ri, .int .i64 ru, .slice (some ⟨cb, co, none⟩) cs.length cc] 37)) := ((Below.refl _ _).alloc (Nat.le_refl _) _).alloc (by simp) _
              generalize (w7.alloc (.cells #[.int .i64 P0.x, .int .i64 P0.y] 68)).alloc (.cells #[.string nm, .int .i64 sd, .int .i64 ft, .int .i64 ba, .int .i64 ri, .int .i64 ru, .slice (some ⟨cb, co, none⟩) cs.length cc] 37) = W8 at *
              clear x0 x1 c0 d0 d1 d2 d3 d4 d5 d6 y0 y1
              have lL8 := kL8.lt
              have lF8 := kF8.lt
              go_loopw [13, 14, 15, 16, 17, 18] (fun k' _ _ _ _ _ wr => ∃ t : Nat, t ≤ cs.length ∧ k' = .int .i64 t ∧ Blk wr w7.heap.size #[.int .i64 (loP P0 (OL.take t)).x, .int .i64 (loP P0 (OL.take t)).y] 68 ∧ Keeps (fun k => k < W8.heap.size ∧ k ≠ w7.heap.size) W8 wr ∧ Below w7.heap.size w7 wr) (fun k' _ _ _ _ _ _ => cs.length - (intOf k').toNat)
              case atStart => exact ⟨0, Nat.zero_le _, rfl, kL8, Keeps.refl _ _, hb8⟩
              case round =>
                obtain ⟨t, ht, rfl, kL9, hkp, g2⟩ := hrel
                have hS8 : ∀ k, (k < W8.heap.size ∧ k ≠ w7.heap.size) → k < W8.heap.size := fun k hk => hk.1
                have x0 := (kX7.belowS g2).cell 0
                simp only [List.getElem?_toArray, List.getElem?_cons_zero] at x0
                have hg29 := hg27.trans (g2.mono hg27.size)
                clear kL8 hb8
                by_cases hlt : t < cs.length
                · obtain ⟨p, hp⟩ : ∃ p, cs[t]? = some p := ⟨_, List.getElem?_eq_getElem hlt⟩
                  have hpk := HOKP.out p (List.mem_of_getElem? hp)
                  have hot := HOAT.out t p hp
                  have hPn := HON.out _ (List.mem_of_getElem? hot)
                  have hdy := HPY.out t p hp
                  obtain ⟨c0, c1⟩ := (HVP.out.below hg29 vlt) t _ hot
                  have htk := take_snoc hot
                  have hlo2 : loP P0 (OL.take (t + 1)) = ⟨min (loP P0 (OL.take t)).x (subP LO (ownP sd p)).x, min (loP P0 (OL.take t)).y (subP LO (ownP sd p)).y⟩ := by rw [htk, loP_snoc]
                  have HLO := Lib.hid hlo2
                  have HRP := Lib.hid (HRI.out p p0)
                  have HDY := Lib.hid hdy
                  have hbp := HBD.out p hpk
                  have hbq := HBD.out p0 HP0.out
                  have HHX := Lib.hid (HHB.out p hpk)
                  have HHY := Lib.hid (HHB.out p0 HP0.out)
                  have HCP := Lib.hid (HPT.out t p hp)
                  generalize subP LO (ownP sd p) = P at *
                  generalize loP P0 (OL.take t) = M at *
                  obtain ⟨Px, Py⟩ := P
                  obtain ⟨Mx, My⟩ := M
                  simp only [] at c0 c1 kL9
                  have l0 := kL9.cell 0
                  have l1 := kL9.cell 1
                  have l2 := kL9.frozen 0
                  have l3 := kL9.frozen 1
                  have l4 := kL9.lt
                  simp only [List.getElem?_toArray, List.getElem?_cons_zero, List.getElem?_cons_succ] at l0 l1
                  have hs79 := g2.size
                  have ht0 : (0 : Int) ≤ (t : Int) := Int.natCast_nonneg _
                  have ht1 : (t : Int) < (cs.length : Int) := by omega
                  clear hp hpk hot hdy htk hlo2
                  go_upto_region 24 with fail
                  generalize hA1 : (if Px < Mx then Px else Mx) = A1 at *
                  generalize hA2 : (if Py < My then Py else My) = A2 at *
                  have HA1 := Lib.hid hA1
                  have HA2 := Lib.hid hA2
                  clear hA1 hA2
                  have kL10 := ((kL9.set 0 (.int .i64 A1)).set 1 (.int .i64 A2)).alloc (.cells #[.int .i64 Px, .int .i64 Py] 68)
                  have kP10 := Blk.new ((wr.setCell ⟨w7.heap.size, 0, none⟩ (.int .i64 A1)).setCell ⟨w7.heap.size, 1, none⟩ (.int .i64 A2)) 68 #[.int .i64 Px, .int .i64 Py]
                  have hW10 : Below w7.heap.size w7 (((wr.setCell ⟨w7.heap.size, 0, none⟩ (.int .i64 A1)).setCell ⟨w7.heap.size, 1, none⟩ (.int .i64 A2)).alloc (.cells #[.int .i64 Px, .int .i64 Py] 68)) :=
                    ((g2.setCell (p := ⟨w7.heap.size, 0, none⟩) (Nat.le_refl _) _).setCell (p := ⟨w7.heap.size, 1, none⟩) (Nat.le_refl _) _).alloc (by simp; omega) _
                  have hK10 := (((hkp.setCell (p := ⟨w7.heap.size, 0, none⟩) (fun h => h.2 rfl) (.int .i64 A1)).setCell (p := ⟨w7.heap.size, 1, none⟩) (fun h => h.2 rfl) (.int .i64 A2)).belowT hS8 ((Below.refl _ _).alloc (Nat.le_refl _) (.cells #[.int .i64 Px, .int .i64 Py] 68)))
                  simp only [World.size_setCell] at kP10
                  generalize ((wr.setCell ⟨w7.heap.size, 0, none⟩ (.int .i64 A1)).setCell ⟨w7.heap.size, 1, none⟩ (.int .i64 A2)).alloc (.cells #[.int .i64 Px, .int .i64 Py] 68) = W10 at *
                  clear l0 l1 l2 l3 l4 c0 c1 x0 kL9 hkp
                  have hg210 := hg27.trans (hW10.mono hg27.size)
                  have hB10 := hB2.trans (hg210.mono hB2.size)
                  have kR10 := kR7.belowS hW10
                  have kF10 : Blk W10 (w7.heap.size + 1) _ 37 := (hK10.block _ ⟨lF8, by omega⟩).trans kF8
                  have hrx := HR.out.below hB10
                  have HRX := Lib.hid hrx
                  obtain ⟨s2, s3⟩ := (HCP.out)
                  have hx : HeldL W10 w.heap.size (w7.heap.size + 1) cb (co + t * 2) (.slice (some ⟨fb, fo, none⟩) fs.length fc) (.slice oa os.length oc) (.slice (some ⟨cb, co, none⟩) cs.length cc) p W10 := ⟨Below.refl _ _, ⟨kR10.cell 0, kR10.cell 1⟩, kF10.cell 6, (hg210.cell (p := ⟨cb, _, none⟩) hcb).trans s2, (hg210.cell (p := ⟨cb, _, none⟩) hcb).trans s3⟩
                  clear hrx s2 s3
                  go_cut [15, 16] from 140 to 233 (fun s15 s16 wx => ∃ A, s15 = .pointer (some ⟨A, 0, none⟩) ∧ s16 = .int .i64 0 ∧ (wx.cell? ⟨A, 0, none⟩ = some (.int .i64 (hN p)) ∧ wx.cell? ⟨A, 1, none⟩ = some (.int .i64 (hD p))) ∧ Below W10.heap.size W10 wx)
                  case first => as_aux_lemma =>
                    go_region_held3 (fun w' => Below W10.heap.size W10 w' ∧ (w'.cell? ⟨w.heap.size, 0, none⟩ = some (.slice (some ⟨fb, fo, none⟩) fs.length fc) ∧ w'.cell? ⟨w.heap.size, 1, none⟩ = some (.slice oa os.length oc)) ∧ w'.cell? ⟨w7.heap.size + 1, 6, none⟩ = some (.slice (some ⟨cb, co, none⟩) cs.length cc) ∧ w'.cell? ⟨cb, co + t * 2, none⟩ = some (.int .i64 p.x) ∧ w'.cell? ⟨cb, co + t * 2 + 1, none⟩ = some (.int .i64 p.y))
                      ((refine HeldL.step hx ?_; repeat (first | (with_reducible exact Below.refl _ _) | (with_reducible refine bel_alloc ?_ _) | (with_reducible refine bel_drew ?_) | (with_reducible refine bel_call ?_ hb9) | (with_reducible refine bel_set ?_ ?hA _; case hA => (first | exact Nat.le_refl _ | exact Nat.le_succ _)))))
                      (first | (go_at_call 23; (refine (HHX.out _ (HRX.out.below (And.left (by with_reducible assumption)))).mono ?_); rintro r w9 ⟨rfl, hb9⟩; (try dsimp only); (first | (have y1 := (show Blk (W10.alloc (.cells #[.int .i64 0, .int .i64 0] 55)).drew _ _ _ from Blk.new W10 55 #[.int .i64 0, .int .i64 0]).belowS hb9; have y10 := y1.cell 0; have y11 := y1.cell 1; have y1f0 := y1.frozen 0; have y1f1 := y1.frozen 1; have y1l := y1.lt; simp only [List.getElem?_toArray, List.getElem?_cons_zero, List.getElem?_cons_succ] at y10 y11; clear y1) | skip)))
                    all_goals
                      go_wp2_with fail
                      go_meet
                      refine ⟨_, rfl, rfl, ⟨?_, ?_⟩, ?_⟩
                      all_goals first | (go_simp; done) | (repeat (first | (with_reducible exact Below.refl _ _) | (with_reducible refine bel_alloc ?_ _) | (with_reducible refine bel_drew ?_) | (with_reducible refine bel_call ?_ hb9) | (with_reducible refine bel_set ?_ ?hA _; case hA => (first | exact Nat.le_refl _ | exact Nat.le_succ _))))
                  case rest =>
                    obtain ⟨A, rfl, rfl, ⟨a0, a1⟩, hcb1⟩ := hcut
                    obtain ⟨w11, rfl⟩ : ∃ w11 : World, w11 = wc := ⟨_, rfl⟩
                    have kR11 := kR10.belowS hcb1
                    have kF11 := kF10.belowS hcb1
                    have hB11 := hB10.trans (hcb1.mono hB10.size)
                    have hrx := HR.out.below hB11
                    have HRX2 := Lib.hid hrx
                    have hw711 := hW10.trans (hcb1.mono hW10.size)
                    clear hx hrx HRX
                    have hx : HeldL w11 w.heap.size (w7.heap.size + 1) cb co (.slice (some ⟨fb, fo, none⟩) fs.length fc) (.slice oa os.length oc) (.slice (some ⟨cb, co, none⟩) cs.length cc) p0 w11 := ⟨Below.refl _ _, ⟨kR11.cell 0, kR11.cell 1⟩, kF11.cell 6, cell_below HS0.out hw711, cell_below HS1.out hw711⟩
                    go_upto_region 25 with fail
                    go_cut [17, 18] from 140 to 233 (fun s17 s18 wx => ∃ C, s17 = .pointer (some ⟨C, 0, none⟩) ∧ s18 = .int .i64 0 ∧ (wx.cell? ⟨C, 0, none⟩ = some (.int .i64 (hN p0)) ∧ wx.cell? ⟨C, 1, none⟩ = some (.int .i64 (hD p0))) ∧ Below w11.heap.size w11 wx)
                    case first => as_aux_lemma =>
                      go_region_held3 (fun w' => Below w11.heap.size w11 w' ∧ (w'.cell? ⟨w.heap.size, 0, none⟩ = some (.slice (some ⟨fb, fo, none⟩) fs.length fc) ∧ w'.cell? ⟨w.heap.size, 1, none⟩ = some (.slice oa os.length oc)) ∧ w'.cell? ⟨w7.heap.size + 1, 6, none⟩ = some (.slice (some ⟨cb, co, none⟩) cs.length cc) ∧ w'.cell? ⟨cb, co, none⟩ = some (.int .i64 p0.x) ∧ w'.cell? ⟨cb, co + 1, none⟩ = some (.int .i64 p0.y))
                        ((refine HeldL.step hx ?_; repeat (first | (with_reducible exact Below.refl _ _) | (with_reducible refine bel_alloc ?_ _) | (with_reducible refine bel_drew ?_) | (with_reducible refine bel_call ?_ hb9) | (with_reducible refine bel_set ?_ ?hA _; case hA => (first | exact Nat.le_refl _ | exact Nat.le_succ _)))))
                        (first | (go_at_call 23; (refine (HHY.out _ (HRX2.out.below (And.left (by with_reducible assumption)))).mono ?_); rintro r w9 ⟨rfl, hb9⟩; (try dsimp only); (first | (have y1 := (show Blk (w11.alloc (.cells #[.int .i64 0, .int .i64 0] 55)).drew _ _ _ from Blk.new w11 55 #[.int .i64 0, .int .i64 0]).belowS hb9; have y10 := y1.cell 0; have y11 := y1.cell 1; have y1f0 := y1.frozen 0; have y1f1 := y1.frozen 1; have y1l := y1.lt; simp only [List.getElem?_toArray, List.getElem?_cons_zero, List.getElem?_cons_succ] at y10 y11; clear y1) | skip)))
                      all_goals
                        go_wp2_with fail
                        go_meet
                        refine ⟨_, rfl, rfl, ⟨?_, ?_⟩, ?_⟩
                        all_goals first | (go_simp; done) | (repeat (first | (with_reducible exact Below.refl _ _) | (with_reducible refine bel_alloc ?_ _) | (with_reducible refine bel_drew ?_) | (with_reducible refine bel_call ?_ hb9) | (with_reducible refine bel_set ?_ ?hA _; case hA => (first | exact Nat.le_refl _ | exact Nat.le_succ _))))
                    case rest =>
                      obtain ⟨C, rfl, rfl, ⟨b0, b1⟩, hcb2⟩ := hcut
                      obtain ⟨w12, rfl⟩ : ∃ w12 : World, w12 = wc := ⟨_, rfl⟩
                      have hcb12 := hcb1.trans (hcb2.mono hcb1.size)
                      have kF12 := kF11.belowS hcb2
                      have kP12 := kP10.belowS hcb12
                      have kX12 := (kX7.belowS hW10).belowS hcb12
                      have kL12 := kL10.belowS hcb12
                      have hK12 := hK10.belowT hS8 hcb12
                      have hW12 := hW10.trans (hcb12.mono hW10.size)
                      have a0' := cell_below a0 hcb2
                      have a1' := cell_below a1 hcb2
                      have x0 := kX12.cell 0
                      have f4 := kF12.cell 4
                      have f5 := kF12.cell 5
                      have p1 := kP12.cell 1
                      have v1 := cell_below HY1.out hW12
                      simp only [List.getElem?_toArray, List.getElem?_cons_zero, List.getElem?_cons_succ] at x0 f4 f5 p1
                      clear hx a0 a1 kR10 kF10 kR11 kF11 kP10 kP12 kX12
                      have hrp := HRP.out
                      have hdy := HDY.out
                      simp only [] at hrp hdy
                      obtain ⟨⟨g1', g2'⟩, g3', g4'⟩ := hbp
                      obtain ⟨⟨g5', g6'⟩, g7', g8'⟩ := hbq
                      generalize hN p = An at *
                      generalize hD p = Ad at *
                      generalize hN p0 = Bn at *
                      generalize hD p0 = Bd at *
                      obtain ⟨⟨i1, i2⟩, i3, i4⟩ := hPn
                      obtain ⟨⟨i5, i6⟩, i7, i8⟩ := hn0'
                      simp only [] at i1 i2 i3 i4
                      have m1 := mul_bd (a := An) (b := Bd) (m := 3000000) (n := 100) g1' g2' (by omega) g8'
                      have m2 := mul_bd (a := Bn) (b := Ad) (m := 3000000) (n := 100) g5' g6' (by omega) g4'
                      have m3 := mul_bd (a := An * Bd - Bn * Ad) (b := ru) (m := 600000000) (n := 100) (by omega) (by omega) (by omega) hn1
                      have m4 := mul_bd (a := Py - P0.y) (b := ri) (m := 40000) (n := 100) (by omega) (by omega) (by omega) hr1
                      have m5 := mul_bd (a := (Py - P0.y) * ri) (b := Ad) (m := 4000000) (n := 100) m4.1 m4.2 (by omega) g4'
                      have m6 := mul_bd (a := (Py - P0.y) * ri * Ad) (b := Bd) (m := 400000000) (n := 100) m5.1 m5.2 (by omega) g8'
                      have heq : ((An * Bd - Bn * Ad) * ru == (Py - P0.y) * ri * Ad * Bd) = true := by
                        rw [hdy, beq_iff_eq]
                        exact hrp
                      have heq' : ((An * Bd - Bn * Ad) * ru != (Py - P0.y) * ri * Ad * Bd) = false := by rw [bne, heq]; rfl
                      have u1 : decide (Ad < 1) = false := by simp; omega
                      have u2 : decide (Bd < 1) = false := by simp; omega
                      clear hrp hdy HRP HDY
                      trace_state
                      go_upto_region 26 with fail
                      go_quiet (fail)
                      go_wp2_with fail
                      refine ⟨⟨t + 1, by omega, by simp, ?_, hK12.belowT hS8 (below_drewN _ _ _), hW12.trans ((below_drewN _ _ _).mono hW12.size)⟩, by simp [intOf]; omega⟩
                      rw [HLO.out]
                      simp only []
                      rw [show min Mx Px = A1 by rw [← HA1.out]; split <;> omega, show min My Py = A2 by rw [← HA2.out]; split <;> omega]
                      exact kL12.belowS (below_drewN _ _ _)
                · obtain rfl : t = cs.length := by omega
                  rw [← HOLA.out, List.take_length, HLS2.out] at kL9
                  have l0 := kL9.cell 0
                  have l1 := kL9.cell 1
                  have zc9 := cell_below zc7 g2
                  simp only [List.getElem?_toArray, List.getElem?_cons_zero, List.getElem?_cons_succ] at l0 l1
                  have q1 : ∀ wx, (Op.equalIn 10000 68 (.agg #[.int .i64 0, .int .i64 0]) (.agg #[.int .i64 0, .int .i64 0])).run Try.prog wx = .ok true wx := fun wx => (run_equalIn_pt 9998 0 0 0 0 wx).trans (by simp)
                  go_wp2_with fail
                  refine (lives_any _).mono ?_
                  rintro e w9 ⟨rfl, hb9⟩
                  go_wp2_with fail
                  go_ret
                  exact ⟨rfl, (hB7.trans (g2.mono hB7.size)).trans (hb9.mono (hB7.trans (g2.mono hB7.size)).size)⟩
    · rw [if_pos hE] at hif
      generalize checkE ⟨fa, fc, fs, oa, oc, os⟩ = E at hE hif
      subst hif
      have hz : (E == 0) = false := by simp [hE]
      have hz' : (E != 0) = true := by simp [hE]
      clear hE
      go_wp2_with fail
      refine (lives_any _).mono ?_
      rintro e w3 ⟨rfl, hb3⟩
      go_wp2_with fail
      go_ret
      exact ⟨rfl, (hB2.alloc hB2.size _).trans (hb3.mono (by have := hB2.size; simp; omega))⟩
end Go.Proofs.Ytpheaomlphggfaa
