/- StrawUsed's walk. No condition. -/
import Derived.Test.YtkohmgmoeffgnaaMCQ
import Derived.Test.YtkohmgmoeffgnaaMDQ
set_option linter.unusedSimpArgs false
namespace Go.Proofs.Ytkohmgmoeffgnaa
open Go.RowKit

theorem u8_bd {n : Int} (h : (Lit.int .u8 n).wf = true) : 0 ≤ n ∧ n ≤ 255 := by
  simp only [Lit.wf, Bool.and_eq_true, decide_eq_true_eq] at h
  exact h
theorem u8_mod {n : Int} (h : (Lit.int .u8 n).wf = true) {m : Nat} (hm : 0 < m) : ∃ k : Nat, k < m ∧ IntKind.i64.wrap n = n ∧ n.tmod (m : Int) = k := by
  obtain ⟨h0, h1⟩ := u8_bd h
  have h2 : 0 ≤ n % (m : Int) := Int.emod_nonneg _ (by omega)
  have h3 : n % (m : Int) < (m : Int) := Int.emod_lt_of_pos _ (by omega)
  refine ⟨(n % (m : Int)).toNat, by omega, by rw [IntKind.wrap_i64]; omega, ?_⟩
  rw [Int.tmod_eq_emod_of_nonneg h0]
  omega
/-- Do of a store and a chore that uses bundles. -/
theorem doUse_any (F : Frm) (S : Sto) (nm : ByteArray) (n : Int) (w : World) (hF : IsFarm w F) (hS : IsStore w S) (ht : tot S ≤ 1000) (hnm : nm.size ≤ maxLen) :
    Calls Try.prog 18 #[.agg #[.slice F.pa F.ps.length F.pc, .int .i64 F.dry], .agg #[.int .i64 S.year, .slice S.la S.last.length S.lc, .slice S.ga S.given.length S.gc, .slice S.ha S.heaps.length S.hc, .slice S.ua S.used.length S.uc, .slice S.wa S.waste.length S.wc], .agg #[.int .i64 7, .int .i64 0, .int .i64 (n), .string nm, .string ⟨#[]⟩, .int .i64 0, .int .i64 0, .int .i64 0, .int .i64 0]] w fun e w' => (∃ T, e = .returned (.tuple #[.agg #[.int .i64 T.year, .slice T.la T.last.length T.lc, .slice T.ga T.given.length T.gc, .slice T.ha T.heaps.length T.hc, .slice T.ua T.used.length T.uc, .slice T.wa T.waste.length T.wc], .int .i64 (doD F S (useC nm n)).1]) ∧ OwnSto w.heap.size w' T ∧ SameSto T (endS (doD F S (useC nm n)).1 (doD F S (useC nm n)).2)) ∧ Below w.heap.size w w' :=
  strawDo_any F S (useC nm n) w hF hS (ptot_fit ht) hnm (show (0 : Nat) ≤ maxLen from Nat.zero_le _)

set_option maxRecDepth 100000 in
set_option maxHeartbeats 16000000 in
theorem strawUsedLaw_any (F : Frm) (a : Option Addr) (c : Nat) (l : List Chr) (x1 x2 x3 : Int) (w : World) (hF : IsFarm w F) (hL : IsChrs w a c l) (h1 : (Lit.int .u8 x1).wf = true) (h2 : (Lit.int .u8 x2).wf = true) (h3 : (Lit.int .u8 x3).wf = true) :
    Calls Try.prog 6 #[.agg #[.slice F.pa F.ps.length F.pc, .int .i64 F.dry], .slice a l.length c, .int .u8 x1, .int .u8 x2, .int .u8 x3] w fun e w' => e = .returned (.bool true) ∧ Below w.heap.size w w' := by
  have hb1 : Below w.heap.size w (w.alloc (.cells #[.slice F.pa F.ps.length F.pc, .int .i64 F.dry] 24)) := (Below.refl _ w).alloc (Nat.le_refl _) _
  have kB := Blk.new w 24 #[.slice F.pa F.ps.length F.pc, .int .i64 F.dry]
  have HF := Lib.hid hF
  have HL := Lib.hid hL
  clear hF hL
  have H1 := Lib.hid h1
  have H2 := Lib.hid h2
  have H3 := Lib.hid h3
  clear h1 h2 h3
  go_enter Try.func6, Try.ntmps6
  go_upto_region 1 with fail
  generalize (w.alloc (.cells #[.slice F.pa F.ps.length F.pc, .int .i64 F.dry] 24)) = w1 at *
  have lF := kB.lt
  obtain ⟨f0, f1⟩ := frm_cells kB
  have HB1 := Lib.hid hb1
  have KB1 := Lib.hid kB
  clear kB hb1
  go_wp2_with fail
  refine (great_any F _ (HF.out.below HB1.out)).mono ?_
  rintro e w2 ⟨⟨gb, rfl⟩, hb⟩
  have HB2 := Lib.hid (HB1.out.trans (hb.mono HB1.out.size))
  have KB2 := Lib.hid (KB1.out.belowS hb)
  clear f0 f1 lF hb KB1 HB1
  cases gb with
  | true =>
    go_wp2_with fail
    refine (lives_any _).mono ?_
    rintro e w3 ⟨rfl, hb3⟩
    go_wp2_with fail
    go_ret
    exact ⟨rfl, HB2.out.trans (hb3.mono HB2.out.size)⟩
  | false =>
  go_wp2_with fail
  refine (long_any a c l _ (HL.out.belowS HB2.out)).mono ?_
  rintro e w3 ⟨⟨lb, rfl, hlb⟩, hb⟩
  have HB3 := Lib.hid (HB2.out.trans (hb.mono HB2.out.size))
  have KB3 := Lib.hid (KB2.out.belowS hb)
  clear hb KB2 HB2
  cases lb with
  | true =>
    go_wp2_with fail
    refine (lives_any _).mono ?_
    rintro e w4 ⟨rfl, hb3⟩
    go_wp2_with fail
    go_ret
    exact ⟨rfl, HB3.out.trans (hb3.mono HB3.out.size)⟩
  | false =>
  have hlen := HL.out.len
  by_cases h40 : 40 < l.length
  · have q40 : (40 : Int) < (l.length : Int) := by omega
    go_wp2_with fail
    refine (lives_any _).mono ?_
    rintro e w4 ⟨rfl, hb3⟩
    go_wp2_with fail
    go_ret
    exact ⟨rfl, HB3.out.trans (hb3.mono HB3.out.size)⟩
  have q40 : ¬ (40 : Int) < (l.length : Int) := by omega
  have H40 := Lib.hid (Nat.not_lt.1 h40)
  clear hlb h40
  have lF := KB3.out.lt
  obtain ⟨f0, f1⟩ := frm_cells KB3.out
  go_wp2_with fail
  refine (after_any F a c l _ (HF.out.below HB3.out) (HL.out.belowS HB3.out) H40.out).mono ?_
  rintro e w4 ⟨⟨bo, S, rfl, hoS, hok⟩, hb⟩
  have HB4 := Lib.hid (HB3.out.trans (hb.mono HB3.out.size))
  have kB4 := KB3.out.belowS hb
  clear f0 f1 lF hb KB3 q40 hlen
  have kA := Blk.new w4 33 (stoC S)
  have hbA : Below w4.heap.size w4 (w4.alloc (.cells #[.int .i64 S.year, .slice S.la S.last.length S.lc, .slice S.ga S.given.length S.gc, .slice S.ha S.heaps.length S.hc, .slice S.ua S.used.length S.uc, .slice S.wa S.waste.length S.wc] 33)) := (Below.refl _ w4).alloc (Nat.le_refl _) _
  have kB5 := kB4.belowS hbA
  have hoS5 := hoS.below hbA
  have HB5 := Lib.hid (HB4.out.trans (hbA.mono HB4.out.size))
  clear kB4 hoS hbA
  unfold stoV
  cases bo with
  | false =>
    clear kA kB5 hoS5 hok
    go_wp2_with fail
    refine (lives_any _).mono ?_
    rintro e w6 ⟨rfl, hb3⟩
    go_wp2_with fail
    go_ret
    exact ⟨rfl, HB5.out.trans (hb3.mono HB5.out.size)⟩
  | true =>
  obtain ⟨hE, hT⟩ := hok rfl
  have HE := Lib.hid hE
  have HT := Lib.hid hT
  clear hok hE hT
  go_upto_region 4 with fail
  generalize w4.alloc (.cells #[.int .i64 S.year, .slice S.la S.last.length S.lc, .slice S.ga S.given.length S.gc, .slice S.ha S.heaps.length S.hc, .slice S.ua S.used.length S.uc, .slice S.wa S.waste.length S.wc] 33) = w5 at *
  have lA := kA.lt
  have lF := kB5.lt
  obtain ⟨f0, f1⟩ := frm_cells kB5
  obtain ⟨s0, s1, s2, s3, s4, s5⟩ := sto_cells kA
  have KA5 := Lib.hid kA
  have KB5 := Lib.hid kB5
  have HO5 := Lib.hid hoS5
  clear kA kB5 hoS5
  by_cases hz : S.heaps = []
  · rw [hz] at s3
    simp only [List.length_nil] at s3
    go_wp2_with fail
    refine (lives_any _).mono ?_
    rintro e w6 ⟨rfl, hb3⟩
    go_wp2_with fail
    go_ret
    exact ⟨rfl, HB5.out.trans (hb3.mono HB5.out.size)⟩
  have hpos : 0 < S.heaps.length := List.length_pos_iff.2 hz
  have hle := (goodS_of HE.out).heaps.few
  have p1 : ((S.heaps.length : Int) == 0) = false := by simp; omega
  have p2 : ¬ ((S.heaps.length : Int) = 0) := by omega
  obtain ⟨k, hk, hcv, hmod⟩ := u8_mod H1.out hpos
  have hq : S.heaps[k]? = some S.heaps[k] := List.getElem?_eq_getElem hk
  obtain ⟨b, off, hea, hblt, hcap, hcx, ⟨y0, yr⟩, yp, hnm⟩ := HO5.out.store.heaps.at hq
  generalize S.heaps[k].name = nm at *
  have hk' : (k : Int) < (S.heaps.length : Int) := by omega
  rw [hea] at s3
  clear hz hq hea yr yp
  go_upto_region 6 with fail
  go_quiet (fail)
  generalize hw6 : w5.drewN _ = w6
  have hb6 : Below w5.heap.size w5 w6 := by rw [← hw6]; exact below_drewN' _ _ _
  have HB6 := Lib.hid (HB5.out.trans (hb6.mono HB5.out.size))
  have KA6 := Lib.hid (KA5.out.belowS hb6)
  have KB6 := Lib.hid (KB5.out.belowS hb6)
  have HO6 := Lib.hid (HO5.out.below hb6)
  have HNM := Lib.hid hnm
  clear hw6 f0 f1 lF lA s0 s1 s2 s3 s4 s5 y0 hb6 p1 p2 hcv hmod hk' hk hblt hcap hcx hle hpos KA5 KB5 HO5 HB5 hnm
  obtain ⟨k2, hk2, hcv2, hmod2⟩ := u8_mod H2.out (show 0 < 20 by omega)
  obtain ⟨k3, hk3, hcv3, hmod3⟩ := u8_mod H3.out (show 0 < 20 by omega)
  have hmod2 : x2.tmod 20 = k2 := hmod2
  have hmod3 : x3.tmod 20 = k3 := hmod3
  have had2 : IntKind.i64.wrap (1 + (k2 : Int)) = 1 + (k2 : Int) := by rw [IntKind.wrap_i64]; omega
  have had3 : IntKind.i64.wrap (1 + (k3 : Int)) = 1 + (k3 : Int) := by rw [IntKind.wrap_i64]; omega
  go_upto_region 8 with fail
  have had : IntKind.i64.wrap (1 + (k2 : Int) + (1 + (k3 : Int))) = 1 + (k2 : Int) + (1 + (k3 : Int)) := by rw [IntKind.wrap_i64]; omega
  clear had2 had3
  generalize hn2 : 1 + (k2 : Int) = n2 at *
  generalize hn3 : 1 + (k3 : Int) = n3 at *
  have HP2 := Lib.hid (show 1 ≤ n2 by omega)
  have HP3 := Lib.hid (show 1 ≤ n3 by omega)
  clear hcv2 hcv3 hmod2 hmod3 hk2 hk3 hn2 hn3
  have lA := KA6.out.lt
  have lF := KB6.out.lt
  obtain ⟨f0, f1⟩ := frm_cells KB6.out
  obtain ⟨s0, s1, s2, s3, s4, s5⟩ := sto_cells KA6.out
  go_wp2_with fail
  refine (doUse_any F S nm (n2 + n3) _ (HF.out.below HB6.out) HO6.out.store (by have := HT.out; omega) HNM.out).mono ?_
  rintro e w7 ⟨⟨T1, rfl, hoT, hsT⟩, hb⟩
  have HTW := Lib.hid (fun h => use_twice (nm := nm) HE.out HP2.out HP3.out h)
  generalize hd1 : doD F S (useC nm (n2 + n3)) = D1 at *
  obtain ⟨d1, U1⟩ := D1
  simp only [] at hsT HTW
  have HB7 := Lib.hid (HB6.out.trans (hb.mono HB6.out.size))
  have kA7 := KA6.out.belowS hb
  have kB7 := KB6.out.belowS hb
  have hoS7 := HO6.out.below hb
  clear f0 f1 lF lA s0 s1 s2 s3 s4 s5 hb had KA6 KB6 HO6 HB6 hd1
  have kC := Blk.new w7 33 (stoC T1)
  have hbC : Below w7.heap.size w7 (w7.alloc (.cells #[.int .i64 T1.year, .slice T1.la T1.last.length T1.lc, .slice T1.ga T1.given.length T1.gc, .slice T1.ha T1.heaps.length T1.hc, .slice T1.ua T1.used.length T1.uc, .slice T1.wa T1.waste.length T1.wc] 33)) := (Below.refl _ w7).alloc (Nat.le_refl _) _
  have KA8 := Lib.hid (kA7.belowS hbC)
  have KB8 := Lib.hid (kB7.belowS hbC)
  have HO8 := Lib.hid (hoS7.below hbC)
  have HO1 := Lib.hid (hoT.below hbC)
  have HB8 := Lib.hid (HB7.out.trans (hbC.mono HB7.out.size))
  have HS1 := Lib.hid hsT
  clear kA7 kB7 hoS7 hoT hbC hsT HB7
  go_upto_region 9 with fail
  generalize w7.alloc (.cells #[.int .i64 T1.year, .slice T1.la T1.last.length T1.lc, .slice T1.ga T1.given.length T1.gc, .slice T1.ha T1.heaps.length T1.hc, .slice T1.ua T1.used.length T1.uc, .slice T1.wa T1.waste.length T1.wc] 33) = w8 at *
  have KC8 := Lib.hid kC
  clear kC
  have lA := KA8.out.lt
  have lF := KB8.out.lt
  obtain ⟨f0, f1⟩ := frm_cells KB8.out
  obtain ⟨s0, s1, s2, s3, s4, s5⟩ := sto_cells KA8.out
  go_wp2_with fail
  refine (doUse_any F S nm n2 _ (HF.out.below HB8.out) HO8.out.store (by have := HT.out; omega) HNM.out).mono ?_
  rintro e w9 ⟨⟨T2, rfl, hoT, hsT⟩, hb⟩
  have HFEW := Lib.hid (few_do F S (useC nm n2))
  generalize hd2 : doD F S (useC nm n2) = D2 at *
  obtain ⟨d2, U2⟩ := D2
  simp only [] at hsT HTW
  have HB9 := Lib.hid (HB8.out.trans (hb.mono HB8.out.size))
  have kB9 := KB8.out.belowS hb
  have kC9 := KC8.out.belowS hb
  have ho19 := HO1.out.below hb
  clear f0 f1 lF lA s0 s1 s2 s3 s4 s5 hb KA8 KB8 KC8 HO8 HO1 HB8 hd2
  have kD := Blk.new w9 33 (stoC T2)
  have hbD : Below w9.heap.size w9 (w9.alloc (.cells #[.int .i64 T2.year, .slice T2.la T2.last.length T2.lc, .slice T2.ga T2.given.length T2.gc, .slice T2.ha T2.heaps.length T2.hc, .slice T2.ua T2.used.length T2.uc, .slice T2.wa T2.waste.length T2.wc] 33)) := (Below.refl _ w9).alloc (Nat.le_refl _) _
  have KB10 := Lib.hid (kB9.belowS hbD)
  have KC10 := Lib.hid (kC9.belowS hbD)
  have HO1 := Lib.hid (ho19.below hbD)
  have HO2 := Lib.hid (hoT.below hbD)
  have HB10 := Lib.hid (HB9.out.trans (hbD.mono HB9.out.size))
  have HS2 := Lib.hid hsT
  have HNR := Lib.hid (show w9.heap.size ∉ rowsOf T1 from fun h => Nat.lt_irrefl _ (ho19.ge _ h).2)
  have HGE := Lib.hid HB9.out.size
  have HCD := Lib.hid (show w7.heap.size ≠ w9.heap.size from fun e => absurd kC9.lt (by rw [e]; exact Nat.lt_irrefl _))
  clear kB9 kC9 ho19 hoT hbD hsT HB9
  go_upto_region 10 with fail
  generalize w9.alloc (.cells #[.int .i64 T2.year, .slice T2.la T2.last.length T2.lc, .slice T2.ga T2.given.length T2.gc, .slice T2.ha T2.heaps.length T2.hc, .slice T2.ua T2.used.length T2.uc, .slice T2.wa T2.waste.length T2.wc] 33) = w10 at *
  have KD10 := Lib.hid kD
  clear kD
  by_cases hz1 : d1 = 0
  rotate_left
  · have q1 : (d1 == 0) = false := by simp [hz1]
    have q2 : (d1 != 0) = true := by simp [hz1]
    clear hz1
    go_wp2_with fail
    refine (lives_any _).mono ?_
    rintro e w11 ⟨rfl, hb3⟩
    go_wp2_with fail
    go_ret
    exact ⟨rfl, HB10.out.trans (hb3.mono HB10.out.size)⟩
  subst hz1
  obtain ⟨rfl, hz2, hz3⟩ := HTW.out rfl
  have HZ2 := Lib.hid hz2
  have HZ3 := Lib.hid hz3
  clear hz2 hz3 HTW
  go_upto_region 14 with fail
  have lD := KD10.out.lt
  have lF := KB10.out.lt
  obtain ⟨f0, f1⟩ := frm_cells KB10.out
  obtain ⟨s0, s1, s2, s3, s4, s5⟩ := sto_cells KD10.out
  have ht2 : tot T2 ≤ 1000 := by
    rw [same_tot HS2.out]
    have h1 : tot U2 ≤ tot S + 3 := HFEW.out rfl
    have h2 := HT.out
    show tot U2 ≤ 1000
    omega
  go_wp2_with fail
  refine (doUse_any F T2 nm n3 _ (HF.out.below HB10.out) HO2.out.store ht2 HNM.out).mono ?_
  rintro e w11 ⟨⟨T3, rfl, hoT, hsT⟩, hb⟩
  have hsd := same_do (F := F) (show SameSto T2 U2 from HS2.out) (useC nm n3)
  generalize hd3 : doD F T2 (useC nm n3) = D3 at *
  obtain ⟨d3, U3⟩ := D3
  obtain ⟨hs1, hs2⟩ := hsd
  simp only [] at hs1 hs2 hsT HZ2 HZ3
  rw [HZ2.out] at hs1
  rw [HZ3.out] at hs2
  subst hs1
  have HS3 := Lib.hid (SameSto.trans (show SameSto T3 U3 from hsT) hs2)
  have HB11 := Lib.hid (HB10.out.trans (hb.mono HB10.out.size))
  have kC11 := KC10.out.belowS hb
  have kD11 := KD10.out.belowS hb
  have ho1 := HO1.out.below hb
  have HLD := Lib.hid KD10.out.lt
  clear f0 f1 lF lD s0 s1 s2 s3 s4 s5 hb KB10 KC10 KD10 HO1 hd3 hs2 hsT ht2 HZ2 HZ3 HFEW HS2
  obtain ⟨s0, s1, s2, s3, s4, s5⟩ := sto_cells kD11
  have lD := kD11.lt
  have z0 := kD11.frozen 0
  have z1 := kD11.frozen 1
  have z2 := kD11.frozen 2
  have z3 := kD11.frozen 3
  have z4 := kD11.frozen 4
  have z5 := kD11.frozen 5
  go_upto_region 15 with fail
  have kD12 : Blk ((((((w11.setCell ⟨w9.heap.size, 0, none⟩ (.int .i64 T3.year)).setCell ⟨w9.heap.size, 1, none⟩ (.slice T3.la T3.last.length T3.lc)).setCell ⟨w9.heap.size, 2, none⟩ (.slice T3.ga T3.given.length T3.gc)).setCell ⟨w9.heap.size, 3, none⟩ (.slice T3.ha T3.heaps.length T3.hc)).setCell ⟨w9.heap.size, 4, none⟩ (.slice T3.ua T3.used.length T3.uc)).setCell ⟨w9.heap.size, 5, none⟩ (.slice T3.wa T3.waste.length T3.wc)) w9.heap.size (stoC T3) 33 := ((((((kD11.set 0 (.int .i64 T3.year)).set 1 (.slice T3.la T3.last.length T3.lc)).set 2 (.slice T3.ga T3.given.length T3.gc)).set 3 (.slice T3.ha T3.heaps.length T3.hc)).set 4 (.slice T3.ua T3.used.length T3.uc)).set 5 (.slice T3.wa T3.waste.length T3.wc))
  have ht : Turn (fun k => k = w9.heap.size) w11 ((((((w11.setCell ⟨w9.heap.size, 0, none⟩ (.int .i64 T3.year)).setCell ⟨w9.heap.size, 1, none⟩ (.slice T3.la T3.last.length T3.lc)).setCell ⟨w9.heap.size, 2, none⟩ (.slice T3.ga T3.given.length T3.gc)).setCell ⟨w9.heap.size, 3, none⟩ (.slice T3.ha T3.heaps.length T3.hc)).setCell ⟨w9.heap.size, 4, none⟩ (.slice T3.ua T3.used.length T3.uc)).setCell ⟨w9.heap.size, 5, none⟩ (.slice T3.wa T3.waste.length T3.wc)) := (((((((Turn.of_below (X := fun k => k = w9.heap.size) (Below.refl _ w11)).setCell (B := w9.heap.size) rfl 0 (.int .i64 T3.year)).setCell (B := w9.heap.size) rfl 1 (.slice T3.la T3.last.length T3.lc)).setCell (B := w9.heap.size) rfl 2 (.slice T3.ga T3.given.length T3.gc)).setCell (B := w9.heap.size) rfl 3 (.slice T3.ha T3.heaps.length T3.hc)).setCell (B := w9.heap.size) rfl 4 (.slice T3.ua T3.used.length T3.uc)).setCell (B := w9.heap.size) rfl 5 (.slice T3.wa T3.waste.length T3.wc))
  generalize ((((((w11.setCell ⟨w9.heap.size, 0, none⟩ (.int .i64 T3.year)).setCell ⟨w9.heap.size, 1, none⟩ (.slice T3.la T3.last.length T3.lc)).setCell ⟨w9.heap.size, 2, none⟩ (.slice T3.ga T3.given.length T3.gc)).setCell ⟨w9.heap.size, 3, none⟩ (.slice T3.ha T3.heaps.length T3.hc)).setCell ⟨w9.heap.size, 4, none⟩ (.slice T3.ua T3.used.length T3.uc)).setCell ⟨w9.heap.size, 5, none⟩ (.slice T3.wa T3.waste.length T3.wc)) = w12 at *
  have kC12 := ht.blk kC11 HCD.out
  have ho3 := set_rows hoT ht HLD.out
  have ho12 := ho1.turn ht (fun k e hk => HNR.out (by rw [← show k = w9.heap.size from e]; exact hk))
  have HB12 := Lib.hid (HB11.out.trans (ht.below HB11.out.size (fun k e => by rw [show k = w9.heap.size from e]; exact HGE.out)))
  clear s0 s1 s2 s3 s4 s5 z0 z1 z2 z3 z4 z5 lD kC11 kD11 ho1 hoT ht HB11 HNR HGE HLD
  have hss := sameStore_any T1 T3 w12 ho12.store ho3.store (SameSto.trans (show SameSto T1 U1 from HS1.out) HS3.out.symm)
  unfold stoV at hss
  have HSS := Lib.hid hss
  obtain ⟨c0, c1, c2, c3, c4, c5⟩ := sto_cells kC12
  obtain ⟨s0, s1, s2, s3, s4, s5⟩ := sto_cells kD12
  have lC := kC12.lt
  have lD := kD12.lt
  clear hss kC12 kD12 ho12 ho3
  go_wp2_with fail
  refine HSS.out.mono ?_
  rintro e w13 ⟨rfl, hb9⟩
  have HB13 := Lib.hid (HB12.out.trans (hb9.mono HB12.out.size))
  clear hb9 c0 c1 c2 c3 c4 c5 s0 s1 s2 s3 s4 s5 lC lD
  go_wp2_with fail
  refine (lives_any _).mono ?_
  rintro e w14 ⟨rfl, hb3⟩
  go_wp2_with fail
  go_ret
  exact ⟨rfl, HB13.out.trans (hb3.mono HB13.out.size)⟩
end Go.Proofs.Ytkohmgmoeffgnaa
