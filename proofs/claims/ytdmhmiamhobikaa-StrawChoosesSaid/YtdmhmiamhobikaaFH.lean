/- lives, given. -/
import Derived.Test.YtdmhmiamhobikaaFF
import Derived.Test.YtdmhmiamhobikaaFG
import Derived.Deep.DeepCutAuto
import Derived.Deep.CutRange
import Derived.StillTailTactics
import Derived.Deep.QuietTactic
import Derived.BigQuiet
namespace Go.Proofs.Ytdmhmiamhobikaa
open Go.RowKit

set_option maxRecDepth 100000 in
theorem farm_e (n : Nat) : chooseE (farmF n) ⟨30, 10, 0⟩ = 0 := by kernel_rfl
set_option maxRecDepth 100000 in
theorem farm_m (n : Nat) : chooseM (farmF n).ps ⟨30, 10, 0⟩ = ⟨[0, 1], 70, true⟩ := by kernel_rfl

set_option maxRecDepth 100000 in
set_option maxHeartbeats 4000000 in
theorem lives_any (w : World) : Calls Try.prog 6 #[] w fun e w' => e = .returned (.bool true) ∧ Below w.heap.size w w' := by
  go_enter Try.func6, Try.ntmps6
  go_wp2_with fail
  refine (farm_any _).mono ?_
  rintro e w1 ⟨rfl, hR1, hb1⟩
  go_wp2_with fail
  refine (choose_any (farmF w.heap.size) ⟨30, 10, 0⟩ _ hR1).mono ?_
  rintro e w2 ⟨hb2, h⟩
  rcases h with ⟨h, _⟩ | ⟨_, _, ba, bc, rfl, hn, _⟩
  · exact absurd (farm_e _) h
  rw [farm_m] at hn ⊢
  have hB2 := hb1.trans (hb2.mono hb1.size)
  obtain ⟨g, cap, e, _, hg⟩ := hn.form (by decide)
  obtain ⟨rfl, _, rfl⟩ := slice_inj e
  have e0 := hn.cellAt 0 (by decide)
  have e1 := hn.cellAt 1 (by decide)
  simp only [natsV, List.map_cons, List.map_nil, List.getElem?_cons_zero, List.getElem?_cons_succ] at e0 e1
  have hcap : 2 ≤ bc := by
    rcases hn.2 with ⟨e, _⟩ | ⟨_, _, _, e, _, _, k, _⟩
    · cases e
    · obtain ⟨_, _, rfl⟩ := slice_inj e
      simpa using k
  go_wp2_with fail
  go_ret
  exact ⟨rfl, hB2⟩

theorem below_drewN (B : Nat) (w : World) (n : Nat) : Below B w (w.drewN n) := ⟨rfl, rfl, rfl, Nat.le_refl _, fun _ _ => rfl⟩
theorem take_snoc {α : Type} {l : List α} {j : Nat} {x : α} (h : l[j]? = some x) : l.take (j + 1) = l.take j ++ [x] := by rw [List.take_add_one, h]; rfl

set_option maxRecDepth 100000 in
set_option maxHeartbeats 4000000 in
theorem given_any (F : Frm) (n : Ned) (la : Option Addr) (lc : Nat) (l : List Nat) (w : World) (hF : IsFarm w F) (hl : IsNats w la lc l) (hE : Ext F.ps 0 l) (hlen : F.ps.length ≤ 12) (hok : ∀ p ∈ F.ps, p.ok) :
    Calls Try.prog 8 #[.agg #[.slice F.pa F.ps.length F.pc, .int .i64 F.dry], .agg #[.int .i64 n.reed, .int .i64 n.straw, .int .i64 n.heather], .slice la l.length lc] w fun e w' =>
      e = .returned (.tuple #[.int .i64 (costOf F.ps l), .bool ((sureOf F.ps l).enough n), .bool true]) ∧ Below w.heap.size w w' := by
  have k0 := (Blk.new w 24 #[.slice F.pa F.ps.length F.pc, .int .i64 F.dry]).alloc (.cells #[.int .i64 n.reed, .int .i64 n.straw, .int .i64 n.heather] 26)
  have k1 := Blk.new (w.alloc (.cells #[.slice F.pa F.ps.length F.pc, .int .i64 F.dry] 24)) 26 #[.int .i64 n.reed, .int .i64 n.straw, .int .i64 n.heather]
  have hB : Below w.heap.size w ((w.alloc (.cells #[.slice F.pa F.ps.length F.pc, .int .i64 F.dry] 24)).alloc (.cells #[.int .i64 n.reed, .int .i64 n.straw, .int .i64 n.heather] 26)) := ((Below.refl _ w).alloc (by simp) _).alloc (by simp) _
  simp only [World.size_alloc] at k1
  have HF := Lib.hid hF
  have HL := Lib.hid hl
  have HE := Lib.hid hE
  have HOK := Lib.hid hok
  clear hF hl hE hok
  go_enter Try.func8, Try.ntmps8
  go_wp2_with fail
  go_loopw [6, 9, 10, 11, 12, 13] (fun s6 s9 s10 s11 s12 _ wr => ∃ (j : Nat) (c : Int) (S : Sur), j ≤ l.length ∧ s6 = .int .i64 c ∧ s9 = .int .i64 S.r ∧ s10 = .int .i64 S.s ∧ s11 = .int .i64 S.h ∧ s12 = .int .i64 j ∧ costOf F.ps (l.take j) = c ∧ sureOf F.ps (l.take j) = S ∧
      (0 ≤ c ∧ c ≤ j * 1000000) ∧ ((0 ≤ S.r ∧ S.r ≤ j * 100000) ∧ (0 ≤ S.s ∧ S.s ≤ j * 100000) ∧ (0 ≤ S.h ∧ S.h ≤ j * 100000)) ∧ Blk wr w.heap.size #[.slice F.pa F.ps.length F.pc, .int .i64 F.dry] 24 ∧ Blk wr (w.heap.size + 1) #[.int .i64 n.reed, .int .i64 n.straw, .int .i64 n.heather] 26 ∧ Below w.heap.size w wr)
    (fun _ _ _ _ s12 _ _ => l.length - (intOf s12).toNat)
  case atStart => exact ⟨0, 0, Sur.none, Nat.zero_le _, rfl, rfl, rfl, rfl, rfl, rfl, rfl, by simp, by simp [Sur.none], k0, k1, hB⟩
  case round =>
    obtain ⟨j, c, S, hj, rfl, rfl, rfl, rfl, rfl, hc, hS, ⟨b1, b2⟩, ⟨⟨b3, b4⟩, ⟨b5, b6⟩, b7, b8⟩, g1, g2, g3⟩ := hrel
    have hFr := HF.out.below g3
    have hLr := HL.out.belowS g3
    have c0 := g1.cell 0
    have l0 := g1.lt
    have l1 := g2.lt
    simp only [List.getElem?_toArray, List.getElem?_cons_zero] at c0
    have hl12 : l.length ≤ 12 := by have := (ext_bd HE.out).2; omega
    have HC := Lib.hid hc
    have HS := Lib.hid hS
    have G1 := Lib.hid g1
    have G2 := Lib.hid g2
    clear hc hS g1 g2
    by_cases hlj : j < l.length
    · have hq : l[j]? = some l[j] := List.getElem?_eq_getElem hlj
      have hin := (ext_bd HE.out).1 _ (List.getElem_mem hlj)
      have hprev : ∀ k, k + 1 = j → ∃ a0, l[k]? = some a0 ∧ a0 < l[j] := fun k hk => by
        have hk2 : k < l.length := by omega
        refine ⟨l[k], List.getElem?_eq_getElem hk2, ?_⟩
        exact ext_asc HE.out k l[k] l[j] (List.getElem?_eq_getElem hk2) (by rw [hk]; exact hq)
      have htk := take_snoc hq
      generalize l[j] = a at *
      have hal : a < F.ps.length := by omega
      obtain ⟨g, cap, eg, _, hg⟩ := hLr.form (by omega)
      obtain ⟨rfl, _, rfl⟩ := slice_inj eg
      have e0 := hLr.cellAt j (by omega)
      rw [show (natsV l)[j]? = some (.int .i64 (a : Int)) by simp [natsV, hq]] at e0
      have hcp : l.length ≤ lc := by
        rcases hLr.2 with ⟨e, _⟩ | ⟨_, _, _, e, _, _, k, _⟩
        · cases e
        · obtain ⟨_, _, rfl⟩ := slice_inj e
          exact k
      have hj0 : (0 : Int) ≤ (j : Int) := Int.natCast_nonneg _
      have hj1 : (j : Int) < (l.length : Int) := by omega
      have ha0 : (0 : Int) ≤ (a : Int) := Int.natCast_nonneg _
      have ha1 : (a : Int) < (F.ps.length : Int) := by omega
      have hj12 : (j : Int) ≤ 11 := by omega
      have HQ := Lib.hid hq
      have HT := Lib.hid htk
      have HLr := Lib.hid hLr
      have HPV := Lib.hid hprev
      clear hq htk hLr hFr hprev hin eg
      go_upto_region 5 with fail
      go_cut [50] from 14 to 92 (fun s50 wx => s50 = .bool false ∧ Below wr.heap.size wr wx)
      case first =>
        have q1 : decide ((a : Int) < 0) = false := decide_eq_false (by omega)
        have q2 : decide ((F.ps.length : Int) ≤ (a : Int)) = false := decide_eq_false (by omega)
        have n1 : ((a : Int) < 0) = False := eq_false (by omega)
        have n2 : decide (F.ps.length ≤ a) = false := decide_eq_false (by omega)
        rcases Nat.eq_zero_or_pos j with hz | hz
        · have q3 : decide ((0 : Int) < (j : Int)) = false := decide_eq_false (by omega)
          have n3 : decide (0 < j) = false := decide_eq_false (by omega)
          clear hz
          go_quiet (fail)
          go_wp2_with fail
          go_meet
          exact ⟨rfl, below_drewN _ _ _⟩
        · have q3 : decide ((0 : Int) < (j : Int)) = true := decide_eq_true (by omega)
          obtain ⟨k, rfl⟩ : ∃ k, j = k + 1 := ⟨j - 1, by omega⟩
          obtain ⟨a0, ha, hlt⟩ := HPV.out k rfl
          have e9 := HLr.out.cellAt k (by omega)
          rw [show (natsV l)[k]? = some (.int .i64 (a0 : Int)) by simp [natsV, ha]] at e9
          have q4 : decide ((a : Int) ≤ (a0 : Int)) = false := decide_eq_false (by omega)
          have n3 : decide (0 < k + 1) = true := decide_eq_true (by omega)
          have n4 : decide (a ≤ a0) = false := decide_eq_false (by omega)
          clear ha hz
          have hk0 : (0 : Int) ≤ (k : Int) := Int.natCast_nonneg _
          have hk1 : (k : Int) < (l.length : Int) := by omega
          go_quiet (fail)
          go_wp2_with fail
          go_meet
          exact ⟨rfl, below_drewN _ _ _⟩
      case rest =>
        obtain ⟨rfl, hbx⟩ := hcut
        obtain ⟨w5, rfl⟩ : ∃ w5 : World, w5 = wc := ⟨_, rfl⟩
        replace g3 := g3.trans (hbx.mono g3.size)
        have hFr := HF.out.below g3
        have hLr := HL.out.belowS g3
        have kf := G1.out.belowS hbx
        have kn := G2.out.belowS hbx
        have G1 := Lib.hid kf
        have G2 := Lib.hid kn
        have c0 := kf.cell 0
        have l0 := kf.lt
        have l1 := kn.lt
        simp only [List.getElem?_toArray, List.getElem?_cons_zero] at c0
        have e0 := hLr.cellAt j (by omega)
        rw [show (natsV l)[j]? = some (.int .i64 (a : Int)) by simp [natsV, HQ.out]] at e0
        have hg5 : g < w5.heap.size := World.block_lt_of_cell? _ _ e0
        have hpq : F.ps[a]? = some F.ps[a] := List.getElem?_eq_getElem hal
        have hpk := HOK.out _ (List.getElem_mem hal)
        have hpa : pltAt F.ps a = F.ps[a] := by rw [pltAt, hpq]; rfl
        rcases hFr with ⟨_, hn⟩ | ⟨pb, off, cp, h1, h2, h3, h4, h5⟩
        · rw [hn] at hal
          simp at hal
        obtain ⟨⟨d0, d1, d2, d3, d4, d5, d6, d7, d8⟩, hnm⟩ := h5 a _ hpq
        obtain ⟨epa, _, epc⟩ := slice_inj h1
        generalize F.ps[a] = p at *
        have hcs : costOf F.ps (l.take (j + 1)) = c + p.cost := by rw [HT.out, costOf_snoc, HC.out, hpa]
        have hss : sureOf F.ps (l.take (j + 1)) = S.add p := by rw [HT.out, sureOf_snoc, HS.out, hpa]
        have HCS := Lib.hid hcs
        have HSS := Lib.hid hss
        obtain ⟨⟨p1, p2⟩, ⟨p3, p4⟩, ⟨p5, p6⟩, p7, p8⟩ := hpk
        have m0 := Int.mul_nonneg (show (0 : Int) ≤ p.size by omega) p5
        have m1 := Int.mul_le_mul (show p.size ≤ 100 by omega) p6 p5 (show (0 : Int) ≤ 100 by omega)
        rw [epa, epc] at c0
        clear h1 h5 hpa hcs hss hpq hLr hbx kf kn
        have kX := (Blk.new w5 44 (pltC p)).drew
        have hb4 : Below w5.heap.size w5 (w5.alloc (.cells (pltC p) 44)).drew := ((Below.refl _ _).alloc (Nat.le_refl _) _).drew
        unfold pltC at kX hb4
        have hcr : p.crop = 1 ∨ p.crop = 2 ∨ p.crop = 3 := by omega
        generalize hm1 : p.size * p.ylo = M at *
        have HM1 := Lib.hid hm1
        go_upto_region 7 with fail
        go_region
        generalize (w5.alloc (.cells #[.string p.name, .int .i64 p.crop, .int .i64 p.size, .int .i64 p.ylo, .int .i64 p.yhi, .int .i64 p.rest, .int .i64 p.wlo, .int .i64 p.whi, .int .i64 p.cost] 44)).drew = w6 at kX hb4 ⊢
        have x1 := kX.cell 1
        have x2 := kX.cell 2
        have x3 := kX.cell 3
        have x8 := kX.cell 8
        simp only [List.getElem?_toArray, List.getElem?_cons_zero, List.getElem?_cons_succ] at x1 x2 x3 x8
        have HB6 := Lib.hid hb4
        have lX := kX.lt
        clear kX hb4 d0 d1 d2 d3 d4 d5 d6 d7 d8 c0 e0
        rcases hcr with hcr | hcr | hcr
        · have hadd : S.add p = ⟨S.z, S.r + M, S.s, S.h⟩ := by simp [Sur.add, hcr, HM1.out]
          rw [hcr] at x1
          have HADD := Lib.hid hadd
          clear hadd hcr
          go_wp2_with fail
          refine ⟨⟨j + 1, c + p.cost, S.add p, by omega, rfl, by rw [HADD.out], by rw [HADD.out], by rw [HADD.out], by simp, HCS.out, HSS.out, by push_cast; omega, by rw [HADD.out]; push_cast; refine ⟨⟨?_, ?_⟩, ⟨?_, ?_⟩, ?_, ?_⟩ <;> omega, G1.out.belowS HB6.out, G2.out.belowS HB6.out, g3.trans (HB6.out.mono g3.size)⟩, by simp [intOf]; omega⟩
        · have hadd : S.add p = ⟨S.z, S.r, S.s + M, S.h⟩ := by simp [Sur.add, hcr, HM1.out]
          rw [hcr] at x1
          have HADD := Lib.hid hadd
          clear hadd hcr
          go_wp2_with fail
          refine ⟨⟨j + 1, c + p.cost, S.add p, by omega, rfl, by rw [HADD.out], by rw [HADD.out], by rw [HADD.out], by simp, HCS.out, HSS.out, by push_cast; omega, by rw [HADD.out]; push_cast; refine ⟨⟨?_, ?_⟩, ⟨?_, ?_⟩, ?_, ?_⟩ <;> omega, G1.out.belowS HB6.out, G2.out.belowS HB6.out, g3.trans (HB6.out.mono g3.size)⟩, by simp [intOf]; omega⟩
        · have hadd : S.add p = ⟨S.z, S.r, S.s, S.h + M⟩ := by simp [Sur.add, hcr, HM1.out]
          rw [hcr] at x1
          have HADD := Lib.hid hadd
          clear hadd hcr
          go_wp2_with fail
          refine ⟨⟨j + 1, c + p.cost, S.add p, by omega, rfl, by rw [HADD.out], by rw [HADD.out], by rw [HADD.out], by simp, HCS.out, HSS.out, by push_cast; omega, by rw [HADD.out]; push_cast; refine ⟨⟨?_, ?_⟩, ⟨?_, ?_⟩, ?_, ?_⟩ <;> omega, G1.out.belowS HB6.out, G2.out.belowS HB6.out, g3.trans (HB6.out.mono g3.size)⟩, by simp [intOf]; omega⟩
    · have hfin : l.take j = l := List.take_of_length_le (by omega)
      have e1 := HC.out
      have e2 := HS.out
      rw [hfin] at e1 e2
      obtain rfl : j = l.length := by omega
      have y0 := G2.out.cell 0
      have y1 := G2.out.cell 1
      have y2 := G2.out.cell 2
      simp only [List.getElem?_toArray, List.getElem?_cons_zero, List.getElem?_cons_succ] at y0 y1 y2
      have E1 := Lib.hid e1
      have E2 := Lib.hid e2
      clear e1 e2 hfin hFr hLr
      go_upto_region 15 with fail
      cases r1 : decide (n.reed ≤ S.r) with
      | false =>
        have hv : S.enough n = false := by simp [Sur.enough, r1]
        have HV := Lib.hid hv
        clear hv
        go_quiet (fail)
        go_wp2_with fail
        exact bodyPost_ret (v := .tuple #[.int .i64 c, .bool false, .bool true]) (by simp [results, Try.results8, go_sem]) rfl ⟨by rw [E1.out, E2.out, HV.out], g3.trans ((below_drewN _ _ _).mono g3.size)⟩
      | true =>
        cases r2 : decide (n.straw ≤ S.s) with
        | false =>
          have hv : S.enough n = false := by simp [Sur.enough, r2]
          have HV := Lib.hid hv
          clear hv
          go_quiet (fail)
          go_wp2_with fail
          exact bodyPost_ret (v := .tuple #[.int .i64 c, .bool false, .bool true]) (by simp [results, Try.results8, go_sem]) rfl ⟨by rw [E1.out, E2.out, HV.out], g3.trans ((below_drewN _ _ _).mono g3.size)⟩
        | true =>
          have hv : S.enough n = decide (n.heather ≤ S.h) := by simp only [Sur.enough, r1, r2, Bool.true_and]
          have HV := Lib.hid hv
          clear hv
          go_quiet (fail)
          go_wp2_with fail
          exact bodyPost_ret (v := .tuple #[.int .i64 c, .bool (decide (n.heather ≤ S.h)), .bool true]) (by simp [results, Try.results8, go_sem]) rfl ⟨by rw [E1.out, E2.out, HV.out], g3.trans ((below_drewN _ _ _).mono g3.size)⟩
end Go.Proofs.Ytdmhmiamhobikaa
