/- The specification's enough, ahead; SameInts. -/
import Derived.Test.YtdmhmiamhobikaaFH
import Derived.Test.YtdmhmiamhobikaaFN
namespace Go.Proofs.Ytdmhmiamhobikaa
open Go.RowKit

set_option maxRecDepth 100000 in
set_option maxHeartbeats 8000000 in
theorem refEnough_any (F : Frm) (n : Ned) (la : Option Addr) (lc : Nat) (l : List Nat) (w : World) (hF : IsFarm w F) (hl : IsNats w la lc l) (hE : Ext F.ps 0 l) (hlen : F.ps.length ≤ 12) (hok : ∀ p ∈ F.ps, p.ok) :
    Calls Try.prog 17 #[.agg #[.slice F.pa F.ps.length F.pc, .int .i64 F.dry], .agg #[.int .i64 n.reed, .int .i64 n.straw, .int .i64 n.heather], .slice la l.length lc] w fun e w' =>
      e = .returned (.bool ((sureOf F.ps l).enough n)) ∧ Below w.heap.size w w' := by
  have k0 := ((Blk.new w 24 #[.slice F.pa F.ps.length F.pc, .int .i64 F.dry]).alloc (.cells #[.int .i64 n.reed, .int .i64 n.straw, .int .i64 n.heather] 26)).alloc (.cells #[.int .i64 0, .int .i64 0, .int .i64 0, .int .i64 0] 54)
  have k1 := (Blk.new (w.alloc (.cells #[.slice F.pa F.ps.length F.pc, .int .i64 F.dry] 24)) 26 #[.int .i64 n.reed, .int .i64 n.straw, .int .i64 n.heather]).alloc (.cells #[.int .i64 0, .int .i64 0, .int .i64 0, .int .i64 0] 54)
  have k2 := Blk.new ((w.alloc (.cells #[.slice F.pa F.ps.length F.pc, .int .i64 F.dry] 24)).alloc (.cells #[.int .i64 n.reed, .int .i64 n.straw, .int .i64 n.heather] 26)) 54 #[.int .i64 0, .int .i64 0, .int .i64 0, .int .i64 0]
  have hB : Below w.heap.size w (((w.alloc (.cells #[.slice F.pa F.ps.length F.pc, .int .i64 F.dry] 24)).alloc (.cells #[.int .i64 n.reed, .int .i64 n.straw, .int .i64 n.heather] 26)).alloc (.cells #[.int .i64 0, .int .i64 0, .int .i64 0, .int .i64 0] 54)) := (((Below.refl _ w).alloc (by simp) _).alloc (by simp) _).alloc (by simp; omega) _
  simp only [World.size_alloc, Nat.add_assoc, Nat.reduceAdd] at k1 k2
  have HF := Lib.hid hF
  have HL := Lib.hid hl
  have HE := Lib.hid hE
  have HOK := Lib.hid hok
  clear hF hl hE hok
  go_enter Try.func17, Try.ntmps17
  go_wp2_with fail
  go_loopw [8, 9] (fun s8 _ wr => ∃ (j : Nat) (S : Sur), j ≤ l.length ∧ s8 = .int .i64 j ∧ sureOf F.ps (l.take j) = S ∧
      ((0 ≤ S.r ∧ S.r ≤ j * 100000) ∧ (0 ≤ S.s ∧ S.s ≤ j * 100000) ∧ (0 ≤ S.h ∧ S.h ≤ j * 100000)) ∧ Blk wr w.heap.size #[.slice F.pa F.ps.length F.pc, .int .i64 F.dry] 24 ∧ Blk wr (w.heap.size + 1) #[.int .i64 n.reed, .int .i64 n.straw, .int .i64 n.heather] 26 ∧
      Blk wr (w.heap.size + 2) #[.int .i64 S.z, .int .i64 S.r, .int .i64 S.s, .int .i64 S.h] 54 ∧ Below w.heap.size w wr)
    (fun s8 _ _ => l.length - (intOf s8).toNat)
  case atStart => exact ⟨0, Sur.none, Nat.zero_le _, rfl, rfl, by simp [Sur.none], k0, k1, k2, hB⟩
  case round =>
    obtain ⟨j, S, hj, rfl, hS, ⟨⟨b3, b4⟩, ⟨b5, b6⟩, b7, b8⟩, g1, g2, gg, g3⟩ := hrel
    have hFr := HF.out.below g3
    have hLr := HL.out.belowS g3
    have c0 := g1.cell 0
    have l0 := g1.lt
    have l1 := g2.lt
    have l2 := gg.lt
    simp only [List.getElem?_toArray, List.getElem?_cons_zero] at c0
    have hl12 : l.length ≤ 12 := by have := (ext_bd HE.out).2; omega
    have HS := Lib.hid hS
    have G1 := Lib.hid g1
    have G2 := Lib.hid g2
    have GG := Lib.hid gg
    clear hS g1 g2 gg k0 k1 k2
    by_cases hlj : j < l.length
    · have hq : l[j]? = some l[j] := List.getElem?_eq_getElem hlj
      have hin := (ext_bd HE.out).1 _ (List.getElem_mem hlj)
      have htk := take_snoc hq
      generalize l[j] = a at *
      have hal : a < F.ps.length := by omega
      obtain ⟨g, cap, eg, _, hg⟩ := hLr.form (by omega)
      obtain ⟨rfl, _, rfl⟩ := slice_inj eg
      have e0 := hLr.cellAt j (by omega)
      rw [show (natsV l)[j]? = some (.int .i64 (a : Int)) by simp [natsV, hq]] at e0
      have hcp : l.length ≤ lc := by
        rcases hLr.2 with ⟨e, _⟩ | ⟨_, _, _, e, _, _, k, _⟩
        · cases e
        · obtain ⟨_, _, rfl⟩ := slice_inj e
          exact k
      have hj0 : (0 : Int) ≤ (j : Int) := Int.natCast_nonneg _
      have hj1 : (j : Int) < (l.length : Int) := by omega
      have ha0 : (0 : Int) ≤ (a : Int) := Int.natCast_nonneg _
      have ha1 : (a : Int) < (F.ps.length : Int) := by omega
      have hj12 : (j : Int) ≤ 11 := by omega
      have hpq : F.ps[a]? = some F.ps[a] := List.getElem?_eq_getElem hal
      have hpk := HOK.out _ (List.getElem_mem hal)
      have hpa : pltAt F.ps a = F.ps[a] := by rw [pltAt, hpq]; rfl
      rcases hFr with ⟨_, hn⟩ | ⟨pb, off, cp, h1, h2, h3, h4, h5⟩
      · rw [hn] at hal
        simp at hal
      obtain ⟨⟨d0, d1, d2, d3, d4, d5, d6, d7, d8⟩, hnm⟩ := h5 a _ hpq
      obtain ⟨epa, _, epc⟩ := slice_inj h1
      generalize F.ps[a] = p at *
      have hss : sureOf F.ps (l.take (j + 1)) = S.add p := by rw [htk, sureOf_snoc, HS.out, hpa]
      have HSS := Lib.hid hss
      obtain ⟨⟨p1, p2⟩, ⟨p3, p4⟩, ⟨p5, p6⟩, p7, p8⟩ := hpk
      have m0 := Int.mul_nonneg (show (0 : Int) ≤ p.size by omega) p5
      have m1 := Int.mul_le_mul (show p.size ≤ 100 by omega) p6 p5 (show (0 : Int) ≤ 100 by omega)
      rw [epa, epc] at c0
      clear h1 h5 hpa hss hpq hLr hin htk hq eg epa epc
      have kX := (Blk.new wr 44 (pltC p)).drew
      have hb4' : Below wr.heap.size wr (wr.alloc (.cells (pltC p) 44)).drew := ((Below.refl _ _).alloc (Nat.le_refl _) _).drew
      unfold pltC at kX hb4'
      have hcr : p.crop = 1 ∨ p.crop = 2 ∨ p.crop = 3 := by omega
      generalize hm1 : p.size * p.ylo = M at *
      have HM1 := Lib.hid hm1
      go_upto_region 5 with fail
      go_region
      generalize (wr.alloc (.cells #[.string p.name, .int .i64 p.crop, .int .i64 p.size, .int .i64 p.ylo, .int .i64 p.yhi, .int .i64 p.rest, .int .i64 p.wlo, .int .i64 p.whi, .int .i64 p.cost] 44)).drew = w6 at kX hb4' ⊢
      have x1 := kX.cell 1
      have x2 := kX.cell 2
      have x3 := kX.cell 3
      simp only [List.getElem?_toArray, List.getElem?_cons_zero, List.getElem?_cons_succ] at x1 x2 x3
      have HB6 := Lib.hid hb4'
      have lX := kX.lt
      have kG := GG.out.belowS hb4'
      have y1 := kG.cell 1
      have y2 := kG.cell 2
      have y3 := kG.cell 3
      have z1 := kG.frozen 1
      have z2 := kG.frozen 2
      have z3 := kG.frozen 3
      have lG := kG.lt
      simp only [List.getElem?_toArray, List.getElem?_cons_zero, List.getElem?_cons_succ] at y1 y2 y3
      have HKG := Lib.hid kG
      clear kX kG hb4' d0 d1 d2 d3 d4 d5 d6 d7 d8 c0 e0
      rcases hcr with hcr | hcr | hcr
      · have hadd : S.add p = ⟨S.z, S.r + M, S.s, S.h⟩ := by simp [Sur.add, hcr, HM1.out]
        rw [hcr] at x1
        have HADD := Lib.hid hadd
        clear hadd hcr
        go_wp2_with fail
        go_region
        go_wp2_with fail
        refine ⟨⟨j + 1, S.add p, by omega, by simp, HSS.out, by rw [HADD.out]; push_cast; refine ⟨⟨?_, ?_⟩, ⟨?_, ?_⟩, ?_, ?_⟩ <;> omega, ((G1.out.belowS HB6.out).other (by omega) _).drew, ((G2.out.belowS HB6.out).other (by omega) _).drew, by rw [HADD.out]; exact (HKG.out.set 1 _).drew, ((g3.trans (HB6.out.mono g3.size)).setCell (by simp; omega) _).drew⟩, by simp [intOf]; omega⟩
      · have hadd : S.add p = ⟨S.z, S.r, S.s + M, S.h⟩ := by simp [Sur.add, hcr, HM1.out]
        rw [hcr] at x1
        have HADD := Lib.hid hadd
        clear hadd hcr
        go_wp2_with fail
        go_region
        go_wp2_with fail
        refine ⟨⟨j + 1, S.add p, by omega, by simp, HSS.out, by rw [HADD.out]; push_cast; refine ⟨⟨?_, ?_⟩, ⟨?_, ?_⟩, ?_, ?_⟩ <;> omega, ((G1.out.belowS HB6.out).other (by omega) _).drew, ((G2.out.belowS HB6.out).other (by omega) _).drew, by rw [HADD.out]; exact (HKG.out.set 2 _).drew, ((g3.trans (HB6.out.mono g3.size)).setCell (by simp; omega) _).drew⟩, by simp [intOf]; omega⟩
      · have hadd : S.add p = ⟨S.z, S.r, S.s, S.h + M⟩ := by simp [Sur.add, hcr, HM1.out]
        rw [hcr] at x1
        have HADD := Lib.hid hadd
        clear hadd hcr
        go_wp2_with fail
        go_region
        go_wp2_with fail
        refine ⟨⟨j + 1, S.add p, by omega, by simp, HSS.out, by rw [HADD.out]; push_cast; refine ⟨⟨?_, ?_⟩, ⟨?_, ?_⟩, ?_, ?_⟩ <;> omega, ((G1.out.belowS HB6.out).other (by omega) _).drew, ((G2.out.belowS HB6.out).other (by omega) _).drew, by rw [HADD.out]; exact (HKG.out.set 3 _).drew, ((g3.trans (HB6.out.mono g3.size)).setCell (by simp; omega) _).drew⟩, by simp [intOf]; omega⟩
    · have hfin : l.take j = l := List.take_of_length_le (by omega)
      have e2 := HS.out
      rw [hfin] at e2
      obtain rfl : j = l.length := by omega
      have y0 := G2.out.cell 0
      have y1 := G2.out.cell 1
      have y2 := G2.out.cell 2
      have u1 := GG.out.cell 1
      have u2 := GG.out.cell 2
      have u3 := GG.out.cell 3
      simp only [List.getElem?_toArray, List.getElem?_cons_zero, List.getElem?_cons_succ] at y0 y1 y2 u1 u2 u3
      have E2 := Lib.hid e2
      clear e2 hfin hFr hLr
      cases r1 : decide (n.reed ≤ S.r) with
      | false =>
        have hv : S.enough n = false := by simp [Sur.enough, r1]
        have HV := Lib.hid hv
        clear hv
        go_wp2_with fail
        go_ret
        exact ⟨by rw [E2.out, HV.out]; rfl, g3⟩
      | true =>
        cases r2 : decide (n.straw ≤ S.s) with
        | false =>
          have hv : S.enough n = false := by simp [Sur.enough, r2]
          have HV := Lib.hid hv
          clear hv
          go_wp2_with fail
          go_ret
          exact ⟨by rw [E2.out, HV.out]; rfl, g3⟩
        | true =>
          have hv : S.enough n = decide (n.heather ≤ S.h) := by simp only [Sur.enough, r1, r2, Bool.true_and]
          have HV := Lib.hid hv
          clear hv
          go_wp2_with fail
          go_ret
          exact ⟨by rw [E2.out, HV.out]; rfl, g3⟩

/-- The cells of two lists of numbers at one place. -/
theorem nat_at {w : World} {a : Option Addr} {c : Nat} {l : List Nat} (h : IsNats w a c l) {j k : Nat} (hj : l[j]? = some k) : ∃ g, a = some ⟨g, 0, none⟩ ∧ w.cell? ⟨g, j, none⟩ = some (.int .i64 (k : Int)) ∧ l.length ≤ c ∧ g < w.heap.size := by
  have hlt : j < l.length := (List.getElem?_eq_some_iff.1 hj).1
  obtain ⟨g, cap, eg, _, hg⟩ := h.form (by omega)
  obtain ⟨rfl, _, rfl⟩ := slice_inj eg
  refine ⟨g, rfl, ?_, ?_, hg⟩
  · rw [h.cellAt j (by omega)]
    simp [natsV, hj]
  · rcases h.2 with ⟨e, _⟩ | ⟨_, _, _, e, _, _, k, _⟩
    · cases e
    · obtain ⟨_, _, rfl⟩ := slice_inj e
      exact k
end Go.Proofs.Ytdmhmiamhobikaa
