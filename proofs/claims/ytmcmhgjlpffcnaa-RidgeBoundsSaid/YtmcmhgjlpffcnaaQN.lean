/- The specification's fits and Fits: whether a row fits is the same. No condition but that the ridge may be. -/
import Derived.Test.YtmcmhgjlpffcnaaQM
import Derived.BigRegion
import Derived.BigQuiet
set_option linter.unusedSimpArgs false
namespace Go.Proofs.Ytmcmhgjlpffcnaa
open Go.RowKit

theorem below_dn (B : Nat) (w : World) (n : Nat) : Below B w (w.drewN n) := ⟨rfl, rfl, rfl, Nat.le_refl _, fun _ _ => rfl⟩
theorem refIn_is {n lo hi : Int} {b : Bool} (h : isFromB n lo hi = b) (w : World) : Calls Try.prog 47 #[.int .i64 n, .int .i64 lo, .int .i64 hi] w fun e w' => e = .returned (.bool b) ∧ w' = w :=
  (refIn_any n lo hi w).mono fun _ _ ⟨h1, h2⟩ => ⟨by rw [h1, h], h2.symm⟩

set_option maxRecDepth 100000 in
set_option maxHeartbeats 16000000 in
theorem refFits_any (R : Rdg) (sa : Option Addr) (c : Nat) (row : List Int) (w : World) (hR : R.ok) (hrow : IsPcs w R.pa R.pc R.ps) (hns : IsInts w sa c row) :
    Calls Try.prog 43 #[.agg #[.int .i64 R.len, .int .i64 R.st, .int .i64 R.en, .slice R.pa R.ps.length R.pc], .slice sa row.length c] w fun e w' => e = .returned (.bool (fitsB R row)) ∧ Below w.heap.size w w' := by
  have k1 := Blk.new w 24 #[.int .i64 R.len, .int .i64 R.st, .int .i64 R.en, .slice R.pa R.ps.length R.pc]
  have hb1 : Below w.heap.size w (w.alloc (.cells #[.int .i64 R.len, .int .i64 R.st, .int .i64 R.en, .slice R.pa R.ps.length R.pc] 24)) := (Below.refl _ w).alloc (Nat.le_refl _) _
  have hlr := ints_le hns
  have HROW := Lib.hid hrow
  have HNS := Lib.hid hns
  have hT := hR.top
  have hts : R.len = (R.top.n : Int) ∧ R.st = (R.top.p : Int) := by
    obtain ⟨⟨h1, h2⟩, ⟨h3, h4⟩, -⟩ := hR
    simp only [Rdg.top]
    omega
  have hps10 := hR.2.2.2.1
  have HR := Lib.hid hR
  have HT := Lib.hid (And.intro hT hts)
  clear hrow hns hT hts hR
  go_enter Try.func43, Try.ntmps43
  go_upto_region 1 with fail
  generalize w.alloc (.cells #[.int .i64 R.len, .int .i64 R.st, .int .i64 R.en, .slice R.pa R.ps.length R.pc] 24) = w1 at *
  have K1 := Lib.hid k1
  have HB1 := Lib.hid hb1
  obtain ⟨r0, r1, r2, r3⟩ := rdg_cells (R := R) k1
  have hl1 := k1.lt
  clear k1 hb1
  go_quiet (fail)
  have K2 := Lib.hid (K1.out.belowS (below_dn _ w1 nq))
  have HB2 := Lib.hid (HB1.out.trans ((below_dn _ w1 nq).mono HB1.out.size))
  clear r0 r1 r2 r3 hl1
  generalize w1.drewN nq = w2 at *
  go_wp2_with fail
  have hs6 : (Value.int .i64 R.st) = .int .i64 (R.top.p : Int) := by rw [HT.out.2.2]
  rw [hs6]
  clear hs6
  go_loopw [5, 6, 7, 8] (fun at_ pf i _ wr => ∃ (j : Nat) (g : Gp), j ≤ row.length ∧ i = .int .i64 j ∧ at_ = .int .i64 (R.len - (g.n : Int)) ∧ pf = .int .i64 (g.p : Int) ∧ runG R.ps R.top (row.take j) = some g ∧ g.ok ∧ g.n ≤ R.top.n ∧ Blk wr w.heap.size #[.int .i64 R.len, .int .i64 R.st, .int .i64 R.en, .slice R.pa R.ps.length R.pc] 24 ∧ Below w.heap.size w wr) (fun _ _ i _ _ => row.length - (intOf i).toNat)
  case atStart => exact ⟨0, R.top, Nat.zero_le _, rfl, by rw [HT.out.2.1, Int.sub_self], rfl, rfl, HT.out.1, Nat.le_refl _, K2.out, HB2.out⟩
  case round =>
    obtain ⟨j, g, hj, rfl, rfl, rfl, hrun, hgo, hgn, hkr, hb⟩ := hrel
    have hj0 : (0 : Int) ≤ (j : Int) := Int.natCast_nonneg _
    have HRUN := Lib.hid hrun
    have HGO := Lib.hid hgo
    have HB := Lib.hid hb
    have HKR := Lib.hid hkr
    have hlen : R.len = (R.top.n : Int) := HT.out.2.1
    have hlb : 0 ≤ R.len ∧ R.len ≤ 2000 := HR.out.1
    have hat : 0 ≤ R.len - (g.n : Int) ∧ R.len - (g.n : Int) ≤ 2000 := by omega
    obtain ⟨A, hA⟩ : ∃ A : Int, R.len - (g.n : Int) = A := ⟨_, rfl⟩
    rw [hA] at hat ⊢
    have HA := Lib.hid (And.intro hA hgn)
    have hgn2 : (g.n : Int) = R.len - A := by omega
    clear hA hlen hgn
    obtain ⟨ro, hro⟩ : ∃ ro : World, ro = wr := ⟨_, rfl⟩
    subst hro
    by_cases hlj : j < row.length
    · have hq : row[j]? = some row[j] := List.getElem?_eq_getElem hlj
      obtain ⟨b, off, e, hbw, hc1, hc2, hp⟩ := HNS.out.at hq
      have hbl : b < ro.heap.size := Nat.lt_of_lt_of_le hbw hb.size
      have hta : row.take (j + 1) = row.take j ++ [row[j]] := by rw [List.take_add_one, hq]; rfl
      have hst := runG_snoc R.ps R.top (row.take j) row[j]
      rw [← hta, hrun] at hst
      generalize row[j] = n at *
      have c0 : ro.cell? ⟨b, off + j * 1, none⟩ = some (.int .i64 n) := (hb.cell (p := ⟨b, off + j * 1, none⟩) hbw).trans hp
      rw [Nat.mul_one] at c0
      have hj1 : (j : Int) < (row.length : Int) := by omega
      obtain ⟨r0, r1, r2, r3⟩ := rdg_cells (R := R) hkr
      have hlr2 := hkr.lt
      have HST := Lib.hid hst
      have hw1 : IntKind.i64.wrap ((R.ps.length : Int) - 1) = (R.ps.length : Int) - 1 := by rw [IntKind.wrap_i64]; omega
      subst e
      clear hrun hgo hb hkr hst hta hp hq hbw
      go_upto_region 5 with fail
      cases hP : isFromB n 0 ((R.ps.length : Int) - 1) with
      | false =>
        have hno : runG R.ps R.top row = none := by
          refine runG_none (k := j + 1) ?_
          rw [HST.out]
          simp [stepG, hP]
        have hfin : fitsB R row = false := by unfold fitsB; rw [hno]
        have HF := Lib.hid hfin
        have HP := Lib.hid hP
        clear hno hfin hP
        go_quiet (first | (go_at_call 47; with_reducible refine Calls.quiet_of_same (refIn_is HP.out _)))
        go_wp2_with fail
        go_ret
        exact ⟨by rw [HF.out]; rfl, HB.out.trans ((below_dn _ ro nq).mono HB.out.size)⟩
      | true =>
        have hPI : 0 ≤ n ∧ n ≤ (R.ps.length : Int) - 1 := by simpa [isFromB_iff] using hP
        have hnl : n.toNat < R.ps.length := by omega
        have hqx : R.ps[n.toNat]? = some R.ps[n.toNat] := List.getElem?_eq_getElem hnl
        have hxo := HR.out.2.2.2.2 _ (List.mem_of_getElem? hqx)
        have hsx : stepG R.ps g n = if takB g R.ps[n.toNat] = true then some (behG g R.ps[n.toNat]) else none := by
          unfold stepG
          rw [if_pos hP, hqx]
        obtain ⟨b2, off2, e2, hbw2, hc21, hc22, hp2⟩ := HROW.out.at hqx
        generalize R.ps[n.toNat] = x at *
        have hp2' : PceAt ro b2 (off2 + n.toNat * 5) x := PceAt.keep (bcell HB.out).1 _ _ _ hbw2 hp2
        have hbl2 : b2 < ro.heap.size := Nat.lt_of_lt_of_le hbw2 HB.out.size
        have HP := Lib.hid hP
        have HSX := Lib.hid hsx
        have HXO := Lib.hid hxo
        have HE2 := Lib.hid e2
        clear hP hsx hxo hqx hp2 hbw2
        go_quiet (first | (go_at_call 47; with_reducible refine Calls.quiet_of_same (refIn_is HP.out _)))
        have hbq := below_dn ro.heap.size ro nq
        have KQ := Lib.hid (HKR.out.belowS hbq)
        have HBQ := Lib.hid (HB.out.trans (hbq.mono HB.out.size))
        have HQZ := Lib.hid hbq
        clear r0 r1 r2 r3 hlr2 hbq
        have hpq : PceAt (ro.drewN nq) b2 (off2 + n.toNat * 5) x := hp2'
        have hcq : (ro.drewN nq).cell? ⟨b, off + j, none⟩ = some (.int .i64 n) := c0
        have hbl3 : b < (ro.drewN nq).heap.size := hbl
        have hbl4 : b2 < (ro.drewN nq).heap.size := hbl2
        clear hp2' c0 hbl hbl2
        generalize ro.drewN nq = wq at *
        obtain ⟨r0, r1, r2, r3⟩ := rdg_cells (R := R) KQ.out
        rw [e2] at r3
        have hlr2 := KQ.out.lt
        obtain ⟨p0, p1, p2, p3, p4⟩ := hpq
        have y3 : ∀ o, (wq.alloc o).cell? ⟨w.heap.size, 3, none⟩ = some (.slice (some ⟨b2, off2, none⟩) R.ps.length R.pc) := fun o => (((Below.refl wq.heap.size wq).alloc (Nat.le_refl _) o).cell (p := ⟨w.heap.size, 3, none⟩) hlr2).trans r3
        have yc : ∀ o, (wq.alloc o).cell? ⟨b, off + j, none⟩ = some (.int .i64 n) := fun o => (((Below.refl wq.heap.size wq).alloc (Nat.le_refl _) o).cell (p := ⟨b, off + j, none⟩) hbl3).trans hcq
        have z0 : ∀ o, (wq.alloc o).cell? ⟨b2, off2 + n.toNat * 5, none⟩ = some (.string x.name) := fun o => (((Below.refl wq.heap.size wq).alloc (Nat.le_refl _) o).cell (p := ⟨b2, off2 + n.toNat * 5, none⟩) hbl4).trans p0
        have z1 : ∀ o, (wq.alloc o).cell? ⟨b2, off2 + n.toNat * 5 + 1, none⟩ = some (.int .i64 x.wd) := fun o => (((Below.refl wq.heap.size wq).alloc (Nat.le_refl _) o).cell (p := ⟨b2, off2 + n.toNat * 5 + 1, none⟩) hbl4).trans p1
        have z2 : ∀ o, (wq.alloc o).cell? ⟨b2, off2 + n.toNat * 5 + 2, none⟩ = some (.int .i64 x.lf) := fun o => (((Below.refl wq.heap.size wq).alloc (Nat.le_refl _) o).cell (p := ⟨b2, off2 + n.toNat * 5 + 2, none⟩) hbl4).trans p2
        have z3 : ∀ o, (wq.alloc o).cell? ⟨b2, off2 + n.toNat * 5 + 3, none⟩ = some (.int .i64 x.rt) := fun o => (((Below.refl wq.heap.size wq).alloc (Nat.le_refl _) o).cell (p := ⟨b2, off2 + n.toNat * 5 + 3, none⟩) hbl4).trans p3
        have z4 : ∀ o, (wq.alloc o).cell? ⟨b2, off2 + n.toNat * 5 + 4, none⟩ = some (.int .i64 x.mr) := fun o => (((Below.refl wq.heap.size wq).alloc (Nat.le_refl _) o).cell (p := ⟨b2, off2 + n.toNat * 5 + 4, none⟩) hbl4).trans p4
        obtain ⟨n1, n2⟩ := hPI
        have n3 : n < (R.ps.length : Int) := by omega
        go_upto_region 7 with fail
        go_region
        clear r0 r1 r2 r3 hlr2 p0 p1 p2 p3 p4 y3 yc z0 z1 z2 z3 z4 hcq hbl3 hbl4
        have kX := (Blk.new wq 54 #[.string x.name, .int .i64 x.wd, .int .i64 x.lf, .int .i64 x.rt, .int .i64 x.mr]).drew
        have kr := (KQ.out.alloc (.cells #[.string x.name, .int .i64 x.wd, .int .i64 x.lf, .int .i64 x.rt, .int .i64 x.mr] 54)).drew
        have hbx := (HBQ.out.alloc HBQ.out.size (.cells #[.string x.name, .int .i64 x.wd, .int .i64 x.lf, .int .i64 x.rt, .int .i64 x.mr] 54)).drew
        generalize ((wq.alloc (.cells #[.string x.name, .int .i64 x.wd, .int .i64 x.lf, .int .i64 x.rt, .int .i64 x.mr] 54)).drew) = wx at *
        have KX := Lib.hid kX
        have KR := Lib.hid kr
        have HBX := Lib.hid hbx
        obtain ⟨r0, r1, r2, r3⟩ := rdg_cells (R := R) kr
        obtain ⟨x0, x1, x2, x3, x4⟩ := pce_cells (x := x) kX
        have lR := kr.lt
        have lX := kX.lt
        clear kX kr hbx
        have e1 : IntKind.i64.wrap (R.len - A) = R.len - A := by rw [IntKind.wrap_i64]; omega
        have hfalse : takB g x = false → fitsB R row = false := fun ht => by
          have hno : runG R.ps R.top row = none := by
            refine runG_none (k := j + 1) ?_
            rw [HST.out]
            simp [HSX.out, ht]
          unfold fitsB
          rw [hno]
        have HFA := Lib.hid hfalse
        clear hfalse
        by_cases t1 : x.lf = (g.p : Int)
        rotate_left
        · have q : (x.lf != (g.p : Int)) = true := by simpa using t1
          have HF := Lib.hid (HFA.out (by simp [takB, t1]))
          clear t1
          go_wp2_with fail
          go_ret
          exact ⟨by rw [HF.out]; rfl, HBX.out⟩
        have T1 := Lib.hid t1
        have q1 : (x.lf != (g.p : Int)) = false := by simpa using t1
        clear t1
        by_cases t2 : x.wd ≤ R.len - A
        rotate_left
        · have q : R.len - A < x.wd := by omega
          have HF := Lib.hid (HFA.out (by simp [takB]; intro _; omega))
          clear t2
          go_wp2_with fail
          go_ret
          exact ⟨by rw [HF.out]; rfl, HBX.out⟩
        have q2 : ¬ R.len - A < x.wd := by omega
        have hxo := HXO.out
        have ht : takB g x = true := by rw [takB_iff]; exact ⟨T1.out, by omega⟩
        have hgo2 := behG_ok HGO.out hxo
        obtain ⟨⟨w1', w2'⟩, ⟨l1', l2'⟩, r1', r2'⟩ := hxo
        have e2' : IntKind.i64.wrap (A + x.wd) = A + x.wd := by rw [IntKind.wrap_i64]; omega
        have hnx : runG R.ps R.top (row.take (j + 1)) = some (behG g x) := by rw [HST.out]; simp [HSX.out, ht]
        have HNX := Lib.hid (And.intro hnx hgo2)
        have hA2 : R.len - ((behG g x).n : Int) = A + x.wd := by simp only [behG]; omega
        have hp2 : ((behG g x).p : Int) = x.rt := by simp only [behG]; omega
        have hn2 : (behG g x).n ≤ R.top.n := by have := HA.out.2; simp only [behG]; omega
        have HFIN := Lib.hid (And.intro hA2 (And.intro hp2 hn2))
        clear t2 hnx hgo2 hA2 hp2 hn2 ht
        go_upto_region 10 with fail
        go_quiet (fail)
        have hbq := below_dn wx.heap.size wx nq
        have KF := Lib.hid (KR.out.belowS hbq)
        have HBF := Lib.hid (HBX.out.trans (hbq.mono HBX.out.size))
        clear r0 r1 r2 r3 x0 x1 x2 x3 x4 lR lX hbq
        generalize wx.drewN nq = wf at *
        go_wp2_with fail
        exact ⟨⟨j + 1, behG g x, by omega, by simp, by rw [HFIN.out.1], by rw [HFIN.out.2.1], HNX.out.1, HNX.out.2, HFIN.out.2.2, KF.out, HBF.out⟩, by simp [intOf]; omega⟩
    · obtain rfl : j = row.length := by omega
      rw [List.take_of_length_le (Nat.le_refl _)] at HRUN
      have hfin : fitsB R row = decide (g = ⟨0, R.en.toNat⟩) := by unfold fitsB; rw [HRUN.out]
      have hre := HR.out.2.2.1
      obtain ⟨r0, r1, r2, r3⟩ := rdg_cells (R := R) hkr
      have hlr2 := hkr.lt
      have hjj : ¬ (row.length : Int) < (row.length : Int) := by omega
      clear hrun hgo hb hkr hlj hj
      by_cases t1 : A = R.len
      rotate_left
      · have q : (A == R.len) = false := by simpa using t1
        have HF := Lib.hid (show fitsB R row = false by
          rw [hfin]
          refine decide_eq_false fun e => t1 ?_
          subst e
          simp only at hgn2
          omega)
        clear t1 hfin
        go_wp2_with fail
        go_ret
        exact ⟨by rw [HF.out]; rfl, HB.out⟩
      have q : (A == R.len) = true := by simpa using t1
      by_cases t2 : (g.p : Int) = R.en
      · have q2 : ((g.p : Int) == R.en) = true := by simpa using t2
        have HF := Lib.hid (show fitsB R row = true by
          rw [hfin]
          refine decide_eq_true ?_
          obtain ⟨gn, gp⟩ := g
          simp only at hgn2 t2
          simp only [Gp.mk.injEq]
          omega)
        clear t1 t2 hfin
        go_wp2_with fail
        go_ret
        exact ⟨by rw [HF.out]; rfl, HB.out⟩
      · have q2 : ((g.p : Int) == R.en) = false := by simpa using t2
        have HF := Lib.hid (show fitsB R row = false by
          rw [hfin]
          refine decide_eq_false fun e => t2 ?_
          subst e
          simp only
          omega)
        clear t1 t2 hfin
        go_wp2_with fail
        go_ret
        exact ⟨by rw [HF.out]; rfl, HB.out⟩
end Go.Proofs.Ytmcmhgjlpffcnaa
