/- Rank of the specification. No condition but the bounds of what is given. -/
import Derived.Test.YtmcmhgjlpffcnaaRC
set_option linter.unusedSimpArgs false
namespace Go.Proofs.Ytmcmhgjlpffcnaa
open Go.RowKit

/-- The memory of the specification's Rank: the ridge, the table. -/
structure EMem (w : World) (R : Rdg) (B : Nat) (W : World) : Prop where
  below : Below w.heap.size w W
  box : Blk W w.heap.size #[.int .i64 R.len, .int .i64 R.st, .int .i64 R.en, .slice R.pa R.ps.length R.pc] 24
  tab : TabR W B ((R.top.n + 1) * 10) (tabF R.ps R.en.toNat (R.top.n + 1) 0)
theorem EMem.after {w : World} {R : Rdg} {B : Nat} {W W' : World} (h : EMem w R B W) (hb : Below W.heap.size W W') : EMem w R B W' :=
  ⟨h.below.trans (hb.mono h.below.size), h.box.belowS hb, h.tab.belowS hb⟩
theorem EMem.at {w : World} {R : Rdg} {B : Nat} {W : World} (h : EMem w R B W) {g : Gp} (hp : g.p < 10) (hn : g.n ≤ R.top.n) (hM : wy R.ps R.en.toNat g ≤ MW) : W.cell? ⟨B, g.n * 10 + g.p, none⟩ = some (.int .i64 (wy R.ps R.en.toNat g : Int)) := by
  have := h.tab.cell (i := g.n * 10 + g.p) (by omega)
  rwa [tab_whole hp hn, capN_le hM] at this

set_option maxRecDepth 100000 in
set_option maxHeartbeats 16000000 in
theorem refRank_any (R : Rdg) (sa : Option Addr) (c : Nat) (row : List Int) (w : World) (hR : IsRdg w R) (hbig : R.ps.length ≤ 1000000000) (hns : IsInts w sa c row) :
    Calls Try.prog 29 #[.agg #[.int .i64 R.len, .int .i64 R.st, .int .i64 R.en, .slice R.pa R.ps.length R.pc], .slice sa row.length c] w fun e w' => e = .returned (.tuple #[.int .i64 (endI (rankE R row) (rankR R row : Int)), .int .i64 (rankE R row)]) ∧ Below w.heap.size w w' := by
  have k1 := Blk.new w 24 #[.int .i64 R.len, .int .i64 R.st, .int .i64 R.en, .slice R.pa R.ps.length R.pc]
  have hb1 : Below w.heap.size w (w.alloc (.cells #[.int .i64 R.len, .int .i64 R.st, .int .i64 R.en, .slice R.pa R.ps.length R.pc] 24)) := (Below.refl _ w).alloc (Nat.le_refl _) _
  have hrl := ints_le hns
  have HR := Lib.hid hR
  have HNS := Lib.hid hns
  clear hR hns
  go_enter Try.func29, Try.ntmps29
  go_upto_region 1 with fail
  generalize w.alloc (.cells #[.int .i64 R.len, .int .i64 R.st, .int .i64 R.en, .slice R.pa R.ps.length R.pc] 24) = w1 at *
  have K1 := Lib.hid k1
  have HB1 := Lib.hid hb1
  obtain ⟨r0, r1, r2, r3⟩ := rdg_cells (R := R) k1
  have hlr := k1.lt
  clear k1 hb1
  go_wp2_with fail
  refine (refCounted_any R _ (HR.out.belowS HB1.out) hbig).mono ?_
  rintro e w2 ⟨h, hb2⟩
  have K2 := Lib.hid (K1.out.belowS hb2)
  have HB2 := Lib.hid (HB1.out.trans (hb2.mono HB1.out.size))
  clear r0 r1 r2 r3 hlr hb2
  rcases h with ⟨hE, B, rfl, hB, hT⟩ | ⟨hE, rfl⟩
  rotate_left
  · have HE := Lib.hid hE
    have q : (waysE R == 0) = false := by simpa using hE
    have q2 : (waysE R != 0) = true := by simpa using hE
    have HV := Lib.hid (show rankE R row = waysE R by unfold rankE; rw [if_pos hE])
    obtain ⟨eR, hRR⟩ : ∃ eR, waysE R = eR := ⟨_, rfl⟩
    have HRR := Lib.hid hRR
    rw [hRR] at HE q q2 ⊢
    clear hE hRR
    go_wp2_with fail
    refine bodyPost_ret (v := .tuple #[.int .i64 0, .int .i64 eR]) (by simp [results, Try.results29, go_sem]) rfl ⟨?_, HB2.out⟩
    rw [HV.out, HRR.out, endI, if_neg HE.out]
  have hro := rdgE_ridge (waysE_zero hE).1
  have hM := (waysE_zero hE).2
  obtain ⟨r0, r1, r2, r3⟩ := rdg_cells (R := R) K2.out
  have hlr := K2.out.lt
  have HRO := Lib.hid hro
  have HMM := Lib.hid hM
  have HT := Lib.hid hT
  have HRE := Lib.hid (show rankE R row = if fitsB R row = false then 8 else 0 by unfold rankE; rw [if_neg (by rw [hE]; simp)])
  clear hT hE hM hro
  go_wp2_with fail
  refine (refFits_any R sa c row _ HRO.out (HR.out.belowS HB2.out).row (HNS.out.belowS HB2.out)).mono ?_
  rintro e w3 ⟨rfl, hb3⟩
  have K3 := Lib.hid (K2.out.belowS hb3)
  have HB3 := Lib.hid (HB2.out.trans (hb3.mono HB2.out.size))
  have HT3 := Lib.hid (HT.out.belowS hb3)
  clear r0 r1 r2 r3 hlr hb3
  cases hF : fitsB R row with
  | false =>
    have HV := Lib.hid (show rankE R row = 8 by rw [HRE.out, if_pos hF])
    clear hF
    go_wp2_with fail
    refine bodyPost_ret (v := .tuple #[.int .i64 0, .int .i64 8]) (by simp [results, Try.results29, go_sem]) rfl ⟨?_, HB3.out⟩
    rw [HV.out]; rfl
  | true =>
    have HV := Lib.hid (show rankE R row = 0 by rw [HRE.out, if_neg (by rw [hF]; simp)])
    have hrun := fitsB_iff.1 hF
    have hlt : rankR R row < wy R.ps R.en.toNat R.top := rank_lt HRO.out.2.2.2.2 _ row _ hrun
    have HINR := Lib.hid (fits_in hF)
    have HLT := Lib.hid hlt
    have HAT := Lib.hid (show RAt R row 0 R.top 0 from ⟨HRO.out.top, .top, by rw [List.drop_zero]; exact hrun, by rw [List.drop_zero, Nat.zero_add]; rfl⟩)
    obtain ⟨r0, r1, r2, r3⟩ := rdg_cells (R := R) K3.out
    have hts : R.len = (R.top.n : Int) ∧ R.st = (R.top.p : Int) := by
      obtain ⟨⟨h1, h2⟩, ⟨h3, h4⟩, -⟩ := HRO.out
      simp only [Rdg.top]
      omega
    rw [hts.1] at r0
    rw [hts.2] at r1
    have hlr := K3.out.lt
    clear hts hF hrun hlt
    go_upto_region 6 with fail
    go_quiet (fail)
    have hbq := below_dn w3.heap.size w3 nq
    have HDM := Lib.hid (show EMem w R B (w3.drewN nq) from ⟨HB3.out.trans (hbq.mono HB3.out.size), K3.out.belowS hbq, HT3.out.belowS hbq⟩)
    clear r0 r1 r2 r3 hlr hbq
    generalize w3.drewN nq = wl at *
    go_wp2_with fail
    go_loopw [8, 9, 10, 11, 12, 13, 14] (fun s8 s9 s10 s11 _ _ _ wr => ∃ (j : Nat) (g : Gp) (kk : Nat), j ≤ row.length ∧ s8 = .int .i64 kk ∧ s9 = .int .i64 g.n ∧ s10 = .int .i64 g.p ∧ s11 = .int .i64 j ∧ RAt R row j g kk ∧ EMem w R B wr) (fun _ _ _ s11 _ _ _ _ => row.length - (intOf s11).toNat)
    case atStart => exact ⟨0, R.top, 0, Nat.zero_le _, rfl, rfl, rfl, rfl, HAT.out, HDM.out⟩
    case round =>
      obtain ⟨j, g, kk, hj, rfl, rfl, rfl, rfl, hN, hD⟩ := hrel
      have HN := Lib.hid hN
      have HD := Lib.hid hD
      obtain ⟨wo, rfl⟩ : ∃ wo : World, wo = wr := ⟨_, rfl⟩
      have hj0 : (0 : Int) ≤ (j : Int) := Int.natCast_nonneg _
      by_cases hlj : j < row.length
      rotate_left
      · obtain rfl : j = row.length := by omega
        have g0 : ¬ (row.length : Int) < (row.length : Int) := by omega
        have hsum := hN.sum
        rw [List.drop_length] at hsum
        have HSUM := Lib.hid (show kk = rankR R row by simpa [rankF] using hsum)
        clear hN hD hsum hlj hj
        go_wp2_with fail
        refine bodyPost_ret (v := .tuple #[.int .i64 (kk : Int), .int .i64 0]) (by simp [results, Try.results29, go_sem]) rfl ⟨?_, HD.out.below⟩
        rw [HV.out, ← HSUM.out]; rfl
      · have g0 : (j : Int) < (row.length : Int) := by omega
        have hq : row[j]? = some row[j] := List.getElem?_eq_getElem hlj
        have hnr := HINR.out _ (List.mem_of_getElem? hq)
        obtain ⟨b, off, e, hbw, hc1, hc2, hp⟩ := HNS.out.at hq
        obtain ⟨n, hn⟩ : ∃ n : Nat, row[j] = (n : Int) := ⟨row[j].toNat, by omega⟩
        rw [hn] at hq hp
        have HP := Lib.hid (fun W (h : EMem w R B W) => show b < W.heap.size ∧ W.cell? ⟨b, off + j, none⟩ = some (.int .i64 (n : Int)) from ⟨Nat.lt_of_lt_of_le hbw h.below.size, by
          have h1 : w.cell? ⟨b, off + j * 1, none⟩ = some (.int .i64 (n : Int)) := hp
          rw [Nat.mul_one] at h1
          exact (h.below.cell (p := ⟨b, off + j, none⟩) hbw).trans h1⟩)
        have hnl : n < R.ps.length := by omega
        have HQ := Lib.hid hq
        have hkr : kk ≤ rankR R row := by have := hN.sum; omega
        have hkM : kk ≤ MW := by have h1 := HLT.out; have h2 : wy R.ps R.en.toNat R.top ≤ MW := HMM.out; omega
        have HEE := Lib.hid e
        subst e
        clear hN hD hnr hq hn hbw hkr hp
        have hl10 := HRO.out.2.2.2.1
        have hsl := fun pre => sumN_le (M := MW) (fun y : Nx g R.ps => Nat.le_trans (wy_rch HRO.out.2.2.2.2 R.en.toNat (.step HN.out.rch (List.get_mem R.ps y.1) y.2)) HMM.out) pre
        have HSL := Lib.hid hsl
        clear hsl
        go_wp2_with fail
        go_loopw [8, 12, 13] (fun s8 s12 _ wv => ∃ i : Nat, i ≤ n ∧ s12 = .int .i64 i ∧ s8 = .int .i64 ((kk + sumN R.ps R.en.toNat g (nxTo g R.ps i) : Nat) : Int) ∧ EMem w R B wv) (fun _ s12 _ _ => n - (intOf s12).toNat)
        case atStart => exact ⟨0, Nat.zero_le _, rfl, by rw [nxTo_zero]; rfl, HD.out⟩
        case round =>
          obtain ⟨i, hin, rfl, rfl, hD⟩ := hrel
          have HDV := Lib.hid hD
          obtain ⟨wi, rfl⟩ : ∃ wi : World, wi = wr := ⟨_, rfl⟩
          obtain ⟨hbl, c0⟩ := HP.out _ hD
          obtain ⟨r0, r1, r2, r3⟩ := rdg_cells (R := R) hD.box
          have hlr := hD.box.lt
          have hi0 : (0 : Int) ≤ (i : Int) := Int.natCast_nonneg _
          have hslI := HSL.out (nxTo g R.ps i)
          have hnlI := nxTo_len g R.ps i
          by_cases hil : i < n
          · have hilp : i < R.ps.length := by omega
            have hq : R.ps[i]? = some R.ps[i] := List.getElem?_eq_getElem hilp
            obtain ⟨b2, off2, e2, hbl2, hc21, hc22, hp2⟩ := (HR.out.belowS hD.below).row.at hq
            have hget : R.ps.get ⟨i, hilp⟩ = R.ps[i] := rfl
            have hxo := HRO.out.2.2.2.2 _ (List.mem_of_getElem? hq)
            have hxm := List.mem_of_getElem? hq
            generalize R.ps[i] = x at *
            obtain ⟨p0, p1, p2, p3, p4⟩ := hp2
            have HX := Lib.hid (And.intro hq (And.intro hget hxm))
            have HXO := Lib.hid hxo
            have hi1 : (i : Int) < (n : Int) := by omega
            have hi2 : (i : Int) < (R.ps.length : Int) := by omega
            obtain ⟨q, hq'⟩ : ∃ q, kk + sumN R.ps R.en.toNat g (nxTo g R.ps i) = q := ⟨_, rfl⟩
            rw [hq']
            have HQQ := Lib.hid hq'
            have hqM : q ≤ MW * 11 := by
              have h10 : MW * (nxTo g R.ps i).length ≤ MW * 10 := Nat.mul_le_mul_left _ (by omega)
              omega
            rw [e2] at r3
            clear hD hq hget hxm hxo e2 hq' hslI hnlI
            go_upto_region 14 with fail
            have kX := Blk.new wi 54 #[.string x.name, .int .i64 x.wd, .int .i64 x.lf, .int .i64 x.rt, .int .i64 x.mr]
            have hbx : Below wi.heap.size wi (wi.alloc (.cells #[.string x.name, .int .i64 x.wd, .int .i64 x.lf, .int .i64 x.rt, .int .i64 x.mr] 54)) := (Below.refl _ _).alloc (Nat.le_refl _) _
            clear r0 r1 r2 r3 hlr p0 p1 p2 p3 p4 hbl2 hbl c0
            obtain ⟨Bx, hBx⟩ : ∃ Bx, wi.heap.size = Bx := ⟨_, rfl⟩
            have HDX := Lib.hid (HDV.out.after hbx)
            rw [hBx] at kX ⊢
            generalize wi.alloc (.cells #[.string x.name, .int .i64 x.wd, .int .i64 x.lf, .int .i64 x.rt, .int .i64 x.mr] 54) = wx at *
            obtain ⟨x0, x1, x2, x3, x4⟩ := pce_cells (x := x) kX
            have lX := kX.lt
            clear kX hbx hBx
            have hno : takB g x = false → nxTo g R.ps (i + 1) = nxTo g R.ps i := fun ht => nxTo_no hilp (by rw [HX.out.2.1, ht]; simp)
            have HNO := Lib.hid hno
            clear hno
            by_cases t1 : x.lf = (g.p : Int)
            rotate_left
            · have z : (x.lf == (g.p : Int)) = false := by simpa using t1
              have HF := Lib.hid (HNO.out (by simp [takB, t1]))
              clear t1
              go_wp2_with fail
              exact ⟨⟨i + 1, by omega, by simp, by rw [HF.out, HQQ.out], HDX.out⟩, by simp [intOf]; omega⟩
            have T1 := Lib.hid t1
            have z1 : (x.lf == (g.p : Int)) = true := by simpa using t1
            clear t1
            by_cases t2 : x.wd ≤ (g.n : Int)
            rotate_left
            · have HF := Lib.hid (HNO.out (by simp [takB]; intro _; omega))
              go_wp2_with fail
              exact ⟨⟨i + 1, by omega, by simp, by rw [HF.out, HQQ.out], HDX.out⟩, by simp [intOf]; omega⟩
            have ht : takB g x = true := takB_iff.2 ⟨T1.out, t2⟩
            have htg : takB g (R.ps.get ⟨i, hilp⟩) = true := by rw [HX.out.2.1]; exact ht
            have hyy : nxB g R.ps ⟨⟨i, hilp⟩, htg⟩ = behG g x := by simp only [nxB, HX.out.2.1]
            have hys := nxTo_yes (g := g) hilp htg
            have hrY : Rch R.ps R.top (behG g x) := .step HN.out.rch HX.out.2.2 ht
            have hwY : wy R.ps R.en.toNat (behG g x) ≤ MW := Nat.le_trans (wy_rch HRO.out.2.2.2.2 _ hrY) HMM.out
            have hYo := behG_ok HN.out.ok HXO.out
            have hYn : (behG g x).n ≤ R.top.n := (Rch.ok HRO.out.top HRO.out.2.2.2.2 hrY).2
            have tc := HDX.out.at (g := behG g x) (by have := hYo.2; omega) hYn hwY
            obtain ⟨⟨w1', w2'⟩, ⟨l1', l2'⟩, q1', q2'⟩ := HXO.out
            have hgn2 : g.n ≤ 2000 := HN.out.ok.1
            have eY : ((behG g x).n : Int) = (g.n : Int) - x.wd ∧ ((behG g x).p : Int) = x.rt := by simp only [behG]; omega
            have hsn : sumN R.ps R.en.toNat g (nxTo g R.ps (i + 1)) = sumN R.ps R.en.toNat g (nxTo g R.ps i) + wy R.ps R.en.toNat (behG g x) := by rw [hys, sumN_snoc, hyy]
            have hYp := hYo.2
            have HSN := Lib.hid hsn
            clear hsn hyy hys hrY hYo
            obtain ⟨Y, hY⟩ : ∃ Y, behG g x = Y := ⟨_, rfl⟩
            rw [hY] at HSN eY tc hYn hwY hYp
            obtain ⟨m, hm⟩ : ∃ m, wy R.ps R.en.toNat Y = m := ⟨_, rfl⟩
            rw [hm] at HSN tc hwY
            have es : IntKind.i64.wrap ((g.n : Int) - x.wd) = (Y.n : Int) := by rw [IntKind.wrap_i64]; omega
            rw [← eY.2] at x3
            have i5 : (Y.n : Int) < (R.top.n : Int) + 1 := by omega
            have i6 : (Y.p : Int) < 10 := by omega
            have i7 : (0 : Int) ≤ (Y.n : Int) := Int.natCast_nonneg _
            have i8 : (0 : Int) ≤ (Y.p : Int) := Int.natCast_nonneg _
            have tl := HDX.out.tab.lt
            have ea : IntKind.i64.wrap ((q : Int) + (m : Int)) = ((q + m : Nat) : Int) := by
              unfold MW at *
              rw [IntKind.wrap_i64]
              omega
            clear hY hm ht htg w1' w2' l1' l2' q1' q2' x0 x4 eY
            go_upto_region 15 with fail
            go_quiet (fail)
            have HDQ := Lib.hid (HDX.out.after (below_dn wx.heap.size wx nq))
            clear x1 x2 x3 lX tc tl
            generalize wx.drewN nq = wq at *
            go_wp2_with fail
            exact ⟨⟨i + 1, by omega, by simp, by rw [HSN.out, ← Nat.add_assoc, HQQ.out]; simp, HDQ.out⟩, by simp [intOf]; omega⟩
          · obtain rfl : i = n := by omega
            have hgn : ¬ (i : Int) < (i : Int) := by omega
            have hq : R.ps[i]? = some R.ps[i] := List.getElem?_eq_getElem hnl
            obtain ⟨b2, off2, e2, hbl2, hc21, hc22, hp2⟩ := (HR.out.belowS hD.below).row.at hq
            have hxo := HRO.out.2.2.2.2 _ (List.mem_of_getElem? hq)
            obtain ⟨y, hy, hyn⟩ := HN.out.can HQ.out
            have hyo : R.ps.get y.1 = R.ps[i] := by
              have h1 : R.ps[y.1.1]? = some (R.ps.get y.1) := List.getElem?_eq_getElem y.1.2
              rw [hyn, hq] at h1
              exact (Option.some.inj h1).symm
            have hN2 := HN.out.step HRO.out HQ.out y hyn
            have hyB : nxB g R.ps y = behG g R.ps[i] := by simp only [nxB, hyo]
            have hty : takB g R.ps[i] = true := by rw [← hyo]; exact y.2
            rw [hyB, show preN R.ps R.en.toNat y = sumN R.ps R.en.toNat g (nxTo g R.ps i) by unfold preN; rw [hyn]] at hN2
            generalize R.ps[i] = x at *
            have hta := takB_iff.1 hty
            obtain ⟨⟨w1', w2'⟩, ⟨l1', l2'⟩, q1', q2'⟩ := hxo
            have hgn2 : g.n ≤ 2000 := HN.out.ok.1
            have eY : ((behG g x).n : Int) = (g.n : Int) - x.wd ∧ ((behG g x).p : Int) = x.rt := by simp only [behG]; omega
            obtain ⟨Y, hY⟩ : ∃ Y, behG g x = Y := ⟨_, rfl⟩
            rw [hY] at hN2 eY
            have HN2 := Lib.hid hN2
            have HYY := Lib.hid eY
            have es : IntKind.i64.wrap ((g.n : Int) - x.wd) = (Y.n : Int) := by rw [IntKind.wrap_i64]; omega
            have ej : IntKind.i64.wrap ((j : Int) + 1) = ((j + 1 : Nat) : Int) := by rw [IntKind.wrap_i64]; omega
            have hi2 : (i : Int) < (R.ps.length : Int) := by omega
            obtain ⟨q, hq'⟩ : ∃ q, kk + sumN R.ps R.en.toNat g (nxTo g R.ps i) = q := ⟨_, rfl⟩
            rw [hq'] at HN2 ⊢
            obtain ⟨p0, p1, p2, p3, p4⟩ := hp2
            rw [e2] at r3
            have al := fun o => (Below.refl wi.heap.size wi).alloc (Nat.le_refl _) o
            have y3 : ∀ o, (wi.alloc o).cell? ⟨w.heap.size, 3, none⟩ = some (.slice (some ⟨b2, off2, none⟩) R.ps.length R.pc) := fun o => ((al o).cell (p := ⟨w.heap.size, 3, none⟩) hlr).trans r3
            have yc : ∀ o, (wi.alloc o).cell? ⟨b, off + j, none⟩ = some (.int .i64 (i : Int)) := fun o => ((al o).cell (p := ⟨b, off + j, none⟩) hbl).trans c0
            have z0 : ∀ o, (wi.alloc o).cell? ⟨b2, off2 + i * 5, none⟩ = some (.string x.name) := fun o => ((al o).cell (p := ⟨b2, off2 + i * 5, none⟩) hbl2).trans p0
            have z1 : ∀ o, (wi.alloc o).cell? ⟨b2, off2 + i * 5 + 1, none⟩ = some (.int .i64 x.wd) := fun o => ((al o).cell (p := ⟨b2, off2 + i * 5 + 1, none⟩) hbl2).trans p1
            have z2 : ∀ o, (wi.alloc o).cell? ⟨b2, off2 + i * 5 + 2, none⟩ = some (.int .i64 x.lf) := fun o => ((al o).cell (p := ⟨b2, off2 + i * 5 + 2, none⟩) hbl2).trans p2
            have z3 : ∀ o, (wi.alloc o).cell? ⟨b2, off2 + i * 5 + 3, none⟩ = some (.int .i64 x.rt) := fun o => ((al o).cell (p := ⟨b2, off2 + i * 5 + 3, none⟩) hbl2).trans p3
            have z4 : ∀ o, (wi.alloc o).cell? ⟨b2, off2 + i * 5 + 4, none⟩ = some (.int .i64 x.mr) := fun o => ((al o).cell (p := ⟨b2, off2 + i * 5 + 4, none⟩) hbl2).trans p4
            clear hD hq e2 hy hyn hyo hyB hty hta hN2 w1' w2' l1' l2' q1' q2' eY hY hq' al hslI hnlI hil hin r0 r1 r2
            go_upto_region 16 with fail
            go_region
            have kX := (Blk.new wi 54 #[.string x.name, .int .i64 x.wd, .int .i64 x.lf, .int .i64 x.rt, .int .i64 x.mr]).drew
            have hbx : Below wi.heap.size wi ((wi.alloc (.cells #[.string x.name, .int .i64 x.wd, .int .i64 x.lf, .int .i64 x.rt, .int .i64 x.mr] 54)).drew) := ((Below.refl _ _).alloc (Nat.le_refl _) _).drew
            clear r3 hlr p0 p1 p2 p3 p4 y3 yc z0 z1 z2 z3 z4 hbl hbl2 c0
            obtain ⟨Bx, hBx⟩ : ∃ Bx, wi.heap.size = Bx := ⟨_, rfl⟩
            have HDX := Lib.hid (HDV.out.after hbx)
            rw [hBx] at kX ⊢
            generalize (wi.alloc (.cells #[.string x.name, .int .i64 x.wd, .int .i64 x.lf, .int .i64 x.rt, .int .i64 x.mr] 54)).drew = wx at *
            obtain ⟨x0, x1, x2, x3, x4⟩ := pce_cells (x := x) kX
            rw [← HYY.out.2] at x3
            have lX := kX.lt
            clear kX hbx hBx
            go_upto_region 17 with fail
            go_quiet (fail)
            have HDQ := Lib.hid (HDX.out.after (below_dn wx.heap.size wx nq))
            clear x0 x1 x2 x3 x4 lX
            generalize wx.drewN nq = wq at *
            go_wp2_with fail
            exact ⟨⟨j + 1, Y, q, by omega, rfl, rfl, rfl, by simp, HN2.out, HDQ.out⟩, by simp [intOf]; omega⟩
end Go.Proofs.Ytmcmhgjlpffcnaa
