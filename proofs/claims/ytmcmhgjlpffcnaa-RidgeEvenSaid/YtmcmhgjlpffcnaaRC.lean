/- Nth of the specification. No condition but the bounds of what is given. -/
import Derived.Test.YtmcmhgjlpffcnaaRB
set_option linter.unusedSimpArgs false
namespace Go.Proofs.Ytmcmhgjlpffcnaa
open Go.RowKit

/-- The memory of the specification's Nth: the ridge, the table, the row that has been made. -/
structure DMem (w wl : World) (R : Rdg) (B : Nat) (a : Option Addr) (c : Nat) (l : List Int) (W : World) : Prop where
  below : Below w.heap.size w W
  size : wl.heap.size ≤ W.heap.size
  box : Blk W w.heap.size #[.int .i64 R.len, .int .i64 R.st, .int .i64 R.en, .slice R.pa R.ps.length R.pc] 24
  tab : TabR W B ((R.top.n + 1) * 10) (tabF R.ps R.en.toNat (R.top.n + 1) 0)
  own : W.ownsRow wl.heap.size 3 1 (.slice a l.length c) l.length (l.flatMap cellsI)
theorem DMem.after {w wl : World} {R : Rdg} {B : Nat} {a : Option Addr} {c : Nat} {l : List Int} {W W' : World} (h : DMem w wl R B a c l W) (hb : Below W.heap.size W W') : DMem w wl R B a c l W' :=
  ⟨h.below.trans (hb.mono h.below.size), Nat.le_trans h.size hb.size, h.box.belowS hb, h.tab.belowS hb, own_below h.own hb⟩
theorem TabR.kept {W W' : World} {B N : Nat} {F : Nat → Int} {row : Option Nat} (h : TabR W B N F) (hg : W.grownBy W' row) (hne : some B ≠ row) : TabR W' B N F := by obtain ⟨cs, h, h2⟩ := h; exact ⟨cs, h.kept hg hne, h2⟩
theorem DMem.push {w wl : World} {R : Rdg} {B : Nat} {a a' : Option Addr} {c c' : Nat} {l : List Int} {W W' : World} (h : DMem w wl R B a c l W) (hw : w.heap.size < wl.heap.size) (hB : B < wl.heap.size) (n : Int) (hg : W.grownBy W' (Value.slice a l.length c).ownBlock) (hown : W'.ownsRow wl.heap.size 3 1 (.slice a' (l.length + 1) c') (l.length + 1) (l.flatMap cellsI ++ [.int .i64 n])) :
    DMem w wl R B a' c' (l ++ [n]) W' := by
  have far : ∀ q, q < wl.heap.size → some q ≠ (Value.slice a l.length c).ownBlock := fun q hq e => by have := (own_lt h.own e.symm).1; omega
  refine ⟨h.below.grown hg h.below.size (fun k e => by have := (own_lt h.own e).1; omega), Nat.le_trans h.size hg.size, h.box.kept hg (far _ hw), h.tab.kept hg (far _ hB), ?_⟩
  rw [List.length_append, List.flatMap_append]
  exact hown
/-- A gap of the ridge in the table: its place, and in how many ways it can be filled. -/
theorem DMem.at {w wl : World} {R : Rdg} {B : Nat} {a : Option Addr} {c : Nat} {l : List Int} {W : World} (h : DMem w wl R B a c l W) {g : Gp} (hp : g.p < 10) (hn : g.n ≤ R.top.n) (hM : wy R.ps R.en.toNat g ≤ MW) : W.cell? ⟨B, g.n * 10 + g.p, none⟩ = some (.int .i64 (wy R.ps R.en.toNat g : Int)) := by
  have := h.tab.cell (i := g.n * 10 + g.p) (by omega)
  rwa [tab_whole hp hn, capN_le hM] at this

set_option maxRecDepth 100000 in
set_option maxHeartbeats 16000000 in
theorem refNth_any (R : Rdg) (k : Int) (w : World) (hR : IsRdg w R) (hbig : R.ps.length ≤ 1000000000) :
    Calls Try.prog 27 #[.agg #[.int .i64 R.len, .int .i64 R.st, .int .i64 R.en, .slice R.pa R.ps.length R.pc], .int .i64 k] w (ListEnd (nthE R k) (nthR R k.toNat) w) := by
  have k1 := Blk.new w 24 #[.int .i64 R.len, .int .i64 R.st, .int .i64 R.en, .slice R.pa R.ps.length R.pc]
  have hb1 : Below w.heap.size w (w.alloc (.cells #[.int .i64 R.len, .int .i64 R.st, .int .i64 R.en, .slice R.pa R.ps.length R.pc] 24)) := (Below.refl _ w).alloc (Nat.le_refl _) _
  have HR := Lib.hid hR
  clear hR
  go_enter Try.func27, Try.ntmps27
  go_upto_region 1 with fail
  generalize w.alloc (.cells #[.int .i64 R.len, .int .i64 R.st, .int .i64 R.en, .slice R.pa R.ps.length R.pc] 24) = w1 at *
  have K1 := Lib.hid k1
  have HB1 := Lib.hid hb1
  obtain ⟨r0, r1, r2, r3⟩ := rdg_cells (R := R) k1
  have hlr := k1.lt
  clear k1 hb1
  go_wp2_with fail
  refine (refCounted_any R _ (HR.out.belowS HB1.out) hbig).mono ?_
  rintro e w2 ⟨h, hb2⟩
  have K2 := Lib.hid (K1.out.belowS hb2)
  have HB2 := Lib.hid (HB1.out.trans (hb2.mono HB1.out.size))
  clear r0 r1 r2 r3 hlr hb2
  rcases h with ⟨hE, B, rfl, hB, hT⟩ | ⟨hE, rfl⟩
  rotate_left
  · have HE := Lib.hid hE
    have q : (waysE R == 0) = false := by simpa using hE
    have q2 : (waysE R != 0) = true := by simpa using hE
    have HV := Lib.hid (show nthE R k = waysE R by unfold nthE; rw [if_pos hE])
    obtain ⟨eR, hRR⟩ : ∃ eR, waysE R = eR := ⟨_, rfl⟩
    have HRR := Lib.hid hRR
    rw [hRR] at HE q q2 ⊢
    clear hE hRR
    go_upto_region 2 with fail
    go_quiet (fail)
    go_wp2_with fail
    refine bodyPost_ret (v := .tuple #[.slice none 0 0, .int .i64 eR]) (by simp [results, Try.results27, go_sem]) rfl ⟨none, 0, ?_, ?_, HB2.out.trans ((below_dn _ _ _).mono HB2.out.size)⟩
    · rw [HV.out, HRR.out, endL, if_neg HE.out]; rfl
    · rw [HV.out, HRR.out, endL, if_neg HE.out]; exact .inl rfl
  have hro := rdgE_ridge (waysE_zero hE).1
  have hM := (waysE_zero hE).2
  have hts : R.len = (R.top.n : Int) ∧ R.st = (R.top.p : Int) := by
    obtain ⟨⟨h1, h2⟩, ⟨h3, h4⟩, -⟩ := hro
    simp only [Rdg.top]
    omega
  have ht9 := hro.top
  obtain ⟨ht9a, ht9b⟩ := ht9
  obtain ⟨r0, r1, r2, r3⟩ := rdg_cells (R := R) K2.out
  rw [hts.1] at r0
  rw [hts.2] at r1
  have hlr := K2.out.lt
  have tc := hT.cell (i := R.top.n * 10 + R.top.p) (by omega)
  rw [tab_whole (g := R.top) (by omega) (Nat.le_refl _), capN_le (show wy R.ps R.en.toNat R.top ≤ MW from hM)] at tc
  have tl := hT.lt
  have i1 : (R.top.n : Int) < (R.top.n : Int) + 1 := by omega
  have i2 : (R.top.p : Int) < 10 := by omega
  have i3 : (0 : Int) ≤ (R.top.n : Int) := Int.natCast_nonneg _
  have i4 : (0 : Int) ≤ (R.top.p : Int) := Int.natCast_nonneg _
  have HRO := Lib.hid hro
  have HMM := Lib.hid hM
  have HT := Lib.hid hT
  have hMW : (wy R.ps R.en.toNat R.top : Int) ≤ 1000000000000000 := by have : wy R.ps R.en.toNat R.top ≤ MW := hM; unfold MW at this; omega
  have hwr : IntKind.i64.wrap ((wy R.ps R.en.toNat R.top : Int) - 1) = (wy R.ps R.en.toNat R.top : Int) - 1 := by rw [IntKind.wrap_i64]; omega
  have HNE := Lib.hid (show nthE R k = if isFromB k 0 ((wy R.ps R.en.toNat R.top : Int) - 1) = false then 1 else 0 by unfold nthE; rw [if_neg (by rw [hE]; simp)]; rfl)
  obtain ⟨cv, hcv⟩ : ∃ cv, wy R.ps R.en.toNat R.top = cv := ⟨_, rfl⟩
  rw [hcv] at tc hwr HNE hMW
  have HCV := Lib.hid hcv
  clear hT hE hM hro hts hcv
  go_upto_region 2 with fail
  cases hP : isFromB k 0 ((cv : Int) - 1) with
  | false =>
    have HP := Lib.hid hP
    have HV := Lib.hid (show nthE R k = 1 by rw [HNE.out, if_pos hP])
    clear hP
    go_quiet (first | (go_at_call 47; with_reducible refine Calls.quiet_of_same (refIn_is HP.out _)))
    go_wp2_with fail
    refine bodyPost_ret (v := .tuple #[.slice none 0 0, .int .i64 1]) (by simp [results, Try.results27, go_sem]) rfl ⟨none, 0, ?_, ?_, HB2.out.trans ((below_dn _ _ _).mono HB2.out.size)⟩
    · rw [HV.out]; rfl
    · rw [HV.out]; exact .inl rfl
  | true =>
    have HP := Lib.hid hP
    have HV := Lib.hid (show nthE R k = 0 by rw [HNE.out, if_neg (by rw [hP]; simp)])
    have hkr := isFromB_iff.1 hP
    obtain ⟨k0, rfl⟩ : ∃ k0 : Nat, k = (k0 : Int) := ⟨k.toNat, by omega⟩
    have HAT := Lib.hid (show NAt R k0 R.top k0 [] from ⟨HRO.out.top, .top, by rw [HCV.out]; omega, by simp [nthR], by simp⟩)
    clear hP hkr
    go_quiet (first | (go_at_call 47; with_reducible refine Calls.quiet_of_same (refIn_is HP.out _)))
    have hbq := below_dn w2.heap.size w2 nq
    have K3 := Lib.hid (K2.out.belowS hbq)
    have HB3 := Lib.hid (HB2.out.trans (hbq.mono HB2.out.size))
    have HT3 := Lib.hid (HT.out.belowS hbq)
    clear r0 r1 r2 r3 hlr tc tl hbq hwr
    generalize w2.drewN nq = w3 at *
    obtain ⟨r0, r1, r2, r3⟩ := rdg_cells (R := R) K3.out
    have hts : R.len = (R.top.n : Int) ∧ R.st = (R.top.p : Int) := by
      obtain ⟨⟨h1, h2⟩, ⟨h3, h4⟩, -⟩ := HRO.out
      simp only [Rdg.top]
      omega
    rw [hts.1] at r0
    rw [hts.2] at r1
    have hlr := K3.out.lt
    clear hts
    go_upto_region 7 with fail
    go_quiet (fail)
    have hbq := below_dn w3.heap.size w3 nq
    have hDM : DMem w (w3.drewN nq) R B none 0 [] (w3.drewN nq) := ⟨HB3.out.trans (hbq.mono HB3.out.size), Nat.le_refl _, K3.out.belowS hbq, HT3.out.belowS hbq, World.ownsRow_nil _ _ _ _⟩
    have HDM := Lib.hid hDM
    have hw : w.heap.size < (w3.drewN nq).heap.size := K3.out.lt
    have hBl : B < (w3.drewN nq).heap.size := HT3.out.lt
    clear r0 r1 r2 r3 hlr hbq hDM
    generalize w3.drewN nq = wl at *
    obtain ⟨i0, hi, hz0, hz1, hz2⟩ := info_int
    go_wp2_with fail
    go_loopw [1, 8, 9, 10, 11, 12, 13] (fun s1 s8 s9 s10 _ _ _ wr => ∃ (g : Gp) (kk : Nat) (l : List Int) (a : Option Addr) (c : Nat), s1 = .int .i64 kk ∧ s8 = .slice a l.length c ∧ s9 = .int .i64 g.n ∧ s10 = .int .i64 g.p ∧ NAt R k0 g kk l ∧ DMem w wl R B a c l wr) (fun _ _ s9 _ _ _ _ _ => (intOf s9).toNat)
    case atStart => exact ⟨R.top, k0, [], none, 0, rfl, rfl, rfl, rfl, HAT.out, HDM.out⟩
    case round =>
      obtain ⟨g, kk, l, a, c, rfl, rfl, rfl, rfl, hN, hD⟩ := hrel
      have HN := Lib.hid hN
      have HD := Lib.hid hD
      obtain ⟨wo, rfl⟩ : ∃ wo : World, wo = wr := ⟨_, rfl⟩
      by_cases h0 : g.n = 0
      · have g0 : ¬ (0 : Int) < (g.n : Int) := by omega
        have hrow := hN.row
        rw [nth_none R.ps R.en.toNat kk h0, List.append_nil] at hrow
        have HROWN := Lib.hid hrow
        clear hN hD h0 hrow
        go_wp2_with fail
        refine bodyPost_ret (v := .tuple #[.slice a l.length c, .int .i64 0]) (by simp [results, Try.results27, go_sem]) rfl ⟨a, c, ?_, ?_, HD.out.below⟩
        · rw [HV.out, ← HROWN.out]; rfl
        · rw [HV.out, ← HROWN.out]; exact isInts_own HD.out.own
      · have g0 : (0 : Int) < (g.n : Int) := by omega
        have HG0 := Lib.hid h0
        have hgn : g.n ≤ R.top.n := (Rch.ok HRO.out.top HRO.out.2.2.2.2 hN.rch).2
        have hkM : kk ≤ MW := Nat.le_of_lt (Nat.lt_of_lt_of_le hN.lt (Nat.le_trans (wy_rch HRO.out.2.2.2.2 _ hN.rch) HMM.out))
        have hll : l.length ≤ 2000 := by have := hN.len; omega
        clear hN hD h0
        go_wp2_with fail
        go_loopw [1, 8, 9, 10, 11, 12, 13] (fun s1 s8 s9 s10 s11 _ _ wv => ∃ i : Nat, i ≤ R.ps.length ∧ s11 = .int .i64 i ∧ s1 = .int .i64 ((kk - sumN R.ps R.en.toNat g (nxTo g R.ps i) : Nat) : Int) ∧ s8 = .slice a l.length c ∧ s9 = .int .i64 g.n ∧ s10 = .int .i64 g.p ∧ sumN R.ps R.en.toNat g (nxTo g R.ps i) ≤ kk ∧ DMem w wl R B a c l wv) (fun _ _ _ _ s11 _ _ _ => R.ps.length - (intOf s11).toNat)
        case atStart => exact ⟨0, Nat.zero_le _, rfl, by rw [nxTo_zero]; rfl, rfl, rfl, rfl, by rw [nxTo_zero]; exact Nat.zero_le _, HD.out⟩
        case round =>
          obtain ⟨i, hi', rfl, rfl, rfl, rfl, rfl, hsum, hD⟩ := hrel
          have HDV := Lib.hid hD
          have HSM := Lib.hid hsum
          obtain ⟨wi, rfl⟩ : ∃ wi : World, wi = wr := ⟨_, rfl⟩
          obtain ⟨r0, r1, r2, r3⟩ := rdg_cells (R := R) hD.box
          have hlr := hD.box.lt
          have hi0 : (0 : Int) ≤ (i : Int) := Int.natCast_nonneg _
          by_cases hil : i < R.ps.length
          rotate_left
          · obtain rfl : i = R.ps.length := by omega
            have h1 := wy_sum HRO.out.2.2.2.2 R.en.toNat HG0.out
            have h2 := HN.out.lt
            exact absurd (show sumN R.ps R.en.toNat g (nxL g R.ps) ≤ kk from hsum) (by omega)
          · have hq : R.ps[i]? = some R.ps[i] := List.getElem?_eq_getElem hil
            obtain ⟨b, off, e, hbl, hc1, hc2, hp⟩ := (HR.out.belowS hD.below).row.at hq
            have hget : R.ps.get ⟨i, hil⟩ = R.ps[i] := rfl
            have hxo := HRO.out.2.2.2.2 _ (List.mem_of_getElem? hq)
            have hxm := List.mem_of_getElem? hq
            generalize R.ps[i] = x at *
            obtain ⟨p0, p1, p2, p3, p4⟩ := hp
            have HQ := Lib.hid (And.intro hq (And.intro hget hxm))
            have HXO := Lib.hid hxo
            have HE := Lib.hid e
            have hi1 : (i : Int) < (R.ps.length : Int) := by omega
            obtain ⟨q, hq'⟩ : ∃ q, kk - sumN R.ps R.en.toNat g (nxTo g R.ps i) = q := ⟨_, rfl⟩
            rw [hq']
            have HQQ := Lib.hid hq'
            have hqM : q ≤ MW := by omega
            rw [e] at r3
            clear hD hq hget hxm hxo e hsum hq'
            go_upto_region 13 with fail
            have kX := Blk.new wi 54 #[.string x.name, .int .i64 x.wd, .int .i64 x.lf, .int .i64 x.rt, .int .i64 x.mr]
            have hbx : Below wi.heap.size wi (wi.alloc (.cells #[.string x.name, .int .i64 x.wd, .int .i64 x.lf, .int .i64 x.rt, .int .i64 x.mr] 54)) := (Below.refl _ _).alloc (Nat.le_refl _) _
            clear r0 r1 r2 r3 hlr p0 p1 p2 p3 p4 hbl
            obtain ⟨Bx, hBx⟩ : ∃ Bx, wi.heap.size = Bx := ⟨_, rfl⟩
            have HDX := Lib.hid (HDV.out.after hbx)
            rw [hBx] at kX ⊢
            generalize wi.alloc (.cells #[.string x.name, .int .i64 x.wd, .int .i64 x.lf, .int .i64 x.rt, .int .i64 x.mr] 54) = wx at *
            obtain ⟨x0, x1, x2, x3, x4⟩ := pce_cells (x := x) kX
            have lX := kX.lt
            have KX := Lib.hid kX
            clear kX hbx hBx
            have hno : takB g x = false → nxTo g R.ps (i + 1) = nxTo g R.ps i := fun ht => nxTo_no hil (by rw [HQ.out.2.1, ht]; simp)
            have HNO := Lib.hid hno
            clear hno
            by_cases t1 : x.lf = (g.p : Int)
            rotate_left
            · have z : (x.lf != (g.p : Int)) = true := by simpa using t1
              have HF := Lib.hid (HNO.out (by simp [takB, t1]))
              clear t1
              go_wp2_with fail
              exact ⟨⟨i + 1, by omega, by simp, by rw [HF.out, HQQ.out], rfl, rfl, rfl, by rw [HF.out]; exact HSM.out, HDX.out⟩, by simp [intOf]; omega⟩
            have T1 := Lib.hid t1
            have z1 : (x.lf != (g.p : Int)) = false := by simpa using t1
            clear t1
            by_cases t2 : x.wd ≤ (g.n : Int)
            rotate_left
            · have z : (g.n : Int) < x.wd := by omega
              have HF := Lib.hid (HNO.out (by simp [takB]; intro _; omega))
              clear t2
              go_wp2_with fail
              exact ⟨⟨i + 1, by omega, by simp, by rw [HF.out, HQQ.out], rfl, rfl, rfl, by rw [HF.out]; exact HSM.out, HDX.out⟩, by simp [intOf]; omega⟩
            have z2 : ¬ (g.n : Int) < x.wd := by omega
            have ht : takB g x = true := takB_iff.2 ⟨T1.out, t2⟩
            have htg : takB g (R.ps.get ⟨i, hil⟩) = true := by rw [HQ.out.2.1]; exact ht
            have hyy : nxB g R.ps ⟨⟨i, hil⟩, htg⟩ = behG g x := by simp only [nxB, HQ.out.2.1]
            have hys := nxTo_yes (g := g) hil htg
            have hrY : Rch R.ps R.top (behG g x) := .step HN.out.rch HQ.out.2.2 ht
            have hwY : wy R.ps R.en.toNat (behG g x) ≤ MW := Nat.le_trans (wy_rch HRO.out.2.2.2.2 _ hrY) HMM.out
            have hYo := behG_ok HN.out.ok HXO.out
            have hYn : (behG g x).n ≤ R.top.n := (Rch.ok HRO.out.top HRO.out.2.2.2.2 hrY).2
            have tc := HDX.out.at (g := behG g x) (by have := hYo.2; omega) hYn hwY
            have hlt2 : (behG g x).n < g.n := behG_lt HXO.out ht
            obtain ⟨⟨w1', w2'⟩, ⟨l1', l2'⟩, q1', q2'⟩ := HXO.out
            have eY : ((behG g x).n : Int) = (g.n : Int) - x.wd ∧ ((behG g x).p : Int) = x.rt := by simp only [behG]; omega
            have hsn : sumN R.ps R.en.toNat g (nxTo g R.ps (i + 1)) = sumN R.ps R.en.toNat g (nxTo g R.ps i) + wy R.ps R.en.toNat (behG g x) := by rw [hys, sumN_snoc, hyy]
            have hpick := fun (h1 : sumN R.ps R.en.toNat g (nxTo g R.ps i) ≤ kk) (h2 : kk - sumN R.ps R.en.toNat g (nxTo g R.ps i) < wy R.ps R.en.toNat (behG g x)) => HN.out.step HRO.out HG0.out ⟨⟨i, hil⟩, htg⟩ h1 (by rw [hyy]; exact h2)
            rw [hyy] at hpick
            have hpk2 : ∀ (h1 : q < wy R.ps R.en.toNat (behG g x)), NAt R k0 (behG g x) q (l ++ [(i : Int)]) := fun h1 => by
              have := hpick HSM.out (by rw [HQQ.out]; exact h1)
              rwa [show preN R.ps R.en.toNat (⟨⟨i, hil⟩, htg⟩ : Nx g R.ps) = sumN R.ps R.en.toNat g (nxTo g R.ps i) from rfl, HQQ.out] at this
            have HPK := Lib.hid hpk2
            have HSN := Lib.hid hsn
            clear hpick hpk2 hsn hyy hys hrY hYo
            obtain ⟨Y, hY⟩ : ∃ Y, behG g x = Y := ⟨_, rfl⟩
            rw [hY] at HPK HSN eY tc hYn hwY hlt2
            obtain ⟨m, hm⟩ : ∃ m, wy R.ps R.en.toNat Y = m := ⟨_, rfl⟩
            rw [hm] at HPK HSN tc hwY
            have es : IntKind.i64.wrap ((g.n : Int) - x.wd) = (Y.n : Int) := by rw [IntKind.wrap_i64]; omega
            rw [← eY.2] at x3
            have i5 : (Y.n : Int) < (R.top.n : Int) + 1 := by omega
            have i6 : (Y.p : Int) < 10 := by omega
            have i7 : (0 : Int) ≤ (Y.n : Int) := Int.natCast_nonneg _
            have i8 : (0 : Int) ≤ (Y.p : Int) := Int.natCast_nonneg _
            have tl := HDX.out.tab.lt
            have hYlt := hlt2
            have HYY := Lib.hid eY
            unfold MW at hwY hqM
            clear hY hm ht htg t2 w1' w2' l1' l2' q1' q2' x0 x4 eY
            go_upto_region 14 with fail
            go_quiet (fail)
            have hbq := below_dn wx.heap.size wx nq
            have HDQ := Lib.hid (HDX.out.after hbq)
            have KXQ := Lib.hid (KX.out.belowS hbq)
            clear x1 x2 x3 lX tc tl hbq
            generalize wx.drewN nq = wq at *
            by_cases hqm : q < m
            · have g1 : (q : Int) < (m : Int) := by omega
              have hmx : l.length + 1 ≤ maxLen := by unfold maxLen; omega
              have kE := Blk.new wq 3 #[.int .i64 (i : Int)]
              have hb3 : Below wq.heap.size wq (wq.alloc (.cells #[.int .i64 (i : Int)] 3)) := (Below.refl _ wq).alloc (Nat.le_refl _) _
              have HD3 := Lib.hid (HDQ.out.after hb3)
              have KX3 := Lib.hid (KXQ.out.belowS hb3)
              have HNAT := Lib.hid (HPK.out hqm)
              have hbs : wl.heap.size ≤ (wq.alloc (.cells #[.int .i64 (i : Int)] 3)).heap.size := HD3.out.size
              have hbnx : some Bx ≠ (Value.slice a l.length c).ownBlock := fun e => by
                obtain ⟨_, _, cs, hcs⟩ := own_lt HD3.out.own e.symm
                rw [show (wq.alloc (.cells #[.int .i64 (i : Int)] 3)).heap[Bx]? = _ from KX3.out] at hcs
                cases hcs
              have HBNX := Lib.hid hbnx
              clear hb3 hqm hbnx
              go_upto_region 17 with (at_builtin; refine wpList_append_lies _ rfl _ _ 25 rfl wl.heap.size 3 i0 (.int .i64 0) 1 8 Try.underlying25 hi hz0 hz1 hz2 rfl (by decide) (.slice a l.length c) l.length _ rfl HD3.out.own ⟨wq.heap.size, 0, none⟩ 1 1 [.int .i64 (i : Int)] rfl rfl (World.news_of_block kE) (by simp [Value.oneCell']) (by decide) hmx (by omega) hbs _ rfl ?_; intro gg cap w6 hown6 hgrow hat hlt6; have HP6 := Lib.hid (HD3.out.push hw hBl (i : Int) hgrow hown6); have KX6 := Lib.hid (KX3.out.kept hgrow HBNX.out); clear hown6 hgrow hat hlt6 kE)
              have x1 : w6.cell? ⟨Bx, 1, none⟩ = some (.int .i64 x.wd) := KX6.out.cell 1
              have x3 : w6.cell? ⟨Bx, 3, none⟩ = some (.int .i64 x.rt) := KX6.out.cell 3
              rw [← HYY.out.2] at x3
              have lX := KX6.out.lt
              go_quiet (fail)
              have HP7 := Lib.hid (HP6.out.after (below_dn w6.heap.size w6 nq))
              clear x1 x3 lX
              generalize w6.drewN nq = w7 at *
              go_wp2_with fail
              exact ⟨⟨Y, q, l ++ [(i : Int)], some ⟨gg, 0, none⟩, cap, rfl, by simp, rfl, rfl, HNAT.out, HP7.out⟩, by simp [intOf]; omega⟩
            · have g1 : ¬ (q : Int) < (m : Int) := by omega
              have ew : IntKind.i64.wrap ((q : Int) - (m : Int)) = ((q - m : Nat) : Int) := by rw [IntKind.wrap_i64]; omega
              have hs1 : sumN R.ps R.en.toNat g (nxTo g R.ps (i + 1)) ≤ kk ∧ kk - sumN R.ps R.en.toNat g (nxTo g R.ps (i + 1)) = q - m := by
                have h1 := HSN.out
                have h2 := HQQ.out
                have h3 := HSM.out
                omega
              have HS1 := Lib.hid hs1
              clear hs1
              go_wp2_with fail
              exact ⟨⟨i + 1, by omega, by simp, by rw [HS1.out.2], rfl, rfl, rfl, HS1.out.1, HDQ.out⟩, by simp [intOf]; omega⟩
end Go.Proofs.Ytmcmhgjlpffcnaa
