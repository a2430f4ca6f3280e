/- RidgeNeeds' walk. No condition but the bounds of a number. -/
import Derived.Test.YtmcmhgjlpffcnaaQW
set_option linter.unusedSimpArgs false
namespace Go.Proofs.Ytmcmhgjlpffcnaa
open Go.RowKit

/-! ### Sums over what a row needs -/
def dotF (f : Nat → Int) (l : List Int) : Nat → Int
  | 0 => 0
  | i + 1 => dotF f l i + l.getD i 0 * f i
theorem dot_zero (f : Nat → Int) (k : Nat) : ∀ i, dotF f (List.replicate k 0) i = 0
  | 0 => rfl
  | i + 1 => by
    have h : (List.replicate k (0 : Int)).getD i 0 = 0 := by
      rw [List.getD_eq_getElem?_getD, List.getElem?_replicate]
      split <;> rfl
    rw [dotF, dot_zero f k i, h]
    simp
theorem getD_needS (l : List Int) (n i : Nat) (hn : n < l.length) : (needS l (n : Int)).getD i 0 = l.getD i 0 + if i = n then 1 else 0 := by
  simp only [needS, Int.toNat_natCast, List.getD_eq_getElem?_getD, List.getElem?_set]
  by_cases e : n = i
  · subst e
    rw [if_pos rfl, if_pos hn, if_pos rfl]
    simp
  · rw [if_neg e, if_neg (fun h => e h.symm)]
    simp
theorem dot_needS (f : Nat → Int) (l : List Int) (n : Nat) (hn : n < l.length) : ∀ i, dotF f (needS l (n : Int)) i = dotF f l i + if n < i then f n else 0
  | 0 => by simp [dotF]
  | i + 1 => by
    rw [dotF, dotF, dot_needS f l n hn i, getD_needS l n i hn]
    by_cases e : i = n
    · subst e
      rw [if_pos rfl, if_neg (by omega), if_pos (by omega), Int.add_mul, Int.one_mul]
      omega
    · rw [if_neg e, Int.add_zero]
      by_cases h : n < i
      · rw [if_pos h, if_pos (by omega)]; omega
      · rw [if_neg h, if_neg (by omega)]; omega
theorem dot_needF (f : Nat → Int) : ∀ (row : List Int) (l : List Int), (∀ n ∈ row, 0 ≤ n ∧ n < (l.length : Int)) → dotF f (row.foldl needS l) l.length = dotF f l l.length + (row.map fun n => f n.toNat).sum := by
  intro row
  induction row with
  | nil => intro l _; simp
  | cons n row ih =>
    intro l h
    obtain ⟨m, rfl⟩ : ∃ m : Nat, n = (m : Int) := ⟨n.toNat, by have := h n (by simp); omega⟩
    have hm : m < l.length := by have := h _ (List.mem_cons_self); omega
    have hl : (needS l (m : Int)).length = l.length := needS_len _ _
    have h1 := ih (needS l (m : Int)) (fun n hn => by rw [hl]; exact h n (List.mem_cons_of_mem _ hn))
    rw [hl] at h1
    rw [List.foldl_cons, h1, dot_needS f l m hm, if_pos hm, List.map_cons, List.sum_cons, Int.toNat_natCast]
    omega
theorem dot_need (f : Nat → Int) {ps : List Pce} {row : List Int} (h : InR ps row) : dotF f (needL ps.length row) ps.length = (row.map fun n => f n.toNat).sum := by
  have h1 := dot_needF f row (List.replicate ps.length 0) (fun n hn => by rw [List.length_replicate]; exact h n hn)
  rw [List.length_replicate, dot_zero] at h1
  rw [needL, h1]
  omega
def wdN (ps : List Pce) (i : Nat) : Int := match ps[i]? with | some x => x.wd | none => 0
theorem run_wd {ps : List Pce} (hps : ∀ x ∈ ps, x.ok) : ∀ (row : List Int) (g h : Gp), runG ps g row = some h → (row.map fun n => wdN ps n.toNat).sum = (g.n : Int) - (h.n : Int) := by
  intro row
  induction row with
  | nil =>
    intro g h e
    obtain rfl : g = h := by simpa [runG] using e
    simp
  | cons a row ih =>
    intro g h e
    rw [runG, List.foldlM_cons] at e
    cases hs : stepG ps g a with
    | none => rw [hs] at e; cases e
    | some g2 =>
      rw [hs] at e
      obtain ⟨x, _, hx, ht, rfl⟩ := stepG_some hs
      have h1 := ih _ _ (show runG ps (behG g x) row = some h from e)
      obtain ⟨⟨w1, w2⟩, -⟩ := hps x (List.mem_of_getElem? hx)
      obtain ⟨t1, t2⟩ := takB_iff.1 ht
      rw [List.map_cons, List.sum_cons, h1, wdN, hx]
      simp only [behG]
      omega
theorem sum_ones : ∀ row : List Int, (row.map fun _ => (1 : Int)).sum = row.length
  | [] => rfl
  | _ :: row => by rw [List.map_cons, List.sum_cons, sum_ones row, List.length_cons]; omega
theorem dot_mono (f : Nat → Int) (l : List Int) (hf : ∀ i, 0 ≤ f i) (hl : ∀ i, 0 ≤ l.getD i 0) (i : Nat) : ∀ d, dotF f l i ≤ dotF f l (i + d)
  | 0 => Int.le_refl _
  | d + 1 => by
    have h1 := dot_mono f l hf hl i d
    have h2 := Int.mul_nonneg (hl (i + d)) (hf (i + d))
    show _ ≤ dotF f l (i + d) + l.getD (i + d) 0 * f (i + d)
    omega
theorem dot_pos (f : Nat → Int) (l : List Int) (hf : ∀ i, 0 ≤ f i) (hl : ∀ i, 0 ≤ l.getD i 0) (i : Nat) : 0 ≤ dotF f l i := by
  have := dot_mono f l hf hl 0 i
  rw [Nat.zero_add] at this
  exact this
/-- What a row that fits needs. -/
structure NeedOk (R : Rdg) (row L : List Int) : Prop where
  len : L.length = R.ps.length
  rowlen : row.length ≤ 2000
  bd : ∀ i, 0 ≤ L.getD i 0 ∧ L.getD i 0 ≤ (row.length : Int)
  long : dotF (wdN R.ps) L R.ps.length = R.len
  many : dotF (fun _ => 1) L R.ps.length = (row.length : Int)
theorem need_ok {R : Rdg} {row : List Int} (hR : R.ok) (h : fitsB R row = true) : NeedOk R row (needL R.ps.length row) := by
  have hrun := fitsB_iff.1 h
  have hin := fits_in h
  have hw := nth_wd hR.2.2.2.2 row _ _ hrun
  have ht := hR.top.1
  refine ⟨needL_len _ _, by omega, fun i => ?_, ?_, ?_⟩
  · have := needL_bd R.ps.length row row.length i
    rwa [List.take_of_length_le (Nat.le_refl _)] at this
  · rw [dot_need (wdN R.ps) hin, run_wd hR.2.2.2.2 row _ _ hrun]
    have := hR.1
    simp only [Rdg.top]
    omega
  · rw [dot_need (fun _ => 1) hin]
    exact sum_ones row
theorem wdN_nn {R : Rdg} (hR : R.ok) (i : Nat) : 0 ≤ wdN R.ps i := by
  unfold wdN
  split
  · rename_i x hx
    have := (hR.2.2.2.2 x (List.mem_of_getElem? hx)).1
    omega
  · omega

set_option maxRecDepth 100000 in
set_option maxHeartbeats 16000000 in
theorem needsLaw_any (R : Rdg) (k : Int) (w : World) (hR : IsRdg w R) (hk : (Lit.int .i64 k).wf = true) :
    Calls Try.prog 12 #[.agg #[.int .i64 R.len, .int .i64 R.st, .int .i64 R.en, .slice R.pa R.ps.length R.pc], .int .i64 k] w fun e w' => e = .returned (.bool true) ∧ Below w.heap.size w w' := by
  have k1 := Blk.new w 24 #[.int .i64 R.len, .int .i64 R.st, .int .i64 R.en, .slice R.pa R.ps.length R.pc]
  have hb1 : Below w.heap.size w (w.alloc (.cells #[.int .i64 R.len, .int .i64 R.st, .int .i64 R.en, .slice R.pa R.ps.length R.pc] 24)) := (Below.refl _ w).alloc (Nat.le_refl _) _
  have HR := Lib.hid hR
  have HK := Lib.hid (i64_le hk)
  clear hR hk
  go_enter Try.func12, Try.ntmps12
  go_upto_region 1 with fail
  generalize w.alloc (.cells #[.int .i64 R.len, .int .i64 R.st, .int .i64 R.en, .slice R.pa R.ps.length R.pc] 24) = w1 at *
  have K1 := Lib.hid k1
  have HB1 := Lib.hid hb1
  obtain ⟨r0, r1, r2, r3⟩ := rdg_cells (R := R) k1
  have hlr := k1.lt
  clear k1 hb1
  go_wp2_with fail
  refine (great_any R _ (HR.out.belowS HB1.out)).mono ?_
  rintro e w2 ⟨b, rfl, hb, hb2⟩
  have K2 := Lib.hid (K1.out.belowS hb2)
  have HB2 := Lib.hid (HB1.out.trans (hb2.mono HB1.out.size))
  clear r0 r1 r2 r3 hlr hb2
  obtain ⟨r0, r1, r2, r3⟩ := rdg_cells (R := R) K2.out
  have hlr := K2.out.lt
  cases b with
  | true =>
    clear hb
    go_wp2_with fail
    refine (lives_any _).mono ?_
    rintro e w9 ⟨rfl, hb9⟩
    have HB9 := Lib.hid (HB2.out.trans (hb9.mono HB2.out.size))
    clear hb9
    go_wp2_with fail
    go_ret
    exact ⟨rfl, HB9.out⟩
  | false =>
    obtain ⟨hps, -⟩ := hb rfl
    clear hb
    go_wp2_with fail
    refine (some_any R k _ (HR.out.belowS HB2.out) (by omega) HK.out).mono ?_
    rintro e w3 ⟨rfl, hb3⟩
    have K3 := Lib.hid (K2.out.belowS hb3)
    have HB3 := Lib.hid (HB2.out.trans (hb3.mono HB2.out.size))
    clear r0 r1 r2 r3 hlr hb3
    obtain ⟨r0, r1, r2, r3⟩ := rdg_cells (R := R) K3.out
    have hlr := K3.out.lt
    cases hs : someB R k with
    | false =>
      generalize someV R k = v at *
      clear hs
      go_wp2_with fail
      refine (lives_any _).mono ?_
      rintro e w9 ⟨rfl, hb9⟩
      have HB9 := Lib.hid (HB3.out.trans (hb9.mono HB3.out.size))
      clear hb9
      go_wp2_with fail
      go_ret
      exact ⟨rfl, HB9.out⟩
    | true =>
      obtain ⟨m, hrow, hv⟩ := HasRow.of_some hs
      rw [hv]
      have HH := Lib.hid hrow
      clear hs hv hrow
      go_wp2_with fail
      refine (nthOk_any R m _ (HR.out.belowS HB3.out) (by omega) HH.out).mono ?_
      rintro e w4 ⟨a4, c4, rfl, hi4, hb4⟩
      have K4 := Lib.hid (K3.out.belowS hb4)
      have HB4 := Lib.hid (HB3.out.trans (hb4.mono HB3.out.size))
      have hnd := needsPub_any R a4 c4 (nthR R m) w4 (HR.out.belowS HB4.out) (by omega) hi4
      have hE0 : needE R (nthR R m) = 0 := by unfold needE; rw [if_neg (by rw [HH.out.rdg]; simp), if_neg (by rw [HH.out.fits]; simp)]
      have hV0 : needV R (nthR R m) = needL R.ps.length (nthR R m) := by unfold needV; rw [if_pos hE0]
      unfold NeedSaid at hnd
      rw [hE0, hV0] at hnd
      have hok := need_ok HH.out.ok HH.out.fits
      obtain ⟨row, hrw⟩ : ∃ row, nthR R m = row := ⟨_, rfl⟩
      rw [hrw] at hnd hok ⊢
      obtain ⟨L, hL⟩ : ∃ L, needL R.ps.length row = L := ⟨_, rfl⟩
      rw [hL] at hnd hok
      have HN := Lib.hid hnd
      have HOK := Lib.hid hok
      clear r0 r1 r2 r3 hlr hb4 hi4 hL hrw hnd hE0 hV0 hok
      obtain ⟨r0, r1, r2, r3⟩ := rdg_cells (R := R) K4.out
      have hlr := K4.out.lt
      go_wp2_with fail
      refine HN.out.mono ?_
      rintro e w5 ⟨a5, c5, rfl, hi5, hb5⟩
      have K5 := Lib.hid (K4.out.belowS hb5)
      have HB5 := Lib.hid (HB4.out.trans (hb5.mono HB4.out.size))
      have HI5 := Lib.hid hi5
      clear r0 r1 r2 r3 hlr hb5 hi5 HN
      obtain ⟨r0, r1, r2, r3⟩ := rdg_cells (R := R) K5.out
      have hlr := K5.out.lt
      rw [HOK.out.len]
      have hpp : ((R.ps.length : Int) != (R.ps.length : Int)) = false := by simp
      go_wp2_with fail
      clear r0 r1 r2 r3 hlr hpp
      obtain ⟨wl, rfl⟩ : ∃ wl : World, wl = w5 := ⟨_, rfl⟩
      go_loopw [11, 12, 13] (fun s t i wr => ∃ j : Nat, j ≤ R.ps.length ∧ i = .int .i64 j ∧ s = .int .i64 (dotF (wdN R.ps) L j) ∧ t = .int .i64 (dotF (fun _ => 1) L j) ∧ Blk wr w.heap.size #[.int .i64 R.len, .int .i64 R.st, .int .i64 R.en, .slice R.pa R.ps.length R.pc] 24 ∧ Below wl.heap.size wl wr) (fun _ _ i _ => R.ps.length - (intOf i).toNat)
      case atStart => exact ⟨0, Nat.zero_le _, rfl, rfl, rfl, K5.out, Below.refl _ _⟩
      case round =>
        obtain ⟨j, hj, rfl, rfl, rfl, hkr, hbr⟩ := hrel
        have hj0 : (0 : Int) ≤ (j : Int) := Int.natCast_nonneg _
        have HBW := Lib.hid (HB5.out.trans (hbr.mono HB5.out.size))
        have HKR := Lib.hid hkr
        have HBR := Lib.hid hbr
        obtain ⟨wo, rfl⟩ : ∃ wo : World, wo = wr := ⟨_, rfl⟩
        by_cases hlj : j < R.ps.length
        · have hq : R.ps[j]? = some R.ps[j] := List.getElem?_eq_getElem hlj
          obtain ⟨b, off, e, hbl, hc1, hc2, hp⟩ := (HR.out.belowS HBW.out).row.at hq
          have hwd : wdN R.ps j = R.ps[j].wd := by simp [wdN, hq]
          generalize R.ps[j] = x at *
          have hlL : j < L.length := by rw [HOK.out.len]; exact hlj
          have hql : L[j]? = some L[j] := List.getElem?_eq_getElem hlL
          obtain ⟨b5, off5, e5, hbl5, hc51, hc52, hp5⟩ := (HI5.out.belowS hbr).at hql
          have hgd : L.getD j 0 = L[j] := by rw [List.getD_eq_getElem?_getD, hql]; rfl
          have hbd := HOK.out.bd j
          have hnn := wdN_nn HH.out.ok
          have hbn : ∀ i, 0 ≤ L.getD i 0 := fun i => (HOK.out.bd i).1
          have m1 := dot_mono (wdN R.ps) L hnn hbn (j + 1) (R.ps.length - (j + 1))
          have m2 := dot_mono (fun _ => 1) L (fun _ => by decide) hbn (j + 1) (R.ps.length - (j + 1))
          have m3 := dot_pos (wdN R.ps) L hnn hbn j
          have m4 := dot_pos (fun _ => 1) L (fun _ => by decide) hbn j
          rw [show j + 1 + (R.ps.length - (j + 1)) = R.ps.length by omega] at m1 m2
          rw [HOK.out.long] at m1
          rw [HOK.out.many] at m2
          have s1 : dotF (wdN R.ps) L (j + 1) = dotF (wdN R.ps) L j + L.getD j 0 * wdN R.ps j := rfl
          have s2 : dotF (fun _ => 1) L (j + 1) = dotF (fun _ => 1) L j + L.getD j 0 * 1 := rfl
          rw [hgd] at s1 s2 hbd
          rw [hwd] at s1
          have hpn : 0 ≤ L[j] * x.wd := by rw [← hwd]; exact Int.mul_nonneg hbd.1 (hnn j)
          have c0 : wo.cell? ⟨b5, off5 + j * 1, none⟩ = some (.int .i64 L[j]) := hp5
          rw [Nat.mul_one] at c0
          generalize L[j] = v at *
          have hl2 := HH.out.ok.1
          have hrl := HOK.out.rowlen
          obtain ⟨D1, hD1⟩ : ∃ D, dotF (wdN R.ps) L j = D := ⟨_, rfl⟩
          obtain ⟨D2, hD2⟩ : ∃ D, dotF (fun _ => 1) L j = D := ⟨_, rfl⟩
          rw [hD1] at s1 m3 ⊢
          rw [hD2] at s2 m4 ⊢
          obtain ⟨PR, hPR⟩ : ∃ PR, v * x.wd = PR := ⟨_, rfl⟩
          have e1 : IntKind.i64.wrap (v * x.wd) = v * x.wd := by rw [hPR] at hpn s1 ⊢; rw [IntKind.wrap_i64]; omega
          have e2 : IntKind.i64.wrap (D1 + v * x.wd) = D1 + v * x.wd := by rw [hPR] at hpn s1 ⊢; rw [IntKind.wrap_i64]; omega
          have e3 : IntKind.i64.wrap (D2 + v) = D2 + v := by rw [IntKind.wrap_i64]; omega
          have e4 : IntKind.i64.wrap ((j : Int) + 1) = ((j + 1 : Nat) : Int) := by rw [IntKind.wrap_i64]; omega
          have p1 : wo.cell? ⟨b, off + j * 5 + 1, none⟩ = some (.int .i64 x.wd) := hp.2.1
          obtain ⟨r0, r1, r2, r3⟩ := rdg_cells (R := R) hkr
          have hlr := hkr.lt
          rw [e] at r3
          have HE := Lib.hid (And.intro e e5)
          have HS := Lib.hid (show dotF (wdN R.ps) L (j + 1) = D1 + v * x.wd ∧ dotF (fun _ => 1) L (j + 1) = D2 + v from ⟨s1, by rw [s2]; omega⟩)
          have v1 : ¬ v < 0 := by omega
          have v2 : ¬ (row.length : Int) < v := by omega
          have hj1 : (j : Int) < (R.ps.length : Int) := by omega
          have hjc : (j : Int) < (c5 : Int) := by omega
          subst e5
          clear hq e hp hp5 hql hgd hbd hnn hbn m1 m2 m3 m4 s1 s2 hpn hD1 hD2 hPR hwd hkr hbr hl2 hrl
          go_upto_region 16 with fail
          go_quiet (fail)
          have hbq : Below wo.heap.size wo (wo.drewN nq) := below_dn _ _ _
          have HKQ := Lib.hid (HKR.out.belowS hbq)
          have HBQ := Lib.hid (HBR.out.trans (hbq.mono HBR.out.size))
          have c1 : (wo.drewN nq).cell? ⟨b5, off5 + j, none⟩ = some (.int .i64 v) := c0
          clear c0 p1 r0 r1 r2 r3 hlr hbq
          generalize wo.drewN nq = wq at *
          go_wp2_with fail
          exact ⟨⟨j + 1, by omega, by simp, by rw [HS.out.1], by rw [HS.out.2], HKQ.out, HBQ.out⟩, by simp [intOf]; omega⟩
        · obtain rfl : j = R.ps.length := by omega
          obtain ⟨r0, r1, r2, r3⟩ := rdg_cells (R := R) hkr
          have hlr := hkr.lt
          rw [HOK.out.long, HOK.out.many]
          have q1 : (R.len == R.len) = true := by simp
          have q2 : ((row.length : Int) == (row.length : Int)) = true := by simp
          have hjj : ¬ (R.ps.length : Int) < (R.ps.length : Int) := by omega
          clear hkr hbr hlj hj
          go_wp2_with fail
          refine (lives_any _).mono ?_
          rintro e w9 ⟨rfl, hb9⟩
          have HB9 := Lib.hid (HBW.out.trans (hb9.mono HBW.out.size))
          clear hb9
          go_wp2_with fail
          go_ret
          exact ⟨rfl, HB9.out⟩
end Go.Proofs.Ytmcmhgjlpffcnaa
