/- RidgeRanks' walk. No condition but the bounds of a number. -/
import Derived.Test.YtmcmhgjlpffcnaaQV
set_option linter.unusedSimpArgs false
namespace Go.Proofs.Ytmcmhgjlpffcnaa
open Go.RowKit

theorem i64_le {n : Int} (h : (Lit.int .i64 n).wf = true) : n ≤ 9223372036854775807 := by
  simp only [Lit.wf, Bool.and_eq_true, decide_eq_true_eq] at h
  have h2 : IntKind.i64.max = 9223372036854775807 := by decide
  omega
def OkList (L : List Int) (w : World) (e : Ending) (w' : World) : Prop := ∃ a c, e = .returned (.tuple #[.slice a L.length c, .int .i64 0]) ∧ IsInts w' a c L ∧ Below w.heap.size w w'
def NoList (w : World) (e : Ending) (w' : World) : Prop := ∃ a c, e = .returned (.tuple #[.slice a 0 c, .int .i64 1]) ∧ Below w.heap.size w w'
/-- What is known of a ridge that has rows, and of the number of one. -/
structure HasRow (R : Rdg) (m : Nat) : Prop where
  ways : waysE R = 0
  lt : m < waysN R
theorem HasRow.rdg {R : Rdg} {m : Nat} (h : HasRow R m) : rdgE R = 0 := (waysE_zero h.ways).1
theorem HasRow.ok {R : Rdg} {m : Nat} (h : HasRow R m) : R.ok := rdgE_ridge h.rdg
theorem HasRow.fits {R : Rdg} {m : Nat} (h : HasRow R m) : fitsB R (nthR R m) = true := fitsB_iff.2 (nth_run h.ok.2.2.2.2 _ _ _ _ (Nat.le_refl _) h.lt)
theorem HasRow.fitsV {R : Rdg} {m : Nat} (h : HasRow R m) : fitsV R (nthR R m) = true := by unfold Go.Proofs.Ytmcmhgjlpffcnaa.fitsV; rw [if_pos h.rdg]; exact h.fits
theorem HasRow.rank {R : Rdg} {m : Nat} (h : HasRow R m) : rankE R (nthR R m) = 0 ∧ rankR R (nthR R m) = m := by
  refine ⟨?_, rank_nth h.ok.2.2.2.2 _ _ _ _ (Nat.le_refl _) h.lt⟩
  unfold rankE
  rw [if_neg (by rw [h.ways]; simp), if_neg (by rw [h.fits]; simp)]
theorem HasRow.nth {R : Rdg} {m : Nat} (h : HasRow R m) : nthE R (m : Int) = 0 := by
  unfold nthE
  have hl := h.lt
  rw [if_neg (by rw [h.ways]; simp), if_neg (by rw [show isFromB (m : Int) 0 ((waysN R : Int) - 1) = true from isFromB_iff.2 (by omega)]; simp)]
theorem nth_over {R : Rdg} (h : waysE R = 0) : nthE R ((waysN R : Nat) : Int) = 1 := by
  unfold nthE
  rw [if_neg (by rw [h]; simp), if_pos]
  rw [Bool.eq_false_iff]
  intro h2
  have := isFromB_iff.1 h2
  omega
theorem HasRow.of_some {R : Rdg} {k : Int} (h : someB R k = true) : ∃ m : Nat, HasRow R m ∧ someV R k = (m : Int) := by
  have h1 := h
  unfold someB at h1
  obtain ⟨h2, h3, h4⟩ := of_decide_eq_true h1
  have h5 := Int.emod_nonneg k (b := (waysN R : Int)) (by omega)
  have h6 := Int.emod_lt_of_pos k (b := (waysN R : Int)) (by omega)
  refine ⟨(k % (waysN R : Int)).toNat, ⟨h2, by omega⟩, ?_⟩
  unfold someV
  rw [if_pos h]
  omega
theorem nthOk_any (R : Rdg) (m : Nat) (w : World) (hR : IsRdg w R) (hbig : R.ps.length ≤ 1000000000) (h : HasRow R m) : Calls Try.prog 26 #[.agg #[.int .i64 R.len, .int .i64 R.st, .int .i64 R.en, .slice R.pa R.ps.length R.pc], .int .i64 (m : Int)] w (OkList (nthR R m) w) := by
  refine (nthPub_any R (m : Int) w hR.row hbig hR.names).mono ?_
  rintro e w' ⟨a, c, rfl, hi, hb⟩
  rw [h.nth, Int.toNat_natCast, show endL 0 (nthR R m) = nthR R m from rfl] at hi
  exact ⟨a, c, by rw [h.nth, Int.toNat_natCast]; rfl, hi, hb⟩
theorem nthNo_any (R : Rdg) (w : World) (hR : IsRdg w R) (hbig : R.ps.length ≤ 1000000000) (h : waysE R = 0) : Calls Try.prog 26 #[.agg #[.int .i64 R.len, .int .i64 R.st, .int .i64 R.en, .slice R.pa R.ps.length R.pc], .int .i64 ((waysN R : Nat) : Int)] w (NoList w) := by
  refine (nthPub_any R ((waysN R : Nat) : Int) w hR.row hbig hR.names).mono ?_
  rintro e w' ⟨a, c, rfl, hi, hb⟩
  exact ⟨a, c, by rw [nth_over h]; rfl, hb⟩

set_option maxRecDepth 100000 in
set_option maxHeartbeats 16000000 in
theorem ranksLaw_any (R : Rdg) (k : Int) (w : World) (hR : IsRdg w R) (hk : (Lit.int .i64 k).wf = true) :
    Calls Try.prog 7 #[.agg #[.int .i64 R.len, .int .i64 R.st, .int .i64 R.en, .slice R.pa R.ps.length R.pc], .int .i64 k] w fun e w' => e = .returned (.bool true) ∧ Below w.heap.size w w' := by
  have k1 := Blk.new w 24 #[.int .i64 R.len, .int .i64 R.st, .int .i64 R.en, .slice R.pa R.ps.length R.pc]
  have hb1 : Below w.heap.size w (w.alloc (.cells #[.int .i64 R.len, .int .i64 R.st, .int .i64 R.en, .slice R.pa R.ps.length R.pc] 24)) := (Below.refl _ w).alloc (Nat.le_refl _) _
  have HR := Lib.hid hR
  have HK := Lib.hid (i64_le hk)
  clear hR hk
  go_enter Try.func7, Try.ntmps7
  go_upto_region 1 with fail
  generalize w.alloc (.cells #[.int .i64 R.len, .int .i64 R.st, .int .i64 R.en, .slice R.pa R.ps.length R.pc] 24) = w1 at *
  have K1 := Lib.hid k1
  have HB1 := Lib.hid hb1
  obtain ⟨r0, r1, r2, r3⟩ := rdg_cells (R := R) k1
  have hlr := k1.lt
  clear k1 hb1
  go_wp2_with fail
  refine (great_any R _ (HR.out.belowS HB1.out)).mono ?_
  rintro e w2 ⟨b, rfl, hb, hb2⟩
  have K2 := Lib.hid (K1.out.belowS hb2)
  have HB2 := Lib.hid (HB1.out.trans (hb2.mono HB1.out.size))
  clear r0 r1 r2 r3 hlr hb2
  obtain ⟨r0, r1, r2, r3⟩ := rdg_cells (R := R) K2.out
  have hlr := K2.out.lt
  cases b with
  | true =>
    clear hb
    go_wp2_with fail
    refine (lives_any _).mono ?_
    rintro e w9 ⟨rfl, hb9⟩
    have HB9 := Lib.hid (HB2.out.trans (hb9.mono HB2.out.size))
    clear hb9
    go_wp2_with fail
    go_ret
    exact ⟨rfl, HB9.out⟩
  | false =>
    obtain ⟨hps, -⟩ := hb rfl
    clear hb
    go_wp2_with fail
    refine (some_any R k _ (HR.out.belowS HB2.out) (by omega) HK.out).mono ?_
    rintro e w3 ⟨rfl, hb3⟩
    have K3 := Lib.hid (K2.out.belowS hb3)
    have HB3 := Lib.hid (HB2.out.trans (hb3.mono HB2.out.size))
    clear r0 r1 r2 r3 hlr hb3
    obtain ⟨r0, r1, r2, r3⟩ := rdg_cells (R := R) K3.out
    have hlr := K3.out.lt
    cases hs : someB R k with
    | false =>
      generalize someV R k = v at *
      clear hs
      go_wp2_with fail
      refine (lives_any _).mono ?_
      rintro e w9 ⟨rfl, hb9⟩
      have HB9 := Lib.hid (HB3.out.trans (hb9.mono HB3.out.size))
      clear hb9
      go_wp2_with fail
      go_ret
      exact ⟨rfl, HB9.out⟩
    | true =>
      obtain ⟨m, hrow, hv⟩ := HasRow.of_some hs
      rw [hv]
      have HH := Lib.hid hrow
      have hM := (waysE_zero hrow.ways).2
      have hlt := hrow.lt
      unfold MW at hM
      clear hs hv hrow
      go_wp2_with fail
      refine (nthOk_any R m _ (HR.out.belowS HB3.out) (by omega) HH.out).mono ?_
      rintro e w4 ⟨a4, c4, rfl, hi4, hb4⟩
      have K4 := Lib.hid (K3.out.belowS hb4)
      have HB4 := Lib.hid (HB3.out.trans (hb4.mono HB3.out.size))
      have HI4 := Lib.hid hi4
      have HFI := Lib.hid (fun W (hb : Below w4.heap.size w4 W) => fitsPub_any R a4 c4 (nthR R m) W (HR.out.belowS (HB4.out.trans (hb.mono HB4.out.size))) (by omega) (hi4.belowS hb))
      have HRA := Lib.hid (fun W (hb : Below w4.heap.size w4 W) => rankPub_any R a4 c4 (nthR R m) W (HR.out.belowS (HB4.out.trans (hb.mono HB4.out.size))).row (by omega) HR.out.names (hi4.belowS hb))
      simp only [HH.out.fitsV, HH.out.rdg] at HFI
      simp only [HH.out.rank.1, HH.out.rank.2, show endI 0 ((m : Nat) : Int) = (m : Int) from rfl] at HRA
      obtain ⟨L, hL⟩ : ∃ L, nthR R m = L := ⟨_, rfl⟩
      rw [hL] at HI4 HFI HRA ⊢
      have HL := Lib.hid hL
      clear r0 r1 r2 r3 hlr hb4 hi4 hL
      obtain ⟨r0, r1, r2, r3⟩ := rdg_cells (R := R) K4.out
      have hlr := K4.out.lt
      go_wp2_with fail
      refine (HFI.out w4 (Below.refl _ _)).mono ?_
      rintro e w5 ⟨rfl, hb5⟩
      have K5 := Lib.hid (K4.out.belowS hb5)
      have HB5 := Lib.hid hb5
      clear r0 r1 r2 r3 hlr hb5
      obtain ⟨r0, r1, r2, r3⟩ := rdg_cells (R := R) K5.out
      have hlr := K5.out.lt
      go_wp2_with fail
      refine (HRA.out w5 HB5.out).mono ?_
      rintro e w6 ⟨rfl, hb6⟩
      have K6 := Lib.hid (K5.out.belowS hb6)
      have HB6 := Lib.hid (HB4.out.trans ((HB5.out.trans (hb6.mono HB5.out.size)).mono HB4.out.size))
      have HI6 := Lib.hid (HI4.out.belowS (HB5.out.trans (hb6.mono HB5.out.size)))
      clear r0 r1 r2 r3 hlr hb6 HFI HRA
      obtain ⟨r0, r1, r2, r3⟩ := rdg_cells (R := R) K6.out
      have hlr := K6.out.lt
      have hmm : ((m : Int) != (m : Int)) = false := by simp
      go_wp2_with fail
      refine (ways_any R _ (HR.out.belowS HB6.out).row (by omega) HR.out.names).mono ?_
      rintro e w7 ⟨rfl, hb7⟩
      have K7 := Lib.hid (K6.out.belowS hb7)
      have HB7 := Lib.hid (HB6.out.trans (hb7.mono HB6.out.size))
      have HI7 := Lib.hid (HI6.out.belowS hb7)
      rw [HH.out.ways, show endI 0 ((waysN R : Nat) : Int) = (waysN R : Nat) from rfl]
      clear r0 r1 r2 r3 hlr hb7 hmm
      obtain ⟨r0, r1, r2, r3⟩ := rdg_cells (R := R) K7.out
      have hlr := K7.out.lt
      have ew : IntKind.i64.wrap ((m : Int) + 1) = ((m + 1 : Nat) : Int) := by rw [IntKind.wrap_i64]; omega
      by_cases hl : m + 1 = waysN R
      · have hno := nthNo_any R w7 (HR.out.belowS HB7.out) (by omega) HH.out.ways
        rw [← hl] at hno ⊢
        have HNO := Lib.hid hno
        have hq : (((m + 1 : Nat) : Int) == ((m + 1 : Nat) : Int)) = true := by simp
        clear hl hno hlt
        go_wp2_with fail
        refine HNO.out.mono ?_
        rintro e w8 ⟨a8, c8, rfl, hb8⟩
        have HB8 := Lib.hid (HB7.out.trans (hb8.mono HB7.out.size))
        clear r0 r1 r2 r3 hlr hb8 HNO
        go_wp2_with fail
        refine (lives_any _).mono ?_
        rintro e w9 ⟨rfl, hb9⟩
        have HB9 := Lib.hid (HB8.out.trans (hb9.mono HB8.out.size))
        clear hb9
        go_wp2_with fail
        go_ret
        exact ⟨rfl, HB9.out⟩
      · have hok2 : HasRow R (m + 1) := ⟨HH.out.ways, by omega⟩
        have hyes := nthOk_any R (m + 1) w7 (HR.out.belowS HB7.out) (by omega) hok2
        have hbf : beforeB L (nthR R (m + 1)) = true := by
          rw [← HL.out]
          exact nth_before HH.out.ok.2.2.2.2 _ _ _ _ (Nat.le_refl _) hok2.lt
        obtain ⟨N, hN⟩ : ∃ N : Nat, waysN R = N := ⟨_, rfl⟩
        rw [hN] at hl hM ⊢
        have hq : (((m + 1 : Nat) : Int) == (N : Int)) = false := by
          rw [beq_eq_false_iff_ne]
          omega
        have HY := Lib.hid hyes
        have HBF := Lib.hid hbf
        clear hok2 hyes hbf hN hl hlt
        go_wp2_with fail
        refine HY.out.mono ?_
        rintro e w8 ⟨a8, c8, rfl, hi8, hb8⟩
        have HB8 := Lib.hid (HB7.out.trans (hb8.mono HB7.out.size))
        have hbe := before_any L (nthR R (m + 1)) a4 a8 c4 c8 w8 (HI7.out.belowS hb8) hi8
        rw [HBF.out] at hbe
        obtain ⟨L2, hL2⟩ : ∃ L2, nthR R (m + 1) = L2 := ⟨_, rfl⟩
        rw [hL2] at hbe ⊢
        have HBE := Lib.hid hbe
        clear r0 r1 r2 r3 hlr hb8 hi8 hbe HY hL2
        go_wp2_with fail
        refine HBE.out.mono ?_
        rintro e w10 ⟨rfl, hb10⟩
        have HB10 := Lib.hid (HB8.out.trans (hb10.mono HB8.out.size))
        clear hb10 HBE
        go_wp2_with fail
        refine (lives_any _).mono ?_
        rintro e w9 ⟨rfl, hb9⟩
        have HB9 := Lib.hid (HB10.out.trans (hb9.mono HB10.out.size))
        clear hb9
        go_wp2_with fail
        go_ret
        exact ⟨rfl, HB9.out⟩
end Go.Proofs.Ytmcmhgjlpffcnaa
