/- A heap by its name (thatchref02), the ledger (straw). -/
import Derived.Test.YtmnfapdfdpglgaaGG
import Derived.Test.YtmnfapdfdpglgaaGH
import Derived.Test.YtmnfapdfdpglgaaGN
namespace Go.Proofs.Ytmnfapdfdpglgaa
open Go.RowKit

set_option maxRecDepth 100000 in
set_option maxHeartbeats 4000000 in
theorem refAt_any (S : Sto) (nm : ByteArray) (w : World) (hS : IsHeps w S.ha S.hc S.heaps) :
    Calls Try.prog 56 #[stoV S, .string nm] w fun e w' => e = .returned (.int .i64 (idxH S.heaps nm)) ∧ Below w.heap.size w w' := by
  have hll := hS.len
  unfold stoV
  generalize hga : S.ha = sha at *
  have HS := Lib.hid hS
  clear hS
  have kB := Blk.new w 29 #[.int .i64 S.year, .slice S.la S.last.length S.lc, .slice S.ga S.given.length S.gc, .slice sha S.heaps.length S.hc, .slice S.ua S.used.length S.uc, .slice S.wa S.waste.length S.wc]
  have hB : Below w.heap.size w (w.alloc (.cells #[.int .i64 S.year, .slice S.la S.last.length S.lc, .slice S.ga S.given.length S.gc, .slice sha S.heaps.length S.hc, .slice S.ua S.used.length S.uc, .slice S.wa S.waste.length S.wc] 29)) := (Below.refl _ w).alloc (by simp) _
  go_enter Try.func56, Try.ntmps56
  go_upto_region 1 with fail
  generalize (w.alloc (.cells #[.int .i64 S.year, .slice S.la S.last.length S.lc, .slice S.ga S.given.length S.gc, .slice sha S.heaps.length S.hc, .slice S.ua S.used.length S.uc, .slice S.wa S.waste.length S.wc] 29)) = w1 at *
  go_wp2_with fail
  go_loopw [5] (fun k wr => ∃ j : Nat, j ≤ S.heaps.length ∧ k = .int .i64 j ∧ (∀ f ∈ S.heaps.take j, strB f.name nm = false) ∧ wr = w1) (fun k _ => S.heaps.length - (intOf k).toNat)
  case atStart => exact ⟨0, Nat.zero_le _, rfl, by simp, rfl⟩
  case round =>
    obtain ⟨j, hj, rfl, hno, rfl⟩ := hrel
    have d3 := kB.cell 3
    have lB := kB.lt
    simp only [List.getElem?_toArray, List.getElem?_cons_zero, List.getElem?_cons_succ] at d3
    by_cases hlj : j < S.heaps.length
    · have hq : S.heaps[j]? = some S.heaps[j] := List.getElem?_eq_getElem hlj
      have htk : S.heaps.take (j + 1) = S.heaps.take j ++ [S.heaps[j]] := by rw [List.take_add_one, hq]; rfl
      obtain ⟨b, off, hea, hblt, hcap, hcx, ⟨c0, c1, c2, c3, c4, c5, c6⟩, _, _⟩ := (HS.out.belowS hB).at hq
      subst hea
      generalize S.heaps[j] = q at *
      have HQ := Lib.hid hq
      have HT := Lib.hid htk
      have HN := Lib.hid hno
      clear hq htk hno
      have hj0 : (0 : Int) ≤ (j : Int) := Int.natCast_nonneg _
      have hj1 : (j : Int) < (S.heaps.length : Int) := by omega
      cases hst : strB q.name nm with
      | true =>
        have hv : idxH S.heaps nm = j := by rw [idxH, findIdx_at S.heaps _ j q HQ.out hst HN.out]
        have HV := Lib.hid hv
        unfold strB at hst
        clear hv
        go_wp2_with fail
        go_ret
        exact ⟨by rw [HV.out]; rfl, hB⟩
      | false =>
        have HSt := Lib.hid hst
        unfold strB at hst
        go_wp2_with fail
        refine ⟨⟨j + 1, by omega, by simp, ?_, trivial⟩, by simp [intOf]; omega⟩
        intro x hx
        rw [HT.out] at hx
        rcases List.mem_append.1 hx with hx | hx
        · exact HN.out x hx
        · obtain rfl := List.mem_singleton.1 hx
          exact HSt.out
    · obtain rfl : j = S.heaps.length := by omega
      rw [List.take_length] at hno
      have hv : idxH S.heaps nm = -1 := by rw [idxH, findIdx_none_take S.heaps _ hno]
      have HV := Lib.hid hv
      clear hv hno
      go_wp2_with fail
      go_ret
      exact ⟨by rw [HV.out]; rfl, hB⟩

theorem store_ok {F : Frm} {S : Sto} (h : storeE F S = 0) : F.ps.length ≤ 12 ∧ S.given.length = F.ps.length ∧ partsB F.ps.length S.used = true ∧ partsB F.ps.length S.waste = true ∧ ∀ x ∈ S.heaps, heapB F.ps x = true := by
  obtain ⟨h1, h2⟩ := storeE_zero h
  simp only [mayB, balB, Bool.and_eq_true, decide_eq_true_eq] at h2
  exact ⟨(checkE_ok h1).1, h2.2.2.2.2.1, h2.2.2.1, h2.2.2.2.1, heapsB_heap h2.2.1⟩

/-- What a ledger is: the counts of each field, or an error. -/
def CntSaid (F : Frm) (S : Sto) (w : World) (e : Ending) (w' : World) : Prop :=
  ∃ (a : Option Addr) (n c : Nat), e = .returned (.tuple #[.slice a n c, .int .i64 (storeE F S)]) ∧ (if storeE F S = 0 then n = F.ps.length ∧ (n = 0 ∨ ∃ K, a = some ⟨K, 0, none⟩ ∧ n ≤ c ∧ c ≤ 9223372036854775807 ∧ K < w'.heap.size ∧ ∀ i, i < n * 4 → w'.cell? ⟨K, i, none⟩ = some (.int .i64 (cntF (givenAt S.given) (fun k => ofM k S.used) (fun k => leftM k S.heaps) (fun k => ofM k S.waste) i))) else n = 0) ∧ Below w.heap.size w w'

set_option maxRecDepth 100000 in
set_option maxHeartbeats 4000000 in
theorem ledger_any (F : Frm) (S : Sto) (w : World) (hF : IsFarm w F) (hS : IsStore w S) (hfit : S.fit) :
    Calls Try.prog 23 #[.agg #[.slice F.pa F.ps.length F.pc, .int .i64 F.dry], stoV S] w (CntSaid F S w) := by
  have HF := Lib.hid hF
  have HS := Lib.hid hS
  clear hF hS
  unfold stoV
  have kB := (Blk.new w 24 (frmC F)).alloc (.cells (stoC S) 29)
  have kD := Blk.new (w.alloc (.cells (frmC F) 24)) 29 (stoC S)
  have hB : Below w.heap.size w ((w.alloc (.cells (frmC F) 24)).alloc (.cells (stoC S) 29)) := ((Below.refl _ w).alloc (by simp) _).alloc (by simp) _
  simp only [World.size_alloc] at kD
  unfold frmC stoC at kB kD hB
  go_enter Try.func23, Try.ntmps23
  go_upto_region 1 with fail
  generalize ((w.alloc (.cells #[.slice F.pa F.ps.length F.pc, .int .i64 F.dry] 24)).alloc (.cells #[.int .i64 S.year, .slice S.la S.last.length S.lc, .slice S.ga S.given.length S.gc, .slice S.ha S.heaps.length S.hc, .slice S.ua S.used.length S.uc, .slice S.wa S.waste.length S.wc] 29)) = w1 at *
  have lF0 := kB.lt
  have lS0 := kD.lt
  obtain ⟨f0, f1⟩ := frm_cells kB
  obtain ⟨d0, d1, d2, d3, d4, d5⟩ := sto_cells kD
  have HB0 := Lib.hid hB
  have KD0 := Lib.hid kD
  clear kB kD hB
  go_wp2_with fail
  refine (checkStore_any F S _ (HF.out.below HB0.out) (HS.out.below HB0.out) hfit).mono ?_
  rintro e w2 ⟨rfl, hb⟩
  have hB1 := HB0.out.trans (hb.mono HB0.out.size)
  have kD1 := KD0.out.belowS hb
  clear d0 d1 d2 d3 d4 d5 f0 f1 lF0 lS0 hb
  have lS1 := kD1.lt
  obtain ⟨d0, d1, d2, d3, d4, d5⟩ := sto_cells kD1
  have HB1 := Lib.hid hB1
  clear kD1 hB1
  by_cases hE : storeE F S = 0
  · obtain ⟨hn, hgl, hup, hwp, hhp⟩ := store_ok hE
    have HE := Lib.hid hE
    have HU := Lib.hid (partsB_ok hup)
    have HW := Lib.hid (partsB_ok hwp)
    have HH := Lib.hid (show ∀ h ∈ S.heaps, ∀ p ∈ h.parts, p.ok F.ps.length from fun h hh => heapB_parts (hhp h hh))
    obtain ⟨ful, fwl, fhl, fhp⟩ := hfit
    have HHP := Lib.hid fhp
    have z1 : ((0 : Int) == 0) = true := rfl
    rw [hE]
    have HGL := Lib.hid hgl
    clear hE hup hwp hhp fhp hgl
    go_wp2_with fail
    refine (ledgerOf_any F.ps.length S.year S.la S.ga S.ha S.ua S.wa S.lc S.gc S.hc S.uc S.wc S.last.length S.given S.heaps S.used S.waste _ (HS.out.below HB1.out).given (HS.out.below HB1.out).heaps (HS.out.below HB1.out).used (HS.out.below HB1.out).waste HGL.out hn HU.out ful HW.out fwl HH.out HHP.out fhl).mono ?_
    rintro e w3 ⟨⟨K, rfl, kK⟩, hb⟩
    have hB2 := HB1.out.trans (hb.mono HB1.out.size)
    have KK := Lib.hid kK
    clear kK d0 d1 d2 d3 d4 d5 hb
    go_wp2_with fail
    refine bodyPost_ret (v := .tuple #[.slice (some ⟨K, 0, none⟩) F.ps.length F.ps.length, .int .i64 0]) (by simp [results, Try.results23, go_sem]) rfl ⟨_, _, _, by rw [HE.out], ?_, hB2⟩
    rw [if_pos HE.out]
    exact ⟨rfl, Or.inr ⟨K, rfl, Nat.le_refl _, by omega, KK.out.lt, fun i hi => (KK.out.cell i).trans (rowI_at hi)⟩⟩
  · have HE := Lib.hid hE
    have hne : (storeE F S == 0) = false := by simpa using hE
    generalize hg : storeE F S = v at *
    clear d0 d1 d2 d3 d4 d5
    go_wp2_with fail
    refine bodyPost_ret (v := .tuple #[.slice none 0 0, .int .i64 v]) (by simp [results, Try.results23, go_sem]) rfl ⟨none, 0, 0, by rw [hg], ?_, HB1.out⟩
    rw [hg, if_neg HE.out]

end Go.Proofs.Ytmnfapdfdpglgaa
