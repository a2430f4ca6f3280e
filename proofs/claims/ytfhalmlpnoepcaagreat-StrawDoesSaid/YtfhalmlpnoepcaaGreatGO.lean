/- The specification's stored, CheckStore. -/
import Derived.Test.YtfhalmlpnoepcaaGreatGN
import Derived.Test.YtfhalmlpnoepcaaGreatGM
import Derived.Test.YtfhalmlpnoepcaaGreatGL
namespace Go.Proofs.YtfhalmlpnoepcaaGreat
open Go.RowKit

theorem refHeap_is {F : Frm} {S : Sto} {i : Nat} {b : Bool} (hb : heapAt F.ps S.heaps i = b) (w : World) (hF : IsFarm w F) (hS : IsHeps w S.ha S.hc S.heaps) (hn : F.ps.length ≤ 12) (hil : i < S.heaps.length) (hpl : ∀ h ∈ S.heaps, h.parts.length ≤ 1000) :
    Calls Tryz.prog 72 #[.agg #[.slice F.pa F.ps.length F.pc, .int .i64 F.dry], stoV S, .int .i64 i] w fun e w' => e = .returned (.bool b) ∧ Below w.heap.size w w' := by
  subst hb
  exact refHeap_any F S i w hF hS hn hil hpl
theorem there_sum {n : Nat} {used waste : List Prt} {heaps : List Hep} (huk : ∀ p ∈ used, p.ok n) (hwk : ∀ p ∈ waste, p.ok n) (hhk : ∀ h ∈ heaps, ∀ p ∈ h.parts, p.ok n) :
    sumN (thereM used heaps waste) n = loadsM used + loadsM waste + heapsM heaps := by
  have h1 := sum_of huk
  have h2 := sum_of hwk
  have h3 := sum_left hhk
  have h4 := sumN_add (fun i => ofM i used) (fun i => leftM i heaps) n
  have h5 := sumN_add (fun i => ofM i used + leftM i heaps) (fun i => ofM i waste) n
  have h6 : sumN (thereM used heaps waste) n = sumN (fun i => ofM i used + leftM i heaps + ofM i waste) n := rfl
  omega
theorem given_at {l : List Int} {j : Nat} {x : Int} (h : l[j]? = some x) : givenAt l j = x := by rw [givenAt, h]; rfl
theorem years_no {n : Nat} {year : Int} {last : List Int} {j : Nat} {x : Int} (h : last[j]? = some x) (hx : isFromB x (-1) year = false) : yearsB n year last = false := by
  have : (last.all fun x => isFromB x (-1) year) = false := by
    rw [Bool.eq_false_iff]
    intro k
    have := List.all_eq_true.1 k x (List.mem_of_getElem? h)
    rw [hx] at this
    cases this
  simp [yearsB, this]
theorem bal_no {n : Nat} {given : List Int} {used waste : List Prt} {heaps : List Hep} {j : Nat} (hj : j < n) (h : (givenAt given j == thereM used heaps waste j) = false) : balB n given used heaps waste = false := by
  have : ((List.range n).all fun i => givenAt given i == thereM used heaps waste i) = false := by
    rw [Bool.eq_false_iff]
    intro k
    have := List.all_eq_true.1 k j (by simpa using hj)
    rw [h] at this
    cases this
  simp [balB, this]

set_option maxRecDepth 100000 in
set_option maxHeartbeats 8000000 in
theorem refStored_any (F : Frm) (S : Sto) (w : World) (hF : IsFarm w F) (hS : IsStore w S) (hn : F.ps.length ≤ 12) (hfit : S.fit) :
    Calls Tryz.prog 40 #[.agg #[.slice F.pa F.ps.length F.pc, .int .i64 F.dry], stoV S] w fun e w' => e = .returned (.bool (mayB F.ps S)) ∧ Below w.heap.size w w' := by
  have hfl := IsFarm.len hF
  have hll := hS.last.len
  have hgl := hS.given.len
  have hhl := hfit.heaps
  have hheap := fun (i : Nat) (b : Bool) (hb : heapAt F.ps S.heaps i = b) => @refHeap_is F S i b hb
  have htotal := refTotal_any F.ps.length S
  have hleft := fun i => refLeft_any F.ps.length S i
  unfold stoV at hheap htotal hleft ⊢
  have HF := Lib.hid hF
  have HFI := Lib.hid hfit
  have HS := Lib.hid hS
  have hsl := hS.last
  have hsg := hS.given
  generalize hga : S.la = sla at *
  generalize hgb : S.ga = sga at *
  have HSL := Lib.hid hsl
  have HSG := Lib.hid hsg
  have HHE := Lib.hid hheap
  have HTO := Lib.hid htotal
  have HLE := Lib.hid hleft
  clear hF hS hsl hsg hheap htotal hleft hfit hga hgb
  have kB := (Blk.new w 24 #[.slice F.pa F.ps.length F.pc, .int .i64 F.dry]).alloc (.cells #[.int .i64 S.year, .slice sla S.last.length S.lc, .slice sga S.given.length S.gc, .slice S.ha S.heaps.length S.hc, .slice S.ua S.used.length S.uc, .slice S.wa S.waste.length S.wc] 29)
  have kD := Blk.new (w.alloc (.cells #[.slice F.pa F.ps.length F.pc, .int .i64 F.dry] 24)) 29 #[.int .i64 S.year, .slice sla S.last.length S.lc, .slice sga S.given.length S.gc, .slice S.ha S.heaps.length S.hc, .slice S.ua S.used.length S.uc, .slice S.wa S.waste.length S.wc]
  have hB : Below w.heap.size w ((w.alloc (.cells #[.slice F.pa F.ps.length F.pc, .int .i64 F.dry] 24)).alloc (.cells #[.int .i64 S.year, .slice sla S.last.length S.lc, .slice sga S.given.length S.gc, .slice S.ha S.heaps.length S.hc, .slice S.ua S.used.length S.uc, .slice S.wa S.waste.length S.wc] 29)) := ((Below.refl _ w).alloc (by simp) _).alloc (by simp) _
  simp only [World.size_alloc] at kD
  go_enter Tryz.func40, Tryz.ntmps40
  go_upto_region 1 with fail
  generalize ((w.alloc (.cells #[.slice F.pa F.ps.length F.pc, .int .i64 F.dry] 24)).alloc (.cells #[.int .i64 S.year, .slice sla S.last.length S.lc, .slice sga S.given.length S.gc, .slice S.ha S.heaps.length S.hc, .slice S.ua S.used.length S.uc, .slice S.wa S.waste.length S.wc] 29)) = w1 at *
  have HB1 := Lib.hid hB
  have KB1 := Lib.hid kB
  have KD1 := Lib.hid kD
  clear kB kD hB
  have lF := KB1.out.lt
  have lS := KD1.out.lt
  have f0 := KB1.out.cell 0
  have f1 := KB1.out.cell 1
  have d0 := KD1.out.cell 0
  have d1 := KD1.out.cell 1
  have d2 := KD1.out.cell 2
  have d3 := KD1.out.cell 3
  have d4 := KD1.out.cell 4
  have d5 := KD1.out.cell 5
  simp only [List.getElem?_toArray, List.getElem?_cons_zero, List.getElem?_cons_succ] at f0 f1 d0 d1 d2 d3 d4 d5
  go_wp2_with fail
  refine (refIn_any S.year 0 100 _).mono ?_
  rintro e w2 ⟨rfl, rfl⟩
  cases h1 : isFromB S.year 0 100 with
  | false =>
    have hv : mayB F.ps S = false := by simp [mayB, yearsB, h1]
    have HV := Lib.hid hv
    clear hv
    go_wp2_with fail
    go_ret
    exact ⟨by rw [HV.out]; rfl, HB1.out⟩
  | true =>
  have G1 := Lib.hid h1
  clear h1
  by_cases h2 : S.last.length = F.ps.length
  case neg =>
    have q2 : ((S.last.length : Int) == (F.ps.length : Int)) = false := by simp; exact fun e => h2 (by omega)
    have q2' : ((S.last.length : Int) != (F.ps.length : Int)) = true := by simp; exact fun e => h2 (by omega)
    have hv : mayB F.ps S = false := by simp [mayB, yearsB, h2]
    have HV := Lib.hid hv
    clear hv
    go_wp2_with fail
    go_ret
    exact ⟨by rw [HV.out]; rfl, HB1.out⟩
  case pos =>
  have q2 : ((S.last.length : Int) == (F.ps.length : Int)) = true := by simp [h2]
  have q2' : ((S.last.length : Int) != (F.ps.length : Int)) = false := by simp [h2]
  have G2 := Lib.hid h2
  clear h2
  by_cases h3 : S.given.length = F.ps.length
  case neg =>
    have q3 : ((S.given.length : Int) == (F.ps.length : Int)) = false := by simp; exact fun e => h3 (by omega)
    have q3' : ((S.given.length : Int) != (F.ps.length : Int)) = true := by simp; exact fun e => h3 (by omega)
    have hv : mayB F.ps S = false := by simp [mayB, balB, h3]
    have HV := Lib.hid hv
    clear hv
    go_wp2_with fail
    go_ret
    exact ⟨by rw [HV.out]; rfl, HB1.out⟩
  case pos =>
  have q3 : ((S.given.length : Int) == (F.ps.length : Int)) = true := by simp [h3]
  have q3' : ((S.given.length : Int) != (F.ps.length : Int)) = false := by simp [h3]
  have G3 := Lib.hid h3
  clear h3
  by_cases h4 : 16 < S.heaps.length
  · have q4 : (16 : Int) < (S.heaps.length : Int) := by omega
    have h4' : heapsB F.ps S.heaps = false := by
      have : decide (S.heaps.length ≤ 16) = false := decide_eq_false (by omega)
      rw [heapsB, this, Bool.false_and]
    have hv : mayB F.ps S = false := by simp [mayB, h4']
    have HV := Lib.hid hv
    clear hv
    go_wp2_with fail
    go_ret
    exact ⟨by rw [HV.out]; rfl, HB1.out⟩
  have q4 : ¬ (16 : Int) < (S.heaps.length : Int) := by omega
  go_wp2_with fail
  refine (refOrdered_any F S.ua S.uc S.used _ hn (HS.out.below HB1.out).used).mono ?_
  rintro e w2 ⟨rfl, hb⟩
  have HB2 := Lib.hid (HB1.out.trans (hb.mono HB1.out.size))
  have KB2 := Lib.hid (KB1.out.belowS hb)
  have KD2 := Lib.hid (KD1.out.belowS hb)
  obtain ⟨v1, rfl⟩ : ∃ v1 : World, v1 = w2 := ⟨_, rfl⟩
  clear lF lS f0 f1 d0 d1 d2 d3 d4 d5
  clear hb
  have lF := KB2.out.lt
  have lS := KD2.out.lt
  have f0 := KB2.out.cell 0
  have f1 := KB2.out.cell 1
  have d0 := KD2.out.cell 0
  have d1 := KD2.out.cell 1
  have d2 := KD2.out.cell 2
  have d3 := KD2.out.cell 3
  have d4 := KD2.out.cell 4
  have d5 := KD2.out.cell 5
  simp only [List.getElem?_toArray, List.getElem?_cons_zero, List.getElem?_cons_succ] at f0 f1 d0 d1 d2 d3 d4 d5
  cases h5 : partsB F.ps.length S.used with
  | false =>
    have hv : mayB F.ps S = false := by simp [mayB, h5]
    have HV := Lib.hid hv
    clear hv
    go_wp2_with fail
    go_ret
    exact ⟨by rw [HV.out]; rfl, HB2.out⟩
  | true =>
  have G5 := Lib.hid h5
  clear h5
  go_wp2_with fail
  refine (refOrdered_any F S.wa S.wc S.waste _ hn (HS.out.below HB2.out).waste).mono ?_
  rintro e w2 ⟨rfl, hb⟩
  have HB3 := Lib.hid (HB2.out.trans (hb.mono HB2.out.size))
  have KB3 := Lib.hid (KB2.out.belowS hb)
  have KD3 := Lib.hid (KD2.out.belowS hb)
  obtain ⟨v2, rfl⟩ : ∃ v2 : World, v2 = w2 := ⟨_, rfl⟩
  clear lF lS f0 f1 d0 d1 d2 d3 d4 d5
  clear hb
  have lF := KB3.out.lt
  have lS := KD3.out.lt
  have f0 := KB3.out.cell 0
  have f1 := KB3.out.cell 1
  have d0 := KD3.out.cell 0
  have d1 := KD3.out.cell 1
  have d2 := KD3.out.cell 2
  have d3 := KD3.out.cell 3
  have d4 := KD3.out.cell 4
  have d5 := KD3.out.cell 5
  simp only [List.getElem?_toArray, List.getElem?_cons_zero, List.getElem?_cons_succ] at f0 f1 d0 d1 d2 d3 d4 d5
  cases h6 : partsB F.ps.length S.waste with
  | false =>
    have hv : mayB F.ps S = false := by simp [mayB, h6]
    have HV := Lib.hid hv
    clear hv
    go_wp2_with fail
    go_ret
    exact ⟨by rw [HV.out]; rfl, HB3.out⟩
  | true =>
  have G6 := Lib.hid h6
  clear h6
  go_wp2_with fail
  clear lF lS f0 f1 d0 d1 d2 d3 d4 d5
  go_loopw [5] (fun i wr => ∃ j : Nat, j ≤ S.heaps.length ∧ i = .int .i64 j ∧ (∀ k, k < j → heapAt F.ps S.heaps k = true) ∧ Below v2.heap.size v2 wr) (fun i _ => S.heaps.length - (intOf i).toNat)
  case atStart => exact ⟨0, Nat.zero_le _, rfl, fun k h => by omega, Below.refl _ _⟩
  case round =>
    obtain ⟨j, hj, rfl, hall, hb⟩ := hrel
    have HA := Lib.hid hall
    have HB4 := Lib.hid (HB3.out.trans (hb.mono HB3.out.size))
    have KB4 := Lib.hid (KB3.out.belowS hb)
    have KD4 := Lib.hid (KD3.out.belowS hb)
    clear hall
    have lF := KB4.out.lt
    have lS := KD4.out.lt
    have f0 := KB4.out.cell 0
    have f1 := KB4.out.cell 1
    have d0 := KD4.out.cell 0
    have d1 := KD4.out.cell 1
    have d2 := KD4.out.cell 2
    have d3 := KD4.out.cell 3
    have d4 := KD4.out.cell 4
    have d5 := KD4.out.cell 5
    simp only [List.getElem?_toArray, List.getElem?_cons_zero, List.getElem?_cons_succ] at f0 f1 d0 d1 d2 d3 d4 d5
    by_cases hlj : j < S.heaps.length
    · have hj0 : (0 : Int) ≤ (j : Int) := Int.natCast_nonneg _
      have hj1 : (j : Int) < (S.heaps.length : Int) := by omega
      obtain ⟨x, hx⟩ : ∃ x, heapAt F.ps S.heaps j = x := ⟨_, rfl⟩
      go_wp2_with fail
      refine (HHE.out j x hx _ (HF.out.below HB4.out) (HS.out.below HB4.out).heaps hn hlj HFI.out.parts).mono ?_
      rintro e w2 ⟨rfl, hb4⟩
      have HX := Lib.hid hx
      clear hx
      cases x with
      | false =>
        have hv : mayB F.ps S = false := by simp [mayB, heapsB_no hlj HX.out]
        have HV := Lib.hid hv
        clear hv
        go_wp2_with fail
        go_ret
        exact ⟨by rw [HV.out]; rfl, HB4.out.trans (hb4.mono HB4.out.size)⟩
      | true =>
        go_wp2_with fail
        refine ⟨⟨j + 1, by omega, by simp, fun k hk => ?_, hb.trans (hb4.mono hb.size)⟩, by simp [intOf]; omega⟩
        by_cases hkj : k = j
        · subst hkj; exact HX.out
        · exact HA.out k (by omega)
    · obtain rfl : j = S.heaps.length := by omega
      have hhb : heapsB F.ps S.heaps = true := heapsB_yes (by omega) HA.out
      have hhk : ∀ h ∈ S.heaps, ∀ p ∈ h.parts, p.ok F.ps.length := fun h hh => heapB_parts (heapsB_heap hhb h hh)
      have hts := there_sum (partsB_ok G5.out) (partsB_ok G6.out) hhk
      have HHB := Lib.hid hhb
      have HHK := Lib.hid hhk
      have HTS := Lib.hid hts
      clear hhb hhk hts
      go_wp2_with fail
      refine (HTO.out _ (HS.out.below HB4.out) HHK.out (partsB_ok G5.out) (partsB_ok G6.out) HFI.out).mono ?_
      rintro e w2 ⟨rfl, hb5⟩
      have HB5 := Lib.hid (HB4.out.trans (hb5.mono HB4.out.size))
      have KB5 := Lib.hid (KB4.out.belowS hb5)
      have KD5 := Lib.hid (KD4.out.belowS hb5)
      clear hb5
      clear lF lS f0 f1 d0 d1 d2 d3 d4 d5
      generalize hT : loadsM S.used + loadsM S.waste + heapsM S.heaps = T at *
      have HTT := Lib.hid hT
      clear hT
      by_cases hT : 100000 < T
      · have hbb : balB F.ps.length S.given S.used S.heaps S.waste = false := by
          have : decide (sumN (thereM S.used S.heaps S.waste) F.ps.length ≤ 100000) = false := decide_eq_false (by rw [HTS.out]; omega)
          simp [balB, this]
        have hv : mayB F.ps S = false := by simp [mayB, hbb]
        have HV := Lib.hid hv
        clear hv
        go_wp2_with fail
        go_ret
        exact ⟨by rw [HV.out]; rfl, HB5.out⟩
      have HT := Lib.hid hT
      go_wp2_with fail
      obtain ⟨v4, rfl⟩ : ∃ v4 : World, v4 = w2 := ⟨_, rfl⟩
      go_loopw [6] (fun i wr => ∃ j : Nat, j ≤ S.last.length ∧ i = .int .i64 j ∧ (∀ k, k < j → (∀ x, S.last[k]? = some x → isFromB x (-1) S.year = true) ∧ givenAt S.given k = thereM S.used S.heaps S.waste k) ∧ Below v4.heap.size v4 wr) (fun i _ => S.last.length - (intOf i).toNat)
      case atStart => exact ⟨0, Nat.zero_le _, rfl, fun k h => by omega, Below.refl _ _⟩
      case round =>
        obtain ⟨j, hj, rfl, hall, hb⟩ := hrel
        have HA2 := Lib.hid hall
        have HB6 := Lib.hid (HB5.out.trans (hb.mono HB5.out.size))
        have KB6 := Lib.hid (KB5.out.belowS hb)
        have KD6 := Lib.hid (KD5.out.belowS hb)
        clear hall
        have lF := KB6.out.lt
        have lS := KD6.out.lt
        have f0 := KB6.out.cell 0
        have f1 := KB6.out.cell 1
        have d0 := KD6.out.cell 0
        have d1 := KD6.out.cell 1
        have d2 := KD6.out.cell 2
        have d3 := KD6.out.cell 3
        have d4 := KD6.out.cell 4
        have d5 := KD6.out.cell 5
        simp only [List.getElem?_toArray, List.getElem?_cons_zero, List.getElem?_cons_succ] at f0 f1 d0 d1 d2 d3 d4 d5
        by_cases hlj : j < S.last.length
        · have hq : S.last[j]? = some S.last[j] := List.getElem?_eq_getElem hlj
          have hjn : j < F.ps.length := by rw [← G2.out]; exact hlj
          have hgl2 : j < S.given.length := by rw [G3.out]; exact hjn
          have hq2 : S.given[j]? = some S.given[j] := List.getElem?_eq_getElem hgl2
          obtain ⟨b, off, hea, hblt, _, _, p0⟩ := (HSL.out.belowS HB6.out).at hq
          obtain ⟨b', off', hea', hblt', _, _, s0⟩ := (HSG.out.belowS HB6.out).at hq2
          subst hea hea'
          generalize S.last[j] = x at *
          generalize S.given[j] = g at *
          have p0' : wr.cell? ⟨b, off + j * 1, none⟩ = some (.int .i64 x) := p0
          have s0' : wr.cell? ⟨b', off' + j * 1, none⟩ = some (.int .i64 g) := s0
          rw [Nat.mul_one] at p0' s0'
          have HQ := Lib.hid hq
          have HG := Lib.hid (given_at hq2)
          have hj0 : (0 : Int) ≤ (j : Int) := Int.natCast_nonneg _
          have hj1 : (j : Int) < (S.last.length : Int) := by omega
          have hj2 : (j : Int) < (S.given.length : Int) := by omega
          have hj1000 : j ≤ 1000 := by omega
          obtain ⟨⟨u0, u1⟩, ⟨l0, l1⟩, z0, z1⟩ := there_bd (partsB_ok G5.out) HFI.out.used (partsB_ok G6.out) HFI.out.waste HHK.out HFI.out.parts HFI.out.heaps j
          have hth : thereM S.used S.heaps S.waste j = ofM j S.used + leftM j S.heaps + ofM j S.waste := rfl
          have HTH := Lib.hid hth
          clear hq hq2 p0 s0 hth
          go_upto_region 13 with fail
          cases h9 : isFromB x (-1) S.year with
          | false =>
            have H9 := Lib.hid h9
            have hv : mayB F.ps S = false := by simp [mayB, years_no HQ.out h9]
            have HV := Lib.hid hv
            clear hv h9
            go_quiet (first | (go_at_call 43; with_reducible refine Calls.quiet_of_same (refIn_is H9.out _)))
            go_wp2_with fail
            go_ret
            exact ⟨by rw [HV.out]; rfl, HB6.out.trans (below_drewN' _ _ _)⟩
          | true =>
            have H9 := Lib.hid h9
            clear h9
            have hof1 := fun w' hw => refOf_any F.ps.length S.ua S.uc S.used j w' hw (partsB_ok G5.out) HFI.out.used hj1000
            have hof2 := fun w' hw => refOf_any F.ps.length S.wa S.wc S.waste j w' hw (partsB_ok G6.out) HFI.out.waste hj1000
            have hlf := fun w' hw => HLE.out j w' hw HHK.out HFI.out.parts HFI.out.heaps hj1000
            generalize hgu : ofM (j : Int) S.used = U at *
            generalize hgl' : leftM (j : Int) S.heaps = L at *
            generalize hgz : ofM (j : Int) S.waste = Z at *
            have hw1 : IntKind.i64.wrap (L + U) = L + U := by rw [IntKind.wrap_i64]; omega
            have hw2 : IntKind.i64.wrap (L + U + Z) = L + U + Z := by rw [IntKind.wrap_i64]; omega
            have HO1 := Lib.hid hof1
            have HO2 := Lib.hid hof2
            have HLF := Lib.hid hlf
            have hstep : ∀ w', Below wr.heap.size wr w' → Below wr.heap.size wr w' ∧ ((w'.cell? ⟨w.heap.size + 1, 0, none⟩ = some (.int .i64 S.year) ∧ w'.cell? ⟨w.heap.size + 1, 1, none⟩ = some (.slice (some ⟨b, off, none⟩) S.last.length S.lc) ∧ w'.cell? ⟨w.heap.size + 1, 2, none⟩ = some (.slice (some ⟨b', off', none⟩) S.given.length S.gc) ∧ w'.cell? ⟨w.heap.size + 1, 3, none⟩ = some (.slice S.ha S.heaps.length S.hc) ∧ w'.cell? ⟨w.heap.size + 1, 4, none⟩ = some (.slice S.ua S.used.length S.uc) ∧ w'.cell? ⟨w.heap.size + 1, 5, none⟩ = some (.slice S.wa S.waste.length S.wc)) ∧ (w'.cell? ⟨b, off + j, none⟩ = some (.int .i64 x) ∧ w'.cell? ⟨b', off' + j, none⟩ = some (.int .i64 g))) := fun w' h => ⟨h, ⟨(h.cell (p := ⟨w.heap.size + 1, _, none⟩) lS).trans d0, (h.cell (p := ⟨w.heap.size + 1, _, none⟩) lS).trans d1, (h.cell (p := ⟨w.heap.size + 1, _, none⟩) lS).trans d2, (h.cell (p := ⟨w.heap.size + 1, _, none⟩) lS).trans d3, (h.cell (p := ⟨w.heap.size + 1, _, none⟩) lS).trans d4, (h.cell (p := ⟨w.heap.size + 1, _, none⟩) lS).trans d5⟩, (h.cell (p := ⟨b, off + j, none⟩) hblt).trans p0', (h.cell (p := ⟨b', off' + j, none⟩) hblt').trans s0'⟩
            have HSTEP := Lib.hid hstep
            clear hof1 hof2 hlf hgu hgl' hgz hstep d0 d1 d2 d3 d4 d5 f0 f1 p0' s0'
            go_region_held3 (fun w' => Below wr.heap.size wr w' ∧ ((w'.cell? ⟨w.heap.size + 1, 0, none⟩ = some (.int .i64 S.year) ∧ w'.cell? ⟨w.heap.size + 1, 1, none⟩ = some (.slice (some ⟨b, off, none⟩) S.last.length S.lc) ∧ w'.cell? ⟨w.heap.size + 1, 2, none⟩ = some (.slice (some ⟨b', off', none⟩) S.given.length S.gc) ∧ w'.cell? ⟨w.heap.size + 1, 3, none⟩ = some (.slice S.ha S.heaps.length S.hc) ∧ w'.cell? ⟨w.heap.size + 1, 4, none⟩ = some (.slice S.ua S.used.length S.uc) ∧ w'.cell? ⟨w.heap.size + 1, 5, none⟩ = some (.slice S.wa S.waste.length S.wc)) ∧ (w'.cell? ⟨b, off + j, none⟩ = some (.int .i64 x) ∧ w'.cell? ⟨b', off' + j, none⟩ = some (.int .i64 g))))
              ((refine HSTEP.out _ ?_; repeat (first | (with_reducible exact Below.refl _ _) | (with_reducible refine bel_alloc ?_ _) | (with_reducible refine bel_drew ?_) | (with_reducible refine bel_call ?_ hb5))))
              (first
                | (go_at_call 43; (with_reducible refine (refIn_is H9.out _).mono ?_); rintro r w3 ⟨rfl, rfl⟩)
                | (go_at_call 74; (refine (HLF.out _ ((HS.out.below (HB6.out.trans ((And.left (by with_reducible assumption) : Below wr.heap.size wr _).mono HB6.out.size))).heaps)).mono ?_); rintro r w5 ⟨rfl, hb5⟩)
                | (go_at_call 75; (with_reducible refine (HO1.out _ ((HS.out.below (HB6.out.trans ((And.left (by with_reducible assumption) : Below wr.heap.size wr _).mono HB6.out.size))).used)).mono ?_); rintro r w3 ⟨rfl, rfl⟩)
                | (go_at_call 75; (with_reducible refine (HO2.out _ ((HS.out.below (HB6.out.trans ((And.left (by with_reducible assumption) : Below wr.heap.size wr _).mono HB6.out.size))).waste)).mono ?_); rintro r w3 ⟨rfl, rfl⟩))
            all_goals
              by_cases he : g = L + U + Z
              · have q8 : (g == L + U + Z) = true := by simp [he]
                have q9 : (g != L + U + Z) = false := by simp [he]
                have HE := Lib.hid he
                clear he
                go_wp2_with fail
                refine ⟨⟨j + 1, by omega, by simp, fun k hk => ?_, hb.trans ((And.left (by with_reducible assumption) : Below wr.heap.size wr _).mono hb.size)⟩, by simp [intOf]; omega⟩
                by_cases hkj : k = j
                · subst hkj
                  refine ⟨fun y hy => ?_, ?_⟩
                  · rw [HQ.out] at hy
                    cases hy
                    exact H9.out
                  · rw [HG.out, HTH.out, HE.out]
                    omega
                · exact HA2.out k (by omega)
              · have q8 : (g == L + U + Z) = false := by simp [he]
                have q9 : (g != L + U + Z) = true := by simp [he]
                have hv : mayB F.ps S = false := by
                  have : balB F.ps.length S.given S.used S.heaps S.waste = false := bal_no hjn (by rw [HG.out, HTH.out]; simp; omega)
                  simp [mayB, this]
                have HV := Lib.hid hv
                clear hv
                go_wp2_with fail
                go_ret
                exact ⟨by rw [HV.out]; rfl, HB6.out.trans ((And.left (by with_reducible assumption) : Below wr.heap.size wr _).mono HB6.out.size)⟩
        · obtain rfl : j = S.last.length := by omega
          have hv : mayB F.ps S = true := by
            have h1 : yearsB F.ps.length S.year S.last = true := by
              have : (S.last.all fun x => isFromB x (-1) S.year) = true := List.all_eq_true.2 fun x hx => by
                obtain ⟨i, hi, rfl⟩ := List.getElem_of_mem hx
                exact (HA2.out i hi).1 _ (List.getElem?_eq_getElem hi)
              rw [yearsB, G1.out, this]
              simp [G2.out]
            have h2 : balB F.ps.length S.given S.used S.heaps S.waste = true := by
              have : ((List.range F.ps.length).all fun i => givenAt S.given i == thereM S.used S.heaps S.waste i) = true := List.all_eq_true.2 fun i hi => by
                rw [(HA2.out i (by rw [G2.out]; simpa using hi)).2]
                simp
              rw [balB, this, HTS.out]
              simp [G3.out, HT.out]
            rw [mayB, h1, HHB.out, G5.out, G6.out, h2]
            rfl
          have HV := Lib.hid hv
          clear hv
          go_wp2_with fail
          go_ret
          exact ⟨by rw [HV.out]; rfl, HB6.out⟩


set_option maxRecDepth 100000 in
set_option maxHeartbeats 8000000 in
theorem refCheckStore_any (F : Frm) (S : Sto) (w : World) (hF : IsFarm w F) (hS : IsStore w S) (hfit : S.fit) :
    Calls Tryz.prog 21 #[.agg #[.slice F.pa F.ps.length F.pc, .int .i64 F.dry], stoV S] w fun e w' => e = .returned (.int .i64 (storeE F S)) ∧ Below w.heap.size w w' := by
  have HF := Lib.hid hF
  have HS := Lib.hid hS
  clear hF hS
  unfold stoV
  have kB := (Blk.new w 24 (frmC F)).alloc (.cells (stoC S) 29)
  have kD := Blk.new (w.alloc (.cells (frmC F) 24)) 29 (stoC S)
  have hB : Below w.heap.size w ((w.alloc (.cells (frmC F) 24)).alloc (.cells (stoC S) 29)) := ((Below.refl _ w).alloc (by simp) _).alloc (by simp) _
  simp only [World.size_alloc] at kD
  unfold frmC stoC at kB kD hB
  go_enter Tryz.func21, Tryz.ntmps21
  go_upto_region 1 with fail
  generalize ((w.alloc (.cells #[.slice F.pa F.ps.length F.pc, .int .i64 F.dry] 24)).alloc (.cells #[.int .i64 S.year, .slice S.la S.last.length S.lc, .slice S.ga S.given.length S.gc, .slice S.ha S.heaps.length S.hc, .slice S.ua S.used.length S.uc, .slice S.wa S.waste.length S.wc] 29)) = w1 at *
  have lF := kB.lt
  have lS := kD.lt
  obtain ⟨f0, f1⟩ := frm_cells kB
  have HB0 := Lib.hid hB
  have KB0 := Lib.hid kB
  have KD0 := Lib.hid kD
  clear kB kD hB
  go_wp2_with fail
  refine (refCheck_any F _ (HF.out.below HB0.out)).mono ?_
  rintro e w2 ⟨rfl, hb⟩
  have HB1 := Lib.hid (HB0.out.trans (hb.mono HB0.out.size))
  have kB1 := KB0.out.belowS hb
  have kD1 := KD0.out.belowS hb
  clear f0 f1 lF lS hb
  by_cases hE : checkE F = 0
  · obtain ⟨hn, _⟩ := checkE_ok hE
    have hv : storeE F S = if mayB F.ps S = true then 0 else 8 := by rw [storeE, if_neg (by rw [hE]; simp)]
    have HV := Lib.hid hv
    rw [hE]
    have z1 : ((0 : Int) == 0) = true := rfl
    have lF := kB1.lt
    have lS := kD1.lt
    obtain ⟨f0, f1⟩ := frm_cells kB1
    obtain ⟨d0, d1, d2, d3, d4, d5⟩ := sto_cells kD1
    clear hv hE kB1 kD1
    go_wp2_with fail
    refine (refStored_any F S _ (HF.out.below HB1.out) (HS.out.below HB1.out) hn hfit).mono ?_
    rintro e w3 ⟨rfl, hb⟩
    have hB2 := HB1.out.trans (hb.mono HB1.out.size)
    clear d0 d1 d2 d3 d4 d5 f0 f1 lF lS hb
    cases hm : mayB F.ps S with
    | true =>
      have hv2 : storeE F S = 0 := by rw [HV.out, if_pos hm]
      have HV2 := Lib.hid hv2
      clear hv2 hm
      go_wp2_with fail
      go_ret
      exact ⟨by rw [HV2.out]; rfl, hB2⟩
    | false =>
      have hv2 : storeE F S = 8 := by rw [HV.out, if_neg (by rw [hm]; simp)]
      have HV2 := Lib.hid hv2
      clear hv2 hm
      go_wp2_with fail
      go_ret
      exact ⟨by rw [HV2.out]; rfl, hB2⟩
  · have hv : storeE F S = checkE F := by rw [storeE, if_pos hE]
    have HV := Lib.hid hv
    clear hv
    generalize checkE F = E at *
    have z1 : (E == 0) = false := by simp [hE]
    have z2 : (E != 0) = true := by simp [hE]
    go_wp2_with fail
    go_ret
    exact ⟨by rw [HV.out]; rfl, HB1.out⟩
end Go.Proofs.YtfhalmlpnoepcaaGreat
