/- areYears, areHeaps: which years and heaps may be of a farm. -/
import Derived.Test.YtfhalmlpnoepcaaGreatGD
import Derived.Deep.RegionWith
namespace Go.Proofs.YtfhalmlpnoepcaaGreat
open Go.RowKit

def yearsB (n : Nat) (year : Int) (last : List Int) : Bool := isFromB year 0 100 && (decide (last.length = n) && last.all fun x => isFromB x (-1) year)
theorem sto_cells {W : World} {B : Nat} {S : Sto} {t : TypeId} (k : Blk W B (stoC S) t) : W.cell? ⟨B, 0, none⟩ = some (.int .i64 S.year) ∧ W.cell? ⟨B, 1, none⟩ = some (.slice S.la S.last.length S.lc) ∧ W.cell? ⟨B, 2, none⟩ = some (.slice S.ga S.given.length S.gc) ∧
    W.cell? ⟨B, 3, none⟩ = some (.slice S.ha S.heaps.length S.hc) ∧ W.cell? ⟨B, 4, none⟩ = some (.slice S.ua S.used.length S.uc) ∧ W.cell? ⟨B, 5, none⟩ = some (.slice S.wa S.waste.length S.wc) := ⟨k.cell 0, k.cell 1, k.cell 2, k.cell 3, k.cell 4, k.cell 5⟩

set_option maxRecDepth 100000 in
set_option maxHeartbeats 4000000 in
theorem areYears_any (F : Frm) (S : Sto) (w : World) (hF : IsFarm w F) (hS : IsNums w S.la S.lc S.last) :
    Calls Tryz.prog 56 #[.agg #[.slice F.pa F.ps.length F.pc, .int .i64 F.dry], stoV S] w fun e w' => e = .returned (.bool (yearsB F.ps.length S.year S.last)) ∧ Below w.heap.size w w' := by
  obtain ⟨year, la, lc, last, ga, gc, given, ha, hc, heaps, ua, uc, used, wa, wc, waste⟩ := S
  unfold stoV
  dsimp only at hS ⊢
  have hfl := IsFarm.len hF
  have hll := hS.len
  have HS := Lib.hid hS
  clear hF hS
  have kB := (Blk.new w 24 (frmC F)).alloc (.cells (stoC ⟨year, la, lc, last, ga, gc, given, ha, hc, heaps, ua, uc, used, wa, wc, waste⟩) 29)
  have kD := Blk.new (w.alloc (.cells (frmC F) 24)) 29 (stoC ⟨year, la, lc, last, ga, gc, given, ha, hc, heaps, ua, uc, used, wa, wc, waste⟩)
  have hB : Below w.heap.size w ((w.alloc (.cells (frmC F) 24)).alloc (.cells (stoC ⟨year, la, lc, last, ga, gc, given, ha, hc, heaps, ua, uc, used, wa, wc, waste⟩) 29)) := ((Below.refl _ w).alloc (by simp) _).alloc (by simp) _
  simp only [World.size_alloc] at kD
  unfold frmC stoC at kB kD hB
  go_enter Tryz.func56, Tryz.ntmps56
  go_upto_region 1 with fail
  generalize ((w.alloc (.cells #[.slice F.pa F.ps.length F.pc, .int .i64 F.dry] 24)).alloc (.cells #[.int .i64 year, .slice la last.length lc, .slice ga given.length gc, .slice ha heaps.length hc, .slice ua used.length uc, .slice wa waste.length wc] 29)) = w1 at *
  have hltB := kB.lt
  have hltD := kD.lt
  have KD := Lib.hid kD
  obtain ⟨d0, d1, d2, d3, d4, d5⟩ := sto_cells kD
  dsimp only at d0 d1 d2 d3 d4 d5
  obtain ⟨f0, f1⟩ := frm_cells kB
  clear kB kD
  go_wp2_with fail
  refine (isFrom_any year 0 100 _).mono ?_
  rintro e w2 ⟨rfl, rfl⟩
  cases h1 : isFromB year 0 100 with
  | false =>
    have hv : yearsB F.ps.length year last = false := by simp [yearsB, h1]
    have HV := Lib.hid hv
    clear hv h1
    go_wp2_with fail
    go_ret
    exact ⟨by rw [HV.out]; rfl, hB⟩
  | true =>
  have G1 := Lib.hid h1
  clear h1
  by_cases h2 : last.length = F.ps.length
  · have q2 : ((last.length : Int) == (F.ps.length : Int)) = true := by simp [h2]
    have q2' : ((last.length : Int) != (F.ps.length : Int)) = false := by simp [h2]
    have G2 := Lib.hid h2
    clear h2
    go_wp2_with fail
    go_loopw [23, 6] (fun i _ wr => ∃ j : Nat, j ≤ last.length ∧ i = .int .i64 j ∧ (∀ k, k < j → ∀ x, last[k]? = some x → isFromB x (-1) year = true) ∧ wr = w1) (fun i _ _ => last.length - (intOf i).toNat)
    case atStart => exact ⟨0, Nat.zero_le _, rfl, fun k h => by omega, rfl⟩
    case round =>
      obtain ⟨j, hj, rfl, hall, rfl⟩ := hrel
      have HA := Lib.hid hall
      clear hall
      by_cases hlj : j < last.length
      · have hq : last[j]? = some last[j] := List.getElem?_eq_getElem hlj
        obtain ⟨b, off, hea, hblt, hcap, hcx, p0⟩ := (HS.out.belowS hB).at hq
        have hmem := List.getElem_mem hlj
        have p0' : wr.cell? ⟨b, off + j * 1, none⟩ = some (.int .i64 last[j]) := p0
        rw [Nat.mul_one] at p0'
        generalize last[j] = q at *
        subst hea
        have HQ := Lib.hid hq
        have HM := Lib.hid hmem
        clear hq hmem p0
        have hj0 : (0 : Int) ≤ (j : Int) := Int.natCast_nonneg _
        have hj1 : (j : Int) < (last.length : Int) := by omega
        go_wp2_with fail
        refine (isFrom_any q (-1) year _).mono ?_
        rintro e w2 ⟨rfl, rfl⟩
        cases h3 : isFromB q (-1) year with
        | false =>
          have hv : yearsB F.ps.length year last = false := by
            have : (last.all fun x => isFromB x (-1) year) = false := by
              rw [Bool.eq_false_iff]
              intro k
              have := List.all_eq_true.1 k q HM.out
              rw [h3] at this
              cases this
            simp [yearsB, this]
          have HV := Lib.hid hv
          clear hv h3
          go_wp2_with fail
          go_ret
          exact ⟨by rw [HV.out]; rfl, hB⟩
        | true =>
          have H3 := Lib.hid h3
          clear h3
          go_wp2_with fail
          refine ⟨⟨j + 1, by omega, by simp, fun k hk x hx => ?_, trivial⟩, by simp [intOf]; omega⟩
          by_cases hkj : k = j
          · subst hkj
            rw [HQ.out] at hx
            cases hx
            exact H3.out
          · exact HA.out k (by omega) x hx
      · obtain rfl : j = last.length := by omega
        have hv : yearsB F.ps.length year last = true := by
          have : (last.all fun x => isFromB x (-1) year) = true := List.all_eq_true.2 fun x hx => by
            obtain ⟨i, hi, rfl⟩ := List.getElem_of_mem hx
            exact HA.out i hi _ (List.getElem?_eq_getElem hi)
          rw [yearsB, G1.out, this]
          simp [G2.out]
        have HV := Lib.hid hv
        clear hv
        go_wp2_with fail
        go_ret
        exact ⟨by rw [HV.out]; rfl, hB⟩
  · have q2 : ((last.length : Int) == (F.ps.length : Int)) = false := by simp; exact fun e => h2 (by omega)
    have q2' : ((last.length : Int) != (F.ps.length : Int)) = true := by simp; exact fun e => h2 (by omega)
    have hv : yearsB F.ps.length year last = false := by simp [yearsB, h2]
    have HV := Lib.hid hv
    clear hv h2
    go_wp2_with fail
    go_ret
    exact ⟨by rw [HV.out]; rfl, hB⟩

theorem findHeap_is {a : Option Addr} {cap n : Nat} {l : List Hep} {nm : ByteArray} {v : Int} (hv : idxH l nm = v) (hn : l.length = n) (w : World) (hs : IsHeps w a cap l) :
    Calls Tryz.prog 81 #[.slice a n cap, .string nm] w fun e w' => e = .returned (.int .i64 v) ∧ Below w.heap.size w w' := by
  subst hn hv
  exact findHeap_any a cap l nm w hs
theorem isHeap_is {F : Frm} {h : Hep} {b : Bool} (hb : heapB F.ps h = b) (w : World) (hF : IsFarm w F) (hs : IsPrts w h.pa h.pc h.parts) (hnm : h.name.size ≤ maxLen) (hlen : F.ps.length ≤ 12) (hpl : h.parts.length ≤ 1000) :
    Calls Tryz.prog 82 #[.agg #[.slice F.pa F.ps.length F.pc, .int .i64 F.dry], .agg #[.string h.name, .int .i64 h.crop, .int .i64 h.stage, .slice h.pa h.parts.length h.pc, .int .i64 h.per, .int .i64 h.wlo, .int .i64 h.whi]] w
      fun e w' => e = .returned (.bool b) ∧ Below w.heap.size w w' := by
  subst hb
  exact isHeap_any F h w hF hs hnm hlen hpl

def heapAt (ps : List Plt) (l : List Hep) (i : Nat) : Bool := match l[i]? with
  | some h => !(decide (0 ≤ idxH (l.take i) h.name)) && heapB ps h
  | none => true
def heapsB (ps : List Plt) (l : List Hep) : Bool := decide (l.length ≤ 16) && (List.range l.length).all (heapAt ps l)
theorem heapsB_no {ps : List Plt} {l : List Hep} {i : Nat} (hi : i < l.length) (h : heapAt ps l i = false) : heapsB ps l = false := by
  rw [Bool.eq_false_iff]
  intro k
  simp only [heapsB, Bool.and_eq_true] at k
  have := List.all_eq_true.1 k.2 i (by simpa using hi)
  rw [h] at this
  cases this
theorem heapsB_yes {ps : List Plt} {l : List Hep} (hl : l.length ≤ 16) (h : ∀ i, i < l.length → heapAt ps l i = true) : heapsB ps l = true := by
  simp only [heapsB, Bool.and_eq_true]
  exact ⟨by simpa using hl, List.all_eq_true.2 fun i hi => h i (by simpa using hi)⟩

abbrev HeldG (W : World) (B : Nat) (F : Frm) (D : Nat) (h : Hep) (w : World) : Prop := Below W.heap.size W w ∧ ((w.cell? ⟨B, 0, none⟩ = some (.slice F.pa F.ps.length F.pc) ∧ w.cell? ⟨B, 1, none⟩ = some (.int .i64 F.dry)) ∧
  (w.cell? ⟨D, 0, none⟩ = some (.string h.name) ∧ w.cell? ⟨D, 1, none⟩ = some (.int .i64 h.crop) ∧ w.cell? ⟨D, 2, none⟩ = some (.int .i64 h.stage) ∧ w.cell? ⟨D, 3, none⟩ = some (.slice h.pa h.parts.length h.pc) ∧
    w.cell? ⟨D, 4, none⟩ = some (.int .i64 h.per) ∧ w.cell? ⟨D, 5, none⟩ = some (.int .i64 h.wlo) ∧ w.cell? ⟨D, 6, none⟩ = some (.int .i64 h.whi)))
theorem HeldG.step {W w w' : World} {B D : Nat} {F : Frm} {h : Hep} (k : HeldG W B F D h w) (hB : B < W.heap.size) (hD : D < W.heap.size) (hb : Below w.heap.size w w') : HeldG W B F D h w' := by
  have hs := k.1.size
  have c : ∀ i, w'.cell? ⟨D, i, none⟩ = w.cell? ⟨D, i, none⟩ := fun i => hb.cell (p := ⟨D, i, none⟩) (Nat.lt_of_lt_of_le hD hs)
  have c' : ∀ i, w'.cell? ⟨B, i, none⟩ = w.cell? ⟨B, i, none⟩ := fun i => hb.cell (p := ⟨B, i, none⟩) (Nat.lt_of_lt_of_le hB hs)
  obtain ⟨h0, ⟨b0, b1⟩, a0, a1, a2, a3, a4, a5, a6⟩ := k
  exact ⟨h0.trans (hb.mono hs), ⟨(c' _).trans b0, (c' _).trans b1⟩, (c _).trans a0, (c _).trans a1, (c _).trans a2, (c _).trans a3, (c _).trans a4, (c _).trans a5, (c _).trans a6⟩

set_option maxRecDepth 100000 in
set_option maxHeartbeats 4000000 in
theorem areHeaps_any (F : Frm) (a : Option Addr) (c : Nat) (l : List Hep) (w : World) (hF : IsFarm w F) (hs : IsHeps w a c l) (hlen : F.ps.length ≤ 12) (hpl : ∀ h ∈ l, h.parts.length ≤ 1000) :
    Calls Tryz.prog 57 #[.agg #[.slice F.pa F.ps.length F.pc, .int .i64 F.dry], .slice a l.length c] w fun e w' => e = .returned (.bool (heapsB F.ps l)) ∧ Below w.heap.size w w' := by
  have hll := hs.len
  have HS := Lib.hid hs
  have HF := Lib.hid hF
  have HPL := Lib.hid hpl
  clear hF hs hpl
  have kB := Blk.new w 24 (frmC F)
  have hB : Below w.heap.size w (w.alloc (.cells (frmC F) 24)) := (Below.refl _ w).alloc (by simp) _
  unfold frmC at kB hB
  by_cases h16 : 16 < l.length
  · have hv : heapsB F.ps l = false := by
      have : decide (l.length ≤ 16) = false := decide_eq_false (by omega)
      rw [heapsB, this, Bool.false_and]
    have HV := Lib.hid hv
    have q16 : (16 : Int) < (l.length : Int) := by omega
    clear hv h16
    go_enter Tryz.func57, Tryz.ntmps57
    go_wp2_with fail
    go_ret
    exact ⟨by rw [HV.out]; rfl, hB⟩
  have q16 : ¬ (16 : Int) < (l.length : Int) := by omega
  go_enter Tryz.func57, Tryz.ntmps57
  go_wp2_with fail
  go_loopw [12, 5, 6] (fun i _ _ wr => ∃ j : Nat, j ≤ l.length ∧ i = .int .i64 j ∧ (∀ k, k < j → heapAt F.ps l k = true) ∧ Blk wr w.heap.size #[.slice F.pa F.ps.length F.pc, .int .i64 F.dry] 24 ∧ Below w.heap.size w wr) (fun i _ _ _ => l.length - (intOf i).toNat)
  case atStart => exact ⟨0, Nat.zero_le _, rfl, fun k h => by omega, kB, hB⟩
  case round =>
    obtain ⟨j, hj, rfl, hall, g1, g2⟩ := hrel
    have HA := Lib.hid hall
    clear hall kB hB
    by_cases hlj : j < l.length
    · have hq : l[j]? = some l[j] := List.getElem?_eq_getElem hlj
      have hpj := HPL.out _ (List.getElem_mem hlj)
      have hat : heapAt F.ps l j = (!(decide (0 ≤ idxH (l.take j) l[j].name)) && heapB F.ps l[j]) := by rw [heapAt, hq]
      obtain ⟨b, off, hea, hblt, hcap, hcx, ⟨c0, c1, c2, c3, c4, c5, c6⟩, hpp, hnm⟩ := (HS.out.belowS g2).at hq
      subst hea
      generalize l[j] = h at *
      have HAT := Lib.hid hat
      have HPP := Lib.hid hpp
      clear hq hat hpp
      have hj0 : (0 : Int) ≤ (j : Int) := Int.natCast_nonneg _
      have hj1 : (j : Int) < (l.length : Int) := by omega
      have hj2 : (j : Int) ≤ (c : Int) := by omega
      have htl : (l.take j).length = j := take_len_of hj
      have kD := Blk.new wr 53 (hepC h)
      have kB1 := g1.alloc (.cells (hepC h) 53)
      have hb1 : Below wr.heap.size wr (wr.alloc (.cells (hepC h) 53)) := (Below.refl _ wr).alloc (Nat.le_refl _) _
      unfold hepC at kD kB1 hb1
      go_upto_region 6 with fail
      generalize wr.alloc (.cells #[.string h.name, .int .i64 h.crop, .int .i64 h.stage, .slice h.pa h.parts.length h.pc, .int .i64 h.per, .int .i64 h.wlo, .int .i64 h.whi] 53) = w1 at kD kB1 hb1 ⊢
      have HB1 := Lib.hid (g2.trans (hb1.mono g2.size))
      have HSw := Lib.hid (show IsHeps w1 _ c (l.take j) from IsRow.pre (HS.out.belowS HB1.out) j)
      have hltB := kB1.lt
      have hltD := kD.lt
      obtain ⟨d0, d1, d2, d3, d4, d5, d6⟩ := hep_cells kD
      obtain ⟨f0, f1⟩ := frm_cells kB1
      have HFw := Lib.hid (HF.out.below HB1.out)
      have HPw := Lib.hid (HPP.out.belowS hb1)
      have hx : HeldG w1 w.heap.size F wr.heap.size h w1.drew := ⟨(Below.refl _ _).drew, frm_cells kB1.drew, hep_cells kD.drew⟩
      have KB1 := Lib.hid kB1
      have KD1 := Lib.hid kD
      clear c0 c1 c2 c3 c4 c5 c6 g1 kB1 kD hb1
      go_cut [29] from 17 to 30 (fun s29 wx => s29 = .bool (!heapAt F.ps l j) ∧ Below w1.heap.size w1 wx)
      case first =>
        cases hf : (l.take j).findIdx? (fun x => strB x.name h.name) with
        | some k =>
          have hid : idxH (l.take j) h.name = (k : Int) := by rw [idxH, hf]
          have hk0 : (0 : Int) ≤ (k : Int) := Int.natCast_nonneg _
          have hno : heapAt F.ps l j = false := by rw [HAT.out, hid]; simp
          have HNO := Lib.hid hno
          have HID := Lib.hid hid
          clear hno hid hf
          go_region_with (go_at_call 81; refine (findHeap_is HID.out htl _ (HSw.out.belowS (Below.refl _ _).drew)).mono ?_; rintro e w2 ⟨rfl, hb2⟩)
          all_goals
            go_wp2_with fail
            go_meet
            exact ⟨by rw [HNO.out]; rfl, (Below.refl _ _).drew.trans (hb2.mono (Nat.le_refl _))⟩
        | none =>
          have hid : idxH (l.take j) h.name = -1 := by rw [idxH, hf]
          have hh : heapAt F.ps l j = heapB F.ps h := by rw [HAT.out, hid]; simp
          have HH := Lib.hid hh
          have HID := Lib.hid hid
          clear hh hid hf
          go_region_with (first
            | (go_at_call 81; refine (findHeap_is HID.out htl _ (HSw.out.belowS (Below.refl _ _).drew)).mono ?_; rintro e w2 ⟨rfl, hb2⟩; have hb2 := (Below.refl w1.heap.size w1).drew.trans hb2; have kB2 := KB1.out.belowS hb2; have kD2 := KD1.out.belowS hb2; have l2 := kB2.lt; have l3 := kD2.lt; obtain ⟨z0, z1, z2, z3, z4, z5, z6⟩ := hep_cells kD2; obtain ⟨y0, y1⟩ := frm_cells kB2; clear kB2 kD2)
            | (go_at_call 82; refine (isHeap_any F h _ (HFw.out.below hb2) (HPw.out.belowS hb2) hnm hlen hpj).mono ?_; rintro e w3 ⟨rfl, hb3⟩))
          all_goals
            go_wp2_with fail
            go_meet
            exact ⟨by rw [HH.out], hb2.trans (hb3.mono hb2.size)⟩
      case rest =>
        obtain ⟨rfl, hcx2⟩ := hcut
        obtain ⟨w4, rfl⟩ : ∃ w4 : World, w4 = wc := ⟨_, rfl⟩
        have HB4 := Lib.hid (HB1.out.trans (hcx2.mono HB1.out.size))
        have kF4 := KB1.out.belowS hcx2
        cases hpa : heapAt F.ps l j with
        | false =>
          have hv := heapsB_no hlj hpa
          have HV := Lib.hid hv
          clear hv hpa
          go_wp2_with fail
          go_ret
          exact ⟨by rw [HV.out]; rfl, HB4.out⟩
        | true =>
          have HPA := Lib.hid hpa
          clear hpa
          go_wp2_with fail
          refine ⟨⟨j + 1, by omega, by simp, fun k hk => ?_, kF4, HB4.out⟩, by simp [intOf]; omega⟩
          by_cases hkj : k = j
          · subst hkj; exact HPA.out
          · exact HA.out k (by omega)
    · obtain rfl : j = l.length := by omega
      have hv := heapsB_yes (by omega) HA.out
      have HV := Lib.hid hv
      clear hv
      go_wp2_with fail
      go_ret
      exact ⟨by rw [HV.out]; rfl, g2⟩
end Go.Proofs.YtfhalmlpnoepcaaGreat
