/- How many rows are even: even and Even of the program. No condition but the bounds of what is given. -/
import Derived.Test.YtmcmhgjlpffcnaaRG
set_option linter.unusedSimpArgs false
namespace Go.Proofs.Ytmcmhgjlpffcnaa
open Go.RowKit

theorem tmod_two (n : Nat) : Int.tmod (n : Int) 2 = ((n % 2 : Nat) : Int) := by rw [Int.tmod_eq_emod_of_nonneg (by omega)]; omega
theorem tdiv_two (n : Nat) : Int.tdiv (n : Int) 2 = ((n / 2 : Nat) : Int) := by rw [Int.tdiv_eq_ediv_of_nonneg (by omega)]; omega
theorem mid_odd {R : Rdg} (h : ¬ R.top.n % 2 = 0) : ∀ k, sumTo (midN R) k = 0
  | 0 => rfl
  | k + 1 => by rw [sumTo, mid_odd h k, midN, if_neg h]

theorem wrap_half (d : Nat) (hd : d ≤ 2000) : wrap64 ((d : Int) / 2) = ((d / 2 : Nat) : Int) := by
  first
    | (show IntKind.i64.wrap _ = _; rw [IntKind.wrap_i64]; omega)
    | (unfold wrap64; omega)
set_option maxRecDepth 100000 in
set_option maxHeartbeats 16000000 in
theorem even_any (R : Rdg) (T : Nat) (w : World) (hE : waysE R = 0) (hrow : IsPcs w R.pa R.pc R.ps) :
    Calls Try.prog 56 #[.agg #[.int .i64 R.len, .int .i64 R.st, .int .i64 R.en, .slice R.pa R.ps.length R.pc, .pointer (some ⟨T, 0, none⟩)]] w fun e w' => e = .returned (.int .i64 (evenN R : Int)) ∧ Below w.heap.size w w' := by
  have hro := rdgE_ridge (waysE_zero hE).1
  have k1 := Blk.new w 67 #[.int .i64 R.len, .int .i64 R.st, .int .i64 R.en, .slice R.pa R.ps.length R.pc, .pointer (some ⟨T, 0, none⟩)]
  have hb1 : Below w.heap.size w (w.alloc (.cells #[.int .i64 R.len, .int .i64 R.st, .int .i64 R.en, .slice R.pa R.ps.length R.pc, .pointer (some ⟨T, 0, none⟩)] 67)) := (Below.refl _ w).alloc (Nat.le_refl _) _
  have HEE := Lib.hid hE
  have HRO := Lib.hid hro
  have HROW := Lib.hid hrow
  have HTS := Lib.hid (show R.len = (R.top.n : Int) by have := hro.1; simp only [Rdg.top]; omega)
  have htn := hro.top.1
  have hps10 := hro.2.2.2.1
  clear hE hro hrow
  go_enter Try.func56, Try.ntmps56
  go_upto_region 1 with fail
  have g0 := k1.cell 0
  have g1 := k1.cell 1
  have g2 := k1.cell 2
  have g3 := k1.cell 3
  have g4 := k1.cell 4
  simp only [List.getElem?_toArray, List.getElem?_cons_zero, List.getElem?_cons_succ] at g0 g1 g2 g3 g4
  have hl1 := k1.lt
  go_upto_region 2 with fail
  have k2 := Blk.new (w.alloc (.cells #[.int .i64 R.len, .int .i64 R.st, .int .i64 R.en, .slice R.pa R.ps.length R.pc, .pointer (some ⟨T, 0, none⟩)] 67)) 24 #[.int .i64 R.len, .int .i64 R.st, .int .i64 R.en, .slice R.pa R.ps.length R.pc]
  have hb2 := hb1.alloc hb1.size (.cells #[.int .i64 R.len, .int .i64 R.st, .int .i64 R.en, .slice R.pa R.ps.length R.pc] 24)
  rw [World.size_alloc] at k2
  clear g0 g1 g2 g3 g4 hl1 k1 hb1
  generalize (w.alloc (.cells #[.int .i64 R.len, .int .i64 R.st, .int .i64 R.en, .slice R.pa R.ps.length R.pc, .pointer (some ⟨T, 0, none⟩)] 67)).alloc (.cells #[.int .i64 R.len, .int .i64 R.st, .int .i64 R.en, .slice R.pa R.ps.length R.pc] 24) = w2 at *
  obtain ⟨B, hB⟩ : ∃ B, w.heap.size + 1 = B := ⟨_, rfl⟩
  rw [hB] at k2 ⊢
  clear hB
  have K2 := Lib.hid k2
  have HB2 := Lib.hid hb2
  obtain ⟨r0, r1, r2, r3⟩ := rdg_cells (R := R) k2
  have hlr := k2.lt
  clear k2 hb2
  by_cases hs : R.st = R.en
  rotate_left
  · have q : (R.st != R.en) = true := by simpa using hs
    have HV := Lib.hid (show evenN R = 0 by unfold evenN; rw [if_neg hs])
    clear hs
    go_wp2_with fail
    go_ret
    exact ⟨by rw [HV.out]; rfl, HB2.out⟩
  have q : (R.st != R.en) = false := by simpa using hs
  have HS := Lib.hid hs
  have HV := Lib.hid (show evenN R = sumTo (midN R) 10 + sumTo (sideN R) R.ps.length by unfold evenN; rw [if_pos hs])
  rw [HTS.out] at r0
  have hmid : ∀ p, midN R p ≤ MW := mid_le HEE.out hs
  have hside : ∀ i, sideN R i ≤ MW := sideN_le HEE.out hs
  have HMI := Lib.hid hmid
  have HSI := Lib.hid hside
  have em := tmod_two R.top.n
  have ed := tdiv_two R.top.n
  clear hs hmid hside
  go_upto_region 5 with fail
  by_cases h2 : R.top.n % 2 = 0
  rotate_left
  · have h21 : R.top.n % 2 = 1 := by omega
    rw [h21] at em
    have HS0 := Lib.hid (mid_odd h2 10).symm
    obtain ⟨S0, hS0⟩ : ∃ S0 : Nat, 0 = S0 := ⟨_, rfl⟩
    have HS0 := Lib.hid (show S0 = sumTo (midN R) 10 by rw [← hS0]; exact (mid_odd h2 10).symm)
    have HKA := Lib.hid K2.out
    have HBA := Lib.hid HB2.out
    have HZ := Lib.hid hS0
    clear hS0
    go_wp2_with fail
    clear em ed h21
    have hS0M : S0 ≤ MW * 10 := by rw [HS0.out]; exact sumTo_le HMI.out 10
    clear r0 r1 r2 r3 hlr
    go_loopw [4, 35, 6, 7, 8] (fun s4 s35 _ _ _ wv => ∃ i : Nat, i ≤ R.ps.length ∧ s35 = .int .i64 i ∧ s4 = .int .i64 ((S0 + sumTo (sideN R) i : Nat) : Int) ∧ Blk wv B #[.int .i64 R.len, .int .i64 R.st, .int .i64 R.en, .slice R.pa R.ps.length R.pc] 24 ∧ Below w.heap.size w wv) (fun _ s35 _ _ _ _ => R.ps.length - (intOf s35).toNat)
    case atStart => exact ⟨0, Nat.zero_le _, rfl, by rw [← HZ.out]; rfl, HKA.out, HBA.out⟩
    case round =>
      obtain ⟨i, hi, rfl, rfl, hk, hb⟩ := hrel
      have HK := Lib.hid hk
      have HB := Lib.hid hb
      obtain ⟨wo, rfl⟩ : ∃ wo : World, wo = wr := ⟨_, rfl⟩
      have hi0 : (0 : Int) ≤ (i : Int) := Int.natCast_nonneg _
      have hsle := sumTo_le HSI.out i
      have hsl2 : MW * i ≤ MW * 10 := Nat.mul_le_mul_left _ (by omega)
      obtain ⟨r0, r1, r2, r3⟩ := rdg_cells (R := R) hk
      have hlr := hk.lt
      by_cases hil : i < R.ps.length
      rotate_left
      · obtain rfl : i = R.ps.length := by omega
        have hjj : ¬ (R.ps.length : Int) < (R.ps.length : Int) := by omega
        have HFI := Lib.hid (show S0 + sumTo (sideN R) R.ps.length = evenN R by rw [HV.out, HS0.out])
        rw [HFI.out]
        clear hk hb hil hi hsle hsl2
        go_wp2_with fail
        go_ret
        exact ⟨rfl, HB.out⟩
      · have hq : R.ps[i]? = some R.ps[i] := List.getElem?_eq_getElem hil
        obtain ⟨b, off, e, hbl, hc1, hc2, hp⟩ := (HROW.out.belowS hb).at hq
        have hxo := HRO.out.2.2.2.2 _ (List.mem_of_getElem? hq)
        have hsn : sideN R i = if sideC R i R.ps[i] then wy R.ps R.ps[i].lf.toNat ⟨(R.top.n - R.ps[i].wd.toNat) / 2, R.top.p⟩ else 0 := by unfold sideN; rw [hq]
        generalize R.ps[i] = x at *
        obtain ⟨p0, p1, p2, p3, p4⟩ := hp
        have HQ := Lib.hid hq
        have HSN := Lib.hid hsn
        obtain ⟨⟨w1', w2'⟩, ⟨l1', l2'⟩, -⟩ := hxo
        have hi1 : (i : Int) < (R.ps.length : Int) := by omega
        obtain ⟨q, hq'⟩ : ∃ q, S0 + sumTo (sideN R) i = q := ⟨_, rfl⟩
        have hqM : q ≤ MW * 20 := by omega
        have HQQ := Lib.hid (show S0 + sumTo (sideN R) (i + 1) = q + sideN R i by rw [sumTo, ← Nat.add_assoc, hq'])
        rw [hq']
        have HE := Lib.hid e
        rw [e] at r3 ⊢
        rw [HTS.out] at r0
        have esb : IntKind.i64.wrap ((R.top.n : Int) - x.wd) = (R.top.n : Int) - x.wd := by rw [IntKind.wrap_i64]; omega
        clear hk hb hq hsn e hq' hsle hsl2
        go_upto_region 14 with fail
        have kX := Blk.new wo 54 #[.string x.name, .int .i64 x.wd, .int .i64 x.lf, .int .i64 x.rt, .int .i64 x.mr]
        have hbx : Below wo.heap.size wo (wo.alloc (.cells #[.string x.name, .int .i64 x.wd, .int .i64 x.lf, .int .i64 x.rt, .int .i64 x.mr] 54)) := (Below.refl _ _).alloc (Nat.le_refl _) _
        obtain ⟨Bx, hBx⟩ : ∃ Bx, wo.heap.size = Bx := ⟨_, rfl⟩
        have HKX := Lib.hid (HK.out.belowS hbx)
        have HBX := Lib.hid (HB.out.trans (hbx.mono HB.out.size))
        clear r0 r1 r2 r3 hlr p0 p1 p2 p3 p4 hbl
        rw [hBx] at kX ⊢
        generalize wo.alloc (.cells #[.string x.name, .int .i64 x.wd, .int .i64 x.lf, .int .i64 x.rt, .int .i64 x.mr] 54) = wx at *
        obtain ⟨r0, r1, r2, r3⟩ := rdg_cells (R := R) HKX.out
        rw [HTS.out] at r0
        have hlr := HKX.out.lt
        obtain ⟨x0, x1, x2, x3, x4⟩ := pce_cells (x := x) kX
        have lX := kX.lt
        clear kX hbx hBx
        have hno : ¬ sideC R i x → S0 + sumTo (sideN R) (i + 1) = q := fun h => by rw [HQQ.out, HSN.out, if_neg h]; rfl
        have HNO := Lib.hid hno
        clear hno
        by_cases t1 : x.mr = (i : Int)
        rotate_left
        · have z : (x.mr == (i : Int)) = false := by simpa using t1
          have HF := Lib.hid (HNO.out (fun h => t1 h.1))
          clear t1
          go_wp2_with fail
          try rw [← HE.out]
          first
            | exact ⟨⟨i + 1, by omega, by simp, by first | (rw [HF.out]; done) | (rw [HF.out]; simp; done) | (rw [← HF.out]; simp; done) | (have := HF.out; simp; omega), HKX.out, HBX.out⟩, by simp [intOf]; omega⟩
            | exact ⟨⟨_, _, _, _, _, ⟨i + 1, by omega, by simp, by first | (rw [HF.out]; done) | (rw [HF.out]; simp; done) | (rw [← HF.out]; simp; done) | (have := HF.out; simp; omega), HKX.out, HBX.out⟩, rfl, rfl, rfl, rfl, rfl⟩, by simp [intOf]; omega⟩
            | exact ⟨⟨_, _, _, _, _, _, _, _, _, _, _, _, _, _, _, _, _, _, _, _, _, _, _, _, _, _, _, _, _, _, _, _, _, _, _, _, ⟨i + 1, by omega, by simp, by first | (rw [HF.out]; done) | (rw [HF.out]; simp; done) | (rw [← HF.out]; simp; done) | (have := HF.out; simp; omega), HKX.out, HBX.out⟩, rfl⟩, by simp [intOf]; omega⟩
        have T1 := Lib.hid t1
        have z1 : (x.mr == (i : Int)) = true := by simpa using t1
        clear t1
        by_cases t2 : (0 : Int) ≤ (R.top.n : Int) - x.wd
        rotate_left
        · have HF := Lib.hid (HNO.out (fun h => t2 (by have := h.2.1; rw [HTS.out] at this; omega)))
          go_wp2_with fail
          try rw [← HE.out]
          first
            | exact ⟨⟨i + 1, by omega, by simp, by first | (rw [HF.out]; done) | (rw [HF.out]; simp; done) | (rw [← HF.out]; simp; done) | (have := HF.out; simp; omega), HKX.out, HBX.out⟩, by simp [intOf]; omega⟩
            | exact ⟨⟨_, _, _, _, _, ⟨i + 1, by omega, by simp, by first | (rw [HF.out]; done) | (rw [HF.out]; simp; done) | (rw [← HF.out]; simp; done) | (have := HF.out; simp; omega), HKX.out, HBX.out⟩, rfl, rfl, rfl, rfl, rfl⟩, by simp [intOf]; omega⟩
            | exact ⟨⟨_, _, _, _, _, _, _, _, _, _, _, _, _, _, _, _, _, _, _, _, _, _, _, _, _, _, _, _, _, _, _, _, _, _, _, _, ⟨i + 1, by omega, by simp, by first | (rw [HF.out]; done) | (rw [HF.out]; simp; done) | (rw [← HF.out]; simp; done) | (have := HF.out; simp; omega), HKX.out, HBX.out⟩, rfl⟩, by simp [intOf]; omega⟩
        obtain ⟨d, hd⟩ : ∃ d : Nat, (R.top.n : Int) - x.wd = (d : Int) := ⟨((R.top.n : Int) - x.wd).toNat, by omega⟩
        have hdd : R.top.n - x.wd.toNat = d := by omega
        rw [hd] at esb t2
        have em3 := tmod_two d
        by_cases t3 : d % 2 = 0
        rotate_left
        · have HF := Lib.hid (HNO.out (fun h => t3 (by have := h.2.2; rw [hdd] at this; exact this)))
          have hd1 : d % 2 = 1 := by omega
          rw [hd1] at em3
          go_wp2_with fail
          try rw [← HE.out]
          first
            | exact ⟨⟨i + 1, by omega, by simp, by first | (rw [HF.out]; done) | (rw [HF.out]; simp; done) | (rw [← HF.out]; simp; done) | (have := HF.out; simp; omega), HKX.out, HBX.out⟩, by simp [intOf]; omega⟩
            | exact ⟨⟨_, _, _, _, _, ⟨i + 1, by omega, by simp, by first | (rw [HF.out]; done) | (rw [HF.out]; simp; done) | (rw [← HF.out]; simp; done) | (have := HF.out; simp; omega), HKX.out, HBX.out⟩, rfl, rfl, rfl, rfl, rfl⟩, by simp [intOf]; omega⟩
            | exact ⟨⟨_, _, _, _, _, _, _, _, _, _, _, _, _, _, _, _, _, _, _, _, _, _, _, _, _, _, _, _, _, _, _, _, _, _, _, _, ⟨i + 1, by omega, by simp, by first | (rw [HF.out]; done) | (rw [HF.out]; simp; done) | (rw [← HF.out]; simp; done) | (have := HF.out; simp; omega), HKX.out, HBX.out⟩, rfl⟩, by simp [intOf]; omega⟩
        · have hc : sideC R i x := ⟨T1.out, by rw [HTS.out]; omega, by rw [hdd]; exact t3⟩
          have hb2 := side_one HEE.out HS.out HQ.out hc
          rw [hdd] at hb2
          have HF := Lib.hid (show S0 + sumTo (sideN R) (i + 1) = q + wy R.ps x.lf.toNat ⟨d / 2, R.top.p⟩ by rw [HQQ.out, HSN.out, if_pos hc, hdd])
          obtain ⟨lf, hlf⟩ : ∃ lf : Nat, x.lf = (lf : Int) := ⟨x.lf.toNat, by omega⟩
          rw [hlf, Int.toNat_natCast] at hb2 HF
          rw [hlf] at x2
          have HHA := Lib.hid (fun W (h : Below w.heap.size w W) => halves_any R (d / 2) lf W HRO.out (by omega) (by omega) (HROW.out.belowS h) hb2)
          have ed3 := wrap_half d (by omega)
          obtain ⟨dh, hdh⟩ : ∃ dh, d / 2 = dh := ⟨_, rfl⟩
          rw [hdh] at HHA ed3 hb2 HF
          obtain ⟨m, hm⟩ : ∃ m, wy R.ps lf ⟨dh, R.top.p⟩ = m := ⟨_, rfl⟩
          simp only [hm] at HHA
          rw [hm] at HF hb2
          have ea : IntKind.i64.wrap ((q : Int) + (m : Int)) = ((q + m : Nat) : Int) := by
            unfold MW at *
            rw [IntKind.wrap_i64]
            omega
          rw [t3] at em3
          have HTS2 := Lib.hid HTS.out
          have HED := Lib.hid ed3
          clear hc hm hdd hb2 hdh ed3
          rw [← HTS.out] at r0
          have esb2 : IntKind.i64.wrap (R.len - x.wd) = (d : Int) := by rw [HTS.out, hd]; exact esb
          clear esb hd
          go_wp2_with fail
          try rw [← HE.out]
          rw [HED.out]
          refine (HHA.out wx HBX.out).mono ?_
          rintro e w9 ⟨rfl, hb9⟩
          have HK9 := Lib.hid (HKX.out.belowS hb9)
          have HB9 := Lib.hid (HBX.out.trans (hb9.mono HBX.out.size))
          clear hb9 r0 r1 r2 r3 hlr x0 x1 x2 x3 x4 lX HHA
          go_wp2_with fail
          try rw [← HE.out]
          first
            | exact ⟨⟨i + 1, by omega, by simp, by first | (rw [HF.out]; done) | (rw [HF.out]; simp; done) | (rw [← HF.out]; simp; done) | (have := HF.out; simp; omega), HK9.out, HB9.out⟩, by simp [intOf]; omega⟩
            | exact ⟨⟨_, _, _, _, _, ⟨i + 1, by omega, by simp, by first | (rw [HF.out]; done) | (rw [HF.out]; simp; done) | (rw [← HF.out]; simp; done) | (have := HF.out; simp; omega), HK9.out, HB9.out⟩, rfl, rfl, rfl, rfl, rfl⟩, by simp [intOf]; omega⟩
            | exact ⟨⟨_, _, _, _, _, _, _, _, _, _, _, _, _, _, _, _, _, _, _, _, _, _, _, _, _, _, _, _, _, _, _, _, _, _, _, _, ⟨i + 1, by omega, by simp, by first | (rw [HF.out]; done) | (rw [HF.out]; simp; done) | (rw [← HF.out]; simp; done) | (have := HF.out; simp; omega), HK9.out, HB9.out⟩, rfl⟩, by simp [intOf]; omega⟩
  · have HH2 := Lib.hid h2
    have HHA := Lib.hid (fun (p : Nat) (hp : p ≤ 9) W (h : Below w.heap.size w W) => halves_any R (R.top.n / 2) p W HRO.out (by omega) hp (HROW.out.belowS h) (by have := HMI.out p; rw [midN, if_pos h2] at this; exact this))
    rw [h2] at em
    go_wp2_with fail
    clear r0 r1 r2 r3 hlr
    go_loopw [4, 5, 20] (fun s4 _ s20 wv => ∃ p : Nat, p ≤ 10 ∧ s20 = .int .i64 p ∧ s4 = .int .i64 (sumTo (midN R) p : Nat) ∧ Blk wv B #[.int .i64 R.len, .int .i64 R.st, .int .i64 R.en, .slice R.pa R.ps.length R.pc] 24 ∧ Below w.heap.size w wv) (fun _ _ s20 _ => 10 - (intOf s20).toNat)
    case atStart => exact ⟨0, Nat.zero_le _, rfl, rfl, K2.out, HB2.out⟩
    case round =>
      obtain ⟨p, hp, rfl, rfl, hk, hb⟩ := hrel
      have HKA := Lib.hid hk
      have HBA := Lib.hid hb
      obtain ⟨wp, rfl⟩ : ∃ wp : World, wp = wr := ⟨_, rfl⟩
      obtain ⟨r0, r1, r2, r3⟩ := rdg_cells (R := R) hk
      have hlr := hk.lt
      by_cases hp10 : p < 10
      · have hpi : (p : Int) < 10 := by omega
        have hml := HMI.out p
        have hsl := sumTo_le HMI.out p
        have hsl2 : MW * p ≤ MW * 10 := Nat.mul_le_mul_left _ (by omega)
        have hmv : midN R p = wy R.ps p ⟨R.top.n / 2, R.top.p⟩ := by rw [midN, if_pos HH2.out]
        have hcall := HHA.out p (by omega) wp hb
        rw [← hmv] at hcall
        obtain ⟨nh, hnh⟩ : ∃ nh, R.top.n / 2 = nh := ⟨_, rfl⟩
        rw [hnh] at hcall
        have HCALL := Lib.hid hcall
        have HSS := Lib.hid (show sumTo (midN R) (p + 1) = sumTo (midN R) p + midN R p from rfl)
        obtain ⟨m, hm⟩ : ∃ m, midN R p = m := ⟨_, rfl⟩
        obtain ⟨q, hq⟩ : ∃ q, sumTo (midN R) p = q := ⟨_, rfl⟩
        rw [hm] at HCALL HSS hml
        rw [hq] at HSS hsl ⊢
        have ea : IntKind.i64.wrap ((q : Int) + (m : Int)) = ((q + m : Nat) : Int) := by
          unfold MW at *
          rw [IntKind.wrap_i64]
          omega
        have ed2 : wrap64 (R.len.tdiv 2) = (nh : Int) := by rw [HTS.out, Int.tdiv_eq_ediv_of_nonneg (by omega), ← hnh]; exact wrap_half _ htn
        have ed4 : wrap64 (R.len / 2) = (nh : Int) := by rw [HTS.out, ← hnh]; exact wrap_half _ htn
        have HED2 := Lib.hid ed2
        have HED4 := Lib.hid ed4
        clear ed2 ed4 hnh ed hk hb hcall hm hq hmv hml hsl hsl2
        go_wp2_with fail
        (first | rw [HED2.out] | rw [HED4.out])
        refine HCALL.out.mono ?_
        rintro e w9 ⟨rfl, hb9⟩
        have HK9 := Lib.hid (HKA.out.belowS hb9)
        have HB9 := Lib.hid (HBA.out.trans (hb9.mono HBA.out.size))
        clear hb9 r0 r1 r2 r3 hlr HCALL
        go_wp2_with fail
        exact ⟨⟨p + 1, by omega, by simp, by rw [HSS.out]; simp, HK9.out, HB9.out⟩, by simp [intOf]; omega⟩
      · obtain rfl : p = 10 := by omega
        obtain ⟨S0, hS0⟩ : ∃ S0 : Nat, sumTo (midN R) 10 = S0 := ⟨_, rfl⟩
        have HS0 := Lib.hid hS0.symm
        rw [hS0]
        clear hk hb hS0 em ed h2
        go_wp2_with fail
        have hS0M : S0 ≤ MW * 10 := by rw [HS0.out]; exact sumTo_le HMI.out 10
        clear r0 r1 r2 r3 hlr
        go_loopw [4, 35, 6, 7, 8] (fun s4 s35 _ _ _ wv => ∃ i : Nat, i ≤ R.ps.length ∧ s35 = .int .i64 i ∧ s4 = .int .i64 ((S0 + sumTo (sideN R) i : Nat) : Int) ∧ Blk wv B #[.int .i64 R.len, .int .i64 R.st, .int .i64 R.en, .slice R.pa R.ps.length R.pc] 24 ∧ Below w.heap.size w wv) (fun _ s35 _ _ _ _ => R.ps.length - (intOf s35).toNat)
        case atStart => exact ⟨0, Nat.zero_le _, rfl, rfl, HKA.out, HBA.out⟩
        case round =>
          obtain ⟨i, hi, rfl, rfl, hk, hb⟩ := hrel
          have HK := Lib.hid hk
          have HB := Lib.hid hb
          obtain ⟨wo, rfl⟩ : ∃ wo : World, wo = wr := ⟨_, rfl⟩
          have hi0 : (0 : Int) ≤ (i : Int) := Int.natCast_nonneg _
          have hsle := sumTo_le HSI.out i
          have hsl2 : MW * i ≤ MW * 10 := Nat.mul_le_mul_left _ (by omega)
          obtain ⟨r0, r1, r2, r3⟩ := rdg_cells (R := R) hk
          have hlr := hk.lt
          by_cases hil : i < R.ps.length
          rotate_left
          · obtain rfl : i = R.ps.length := by omega
            have hjj : ¬ (R.ps.length : Int) < (R.ps.length : Int) := by omega
            have HFI := Lib.hid (show S0 + sumTo (sideN R) R.ps.length = evenN R by rw [HV.out, HS0.out])
            rw [HFI.out]
            clear hk hb hil hi hsle hsl2
            go_wp2_with fail
            go_ret
            exact ⟨rfl, HB.out⟩
          · have hq : R.ps[i]? = some R.ps[i] := List.getElem?_eq_getElem hil
            obtain ⟨b, off, e, hbl, hc1, hc2, hp⟩ := (HROW.out.belowS hb).at hq
            have hxo := HRO.out.2.2.2.2 _ (List.mem_of_getElem? hq)
            have hsn : sideN R i = if sideC R i R.ps[i] then wy R.ps R.ps[i].lf.toNat ⟨(R.top.n - R.ps[i].wd.toNat) / 2, R.top.p⟩ else 0 := by unfold sideN; rw [hq]
            generalize R.ps[i] = x at *
            obtain ⟨p0, p1, p2, p3, p4⟩ := hp
            have HQ := Lib.hid hq
            have HSN := Lib.hid hsn
            obtain ⟨⟨w1', w2'⟩, ⟨l1', l2'⟩, -⟩ := hxo
            have hi1 : (i : Int) < (R.ps.length : Int) := by omega
            obtain ⟨q, hq'⟩ : ∃ q, S0 + sumTo (sideN R) i = q := ⟨_, rfl⟩
            have hqM : q ≤ MW * 20 := by omega
            have HQQ := Lib.hid (show S0 + sumTo (sideN R) (i + 1) = q + sideN R i by rw [sumTo, ← Nat.add_assoc, hq'])
            rw [hq']
            have HE := Lib.hid e
            rw [e] at r3 ⊢
            rw [HTS.out] at r0
            have esb : IntKind.i64.wrap ((R.top.n : Int) - x.wd) = (R.top.n : Int) - x.wd := by rw [IntKind.wrap_i64]; omega
            clear hk hb hq hsn e hq' hsle hsl2
            go_upto_region 14 with fail
            have kX := Blk.new wo 54 #[.string x.name, .int .i64 x.wd, .int .i64 x.lf, .int .i64 x.rt, .int .i64 x.mr]
            have hbx : Below wo.heap.size wo (wo.alloc (.cells #[.string x.name, .int .i64 x.wd, .int .i64 x.lf, .int .i64 x.rt, .int .i64 x.mr] 54)) := (Below.refl _ _).alloc (Nat.le_refl _) _
            obtain ⟨Bx, hBx⟩ : ∃ Bx, wo.heap.size = Bx := ⟨_, rfl⟩
            have HKX := Lib.hid (HK.out.belowS hbx)
            have HBX := Lib.hid (HB.out.trans (hbx.mono HB.out.size))
            clear r0 r1 r2 r3 hlr p0 p1 p2 p3 p4 hbl
            rw [hBx] at kX ⊢
            generalize wo.alloc (.cells #[.string x.name, .int .i64 x.wd, .int .i64 x.lf, .int .i64 x.rt, .int .i64 x.mr] 54) = wx at *
            obtain ⟨r0, r1, r2, r3⟩ := rdg_cells (R := R) HKX.out
            rw [HTS.out] at r0
            have hlr := HKX.out.lt
            obtain ⟨x0, x1, x2, x3, x4⟩ := pce_cells (x := x) kX
            have lX := kX.lt
            clear kX hbx hBx
            have hno : ¬ sideC R i x → S0 + sumTo (sideN R) (i + 1) = q := fun h => by rw [HQQ.out, HSN.out, if_neg h]; rfl
            have HNO := Lib.hid hno
            clear hno
            by_cases t1 : x.mr = (i : Int)
            rotate_left
            · have z : (x.mr == (i : Int)) = false := by simpa using t1
              have HF := Lib.hid (HNO.out (fun h => t1 h.1))
              clear t1
              go_wp2_with fail
              try rw [← HE.out]
              first
                | exact ⟨⟨i + 1, by omega, by simp, by first | (rw [HF.out]; done) | (rw [HF.out]; simp; done) | (rw [← HF.out]; simp; done) | (have := HF.out; simp; omega), HKX.out, HBX.out⟩, by simp [intOf]; omega⟩
                | exact ⟨⟨_, _, _, _, _, ⟨i + 1, by omega, by simp, by first | (rw [HF.out]; done) | (rw [HF.out]; simp; done) | (rw [← HF.out]; simp; done) | (have := HF.out; simp; omega), HKX.out, HBX.out⟩, rfl, rfl, rfl, rfl, rfl⟩, by simp [intOf]; omega⟩
                | exact ⟨⟨_, _, _, _, _, _, _, _, _, _, _, _, _, _, _, _, _, _, _, _, _, _, _, _, _, _, _, _, _, _, _, _, _, _, _, _, ⟨i + 1, by omega, by simp, by first | (rw [HF.out]; done) | (rw [HF.out]; simp; done) | (rw [← HF.out]; simp; done) | (have := HF.out; simp; omega), HKX.out, HBX.out⟩, rfl⟩, by simp [intOf]; omega⟩
            have T1 := Lib.hid t1
            have z1 : (x.mr == (i : Int)) = true := by simpa using t1
            clear t1
            by_cases t2 : (0 : Int) ≤ (R.top.n : Int) - x.wd
            rotate_left
            · have HF := Lib.hid (HNO.out (fun h => t2 (by have := h.2.1; rw [HTS.out] at this; omega)))
              go_wp2_with fail
              try rw [← HE.out]
              first
                | exact ⟨⟨i + 1, by omega, by simp, by first | (rw [HF.out]; done) | (rw [HF.out]; simp; done) | (rw [← HF.out]; simp; done) | (have := HF.out; simp; omega), HKX.out, HBX.out⟩, by simp [intOf]; omega⟩
                | exact ⟨⟨_, _, _, _, _, ⟨i + 1, by omega, by simp, by first | (rw [HF.out]; done) | (rw [HF.out]; simp; done) | (rw [← HF.out]; simp; done) | (have := HF.out; simp; omega), HKX.out, HBX.out⟩, rfl, rfl, rfl, rfl, rfl⟩, by simp [intOf]; omega⟩
                | exact ⟨⟨_, _, _, _, _, _, _, _, _, _, _, _, _, _, _, _, _, _, _, _, _, _, _, _, _, _, _, _, _, _, _, _, _, _, _, _, ⟨i + 1, by omega, by simp, by first | (rw [HF.out]; done) | (rw [HF.out]; simp; done) | (rw [← HF.out]; simp; done) | (have := HF.out; simp; omega), HKX.out, HBX.out⟩, rfl⟩, by simp [intOf]; omega⟩
            obtain ⟨d, hd⟩ : ∃ d : Nat, (R.top.n : Int) - x.wd = (d : Int) := ⟨((R.top.n : Int) - x.wd).toNat, by omega⟩
            have hdd : R.top.n - x.wd.toNat = d := by omega
            rw [hd] at esb t2
            have em3 := tmod_two d
            by_cases t3 : d % 2 = 0
            rotate_left
            · have HF := Lib.hid (HNO.out (fun h => t3 (by have := h.2.2; rw [hdd] at this; exact this)))
              have hd1 : d % 2 = 1 := by omega
              rw [hd1] at em3
              go_wp2_with fail
              try rw [← HE.out]
              first
                | exact ⟨⟨i + 1, by omega, by simp, by first | (rw [HF.out]; done) | (rw [HF.out]; simp; done) | (rw [← HF.out]; simp; done) | (have := HF.out; simp; omega), HKX.out, HBX.out⟩, by simp [intOf]; omega⟩
                | exact ⟨⟨_, _, _, _, _, ⟨i + 1, by omega, by simp, by first | (rw [HF.out]; done) | (rw [HF.out]; simp; done) | (rw [← HF.out]; simp; done) | (have := HF.out; simp; omega), HKX.out, HBX.out⟩, rfl, rfl, rfl, rfl, rfl⟩, by simp [intOf]; omega⟩
                | exact ⟨⟨_, _, _, _, _, _, _, _, _, _, _, _, _, _, _, _, _, _, _, _, _, _, _, _, _, _, _, _, _, _, _, _, _, _, _, _, ⟨i + 1, by omega, by simp, by first | (rw [HF.out]; done) | (rw [HF.out]; simp; done) | (rw [← HF.out]; simp; done) | (have := HF.out; simp; omega), HKX.out, HBX.out⟩, rfl⟩, by simp [intOf]; omega⟩
            · have hc : sideC R i x := ⟨T1.out, by rw [HTS.out]; omega, by rw [hdd]; exact t3⟩
              have hb2 := side_one HEE.out HS.out HQ.out hc
              rw [hdd] at hb2
              have HF := Lib.hid (show S0 + sumTo (sideN R) (i + 1) = q + wy R.ps x.lf.toNat ⟨d / 2, R.top.p⟩ by rw [HQQ.out, HSN.out, if_pos hc, hdd])
              obtain ⟨lf, hlf⟩ : ∃ lf : Nat, x.lf = (lf : Int) := ⟨x.lf.toNat, by omega⟩
              rw [hlf, Int.toNat_natCast] at hb2 HF
              rw [hlf] at x2
              have HHA := Lib.hid (fun W (h : Below w.heap.size w W) => halves_any R (d / 2) lf W HRO.out (by omega) (by omega) (HROW.out.belowS h) hb2)
              have ed3 := wrap_half d (by omega)
              obtain ⟨dh, hdh⟩ : ∃ dh, d / 2 = dh := ⟨_, rfl⟩
              rw [hdh] at HHA ed3 hb2 HF
              obtain ⟨m, hm⟩ : ∃ m, wy R.ps lf ⟨dh, R.top.p⟩ = m := ⟨_, rfl⟩
              simp only [hm] at HHA
              rw [hm] at HF hb2
              have ea : IntKind.i64.wrap ((q : Int) + (m : Int)) = ((q + m : Nat) : Int) := by
                unfold MW at *
                rw [IntKind.wrap_i64]
                omega
              rw [t3] at em3
              have HTS2 := Lib.hid HTS.out
              have HED := Lib.hid ed3
              clear hc hm hdd hb2 hdh ed3
              rw [← HTS.out] at r0
              have esb2 : IntKind.i64.wrap (R.len - x.wd) = (d : Int) := by rw [HTS.out, hd]; exact esb
              clear esb hd
              go_wp2_with fail
              try rw [← HE.out]
              rw [HED.out]
              refine (HHA.out wx HBX.out).mono ?_
              rintro e w9 ⟨rfl, hb9⟩
              have HK9 := Lib.hid (HKX.out.belowS hb9)
              have HB9 := Lib.hid (HBX.out.trans (hb9.mono HBX.out.size))
              clear hb9 r0 r1 r2 r3 hlr x0 x1 x2 x3 x4 lX HHA
              go_wp2_with fail
              try rw [← HE.out]
              first
                | exact ⟨⟨i + 1, by omega, by simp, by first | (rw [HF.out]; done) | (rw [HF.out]; simp; done) | (rw [← HF.out]; simp; done) | (have := HF.out; simp; omega), HK9.out, HB9.out⟩, by simp [intOf]; omega⟩
                | exact ⟨⟨_, _, _, _, _, ⟨i + 1, by omega, by simp, by first | (rw [HF.out]; done) | (rw [HF.out]; simp; done) | (rw [← HF.out]; simp; done) | (have := HF.out; simp; omega), HK9.out, HB9.out⟩, rfl, rfl, rfl, rfl, rfl⟩, by simp [intOf]; omega⟩
                | exact ⟨⟨_, _, _, _, _, _, _, _, _, _, _, _, _, _, _, _, _, _, _, _, _, _, _, _, _, _, _, _, _, _, _, _, _, _, _, _, ⟨i + 1, by omega, by simp, by first | (rw [HF.out]; done) | (rw [HF.out]; simp; done) | (rw [← HF.out]; simp; done) | (have := HF.out; simp; omega), HK9.out, HB9.out⟩, rfl⟩, by simp [intOf]; omega⟩
end Go.Proofs.Ytmcmhgjlpffcnaa
