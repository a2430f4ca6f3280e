/- The number of a row (Rank). No condition but the bounds of what is given. -/
import Derived.Test.YtmcmhgjlpffcnaaQU
set_option linter.unusedSimpArgs false
namespace Go.Proofs.Ytmcmhgjlpffcnaa
open Go.RowKit

def rankE (R : Rdg) (row : List Int) : Int := if waysE R ≠ 0 then waysE R else if fitsB R row = false then 8 else 0
set_option maxRecDepth 100000 in
set_option maxHeartbeats 8000000 in
theorem rankIn_any (P Q : Nat) (R : Rdg) (sa : Option Addr) (c : Nat) (row : List Int) (w : World) (kP : Blk w P #[.int .i64 R.len, .int .i64 R.st, .int .i64 R.en, .slice R.pa R.ps.length R.pc] 24) (kQ : Blk w Q #[.slice sa row.length c] 25) (hrow : IsPcs w R.pa R.pc R.ps) (hbig : R.ps.length ≤ 1000000000) (hnm : ∀ x ∈ R.ps, x.name.size ≤ maxLen) (hns : IsInts w sa c row) :
    Calls Try.prog 63 #[.pointer (some ⟨P, 0, none⟩), .pointer (some ⟨Q, 0, none⟩)] w (IntDone (rankE R row) (rankR R row : Int) w) := by
  have HRO := Lib.hid (rowsOf_any R w hrow hbig hnm)
  have HROW := Lib.hid hrow
  have HNS := Lib.hid hns
  obtain ⟨r0, r1, r2, r3⟩ := rdg_cells (R := R) kP
  have hlr := kP.lt
  have KP := Lib.hid kP
  have KQ := Lib.hid kQ
  clear kP kQ hrow hbig hnm hns
  go_enter Try.func63, Try.ntmps63
  go_wp2_with fail
  refine HRO.out.mono ?_
  rintro e w1 ⟨⟨hE, B, f, rfl, hB, hT, hf⟩ | ⟨hE, rfl⟩, hb⟩
  rotate_left
  · have hv : rankE R row = waysE R := by unfold rankE; rw [if_pos hE]
    exact ⟨rfl, .inr ⟨by rw [hv]; exact hE, by rw [hv]⟩, hb⟩
  have hv : rankE R row = if fitsB R row = false then 8 else 0 := by unfold rankE; rw [if_neg (by rw [hE]; simp)]
  have hro := rdgE_ridge (waysE_zero hE).1
  have hM := (waysE_zero hE).2
  have kW := Blk.new w1 67 #[.int .i64 R.len, .int .i64 R.st, .int .i64 R.en, .slice R.pa R.ps.length R.pc, .pointer (some ⟨B, 0, none⟩)]
  have hb2 : Below w1.heap.size w1 (w1.alloc (.cells #[.int .i64 R.len, .int .i64 R.st, .int .i64 R.en, .slice R.pa R.ps.length R.pc, .pointer (some ⟨B, 0, none⟩)] 67)) := (Below.refl _ w1).alloc (Nat.le_refl _) _
  have hbb := hb.trans (hb2.mono hb.size)
  have kQ2 := KQ.out.belowS hbb
  have kP2 := KP.out.belowS hbb
  have hT2 := hT.of_block (hb2.block _ hT.lt)
  have HB2 := Lib.hid hbb
  clear hb2 r0 r1 r2 r3 hlr HRO hbb
  go_upto_region 2 with fail
  generalize w1.alloc (.cells #[.int .i64 R.len, .int .i64 R.st, .int .i64 R.en, .slice R.pa R.ps.length R.pc, .pointer (some ⟨B, 0, none⟩)] 67) = w2 at *
  have q0 : w2.cell? ⟨Q, 0, none⟩ = some (.slice sa row.length c) := kQ2.cell 0
  obtain ⟨r0, r1, r2, r3⟩ := rdg_cells (R := R) kP2
  have lP := kP2.lt
  have lQ := kQ2.lt
  have HV := Lib.hid hv
  have HRK := Lib.hid hro
  have HMM := Lib.hid hM
  have HKW := Lib.hid kW
  have HKQ := Lib.hid kQ2
  have HT2 := Lib.hid hT2
  have HFF := Lib.hid hf
  clear hv hro hM kW kQ2 kP2 hT2 hf hb hB hT hE
  go_wp2_with fail
  refine (fits_any R sa c row _ HRK.out (HROW.out.belowS HB2.out) (HNS.out.belowS HB2.out)).mono ?_
  rintro e w3 ⟨rfl, hb3⟩
  have HB3 := Lib.hid hb3
  have HBF := Lib.hid (HB2.out.trans (hb3.mono HB2.out.size))
  clear q0 r0 r1 r2 r3 lP lQ hb3
  cases hF : fitsB R row with
  | false =>
    have h8 : rankE R row = 8 := by rw [HV.out, if_pos hF]
    have H8 := Lib.hid h8
    clear hF h8
    go_wp2_with fail
    refine (require_no 8 _).mono ?_
    rintro e w4 ⟨rfl, rfl⟩
    exact ⟨rfl, .inr ⟨by rw [H8.out]; decide, by rw [H8.out]⟩, HBF.out⟩
  | true =>
    have h0 : rankE R row = 0 := by rw [HV.out, if_neg (by rw [hF]; simp)]
    have H0 := Lib.hid h0
    have hnt := rank_any R B f sa c row w3 HRK.out (HROW.out.belowS HBF.out) (HT2.out.of_block (HB3.out.block _ HT2.out.lt)) HFF.out HMM.out hF (HNS.out.belowS HBF.out)
    have HNT := Lib.hid hnt
    have k3 := HKW.out.belowS HB3.out
    have q0 : w3.cell? ⟨Q, 0, none⟩ = some (.slice sa row.length c) := (HKQ.out.belowS HB3.out).cell 0
    have lQ := (HKQ.out.belowS HB3.out).lt
    have c0 := k3.cell 0
    have c1 := k3.cell 1
    have c2 := k3.cell 2
    have c3 := k3.cell 3
    have c4 := k3.cell 4
    simp only [List.getElem?_toArray, List.getElem?_cons_zero, List.getElem?_cons_succ] at c0 c1 c2 c3 c4
    have lW := k3.lt
    clear hF h0 hnt k3
    go_wp2_with fail
    refine (require_yes 8 _).mono ?_
    rintro e w4 ⟨rfl, rfl⟩
    go_wp2_with fail
    refine HNT.out.mono ?_
    rintro e w6 ⟨rfl, hb6⟩
    have HB6 := Lib.hid hb6
    clear hb6 c0 c1 c2 c3 c4 q0 lQ lW HNT
    go_wp2_with fail
    go_ret
    exact ⟨.inl ⟨H0.out, rfl⟩, HBF.out.trans (HB6.out.mono HBF.out.size)⟩

set_option maxHeartbeats 4000000 in
theorem rankPub_any (R : Rdg) (sa : Option Addr) (c : Nat) (row : List Int) (w : World) (hrow : IsPcs w R.pa R.pc R.ps) (hbig : R.ps.length ≤ 1000000000) (hnm : ∀ x ∈ R.ps, x.name.size ≤ maxLen) (hns : IsInts w sa c row) :
    Calls Try.prog 28 #[.agg #[.int .i64 R.len, .int .i64 R.st, .int .i64 R.en, .slice R.pa R.ps.length R.pc], .slice sa row.length c] w fun e w' => e = .returned (.tuple #[.int .i64 (endI (rankE R row) (rankR R row : Int)), .int .i64 (rankE R row)]) ∧ Below w.heap.size w w' := by
  have hmf : ∀ (fn : Fn) (first cap : Array Value) (w : World), (Instr.makeFunc fn first cap).run Try.prog w = .ok (.func fn first cap) w := fun _ _ _ _ => rfl
  have k1 := (Blk.new w 24 #[.int .i64 R.len, .int .i64 R.st, .int .i64 R.en, .slice R.pa R.ps.length R.pc]).alloc (.cells #[.slice sa row.length c] 25)
  have k2 := Blk.new (w.alloc (.cells #[.int .i64 R.len, .int .i64 R.st, .int .i64 R.en, .slice R.pa R.ps.length R.pc] 24)) 25 #[.slice sa row.length c]
  rw [World.size_alloc] at k2
  have hb1 : Below w.heap.size w ((w.alloc (.cells #[.int .i64 R.len, .int .i64 R.st, .int .i64 R.en, .slice R.pa R.ps.length R.pc] 24)).alloc (.cells #[.slice sa row.length c] 25)) := ((Below.refl _ w).alloc (Nat.le_refl _) _).alloc (by simp) _
  have HA := Lib.hid (answerInt_any 63 #[.pointer (some ⟨w.heap.size, 0, none⟩), .pointer (some ⟨w.heap.size + 1, 0, none⟩)] (rankE R row) (rankR R row : Int) ((w.alloc (.cells #[.int .i64 R.len, .int .i64 R.st, .int .i64 R.en, .slice R.pa R.ps.length R.pc] 24)).alloc (.cells #[.slice sa row.length c] 25)) (run_enter Try.func63 (by kernel_rfl) rfl)
    (fun w1 h => rankIn_any _ _ R sa c row w1 (k1.belowS h) (k2.belowS h) (hrow.belowS (hb1.trans (h.mono hb1.size))) hbig hnm (hns.belowS (hb1.trans (h.mono hb1.size)))))
  have HB1 := Lib.hid hb1
  clear k1 k2 hb1 hrow hbig hnm hns
  go_enter Try.func28, Try.ntmps28
  go_wp2_with fail
  refine HA.out.mono ?_
  rintro e w2 ⟨rfl, hb⟩
  have HB2 := Lib.hid (HB1.out.trans (hb.mono HB1.out.size))
  clear hb HA
  go_wp2_with fail
  go_ret2
  exact ⟨rfl, HB2.out⟩
end Go.Proofs.Ytmcmhgjlpffcnaa
