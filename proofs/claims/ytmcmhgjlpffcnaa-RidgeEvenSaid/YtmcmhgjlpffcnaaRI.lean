/- How many rows are even (Even). No condition but the bounds of what is given. -/
import Derived.Test.YtmcmhgjlpffcnaaRH
set_option linter.unusedSimpArgs false
namespace Go.Proofs.Ytmcmhgjlpffcnaa
open Go.RowKit

set_option maxHeartbeats 4000000 in
theorem evenIn_any (P : Nat) (R : Rdg) (w : World) (k : Blk w P #[.int .i64 R.len, .int .i64 R.st, .int .i64 R.en, .slice R.pa R.ps.length R.pc] 24) (hrow : IsPcs w R.pa R.pc R.ps) (hbig : R.ps.length ≤ 1000000000) (hnm : ∀ x ∈ R.ps, x.name.size ≤ maxLen) :
    Calls Try.prog 55 #[.pointer (some ⟨P, 0, none⟩)] w (IntDone (waysE R) (evenN R : Int) w) := by
  have HRO := Lib.hid (rowsOf_any R w hrow hbig hnm)
  have HROW := Lib.hid hrow
  obtain ⟨r0, r1, r2, r3⟩ := rdg_cells (R := R) k
  have hlr := k.lt
  clear k hrow hbig hnm
  go_enter Try.func55, Try.ntmps55
  go_wp2_with fail
  refine HRO.out.mono ?_
  rintro e w1 ⟨⟨hE, B, f, rfl, hB, hT, hf⟩ | ⟨hE, rfl⟩, hb⟩
  rotate_left
  · exact ⟨rfl, .inr ⟨hE, rfl⟩, hb⟩
  have HB := Lib.hid hb
  have HE := Lib.hid hE
  have HEV := Lib.hid (even_any R B w1 hE (HROW.out.belowS hb))
  clear hE hf hT hb hB r0 r1 r2 r3 hlr HRO
  go_wp2_with fail
  refine HEV.out.mono ?_
  rintro e w2 ⟨rfl, hb2⟩
  have HB2 := Lib.hid (HB.out.trans (hb2.mono HB.out.size))
  clear hb2 HEV
  go_wp2_with fail
  go_ret
  exact ⟨.inl ⟨HE.out, rfl⟩, HB2.out⟩

set_option maxHeartbeats 4000000 in
theorem evenPub_any (R : Rdg) (w : World) (hrow : IsPcs w R.pa R.pc R.ps) (hbig : R.ps.length ≤ 1000000000) (hnm : ∀ x ∈ R.ps, x.name.size ≤ maxLen) :
    Calls Try.prog 24 #[.agg #[.int .i64 R.len, .int .i64 R.st, .int .i64 R.en, .slice R.pa R.ps.length R.pc]] w fun e w' => e = .returned (.tuple #[.int .i64 (endI (waysE R) (evenN R : Int)), .int .i64 (waysE R)]) ∧ Below w.heap.size w w' := by
  have hmf : ∀ (fn : Fn) (first cap : Array Value) (w : World), (Instr.makeFunc fn first cap).run Try.prog w = .ok (.func fn first cap) w := fun _ _ _ _ => rfl
  have k1 := Blk.new w 24 #[.int .i64 R.len, .int .i64 R.st, .int .i64 R.en, .slice R.pa R.ps.length R.pc]
  have hb1 : Below w.heap.size w (w.alloc (.cells #[.int .i64 R.len, .int .i64 R.st, .int .i64 R.en, .slice R.pa R.ps.length R.pc] 24)) := (Below.refl _ w).alloc (Nat.le_refl _) _
  have HA := Lib.hid (answerInt_any 55 #[.pointer (some ⟨w.heap.size, 0, none⟩)] (waysE R) (evenN R : Int) (w.alloc (.cells #[.int .i64 R.len, .int .i64 R.st, .int .i64 R.en, .slice R.pa R.ps.length R.pc] 24)) (run_enter Try.func55 (by kernel_rfl) rfl)
    (fun w1 h => evenIn_any _ R w1 (k1.belowS h) (hrow.belowS (hb1.trans (h.mono hb1.size))) hbig hnm))
  have HB1 := Lib.hid hb1
  clear k1 hb1 hrow hbig hnm
  go_enter Try.func24, Try.ntmps24
  go_wp2_with fail
  refine HA.out.mono ?_
  rintro e w2 ⟨rfl, hb⟩
  have HB2 := Lib.hid (HB1.out.trans (hb.mono HB1.out.size))
  clear hb HA
  go_wp2_with fail
  go_ret2
  exact ⟨rfl, HB2.out⟩
end Go.Proofs.Ytmcmhgjlpffcnaa
