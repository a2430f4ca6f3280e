/- StrawChooses' walk. -/
import Derived.Test.YtdmhmiamhobikaaFT
namespace Go.Proofs.Ytdmhmiamhobikaa
open Go.RowKit

theorem chooseE_zero {F : Frm} {n : Ned} (h1 : checkE F = 0) (h2 : needB n = true) : chooseE F n = 0 := by
  rw [chooseE, if_neg (by rw [h1]; simp), if_neg (by rw [h2]; simp)]

set_option maxRecDepth 100000 in
set_option maxHeartbeats 8000000 in
theorem choosesLaw_any (F : Frm) (n : Ned) (w : World) (hF : IsFarm w F) :
    Calls Try.prog 4 #[.agg #[.slice F.pa F.ps.length F.pc, .int .i64 F.dry], .agg #[.int .i64 n.reed, .int .i64 n.straw, .int .i64 n.heather]] w
      fun e w' => e = .returned (.bool true) ∧ Below w.heap.size w w' := by
  have HF := Lib.hid hF
  have k0 := (Blk.new w 24 #[.slice F.pa F.ps.length F.pc, .int .i64 F.dry]).alloc (.cells #[.int .i64 n.reed, .int .i64 n.straw, .int .i64 n.heather] 26)
  have k1 := Blk.new (w.alloc (.cells #[.slice F.pa F.ps.length F.pc, .int .i64 F.dry] 24)) 26 #[.int .i64 n.reed, .int .i64 n.straw, .int .i64 n.heather]
  have hB : Below w.heap.size w ((w.alloc (.cells #[.slice F.pa F.ps.length F.pc, .int .i64 F.dry] 24)).alloc (.cells #[.int .i64 n.reed, .int .i64 n.straw, .int .i64 n.heather] 26)) := ((Below.refl _ w).alloc (by simp) _).alloc (by simp) _
  simp only [World.size_alloc] at k1
  clear hF
  go_enter Try.func4, Try.ntmps4
  go_upto_region 1 with fail
  generalize ((w.alloc (.cells #[.slice F.pa F.ps.length F.pc, .int .i64 F.dry] 24)).alloc (.cells #[.int .i64 n.reed, .int .i64 n.straw, .int .i64 n.heather] 26)) = w1 at k0 k1 hB ⊢
  have hF1 := HF.out.below hB
  have a0 := k0.cell 0
  have a1 := k0.cell 1
  simp only [List.getElem?_toArray, List.getElem?_cons_zero, List.getElem?_cons_succ] at a0 a1
  go_wp2_with fail
  refine (great_any F _ hF1).mono ?_
  rintro e w2 ⟨⟨gb, rfl⟩, hb2⟩
  have HB2 := Lib.hid (hB.trans (hb2.mono hB.size))
  have hF2 := HF.out.below HB2.out
  have k2 := k0.belowS hb2
  have k3 := k1.belowS hb2
  clear hb2 hF1 a0 a1 k0 k1 hB
  have a0 := k2.cell 0
  have a1 := k2.cell 1
  have b0 := k3.cell 0
  have b1 := k3.cell 1
  have b2 := k3.cell 2
  simp only [List.getElem?_toArray, List.getElem?_cons_zero, List.getElem?_cons_succ] at a0 a1 b0 b1 b2
  cases gb with
  | true =>
    clear hF2 a0 a1 b0 b1 b2 k2 k3
    go_wp2_with fail
    refine (lives_any _).mono ?_
    rintro e w3 ⟨rfl, hb3⟩
    go_wp2_with fail
    go_ret
    exact ⟨rfl, HB2.out.trans (hb3.mono HB2.out.size)⟩
  | false =>
  go_wp2_with fail
  refine (choose_any F n _ hF2).mono ?_
  rintro e w3 ⟨hb3, h⟩
  have hB3 := HB2.out.trans (hb3.mono HB2.out.size)
  have hF3 := HF.out.below hB3
  have HB3 := Lib.hid hB3
  have k4 := k2.belowS hb3
  have k5 := k3.belowS hb3
  clear hb3 hB3 hF2 a0 a1 b0 b1 b2 k2 k3
  have a0 := k4.cell 0
  have a1 := k4.cell 1
  have b0 := k5.cell 0
  have b1 := k5.cell 1
  have b2 := k5.cell 2
  simp only [List.getElem?_toArray, List.getElem?_cons_zero, List.getElem?_cons_succ] at a0 a1 b0 b1 b2
  clear k4 k5
  rcases h with ⟨hne, rfl⟩ | ⟨hce, hnb, ba, bc, rfl, hN, hl⟩
  · go_wp2_with fail
    refine (refChoose_any F n _ hF3).mono ?_
    rintro e w4 ⟨hb4, h⟩
    have HB4 := Lib.hid (HB3.out.trans (hb4.mono HB3.out.size))
    rcases h with ⟨_, rfl⟩ | ⟨k1, k2, _⟩
    · generalize chooseE F n = E at *
      have q1 : (E == E) = true := by simp
      have hs := fun w' : World => sameInts_any none none 0 0 [] w' (World.ownsRow_nil w' 0 _ 1) (World.ownsRow_nil w' 0 _ 1) (by simp)
      clear hb4 hF3 a0 a1 b0 b1 b2
      go_wp2_with (first | (go_at_call 10; refine (hs _).mono ?_; rintro e w5 ⟨rfl, hb5⟩) | (go_at_call 6; refine (lives_any _).mono ?_; rintro e w6 ⟨rfl, hb6⟩))
      go_ret
      exact ⟨rfl, HB4.out.trans ((hb5.trans (hb6.mono hb5.size)).mono HB4.out.size)⟩
    · exact absurd (chooseE_zero k1 k2) hne
  · go_wp2_with fail
    refine (refChoose_any F n _ hF3).mono ?_
    rintro e w4 ⟨hb4, h⟩
    have HB4 := Lib.hid (HB3.out.trans (hb4.mono HB3.out.size))
    rcases h with ⟨k1, _⟩ | ⟨_, _, ba2, bc2, rfl, hN2, _⟩
    · exact absurd (chooseE_zero hce hnb) k1
    · have hN4 := hN.belowS hb4
      generalize (chooseM F.ps n).best = bl at *
      generalize (chooseM F.ps n).least = ls at *
      generalize (chooseM F.ps n).found = fd at *
      have q1 : (ls == ls) = true := by simp
      have q2 : (fd == fd) = true := by simp
      clear hb4 hF3 a0 a1 b0 b1 b2
      go_wp2_with (first | (go_at_call 10; refine (sameInts_any _ _ _ _ bl _ hN4 hN2 hl).mono ?_; rintro e w5 ⟨rfl, hb5⟩) | (go_at_call 6; refine (lives_any _).mono ?_; rintro e w6 ⟨rfl, hb6⟩))
      go_ret
      exact ⟨rfl, HB4.out.trans ((hb5.trans (hb6.mono hb5.size)).mono HB4.out.size)⟩
end Go.Proofs.Ytdmhmiamhobikaa
