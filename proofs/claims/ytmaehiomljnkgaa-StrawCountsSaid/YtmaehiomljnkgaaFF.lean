/- Choose. -/
import Derived.Test.YtmaehiomljnkgaaFE
namespace Go.Proofs.Ytmaehiomljnkgaa
open Go.RowKit

def needB (n : Ned) : Bool := isFromB n.reed 0 100000 && isFromB n.straw 0 100000 && isFromB n.heather 0 100000
def chooseE (F : Frm) (n : Ned) : Int := if ¬ checkE F = 0 then checkE F else if needB n = false then 1 else 0
def ChooseSaid (F : Frm) (n : Ned) (w : World) (e : Ending) (w' : World) : Prop := Below w.heap.size w w' ∧
  ((¬ chooseE F n = 0 ∧ e = .returned (.tuple #[.slice none 0 0, .int .i64 0, .bool false, .int .i64 (chooseE F n)])) ∨
   (checkE F = 0 ∧ needB n = true ∧ ∃ ba bc, e = .returned (.tuple #[.slice ba (chooseM F.ps n).best.length bc, .int .i64 (chooseM F.ps n).least, .bool (chooseM F.ps n).found, .int .i64 0]) ∧ IsNats w' ba bc (chooseM F.ps n).best ∧ (chooseM F.ps n).best.length ≤ 12))

set_option maxRecDepth 100000 in
set_option maxHeartbeats 4000000 in
theorem choose_any (F : Frm) (n : Ned) (w : World) (hF : IsFarm w F) :
    Calls Try.prog 16 #[.agg #[.slice F.pa F.ps.length F.pc, .int .i64 F.dry], .agg #[.int .i64 n.reed, .int .i64 n.straw, .int .i64 n.heather]] w (ChooseSaid F n w) := by
  have HF := Lib.hid hF
  have k0 := (Blk.new w 24 #[.slice F.pa F.ps.length F.pc, .int .i64 F.dry]).alloc (.cells #[.int .i64 n.reed, .int .i64 n.straw, .int .i64 n.heather] 62)
  have k1 := Blk.new (w.alloc (.cells #[.slice F.pa F.ps.length F.pc, .int .i64 F.dry] 24)) 62 #[.int .i64 n.reed, .int .i64 n.straw, .int .i64 n.heather]
  have hB : Below w.heap.size w ((w.alloc (.cells #[.slice F.pa F.ps.length F.pc, .int .i64 F.dry] 24)).alloc (.cells #[.int .i64 n.reed, .int .i64 n.straw, .int .i64 n.heather] 62)) := ((Below.refl _ w).alloc (by simp) _).alloc (by simp) _
  simp only [World.size_alloc] at k1
  have hF1 := hF.below hB
  have HF1 := Lib.hid hF1
  clear hF hF1
  have c0 := k0.cell 0
  have c1 := k0.cell 1
  simp only [List.getElem?_toArray, List.getElem?_cons_zero, List.getElem?_cons_succ] at c0 c1
  go_enter Try.func16, Try.ntmps16
  go_wp2_with fail
  refine (check_any F _ HF1.out).mono ?_
  rintro e w1 ⟨rfl, hb1⟩
  have k2 := k0.belowS hb1
  have k3 := k1.belowS hb1
  have hB1 := hB.trans (hb1.mono (by simp; omega))
  have hF2 := HF.out.below hB1
  have HF2 := Lib.hid hF2
  have HB1 := Lib.hid hB1
  clear c0 c1 k0 k1 hb1 hB1 hB hF2
  have c0 := k2.cell 0
  have c1 := k2.cell 1
  have d0 := k3.cell 0
  have d1 := k3.cell 1
  have d2 := k3.cell 2
  simp only [List.getElem?_toArray, List.getElem?_cons_zero, List.getElem?_cons_succ] at c0 c1 d0 d1 d2
  clear k2 k3
  generalize hE : checkE F = E
  have HE := Lib.hid hE
  clear hE
  by_cases h0 : E = 0
  · have hz1 : (E == 0) = true := by simp [h0]
    have hz2 : (E != 0) = false := by simp [h0]
    have H0 := Lib.hid h0
    clear h0
    go_wp2_with fail
    refine (isFrom_any n.reed 0 100000 _).mono ?_
    rintro e w2 ⟨rfl, rfl⟩
    cases h1 : isFromB n.reed 0 100000 with
    | false =>
      have hv : chooseE F n = 1 := by rw [chooseE, if_neg (by rw [HE.out, H0.out]; simp), if_pos (by simp [needB, h1])]
      have HV := Lib.hid hv
      clear hv h1
      go_wp2_with fail
      exact bodyPost_ret (v := .tuple #[.slice none 0 0, .int .i64 0, .bool false, .int .i64 1]) (by simp [results, Try.results16, go_sem]) rfl ⟨HB1.out, .inl ⟨by rw [HV.out]; decide, by rw [HV.out]⟩⟩
    | true =>
    have H1 := Lib.hid h1
    clear h1
    go_wp2_with fail
    refine (isFrom_any n.straw 0 100000 _).mono ?_
    rintro e w2 ⟨rfl, rfl⟩
    cases h2 : isFromB n.straw 0 100000 with
    | false =>
      have hv : chooseE F n = 1 := by rw [chooseE, if_neg (by rw [HE.out, H0.out]; simp), if_pos (by simp [needB, h2])]
      have HV := Lib.hid hv
      clear hv h2
      go_wp2_with fail
      exact bodyPost_ret (v := .tuple #[.slice none 0 0, .int .i64 0, .bool false, .int .i64 1]) (by simp [results, Try.results16, go_sem]) rfl ⟨HB1.out, .inl ⟨by rw [HV.out]; decide, by rw [HV.out]⟩⟩
    | true =>
    have H2 := Lib.hid h2
    clear h2
    go_wp2_with fail
    refine (isFrom_any n.heather 0 100000 _).mono ?_
    rintro e w2 ⟨rfl, rfl⟩
    cases h3 : isFromB n.heather 0 100000 with
    | false =>
      have hv : chooseE F n = 1 := by rw [chooseE, if_neg (by rw [HE.out, H0.out]; simp), if_pos (by simp [needB, h3])]
      have HV := Lib.hid hv
      clear hv h3
      go_wp2_with fail
      exact bodyPost_ret (v := .tuple #[.slice none 0 0, .int .i64 0, .bool false, .int .i64 1]) (by simp [results, Try.results16, go_sem]) rfl ⟨HB1.out, .inl ⟨by rw [HV.out]; decide, by rw [HV.out]⟩⟩
    | true =>
    have H3 := Lib.hid h3
    clear h3
    obtain ⟨hlen, hok⟩ := checkE_ok (HE.out.trans H0.out)
    have HOK := Lib.hid hok
    clear hok
    go_wp2_with (go_at_call 40; refine (cheapest_any F.pa F.pc n F.ps _ HF2.out HOK.out hlen).mono ?_; rintro e w2 ⟨⟨ba, bc, rfl, hn, hl⟩, hb2⟩; have HN := Lib.hid hn; clear hn; have HM := Lib.hid (⟨chooseM F.ps n, rfl⟩ : ∃ m, m = chooseM F.ps n))
    exact bodyPost_ret (v := .tuple #[.slice ba (chooseM F.ps n).best.length bc, .int .i64 (chooseM F.ps n).least, .bool (chooseM F.ps n).found, .int .i64 0]) (by simp [results, Try.results16, go_sem]) rfl ⟨HB1.out.trans (hb2.mono HB1.out.size), .inr ⟨HE.out.trans H0.out, by simp [needB, H1.out, H2.out, H3.out], ba, bc, rfl, HN.out, hl⟩⟩
  · have hz1 : (E == 0) = false := by simp [h0]
    have hz2 : (E != 0) = true := by simp [h0]
    have hv : chooseE F n = E := by rw [chooseE, HE.out, if_pos h0]
    have HV := Lib.hid hv
    have H0 := Lib.hid h0
    clear hv h0
    go_wp2_with fail
    exact bodyPost_ret (v := .tuple #[.slice none 0 0, .int .i64 0, .bool false, .int .i64 E]) (by simp [results, Try.results16, go_sem]) rfl ⟨HB1.out, .inl ⟨by rw [HV.out]; exact H0.out, by rw [HV.out]⟩⟩
end Go.Proofs.Ytmaehiomljnkgaa
