/- requireSeason; what a season leaves. No condition but the package's variable. -/
import Derived.Test.YtoigihmgjacbjaaDoorVG
set_option linter.unusedSimpArgs false
namespace Go.Proofs.YtoigihmgjacbjaaDoor
open Go.RowKit

set_option maxRecDepth 100000 in
set_option maxHeartbeats 8000000 in
theorem requireSeason_any (S : Skn) (t : Spn) (g : Int) (w : World) (hS : IsSkn w S) (hg : Laid w) :
    Calls Tryd.prog 31 #[.agg #[.slice S.pa S.pts.length S.pc, .slice S.ha S.hs.length S.hc, .int .i64 S.steep, .int .i64 S.th.lo, .int .i64 S.th.hi, .slice S.ma S.ms.length S.mc], .agg #[.int .i64 t.lo, .int .i64 t.hi], .int .i64 g] w (ReqSaid (seasonE S t g) w) := by
  have k1 := (Blk.new w 30 #[.slice S.pa S.pts.length S.pc, .slice S.ha S.hs.length S.hc, .int .i64 S.steep, .int .i64 S.th.lo, .int .i64 S.th.hi, .slice S.ma S.ms.length S.mc]).alloc (.cells #[.int .i64 t.lo, .int .i64 t.hi] 27)
  have k2 := Blk.new (w.alloc (.cells #[.slice S.pa S.pts.length S.pc, .slice S.ha S.hs.length S.hc, .int .i64 S.steep, .int .i64 S.th.lo, .int .i64 S.th.hi, .slice S.ma S.ms.length S.mc] 30)) 27 #[.int .i64 t.lo, .int .i64 t.hi]
  rw [World.size_alloc] at k2
  have hb1 : Below w.heap.size w ((w.alloc (.cells #[.slice S.pa S.pts.length S.pc, .slice S.ha S.hs.length S.hc, .int .i64 S.steep, .int .i64 S.th.lo, .int .i64 S.th.hi, .slice S.ma S.ms.length S.mc] 30)).alloc (.cells #[.int .i64 t.lo, .int .i64 t.hi] 27)) := ((Below.refl _ w).alloc (Nat.le_refl _) _).alloc (by simp) _
  have HS := Lib.hid hS
  have HG := Lib.hid hg
  clear hS hg
  go_enter Tryd.func31, Tryd.ntmps31
  go_upto_region 1 with fail
  generalize ((w.alloc (.cells #[.slice S.pa S.pts.length S.pc, .slice S.ha S.hs.length S.hc, .int .i64 S.steep, .int .i64 S.th.lo, .int .i64 S.th.hi, .slice S.ma S.ms.length S.mc] 30)).alloc (.cells #[.int .i64 t.lo, .int .i64 t.hi] 27)) = w1 at *
  obtain ⟨s0, s1, s2, s3, s4, s5⟩ := skn_cells (S := S) k1
  have l1 := k1.lt
  have HB1 := Lib.hid hb1
  have K1 := Lib.hid k1
  have K2 := Lib.hid k2
  clear k1 k2 hb1
  go_wp2_with fail
  refine (requireSkin_any S _ (HS.out.below HB1.out) (HG.out.below HB1.out)).mono ?_
  rintro e w2 ⟨h, hb⟩
  rcases h with ⟨hx, rfl⟩ | ⟨hx, rfl⟩
  rotate_left
  · have HV := Lib.hid (show seasonE S t g = skinE S by unfold seasonE; rw [if_pos hx])
    have HX := Lib.hid hx
    have HB2 := Lib.hid (HB1.out.trans (hb.mono HB1.out.size))
    clear s0 s1 s2 s3 s4 s5 l1 hb hx
    go_wp2_with fail
    exact ⟨rfl, .inr ⟨by rw [HV.out]; exact HX.out, by rw [HV.out]⟩, HB2.out⟩
  have HX := Lib.hid hx
  have HST := Lib.hid (skinE_ok hx).steep
  have HVV := Lib.hid (show seasonE S t g = if (isSpanB t 0 2000 && isFromB g 0 1000) = false then 1 else if 1000 < S.steep + g then 3 else 0 by unfold seasonE; rw [if_neg (by rw [hx]; decide)])
  clear hx
  have HB2 := Lib.hid (HB1.out.trans (hb.mono HB1.out.size))
  have K12 := Lib.hid (K1.out.belowS hb)
  have K22 := Lib.hid (K2.out.belowS hb)
  clear s0 s1 s2 s3 s4 s5 l1 hb K1 K2
  obtain ⟨t0, t1⟩ := spn_cells (s := t) K22.out
  have l2 := K22.out.lt
  go_wp2_with fail
  refine (areThick_any t _).mono ?_
  rintro e w3 ⟨rfl, hb⟩
  have HB3 := Lib.hid (HB2.out.trans (hb.mono HB2.out.size))
  have K13 := Lib.hid (K12.out.belowS hb)
  clear t0 t1 l2 hb K12 K22
  obtain ⟨t1, ht1⟩ : ∃ t1, isSpanB t 0 2000 = t1 := ⟨_, rfl⟩
  have HT1 := Lib.hid ht1
  rw [ht1]
  clear ht1
  cases t1 with
  | false =>
    have HV := Lib.hid (show seasonE S t g = 1 by rw [HVV.out, if_pos (by rw [HT1.out]; rfl)])
    go_wp2_with fail
    refine (require_no 1 _).mono ?_
    rintro e w4 ⟨rfl, rfl⟩
    go_wp2_with fail
    exact ⟨rfl, .inr ⟨by rw [HV.out]; decide, by rw [HV.out]⟩, HB3.out⟩
  | true =>
  go_wp2_with fail
  refine (isFrom_any _ _ _ _).mono ?_
  rintro e w4 ⟨rfl, rfl⟩
  obtain ⟨t2, ht2⟩ : ∃ t2, isFromB g 0 1000 = t2 := ⟨_, rfl⟩
  have HT2 := Lib.hid ht2
  rw [ht2]
  clear ht2
  cases t2 with
  | false =>
    have HV := Lib.hid (show seasonE S t g = 1 by rw [HVV.out, if_pos (by rw [HT1.out, HT2.out]; rfl)])
    go_wp2_with fail
    refine (require_no 1 _).mono ?_
    rintro e w4 ⟨rfl, rfl⟩
    go_wp2_with fail
    exact ⟨rfl, .inr ⟨by rw [HV.out]; decide, by rw [HV.out]⟩, HB3.out⟩
  | true =>
  go_wp2_with fail
  refine (require_yes 1 _).mono ?_
  rintro e w4 ⟨rfl, rfl⟩
  obtain ⟨w3, rfl⟩ : ∃ w3 : World, w3 = w4 := ⟨_, rfl⟩
  have hgr : 0 ≤ g ∧ g ≤ 1000 := by simpa [isFromB] using HT2.out
  have hsw : IntKind.i64.wrap (S.steep + g) = S.steep + g := by have := HST.out; rw [IntKind.wrap_i64]; omega
  obtain ⟨s0, s1, s2, s3, s4, s5⟩ := skn_cells (S := S) K13.out
  have l1 := K13.out.lt
  clear hgr
  by_cases hq : 1000 < S.steep + g
  · have hq' : ¬ S.steep + g ≤ 1000 := by omega
    have HV := Lib.hid (show seasonE S t g = 3 by rw [HVV.out, if_neg (by rw [HT1.out, HT2.out]; decide), if_pos hq])
    have hd : decide (S.steep + g ≤ 1000) = false := decide_eq_false hq'
    clear hq hq'
    go_wp2_with fail
    (try rw [hd])
    refine (require_no 3 _).mono ?_
    rintro e w4 ⟨rfl, rfl⟩
    go_wp2_with fail
    exact ⟨rfl, .inr ⟨by rw [HV.out]; decide, by rw [HV.out]⟩, HB3.out⟩
  · have hq' : S.steep + g ≤ 1000 := by omega
    have HV := Lib.hid (show seasonE S t g = 0 by rw [HVV.out, if_neg (by rw [HT1.out, HT2.out]; decide), if_neg hq])
    have hd : decide (S.steep + g ≤ 1000) = true := decide_eq_true hq'
    clear hq hq'
    go_wp2_with fail
    (try rw [hd])
    refine (require_yes 3 _).mono ?_
    rintro e w4 ⟨rfl, rfl⟩
    go_wp2_with fail
    go_end0
    exact ⟨.inl ⟨HV.out, rfl⟩, HB3.out⟩

/-! ### What a season leaves -/
theorem rowAt_set {cur : Array Value} {l : List Mrk} {j : Nat} {m : Mrk} (h : rowAt cur l) (hj : l[j]? = some m) (N : Spn) : rowAt ((cur.setIfInBounds (j * 4 + 2) (.int .i64 N.lo)).setIfInBounds (j * 4 + 3) (.int .i64 N.hi)) (l.set j ⟨m.at_, N⟩) := by
  have hs : j * 4 + 3 < cur.size := by
    have h3 := h j m hj 3 (by omega)
    rcases Nat.lt_or_ge (j * 4 + 3) cur.size with h | h
    · exact h
    · rw [Array.getElem?_eq_none h] at h3
      cases h3
  intro k x hk i hi
  by_cases hkj : j = k
  · subst hkj
    have hx : x = ⟨m.at_, N⟩ := by
      rw [List.getElem?_set_self (List.getElem?_eq_some_iff.1 hj).1] at hk
      exact (Option.some.inj hk).symm
    subst hx
    have h0 := h j m hj i hi
    match i, hi with
    | 0, _ => rw [Array.getElem?_setIfInBounds_ne (by omega), Array.getElem?_setIfInBounds_ne (by omega), h0]; rfl
    | 1, _ => rw [Array.getElem?_setIfInBounds_ne (by omega), Array.getElem?_setIfInBounds_ne (by omega), h0]; rfl
    | 2, _ => rw [Array.getElem?_setIfInBounds_ne (by omega), Array.getElem?_setIfInBounds_self_of_lt (by omega)]; rfl
    | 3, _ => rw [Array.getElem?_setIfInBounds_self_of_lt (by simp; omega)]; rfl
  · rw [List.getElem?_set_ne hkj] at hk
    rw [Array.getElem?_setIfInBounds_ne (by omega), Array.getElem?_setIfInBounds_ne (by omega)]
    exact h k x hk i hi
theorem less_round (t : Spn) {l : List Mrk} {j : Nat} {m : Mrk} (hj : l[j]? = some m) :
    ((l.take j).map (lessK t) ++ l.drop j)[j]? = some m ∧ ((l.take j).map (lessK t) ++ l.drop j).set j ⟨m.at_, lessS m.th t⟩ = (l.take (j + 1)).map (lessK t) ++ l.drop (j + 1) := by
  obtain ⟨hlt, rfl⟩ := List.getElem?_eq_some_iff.1 hj
  have hlen : ((l.take j).map (lessK t)).length = j := by simp; omega
  constructor
  · rw [List.getElem?_append_right (by omega), hlen, Nat.sub_self, List.drop_eq_getElem_cons hlt]
    rfl
  · rw [List.set_append_right _ _ (by omega), hlen, Nat.sub_self, List.drop_eq_getElem_cons hlt, List.set_cons_zero, List.take_add_one, hj]
    simp only [Option.toList, List.map_append, List.map_cons, List.map_nil, List.append_assoc, List.cons_append, List.nil_append, lessK]

set_option maxRecDepth 100000 in
set_option maxHeartbeats 16000000 in
theorem behind_any (S : Skn) (t : Spn) (g : Int) (w : World) (hS : IsSkn w S) (h1 : S.pts.length ≤ 100000) (h2 : S.hs.length ≤ 100000) (h3 : S.ms.length ≤ 100000) (hst : 0 ≤ S.steep + g ∧ S.steep + g ≤ 100000)
    (hth : isSpanB S.th 0 2000 = true) (hm : ∀ m ∈ S.ms, isSpanB m.th 0 2000 = true) (ht : isSpanB t 0 2000 = true) :
    Calls Tryd.prog 32 #[.agg #[.slice S.pa S.pts.length S.pc, .slice S.ha S.hs.length S.hc, .int .i64 S.steep, .int .i64 S.th.lo, .int .i64 S.th.hi, .slice S.ma S.ms.length S.mc], .agg #[.int .i64 t.lo, .int .i64 t.hi], .int .i64 g] w fun e w' => (∃ R, e = .returned (.agg (sknC R)) ∧ IsSkn w' R ∧ Fresh w.heap.size R ∧ Behind t g S R) ∧ Below w.heap.size w w' := by
  have k1 := ((Blk.new w 30 #[.slice S.pa S.pts.length S.pc, .slice S.ha S.hs.length S.hc, .int .i64 S.steep, .int .i64 S.th.lo, .int .i64 S.th.hi, .slice S.ma S.ms.length S.mc]).alloc (.cells #[.int .i64 t.lo, .int .i64 t.hi] 27)).alloc (.cells #[.slice none 0 0, .slice none 0 0, .int .i64 0, .int .i64 0, .int .i64 0, .slice none 0 0] 30)
  have k2 := (Blk.new (w.alloc (.cells #[.slice S.pa S.pts.length S.pc, .slice S.ha S.hs.length S.hc, .int .i64 S.steep, .int .i64 S.th.lo, .int .i64 S.th.hi, .slice S.ma S.ms.length S.mc] 30)) 27 #[.int .i64 t.lo, .int .i64 t.hi]).alloc (.cells #[.slice none 0 0, .slice none 0 0, .int .i64 0, .int .i64 0, .int .i64 0, .slice none 0 0] 30)
  have k3 := Blk.new ((w.alloc (.cells #[.slice S.pa S.pts.length S.pc, .slice S.ha S.hs.length S.hc, .int .i64 S.steep, .int .i64 S.th.lo, .int .i64 S.th.hi, .slice S.ma S.ms.length S.mc] 30)).alloc (.cells #[.int .i64 t.lo, .int .i64 t.hi] 27)) 30 #[.slice none 0 0, .slice none 0 0, .int .i64 0, .int .i64 0, .int .i64 0, .slice none 0 0]
  rw [World.size_alloc] at k2
  rw [World.size_alloc, World.size_alloc] at k3
  have hb1 : Below w.heap.size w (((w.alloc (.cells #[.slice S.pa S.pts.length S.pc, .slice S.ha S.hs.length S.hc, .int .i64 S.steep, .int .i64 S.th.lo, .int .i64 S.th.hi, .slice S.ma S.ms.length S.mc] 30)).alloc (.cells #[.int .i64 t.lo, .int .i64 t.hi] 27)).alloc (.cells #[.slice none 0 0, .slice none 0 0, .int .i64 0, .int .i64 0, .int .i64 0, .slice none 0 0] 30)) := (((Below.refl _ w).alloc (Nat.le_refl _) _).alloc (by simp) _).alloc (by simp; omega) _
  have hsw : IntKind.i64.wrap (S.steep + g) = S.steep + g := by rw [IntKind.wrap_i64]; omega
  have HS := Lib.hid hS
  have HL := Lib.hid (And.intro h1 (And.intro h2 h3))
  have HTH := Lib.hid hth
  have HM := Lib.hid hm
  have HT := Lib.hid ht
  clear hS h1 h2 h3 hst hth hm ht
  go_enter Tryd.func32, Tryd.ntmps32
  go_upto_region 1 with fail
  generalize (((w.alloc (.cells #[.slice S.pa S.pts.length S.pc, .slice S.ha S.hs.length S.hc, .int .i64 S.steep, .int .i64 S.th.lo, .int .i64 S.th.hi, .slice S.ma S.ms.length S.mc] 30)).alloc (.cells #[.int .i64 t.lo, .int .i64 t.hi] 27)).alloc (.cells #[.slice none 0 0, .slice none 0 0, .int .i64 0, .int .i64 0, .int .i64 0, .slice none 0 0] 30)) = w1 at *
  obtain ⟨s0, s1, s2, s3, s4, s5⟩ := skn_cells (S := S) k1
  have l1 := k1.lt
  have HB1 := Lib.hid hb1
  have K1 := Lib.hid k1
  have K2 := Lib.hid k2
  have K3 := Lib.hid k3
  clear k1 k2 k3 hb1
  go_wp2_with fail
  refine (copyOf_any S _ (HS.out.below HB1.out) HL.out.1 HL.out.2.1 HL.out.2.2).mono ?_
  rintro e w2 ⟨⟨a1, a2, a3, c1, c2, c3, n, rfl, hn, hfar, hp, hh, hmk, how, hnw⟩, hb⟩
  have HB2 := Lib.hid (HB1.out.trans (hb.mono HB1.out.size))
  have k7 := Blk.new w2 30 #[.slice a1 S.pts.length c1, .slice a2 S.hs.length c2, .int .i64 S.steep, .int .i64 S.th.lo, .int .i64 S.th.hi, .slice a3 S.ms.length c3]
  have hb3 : Below w2.heap.size w2 (w2.alloc (.cells #[.slice a1 S.pts.length c1, .slice a2 S.hs.length c2, .int .i64 S.steep, .int .i64 S.th.lo, .int .i64 S.th.hi, .slice a3 S.ms.length c3] 30)) := (Below.refl _ w2).alloc (Nat.le_refl _) _
  have hb13 := hb.trans (hb3.mono hb.size)
  have HB3 := Lib.hid (HB2.out.trans (hb3.mono HB2.out.size))
  have K13 := Lib.hid (K1.out.belowS hb13)
  have K23 := Lib.hid (K2.out.belowS hb13)
  have K33 := Lib.hid (K3.out.belowS hb13)
  have HLT := Lib.hid (show w.heap.size + 3 ≤ w2.heap.size by have := K3.out.lt; have := hb.size; omega)
  have HN1 := Lib.hid (show w.heap.size + 3 ≤ w1.heap.size by have := K3.out.lt; omega)
  have HN := Lib.hid (show w.heap.size + 3 ≤ n ∧ w1.heap.size ≤ n from ⟨by have := K3.out.lt; omega, hn⟩)
  have HFAR := Lib.hid hfar
  have HP := Lib.hid (hp.below hb3)
  have HH := Lib.hid (hh.below hb3)
  have hmk3 : OwnMarks (w2.alloc (.cells #[.slice a1 S.pts.length c1, .slice a2 S.hs.length c2, .int .i64 S.steep, .int .i64 S.th.lo, .int .i64 S.th.hi, .slice a3 S.ms.length c3] 30)) n a3 c3 S.ms := by
    rcases hmk with h | ⟨gg, cur, e, hng, hc, hcx, hB, hr⟩
    · exact .inl h
    · exact .inr ⟨gg, cur, e, hng, hc, hcx, hB.belowS hb3, hr⟩
  have HMK := Lib.hid hmk3
  have HOW := Lib.hid how
  have HNW := Lib.hid hnw
  clear s0 s1 s2 s3 s4 s5 l1 hb hb3 hb13 hn hfar hp hh hmk hmk3 how hnw K1 K2 K3
  go_upto_region 2 with fail
  generalize w2.alloc (.cells #[.slice a1 S.pts.length c1, .slice a2 S.hs.length c2, .int .i64 S.steep, .int .i64 S.th.lo, .int .i64 S.th.hi, .slice a3 S.ms.length c3] 30) = w3 at *
  have HW23 := Lib.hid (show w2.heap.size < w3.heap.size from k7.lt)
  have K73 := Lib.hid k7
  obtain ⟨q0, q1, q2, q3, q4, q5⟩ := (show w3.cell? ⟨w2.heap.size, 0, none⟩ = some (.slice a1 S.pts.length c1) ∧ w3.cell? ⟨w2.heap.size, 1, none⟩ = some (.slice a2 S.hs.length c2) ∧ w3.cell? ⟨w2.heap.size, 2, none⟩ = some (.int .i64 S.steep) ∧ w3.cell? ⟨w2.heap.size, 3, none⟩ = some (.int .i64 S.th.lo) ∧ w3.cell? ⟨w2.heap.size, 4, none⟩ = some (.int .i64 S.th.hi) ∧ w3.cell? ⟨w2.heap.size, 5, none⟩ = some (.slice a3 S.ms.length c3) from ⟨k7.cell 0, k7.cell 1, k7.cell 2, k7.cell 3, k7.cell 4, k7.cell 5⟩)
  have z2 := k7.frozen 2
  have l7 := k7.lt
  clear k7
  go_upto_region 3 with fail
  have kf : Blk (w3.setCell ⟨w2.heap.size, 2, none⟩ (.int .i64 (S.steep + g))) w2.heap.size #[.slice a1 S.pts.length c1, .slice a2 S.hs.length c2, .int .i64 (S.steep + g), .int .i64 S.th.lo, .int .i64 S.th.hi, .slice a3 S.ms.length c3] 30 := K73.out.set 2 _
  have ht : Turn (fun k => k = w2.heap.size) w3 (w3.setCell ⟨w2.heap.size, 2, none⟩ (.int .i64 (S.steep + g))) := (Turn.of_below (X := fun k => k = w2.heap.size) (Below.refl _ w3)).setCell (B := w2.heap.size) rfl 2 _
  generalize w3.setCell ⟨w2.heap.size, 2, none⟩ (.int .i64 (S.steep + g)) = w3b at *
  have K73b := Lib.hid kf
  have HT23 := Lib.hid ht
  have HB3b := Lib.hid (HB3.out.trans (ht.below HB3.out.size (fun k e => by rw [show k = w2.heap.size from e]; have := HLT.out; omega)))
  have K13b := Lib.hid (ht.blk K13.out (fun e => by have := HLT.out; have := (show w.heap.size = w2.heap.size from e); omega))
  have K23b := Lib.hid (ht.blk K23.out (fun e => by have := HLT.out; have := (show w.heap.size + 1 = w2.heap.size from e); omega))
  have K33b := Lib.hid (ht.blk K33.out (fun e => by have := HLT.out; have := (show w.heap.size + 1 + 1 = w2.heap.size from e); omega))
  clear q0 q1 q2 q3 q4 q5 z2 l7 kf ht K13 K23 K33 K73
  obtain ⟨s0, s1, s2, s3, s4, s5⟩ := skn_cells (S := S) K13b.out
  obtain ⟨t0, t1⟩ := spn_cells (s := t) K23b.out
  have l1 := K13b.out.lt
  have l2 := K23b.out.lt
  go_wp2_with fail
  refine (lessened_any S.th t HTH.out HT.out _).mono ?_
  rintro e w3c ⟨rfl, hb⟩
  obtain ⟨L, hL⟩ : ∃ L, lessS S.th t = L := ⟨_, rfl⟩
  rw [hL]
  have HL3 := Lib.hid hL
  have HBc := Lib.hid (HB3b.out.trans (hb.mono HB3b.out.size))
  have HT3c := Lib.hid (HT23.out.trans (Turn.of_below hb))
  have K1c := Lib.hid (K13b.out.belowS hb)
  have K2c := Lib.hid (K23b.out.belowS hb)
  have K3c := Lib.hid (K33b.out.belowS hb)
  have K7c := Lib.hid (K73b.out.belowS hb)
  clear s0 s1 s2 s3 s4 s5 t0 t1 l1 l2 hb hL K13b K23b K33b K73b HT23
  have l7 := K7c.out.lt
  have z3 := K7c.out.frozen 3
  have z4 := K7c.out.frozen 4
  obtain ⟨q0, q1, q2, q3, q4, q5⟩ := (show w3c.cell? ⟨w2.heap.size, 0, none⟩ = some (.slice a1 S.pts.length c1) ∧ w3c.cell? ⟨w2.heap.size, 1, none⟩ = some (.slice a2 S.hs.length c2) ∧ w3c.cell? ⟨w2.heap.size, 2, none⟩ = some (.int .i64 (S.steep + g)) ∧ w3c.cell? ⟨w2.heap.size, 3, none⟩ = some (.int .i64 S.th.lo) ∧ w3c.cell? ⟨w2.heap.size, 4, none⟩ = some (.int .i64 S.th.hi) ∧ w3c.cell? ⟨w2.heap.size, 5, none⟩ = some (.slice a3 S.ms.length c3) from ⟨K7c.out.cell 0, K7c.out.cell 1, K7c.out.cell 2, K7c.out.cell 3, K7c.out.cell 4, K7c.out.cell 5⟩)
  go_upto_region 4 with fail
  have kf : Blk ((w3c.setCell ⟨w2.heap.size, 3, none⟩ (.int .i64 L.lo)).setCell ⟨w2.heap.size, 4, none⟩ (.int .i64 L.hi)) w2.heap.size #[.slice a1 S.pts.length c1, .slice a2 S.hs.length c2, .int .i64 (S.steep + g), .int .i64 L.lo, .int .i64 L.hi, .slice a3 S.ms.length c3] 30 := (K7c.out.set 3 _).set 4 _
  have ht : Turn (fun k => k = w2.heap.size) w3c ((w3c.setCell ⟨w2.heap.size, 3, none⟩ (.int .i64 L.lo)).setCell ⟨w2.heap.size, 4, none⟩ (.int .i64 L.hi)) := ((Turn.of_below (X := fun k => k = w2.heap.size) (Below.refl _ w3c)).setCell (B := w2.heap.size) rfl 3 _).setCell (B := w2.heap.size) rfl 4 _
  generalize (w3c.setCell ⟨w2.heap.size, 3, none⟩ (.int .i64 L.lo)).setCell ⟨w2.heap.size, 4, none⟩ (.int .i64 L.hi) = w4 at *
  have HT34 := Lib.hid (HT3c.out.trans ht)
  have HB4 := Lib.hid (HBc.out.trans (ht.below HBc.out.size (fun k e => by rw [show k = w2.heap.size from e]; have := HLT.out; omega)))
  have K14 := Lib.hid (ht.blk K1c.out (fun e => by have := HLT.out; have := (show w.heap.size = w2.heap.size from e); omega))
  have K24 := Lib.hid (ht.blk K2c.out (fun e => by have := HLT.out; have := (show w.heap.size + 1 = w2.heap.size from e); omega))
  have K34 := Lib.hid (ht.blk K3c.out (fun e => by have := HLT.out; have := (show w.heap.size + 1 + 1 = w2.heap.size from e); omega))
  have K74 := Lib.hid kf
  have hX7 : ∀ (x : Addr), a1 = some x ∨ a2 = some x → ¬ x.block = w2.heap.size := fun x hx => by
    have := (HFAR.out x hx).2
    have := HNW.out
    omega
  have HP4 := Lib.hid (HP.out.turn HT34.out (fun x hx => hX7 x (.inl hx)))
  have HH4 := Lib.hid (HH.out.turn HT34.out (fun x hx => hX7 x (.inr hx)))
  have hmk4 : OwnMarks w4 n a3 c3 S.ms := by
    rcases HMK.out with h | ⟨gg, cur, e, hng, hc, hcx, hB, hr⟩
    · exact .inl h
    · refine .inr ⟨gg, cur, e, hng, hc, hcx, HT34.out.blk hB (fun e2 => by have := (HOW.out _ e).2; have := (show gg = w2.heap.size from e2); simp only at *; omega), hr⟩
  have HMK4 := Lib.hid hmk4
  clear q0 q1 q2 q3 q4 q5 z3 z4 l7 kf ht hX7 hmk4 K1c K2c K3c K7c HP HH HMK HT3c HT34
  have s5 : w4.cell? ⟨w.heap.size, 5, none⟩ = some (.slice S.ma S.ms.length S.mc) := K14.out.cell 5
  have l1 := K14.out.lt
  go_wp2_with fail
  go_loopw [8, 9, 25] (fun s8 s9 s25 wr => ∃ j : Nat, j ≤ S.ms.length ∧ s25 = .int .i64 j ∧ OwnMarks wr n a3 c3 ((S.ms.take j).map (lessK t) ++ S.ms.drop j) ∧ Turn (fun k => n ≤ k ∧ k < w2.heap.size) w4 wr) (fun _ _ i _ => S.ms.length - (intOf i).toNat)
  case atStart => exact ⟨0, Nat.zero_le _, rfl, by simpa using HMK4.out, Turn.of_below (Below.refl _ _)⟩
  case round =>
  clear s5 l1
  obtain ⟨j, hj, rfl, hmj, htj⟩ := hrel
  obtain ⟨w5, rfl⟩ : ∃ w5 : World, w5 = wr := ⟨_, rfl⟩
  have hXn : ∀ k, (n ≤ k ∧ k < w2.heap.size) → w.heap.size + 3 ≤ k := fun k h => by have := HN.out.1; omega
  have K15 := Lib.hid (htj.blk K14.out (fun e => by have := hXn _ e; omega))
  have K25 := Lib.hid (htj.blk K24.out (fun e => by have := hXn _ e; omega))
  have K35 := Lib.hid (htj.blk K34.out (fun e => by have := hXn _ e; omega))
  have K75 := Lib.hid (htj.blk K74.out (fun e => by have := (show n ≤ w2.heap.size ∧ w2.heap.size < w2.heap.size from e); omega))
  have HB5 := Lib.hid (HB4.out.trans (htj.below HB4.out.size (fun k e => by have := hXn _ e; omega)))
  have HMJ := Lib.hid hmj
  have HTJ := Lib.hid htj
  clear hXn hmj htj
  by_cases hlj : j < S.ms.length
  rotate_left
  · obtain rfl : j = S.ms.length := by omega
    have hlj' : ¬ (S.ms.length : Int) < (S.ms.length : Int) := by omega
    have hmz : OwnMarks w5 n a3 c3 (S.ms.map (lessK t)) := by
      have := HMJ.out
      rwa [List.take_of_length_le (Nat.le_refl _), List.drop_of_length_le (Nat.le_refl _), List.append_nil] at this
    have HMZ := Lib.hid hmz
    clear hlj hj hmz
    obtain ⟨q0, q1, q2, q3, q4, q5⟩ := (show w5.cell? ⟨w2.heap.size, 0, none⟩ = some (.slice a1 S.pts.length c1) ∧ w5.cell? ⟨w2.heap.size, 1, none⟩ = some (.slice a2 S.hs.length c2) ∧ w5.cell? ⟨w2.heap.size, 2, none⟩ = some (.int .i64 (S.steep + g)) ∧ w5.cell? ⟨w2.heap.size, 3, none⟩ = some (.int .i64 L.lo) ∧ w5.cell? ⟨w2.heap.size, 4, none⟩ = some (.int .i64 L.hi) ∧ w5.cell? ⟨w2.heap.size, 5, none⟩ = some (.slice a3 S.ms.length c3) from ⟨K75.out.cell 0, K75.out.cell 1, K75.out.cell 2, K75.out.cell 3, K75.out.cell 4, K75.out.cell 5⟩)
    have l7 := K75.out.lt
    have l3 := K35.out.lt
    have z0 := K35.out.frozen 0
    have z1 := K35.out.frozen 1
    have z2 := K35.out.frozen 2
    have z3 := K35.out.frozen 3
    have z4 := K35.out.frozen 4
    have z5 := K35.out.frozen 5
    obtain ⟨r0, r1, r2, r3, r4, r5⟩ := (show w5.cell? ⟨w.heap.size + 1 + 1, 0, none⟩ = some (.slice none 0 0) ∧ w5.cell? ⟨w.heap.size + 1 + 1, 1, none⟩ = some (.slice none 0 0) ∧ w5.cell? ⟨w.heap.size + 1 + 1, 2, none⟩ = some (.int .i64 0) ∧ w5.cell? ⟨w.heap.size + 1 + 1, 3, none⟩ = some (.int .i64 0) ∧ w5.cell? ⟨w.heap.size + 1 + 1, 4, none⟩ = some (.int .i64 0) ∧ w5.cell? ⟨w.heap.size + 1 + 1, 5, none⟩ = some (.slice none 0 0) from ⟨K35.out.cell 0, K35.out.cell 1, K35.out.cell 2, K35.out.cell 3, K35.out.cell 4, K35.out.cell 5⟩)
    go_wp2_with fail
    have kf : Blk ((((((w5.setCell ⟨w.heap.size + 1 + 1, 0, none⟩ (.slice a1 S.pts.length c1)).setCell ⟨w.heap.size + 1 + 1, 1, none⟩ (.slice a2 S.hs.length c2)).setCell ⟨w.heap.size + 1 + 1, 2, none⟩ (.int .i64 (S.steep + g))).setCell ⟨w.heap.size + 1 + 1, 3, none⟩ (.int .i64 L.lo)).setCell ⟨w.heap.size + 1 + 1, 4, none⟩ (.int .i64 L.hi)).setCell ⟨w.heap.size + 1 + 1, 5, none⟩ (.slice a3 S.ms.length c3)) (w.heap.size + 1 + 1) #[.slice a1 S.pts.length c1, .slice a2 S.hs.length c2, .int .i64 (S.steep + g), .int .i64 L.lo, .int .i64 L.hi, .slice a3 S.ms.length c3] 30 := ((((((K35.out.set 0 (.slice a1 S.pts.length c1)).set 1 (.slice a2 S.hs.length c2)).set 2 (.int .i64 (S.steep + g))).set 3 (.int .i64 L.lo)).set 4 (.int .i64 L.hi)).set 5 (.slice a3 S.ms.length c3))
    have ht : Turn (fun k => k = w.heap.size + 1 + 1) w5 ((((((w5.setCell ⟨w.heap.size + 1 + 1, 0, none⟩ (.slice a1 S.pts.length c1)).setCell ⟨w.heap.size + 1 + 1, 1, none⟩ (.slice a2 S.hs.length c2)).setCell ⟨w.heap.size + 1 + 1, 2, none⟩ (.int .i64 (S.steep + g))).setCell ⟨w.heap.size + 1 + 1, 3, none⟩ (.int .i64 L.lo)).setCell ⟨w.heap.size + 1 + 1, 4, none⟩ (.int .i64 L.hi)).setCell ⟨w.heap.size + 1 + 1, 5, none⟩ (.slice a3 S.ms.length c3)) := (((((((Turn.of_below (X := fun k => k = w.heap.size + 1 + 1) (Below.refl _ w5)).setCell (B := w.heap.size + 1 + 1) rfl 0 (.slice a1 S.pts.length c1)).setCell (B := w.heap.size + 1 + 1) rfl 1 (.slice a2 S.hs.length c2)).setCell (B := w.heap.size + 1 + 1) rfl 2 (.int .i64 (S.steep + g))).setCell (B := w.heap.size + 1 + 1) rfl 3 (.int .i64 L.lo)).setCell (B := w.heap.size + 1 + 1) rfl 4 (.int .i64 L.hi)).setCell (B := w.heap.size + 1 + 1) rfl 5 (.slice a3 S.ms.length c3))
    generalize ((((((w5.setCell ⟨w.heap.size + 1 + 1, 0, none⟩ (.slice a1 S.pts.length c1)).setCell ⟨w.heap.size + 1 + 1, 1, none⟩ (.slice a2 S.hs.length c2)).setCell ⟨w.heap.size + 1 + 1, 2, none⟩ (.int .i64 (S.steep + g))).setCell ⟨w.heap.size + 1 + 1, 3, none⟩ (.int .i64 L.lo)).setCell ⟨w.heap.size + 1 + 1, 4, none⟩ (.int .i64 L.hi)).setCell ⟨w.heap.size + 1 + 1, 5, none⟩ (.slice a3 S.ms.length c3)) = wf at *
    clear q0 q1 q2 q3 q4 q5 l7 l3 z0 z1 z2 z3 z4 z5 r0 r1 r2 r3 r4 r5
    obtain ⟨g0, g1, g2, g3, g4, g5⟩ := (show wf.cell? ⟨w.heap.size + 1 + 1, 0, none⟩ = some (.slice a1 S.pts.length c1) ∧ wf.cell? ⟨w.heap.size + 1 + 1, 1, none⟩ = some (.slice a2 S.hs.length c2) ∧ wf.cell? ⟨w.heap.size + 1 + 1, 2, none⟩ = some (.int .i64 (S.steep + g)) ∧ wf.cell? ⟨w.heap.size + 1 + 1, 3, none⟩ = some (.int .i64 L.lo) ∧ wf.cell? ⟨w.heap.size + 1 + 1, 4, none⟩ = some (.int .i64 L.hi) ∧ wf.cell? ⟨w.heap.size + 1 + 1, 5, none⟩ = some (.slice a3 S.ms.length c3) from ⟨kf.cell 0, kf.cell 1, kf.cell 2, kf.cell 3, kf.cell 4, kf.cell 5⟩)
    have hr2 := HMZ.out.turn ht (fun k e => by have := HN.out.1; omega)
    have hX2 : ∀ x : Addr, a1 = some x ∨ a2 = some x → ¬ (n ≤ x.block ∧ x.block < w2.heap.size) := fun x hx e => by have := (HFAR.out x hx).2; omega
    have hX3 : ∀ x : Addr, a1 = some x ∨ a2 = some x → ¬ x.block = w.heap.size + 1 + 1 := fun x hx e => by have := (HFAR.out x hx).1; have := HN1.out; omega
    have hlm : (S.ms.map (lessK t)).length = S.ms.length := List.length_map _
    refine bodyPost_ret (v := .agg #[.slice a1 S.pts.length c1, .slice a2 S.hs.length c2, .int .i64 (S.steep + g), .int .i64 L.lo, .int .i64 L.hi, .slice a3 S.ms.length c3]) (by simp [results, Tryd.results32, go_sem, g0, g1, g2, g3, g4, g5]) rfl ⟨⟨⟨a1, c1, S.pts, a2, c2, S.hs, S.steep + g, L, a3, c3, S.ms.map (lessK t)⟩, ?_, ⟨?_, ?_, ?_⟩, ?_, ⟨rfl, rfl, rfl, HL3.out.symm, rfl⟩⟩, HB5.out.trans (ht.below HB5.out.size (fun k e => by rw [show k = w.heap.size + 1 + 1 from e]; omega))⟩
    · simp only [sknC, hlm]
    · exact (HP4.out.turn HTJ.out (fun x hx => hX2 x (.inl hx))).turn ht (fun x hx => hX3 x (.inl hx))
    · exact (HH4.out.turn HTJ.out (fun x hx => hX2 x (.inr hx))).turn ht (fun x hx => hX3 x (.inr hx))
    · exact hr2.row
    · refine Fresh.mk3 (fun x hx => ?_) (fun x hx => ?_) (fun x hx => ?_)
      · have := (HFAR.out x (.inl hx)).1; have := HN1.out; omega
      · have := (HFAR.out x (.inr hx)).1; have := HN1.out; omega
      · have := (HOW.out x hx).1; have := HN.out.1; omega
  have hlj' : (j : Int) < (S.ms.length : Int) := by omega
  have hj0 : (0 : Int) ≤ (j : Int) := Int.natCast_nonneg _
  have hq : S.ms[j]? = some S.ms[j] := List.getElem?_eq_getElem hlj
  have hms := (HS.out.below HB5.out).ms
  have hjs : IntKind.i64.wrap ((j : Int) + 1) = ((j + 1 : Nat) : Int) := by have := HL.out.2.2; rw [IntKind.wrap_i64]; omega
  obtain ⟨b, off, hea, hbl, hcap, hcx, y0, y1, y2, y3⟩ := hms.at hq
  have HMT := Lib.hid (HM.out _ (List.getElem_mem hlj))
  have HLR := Lib.hid (less_round t hq)
  generalize S.ms[j] = m at *
  simp only [mrkC, List.getElem?_toArray, List.getElem?_cons_zero, List.getElem?_cons_succ] at y0 y1 y2 y3
  obtain ⟨gm, cur, ea3, hng, hc3, hcx3, hBm, hrm⟩ : ∃ gm cur, a3 = some ⟨gm, 0, none⟩ ∧ n ≤ gm ∧ S.ms.length ≤ c3 ∧ c3 ≤ 9223372036854775807 ∧ Blk w5 gm cur 61 ∧ rowAt cur ((S.ms.take j).map (lessK t) ++ S.ms.drop j) := by
    rcases HMJ.out with ⟨h, _⟩ | ⟨gm, cur, h1, h2, h3, h4, h5, h6⟩
    · exfalso
      have := HLR.out.1
      rw [h] at this
      cases this
    · exact ⟨gm, cur, h1, h2, by simpa [Nat.min_eq_left (Nat.le_of_lt hlj), Nat.add_sub_cancel' (Nat.le_of_lt hlj)] using h3, h4, h5, h6⟩
  have HGW := Lib.hid (show n ≤ gm ∧ gm < w2.heap.size from ⟨hng, (HOW.out _ ea3).2⟩)
  subst ea3
  have HRM := Lib.hid hrm
  have HC3 := Lib.hid (And.intro hc3 hcx3)
  have HLJ := Lib.hid hlj
  have kM := Blk.new w5 61 #[.int .i64 m.at_.x, .int .i64 m.at_.y, .int .i64 m.th.lo, .int .i64 m.th.hi]
  have hb6 : Below w5.heap.size w5 (w5.alloc (.cells #[.int .i64 m.at_.x, .int .i64 m.at_.y, .int .i64 m.th.lo, .int .i64 m.th.hi] 61)) := (Below.refl _ w5).alloc (Nat.le_refl _) _
  have K16 := Lib.hid (K15.out.belowS hb6)
  have K26 := Lib.hid (K25.out.belowS hb6)
  have K76 := Lib.hid (K75.out.belowS hb6)
  have KG6 := Lib.hid (hBm.belowS hb6)
  have HTJ6 := Lib.hid (HTJ.out.trans (Turn.of_below hb6))
  clear hq hj hlj hms hBm hrm hng hc3 hcx3 hb6 HMJ HTJ
  go_upto_region 7 with fail
  clear y0 y1 y2 y3 hbl hcap hcx
  generalize w5.alloc (.cells #[.int .i64 m.at_.x, .int .i64 m.at_.y, .int .i64 m.th.lo, .int .i64 m.th.hi] 61) = w6 at *
  have KM6 := Lib.hid kM
  clear kM
  have HEA := Lib.hid hea
  clear hea
  have hst : ∀ w', Below w6.heap.size w6 w' → (fun w' : World => Below w6.heap.size w6 w' ∧ (w'.cell? ⟨w2.heap.size, 0, none⟩ = some (.slice a1 S.pts.length c1) ∧ w'.cell? ⟨w2.heap.size, 1, none⟩ = some (.slice a2 S.hs.length c2) ∧ w'.cell? ⟨w2.heap.size, 2, none⟩ = some (.int .i64 (S.steep + g)) ∧ w'.cell? ⟨w2.heap.size, 3, none⟩ = some (.int .i64 L.lo) ∧ w'.cell? ⟨w2.heap.size, 4, none⟩ = some (.int .i64 L.hi) ∧ w'.cell? ⟨w2.heap.size, 5, none⟩ = some (.slice (some ⟨gm, 0, none⟩) S.ms.length c3) ∧ w'.cell? ⟨w5.heap.size, 0, none⟩ = some (.int .i64 m.at_.x) ∧ w'.cell? ⟨w5.heap.size, 1, none⟩ = some (.int .i64 m.at_.y) ∧ w'.cell? ⟨w5.heap.size, 2, none⟩ = some (.int .i64 m.th.lo) ∧ w'.cell? ⟨w5.heap.size, 3, none⟩ = some (.int .i64 m.th.hi) ∧ w'.cell? ⟨w.heap.size + 1, 0, none⟩ = some (.int .i64 t.lo) ∧ w'.cell? ⟨w.heap.size + 1, 1, none⟩ = some (.int .i64 t.hi))) w' := fun w' hb => by
    have x1 := K76.out.belowS hb
    have x2 := KM6.out.belowS hb
    have x3 := K26.out.belowS hb
    exact ⟨hb, x1.cell 0, x1.cell 1, x1.cell 2, x1.cell 3, x1.cell 4, x1.cell 5, x2.cell 0, x2.cell 1, x2.cell 2, x2.cell 3, x3.cell 0, x3.cell 1⟩
  have HST := Lib.hid hst
  clear hst
  have hx := HST.out w6.drew ((Below.refl _ w6).drew)
  refine wp_region_E 9 (fun w' : World => Below w6.heap.size w6 w' ∧ (w'.cell? ⟨w2.heap.size, 0, none⟩ = some (.slice a1 S.pts.length c1) ∧ w'.cell? ⟨w2.heap.size, 1, none⟩ = some (.slice a2 S.hs.length c2) ∧ w'.cell? ⟨w2.heap.size, 2, none⟩ = some (.int .i64 (S.steep + g)) ∧ w'.cell? ⟨w2.heap.size, 3, none⟩ = some (.int .i64 L.lo) ∧ w'.cell? ⟨w2.heap.size, 4, none⟩ = some (.int .i64 L.hi) ∧ w'.cell? ⟨w2.heap.size, 5, none⟩ = some (.slice (some ⟨gm, 0, none⟩) S.ms.length c3) ∧ w'.cell? ⟨w5.heap.size, 0, none⟩ = some (.int .i64 m.at_.x) ∧ w'.cell? ⟨w5.heap.size, 1, none⟩ = some (.int .i64 m.at_.y) ∧ w'.cell? ⟨w5.heap.size, 2, none⟩ = some (.int .i64 m.th.lo) ∧ w'.cell? ⟨w5.heap.size, 3, none⟩ = some (.int .i64 m.th.hi) ∧ w'.cell? ⟨w.heap.size + 1, 0, none⟩ = some (.int .i64 t.lo) ∧ w'.cell? ⟨w.heap.size + 1, 1, none⟩ = some (.int .i64 t.hi))) (by kernel_rfl) ?_
  refine E_take (i := 0) (oi := _) (v := ?vt18) rfl (by kernel_rfl) (by kernel_rfl) (by kernel_rfl) (by kernel_rfl) (fun _ _ _ h => h) hx (Or.inl ⟨by rfl, ?yt18⟩) ?rt18
  case yt18 => (intro w' hSw; (try dsimp only at hSw); go_simp; try with_reducible rfl)
  try simp only [Act.put, List.getElem_toArray, List.getElem_cons_zero, List.getElem_cons_succ, List.setIfInBounds_toArray, List.set_cons_zero, List.set_cons_succ]
  refine E_take (i := 1) (oi := _) (v := ?vt19) rfl (by kernel_rfl) (by kernel_rfl) (by kernel_rfl) (by kernel_rfl) (fun _ _ _ h => h) hx (Or.inl ⟨by rfl, ?yt19⟩) ?rt19
  case yt19 => (intro w' hSw; (try dsimp only at hSw); go_simp; try with_reducible rfl)
  try simp only [Act.put, List.getElem_toArray, List.getElem_cons_zero, List.getElem_cons_succ, List.setIfInBounds_toArray, List.set_cons_zero, List.set_cons_succ]
  refine E_take (i := 2) (oi := _) (v := ?vt20) rfl (by kernel_rfl) (by kernel_rfl) (by kernel_rfl) (by kernel_rfl) (fun _ _ _ h => h) hx (Or.inl ⟨by rfl, ?yt20⟩) ?rt20
  case yt20 => (intro w' hSw; (try dsimp only at hSw); go_simp; try with_reducible rfl)
  try simp only [Act.put, List.getElem_toArray, List.getElem_cons_zero, List.getElem_cons_succ, List.setIfInBounds_toArray, List.set_cons_zero, List.set_cons_succ]
  refine E_take (i := 3) (oi := _) (v := ?vt21) rfl (by kernel_rfl) (by kernel_rfl) (by kernel_rfl) (by kernel_rfl) (fun _ _ _ h => h) hx (Or.inl ⟨by rfl, ?yt21⟩) ?rt21
  case yt21 => (intro w' hSw; (try dsimp only at hSw); go_simp; try with_reducible rfl)
  try simp only [Act.put, List.getElem_toArray, List.getElem_cons_zero, List.getElem_cons_succ, List.setIfInBounds_toArray, List.set_cons_zero, List.set_cons_succ]
  refine E_take (i := 4) (oi := _) (v := ?vt22) rfl (by kernel_rfl) (by kernel_rfl) (by kernel_rfl) (by kernel_rfl) (fun _ _ _ h => h) hx (Or.inl ⟨by rfl, ?yt22⟩) ?rt22
  case yt22 => (intro w' hSw; (try dsimp only at hSw); go_simp; try with_reducible rfl)
  try simp only [Act.put, List.getElem_toArray, List.getElem_cons_zero, List.getElem_cons_succ, List.setIfInBounds_toArray, List.set_cons_zero, List.set_cons_succ]
  refine E_take (i := 5) (oi := _) (v := ?vt23) rfl (by kernel_rfl) (by kernel_rfl) (by kernel_rfl) (by kernel_rfl) (fun _ _ _ h => h) hx (Or.inl ⟨by rfl, ?yt23⟩) ?rt23
  case yt23 => (intro w' hSw; (try dsimp only at hSw); go_simp; try with_reducible rfl)
  try simp only [Act.put, List.getElem_toArray, List.getElem_cons_zero, List.getElem_cons_succ, List.setIfInBounds_toArray, List.set_cons_zero, List.set_cons_succ]
  refine E_step (i := 6) (o := _) (by kernel_rfl) rfl (fun K hK => ?_)
  go_simp
  refine (lessened_any m.th t HMT.out HT.out _).mono ?_
  rintro e w7 ⟨rfl, hb7⟩
  (try dsimp only)
  have hb67 : Below w6.heap.size w6 w7 := hx.1.trans (hb7.mono hx.1.size)
  refine hK.out _ _ (fun _ => HST.out w7 hb67) ?_
  clear hK K
  try simp only [Act.put, List.getElem_toArray, List.getElem_cons_zero, List.getElem_cons_succ, List.setIfInBounds_toArray, List.set_cons_zero, List.set_cons_succ]
  have hx7 := HST.out w7 hb67
  refine E_step (i := 7) (o := _) (by kernel_rfl) rfl (fun K hK => ?_)
  go_simp
  refine hK.out _ _ (fun _ => hx7) ?_
  clear hK K
  try simp only [Act.put, List.getElem_toArray, List.getElem_cons_zero, List.getElem_cons_succ, List.setIfInBounds_toArray, List.set_cons_zero, List.set_cons_succ]
  refine E_take (i := 8) (oi := _) (v := ?vt24) rfl (by kernel_rfl) (by kernel_rfl) (by kernel_rfl) (by kernel_rfl) (fun _ _ _ h => h) hx7 (Or.inl ⟨by rfl, ?yt24⟩) ?rt24
  case yt24 => (intro w' hSw; (try dsimp only at hSw); go_simp; try with_reducible rfl)
  try simp only [Act.put, List.getElem_toArray, List.getElem_cons_zero, List.getElem_cons_succ, List.setIfInBounds_toArray, List.set_cons_zero, List.set_cons_succ]
  have KG7 := Lib.hid (KG6.out.belowS hb67)
  have K17 := Lib.hid (K16.out.belowS hb67)
  have K27 := Lib.hid (K26.out.belowS hb67)
  have K77 := Lib.hid (K76.out.belowS hb67)
  have HTJ7 := Lib.hid (HTJ6.out.trans (Turn.of_below hb67))
  obtain ⟨hrm2, hset⟩ := HLR.out
  have hrr := HRM.out j m hrm2
  have c2 : w7.cell? ⟨gm, j * 4 + 2, none⟩ = some (.int .i64 m.th.lo) := (KG7.out.cell _).trans (hrr 2 (by omega))
  have c3' : w7.cell? ⟨gm, j * 4 + 3, none⟩ = some (.int .i64 m.th.hi) := (KG7.out.cell _).trans (hrr 3 (by omega))
  have z2 := KG7.out.frozen (j * 4 + 2)
  have z3 := KG7.out.frozen (j * 4 + 3)
  have lg := KG7.out.lt
  obtain ⟨N, hN⟩ : ∃ N, lessS m.th t = N := ⟨_, rfl⟩
  rw [hN]
  have HNN := Lib.hid hN
  have HRR := Lib.hid (rowAt_set HRM.out hrm2 N)
  rw [hN] at hset
  have HSET := Lib.hid hset
  clear hx hx7 hb7 hb67 hrm2 hset hrr hN
  refine E_step (i := 9) (o := _) (by kernel_rfl) rfl (fun K hK => ?_)
  go_simp
  refine hK.out _ _ (fun h => absurd rfl h) ?_
  clear hK K
  try simp only [Act.put, List.getElem_toArray, List.getElem_cons_zero, List.getElem_cons_succ, List.setIfInBounds_toArray, List.set_cons_zero, List.set_cons_succ]
  refine E_done (by kernel_rfl) ?_ _
  have kf : Blk ((w7.setCell ⟨gm, j * 4 + 2, none⟩ (.int .i64 N.lo)).setCell ⟨gm, j * 4 + 3, none⟩ (.int .i64 N.hi)) gm ((cur.setIfInBounds (j * 4 + 2) (.int .i64 N.lo)).setIfInBounds (j * 4 + 3) (.int .i64 N.hi)) 61 := (KG7.out.set _ _).set _ _
  have ht : Turn (fun k => k = gm) w7 ((w7.setCell ⟨gm, j * 4 + 2, none⟩ (.int .i64 N.lo)).setCell ⟨gm, j * 4 + 3, none⟩ (.int .i64 N.hi)) := ((Turn.of_below (X := fun k => k = gm) (Below.refl _ w7)).setCell (B := gm) rfl _ _).setCell (B := gm) rfl _ _
  generalize ((w7.setCell ⟨gm, j * 4 + 2, none⟩ (.int .i64 N.lo)).setCell ⟨gm, j * 4 + 3, none⟩ (.int .i64 N.hi)) = w8 at *
  have HTJ8 := Lib.hid (HTJ7.out.trans (ht.mono (fun k _ e => by rw [show k = gm from e]; exact HGW.out)))
  have HMK8 := Lib.hid (show OwnMarks w8 n (some ⟨gm, 0, none⟩) c3 ((S.ms.take (j + 1)).map (lessK t) ++ S.ms.drop (j + 1)) from
    .inr ⟨gm, _, rfl, HGW.out.1, by have := HLJ.out; have := HC3.out.1; simp; omega, HC3.out.2, kf, by rw [← HSET.out]; exact HRR.out⟩)
  clear c2 c3' z2 z3 lg kf ht
  go_wp2_with fail
  exact ⟨⟨j + 1, by have := HLJ.out; omega, rfl, HMK8.out, HTJ8.out⟩, by have := HLJ.out; simp [intOf]; omega⟩
end Go.Proofs.YtoigihmgjacbjaaDoor
