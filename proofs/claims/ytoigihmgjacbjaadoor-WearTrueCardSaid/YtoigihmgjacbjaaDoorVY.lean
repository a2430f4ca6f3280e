/- WearOrder's walk. No condition but the package's variable. -/
import Derived.Test.YtoigihmgjacbjaaDoorVX
set_option linter.unusedSimpArgs false
namespace Go.Proofs.YtoigihmgjacbjaaDoor
open Go.RowKit

def rdgL (x : Rdg) : List Value := [.int .i64 x.at_.x, .int .i64 x.at_.y, .int .i64 x.r, .int .i64 x.n]
theorem u8_bd {n : Int} (h : (Lit.int .u8 n).wf = true) : 0 ≤ n ∧ n ≤ 255 := by
  simp only [Lit.wf, Bool.and_eq_true, decide_eq_true_eq] at h
  exact h
theorem u8_mod {n : Int} (h : (Lit.int .u8 n).wf = true) {m : Nat} (hm : 0 < m) : ∃ k : Nat, k < m ∧ IntKind.i64.wrap n = n ∧ n.tmod (m : Int) = k := by
  obtain ⟨h0, h1⟩ := u8_bd h
  have h2 : 0 ≤ n % (m : Int) := Int.emod_nonneg _ (by omega)
  have h3 : n % (m : Int) < (m : Int) := Int.emod_lt_of_pos _ (by omega)
  refine ⟨(n % (m : Int)).toNat, by omega, by rw [IntKind.wrap_i64]; omega, ?_⟩
  rw [Int.tmod_eq_emod_of_nonneg h0]
  omega
theorem info_rdg : ((Tryd.prog : Program).info? 48).map (fun i => (i.zero, i.size, i.bytes)) = some (some (.agg #[.int .i64 0, .int .i64 0, .int .i64 0, .int .i64 0]), 4, 32) := by kernel_rfl
theorem rdg_own {w : World} {base : Nat} {a : Option Addr} {c : Nat} {l : List Rdg} (h : w.ownsRow base 48 4 (.slice a l.length c) l.length (l.flatMap rdgL)) : IsRow4 rdgC w a c l := by
  rcases row_at rdgL 4 (fun _ => rfl) h with ⟨e, h0⟩ | ⟨g, cap, e, hb, hlt, hc, hcx, hall⟩
  · exact .inl h0
  · obtain ⟨rfl, _, rfl⟩ := slice_inj e
    refine .inr ⟨g, 0, rfl, hlt, hc, hcx, fun j x hj i hi => ?_⟩
    have := hall j x hj i hi
    rw [Nat.zero_add, this]
    simp [rdgL, rdgC]
theorem addr_zero (b j : Nat) : (⟨b, 0, none⟩ : Addr).add j = ⟨b, j, none⟩ := by unfold Addr.add; split <;> simp_all
theorem rdg_one (x : Rdg) : ∀ u ∈ rdgL x, u.oneCell' = true := fun u hu => by
  simp only [rdgL, List.mem_cons, List.not_mem_nil, or_false] at hu
  rcases hu with rfl | rfl | rfl | rfl <;> rfl

set_option maxRecDepth 100000 in
set_option maxHeartbeats 16000000 in
theorem wearOrderLaw_any (S : Skn) (la : Option Addr) (lc : Nat) (l : List Rdg) (n8 : Int) (w : World) (hS : IsSkn w S) (hl : IsRow4 rdgC w la lc l) (h8 : (Lit.int .u8 n8).wf = true) (hg : Laid w) :
    Calls Tryd.prog 7 #[.agg #[.slice S.pa S.pts.length S.pc, .slice S.ha S.hs.length S.hc, .int .i64 S.steep, .int .i64 S.th.lo, .int .i64 S.th.hi, .slice S.ma S.ms.length S.mc], .slice la l.length lc, .int .u8 n8] w fun e w' => e = .returned (.bool true) ∧ Below w.heap.size w w' := by
  have k1 := Blk.new w 30 #[.slice S.pa S.pts.length S.pc, .slice S.ha S.hs.length S.hc, .int .i64 S.steep, .int .i64 S.th.lo, .int .i64 S.th.hi, .slice S.ma S.ms.length S.mc]
  have hb1 : Below w.heap.size w (w.alloc (.cells #[.slice S.pa S.pts.length S.pc, .slice S.ha S.hs.length S.hc, .int .i64 S.steep, .int .i64 S.th.lo, .int .i64 S.th.hi, .slice S.ma S.ms.length S.mc] 30)) := (Below.refl _ w).alloc (Nat.le_refl _) _
  have HS := Lib.hid hS
  have HG := Lib.hid hg
  have HL := Lib.hid hl
  have H8 := Lib.hid h8
  have hlen := hl.len
  clear hS hg hl h8
  go_enter Tryd.func7, Tryd.ntmps7
  go_upto_region 1 with fail
  generalize (w.alloc (.cells #[.slice S.pa S.pts.length S.pc, .slice S.ha S.hs.length S.hc, .int .i64 S.steep, .int .i64 S.th.lo, .int .i64 S.th.hi, .slice S.ma S.ms.length S.mc] 30)) = w1 at *
  have K1 := Lib.hid k1
  have HB1 := Lib.hid hb1
  clear k1 hb1
  obtain ⟨s0, s1, s2, s3, s4, s5⟩ := skn_cells (S := S) K1.out
  have ls := K1.out.lt
  go_wp2_with fail
  refine (great_any S _ (HS.out.below HB1.out)).mono ?_
  rintro e w2 ⟨⟨gb, rfl⟩, hb⟩
  have HB2 := Lib.hid (HB1.out.trans (hb.mono HB1.out.size))
  have K2 := Lib.hid (K1.out.belowS hb)
  clear s0 s1 s2 s3 s4 s5 ls
  clear hb K1
  cases gb with
  | true =>
    go_wp2_with fail
    refine (lives_any _ (HG.out.below HB2.out)).mono ?_
    rintro e wz ⟨rfl, hbz⟩
    go_wp2_with fail
    go_ret
    exact ⟨rfl, HB2.out.trans (hbz.mono HB2.out.size)⟩
  | false =>
  by_cases h20 : 20 < l.length
  · have h20' : (20 : Int) < (l.length : Int) := by omega
    go_wp2_with fail
    refine (lives_any _ (HG.out.below HB2.out)).mono ?_
    rintro e wz ⟨rfl, hbz⟩
    go_wp2_with fail
    go_ret
    exact ⟨rfl, HB2.out.trans (hbz.mono HB2.out.size)⟩
  have h20' : ¬ (20 : Int) < (l.length : Int) := by omega
  by_cases h0 : l.length = 0
  · have h0' : ((l.length : Int) == 0) = true := by simp [h0]
    clear h20
    go_wp2_with fail
    refine (lives_any _ (HG.out.below HB2.out)).mono ?_
    rintro e wz ⟨rfl, hbz⟩
    go_wp2_with fail
    go_ret
    exact ⟨rfl, HB2.out.trans (hbz.mono HB2.out.size)⟩
  have h0' : ((l.length : Int) == 0) = false := by rw [beq_eq_false_iff_ne]; omega
  have HN := Lib.hid (show 0 < l.length ∧ l.length ≤ 20 by omega)
  obtain ⟨s0, s1, s2, s3, s4, s5⟩ := skn_cells (S := S) K2.out
  have ls := K2.out.lt
  clear h20 h0 hlen
  go_wp2_with fail
  refine (all_any S la lc l _ (HS.out.below HB2.out) (HG.out.below HB2.out) (HL.out.below HB2.out) (by have := HN.out; omega)).mono ?_
  rintro e w3 ⟨⟨A, rfl, hA, hal⟩, hb⟩
  obtain ⟨E, hE⟩ : ∃ E, allE S l = E := ⟨_, rfl⟩
  rw [hE] at hal ⊢
  have HE := Lib.hid hE
  have kA := Blk.new w3 30 #[.slice A.pa A.pts.length A.pc, .slice A.ha A.hs.length A.hc, .int .i64 A.steep, .int .i64 A.th.lo, .int .i64 A.th.hi, .slice A.ma A.ms.length A.mc]
  have hb4 : Below w3.heap.size w3 (w3.alloc (.cells #[.slice A.pa A.pts.length A.pc, .slice A.ha A.hs.length A.hc, .int .i64 A.steep, .int .i64 A.th.lo, .int .i64 A.th.hi, .slice A.ma A.ms.length A.mc] 30)) := (Below.refl _ w3).alloc (Nat.le_refl _) _
  have hb24 := hb.trans (hb4.mono hb.size)
  have HB4 := Lib.hid (HB2.out.trans (hb24.mono HB2.out.size))
  have K4 := Lib.hid (K2.out.belowS hb24)
  have HA := Lib.hid (hA.below hb4)
  have HAL := Lib.hid hal
  clear s0 s1 s2 s3 s4 s5 ls
  clear hb hb4 hb24 hE hA hal K2 h20' h0'
  unfold sknC
  go_upto_region 4 with fail
  generalize w3.alloc (.cells #[.slice A.pa A.pts.length A.pc, .slice A.ha A.hs.length A.hc, .int .i64 A.steep, .int .i64 A.th.lo, .int .i64 A.th.hi, .slice A.ma A.ms.length A.mc] 30) = w4 at *
  have KA4 := Lib.hid kA
  clear kA
  obtain ⟨k, hk, hwr, hmd⟩ := u8_mod H8.out HN.out.1
  have hnz : ((l.length : Int) == 0) = false := by have := HN.out; rw [beq_eq_false_iff_ne]; omega
  have hnz' : ¬ ((l.length : Int) = 0) := by have := HN.out; omega
  have HK := Lib.hid hk
  clear hk
  have hw1 : IntKind.i64.wrap ((l.length : Int) - 1) = (l.length : Int) - 1 := by have := HN.out; rw [IntKind.wrap_i64]; omega
  go_wp2_with fail
  go_loopw [10, 11] (fun s10 s11 wr => ∃ (m : Nat) (z : Int) (a : Option Addr) (c : Nat), m ≤ l.length ∧ z = (m : Int) - 1 ∧ s11 = .int .i64 z ∧ s10 = .slice a (l.length - m) c ∧ wr.ownsRow w4.heap.size 48 4 (.slice a (l.length - m) c) (l.length - m) (((rotL l k).drop m).reverse.flatMap rdgL) ∧ Below w4.heap.size w4 wr) (fun _ i _ => (intOf i + 1).toNat)
  case atStart =>
    refine ⟨l.length, _, none, 0, Nat.le_refl _, rfl, rfl, by rw [Nat.sub_self], ?_, Below.refl _ _⟩
    rw [Nat.sub_self, List.drop_of_length_le (by rw [rot_len l HK.out]; exact Nat.le_refl _)]
    exact World.ownsRow_nil _ _ _ _
  case round =>
  clear hw1 hnz hnz' hwr hmd
  obtain ⟨m, z, a, c, hm, hz, rfl, rfl, how, hb5⟩ := hrel
  obtain ⟨w5, rfl⟩ : ∃ w5 : World, w5 = wr := ⟨_, rfl⟩
  have HB5 := Lib.hid (HB4.out.trans (hb5.mono HB4.out.size))
  have HB45 := Lib.hid hb5
  have HOW := Lib.hid how
  clear hb5 how
  cases m with
  | succ i =>
    obtain ⟨y, hy, hyz⟩ : ∃ y : Int, y = (i : Int) ∧ z = y := ⟨_, rfl, by omega⟩
    clear hz
    subst hyz
    subst hy
    have HIM := Lib.hid (show i < l.length by omega)
    obtain ⟨q, hqd⟩ : ∃ q, q = (i + k) % l.length := ⟨_, rfl⟩
    have hql : q < l.length := by rw [hqd]; exact Nat.mod_lt _ HN.out.1
    have hq : l[q]? = some l[q] := List.getElem?_eq_getElem hql
    have HRT := Lib.hid (show (rotL l k)[i]? = some l[q] by rw [rot_at l HK.out HIM.out, ← hqd]; exact hq)
    obtain ⟨b, off, hea, hbl, hcap, hcx, y0, y1, y2, y3⟩ := (HL.out.below HB5.out).at hq
    generalize l[q] = x at *
    simp only [rdgC, List.getElem?_toArray, List.getElem?_cons_zero, List.getElem?_cons_succ] at y0 y1 y2 y3
    have hk := HK.out
    have hnn := HN.out
    have hi0 : (0 : Int) ≤ (i : Int) := Int.natCast_nonneg _
    have hnz : ((l.length : Int) == 0) = false := by rw [beq_eq_false_iff_ne]; omega
    have hnz' : ¬ ((l.length : Int) = 0) := by omega
    have hw2 : IntKind.i64.wrap ((i : Int) + (k : Int)) = (i : Int) + (k : Int) := by rw [IntKind.wrap_i64]; omega
    have hmd : ((i : Int) + (k : Int)).tmod (l.length : Int) = (q : Int) := by
      rw [Int.tmod_eq_emod_of_nonneg (by omega), hqd, Int.natCast_emod, Int.natCast_add]
    have hmd' : ((i : Int) + (k : Int)) % (l.length : Int) = (q : Int) := by rw [hqd, Int.natCast_emod, Int.natCast_add]
    have hq0 : (0 : Int) ≤ (q : Int) := Int.natCast_nonneg _
    have hql' : (q : Int) < (l.length : Int) := by omega
    have hw3 : IntKind.i64.wrap ((i : Int) - 1) = (i : Int) - 1 := by rw [IntKind.wrap_i64]; omega
    obtain ⟨i0, hi, hz0, hz1, hz2⟩ := info_parts3 info_rdg
    have hb6 : Below w5.heap.size w5 (w5.alloc (.cells #[.int .i64 x.at_.x, .int .i64 x.at_.y, .int .i64 x.r, .int .i64 x.n] 48)) := (Below.refl _ w5).alloc (Nat.le_refl _) _
    have HOW6 := Lib.hid (own_below HOW.out hb6)
    have HB46 := Lib.hid (HB45.out.trans (hb6.mono HB45.out.size))
    have HNEWS := Lib.hid (show ∀ j u, (rdgL x)[j]? = some u → (w5.alloc (.cells #[.int .i64 x.at_.x, .int .i64 x.at_.y, .int .i64 x.r, .int .i64 x.n] 48)).cell? ((⟨w5.heap.size, 0, none⟩ : Addr).add j) = some u from fun j u hu => by
      rw [addr_zero, (Blk.new w5 48 #[.int .i64 x.at_.x, .int .i64 x.at_.y, .int .i64 x.r, .int .i64 x.n]).cell]
      simpa [rdgL] using hu)
    have HONE := Lib.hid (rdg_one x)
    have HBS := Lib.hid (show w4.heap.size ≤ (w5.alloc (.cells #[.int .i64 x.at_.x, .int .i64 x.at_.y, .int .i64 x.r, .int .i64 x.n] 48)).heap.size from HB46.out.size)
    subst hea
    clear hqd hq hb6 hm hk hnn
    have hlm : l.length - (i + 1) + 1 ≤ 20 := by have := HN.out; omega
    go_wp2_with (at_builtin; refine wpList_append_lies _ rfl _ _ 43 rfl w4.heap.size 48 i0 (.agg #[.int .i64 0, .int .i64 0, .int .i64 0, .int .i64 0]) 4 32 Tryd.underlying43 hi hz0 hz1 hz2 rfl (by decide) (.slice a (l.length - (i + 1)) c) (l.length - (i + 1)) (((rotL l k).drop (i + 1)).reverse.flatMap rdgL) rfl HOW6.out ⟨w5.heap.size, 0, none⟩ 1 1 (rdgL x) rfl rfl HNEWS.out HONE.out (by decide) (by unfold maxLen; omega) (by omega) HBS.out _ rfl ?_; intro g cap w7 hown7 hgrow hat hlt7; have HO7 := Lib.hid hown7; have HG7 := Lib.hid hgrow; clear hown7 hgrow hat hlt7)
    refine ⟨⟨i, _, some ⟨g, 0, none⟩, cap, by have := HIM.out; omega, rfl, rfl, ?_, ?_, HB46.out.grown HG7.out HB46.out.size (fun j e => ?_)⟩, by simp [intOf] <;> omega⟩
    · have := HIM.out
      rw [show l.length - (i + 1) + 1 = l.length - i by omega]
    · have h7 := HO7.out
      have := HIM.out
      rw [show l.length - (i + 1) + 1 = l.length - i by omega] at h7
      have e : ((rotL l k).drop i).reverse.flatMap rdgL = ((rotL l k).drop (i + 1)).reverse.flatMap rdgL ++ rdgL x := by
        obtain ⟨hlt, hx⟩ := List.getElem?_eq_some_iff.1 HRT.out
        rw [List.drop_eq_getElem_cons hlt, List.reverse_cons, List.flatMap_append, hx]
        simp
      rw [e]
      exact h7
    · exact (HOW.out.lt j e).1
  | zero =>
    obtain ⟨y, hy, hyz⟩ : ∃ y : Int, y = -1 ∧ z = y := ⟨_, rfl, by omega⟩
    clear hz
    subst hyz
    subst hy
    have hm1 : ¬ (0 : Int) ≤ -1 := by omega
    clear hm
    have HLO := Lib.hid (show IsRow4 rdgC w5 a c (rotL l k).reverse from rdg_own (base := w4.heap.size) (by
      have h := HOW.out
      rw [Nat.sub_zero, List.drop_zero] at h
      rw [List.length_reverse, rot_len l HK.out]
      exact h))
    have HRL := Lib.hid (show (rotL l k).reverse.length = l.length by rw [List.length_reverse, rot_len l HK.out])
    have HPM := Lib.hid (all_perm (S := S) (rot_perm l k) (fun e => by have := HN.out; rw [e] at this; simp at this))
    have K5 := Lib.hid (K4.out.belowS HB45.out)
    have KA5 := Lib.hid (KA4.out.belowS HB45.out)
    have HA5 := Lib.hid (HA.out.below HB45.out)
    obtain ⟨s0, s1, s2, s3, s4, s5⟩ := skn_cells (S := S) K5.out
    have ls := K5.out.lt
    go_wp2_with fail
    refine (show Calls Tryd.prog 21 #[.agg #[.slice S.pa S.pts.length S.pc, .slice S.ha S.hs.length S.hc, .int .i64 S.steep, .int .i64 S.th.lo, .int .i64 S.th.hi, .slice S.ma S.ms.length S.mc], .slice a l.length c] w5 (AllSaid S (rotL l k).reverse w5) by
      have h := all_any S a c (rotL l k).reverse w5 (HS.out.below HB5.out) (HG.out.below HB5.out) HLO.out (by rw [HRL.out]; have := HN.out; omega)
      rwa [HRL.out] at h).mono ?_
    rintro e w6 ⟨⟨B, rfl, hB, hbl⟩, hb⟩
    obtain ⟨F, hF⟩ : ∃ F, allE S (rotL l k).reverse = F := ⟨_, rfl⟩
    rw [hF] at hbl ⊢
    have HF := Lib.hid hF
    have kB := Blk.new w6 30 #[.slice B.pa B.pts.length B.pc, .slice B.ha B.hs.length B.hc, .int .i64 B.steep, .int .i64 B.th.lo, .int .i64 B.th.hi, .slice B.ma B.ms.length B.mc]
    have hb7 : Below w6.heap.size w6 (w6.alloc (.cells #[.slice B.pa B.pts.length B.pc, .slice B.ha B.hs.length B.hc, .int .i64 B.steep, .int .i64 B.th.lo, .int .i64 B.th.hi, .slice B.ma B.ms.length B.mc] 30)) := (Below.refl _ w6).alloc (Nat.le_refl _) _
    have hb57 := hb.trans (hb7.mono hb.size)
    have HB7 := Lib.hid (HB5.out.trans (hb57.mono HB5.out.size))
    have KA7 := Lib.hid (KA5.out.belowS hb57)
    have HA7 := Lib.hid (HA5.out.below hb57)
    have HBB := Lib.hid (hB.below hb7)
    have HBL := Lib.hid hbl
    clear s0 s1 s2 s3 s4 s5 ls
    clear hb hb7 hb57 hF hB hbl K5 KA5 HA5
    unfold sknC
    go_upto_region 11 with fail
    generalize w6.alloc (.cells #[.slice B.pa B.pts.length B.pc, .slice B.ha B.hs.length B.hc, .int .i64 B.steep, .int .i64 B.th.lo, .int .i64 B.th.hi, .slice B.ma B.ms.length B.mc] 30) = w7 at *
    have KB7 := Lib.hid kB
    clear kB
    by_cases hE0 : E = 0
    · have hF0 : F = 0 := by rw [← HF.out]; exact HPM.out.1.1 (by rw [HE.out]; exact hE0)
      subst hE0 hF0
      have HSM := Lib.hid (show Alike A B from (HAL.out (by first | rfl | trivial)).symm.trans (HPM.out.2.trans (HBL.out (by first | rfl | trivial))))
      obtain ⟨s0, s1, s2, s3, s4, s5⟩ := skn_cells (S := A) KA7.out
      have ls := KA7.out.lt
      obtain ⟨r0, r1, r2, r3, r4, r5⟩ := skn_cells (S := B) KB7.out
      have lr := KB7.out.lt
      go_wp2_with fail
      refine (sameAlike_any A B _ HA7.out HBB.out HSM.out).mono ?_
      rintro e w8 ⟨rfl, hb⟩
      have HB8 := Lib.hid (HB7.out.trans (hb.mono HB7.out.size))
      clear s0 s1 s2 s3 s4 s5 ls r0 r1 r2 r3 r4 r5 lr
      clear hb
      go_wp2_with fail
      refine (lives_any _ (HG.out.below HB8.out)).mono ?_
      rintro e wz ⟨rfl, hbz⟩
      go_wp2_with fail
      go_ret
      exact ⟨rfl, HB8.out.trans (hbz.mono HB8.out.size)⟩
    · have hF0 : ¬ F = 0 := fun h => hE0 (by rw [← HE.out]; exact HPM.out.1.2 (by rw [HF.out]; exact h))
      have e1 : (E == 0) = false := by rw [beq_eq_false_iff_ne]; exact hE0
      have e2 : (E != 0) = true := by simp [hE0]
      have e3 : (F == 0) = false := by rw [beq_eq_false_iff_ne]; exact hF0
      clear hE0 hF0
      go_wp2_with fail
      refine (lives_any _ (HG.out.below HB7.out)).mono ?_
      rintro e wz ⟨rfl, hbz⟩
      go_wp2_with fail
      go_ret
      exact ⟨rfl, HB7.out.trans (hbz.mono HB7.out.size)⟩
end Go.Proofs.YtoigihmgjacbjaaDoor
