/- StrawLeast's walk. -/
import Derived.Test.YtdmhmiamhobikaaFH
namespace Go.Proofs.Ytdmhmiamhobikaa
open Go.RowKit

/-- Two lists of numbers that are being made. -/
structure Two (B : Nat) (a1 : Option Addr) (c1 : Nat) (so : List Nat) (a2 : Option Addr) (c2 : Nat) (al : List Nat) (w : World) : Prop where
  one : w.ownsRow B 3 1 (.slice a1 so.length c1) so.length (natsV so)
  two : w.ownsRow B 3 1 (.slice a2 al.length c2) al.length (natsV al)
  apart : rowOf a1 = none ∨ rowOf a1 ≠ rowOf a2
theorem Two.push2 {B g cap j : Nat} {a1 a2 : Option Addr} {c1 c2 : Nat} {so al : List Nat} {w w5 w6 : World} (h : Two B a1 c1 so a2 c2 al w) (hb : Below w.heap.size w w5)
    (hown : w6.ownsRow B 3 1 (.slice (some ⟨g, 0, none⟩) (al.length + 1) cap) (al.length + 1) (natsV al ++ [.int .i64 (j : Int)])) (hg : w5.grownBy w6 (Value.slice a2 al.length c2).ownBlock)
    (hat : (Value.slice a2 al.length c2).ownBlock = some g ∨ g = w5.heap.size) : Two B a1 c1 so (some ⟨g, 0, none⟩) cap (al ++ [j]) w6 := by
  have hlen : (al ++ [j]).length = al.length + 1 := by simp
  have hnv : natsV (al ++ [j]) = natsV al ++ [.int .i64 (j : Int)] := by simp [natsV]
  have hs := hb.size
  refine ⟨(ownsRow_belowS h.one hb).kept hg ?_, by rw [hlen, hnv]; exact hown, ?_⟩
  · rw [rowOf_own, rowOf_own]; exact h.apart
  · cases hr : rowOf a1 with
    | none => exact .inl rfl
    | some k =>
      right
      intro e
      have e' : k = g := by simpa [rowOf] using e
      rw [rowOf_own] at hat
      rcases hat with e2 | e2
      · rcases h.apart with e3 | e3
        · rw [hr] at e3; cases e3
        · rw [hr, e2, e'] at e3; exact e3 rfl
      · have := (h.one.lt k ((rowOf_own _ _ _).trans hr)).2
        omega
theorem Two.swap {B : Nat} {a1 a2 : Option Addr} {c1 c2 : Nat} {so al : List Nat} {w : World} (h : Two B a1 c1 so a2 c2 al w) : Two B a2 c2 al a1 c1 so w :=
  ⟨h.two, h.one, by
    rcases h.apart with e | e
    · cases hr : rowOf a2 with
      | none => exact .inl rfl
      | some k => right; rw [e]; exact fun h => by cases h
    · exact .inr fun e2 => e e2.symm⟩
theorem filter_more (P : Nat → Bool) (j : Nat) (b : Bool) : ∃ Q : Nat → Bool, (List.range' 0 (j + 1)).filter Q = (List.range' 0 j).filter P ++ (if b = true then [j] else []) := by
  refine ⟨fun k => if k = j then b else P k, ?_⟩
  rw [List.range'_concat, List.filter_append]
  congr 1
  · refine List.filter_congr fun x hx => ?_
    have := List.mem_range'_1.1 hx
    rw [if_neg (by omega)]
  · cases b <;> simp

set_option maxRecDepth 100000 in
set_option maxHeartbeats 8000000 in
theorem leastLaw_any (F : Frm) (n : Ned) (st x0 x1 x2 : Int) (w : World) (hF : IsFarm w F) (hx0 : 0 ≤ x0 ∧ x0 ≤ 65535) (hx1 : 0 ≤ x1 ∧ x1 ≤ 65535) (hx2 : 0 ≤ x2 ∧ x2 ≤ 65535) :
    Calls Try.prog 3 #[.agg #[.slice F.pa F.ps.length F.pc, .int .i64 F.dry], .agg #[.int .i64 n.reed, .int .i64 n.straw, .int .i64 n.heather], .int .u16 st, .agg #[.int .u16 x0, .int .u16 x1, .int .u16 x2]] w
      fun e w' => e = .returned (.bool true) ∧ Below w.heap.size w w' := by
  have HF := Lib.hid hF
  have k0 := ((Blk.new w 24 #[.slice F.pa F.ps.length F.pc, .int .i64 F.dry]).alloc (.cells #[.int .i64 n.reed, .int .i64 n.straw, .int .i64 n.heather] 26)).alloc (.cells #[.int .u16 x0, .int .u16 x1, .int .u16 x2] 28)
  have k1 := (Blk.new (w.alloc (.cells #[.slice F.pa F.ps.length F.pc, .int .i64 F.dry] 24)) 26 #[.int .i64 n.reed, .int .i64 n.straw, .int .i64 n.heather]).alloc (.cells #[.int .u16 x0, .int .u16 x1, .int .u16 x2] 28)
  have k2 := Blk.new ((w.alloc (.cells #[.slice F.pa F.ps.length F.pc, .int .i64 F.dry] 24)).alloc (.cells #[.int .i64 n.reed, .int .i64 n.straw, .int .i64 n.heather] 26)) 28 #[.int .u16 x0, .int .u16 x1, .int .u16 x2]
  have hB : Below w.heap.size w (((w.alloc (.cells #[.slice F.pa F.ps.length F.pc, .int .i64 F.dry] 24)).alloc (.cells #[.int .i64 n.reed, .int .i64 n.straw, .int .i64 n.heather] 26)).alloc (.cells #[.int .u16 x0, .int .u16 x1, .int .u16 x2] 28)) := (((Below.refl _ w).alloc (by simp) _).alloc (by simp) _).alloc (by simp; omega) _
  simp only [World.size_alloc, Nat.add_assoc, Nat.reduceAdd] at k1 k2
  clear hF
  go_enter Try.func3, Try.ntmps3
  go_upto_region 1 with fail
  simp only [Nat.add_assoc, Nat.reduceAdd]
  generalize (((w.alloc (.cells #[.slice F.pa F.ps.length F.pc, .int .i64 F.dry] 24)).alloc (.cells #[.int .i64 n.reed, .int .i64 n.straw, .int .i64 n.heather] 26)).alloc (.cells #[.int .u16 x0, .int .u16 x1, .int .u16 x2] 28)) = w1 at k0 k1 k2 hB ⊢
  have hF1 := HF.out.below hB
  have a0 := k0.cell 0
  have a1 := k0.cell 1
  simp only [List.getElem?_toArray, List.getElem?_cons_zero, List.getElem?_cons_succ] at a0 a1
  go_wp2_with fail
  refine (great_any F _ hF1).mono ?_
  rintro e w2 ⟨⟨gb, rfl⟩, hb2⟩
  have hB2 := hB.trans (hb2.mono hB.size)
  cases gb with
  | true =>
    have HB2 := Lib.hid hB2
    clear k0 k1 k2 hB hF1 a0 a1 hb2 hB2
    go_wp2_with fail
    refine (lives_any _).mono ?_
    rintro e w3 ⟨rfl, hb3⟩
    go_wp2_with fail
    go_ret
    exact ⟨rfl, HB2.out.trans (hb3.mono HB2.out.size)⟩
  | false =>
  replace k0 := k0.belowS hb2
  replace k1 := k1.belowS hb2
  replace k2 := k2.belowS hb2
  clear hF1 a0 a1 hb2 hB
  have hF2 := HF.out.below hB2
  have a0 := k0.cell 0
  have a1 := k0.cell 1
  have b0 := k1.cell 0
  have b1 := k1.cell 1
  have b2 := k1.cell 2
  simp only [List.getElem?_toArray, List.getElem?_cons_zero, List.getElem?_cons_succ] at a0 a1 b0 b1 b2
  go_wp2_with fail
  refine (choose_any F n _ hF2).mono ?_
  rintro e w3 ⟨hb3, h⟩
  have hB3 := hB2.trans (hb3.mono hB2.size)
  rcases h with ⟨hne, rfl⟩ | ⟨hce, hne, ba, bc, rfl, hN, hl⟩
  · have HB3 := Lib.hid hB3
    have hz1 : (chooseE F n == 0) = false := by simp [hne]
    have hz2 : (chooseE F n != 0) = true := by simp [hne]
    clear k0 k1 k2 hF2 a0 a1 b0 b1 b2 hb3 hB2 hB3 hne
    generalize chooseE F n = E at *
    go_wp2_with (go_at_call 6; refine (lives_any _).mono ?_; rintro e w4 ⟨rfl, hb4⟩)
    go_ret
    exact ⟨rfl, HB3.out.trans (hb4.mono HB3.out.size)⟩
  replace k0 := k0.belowS hb3
  replace k1 := k1.belowS hb3
  replace k2 := k2.belowS hb3
  obtain ⟨hlen, hok⟩ := checkE_ok hce
  have hsnd : (chooseM F.ps n).found = true → Ext F.ps 0 (chooseM F.ps n).best ∧ (chooseM F.ps n).least = costOf F.ps (chooseM F.ps n).best ∧ (sureOf F.ps (chooseM F.ps n).best).enough n = true := choose_sound F.ps n
  have hblk : (chooseM F.ps n).found = false → (chooseM F.ps n).best = [] ∧ (chooseM F.ps n).least = 0 := choose_blank F.ps n
  have hfnd := choose_found (n := n) (PS := F.ps) (fun p hp => by obtain ⟨_, ⟨p3, _⟩, ⟨p5, _⟩, _⟩ := hok p hp; exact Int.mul_nonneg (by omega) p5)
  have hbest : ∀ t, Ext F.ps 0 t → (sureOf F.ps t).enough n = true → (chooseM F.ps n).least ≤ costOf F.ps t := fun t ht he => (choose_enough ht he).2
  have hless : ∀ m : Ned, (chooseM F.ps n).found = true → m.reed ≤ n.reed → m.straw ≤ n.straw → m.heather ≤ n.heather → (chooseM F.ps m).found = true ∧ (chooseM F.ps m).least ≤ (chooseM F.ps n).least := fun m h h1 h2 h3 => choose_less h h1 h2 h3
  generalize (chooseM F.ps n).found = fd at *
  generalize (chooseM F.ps n).best = bl at *
  generalize (chooseM F.ps n).least = ls at *
  have HSND := Lib.hid hsnd
  have HBLK := Lib.hid hblk
  have HFND := Lib.hid hfnd
  have HBST := Lib.hid hbest
  have HLSS := Lib.hid hless
  have HN := Lib.hid hN
  have HOK := Lib.hid hok
  have HB3 := Lib.hid hB3
  have HCE := Lib.hid hce
  have HNE := Lib.hid hne
  have K0 := Lib.hid k0
  have K1 := Lib.hid k1
  have K2 := Lib.hid k2
  clear hF2 a0 a1 b0 b1 b2 hb3 hB2 hB3 hsnd hblk hfnd hbest hless hN hok hce hne k0 k1 k2
  go_wp2_with fail
  go_loopw [13, 14, 15] (fun s13 s14 s15 wr => ∃ (j : Nat) (P : Nat → Bool) (a1 : Option Addr) (c1 : Nat) (a2 : Option Addr) (c2 : Nat), j ≤ F.ps.length ∧ s13 = .slice a1 ((List.range' 0 j).filter P).length c1 ∧ s14 = .slice a2 (List.range' 0 j).length c2 ∧ s15 = .int .i64 j ∧
      Two w3.heap.size a1 c1 ((List.range' 0 j).filter P) a2 c2 (List.range' 0 j) wr ∧ Below w3.heap.size w3 wr) (fun _ _ s15 _ => F.ps.length - (intOf s15).toNat)
  case atStart => exact ⟨0, fun _ => false, none, 0, none, 0, Nat.zero_le _, rfl, rfl, rfl, ⟨World.ownsRow_nil _ _ _ _, World.ownsRow_nil _ _ _ _, .inl rfl⟩, Below.refl _ _⟩
  case round =>
    obtain ⟨j, P, a1, c1, a2, c2, hj, rfl, rfl, rfl, hT, hb4⟩ := hrel
    have y0 := (K0.out.belowS hb4).cell 0
    have l0 := (K0.out.belowS hb4).lt
    simp only [List.getElem?_toArray, List.getElem?_cons_zero] at y0
    by_cases hlj : j < F.ps.length
    · have hj0 : (0 : Int) ≤ (j : Int) := Int.natCast_nonneg _
      have hj1 : (j : Int) < (F.ps.length : Int) := by omega
      have hj12 : (j : Int) ≤ 11 := by omega
      obtain ⟨i0, hi0, hz0, hz1, hz2⟩ : ∃ i, Try.prog.info? 3 = some i ∧ i.zero = some (.int .i64 0) ∧ i.size = 1 ∧ i.bytes = 8 := ⟨_, rfl, rfl, rfl, rfl⟩
      have hrl : (List.range' 0 j).length = j := by simp
      have hfl : ((List.range' 0 j).filter P).length ≤ j := by have := List.length_filter_le P (List.range' 0 j); omega
      have hmx : (List.range' 0 j).length + 1 ≤ maxLen := by unfold maxLen; omega
      have hmy : ((List.range' 0 j).filter P).length + 1 ≤ maxLen := by unfold maxLen; omega
      have hTwo := hT.two
      have kE := Blk.new wr 3 #[.int .i64 (j : Int)]
      have hb3s := hb4.size
      go_upto_region 11 with (at_builtin; refine wpList_append_lies _ rfl _ _ 31 rfl w3.heap.size 3 i0 (.int .i64 0) 1 8 Try.underlying31 hi0 hz0 hz1 hz2 rfl (by decide) (.slice a2 (List.range' 0 j).length c2) (List.range' 0 j).length _ rfl (hTwo.alloc _) ⟨wr.heap.size, 0, none⟩ 1 1 [.int .i64 (j : Int)] rfl rfl (World.news_of_block kE) (by simp [Value.oneCell']) (by decide) hmx (by omega) (by simp; omega) _ rfl ?_; intro g cap w6 hown6 hgrow hat hlt6; have HOWN6 := Lib.hid hown6; have HGR := Lib.hid hgrow; have HAT := Lib.hid hat; clear hown6 hgrow hat)
      have hT6 := hT.push2 (j := j) ((Below.refl _ wr).alloc (Nat.le_refl _) _) HOWN6.out HGR.out (by simpa using HAT.out)
      have hrow2 : ∀ k, (Value.slice a2 (List.range' 0 j).length c2).ownBlock = some k → w3.heap.size ≤ k := fun k hk => (hT.two.lt k hk).1
      have hb6 : Below w3.heap.size w3 w6 := (hb4.alloc (by omega) _).grown HGR.out (by simp; omega) hrow2
      have hrc : List.range' 0 j ++ [j] = List.range' 0 (j + 1) := (List.range'_concat (step := 1)).symm ▸ by simp
      rw [hrc] at hT6
      have hT := hT6
      have HT6 := Lib.hid hT6
      have HB6 := Lib.hid hb6
      clear hT hT6 hb6 hTwo kE hrow2
      go_upto_region 11 with fail
      go_cut [71] from 55 to 75 (fun s71 wx => (∃ b, s71 = .bool b) ∧ wx = w6)
      case first =>
        go_wp2_with fail
        go_meet
        exact ⟨⟨_, rfl⟩, rfl⟩
      case rest =>
        obtain ⟨⟨bt, rfl⟩, rfl⟩ := hcut
        obtain ⟨w7, rfl⟩ : ∃ w7 : World, w7 = wc := ⟨_, rfl⟩
        obtain ⟨Q, hQ⟩ := filter_more P j bt
        have HQ := Lib.hid hQ
        clear hQ
        cases bt with
        | false =>
          have hq : (List.range' 0 (j + 1)).filter Q = (List.range' 0 j).filter P := by rw [HQ.out]; simp
          go_wp2_with fail
          refine ⟨⟨j + 1, Q, a1, c1, some ⟨g, 0, none⟩, cap, by omega, by rw [hq], by simp, by simp, by rw [hq]; exact HT6.out, HB6.out⟩, by simp [intOf]; omega⟩
        | true =>
          have hq : (List.range' 0 (j + 1)).filter Q = (List.range' 0 j).filter P ++ [j] := by rw [HQ.out]; simp
          have HQ2 := Lib.hid hq
          have hOne := HT6.out.one
          have kE := Blk.new w7 3 #[.int .i64 (j : Int)]
          have hb7s := HB6.out.size
          clear hq
          go_upto_region 9 with (at_builtin; refine wpList_append_lies _ rfl _ _ 31 rfl w3.heap.size 3 i0 (.int .i64 0) 1 8 Try.underlying31 hi0 hz0 hz1 hz2 rfl (by decide) (.slice a1 ((List.range' 0 j).filter P).length c1) ((List.range' 0 j).filter P).length _ rfl (hOne.alloc _) ⟨w7.heap.size, 0, none⟩ 1 1 [.int .i64 (j : Int)] rfl rfl (World.news_of_block kE) (by simp [Value.oneCell']) (by decide) hmy (by omega) (by simp; omega) _ rfl ?_; intro g2 cap2 w8 hown8 hgrow8 hat8 hlt8; have HOWN8 := Lib.hid hown8; have HGR8 := Lib.hid hgrow8; have HAT8 := Lib.hid hat8; clear hown8 hgrow8 hat8)
          have hT8 := HT6.out.swap.push2 (j := j) ((Below.refl _ w7).alloc (Nat.le_refl _) _) HOWN8.out HGR8.out (by simpa using HAT8.out)
          have hrow8 : ∀ k, (Value.slice a1 ((List.range' 0 j).filter P).length c1).ownBlock = some k → w3.heap.size ≤ k := fun k hk => (hOne.lt k hk).1
          have hb8 : Below w3.heap.size w3 w8 := (HB6.out.alloc (by omega) _).grown HGR8.out (by simp; omega) hrow8
          have HT8 := Lib.hid hT8
          have HB8 := Lib.hid hb8
          clear hT8 hb8 hrow8 hOne kE
          go_wp2_with fail
          refine ⟨⟨j + 1, Q, some ⟨g2, 0, none⟩, cap2, some ⟨g, 0, none⟩, cap, by omega, by rw [HQ2.out]; simp, by simp, by simp, by rw [HQ2.out]; exact HT8.out.swap, HB8.out⟩, by simp [intOf]; omega⟩
    · obtain rfl : j = F.ps.length := by omega
      clear hlj hj y0
      have hE1 := ext_range F.ps 0
      have hE2 := ext_filter P F.ps 0
      have hN1 : IsNats wr a2 c2 (List.range' 0 F.ps.length) := ownsRow_base hT.two (Nat.zero_le _)
      have hN2 : IsNats wr a1 c1 ((List.range' 0 F.ps.length).filter P) := ownsRow_base hT.one (Nat.zero_le _)
      have hB4 := HB3.out.trans (hb4.mono HB3.out.size)
      have hF4 := HF.out.below hB4
      have k0 := K0.out.belowS hb4
      have k1 := K1.out.belowS hb4
      have k2 := K2.out.belowS hb4
      have hN4 := HN.out.belowS hb4
      clear hT hb4 K0 K1 K2
      generalize List.range' 0 F.ps.length = AL at *
      generalize AL.filter P = SO at *
      have a0 := k0.cell 0
      have a1' := k0.cell 1
      have b0 := k1.cell 0
      have b1 := k1.cell 1
      have b2 := k1.cell 2
      simp only [List.getElem?_toArray, List.getElem?_cons_zero, List.getElem?_cons_succ] at a0 a1' b0 b1 b2
      have HB4 := Lib.hid hB4
      have HF4 := Lib.hid hF4
      have K0 := Lib.hid k0
      have K1 := Lib.hid k1
      have K2 := Lib.hid k2
      clear hB4 k0 k1 k2
      go_wp2_with fail
      refine (given_any F n a2 c2 AL _ hF4 hN1 hE1 hlen HOK.out).mono ?_
      rintro e w5 ⟨rfl, hb5⟩
      rw [← HFND.out]
      generalize costOf F.ps AL = ca
      have hB5 := HB4.out.trans (hb5.mono HB4.out.size)
      have hF5 := HF.out.below hB5
      have k0 := K0.out.belowS hb5
      have k1 := K1.out.belowS hb5
      have k2 := K2.out.belowS hb5
      have hN5 := hN4.belowS hb5
      have hN6 := hN2.belowS hb5
      have a0 := k0.cell 0
      have a1' := k0.cell 1
      have b0 := k1.cell 0
      have b1 := k1.cell 1
      have b2 := k1.cell 2
      simp only [List.getElem?_toArray, List.getElem?_cons_zero, List.getElem?_cons_succ] at a0 a1' b0 b1 b2
      have HB5 := Lib.hid hB5
      have K05 := Lib.hid k0
      have K15 := Lib.hid k1
      have K25 := Lib.hid k2
      clear hN1 hN2 hN4 hF4 hE1 hB5 k0 k1 k2 hb5 HB4 HF4 K0 K1 K2
      cases fd with
      | false =>
        obtain ⟨rfl, rfl⟩ := HBLK.out rfl
        clear a0 a1' b0 b1 b2
        go_wp2_with (go_at_call 6; refine (lives_any _).mono ?_; rintro e w6 ⟨rfl, hb6⟩)
        go_ret
        exact ⟨rfl, HB5.out.trans (hb6.mono HB5.out.size)⟩
      | true =>
        obtain ⟨hEb, hls, hen⟩ := HSND.out rfl
        have HLS := Lib.hid hls
        have HEN := Lib.hid hen
        clear hls hen
        go_wp2_with fail
        refine (given_any F n ba bc bl _ hF5 hN5 hEb hlen HOK.out).mono ?_
        rintro e w6 ⟨rfl, hb6⟩
        rw [← HLS.out, HEN.out]
        have hB6 := HB5.out.trans (hb6.mono HB5.out.size)
        have hF6 := HF.out.below hB6
        have k0 := K05.out.belowS hb6
        have k1 := K15.out.belowS hb6
        have k2 := K25.out.belowS hb6
        have hN7 := hN6.belowS hb6
        have a0 := k0.cell 0
        have a1' := k0.cell 1
        have b0 := k1.cell 0
        have b1 := k1.cell 1
        have b2 := k1.cell 2
        simp only [List.getElem?_toArray, List.getElem?_cons_zero, List.getElem?_cons_succ] at a0 a1' b0 b1 b2
        have HB6 := Lib.hid hB6
        have K06 := Lib.hid k0
        have K16 := Lib.hid k1
        have K26 := Lib.hid k2
        clear hN5 hN6 hF5 hEb hB6 k0 k1 k2 hb6 HB5 K05 K15 K25
        go_wp2_with fail
        refine (given_any F n a1 c1 SO _ hF6 hN7 hE2 hlen HOK.out).mono ?_
        rintro e w7 ⟨rfl, hb7⟩
        have hbs := HBST.out SO hE2
        generalize (sureOf F.ps SO).enough n = es at hbs ⊢
        generalize costOf F.ps SO = cs at hbs ⊢
        have hB7 := HB6.out.trans (hb7.mono HB6.out.size)
        have hF7 := HF.out.below hB7
        have k0 := K06.out.belowS hb7
        have k1 := K16.out.belowS hb7
        have k2 := K26.out.belowS hb7
        have a0 := k0.cell 0
        have a1' := k0.cell 1
        have b0 := k1.cell 0
        have b1 := k1.cell 1
        have b2 := k1.cell 2
        have e0 := k2.cell 0
        have e1 := k2.cell 1
        have e2 := k2.cell 2
        simp only [List.getElem?_toArray, List.getElem?_cons_zero, List.getElem?_cons_succ] at a0 a1' b0 b1 b2 e0 e1 e2
        have HB7 := Lib.hid hB7
        have l0 := k0.lt
        have l1 := k1.lt
        have l2 := k2.lt
        have HF7 := Lib.hid hF7
        have K07 := Lib.hid k0
        have hne := HNE.out
        simp only [needB, Bool.and_eq_true, isFromB_iff] at hne
        obtain ⟨⟨⟨n1, n2⟩, n3, n4⟩, n5, n6⟩ := hne
        obtain ⟨x01, x02⟩ := hx0
        obtain ⟨x11, x12⟩ := hx1
        obtain ⟨x21, x22⟩ := hx2
        clear hN7 hF6 hE2 hB7 hF7 k0 k1 k2 hb7 HB6 K06 K16 K26
        go_upto_region 22 with fail
        go_cut [135] (fun s135 wx => s135 = .bool false ∧ wx = w7)
        case first =>
          cases es with
          | false =>
            go_wp2_with fail
            go_meet
            exact ⟨rfl, rfl⟩
          | true =>
            have hle := hbs rfl
            have hnl : decide (cs < ls) = false := decide_eq_false (by omega)
            clear hbs
            go_wp2_with fail
            go_meet
            exact ⟨rfl, rfl⟩
        case rest =>
          obtain ⟨rfl, rfl⟩ := hcut
          obtain ⟨w8, rfl⟩ : ∃ w8 : World, w8 = wc := ⟨_, rfl⟩
          clear hbs
          go_upto_region 24 with fail
          go_cut [24] (fun s24 wx => s24 = .pointer (some ⟨w8.heap.size, 0, none⟩) ∧ ∃ mr ms mh : Int, (0 ≤ mr ∧ mr ≤ n.reed) ∧ (0 ≤ ms ∧ ms ≤ n.straw) ∧ (0 ≤ mh ∧ mh ≤ n.heather) ∧ wx = w8.alloc (.cells #[.int .i64 mr, .int .i64 ms, .int .i64 mh] 26))
          case first =>
            go_wp2_with fail
            all_goals go_meet
            all_goals refine ⟨rfl, _, _, _, ?_, ?_, ?_, rfl⟩
            all_goals (constructor <;> (repeat' split) <;> omega)
          case rest =>
          obtain ⟨rfl, mr, ms, mh, ⟨q01, q02⟩, ⟨q11, q12⟩, ⟨q21, q22⟩, rfl⟩ := hcut
          have kM := Blk.new w8 26 #[.int .i64 mr, .int .i64 ms, .int .i64 mh]
          have hb9 : Below w8.heap.size w8 (w8.alloc (.cells #[.int .i64 mr, .int .i64 ms, .int .i64 mh] 26)) := (Below.refl _ _).alloc (Nat.le_refl _) _
          generalize w8.alloc (.cells #[.int .i64 mr, .int .i64 ms, .int .i64 mh] 26) = w9 at kM hb9 ⊢
          have hB9 := HB7.out.trans (hb9.mono HB7.out.size)
          have hF9 := HF.out.below hB9
          have k0 := K07.out.belowS hb9
          have a0 := k0.cell 0
          have a1' := k0.cell 1
          have z0 := kM.cell 0
          have z1 := kM.cell 1
          have z2 := kM.cell 2
          simp only [List.getElem?_toArray, List.getElem?_cons_zero, List.getElem?_cons_succ] at a0 a1' z0 z1 z2
          have HB9 := Lib.hid hB9
          clear b0 b1 b2 e0 e1 e2 kM hb9 hB9 k0 l0 l1 l2 K07 HF7 HB7
          go_wp2_with fail
          refine (choose_any F ⟨mr, ms, mh⟩ _ hF9).mono ?_
          rintro e w10 ⟨hb10, h⟩
          rcases h with ⟨hne2, _⟩ | ⟨_, _, ba2, bc2, rfl, _, _⟩
          · exfalso
            apply hne2
            rw [chooseE, if_neg (by rw [HCE.out]; simp), if_neg]
            simp only [needB, Bool.not_eq_false, Bool.and_eq_true, isFromB_iff]
            refine ⟨⟨⟨q01, ?_⟩, q11, ?_⟩, q21, ?_⟩ <;> (show _ ≤ _; omega)
          · obtain ⟨hfm, hlm⟩ := HLSS.out ⟨mr, ms, mh⟩ (by simp) q02 q12 q22
            rw [hfm]
            generalize (chooseM F.ps ⟨mr, ms, mh⟩).least = lm at hlm ⊢
            generalize (chooseM F.ps ⟨mr, ms, mh⟩).best = bm
            have hdl : decide (lm ≤ ls) = true := decide_eq_true hlm
            have HB10 := Lib.hid (HB9.out.trans (hb10.mono HB9.out.size))
            clear hfm hb10 hF9 a0 a1' z0 z1 z2
            go_wp2_with (go_at_call 6; refine (lives_any _).mono ?_; rintro e w11 ⟨rfl, hb11⟩)
            go_ret
            exact ⟨rfl, HB10.out.trans (hb11.mono HB10.out.size)⟩
end Go.Proofs.Ytdmhmiamhobikaa
