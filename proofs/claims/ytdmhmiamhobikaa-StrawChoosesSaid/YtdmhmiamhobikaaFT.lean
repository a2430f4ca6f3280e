/- The specification's Choose: the same choice. -/
import Derived.Test.YtdmhmiamhobikaaFS
import Derived.Test.YtdmhmiamhobikaaFP
import Derived.Deep.DeepCutAuto
import Derived.Deep.CutRange
namespace Go.Proofs.Ytdmhmiamhobikaa
open Go.RowKit

theorem bit_and {s i : Nat} (hs : s < 9223372036854775808) : (bits BinOp.and IntKind.i64 ((s : Int) / 2 ^ i) 1 == 1) = s.testBit i := by
  have e1 : (s : Int) / 2 ^ i = ((s / 2 ^ i : Nat) : Int) := by push_cast; rfl
  have hq : s / 2 ^ i < 9223372036854775808 := Nat.lt_of_le_of_lt (Nat.div_le_self _ _) hs
  rw [e1, Nat.testBit_eq_decide_div_mod_eq]
  generalize s / 2 ^ i = q at *
  have e2 : (BitVec.ofInt 64 (q : Int) &&& BitVec.ofInt 64 1).toNat = q % 2 := by
    rw [BitVec.toNat_and, BitVec.toNat_ofInt, BitVec.toNat_ofInt]
    have h1 : ((q : Int) % ((2 ^ 64 : Nat) : Int)).toNat = q := by omega
    have h2 : ((1 : Int) % ((2 ^ 64 : Nat) : Int)).toNat = 1 := by decide
    rw [h1, h2, Nat.and_one_is_mod]
  have e3 : bits BinOp.and IntKind.i64 (q : Int) 1 = ((q % 2 : Nat) : Int) := by
    show IntKind.i64.wrap ((BitVec.ofInt 64 (q : Int) &&& BitVec.ofInt 64 1).toNat : Int) = _
    rw [e2]
    exact IntWalk.i64_in _ (by omega)
  rw [e3]
  rcases Nat.mod_two_eq_zero_or_one q with h | h <;> rw [h] <;> rfl
theorem mask_snoc (i s : Nat) : maskL (i + 1) s = maskL i s ++ (if s.testBit i = true then [i] else []) := by
  unfold maskL
  rw [List.range'_concat, List.filter_append]
  congr 1
  cases h : s.testBit i <;> simp [h]
theorem mask_len (i s : Nat) : (maskL i s).length ≤ i := by
  have := List.length_filter_le (fun k => s.testBit k) (List.range' 0 i)
  simpa [maskL] using this
set_option maxRecDepth 100000 in
set_option maxHeartbeats 8000000 in
theorem refChoose_any (F : Frm) (n : Ned) (w : World) (hF : IsFarm w F) :
    Calls Try.prog 9 #[.agg #[.slice F.pa F.ps.length F.pc, .int .i64 F.dry], .agg #[.int .i64 n.reed, .int .i64 n.straw, .int .i64 n.heather]] w (ChooseSaid F n w) := by
  have HF := Lib.hid hF
  have k0 := (Blk.new w 24 #[.slice F.pa F.ps.length F.pc, .int .i64 F.dry]).alloc (.cells #[.int .i64 n.reed, .int .i64 n.straw, .int .i64 n.heather] 26)
  have k1 := Blk.new (w.alloc (.cells #[.slice F.pa F.ps.length F.pc, .int .i64 F.dry] 24)) 26 #[.int .i64 n.reed, .int .i64 n.straw, .int .i64 n.heather]
  have hB : Below w.heap.size w ((w.alloc (.cells #[.slice F.pa F.ps.length F.pc, .int .i64 F.dry] 24)).alloc (.cells #[.int .i64 n.reed, .int .i64 n.straw, .int .i64 n.heather] 26)) := ((Below.refl _ w).alloc (by simp) _).alloc (by simp) _
  simp only [World.size_alloc] at k1
  have hF1 := hF.below hB
  have HF1 := Lib.hid hF1
  clear hF hF1
  have c0 := k0.cell 0
  have c1 := k0.cell 1
  simp only [List.getElem?_toArray, List.getElem?_cons_zero, List.getElem?_cons_succ] at c0 c1
  go_enter Try.func9, Try.ntmps9
  go_wp2_with fail
  refine (refCheck_any F _ HF1.out).mono ?_
  rintro e w1 ⟨rfl, hb1⟩
  have k2 := k0.belowS hb1
  have k3 := k1.belowS hb1
  have hB1 := hB.trans (hb1.mono (by simp; omega))
  have hF2 := HF.out.below hB1
  have HF2 := Lib.hid hF2
  have HB1 := Lib.hid hB1
  have K2 := Lib.hid k2
  have K3 := Lib.hid k3
  clear c0 c1 k0 k1 hb1 hB1 hB hF2
  have c0 := k2.cell 0
  have c1 := k2.cell 1
  have d0 := k3.cell 0
  have d1 := k3.cell 1
  have d2 := k3.cell 2
  simp only [List.getElem?_toArray, List.getElem?_cons_zero, List.getElem?_cons_succ] at c0 c1 d0 d1 d2
  clear k2 k3
  generalize hE : checkE F = E
  have HE := Lib.hid hE
  clear hE
  by_cases h0 : E = 0
  · have hz1 : (E == 0) = true := by simp [h0]
    have hz2 : (E != 0) = false := by simp [h0]
    have H0 := Lib.hid h0
    clear h0
    go_wp2_with fail
    refine (refIn_any n.reed 0 100000 _).mono ?_
    rintro e w2 ⟨rfl, rfl⟩
    cases h1 : isFromB n.reed 0 100000 with
    | false =>
      have hv : chooseE F n = 1 := by rw [chooseE, if_neg (by rw [HE.out, H0.out]; simp), if_pos (by simp [needB, h1])]
      have HV := Lib.hid hv
      clear hv h1
      go_wp2_with fail
      exact bodyPost_ret (v := .tuple #[.slice none 0 0, .int .i64 0, .bool false, .int .i64 1]) (by simp [results, Try.results9, go_sem]) rfl ⟨HB1.out, .inl ⟨by rw [HV.out]; decide, by rw [HV.out]⟩⟩
    | true =>
    have H1 := Lib.hid h1
    clear h1
    go_wp2_with fail
    refine (refIn_any n.straw 0 100000 _).mono ?_
    rintro e w2 ⟨rfl, rfl⟩
    cases h2 : isFromB n.straw 0 100000 with
    | false =>
      have hv : chooseE F n = 1 := by rw [chooseE, if_neg (by rw [HE.out, H0.out]; simp), if_pos (by simp [needB, h2])]
      have HV := Lib.hid hv
      clear hv h2
      go_wp2_with fail
      exact bodyPost_ret (v := .tuple #[.slice none 0 0, .int .i64 0, .bool false, .int .i64 1]) (by simp [results, Try.results9, go_sem]) rfl ⟨HB1.out, .inl ⟨by rw [HV.out]; decide, by rw [HV.out]⟩⟩
    | true =>
    have H2 := Lib.hid h2
    clear h2
    go_wp2_with fail
    refine (refIn_any n.heather 0 100000 _).mono ?_
    rintro e w2 ⟨rfl, rfl⟩
    cases h3 : isFromB n.heather 0 100000 with
    | false =>
      have hv : chooseE F n = 1 := by rw [chooseE, if_neg (by rw [HE.out, H0.out]; simp), if_pos (by simp [needB, h3])]
      have HV := Lib.hid hv
      clear hv h3
      go_wp2_with fail
      exact bodyPost_ret (v := .tuple #[.slice none 0 0, .int .i64 0, .bool false, .int .i64 1]) (by simp [results, Try.results9, go_sem]) rfl ⟨HB1.out, .inl ⟨by rw [HV.out]; decide, by rw [HV.out]⟩⟩
    | true =>
    have H3 := Lib.hid h3
    clear h3
    obtain ⟨hlen, hok⟩ := checkE_ok (HE.out.trans H0.out)
    have HOK := Lib.hid hok
    have hpow : 2 ^ F.ps.length ≤ 4096 := by
      have := Nat.pow_le_pow_right (show 0 < 2 by omega) hlen
      simpa using this
    obtain ⟨T, hT⟩ : ∃ T, T = 2 ^ F.ps.length := ⟨_, rfl⟩
    have hT2 : T ≤ 4096 := by rw [hT]; exact hpow
    have hwp : wrap64 ((2 : Int) ^ F.ps.length) = (T : Int) := by
      have e : (2 : Int) ^ F.ps.length = (T : Int) := by rw [hT]; push_cast; rfl
      rw [e]
      exact IntWalk.wrap64_in _ ⟨by omega, by omega⟩
    have HT := Lib.hid hT
    clear hok hpow hT c0 c1 d0 d1 d2
    go_wp2_with fail
    go_loopw [9, 10, 11, 12, 13, 14, 15] (fun s9 s10 s11 s12 _ _ _ wr => ∃ (s : Nat) (b : Bst) (ba : Option Addr) (bc : Nat), s ≤ T ∧ s9 = .slice ba b.best.length bc ∧ s10 = .int .i64 b.least ∧ s11 = .bool b.found ∧ s12 = .int .i64 s ∧
        b.of F.ps n (fun t => ∃ m, m < s ∧ t = maskL F.ps.length m) ∧ IsNats wr ba bc b.best ∧ b.best.length ≤ 12 ∧ Below w1.heap.size w1 wr) (fun _ _ _ s12 _ _ _ _ => T - (intOf s12).toNat)
    case atStart => exact ⟨0, ⟨[], 0, false⟩, none, 0, Nat.zero_le _, rfl, rfl, rfl, rfl, ⟨fun _ => ⟨fun t ⟨m, hm, _⟩ => absurd hm (by omega), rfl, rfl⟩, fun f => (by cases f), fun f => (by cases f)⟩, World.ownsRow_nil _ _ _ _, by simp, Below.refl _ _⟩
    case round =>
      obtain ⟨s, b, ba, bc, hs, rfl, rfl, rfl, rfl, hof, hN, hbl, hb2⟩ := hrel
      obtain ⟨wo, rfl⟩ : ∃ wo : World, wo = wr := ⟨_, rfl⟩
      have k2 := K2.out.belowS hb2
      have c0 := k2.cell 0
      have l0 := k2.lt
      simp only [List.getElem?_toArray, List.getElem?_cons_zero] at c0
      have HOF := Lib.hid hof
      have HN := Lib.hid hN
      clear hof hN k2
      by_cases hst : s < T
      · have hs0 : (0 : Int) ≤ (s : Int) := Int.natCast_nonneg _
        have hs1 : (s : Int) < (T : Int) := by omega
        go_upto_region 14 with fail
        go_loopw [13, 14, 15] (fun s13 s14 s15 wr => ∃ (i : Nat) (a : Option Addr) (c : Nat) (cost : Int), i ≤ F.ps.length ∧ s13 = .slice a (maskL i s).length c ∧ s14 = .int .i64 cost ∧ s15 = .int .i64 i ∧ costOf F.ps (maskL i s) = cost ∧ (0 ≤ cost ∧ cost ≤ i * 1000000) ∧
            wr.ownsRow wo.heap.size 3 1 (.slice a (maskL i s).length c) (maskL i s).length (natsV (maskL i s)) ∧ Below wo.heap.size wo wr) (fun _ _ s15 _ => F.ps.length - (intOf s15).toNat)
        case atStart => exact ⟨0, none, 0, 0, Nat.zero_le _, rfl, rfl, rfl, rfl, by simp, World.ownsRow_nil _ _ _ _, Below.refl _ _⟩
        case round =>
          obtain ⟨i, a, c, cost, hi, rfl, rfl, rfl, hc, ⟨hc0, hc1⟩, hown, hb3⟩ := hrel
          have hb5 := hb2.trans (hb3.mono hb2.size)
          have hFr := HF2.out.below hb5
          have k2 := K2.out.belowS hb5
          have c0 := k2.cell 0
          have l0 := k2.lt
          have hws := hb3.size
          simp only [List.getElem?_toArray, List.getElem?_cons_zero] at c0
          have HC := Lib.hid hc
          have HOW := Lib.hid hown
          have HB3 := Lib.hid hb3
          have HB5 := Lib.hid hb5
          clear hc k2 hb5 hb3
          by_cases hil : i < F.ps.length
          · have hi0 : (0 : Int) ≤ (i : Int) := Int.natCast_nonneg _
            have hi1 : (i : Int) < (F.ps.length : Int) := by omega
            have hi12 : (i : Int) ≤ 11 := by omega
            go_upto_region 16 with fail
            go_cut [60] from 49 to 72 (fun s60 wx => s60 = .bool (s.testBit i) ∧ wx = wr)
            case first =>
              go_wp2_with fail
              go_meet
              exact ⟨by rw [bit_and (by omega)], rfl⟩
            case rest =>
              obtain ⟨rfl, rfl⟩ := hcut
              obtain ⟨w7, rfl⟩ : ∃ w7 : World, w7 = wc := ⟨_, rfl⟩
              have hpq : F.ps[i]? = some F.ps[i] := List.getElem?_eq_getElem hil
              have hpk := HOK.out _ (List.getElem_mem hil)
              have hpa : pltAt F.ps i = F.ps[i] := by rw [pltAt, hpq]; rfl
              have hms := mask_snoc i s
              have hml := mask_len i s
              cases hbt : s.testBit i with
              | false =>
                rw [hbt] at hms
                have hmz : maskL (i + 1) s = maskL i s := by rw [hms]; simp
                have HMZ := Lib.hid hmz
                clear hms hmz hbt hpa hpk hpq hFr
                go_wp2_with fail
                refine ⟨⟨i + 1, a, c, cost, by omega, by rw [HMZ.out], rfl, by simp, by rw [HMZ.out]; exact HC.out, ⟨hc0, by push_cast; omega⟩, by rw [HMZ.out]; exact HOW.out, HB3.out⟩, by simp [intOf]; omega⟩
              | true =>
                rw [hbt, if_pos rfl] at hms
                have hcs : costOf F.ps (maskL (i + 1) s) = cost + F.ps[i].cost := by rw [hms, costOf_snoc, HC.out, hpa]
                have HCS := Lib.hid hcs
                have HMS := Lib.hid hms
                obtain ⟨_, _, _, p7, p8⟩ := hpk
                have hmx : (maskL i s).length + 1 ≤ maxLen := by unfold maxLen; omega
                have kE := Blk.new w7 3 #[.int .i64 (i : Int)]
                obtain ⟨i0, hi0', hz0, hz1', hz2'⟩ : ∃ i, Try.prog.info? 3 = some i ∧ i.zero = some (.int .i64 0) ∧ i.size = 1 ∧ i.bytes = 8 := ⟨_, rfl, rfl, rfl, rfl⟩
                clear hcs hms hbt hpa hFr
                go_upto_region 18 with (at_builtin; refine wpList_append_lies _ rfl _ _ 31 rfl wo.heap.size 3 i0 (.int .i64 0) 1 8 Try.underlying31 hi0' hz0 hz1' hz2' rfl (by decide) (.slice a (maskL i s).length c) (maskL i s).length _ rfl (hown.alloc _) ⟨w7.heap.size, 0, none⟩ 1 1 [.int .i64 (i : Int)] rfl rfl (World.news_of_block kE) (by simp [Value.oneCell']) (by decide) hmx (by omega) (by simp; omega) _ rfl ?_; intro g2 cap2 w8 hown8 hgrow8 hat8 hlt8; have HOWN8 := Lib.hid hown8; have HGR8 := Lib.hid hgrow8; clear hown8 hgrow8 hat8)
                have hrow8 : ∀ k, (Value.slice a (maskL i s).length c).ownBlock = some k → wo.heap.size ≤ k := fun k hk => (HOW.out.lt k hk).1
                have hb8 : Below wo.heap.size wo w8 := (HB3.out.alloc (by omega) _).grown HGR8.out (by simp; omega) hrow8
                have hb9 := hb2.trans (hb8.mono hb2.size)
                have hFr := HF2.out.below hb9
                rcases hFr with ⟨_, hn⟩ | ⟨pb, off, cp, h1, h2, h3, h4, h5⟩
                · rw [hn] at hil
                  simp at hil
                obtain ⟨⟨d0, d1, d2, d3, d4, d5, d6, d7, d8⟩, _⟩ := h5 i _ hpq
                obtain ⟨epa, _, epc⟩ := slice_inj h1
                have k2 := K2.out.belowS hb9
                have c0 := k2.cell 0
                have l9 := k2.lt
                simp only [List.getElem?_toArray, List.getElem?_cons_zero] at c0
                rw [epa, epc] at c0
                have hT8 : (maskL (i + 1) s).length = (maskL i s).length + 1 := by rw [HMS.out]; simp
                have hV8 : natsV (maskL (i + 1) s) = natsV (maskL i s) ++ [.int .i64 (i : Int)] := by rw [HMS.out]; simp [natsV]
                generalize F.ps[i] = p at *
                have HT8 := Lib.hid hT8
                have HV8 := Lib.hid hV8
                have HB8 := Lib.hid hb8
                clear h1 h5 epa epc hpq d0 d1 d2 d3 d4 d5 d6 d7 k2 hT8 hV8 hb8 hb9 hrow8 kE hown
                go_wp2_with fail
                refine ⟨⟨_, _, _, ⟨i + 1, by omega, some ⟨g2, 0, none⟩, cap2, rfl, cost + p.cost, rfl, rfl, HCS.out, ⟨by omega, by push_cast; omega⟩, by rw [HT8.out, HV8.out]; exact HOWN8.out, HB8.out⟩, by rw [HT8.out], rfl, by simp⟩, by simp [intOf]; omega⟩
          · obtain rfl : i = F.ps.length := by omega
            have hEx : Ext F.ps 0 (maskL F.ps.length s) := ext_filter _ F.ps 0
            have hMl := mask_len F.ps.length s
            have hNl : IsNats wr a c (maskL F.ps.length s) := ownsRow_base HOW.out (Nat.zero_le _)
            have hNb := HN.out.belowS HB3.out
            have k3 := K3.out.belowS HB5.out
            have k2 := K2.out.belowS HB5.out
            have c1 := k2.cell 1
            have d0 := k3.cell 0
            have d1 := k3.cell 1
            have d2 := k3.cell 2
            have l3 := k3.lt
            simp only [List.getElem?_toArray, List.getElem?_cons_zero, List.getElem?_cons_succ] at c1 d0 d1 d2
            have hstp := HOF.out.step (maskL F.ps.length s)
            rw [HC.out] at hstp
            obtain ⟨bl, ls, fd⟩ := b
            simp only [] at hbl hNb hstp
            have HSTP := Lib.hid hstp
            clear hstp k2 k3 hil hi hc0 hc1 hown
            generalize hLq : maskL F.ps.length s = L at *
            have HLQ := Lib.hid hLq
            clear hLq
            go_upto_region 19 with fail
            go_cut [87] from 41 to 89 (fun s87 wx => s87 = .bool ((sureOf F.ps L).enough n && (!fd || ahB L cost bl ls)) ∧ Below wr.heap.size wr wx)
            case first =>
              go_wp2_with fail
              refine (refEnough_any F n a c L _ (HF2.out.below HB5.out) hNl hEx hlen HOK.out).mono ?_
              rintro e w9 ⟨rfl, hb9⟩
              have hNl9 := hNl.belowS hb9
              have hNb9 := hNb.belowS hb9
              have HB9 := Lib.hid hb9
              clear c1 d0 d1 d2 hb9
              generalize hen : (sureOf F.ps L).enough n = en
              have HEN := Lib.hid hen
              clear hen
              cases en with
              | false =>
                go_wp2_with fail
                go_meet
                exact ⟨by rw [HEN.out]; rfl, HB9.out⟩
              | true =>
                cases fd with
                | false =>
                  go_wp2_with fail
                  go_meet
                  exact ⟨by rw [HEN.out]; rfl, HB9.out⟩
                | true =>
                  go_wp2_with (go_at_call 18; refine (refAhead_any a ba c bc L bl cost ls _ hNl9 hNb9 (by omega)).mono ?_; rintro e w10 ⟨rfl, hb10⟩)
                  go_meet
                  exact ⟨by rw [HEN.out]; rfl, HB9.out.trans (hb10.mono HB9.out.size)⟩
            case rest =>
              obtain ⟨rfl, hbx⟩ := hcut
              obtain ⟨w9, rfl⟩ : ∃ w9 : World, w9 = wc := ⟨_, rfl⟩
              have hb10 : Below w1.heap.size w1 w9 := HB5.out.trans (hbx.mono HB5.out.size)
              have HB10 := Lib.hid hb10
              have hNl9 := hNl.belowS hbx
              have hNb9 := hNb.belowS hbx
              have hS1 : ∀ t, ((∃ m, m < s ∧ t = maskL F.ps.length m) ∨ t = L) ↔ ∃ m, m < s + 1 ∧ t = maskL F.ps.length m := by
                intro t
                constructor
                · rintro (⟨m, hm, rfl⟩ | rfl)
                  · exact ⟨m, by omega, rfl⟩
                  · exact ⟨s, by omega, HLQ.out.symm⟩
                · rintro ⟨m, hm, rfl⟩
                  by_cases h : m = s
                  · subst h; exact .inr HLQ.out
                  · exact .inl ⟨m, by omega, rfl⟩
              have hof2 := HSTP.out.congr hS1
              generalize ((sureOf F.ps L).enough n && (!fd || ahB L cost bl ls)) = tk at hof2 ⊢
              have HOF2 := Lib.hid hof2
              clear hof2 hS1 hbx hb10 c1 d0 d1 d2 hNl hNb hEx
              cases tk with
              | false =>
                go_wp2_with fail
                exact ⟨⟨s + 1, ⟨bl, ls, fd⟩, ba, bc, by omega, rfl, rfl, rfl, by simp, HOF2.out, hNb9, hbl, HB10.out⟩, by simp [intOf]; omega⟩
              | true =>
                go_wp2_with fail
                exact ⟨⟨s + 1, ⟨L, cost, true⟩, a, c, by omega, rfl, rfl, rfl, by simp, HOF2.out, hNl9, by simp only []; omega, HB10.out⟩, by simp [intOf]; omega⟩
      · obtain rfl : s = T := by omega
        have hM : b = chooseM F.ps n := by
          refine (HOF.out.congr fun t => ?_).unique (choose_of F.ps n)
          rw [← masks, HT.out]
        subst hM
        have hsl : ¬ (s : Int) < (s : Int) := by omega
        go_wp2_with fail
        refine bodyPost_ret (v := .tuple #[.slice ba (chooseM F.ps n).best.length bc, .int .i64 (chooseM F.ps n).least, .bool (chooseM F.ps n).found, .int .i64 0]) (by simp [results, Try.results9, go_sem]) rfl ?_
        exact ⟨HB1.out.trans (hb2.mono HB1.out.size), .inr ⟨HE.out.trans H0.out, by simp [needB, H1.out, H2.out, H3.out], ba, bc, rfl, HN.out, hbl⟩⟩
  · have hz1 : (E == 0) = false := by simp [h0]
    have hz2 : (E != 0) = true := by simp [h0]
    have hv : chooseE F n = E := by rw [chooseE, HE.out, if_pos h0]
    have HV := Lib.hid hv
    have H0 := Lib.hid h0
    clear hv h0
    go_wp2_with fail
    exact bodyPost_ret (v := .tuple #[.slice none 0 0, .int .i64 0, .bool false, .int .i64 E]) (by simp [results, Try.results9, go_sem]) rfl ⟨HB1.out, .inl ⟨by rw [HV.out]; exact H0.out, by rw [HV.out]⟩⟩
end Go.Proofs.Ytdmhmiamhobikaa
