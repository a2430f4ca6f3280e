/- StrawBalances' walk. No condition. -/
import Derived.Test.YtkohmgmoeffgnaaMEQ
import Derived.Test.YtkohmgmoeffgnaaMJQ
import Derived.Test.YtkohmgmoeffgnaaMKQ
set_option linter.unusedSimpArgs false
namespace Go.Proofs.Ytkohmgmoeffgnaa
open Go.RowKit

/-- Counts in memory, a field behind the other. -/
def CntRow (w : World) (a : Option Addr) (c n : Nat) (f : Nat → Int) : Prop := n = 0 ∨ ∃ K, a = some ⟨K, 0, none⟩ ∧ n ≤ c ∧ c ≤ 9223372036854775807 ∧ K < w.heap.size ∧ ∀ i, i < n * 4 → w.cell? ⟨K, i, none⟩ = some (.int .i64 (f i))
abbrev cntS (S : Sto) : Nat → Int := cntF (givenAt S.given) (fun k => ofM k S.used) (fun k => leftM k S.heaps) (fun k => ofM k S.waste)
theorem CntRow.below {w w' : World} {a : Option Addr} {c n : Nat} {f : Nat → Int} (h : CntRow w a c n f) (hb : Below w.heap.size w w') : CntRow w' a c n f := by
  rcases h with h | ⟨K, rfl, h1, h2, h3, h4⟩
  · exact .inl h
  · exact .inr ⟨K, rfl, h1, h2, Nat.lt_of_lt_of_le h3 hb.size, fun i hi => (hb.cell (p := ⟨K, i, none⟩) h3).trans (h4 i hi)⟩
theorem CntRow.set {w w' : World} {a : Option Addr} {c n A : Nat} {f : Nat → Int} {S : Sto} {t : TypeId} (h : CntRow w a c n f) (kA : Blk w A (stoC S) t) (ht : Turn (fun k => k = A) w w') : CntRow w' a c n f := by
  rcases h with h | ⟨K, rfl, h1, h2, h3, h4⟩
  · exact .inl h
  · by_cases h0 : n = 0
    · exact .inl h0
    · have hne : K ≠ A := fun e => by
        have e1 := h4 1 (by omega)
        rw [e] at e1
        have e2 : w.cell? ⟨A, 1, none⟩ = some (.slice S.la S.last.length S.lc) := kA.cell 1
        rw [e1] at e2
        cases e2
      refine .inr ⟨K, rfl, h1, h2, Nat.lt_of_lt_of_le h3 ht.size, fun i hi => ?_⟩
      have hb := ht.block K h3 hne
      have : w'.cell? ⟨K, i, none⟩ = w.cell? ⟨K, i, none⟩ := by simp only [World.cell?, hb]
      exact this.trans (h4 i hi)
theorem CntRow.at {w : World} {a : Option Addr} {c n k : Nat} {S : Sto} (h : CntRow w a c n (cntS S)) (hk : k < n) : ∃ K, a = some ⟨K, 0, none⟩ ∧ n ≤ c ∧ c ≤ 9223372036854775807 ∧ K < w.heap.size ∧
    w.cell? ⟨K, k * 4, none⟩ = some (.int .i64 (givenAt S.given k)) ∧ w.cell? ⟨K, k * 4 + 1, none⟩ = some (.int .i64 (ofM k S.used)) ∧ w.cell? ⟨K, k * 4 + 2, none⟩ = some (.int .i64 (leftM k S.heaps)) ∧ w.cell? ⟨K, k * 4 + 3, none⟩ = some (.int .i64 (ofM k S.waste)) := by
  rcases h with h | ⟨K, rfl, h1, h2, h3, h4⟩
  · omega
  · refine ⟨K, rfl, h1, h2, h3, ?_, ?_, ?_, ?_⟩
    · exact (h4 _ (by omega)).trans (congrArg (fun z => some (Value.int .i64 z)) (cntF_0 _ _ _ _ k))
    · exact (h4 _ (by omega)).trans (congrArg (fun z => some (Value.int .i64 z)) (cntF_1 _ _ _ _ k))
    · exact (h4 _ (by omega)).trans (congrArg (fun z => some (Value.int .i64 z)) (cntF_2 _ _ _ _ k))
    · exact (h4 _ (by omega)).trans (congrArg (fun z => some (Value.int .i64 z)) (cntF_3 _ _ _ _ k))
theorem cnt_first (F : Frm) (K1 K2 : Option Addr) (c1 c2 : Nat) (i : Nat) : cntS (firstOf F K1 K2 c1 c2) i = 0 := by
  unfold cntS cntF
  simp only [firstOf, given_zero, ofM, leftM]
  repeat' split
  all_goals rfl
theorem ledger_row (F : Frm) (S : Sto) (w : World) (hF : IsFarm w F) (hS : IsStore w S) (hT : tot S ≤ 1000) (hE : storeE F S = 0) :
    Calls Try.prog 17 #[.agg #[.slice F.pa F.ps.length F.pc, .int .i64 F.dry], .agg #[.int .i64 S.year, .slice S.la S.last.length S.lc, .slice S.ga S.given.length S.gc, .slice S.ha S.heaps.length S.hc, .slice S.ua S.used.length S.uc, .slice S.wa S.waste.length S.wc]] w fun e w' => ∃ a c, e = .returned (.tuple #[.slice a F.ps.length c, .int .i64 0]) ∧ CntRow w' a c F.ps.length (cntS S) ∧ Below w.heap.size w w' := by
  refine (ledger_any F S w hF hS (ptot_fit hT)).mono ?_
  rintro e w' ⟨a, n, c, rfl, hif, hb⟩
  rw [hE, if_pos rfl] at hif
  obtain ⟨rfl, h⟩ := hif
  refine ⟨a, c, by rw [hE], ?_, hb⟩
  rcases h with h | ⟨K, rfl, h1, h2, h3, h4⟩
  · exact .inl h
  · exact .inr ⟨K, rfl, h1, h2, h3, h4⟩
theorem check_zero (F : Frm) (S : Sto) (w : World) (hF : IsFarm w F) (hS : IsStore w S) (hT : tot S ≤ 1000) (hE : storeE F S = 0) :
    Calls Try.prog 19 #[.agg #[.slice F.pa F.ps.length F.pc, .int .i64 F.dry], .agg #[.int .i64 S.year, .slice S.la S.last.length S.lc, .slice S.ga S.given.length S.gc, .slice S.ha S.heaps.length S.hc, .slice S.ua S.used.length S.uc, .slice S.wa S.waste.length S.wc]] w fun e w' => e = .returned (.int .i64 0) ∧ Below w.heap.size w w' := by
  refine (checkStore_any F S w hF hS (ptot_fit hT)).mono ?_
  rintro e w' ⟨rfl, hb⟩
  exact ⟨by rw [hE], hb⟩
theorem strawDo_end (F : Frm) (S : Sto) (x : Chr) (w : World) (hF : IsFarm w F) (hS : IsStore w S) (hT : tot S ≤ 1000) (hn1 : x.name.size ≤ maxLen) (hn2 : x.other.size ≤ maxLen) :
    Calls Try.prog 18 #[.agg #[.slice F.pa F.ps.length F.pc, .int .i64 F.dry], .agg #[.int .i64 S.year, .slice S.la S.last.length S.lc, .slice S.ga S.given.length S.gc, .slice S.ha S.heaps.length S.hc, .slice S.ua S.used.length S.uc, .slice S.wa S.waste.length S.wc], .agg #[.int .i64 x.kind, .int .i64 x.plot, .int .i64 x.loads, .string x.name, .string x.other, .int .i64 x.days, .int .i64 x.per, .int .i64 x.rlo, .int .i64 x.rhi]] w fun e w' => (∃ T, e = .returned (.tuple #[.agg #[.int .i64 T.year, .slice T.la T.last.length T.lc, .slice T.ga T.given.length T.gc, .slice T.ha T.heaps.length T.hc, .slice T.ua T.used.length T.uc, .slice T.wa T.waste.length T.wc], .int .i64 (doD F S x).1]) ∧ OwnSto w.heap.size w' T ∧ SameSto T (endS (doD F S x).1 (doD F S x).2)) ∧ Below w.heap.size w w' :=
  strawDo_any F S x w hF hS (ptot_fit hT) hn1 hn2
/-- What a field's ledger is behind a chore. -/
theorem field_math {F : Frm} {S V T : Sto} {x : Chr} (hE : storeE F S = 0) (hV : (doD F S x).1 = 0) (hVe : (doD F S x).2 = V) (hs : SameSto T V) {k : Nat} (hk : k < F.ps.length) :
    givenAt T.given k = ofM k T.used + leftM k T.heaps + ofM k T.waste ∧ givenAt T.given k = givenAt S.given k + (if x.kind = 2 ∧ x.plot = (k : Int) then x.loads else 0) ∧ ofM k S.used ≤ ofM k T.used ∧ ofM k S.waste ≤ ofM k T.waste ∧
      (ofM k T.used + leftM k T.heaps + ofM k T.waste ≤ 100000 ∧ 0 ≤ ofM k T.used ∧ 0 ≤ leftM k T.heaps ∧ 0 ≤ ofM k T.waste) ∧ (0 ≤ givenAt S.given k ∧ givenAt S.given k ≤ 100000) := by
  have hm := moves_do hE hV
  rw [hVe] at hm
  have hET : storeE F T = 0 := by rw [same_storeE hs, ← hVe]; exact keep_do hV
  have gT := goodS_of hET
  have gS := goodS_of hE
  have hb := gT.bal k hk
  have hbS := gS.bal k hk
  have hcS := gS.cap k
  simp only [thereM] at hb hbS
  refine ⟨hb, ?_, ?_, ?_, gT.cap k, ?_⟩
  · rw [hs.given]; exact hm.given k
  · rw [hs.used]; exact hm.used k
  · rw [hs.waste]; exact hm.waste k
  · omega

set_option maxRecDepth 100000 in
set_option maxHeartbeats 16000000 in
theorem strawBalancesLaw_any (F : Frm) (a : Option Addr) (c : Nat) (l : List Chr)  (w : World) (hF : IsFarm w F) (hL : IsChrs w a c l)  :
    Calls Try.prog 5 #[.agg #[.slice F.pa F.ps.length F.pc, .int .i64 F.dry], .slice a l.length c] w fun e w' => e = .returned (.bool true) ∧ Below w.heap.size w w' := by
  have hb1 : Below w.heap.size w (w.alloc (.cells #[.slice F.pa F.ps.length F.pc, .int .i64 F.dry] 24)) := (Below.refl _ w).alloc (Nat.le_refl _) _
  have kB := Blk.new w 24 #[.slice F.pa F.ps.length F.pc, .int .i64 F.dry]
  have HF := Lib.hid hF
  have HL := Lib.hid hL
  clear hF hL
  go_enter Try.func5, Try.ntmps5
  go_upto_region 1 with fail
  generalize (w.alloc (.cells #[.slice F.pa F.ps.length F.pc, .int .i64 F.dry] 24)) = w1 at *
  have lF := kB.lt
  obtain ⟨f0, f1⟩ := frm_cells kB
  have HB1 := Lib.hid hb1
  have KB1 := Lib.hid kB
  clear kB hb1
  go_wp2_with fail
  refine (great_any F _ (HF.out.below HB1.out)).mono ?_
  rintro e w2 ⟨⟨gb, rfl⟩, hb⟩
  have HB2 := Lib.hid (HB1.out.trans (hb.mono HB1.out.size))
  have KB2 := Lib.hid (KB1.out.belowS hb)
  clear f0 f1 lF hb KB1 HB1
  cases gb with
  | true =>
    go_wp2_with fail
    refine (lives_any _).mono ?_
    rintro e w3 ⟨rfl, hb3⟩
    go_wp2_with fail
    go_ret
    exact ⟨rfl, HB2.out.trans (hb3.mono HB2.out.size)⟩
  | false =>
  go_wp2_with fail
  refine (long_any a c l _ (HL.out.belowS HB2.out)).mono ?_
  rintro e w3 ⟨⟨lb, rfl, hlb⟩, hb⟩
  have HB3 := Lib.hid (HB2.out.trans (hb.mono HB2.out.size))
  have KB3 := Lib.hid (KB2.out.belowS hb)
  clear hb KB2 HB2
  cases lb with
  | true =>
    go_wp2_with fail
    refine (lives_any _).mono ?_
    rintro e w4 ⟨rfl, hb3⟩
    go_wp2_with fail
    go_ret
    exact ⟨rfl, HB3.out.trans (hb3.mono HB3.out.size)⟩
  | false =>
  have hlen := HL.out.len
  by_cases h40 : 40 < l.length
  · have q40 : (40 : Int) < (l.length : Int) := by omega
    go_wp2_with fail
    refine (lives_any _).mono ?_
    rintro e w4 ⟨rfl, hb3⟩
    go_wp2_with fail
    go_ret
    exact ⟨rfl, HB3.out.trans (hb3.mono HB3.out.size)⟩
  have q40 : ¬ (40 : Int) < (l.length : Int) := by omega
  have H40 := Lib.hid (Nat.not_lt.1 h40)
  clear hlb h40
  have lF := KB3.out.lt
  obtain ⟨f0, f1⟩ := frm_cells KB3.out
  go_wp2_with fail
  refine (new_any F _ (HF.out.below HB3.out)).mono ?_
  rintro e w4 ⟨hs, hb⟩
  have HB4 := Lib.hid (HB3.out.trans (hb.mono HB3.out.size))
  have kB4 := KB3.out.belowS hb
  clear f0 f1 lF hb KB3 HB3 q40 hlen
  rcases hs with ⟨hE, rfl⟩ | ⟨hE, v, rfl, K1, K2, c1, c2, rfl, hk1, hk2⟩
  · generalize checkE F = E at *
    have q1 : (E == 0) = false := by simp [hE]
    have q2 : (E != 0) = true := by simp [hE]
    have hb5 : Below w.heap.size w (w4.alloc (.cells #[.int .i64 0, .slice none 0 0, .slice none 0 0, .slice none 0 0, .slice none 0 0, .slice none 0 0] 33)) := HB4.out.alloc HB4.out.size _
    have HB5 := Lib.hid hb5
    clear hE kB4 hb5
    go_wp2_with fail
    refine (lives_any _).mono ?_
    rintro e w6 ⟨rfl, hb3⟩
    go_wp2_with fail
    go_ret
    exact ⟨rfl, HB5.out.trans (hb3.mono HB5.out.size)⟩
  have kS := Blk.new w4 33 #[.int .i64 0, .slice K1 F.ps.length c1, .slice K2 F.ps.length c2, .slice none 0 0, .slice none 0 0, .slice none 0 0]
  have hbS : Below w4.heap.size w4 (w4.alloc (.cells #[.int .i64 0, .slice K1 F.ps.length c1, .slice K2 F.ps.length c2, .slice none 0 0, .slice none 0 0, .slice none 0 0] 33)) := (Below.refl _ w4).alloc (Nat.le_refl _) _
  have HBA := Lib.hid kB4.lt
  have kB5 := kB4.belowS hbS
  have hSt : IsStore (w4.alloc (.cells #[.int .i64 0, .slice K1 F.ps.length c1, .slice K2 F.ps.length c2, .slice none 0 0, .slice none 0 0, .slice none 0 0] 33)) (firstOf F K1 K2 c1 c2) := ⟨hk1.belowS hbS, hk2.belowS hbS, .inl rfl, .inl rfl, .inl rfl⟩
  have HB5 := Lib.hid (HB4.out.trans (hbS.mono HB4.out.size))
  have hn12 := (checkE_ok hE).1
  have HE0 := Lib.hid (first_ok hE K1 K2 c1 c2)
  clear hE hk1 hk2 kB4 hbS HB4
  go_upto_region 6 with fail
  generalize w4.alloc (.cells #[.int .i64 0, .slice K1 F.ps.length c1, .slice K2 F.ps.length c2, .slice none 0 0, .slice none 0 0, .slice none 0 0] 33) = w5 at *
  have lF := kB5.lt
  obtain ⟨f0, f1⟩ := frm_cells kB5
  obtain ⟨i0, hi, hz0, hz1, hz2⟩ := info_parts info_count
  have hmk := fun w => run_make (P := Try.prog) w 47 51 i0 (.agg #[.int .i64 0, .int .i64 0, .int .i64 0, .int .i64 0]) Try.underlying47 hi hz0 .i64 .i64 (F.ps.length : Int) (F.ps.length : Int) (by omega) (by omega) (by rw [hz2]; omega) (by omega)
  simp only [Int.toNat_natCast, hz1, rowI_made4] at hmk
  have kR := Blk.new w5 51 (rowI (F.ps.length * 4) (fun _ => 0))
  have hbR : Below w5.heap.size w5 (w5.alloc (.cells (rowI (F.ps.length * 4) (fun _ => 0)) 51)) := (Below.refl _ w5).alloc (Nat.le_refl _) _
  have kB6 := kB5.belowS hbR
  have kS6 := kS.belowS hbR
  have hSt6 := hSt.below hbR
  have HB6 := Lib.hid (HB5.out.trans (hbR.mono HB5.out.size))
  have HN12 := Lib.hid hn12
  go_upto_region 7 with (rw [hmk])
  clear hmk hi hz0 hz1 hz2 hn12 f0 f1 lF kB5 kS hSt hbR HB5
  generalize w5.alloc (.cells (rowI (F.ps.length * 4) (fun _ => 0)) 51) = w6 at *
  have hcnt : CntRow w6 (some ⟨w5.heap.size, 0, none⟩) F.ps.length F.ps.length (cntS (firstOf F K1 K2 c1 c2)) := .inr ⟨_, rfl, Nat.le_refl _, by have := HN12.out; omega, kR.lt, fun i hi => by rw [cnt_first]; exact (kR.cell i).trans (rowI_at hi)⟩
  have kS6' : Blk w6 w4.heap.size (stoC (firstOf F K1 K2 c1 c2)) 33 := by
    have e : stoC (firstOf F K1 K2 c1 c2) = #[.int .i64 0, .slice K1 F.ps.length c1, .slice K2 F.ps.length c2, .slice none 0 0, .slice none 0 0, .slice none 0 0] := by simp [firstOf]
    rw [e]
    exact kS6
  clear kS6 kR
  go_wp2_with fail
  go_loopw [7, 8, 9, 10, 11, 12, 13, 14, 15, 16] (fun s7 s8 _ _ _ _ _ _ _ _ wr => ∃ (j : Nat) (S : Sto) (a' : Option Addr) (c' : Nat), j ≤ l.length ∧ s8 = .int .i64 j ∧ s7 = .slice a' F.ps.length c' ∧ CntRow wr a' c' F.ps.length (cntS S) ∧ Blk wr w4.heap.size (stoC S) 33 ∧ IsStore wr S ∧ storeE F S = 0 ∧ tot S ≤ 3 * j ∧ Blk wr w.heap.size #[.slice F.pa F.ps.length F.pc, .int .i64 F.dry] 24 ∧ Below w.heap.size w wr) (fun _ i _ _ _ _ _ _ _ _ _ => l.length - (intOf i).toNat)
  case atStart => exact ⟨0, firstOf F K1 K2 c1 c2, _, _, Nat.zero_le _, rfl, rfl, hcnt, kS6', hSt6, HE0.out, by rw [first_tot]; omega, kB6, HB6.out⟩
  case round =>
  obtain ⟨j, S, a', c', hj, rfl, rfl, hcnt7, kA7, hSt7, hE7, hT7, kB7, hB7⟩ := hrel
  obtain ⟨w7, rfl⟩ : ∃ w7 : World, w7 = wr := ⟨_, rfl⟩
  clear hcnt kS6' hSt6 kB6 HB6 HE0
  have HB7 := Lib.hid hB7
  have KA7 := Lib.hid kA7
  have KB7 := Lib.hid kB7
  have HST7 := Lib.hid hSt7
  have HE7 := Lib.hid hE7
  have HT7 := Lib.hid hT7
  have HC7 := Lib.hid hcnt7
  have HJ := Lib.hid hj
  clear hB7 kA7 kB7 hSt7 hE7 hT7 hcnt7
  have h40 := H40.out
  by_cases hlj : j < l.length
  rotate_left
  · have hlj' : ¬ (j : Int) < (l.length : Int) := by omega
    clear hlj h40 hj
    go_wp2_with fail
    refine (lives_any _).mono ?_
    rintro e w8 ⟨rfl, hb3⟩
    go_wp2_with fail
    go_ret
    exact ⟨rfl, HB7.out.trans (hb3.mono HB7.out.size)⟩
  have hlj' : (j : Int) < (l.length : Int) := by omega
  have HLJ := Lib.hid hlj
  have hq : l[j]? = some l[j] := List.getElem?_eq_getElem hlj
  obtain ⟨b, off, hea, hblt, hcap, hcx, hch, hn1, hn2⟩ := (HL.out.belowS HB7.out).at hq
  subst hea
  generalize l[j] = x at *
  have HCH := Lib.hid (fun (w' : World) (hb : Below w7.heap.size w7 w') => ((ChrAt.keep hb b (off + j * 9) x hblt ⟨hch, hn1, hn2⟩).1 : w'.cell? ⟨b, off + j * 9, none⟩ = some (.int .i64 x.kind) ∧ w'.cell? ⟨b, off + j * 9 + 1, none⟩ = some (.int .i64 x.plot) ∧ w'.cell? ⟨b, off + j * 9 + 2, none⟩ = some (.int .i64 x.loads) ∧ w'.cell? ⟨b, off + j * 9 + 3, none⟩ = some (.string x.name) ∧ w'.cell? ⟨b, off + j * 9 + 4, none⟩ = some (.string x.other) ∧ w'.cell? ⟨b, off + j * 9 + 5, none⟩ = some (.int .i64 x.days) ∧ w'.cell? ⟨b, off + j * 9 + 6, none⟩ = some (.int .i64 x.per) ∧ w'.cell? ⟨b, off + j * 9 + 7, none⟩ = some (.int .i64 x.rlo) ∧ w'.cell? ⟨b, off + j * 9 + 8, none⟩ = some (.int .i64 x.rhi)))
  have HN1 := Lib.hid hn1
  have HN2 := Lib.hid hn2
  have HQ := Lib.hid hq
  clear hq hch hn1 hn2 h40 hj hlj
  go_upto_region 10 with fail
  have hst : ∀ w', Below w7.heap.size w7 w' → (fun w' : World => Below w7.heap.size w7 w' ∧ (w'.cell? ⟨w.heap.size, 0, none⟩ = some (.slice F.pa F.ps.length F.pc) ∧ w'.cell? ⟨w.heap.size, 1, none⟩ = some (.int .i64 F.dry) ∧ w'.cell? ⟨w4.heap.size, 0, none⟩ = some (.int .i64 S.year) ∧ w'.cell? ⟨w4.heap.size, 1, none⟩ = some (.slice S.la S.last.length S.lc) ∧ w'.cell? ⟨w4.heap.size, 2, none⟩ = some (.slice S.ga S.given.length S.gc) ∧ w'.cell? ⟨w4.heap.size, 3, none⟩ = some (.slice S.ha S.heaps.length S.hc) ∧ w'.cell? ⟨w4.heap.size, 4, none⟩ = some (.slice S.ua S.used.length S.uc) ∧ w'.cell? ⟨w4.heap.size, 5, none⟩ = some (.slice S.wa S.waste.length S.wc) ∧ w'.cell? ⟨b, off + j * 9, none⟩ = some (.int .i64 x.kind) ∧ w'.cell? ⟨b, off + j * 9 + 1, none⟩ = some (.int .i64 x.plot) ∧ w'.cell? ⟨b, off + j * 9 + 2, none⟩ = some (.int .i64 x.loads) ∧ w'.cell? ⟨b, off + j * 9 + 3, none⟩ = some (.string x.name) ∧ w'.cell? ⟨b, off + j * 9 + 4, none⟩ = some (.string x.other) ∧ w'.cell? ⟨b, off + j * 9 + 5, none⟩ = some (.int .i64 x.days) ∧ w'.cell? ⟨b, off + j * 9 + 6, none⟩ = some (.int .i64 x.per) ∧ w'.cell? ⟨b, off + j * 9 + 7, none⟩ = some (.int .i64 x.rlo) ∧ w'.cell? ⟨b, off + j * 9 + 8, none⟩ = some (.int .i64 x.rhi))) w' := fun w' hb => by
    have k0 := KB7.out.belowS hb
    have k1 := KA7.out.belowS hb
    exact ⟨hb, k0.cell 0, k0.cell 1, k1.cell 0, k1.cell 1, k1.cell 2, k1.cell 3, k1.cell 4, k1.cell 5, HCH.out w' hb⟩
  have HST := Lib.hid hst
  have HDO := Lib.hid (fun (w' : World) (hb : Below w7.heap.size w7 w') => strawDo_end F S x w' (HF.out.below (HB7.out.trans (hb.mono HB7.out.size))) (HST7.out.below hb) (by have := HT7.out; have := H40.out; have := HLJ.out; omega) HN1.out HN2.out)
  clear hst
  go_cut [9, 10] from 47 to 56 (fun t' e' wx => ∃ (D : Nat) (T : Sto), t' = .pointer (some ⟨D, 0, none⟩) ∧ e' = .int .i64 (doD F S x).1 ∧ Blk wx D (stoC T) 33 ∧ OwnSto w7.heap.size wx T ∧ SameSto T (endS (doD F S x).1 (doD F S x).2) ∧ Below w7.heap.size w7 wx)
  case first =>
    have hx := HST.out w7.drew ((Below.refl _ w7).drew)
    refine wp_region_E 13 (fun w' : World => Below w7.heap.size w7 w' ∧ (w'.cell? ⟨w.heap.size, 0, none⟩ = some (.slice F.pa F.ps.length F.pc) ∧ w'.cell? ⟨w.heap.size, 1, none⟩ = some (.int .i64 F.dry) ∧ w'.cell? ⟨w4.heap.size, 0, none⟩ = some (.int .i64 S.year) ∧ w'.cell? ⟨w4.heap.size, 1, none⟩ = some (.slice S.la S.last.length S.lc) ∧ w'.cell? ⟨w4.heap.size, 2, none⟩ = some (.slice S.ga S.given.length S.gc) ∧ w'.cell? ⟨w4.heap.size, 3, none⟩ = some (.slice S.ha S.heaps.length S.hc) ∧ w'.cell? ⟨w4.heap.size, 4, none⟩ = some (.slice S.ua S.used.length S.uc) ∧ w'.cell? ⟨w4.heap.size, 5, none⟩ = some (.slice S.wa S.waste.length S.wc) ∧ w'.cell? ⟨b, off + j * 9, none⟩ = some (.int .i64 x.kind) ∧ w'.cell? ⟨b, off + j * 9 + 1, none⟩ = some (.int .i64 x.plot) ∧ w'.cell? ⟨b, off + j * 9 + 2, none⟩ = some (.int .i64 x.loads) ∧ w'.cell? ⟨b, off + j * 9 + 3, none⟩ = some (.string x.name) ∧ w'.cell? ⟨b, off + j * 9 + 4, none⟩ = some (.string x.other) ∧ w'.cell? ⟨b, off + j * 9 + 5, none⟩ = some (.int .i64 x.days) ∧ w'.cell? ⟨b, off + j * 9 + 6, none⟩ = some (.int .i64 x.per) ∧ w'.cell? ⟨b, off + j * 9 + 7, none⟩ = some (.int .i64 x.rlo) ∧ w'.cell? ⟨b, off + j * 9 + 8, none⟩ = some (.int .i64 x.rhi))) (by kernel_rfl) ?_
    refine E_takeR (i := 0) (oi := _) (v := ?v1) rfl (by kernel_rfl) (by kernel_rfl) (by kernel_rfl) (by decide) (fun _ _ _ h => h) hx (Or.inl ⟨by rfl, ?y1⟩) ?r1
    case y1 => (intro w' hSw; (try dsimp only at hSw); go_simp; try with_reducible rfl)
    try simp only [Act.put, List.getElem_toArray, List.getElem_cons_zero, List.getElem_cons_succ, List.setIfInBounds_toArray, List.set_cons_zero, List.set_cons_succ]
    refine E_takeR (i := 1) (oi := _) (v := ?v2) rfl (by kernel_rfl) (by kernel_rfl) (by kernel_rfl) (by decide) (fun _ _ _ h => h) hx (Or.inl ⟨by rfl, ?y2⟩) ?r2
    case y2 => (intro w' hSw; (try dsimp only at hSw); go_simp; try with_reducible rfl)
    try simp only [Act.put, List.getElem_toArray, List.getElem_cons_zero, List.getElem_cons_succ, List.setIfInBounds_toArray, List.set_cons_zero, List.set_cons_succ]
    refine E_takeR (i := 2) (oi := _) (v := ?v3) rfl (by kernel_rfl) (by kernel_rfl) (by kernel_rfl) (by decide) (fun _ _ _ h => h) hx (Or.inl ⟨by rfl, ?y3⟩) ?r3
    case y3 => (intro w' hSw; (try dsimp only at hSw); go_simp; try with_reducible rfl)
    try simp only [Act.put, List.getElem_toArray, List.getElem_cons_zero, List.getElem_cons_succ, List.setIfInBounds_toArray, List.set_cons_zero, List.set_cons_succ]
    refine E_takeR (i := 3) (oi := _) (v := ?v4) rfl (by kernel_rfl) (by kernel_rfl) (by kernel_rfl) (by decide) (fun _ _ _ h => h) hx (Or.inl ⟨by rfl, ?y4⟩) ?r4
    case y4 => (intro w' hSw; (try dsimp only at hSw); go_simp; try with_reducible rfl)
    try simp only [Act.put, List.getElem_toArray, List.getElem_cons_zero, List.getElem_cons_succ, List.setIfInBounds_toArray, List.set_cons_zero, List.set_cons_succ]
    refine E_takeR (i := 4) (oi := _) (v := ?v5) rfl (by kernel_rfl) (by kernel_rfl) (by kernel_rfl) (by decide) (fun _ _ _ h => h) hx (Or.inl ⟨by rfl, ?y5⟩) ?r5
    case y5 => (intro w' hSw; (try dsimp only at hSw); go_simp; try with_reducible rfl)
    try simp only [Act.put, List.getElem_toArray, List.getElem_cons_zero, List.getElem_cons_succ, List.setIfInBounds_toArray, List.set_cons_zero, List.set_cons_succ]
    refine E_takeR (i := 5) (oi := _) (v := ?v6) rfl (by kernel_rfl) (by kernel_rfl) (by kernel_rfl) (by decide) (fun _ _ _ h => h) hx (Or.inl ⟨by rfl, ?y6⟩) ?r6
    case y6 => (intro w' hSw; (try dsimp only at hSw); go_simp; try with_reducible rfl)
    try simp only [Act.put, List.getElem_toArray, List.getElem_cons_zero, List.getElem_cons_succ, List.setIfInBounds_toArray, List.set_cons_zero, List.set_cons_succ]
    refine E_step2 (i := 6) (i' := 10) (o := _) (o' := _) (by kernel_rfl) rfl rfl (fun K hK => ?_) (fun K hK => ?_)
    · go_simp
      refine (HDO.out _ hx.1).mono ?_
      rintro r w8 ⟨⟨T, rfl, hoT, hsT⟩, hb8⟩
      dsimp only
      have hb8' : Below w7.heap.size w7 w8 := hx.1.trans (hb8.mono hx.1.size)
      have hx8 := HST.out w8 hb8'
      refine hK.out _ _ (fun _ => hx8) ?_
      clear hK K
      try simp only [Act.put, List.getElem_toArray, List.getElem_cons_zero, List.getElem_cons_succ, List.setIfInBounds_toArray, List.set_cons_zero, List.set_cons_succ]
      refine E_takeR (i := 7) (oi := _) (v := ?v7) rfl (by kernel_rfl) (by kernel_rfl) (by kernel_rfl) (by decide) (fun _ _ _ h => h) hx8 (Or.inl ⟨by rfl, ?y7⟩) ?r7
      case y7 => (intro w' hSw; (try dsimp only at hSw); go_simp; try with_reducible rfl)
      try simp only [Act.put, List.getElem_toArray, List.getElem_cons_zero, List.getElem_cons_succ, List.setIfInBounds_toArray, List.set_cons_zero, List.set_cons_succ]
      refine E_takeR (i := 8) (oi := _) (v := ?v8) rfl (by kernel_rfl) (by kernel_rfl) (by kernel_rfl) (by decide) (fun _ _ _ h => h) hx8 (Or.inl ⟨by rfl, ?y8⟩) ?r8
      case y8 => (intro w' hSw; (try dsimp only at hSw); go_simp; try with_reducible rfl)
      try simp only [Act.put, List.getElem_toArray, List.getElem_cons_zero, List.getElem_cons_succ, List.setIfInBounds_toArray, List.set_cons_zero, List.set_cons_succ]
      refine E_takeR (i := 9) (oi := _) (v := ?v9) rfl (by kernel_rfl) (by kernel_rfl) (by kernel_rfl) (by decide) (fun _ _ _ h => h) hx8 (Or.inl ⟨by rfl, ?y9⟩) ?r9
      case y9 => (intro w' hSw; (try dsimp only at hSw); go_simp; try with_reducible rfl)
      try simp only [Act.put, List.getElem_toArray, List.getElem_cons_zero, List.getElem_cons_succ, List.setIfInBounds_toArray, List.set_cons_zero, List.set_cons_succ]
      refine E_step (i := 10) (o := _) (by kernel_rfl) rfl (fun K hK => ?_)
      go_simp
      have hbB : Below w7.heap.size w7 (w8.alloc (.cells #[.int .i64 0, .slice none 0 0, .slice none 0 0, .slice none 0 0, .slice none 0 0, .slice none 0 0] 33)) := hb8'.alloc hb8'.size _
      refine hK.out _ _ (fun _ => HST.out _ hbB) ?_
      clear hK K
      try simp only [Act.put, List.getElem_toArray, List.getElem_cons_zero, List.getElem_cons_succ, List.setIfInBounds_toArray, List.set_cons_zero, List.set_cons_succ]
      have hbF : Below w7.heap.size w7 (w8.alloc (.cells #[.int .i64 T.year, .slice T.la T.last.length T.lc, .slice T.ga T.given.length T.gc, .slice T.ha T.heaps.length T.hc, .slice T.ua T.used.length T.uc, .slice T.wa T.waste.length T.wc] 33)) := hb8'.alloc hb8'.size _
      refine E_step (i := 11) (o := _) (by kernel_rfl) rfl (fun K hK => ?_)
      go_simp
      refine hK.out _ _ (fun _ => HST.out _ hbF) ?_
      clear hK K
      try simp only [Act.put, List.getElem_toArray, List.getElem_cons_zero, List.getElem_cons_succ, List.setIfInBounds_toArray, List.set_cons_zero, List.set_cons_succ]
      refine E_takeR (i := 12) (oi := _) (v := ?v10) rfl (by kernel_rfl) (by kernel_rfl) (by kernel_rfl) (by decide) (fun _ _ _ h => h) (HST.out _ hbF) (Or.inl ⟨by rfl, ?y10⟩) ?r10
      case y10 => (intro w' hSw; (try dsimp only at hSw); go_simp; try with_reducible rfl)
      try simp only [Act.put, List.getElem_toArray, List.getElem_cons_zero, List.getElem_cons_succ, List.setIfInBounds_toArray, List.set_cons_zero, List.set_cons_succ]
      refine E_done (by kernel_rfl) ?_ _
      have kB := Blk.new w8 33 (stoC T)
      have hoF := (hoT.mono hx.1.size).below ((Below.refl _ w8).alloc (Nat.le_refl _) (.cells (stoC T) 33))
      have HOX := Lib.hid hoF
      have HBX := Lib.hid hbF
      have HSX := Lib.hid hsT
      have HKX := Lib.hid kB
      clear hx hx8 hb8 hb8' hbB hoT hsT kB hbF hoF
      go_wp2_with fail
      go_meet
      exact ⟨_, T, rfl, rfl, HKX.out, HOX.out, HSX.out, HBX.out⟩
    · go_simp
      have hbB : Below w7.heap.size w7 (w7.drew.alloc (.cells #[.int .i64 0, .slice none 0 0, .slice none 0 0, .slice none 0 0, .slice none 0 0, .slice none 0 0] 33)) := hx.1.alloc hx.1.size _
      have kB := Blk.new w7.drew 33 #[.int .i64 0, .slice none 0 0, .slice none 0 0, .slice none 0 0, .slice none 0 0, .slice none 0 0]
      refine hK.out _ _ (fun _ => HST.out _ hbB) ?_
      clear hK K
      try simp only [Act.put, List.getElem_toArray, List.getElem_cons_zero, List.getElem_cons_succ, List.setIfInBounds_toArray, List.set_cons_zero, List.set_cons_succ]
      refine E_step (i := 6) (o := _) (by kernel_rfl) rfl (fun K hK => ?_)
      go_simp
      refine (HDO.out _ hbB).mono ?_
      rintro r w8 ⟨⟨T, rfl, hoT, hsT⟩, hb8⟩
      dsimp only
      have hb8' : Below w7.heap.size w7 w8 := hbB.trans (hb8.mono hbB.size)
      have kB8 := kB.belowS hb8
      have hx8 := HST.out w8 hb8'
      refine hK.out _ _ (fun _ => hx8) ?_
      clear hK K
      try simp only [Act.put, List.getElem_toArray, List.getElem_cons_zero, List.getElem_cons_succ, List.setIfInBounds_toArray, List.set_cons_zero, List.set_cons_succ]
      refine E_takeR (i := 7) (oi := _) (v := ?v11) rfl (by kernel_rfl) (by kernel_rfl) (by kernel_rfl) (by decide) (fun _ _ _ h => h) hx8 (Or.inl ⟨by rfl, ?y11⟩) ?r11
      case y11 => (intro w' hSw; (try dsimp only at hSw); go_simp; try with_reducible rfl)
      try simp only [Act.put, List.getElem_toArray, List.getElem_cons_zero, List.getElem_cons_succ, List.setIfInBounds_toArray, List.set_cons_zero, List.set_cons_succ]
      refine E_takeR (i := 8) (oi := _) (v := ?v12) rfl (by kernel_rfl) (by kernel_rfl) (by kernel_rfl) (by decide) (fun _ _ _ h => h) hx8 (Or.inl ⟨by rfl, ?y12⟩) ?r12
      case y12 => (intro w' hSw; (try dsimp only at hSw); go_simp; try with_reducible rfl)
      try simp only [Act.put, List.getElem_toArray, List.getElem_cons_zero, List.getElem_cons_succ, List.setIfInBounds_toArray, List.set_cons_zero, List.set_cons_succ]
      refine E_takeR (i := 9) (oi := _) (v := ?v13) rfl (by kernel_rfl) (by kernel_rfl) (by kernel_rfl) (by decide) (fun _ _ _ h => h) hx8 (Or.inl ⟨by rfl, ?y13⟩) ?r13
      case y13 => (intro w' hSw; (try dsimp only at hSw); go_simp; try with_reducible rfl)
      try simp only [Act.put, List.getElem_toArray, List.getElem_cons_zero, List.getElem_cons_succ, List.setIfInBounds_toArray, List.set_cons_zero, List.set_cons_succ]
      have lD : w7.heap.size < w8.heap.size := kB8.lt
      obtain ⟨q0, q1, q2, q3, q4, q5⟩ := (show w8.cell? ⟨w7.heap.size, 0, none⟩ = some (.int .i64 0) ∧ w8.cell? ⟨w7.heap.size, 1, none⟩ = some (.slice none 0 0) ∧ w8.cell? ⟨w7.heap.size, 2, none⟩ = some (.slice none 0 0) ∧ w8.cell? ⟨w7.heap.size, 3, none⟩ = some (.slice none 0 0) ∧ w8.cell? ⟨w7.heap.size, 4, none⟩ = some (.slice none 0 0) ∧ w8.cell? ⟨w7.heap.size, 5, none⟩ = some (.slice none 0 0) from ⟨kB8.cell 0, kB8.cell 1, kB8.cell 2, kB8.cell 3, kB8.cell 4, kB8.cell 5⟩)
      obtain ⟨r0, r1, r2, r3, r4, r5⟩ := (show w8.frozen? ⟨w7.heap.size, 0, none⟩ = false ∧ w8.frozen? ⟨w7.heap.size, 1, none⟩ = false ∧ w8.frozen? ⟨w7.heap.size, 2, none⟩ = false ∧ w8.frozen? ⟨w7.heap.size, 3, none⟩ = false ∧ w8.frozen? ⟨w7.heap.size, 4, none⟩ = false ∧ w8.frozen? ⟨w7.heap.size, 5, none⟩ = false from ⟨kB8.frozen 0, kB8.frozen 1, kB8.frozen 2, kB8.frozen 3, kB8.frozen 4, kB8.frozen 5⟩)
      have kF9 : Blk ((((((w8.setCell ⟨w7.heap.size, 0, none⟩ (.int .i64 T.year)).setCell ⟨w7.heap.size, 1, none⟩ (.slice T.la T.last.length T.lc)).setCell ⟨w7.heap.size, 2, none⟩ (.slice T.ga T.given.length T.gc)).setCell ⟨w7.heap.size, 3, none⟩ (.slice T.ha T.heaps.length T.hc)).setCell ⟨w7.heap.size, 4, none⟩ (.slice T.ua T.used.length T.uc)).setCell ⟨w7.heap.size, 5, none⟩ (.slice T.wa T.waste.length T.wc)) w7.heap.size (stoC T) 33 := ((((((kB8.set 0 (.int .i64 T.year)).set 1 (.slice T.la T.last.length T.lc)).set 2 (.slice T.ga T.given.length T.gc)).set 3 (.slice T.ha T.heaps.length T.hc)).set 4 (.slice T.ua T.used.length T.uc)).set 5 (.slice T.wa T.waste.length T.wc))
      have hbF : Below w7.heap.size w7 ((((((w8.setCell ⟨w7.heap.size, 0, none⟩ (.int .i64 T.year)).setCell ⟨w7.heap.size, 1, none⟩ (.slice T.la T.last.length T.lc)).setCell ⟨w7.heap.size, 2, none⟩ (.slice T.ga T.given.length T.gc)).setCell ⟨w7.heap.size, 3, none⟩ (.slice T.ha T.heaps.length T.hc)).setCell ⟨w7.heap.size, 4, none⟩ (.slice T.ua T.used.length T.uc)).setCell ⟨w7.heap.size, 5, none⟩ (.slice T.wa T.waste.length T.wc)) := ((((((hb8'.setCell (p := ⟨w7.heap.size, 0, none⟩) (Nat.le_refl _) (.int .i64 T.year)).setCell (p := ⟨w7.heap.size, 1, none⟩) (Nat.le_refl _) (.slice T.la T.last.length T.lc)).setCell (p := ⟨w7.heap.size, 2, none⟩) (Nat.le_refl _) (.slice T.ga T.given.length T.gc)).setCell (p := ⟨w7.heap.size, 3, none⟩) (Nat.le_refl _) (.slice T.ha T.heaps.length T.hc)).setCell (p := ⟨w7.heap.size, 4, none⟩) (Nat.le_refl _) (.slice T.ua T.used.length T.uc)).setCell (p := ⟨w7.heap.size, 5, none⟩) (Nat.le_refl _) (.slice T.wa T.waste.length T.wc))
      have hT9 : Turn (fun k => k = w7.heap.size) w8 ((((((w8.setCell ⟨w7.heap.size, 0, none⟩ (.int .i64 T.year)).setCell ⟨w7.heap.size, 1, none⟩ (.slice T.la T.last.length T.lc)).setCell ⟨w7.heap.size, 2, none⟩ (.slice T.ga T.given.length T.gc)).setCell ⟨w7.heap.size, 3, none⟩ (.slice T.ha T.heaps.length T.hc)).setCell ⟨w7.heap.size, 4, none⟩ (.slice T.ua T.used.length T.uc)).setCell ⟨w7.heap.size, 5, none⟩ (.slice T.wa T.waste.length T.wc)) := (((((((Turn.of_below (X := fun k => k = w7.heap.size) (Below.refl _ w8)).setCell (B := w7.heap.size) rfl 0 (.int .i64 T.year)).setCell (B := w7.heap.size) rfl 1 (.slice T.la T.last.length T.lc)).setCell (B := w7.heap.size) rfl 2 (.slice T.ga T.given.length T.gc)).setCell (B := w7.heap.size) rfl 3 (.slice T.ha T.heaps.length T.hc)).setCell (B := w7.heap.size) rfl 4 (.slice T.ua T.used.length T.uc)).setCell (B := w7.heap.size) rfl 5 (.slice T.wa T.waste.length T.wc))
      refine E_step (i := 11) (o := _) (by kernel_rfl) rfl (fun K hK => ?_)
      go_simp
      refine hK.out _ _ (fun _ => HST.out _ hbF) ?_
      clear hK K
      try simp only [Act.put, List.getElem_toArray, List.getElem_cons_zero, List.getElem_cons_succ, List.setIfInBounds_toArray, List.set_cons_zero, List.set_cons_succ]
      refine E_takeR (i := 12) (oi := _) (v := ?v14) rfl (by kernel_rfl) (by kernel_rfl) (by kernel_rfl) (by decide) (fun _ _ _ h => h) (HST.out _ hbF) (Or.inl ⟨by rfl, ?y14⟩) ?r14
      case y14 => (intro w' hSw; (try dsimp only at hSw); go_simp; try with_reducible rfl)
      try simp only [Act.put, List.getElem_toArray, List.getElem_cons_zero, List.getElem_cons_succ, List.setIfInBounds_toArray, List.set_cons_zero, List.set_cons_succ]
      refine E_done (by kernel_rfl) ?_ _
      have hoF := (hoT.mono hbB.size).turn hT9 (fun k e hk => by have := (hoT.ge k hk).1; rw [World.size_alloc] at this; have := (show k = w7.heap.size from e); have : w7.drew.heap.size = w7.heap.size := rfl; omega)
      generalize ((((((w8.setCell ⟨w7.heap.size, 0, none⟩ (.int .i64 T.year)).setCell ⟨w7.heap.size, 1, none⟩ (.slice T.la T.last.length T.lc)).setCell ⟨w7.heap.size, 2, none⟩ (.slice T.ga T.given.length T.gc)).setCell ⟨w7.heap.size, 3, none⟩ (.slice T.ha T.heaps.length T.hc)).setCell ⟨w7.heap.size, 4, none⟩ (.slice T.ua T.used.length T.uc)).setCell ⟨w7.heap.size, 5, none⟩ (.slice T.wa T.waste.length T.wc)) = w9 at *
      have HOX := Lib.hid hoF
      have HBX := Lib.hid hbF
      have HSX := Lib.hid hsT
      have HKX := Lib.hid kF9
      clear hx hx8 hb8 hb8' hbB hoT hsT kB kB8 hbF hoF kF9 hT9 q0 q1 q2 q3 q4 q5 r0 r1 r2 r3 r4 r5 lD
      go_wp2_with fail
      go_meet
      exact ⟨_, T, rfl, rfl, HKX.out, HOX.out, HSX.out, HBX.out⟩
  case rest =>
  obtain ⟨D, T, rfl, rfl, kD, hoT, hsT, hbx⟩ := hcut
  obtain ⟨w8, rfl⟩ : ∃ w8 : World, w8 = wc := ⟨_, rfl⟩
  have HB8 := Lib.hid (HB7.out.trans (hbx.mono HB7.out.size))
  have KA8 := Lib.hid (KA7.out.belowS hbx)
  have KB8 := Lib.hid (KB7.out.belowS hbx)
  have HC8 := Lib.hid (HC7.out.below hbx)
  have HLA7 := Lib.hid KA7.out.lt
  have KD8 := Lib.hid kD
  have HOT8 := Lib.hid hoT
  generalize hd : doD F S x = R at *
  obtain ⟨d, V⟩ := R
  simp only [] at hsT
  have HD := Lib.hid hd
  have HS8 := Lib.hid hsT
  clear hd hsT hbx kD hoT HST HDO KA7 KB7 HST7 HC7 HCH
  by_cases hz : d = 0
  rotate_left
  · have q1 : (d == 0) = false := by simp [hz]
    have q2 : (d != 0) = true := by simp [hz]
    clear hz
    go_wp2_with fail
    refine (lives_any _).mono ?_
    rintro e w9 ⟨rfl, hb3⟩
    go_wp2_with fail
    go_ret
    exact ⟨rfl, HB8.out.trans (hb3.mono HB8.out.size)⟩
  subst hz
  have HVS := Lib.hid (show SameSto T V from HS8.out)
  have hd1 : (doD F S x).1 = 0 := by rw [HD.out]
  have hd2 : (doD F S x).2 = V := by rw [HD.out]
  have HE8 := Lib.hid (show storeE F T = 0 by rw [same_storeE HVS.out, ← hd2]; exact keep_do hd1)
  have HT8 := Lib.hid (show tot T ≤ 3 * (j + 1) by
    rw [same_tot HVS.out]
    have h1 := few_do F S x hd1
    rw [hd2] at h1
    have := HT7.out
    omega)
  have HD1 := Lib.hid hd1
  have HD2 := Lib.hid hd2
  clear hd1 hd2 HS8
  go_upto_region 12 with fail
  obtain ⟨t0, t1, t2, t3, t4, t5⟩ := sto_cells KD8.out
  obtain ⟨s0, s1, s2, s3, s4, s5⟩ := sto_cells KA8.out
  have lD := KD8.out.lt
  have lA := KA8.out.lt
  have z0 := KA8.out.frozen 0
  have z1 := KA8.out.frozen 1
  have z2 := KA8.out.frozen 2
  have z3 := KA8.out.frozen 3
  have z4 := KA8.out.frozen 4
  have z5 := KA8.out.frozen 5
  go_upto_region 13 with fail
  have kA9 : Blk ((((((w8.setCell ⟨w4.heap.size, 0, none⟩ (.int .i64 T.year)).setCell ⟨w4.heap.size, 1, none⟩ (.slice T.la T.last.length T.lc)).setCell ⟨w4.heap.size, 2, none⟩ (.slice T.ga T.given.length T.gc)).setCell ⟨w4.heap.size, 3, none⟩ (.slice T.ha T.heaps.length T.hc)).setCell ⟨w4.heap.size, 4, none⟩ (.slice T.ua T.used.length T.uc)).setCell ⟨w4.heap.size, 5, none⟩ (.slice T.wa T.waste.length T.wc)) w4.heap.size (stoC T) 33 := ((((((KA8.out.set 0 (.int .i64 T.year)).set 1 (.slice T.la T.last.length T.lc)).set 2 (.slice T.ga T.given.length T.gc)).set 3 (.slice T.ha T.heaps.length T.hc)).set 4 (.slice T.ua T.used.length T.uc)).set 5 (.slice T.wa T.waste.length T.wc))
  have ht : Turn (fun k => k = w4.heap.size) w8 ((((((w8.setCell ⟨w4.heap.size, 0, none⟩ (.int .i64 T.year)).setCell ⟨w4.heap.size, 1, none⟩ (.slice T.la T.last.length T.lc)).setCell ⟨w4.heap.size, 2, none⟩ (.slice T.ga T.given.length T.gc)).setCell ⟨w4.heap.size, 3, none⟩ (.slice T.ha T.heaps.length T.hc)).setCell ⟨w4.heap.size, 4, none⟩ (.slice T.ua T.used.length T.uc)).setCell ⟨w4.heap.size, 5, none⟩ (.slice T.wa T.waste.length T.wc)) := (((((((Turn.of_below (X := fun k => k = w4.heap.size) (Below.refl _ w8)).setCell (B := w4.heap.size) rfl 0 (.int .i64 T.year)).setCell (B := w4.heap.size) rfl 1 (.slice T.la T.last.length T.lc)).setCell (B := w4.heap.size) rfl 2 (.slice T.ga T.given.length T.gc)).setCell (B := w4.heap.size) rfl 3 (.slice T.ha T.heaps.length T.hc)).setCell (B := w4.heap.size) rfl 4 (.slice T.ua T.used.length T.uc)).setCell (B := w4.heap.size) rfl 5 (.slice T.wa T.waste.length T.wc))
  generalize ((((((w8.setCell ⟨w4.heap.size, 0, none⟩ (.int .i64 T.year)).setCell ⟨w4.heap.size, 1, none⟩ (.slice T.la T.last.length T.lc)).setCell ⟨w4.heap.size, 2, none⟩ (.slice T.ga T.given.length T.gc)).setCell ⟨w4.heap.size, 3, none⟩ (.slice T.ha T.heaps.length T.hc)).setCell ⟨w4.heap.size, 4, none⟩ (.slice T.ua T.used.length T.uc)).setCell ⟨w4.heap.size, 5, none⟩ (.slice T.wa T.waste.length T.wc)) = w9 at *
  have kB9 := ht.blk KB8.out (fun e => by have := HBA.out; have := (show w.heap.size = w4.heap.size from e); omega)
  have hoT9 := set_rows HOT8.out ht HLA7.out
  have hc9 := HC8.out.set KA8.out ht
  have HB9 := Lib.hid (HB8.out.trans (ht.below HB8.out.size (fun k e => by rw [show k = w4.heap.size from e]; have := HBA.out; omega)))
  clear t0 t1 t2 t3 t4 t5 s0 s1 s2 s3 s4 s5 z0 z1 z2 z3 z4 z5 lD lA ht KA8 KB8 HC8 KD8 HOT8 HB8 HLA7
  obtain ⟨s0, s1, s2, s3, s4, s5⟩ := sto_cells kA9
  obtain ⟨f0, f1⟩ := frm_cells kB9
  have lA := kA9.lt
  have lF := kB9.lt
  have KA9 := Lib.hid kA9
  have KB9 := Lib.hid kB9
  have HO9 := Lib.hid hoT9.store
  have HC9 := Lib.hid hc9
  clear kA9 kB9 hoT9 hc9
  go_wp2_with fail
  refine (ledger_row F T _ (HF.out.below HB9.out) HO9.out (by have := HT8.out; have := H40.out; have := HLJ.out; omega) HE8.out).mono ?_
  rintro e w10 ⟨a2, cc, rfl, hc10, hb⟩
  have HB10 := Lib.hid (HB9.out.trans (hb.mono HB9.out.size))
  have kA10 := KA9.out.belowS hb
  have kB10 := KB9.out.belowS hb
  have HO10 := Lib.hid (HO9.out.below hb)
  have HC10 := Lib.hid (HC9.out.below hb)
  clear s0 s1 s2 s3 s4 s5 f0 f1 lA lF hb KA9 KB9 HO9 HC9 HB9
  obtain ⟨s0, s1, s2, s3, s4, s5⟩ := sto_cells kA10
  obtain ⟨f0, f1⟩ := frm_cells kB10
  have lA := kA10.lt
  have lF := kB10.lt
  have KA10 := Lib.hid kA10
  have KB10 := Lib.hid kB10
  have HN10 := Lib.hid hc10
  clear kA10 kB10 hc10
  go_wp2_with fail
  refine (check_zero F T _ (HF.out.below HB10.out) HO10.out (by have := HT8.out; have := H40.out; have := HLJ.out; omega) HE8.out).mono ?_
  rintro e w11 ⟨rfl, hb⟩
  have HB11 := Lib.hid (HB10.out.trans (hb.mono HB10.out.size))
  have KA11 := Lib.hid (KA10.out.belowS hb)
  have KB11 := Lib.hid (KB10.out.belowS hb)
  have HO11 := Lib.hid (HO10.out.below hb)
  have HC11 := Lib.hid (HC10.out.below hb)
  have HN11 := Lib.hid (HN10.out.below hb)
  clear s0 s1 s2 s3 s4 s5 f0 f1 lA lF hb KA10 KB10 HO10 HC10 HN10 HB10
  have HCH := Lib.hid (show (w11.cell? ⟨b, off + j * 9, none⟩ = some (.int .i64 x.kind) ∧ w11.cell? ⟨b, off + j * 9 + 1, none⟩ = some (.int .i64 x.plot) ∧ w11.cell? ⟨b, off + j * 9 + 2, none⟩ = some (.int .i64 x.loads) ∧ w11.cell? ⟨b, off + j * 9 + 3, none⟩ = some (.string x.name) ∧ w11.cell? ⟨b, off + j * 9 + 4, none⟩ = some (.string x.other) ∧ w11.cell? ⟨b, off + j * 9 + 5, none⟩ = some (.int .i64 x.days) ∧ w11.cell? ⟨b, off + j * 9 + 6, none⟩ = some (.int .i64 x.per) ∧ w11.cell? ⟨b, off + j * 9 + 7, none⟩ = some (.int .i64 x.rlo) ∧ w11.cell? ⟨b, off + j * 9 + 8, none⟩ = some (.int .i64 x.rhi)) ∧ b < w11.heap.size from by
    obtain ⟨b1, o1, he, hbl, _, _, hch, _, _⟩ := (HL.out.belowS HB11.out).at HQ.out
    simp only [Option.some.injEq, Addr.mk.injEq, and_true] at he
    obtain ⟨rfl, rfl⟩ := he
    exact ⟨hch, hbl⟩)
  go_wp2_with fail
  go_loopw [12, 13, 14, 15, 16] (fun s12 _ _ _ _ wr => ∃ k : Nat, k ≤ F.ps.length ∧ s12 = .int .i64 k ∧ Below w11.heap.size w11 wr) (fun i _ _ _ _ _ => F.ps.length - (intOf i).toNat)
  case atStart => exact ⟨0, Nat.zero_le _, rfl, Below.refl _ _⟩
  case round =>
    obtain ⟨k, hk, rfl, hb2⟩ := hrel
    obtain ⟨w12, rfl⟩ : ∃ w12 : World, w12 = wr := ⟨_, rfl⟩
    have HB12 := Lib.hid hb2
    have hn12 := HN12.out
    by_cases hkn : k < F.ps.length
    · have hkn' : (k : Int) < (F.ps.length : Int) := by omega
      obtain ⟨K, hKe, hKn, hKc, hKb, n0, n1, n2, n3⟩ := (HN11.out.below hb2).at hkn
      obtain ⟨K', hKe', hKn', hKc', hKb', m0, m1, m2, m3⟩ := (HC11.out.below hb2).at hkn
      subst hKe hKe'
      obtain ⟨e1, e2, e3, e4, ⟨e5, e6, e7, e8⟩, e9, e10⟩ := field_math HE7.out HD1.out HD2.out HVS.out hkn
      obtain ⟨mo, hmo⟩ : ∃ mo : Int, (if x.kind = 2 ∧ x.plot = (k : Int) then x.loads else 0) = mo := ⟨_, rfl⟩
      rw [e1] at n0 e2
      rw [hmo] at e2
      have HSU := Lib.hid (show sumM (k : Int) T.used = ofM k T.used by unfold sumM; rw [if_neg (by omega)])
      have HSZ := Lib.hid (show sumM (k : Int) T.waste = ofM k T.waste by unfold sumM; rw [if_neg (by omega)])
      clear e1 m2
      generalize hU : ofM k T.used = U at *
      generalize hL : leftM k T.heaps = L at *
      generalize hZ : ofM k T.waste = Z at *
      generalize givenAt S.given k = G0 at *
      generalize ofM k S.used = U0 at *
      generalize ofM k S.waste = Z0 at *
      have HLL := Lib.hid hL
      have HMO := Lib.hid hmo
      have hw1 : IntKind.i64.wrap (U + L) = U + L := by rw [IntKind.wrap_i64]; omega
      have hw2 : IntKind.i64.wrap (U + L + Z) = U + L + Z := by rw [IntKind.wrap_i64]; omega
      have hw3 : IntKind.i64.wrap (G0 + mo) = U + L + Z := by rw [← e2, IntKind.wrap_i64]; omega
      have HW1 := Lib.hid hw1
      have HW2 := Lib.hid hw2
      have HW3 := Lib.hid hw3
      have P3 := Lib.hid (show ¬ U < U0 by omega)
      have P4 := Lib.hid (show ¬ Z < Z0 by omega)
      clear hU hL hZ hmo hw1 hw2 hw3 e2 e3 e4 e5 e6 e7 e8 e9 e10 hn12
      have hbX : Below w12.heap.size w12 (w12.alloc (.cells #[.int .i64 (U + L + Z), .int .i64 U, .int .i64 L, .int .i64 Z] 51)) := (Below.refl _ w12).alloc (Nat.le_refl _) _
      have kX := Blk.new w12 51 #[.int .i64 (U + L + Z), .int .i64 U, .int .i64 L, .int .i64 Z]
      have HM := Lib.hid (show (w12.alloc (.cells #[.int .i64 (U + L + Z), .int .i64 U, .int .i64 L, .int .i64 Z] 51)).cell? ⟨K', k * 4, none⟩ = some (.int .i64 G0) ∧ (w12.alloc (.cells #[.int .i64 (U + L + Z), .int .i64 U, .int .i64 L, .int .i64 Z] 51)).cell? ⟨K', k * 4 + 1, none⟩ = some (.int .i64 U0) ∧ (w12.alloc (.cells #[.int .i64 (U + L + Z), .int .i64 U, .int .i64 L, .int .i64 Z] 51)).cell? ⟨K', k * 4 + 3, none⟩ = some (.int .i64 Z0) ∧ K' < (w12.alloc (.cells #[.int .i64 (U + L + Z), .int .i64 U, .int .i64 L, .int .i64 Z] 51)).heap.size from ⟨(hbX.cell (p := ⟨K', k * 4, none⟩) hKb').trans m0, (hbX.cell (p := ⟨K', k * 4 + 1, none⟩) hKb').trans m1, (hbX.cell (p := ⟨K', k * 4 + 3, none⟩) hKb').trans m3, Nat.lt_of_lt_of_le hKb' hbX.size⟩)
      have hb13 : Below w11.heap.size w11 (w12.alloc (.cells #[.int .i64 (U + L + Z), .int .i64 U, .int .i64 L, .int .i64 Z] 51)) := hb2.trans (hbX.mono hb2.size)
      clear m0 m1 m3 hbX hKb'
      go_upto_region 20 with fail
      clear n0 n1 n2 n3 hKb hKn hKc
      generalize w12.alloc (.cells #[.int .i64 (U + L + Z), .int .i64 U, .int .i64 L, .int .i64 Z] 51) = w13 at *
      have HB13 := Lib.hid hb13
      have KX13 := Lib.hid kX
      have KA13 := Lib.hid (KA11.out.belowS hb13)
      have HO13 := Lib.hid (HO11.out.below hb13)
      have hblx : b < w13.heap.size := Nat.lt_of_lt_of_le HCH.out.2 hb13.size
      have x0 : w13.cell? ⟨b, off + j * 9, none⟩ = some (.int .i64 x.kind) := (hb13.cell (p := ⟨b, off + j * 9, none⟩) HCH.out.2).trans HCH.out.1.1
      have x1 : w13.cell? ⟨b, off + j * 9 + 1, none⟩ = some (.int .i64 x.plot) := (hb13.cell (p := ⟨b, off + j * 9 + 1, none⟩) HCH.out.2).trans HCH.out.1.2.1
      have x2 : w13.cell? ⟨b, off + j * 9 + 2, none⟩ = some (.int .i64 x.loads) := (hb13.cell (p := ⟨b, off + j * 9 + 2, none⟩) HCH.out.2).trans HCH.out.1.2.2.1
      clear hb13 kX hb2
      obtain ⟨bb, hbb⟩ : ∃ bb : Bool, decide (x.kind = 2 ∧ x.plot = (k : Int)) = bb := ⟨_, rfl⟩
      have HBB := Lib.hid hbb
      clear hbb
      go_cut [106] from 92 to 105 (fun t wx => t = .bool bb ∧ wx = w13)
      case first =>
        by_cases h1 : x.kind = 2
        · have r1 : (x.kind == 2) = true := by simp [h1]
          have H1 := Lib.hid h1
          clear h1
          by_cases h2 : x.plot = (k : Int)
          · have r2 : (x.plot == (k : Int)) = true := by simp [h2]
            have H2 := Lib.hid h2
            clear h2
            go_wp2_with fail
            go_meet
            exact ⟨by rw [← HBB.out, decide_eq_true ⟨H1.out, H2.out⟩], rfl⟩
          · have r2 : (x.plot == (k : Int)) = false := by simp [h2]
            have H2 := Lib.hid h2
            clear h2
            go_wp2_with fail
            go_meet
            exact ⟨by rw [← HBB.out, decide_eq_false (fun h => H2.out h.2)], rfl⟩
        · have r1 : (x.kind == 2) = false := by simp [h1]
          have H1 := Lib.hid h1
          clear h1
          go_wp2_with fail
          go_meet
          exact ⟨by rw [← HBB.out, decide_eq_false (fun h => H1.out h.1)], rfl⟩
      case rest =>
      obtain ⟨rfl, rfl⟩ := hcut
      obtain ⟨w13, rfl⟩ : ∃ w13 : World, w13 = wc := ⟨_, rfl⟩
      go_upto_if 106 with fail
      go_cut [14] from 107 to 111 (fun m wx => m = .int .i64 mo ∧ wx = w13)
      case first =>
        cases bb with
        | true =>
          obtain rfl : x.loads = mo := by rw [← HMO.out, if_pos (of_decide_eq_true HBB.out)]
          go_wp2_with fail
          go_meet
          exact ⟨rfl, rfl⟩
        | false =>
          obtain rfl : 0 = mo := by rw [← HMO.out, if_neg (of_decide_eq_false HBB.out)]
          go_wp2_with fail
          go_meet
          exact ⟨rfl, rfl⟩
      case rest =>
      obtain ⟨rfl, rfl⟩ := hcut
      obtain ⟨w13, rfl⟩ : ∃ w13 : World, w13 = wc := ⟨_, rfl⟩
      clear x0 x1 x2
      have HG8 := Lib.hid (goodS_of HE8.out)
      have HFT := Lib.hid (ptot_fit (S := T) (by have := HT8.out; have := H40.out; have := HLJ.out; omega))
      obtain ⟨s0, s1, s2, s3, s4, s5⟩ := sto_cells KA13.out
      have lA := KA13.out.lt
      have hhl : T.heaps.length ≤ 16 := HG8.out.heaps.few
      go_wp2_with fail
      go_loopw [15, 16] (fun s i wr => ∃ (m : Nat) (v : Int), m ≤ T.heaps.length ∧ i = .int .i64 m ∧ s = .int .i64 v ∧ leftM k (T.heaps.take m) = v ∧ wr = w13) (fun _ i _ => T.heaps.length - (intOf i).toNat)
      case atStart => exact ⟨0, 0, Nat.zero_le _, rfl, rfl, rfl, rfl⟩
      case round =>
        obtain ⟨m, v, hm, rfl, rfl, hv, rfl⟩ := hrel
        by_cases hlm : m < T.heaps.length
        · have hlm' : (m : Int) < (T.heaps.length : Int) := by omega
          have hqm : T.heaps[m]? = some T.heaps[m] := List.getElem?_eq_getElem hlm
          have hsn : leftM k (T.heaps.take (m + 1)) = v + ofM k T.heaps[m].parts := by rw [take_snoc' hqm, leftM_append, hv]; simp [leftM]
          have hpk := HG8.out.partsOk _ (List.getElem_mem hlm)
          have hpl := HFT.out.parts _ (List.getElem_mem hlm)
          have hbv := leftM_bd (n := F.ps.length) (k : Int) (ok_takeH HG8.out.partsOk m) (len_takeH (fun x hx => HFT.out.parts x hx) m)
          rw [List.length_take, hv] at hbv
          obtain ⟨b2, o2, hea2, hb2l, hc2, hcx2, ⟨y0, y1, y2, y3, y4, y5, y6⟩, yp, _⟩ := HO13.out.heaps.at hqm
          have hbo := ofM_bd (k : Int) hpk
          have hsm := sum_any F.ps.length _ _ _ (k : Int) wr yp hpk hpl
          rw [show sumM (k : Int) T.heaps[m].parts = ofM k T.heaps[m].parts by unfold sumM; rw [if_neg (by omega)]] at hsm
          generalize T.heaps[m] = y at *
          rw [hea2] at s3
          generalize ofM (k : Int) y.parts = q at *
          have hwv : IntKind.i64.wrap (v + q) = v + q := by rw [IntKind.wrap_i64]; omega
          have HSM := Lib.hid hsm
          have HSN := Lib.hid hsn
          clear hqm hsn hpk hpl hbv hbo yp hsm hea2 hv
          go_wp2_with fail
          refine HSM.out.mono ?_
          rintro e wz ⟨rfl, rfl⟩
          go_wp2_with fail
          exact ⟨⟨m + 1, v + q, by omega, by simp, rfl, HSN.out, trivial⟩, by simp [intOf]; omega⟩
        · have hlm' : ¬ (m : Int) < (T.heaps.length : Int) := by omega
          obtain rfl : m = T.heaps.length := by omega
          rw [List.take_length, HLL.out] at hv
          subst hv
          have hsu : ∀ n', Calls Try.prog 20 #[.slice T.ua T.used.length T.uc, .int .i64 k] (wr.drewN n') fun e w' => e = .returned (.int .i64 U) ∧ w' = wr.drewN n' := fun n' => by
            have := sum_any F.ps.length _ _ T.used (k : Int) (wr.drewN n') (HO13.out.below (below_drewN' _ _ n')).used (partsB_ok HG8.out.used) HFT.out.used
            rwa [HSU.out] at this
          have hsz : ∀ n', Calls Try.prog 20 #[.slice T.wa T.waste.length T.wc, .int .i64 k] (wr.drewN n') fun e w' => e = .returned (.int .i64 Z) ∧ w' = wr.drewN n' := fun n' => by
            have := sum_any F.ps.length _ _ T.waste (k : Int) (wr.drewN n') (HO13.out.below (below_drewN' _ _ n')).waste (partsB_ok HG8.out.waste) HFT.out.waste
            rwa [HSZ.out] at this
          have HSU2 := Lib.hid hsu
          have HSZ2 := Lib.hid hsz
          have hw1 := HW1.out
          have hw2 := HW2.out
          have hw3 := HW3.out
          have p0 : ((U + L + Z) != (U + L + Z)) = false := by simp
          have p1 : (U != U) = false := by simp
          have p2 : (L != L) = false := by simp
          have p5 : (Z != Z) = false := by simp
          have p3 : decide (U < U0) = false := by have := P3.out; exact decide_eq_false (by omega)
          have p4 : decide (Z < Z0) = false := by have := P4.out; exact decide_eq_false (by omega)
          obtain ⟨m0, m1, m3, hKb'⟩ := HM.out
          have g0 : wr.cell? ⟨w12.heap.size, 0, none⟩ = some (.int .i64 (U + L + Z)) := KX13.out.cell 0
          have g1 : wr.cell? ⟨w12.heap.size, 1, none⟩ = some (.int .i64 U) := KX13.out.cell 1
          have g2 : wr.cell? ⟨w12.heap.size, 2, none⟩ = some (.int .i64 L) := KX13.out.cell 2
          have g3 : wr.cell? ⟨w12.heap.size, 3, none⟩ = some (.int .i64 Z) := KX13.out.cell 3
          have lX := KX13.out.lt
          clear hsu hsz hlm hm
          go_upto_region 27 with fail
          go_quiet (first | (go_at_call 20; with_reducible refine Calls.quiet_of_same (HSU2.out _)) | (go_at_call 20; with_reducible refine Calls.quiet_of_same (HSZ2.out _)))
          have hbq : ∀ q, Below w11.heap.size w11 (wr.drewN q) := fun q => HB13.out.trans ((below_drewN' _ _ q).mono HB13.out.size)
          go_wp2_with fail
          exact ⟨⟨k + 1, by omega, by simp, hbq _⟩, by simp [intOf]; omega⟩
    · have hkn' : ¬ (k : Int) < (F.ps.length : Int) := by omega
      obtain rfl : k = F.ps.length := by omega
      clear hkn hk hn12 hb2
      go_wp2_with fail
      refine ⟨⟨j + 1, T, a2, cc, ?_, ?_, rfl, HN11.out.below HB12.out, KA11.out.belowS HB12.out, HO11.out.below HB12.out, HE8.out, HT8.out, KB11.out.belowS HB12.out, HB11.out.trans (HB12.out.mono HB11.out.size)⟩, ?_⟩
      · have := HLJ.out; omega
      · simp
      · have := HLJ.out; simp [intOf]; omega
end Go.Proofs.Ytkohmgmoeffgnaa
