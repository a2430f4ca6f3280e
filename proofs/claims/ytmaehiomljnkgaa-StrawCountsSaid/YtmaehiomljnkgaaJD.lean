/- StrawCounts' walk. -/
import Derived.Test.YtmaehiomljnkgaaJC
import Derived.Test.YtmaehiomljnkgaaGQ
import Derived.Test.YtmaehiomljnkgaaGK
import Derived.Test.YtmaehiomljnkgaaFH
namespace Go.Proofs.Ytmaehiomljnkgaa
open Go.RowKit

/-- A row of counts in memory. -/
def RowC (w : World) (a : Option Addr) (n c : Nat) (g : Nat → Int) : Prop := n = 0 ∨ ∃ K, a = some ⟨K, 0, none⟩ ∧ n ≤ c ∧ c ≤ 9223372036854775807 ∧ K < w.heap.size ∧ ∀ i, i < n * 4 → w.cell? ⟨K, i, none⟩ = some (.int .i64 (g i))
theorem RowC.below {w w' : World} {a : Option Addr} {n c : Nat} {g : Nat → Int} (h : RowC w a n c g) (hb : Below w.heap.size w w') : RowC w' a n c g := by
  rcases h with h | ⟨K, e, h1, h2, h3, h4⟩
  · exact .inl h
  · exact .inr ⟨K, e, h1, h2, Nat.lt_of_lt_of_le h3 hb.size, fun i hi => (hb.cell (p := ⟨K, i, none⟩) h3).trans (h4 i hi)⟩
theorem cnt_first {F : Frm} {S : Sto} {w : World} {e : Ending} {w' : World} (h : CntSaid F S w e w') :
    (∃ a c, e = .returned (.tuple #[.slice a (if storeE F S = 0 then F.ps.length else 0) c, .int .i64 (storeE F S)]) ∧ RowC w' a (if storeE F S = 0 then F.ps.length else 0) c (cntF (givenAt S.given) (fun k => ofM k S.used) (fun k => leftM k S.heaps) (fun k => ofM k S.waste))) ∧ Below w.heap.size w w' := by
  obtain ⟨a, n, c, rfl, h1, h2⟩ := h
  refine ⟨?_, h2⟩
  by_cases hE : storeE F S = 0
  · rw [if_pos hE] at h1 ⊢
    obtain ⟨rfl, h3⟩ := h1
    refine ⟨a, c, rfl, ?_⟩
    rcases h3 with h3 | ⟨K, e, h4, h5, h6, h7⟩
    · exact .inl h3
    · exact .inr ⟨K, e, h4, h5, h6, h7⟩
  · rw [if_neg hE] at h1 ⊢
    subst h1
    exact ⟨a, c, rfl, .inl rfl⟩

set_option maxRecDepth 100000 in
set_option maxHeartbeats 8000000 in
theorem countsLaw_any (F : Frm) (S : Sto) (nm : ByteArray) (k : Int) (w : World) (hF : IsFarm w F) (hS : IsStore w S) (hnm : nm.size ≤ maxLen) :
    Calls Try.prog 3 #[.agg #[.slice F.pa F.ps.length F.pc, .int .i64 F.dry], .agg #[.int .i64 S.year, .slice S.la S.last.length S.lc, .slice S.ga S.given.length S.gc, .slice S.ha S.heaps.length S.hc, .slice S.ua S.used.length S.uc, .slice S.wa S.waste.length S.wc], .string nm, .int .i64 k] w
      fun e w' => e = .returned (.bool true) ∧ Below w.heap.size w w' := by
  have HF := Lib.hid hF
  have HS := Lib.hid hS
  clear hF hS
  have kB := (Blk.new w 24 #[.slice F.pa F.ps.length F.pc, .int .i64 F.dry]).alloc (.cells #[.int .i64 S.year, .slice S.la S.last.length S.lc, .slice S.ga S.given.length S.gc, .slice S.ha S.heaps.length S.hc, .slice S.ua S.used.length S.uc, .slice S.wa S.waste.length S.wc] 29)
  have kD := Blk.new (w.alloc (.cells #[.slice F.pa F.ps.length F.pc, .int .i64 F.dry] 24)) 29 #[.int .i64 S.year, .slice S.la S.last.length S.lc, .slice S.ga S.given.length S.gc, .slice S.ha S.heaps.length S.hc, .slice S.ua S.used.length S.uc, .slice S.wa S.waste.length S.wc]
  have hB : Below w.heap.size w ((w.alloc (.cells #[.slice F.pa F.ps.length F.pc, .int .i64 F.dry] 24)).alloc (.cells #[.int .i64 S.year, .slice S.la S.last.length S.lc, .slice S.ga S.given.length S.gc, .slice S.ha S.heaps.length S.hc, .slice S.ua S.used.length S.uc, .slice S.wa S.waste.length S.wc] 29)) := ((Below.refl _ w).alloc (by simp) _).alloc (by simp) _
  simp only [World.size_alloc] at kD
  unfold maxLen at hnm
  go_enter Try.func3, Try.ntmps3
  go_upto_region 1 with fail
  generalize ((w.alloc (.cells #[.slice F.pa F.ps.length F.pc, .int .i64 F.dry] 24)).alloc (.cells #[.int .i64 S.year, .slice S.la S.last.length S.lc, .slice S.ga S.given.length S.gc, .slice S.ha S.heaps.length S.hc, .slice S.ua S.used.length S.uc, .slice S.wa S.waste.length S.wc] 29)) = w1 at *
  have lF := kB.lt
  have lS := kD.lt
  obtain ⟨f0, f1⟩ := frm_cells kB
  obtain ⟨d0, d1, d2, d3, d4, d5⟩ := sto_cells kD
  have KB1 := Lib.hid kB
  have KD1 := Lib.hid kD
  have HB1 := Lib.hid hB
  clear kB kD hB
  go_wp2_with fail
  refine (great_any F _ (HF.out.below HB1.out)).mono ?_
  rintro e w2 ⟨⟨gb, rfl⟩, hb⟩
  have HB2 := Lib.hid (HB1.out.trans (hb.mono HB1.out.size))
  have KB2 := Lib.hid (KB1.out.belowS hb)
  have KD2 := Lib.hid (KD1.out.belowS hb)
  clear f0 f1 d0 d1 d2 d3 d4 d5 lF lS hb
  cases gb with
  | true =>
    go_wp2_with fail
    refine (lives_any _).mono ?_
    rintro e w9 ⟨rfl, hb9⟩
    go_wp2_with fail
    go_ret
    exact ⟨rfl, HB2.out.trans (hb9.mono HB2.out.size)⟩
  | false =>
  have lF := KB2.out.lt
  have lS := KD2.out.lt
  obtain ⟨f0, f1⟩ := frm_cells KB2.out
  obtain ⟨d0, d1, d2, d3, d4, d5⟩ := sto_cells KD2.out
  go_wp2_with fail
  refine (wide_any S _ (HS.out.below HB2.out)).mono ?_
  rintro e w3 ⟨⟨wb, rfl, hfit⟩, hb⟩
  have HB3 := Lib.hid (HB2.out.trans (hb.mono HB2.out.size))
  have KB3 := Lib.hid (KB2.out.belowS hb)
  have KD3 := Lib.hid (KD2.out.belowS hb)
  clear f0 f1 d0 d1 d2 d3 d4 d5 lF lS hb
  cases wb with
  | true =>
    go_wp2_with fail
    refine (lives_any _).mono ?_
    rintro e w9 ⟨rfl, hb9⟩
    go_wp2_with fail
    go_ret
    exact ⟨rfl, HB3.out.trans (hb9.mono HB3.out.size)⟩
  | false =>
  have HFIT := Lib.hid (hfit rfl)
  clear hfit
  by_cases hn : (300 : Int) < (nm.size : Int)
  · have qn : decide ((300 : Int) < (nm.size : Int)) = true := by simp [hn]
    go_wp2_with fail
    refine (lives_any _).mono ?_
    rintro e w9 ⟨rfl, hb9⟩
    go_wp2_with fail
    go_ret
    exact ⟨rfl, HB3.out.trans (hb9.mono HB3.out.size)⟩
  have hled : ∃ (M : Int) (N : Nat) (g : Nat → Int), ∀ w', Below w.heap.size w w' → (Calls Try.prog 8 #[.agg #[.slice F.pa F.ps.length F.pc, .int .i64 F.dry], .agg #[.int .i64 S.year, .slice S.la S.last.length S.lc, .slice S.ga S.given.length S.gc, .slice S.ha S.heaps.length S.hc, .slice S.ua S.used.length S.uc, .slice S.wa S.waste.length S.wc]] w' fun e w'' => (∃ a c, e = .returned (.tuple #[.slice a N c, .int .i64 M]) ∧ RowC w'' a N c g) ∧ Below w'.heap.size w' w'') ∧
      (Calls Try.prog 9 #[.agg #[.slice F.pa F.ps.length F.pc, .int .i64 F.dry], .agg #[.int .i64 S.year, .slice S.la S.last.length S.lc, .slice S.ga S.given.length S.gc, .slice S.ha S.heaps.length S.hc, .slice S.ua S.used.length S.uc, .slice S.wa S.waste.length S.wc]] w' fun e w'' => (∃ a c, e = .returned (.tuple #[.slice a N c, .int .i64 M]) ∧ RowC w'' a N c g) ∧ Below w'.heap.size w' w'') :=
    ⟨_, _, _, fun w' h => ⟨(ledger_any F S w' (HF.out.below h) (HS.out.below h) HFIT.out).mono fun _ _ x => cnt_first x, (refLedger_any F S w' (HF.out.below h) (HS.out.below h) HFIT.out).mono fun _ _ x => cnt_first x⟩⟩
  obtain ⟨M, N, g, hled⟩ := hled
  have hbun : ∃ (V : Int) (L : List Prt), ∀ w', Below w.heap.size w w' → (Calls Try.prog 10 #[.agg #[.slice F.pa F.ps.length F.pc, .int .i64 F.dry], .agg #[.int .i64 S.year, .slice S.la S.last.length S.lc, .slice S.ga S.given.length S.gc, .slice S.ha S.heaps.length S.hc, .slice S.ua S.used.length S.uc, .slice S.wa S.waste.length S.wc], .string nm, .int .i64 k] w' fun e w'' => (∃ a c, e = .returned (.tuple #[.slice a L.length c, .int .i64 V]) ∧ IsPrts w'' a c L) ∧ Below w'.heap.size w' w'') ∧
      (Calls Try.prog 11 #[.agg #[.slice F.pa F.ps.length F.pc, .int .i64 F.dry], .agg #[.int .i64 S.year, .slice S.la S.last.length S.lc, .slice S.ga S.given.length S.gc, .slice S.ha S.heaps.length S.hc, .slice S.ua S.used.length S.uc, .slice S.wa S.waste.length S.wc], .string nm, .int .i64 k] w' fun e w'' => (∃ a c, e = .returned (.tuple #[.slice a L.length c, .int .i64 V]) ∧ IsPrts w'' a c L) ∧ Below w'.heap.size w' w'') :=
    ⟨_, _, fun w' h => ⟨bundle_any F S nm k w' (HF.out.below h) (HS.out.below h) HFIT.out, refBundle_any F S nm k w' (HF.out.below h) (HS.out.below h) HFIT.out⟩⟩
  obtain ⟨V, L, hbun⟩ := hbun
  have HLED := Lib.hid hled
  have HBUN := Lib.hid hbun
  have qM : (M == M) = true := by simp
  have qM' : (M != M) = false := by simp
  have qV : (V == V) = true := by simp
  have qN : ((N : Int) == (N : Int)) = true := by simp
  have qN' : ((N : Int) != (N : Int)) = false := by simp
  clear hled hbun
  have lF := KB3.out.lt
  have lS := KD3.out.lt
  obtain ⟨f0, f1⟩ := frm_cells KB3.out
  obtain ⟨d0, d1, d2, d3, d4, d5⟩ := sto_cells KD3.out
  go_wp2_with fail
  refine ((HLED.out _ HB3.out).1).mono ?_
  rintro e w4 ⟨⟨a1, c1, rfl, hr1⟩, hb⟩
  have HB4 := Lib.hid (HB3.out.trans (hb.mono HB3.out.size))
  have KB4 := Lib.hid (KB3.out.belowS hb)
  have KD4 := Lib.hid (KD3.out.belowS hb)
  have HR1 := Lib.hid hr1
  clear hr1
  clear f0 f1 d0 d1 d2 d3 d4 d5 lF lS hb
  have lF := KB4.out.lt
  have lS := KD4.out.lt
  obtain ⟨f0, f1⟩ := frm_cells KB4.out
  obtain ⟨d0, d1, d2, d3, d4, d5⟩ := sto_cells KD4.out
  go_wp2_with fail
  refine ((HLED.out _ HB4.out).2).mono ?_
  rintro e w5 ⟨⟨a2, c2, rfl, hr2⟩, hb⟩
  have HB5 := Lib.hid (HB4.out.trans (hb.mono HB4.out.size))
  have KB5 := Lib.hid (KB4.out.belowS hb)
  have KD5 := Lib.hid (KD4.out.belowS hb)
  have HR2 := Lib.hid (HR1.out.below hb)
  have HR3 := Lib.hid hr2
  have hNl : (N : Int) ≤ 9223372036854775807 := by
    rcases hr2 with h | ⟨_, _, h1, h2, _⟩
    · omega
    · omega
  clear hr2
  clear f0 f1 d0 d1 d2 d3 d4 d5 lF lS hb
  obtain ⟨v5, rfl⟩ : ∃ v5 : World, v5 = w5 := ⟨_, rfl⟩
  go_wp2_with fail
  go_loopw [13] (fun i wr => ∃ j : Nat, j ≤ N ∧ i = .int .i64 j ∧ Below v5.heap.size v5 wr) (fun i _ => N - (intOf i).toNat)
  case atStart => exact ⟨0, Nat.zero_le _, rfl, Below.refl _ _⟩
  case round =>
    obtain ⟨j, hj, rfl, hb⟩ := hrel
    by_cases hlj : j < N
    · obtain h0 | ⟨K1, rfl, x1, x2, lK1, p⟩ := HR2.out.below hb
      · omega
      obtain h0 | ⟨K2, rfl, y1, y2, lK2, q⟩ := HR3.out.below hb
      · omega
      have p0 := p (j * 4) (by omega)
      have p1 := p (j * 4 + 1) (by omega)
      have p2 := p (j * 4 + 2) (by omega)
      have p3 := p (j * 4 + 3) (by omega)
      have q0 := q (j * 4) (by omega)
      have q1 := q (j * 4 + 1) (by omega)
      have q2 := q (j * 4 + 2) (by omega)
      have q3 := q (j * 4 + 3) (by omega)
      generalize g (j * 4) = g0 at *
      generalize g (j * 4 + 1) = g1 at *
      generalize g (j * 4 + 2) = g2 at *
      generalize g (j * 4 + 3) = g3 at *
      have hj0 : (0 : Int) ≤ (j : Int) := Int.natCast_nonneg _
      have hj1 : (j : Int) < (N : Int) := by omega
      clear p q
      go_upto_region 10 with fail
      go_cut [64] from 56 to 64 (fun s64 wx => s64 = .bool false ∧ Below wr.heap.size wr wx)
      case first =>
        go_quiet (fail)
        go_wp2_with fail
        go_meet
        exact ⟨by simp, below_drewN' _ _ _⟩
      case rest =>
        obtain ⟨rfl, hcx2⟩ := hcut
        go_wp2_with fail
        exact ⟨⟨j + 1, by omega, by simp, hb.trans (hcx2.mono hb.size)⟩, by simp [intOf]; omega⟩
    · obtain rfl : j = N := by omega
      have HB6 := Lib.hid (HB5.out.trans (hb.mono HB5.out.size))
      have KB6 := Lib.hid (KB5.out.belowS hb)
      have KD6 := Lib.hid (KD5.out.belowS hb)
      clear hb
      have lF := KB6.out.lt
      have lS := KD6.out.lt
      obtain ⟨f0, f1⟩ := frm_cells KB6.out
      obtain ⟨d0, d1, d2, d3, d4, d5⟩ := sto_cells KD6.out
      go_wp2_with fail
      refine ((HBUN.out _ HB6.out).1).mono ?_
      rintro e w7 ⟨⟨a3, c3, rfl, hr3⟩, hb⟩
      have HB7 := Lib.hid (HB6.out.trans (hb.mono HB6.out.size))
      have KB7 := Lib.hid (KB6.out.belowS hb)
      have KD7 := Lib.hid (KD6.out.belowS hb)
      have HP3 := Lib.hid hr3
      clear f0 f1 d0 d1 d2 d3 d4 d5 lF lS hb hr3
      have lF := KB7.out.lt
      have lS := KD7.out.lt
      obtain ⟨f0, f1⟩ := frm_cells KB7.out
      obtain ⟨d0, d1, d2, d3, d4, d5⟩ := sto_cells KD7.out
      go_wp2_with fail
      refine ((HBUN.out _ HB7.out).2).mono ?_
      rintro e w8 ⟨⟨a4, c4, rfl, hr4⟩, hb⟩
      have HB8 := Lib.hid (HB7.out.trans (hb.mono HB7.out.size))
      have HP4 := Lib.hid (HP3.out.belowS hb)
      have HP5 := Lib.hid hr4
      clear f0 f1 d0 d1 d2 d3 d4 d5 lF lS hb hr4
      go_wp2_with fail
      refine (refSameParts_any a3 a4 c3 c4 L _ HP4.out HP5.out).mono ?_
      rintro e w9 ⟨rfl, hb⟩
      have HB9 := Lib.hid (HB8.out.trans (hb.mono HB8.out.size))
      clear hb
      go_wp2_with fail
      refine (lives_any _).mono ?_
      rintro e w10 ⟨rfl, hb9⟩
      go_wp2_with fail
      go_ret
      exact ⟨rfl, HB9.out.trans (hb9.mono HB9.out.size)⟩

end Go.Proofs.Ytmaehiomljnkgaa
