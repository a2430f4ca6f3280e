/- StrawDries' walk. No condition. -/
import Derived.Test.YtkohmgmoeffgnaaMEQ
set_option linter.unusedSimpArgs false
namespace Go.Proofs.Ytkohmgmoeffgnaa
open Go.RowKit

/-- What a heap stands in. -/
structure Wea where
  heap : Int
  days : Int
  rains : Int
  more : Int
  wet : Int
  ra : Option Addr
  rc : Nat
  rates : List Int
def U8At (w : World) (b o : Nat) (x : Int) : Prop := w.cell? ⟨b, o, none⟩ = some (.int .u8 x) ∧ 0 ≤ x ∧ x ≤ 255
abbrev IsU8s (w : World) (a : Option Addr) (c : Nat) (l : List Int) : Prop := IsRow 1 U8At w a c l
theorem U8At.keep {w w' : World} (hb : Below w.heap.size w w') (b o : Nat) (x : Int) (hl : b < w.heap.size) (h : U8At w b o x) : U8At w' b o x := ⟨(hb.cell (p := ⟨b, o, none⟩) hl).trans h.1, h.2⟩
theorem IsU8s.belowS {w w' : World} {a : Option Addr} {c : Nat} {l : List Int} (h : IsU8s w a c l) (hb : Below w.heap.size w w') : IsU8s w' a c l := IsRow.below h hb (U8At.keep hb)
structure Wea.fine (w : World) (x : Wea) : Prop where
  heap : (Lit.int .u8 x.heap).wf = true
  days : (Lit.int .u8 x.days).wf = true
  rains : (Lit.int .u8 x.rains).wf = true
  more : (Lit.int .u8 x.more).wf = true
  wet : (Lit.int .u16 x.wet).wf = true
  row : IsU8s w x.ra x.rc x.rates

theorem idx_at {ps : List Plt} {l : List Hep} (g : GoodH ps l) {k : Nat} {x : Hep} (hx : l[k]? = some x) : idxH l x.name = k := by
  obtain ⟨hk, hxe⟩ := List.getElem?_eq_some_iff.1 hx
  have : l.findIdx? (fun h => strB h.name x.name) = some k := by
    refine List.findIdx?_eq_some_iff_getElem.2 ⟨hk, by rw [hxe]; simp [strB], fun j hj => ?_⟩
    have := g.apart j k l[j] x (List.getElem?_eq_getElem (by omega)) hx hj
    rw [this]
    simp
  unfold idxH
  rw [this]
/-- The chore that dries. -/
def dryC (nm : ByteArray) (days rlo rhi : Int) : Chr := ⟨3, 0, 0, nm, ⟨#[]⟩, days, 0, rlo, rhi⟩
theorem do_dry {F : Frm} {S : Sto} (nm : ByteArray) (days rlo rhi : Int) (hE : storeE F S = 0) : doD F S (dryC nm days rlo rhi) = dryD S (dryC nm days rlo rhi) := by
  rw [doD_step hE]
  unfold stepD
  rw [if_neg (by simp [dryC, chrB, namedM, strB])]
  rfl
theorem dry_said {F : Frm} {S : Sto} (hE : storeE F S = 0) {k : Nat} {x : Hep} (hx : S.heaps[k]? = some x) {days rlo rhi : Int} (hd : 0 ≤ days ∧ days ≤ 365) (hr : 0 ≤ rlo ∧ rlo ≤ rhi ∧ rhi ≤ 100) :
    (x.stage = 3 → (doD F S (dryC x.name days rlo rhi)).1 = 8) ∧ (x.stage ≠ 3 → doD F S (dryC x.name days rlo rhi) = (0, { S with heaps := S.heaps.set k { x with wlo := moistM (x.wlo - 20 * days + 5 * rlo), whi := moistM (x.whi - 10 * days + 15 * rhi) } })) := by
  have hk := idx_at (goodS_of hE).heaps hx
  have hh := hepAt_of hk hx
  rw [do_dry _ _ _ _ hE]
  unfold dryD
  simp only [dryC, hh]
  refine ⟨fun h3 => ?_, fun h3 => ?_⟩
  · rw [if_neg (by omega), if_pos h3]
  · rw [if_neg (by omega), if_neg h3, if_neg, hk]
    · simp
    · simp only [Decidable.not_not]
      exact ⟨isFromB_iff.2 ⟨hd.1, hd.2⟩, by simp [isSpanB, hr.1, hr.2.1, hr.2.2]⟩
theorem heap_wet {F : Frm} {S : Sto} (hE : storeE F S = 0) {x : Hep} (hx : x ∈ S.heaps) : 0 ≤ x.wlo ∧ x.wlo ≤ x.whi ∧ x.whi ≤ 1000 := by
  have := (heapB_iff.1 ((goodS_of hE).heaps.each x hx)).2.2.2.1
  simpa [isSpanB, and_assoc] using this
theorem doDry_any (F : Frm) (S : Sto) (nm : ByteArray) (days rlo rhi : Int) (w : World) (hF : IsFarm w F) (hS : IsStore w S) (ht : tot S ≤ 1000) (hnm : nm.size ≤ maxLen) :
    Calls Try.prog 18 #[.agg #[.slice F.pa F.ps.length F.pc, .int .i64 F.dry], .agg #[.int .i64 S.year, .slice S.la S.last.length S.lc, .slice S.ga S.given.length S.gc, .slice S.ha S.heaps.length S.hc, .slice S.ua S.used.length S.uc, .slice S.wa S.waste.length S.wc], .agg #[.int .i64 3, .int .i64 0, .int .i64 0, .string nm, .string ⟨#[]⟩, .int .i64 days, .int .i64 0, .int .i64 rlo, .int .i64 rhi]] w fun e w' => (∃ T, e = .returned (.tuple #[.agg #[.int .i64 T.year, .slice T.la T.last.length T.lc, .slice T.ga T.given.length T.gc, .slice T.ha T.heaps.length T.hc, .slice T.ua T.used.length T.uc, .slice T.wa T.waste.length T.wc], .int .i64 (doD F S (dryC nm days rlo rhi)).1]) ∧ OwnSto w.heap.size w' T ∧ SameSto T (endS (doD F S (dryC nm days rlo rhi)).1 (doD F S (dryC nm days rlo rhi)).2)) ∧ Below w.heap.size w w' :=
  strawDo_any F S (dryC nm days rlo rhi) w hF hS (ptot_fit ht) hnm (show (0 : Nat) ≤ maxLen from Nat.zero_le _)

set_option maxRecDepth 100000 in
set_option maxHeartbeats 16000000 in
theorem strawDriesLaw_any (F : Frm) (a : Option Addr) (c : Nat) (l : List Chr) (x : Wea) (w : World) (hF : IsFarm w F) (hL : IsChrs w a c l) (hX : Wea.fine w x) :
    Calls Try.prog 8 #[.agg #[.slice F.pa F.ps.length F.pc, .int .i64 F.dry], .slice a l.length c, .agg #[.int .u8 x.heap, .int .u8 x.days, .int .u8 x.rains, .int .u8 x.more, .int .u16 x.wet, .slice x.ra x.rates.length x.rc]] w fun e w' => e = .returned (.bool true) ∧ Below w.heap.size w w' := by
  have hb1 : Below w.heap.size w ((w.alloc (.cells #[.slice F.pa F.ps.length F.pc, .int .i64 F.dry] 24)).alloc (.cells #[.int .u8 x.heap, .int .u8 x.days, .int .u8 x.rains, .int .u8 x.more, .int .u16 x.wet, .slice x.ra x.rates.length x.rc] 71)) := ((Below.refl _ w).alloc (Nat.le_refl _) _).alloc (by simp) _
  have kB := (Blk.new w 24 #[.slice F.pa F.ps.length F.pc, .int .i64 F.dry]).alloc (.cells #[.int .u8 x.heap, .int .u8 x.days, .int .u8 x.rains, .int .u8 x.more, .int .u16 x.wet, .slice x.ra x.rates.length x.rc] 71)
  have kW := Blk.new (w.alloc (.cells #[.slice F.pa F.ps.length F.pc, .int .i64 F.dry] 24)) 71 #[.int .u8 x.heap, .int .u8 x.days, .int .u8 x.rains, .int .u8 x.more, .int .u16 x.wet, .slice x.ra x.rates.length x.rc]
  rw [World.size_alloc] at kW
  have HF := Lib.hid hF
  have HL := Lib.hid hL
  clear hF hL
  have HX := Lib.hid hX
  clear hX
  go_enter Try.func8, Try.ntmps8
  go_upto_region 1 with fail
  generalize ((w.alloc (.cells #[.slice F.pa F.ps.length F.pc, .int .i64 F.dry] 24)).alloc (.cells #[.int .u8 x.heap, .int .u8 x.days, .int .u8 x.rains, .int .u8 x.more, .int .u16 x.wet, .slice x.ra x.rates.length x.rc] 71)) = w1 at *
  have KW1 := Lib.hid kW
  clear kW
  have lF := kB.lt
  obtain ⟨f0, f1⟩ := frm_cells kB
  have HB1 := Lib.hid hb1
  have KB1 := Lib.hid kB
  clear kB hb1
  go_wp2_with fail
  refine (great_any F _ (HF.out.below HB1.out)).mono ?_
  rintro e w2 ⟨⟨gb, rfl⟩, hb⟩
  have HB2 := Lib.hid (HB1.out.trans (hb.mono HB1.out.size))
  have KB2 := Lib.hid (KB1.out.belowS hb)
  have KW2 := Lib.hid (KW1.out.belowS hb)
  clear f0 f1 lF hb KB1 HB1
  cases gb with
  | true =>
    go_wp2_with fail
    refine (lives_any _).mono ?_
    rintro e w3 ⟨rfl, hb3⟩
    go_wp2_with fail
    go_ret
    exact ⟨rfl, HB2.out.trans (hb3.mono HB2.out.size)⟩
  | false =>
  go_wp2_with fail
  refine (long_any a c l _ (HL.out.belowS HB2.out)).mono ?_
  rintro e w3 ⟨⟨lb, rfl, hlb⟩, hb⟩
  have HB3 := Lib.hid (HB2.out.trans (hb.mono HB2.out.size))
  have KB3 := Lib.hid (KB2.out.belowS hb)
  have KW3 := Lib.hid (KW2.out.belowS hb)
  clear hb KB2 HB2
  cases lb with
  | true =>
    go_wp2_with fail
    refine (lives_any _).mono ?_
    rintro e w4 ⟨rfl, hb3⟩
    go_wp2_with fail
    go_ret
    exact ⟨rfl, HB3.out.trans (hb3.mono HB3.out.size)⟩
  | false =>
  have hlen := HL.out.len
  have hrl := HX.out.row.len
  have lW := KW3.out.lt
  have y5 : w3.cell? ⟨w.heap.size + 1, 5, none⟩ = some (.slice x.ra x.rates.length x.rc) := KW3.out.cell 5
  by_cases h40 : 40 < l.length
  · have q40 : (40 : Int) < (l.length : Int) := by omega
    go_wp2_with fail
    refine (lives_any _).mono ?_
    rintro e w4 ⟨rfl, hb3⟩
    go_wp2_with fail
    go_ret
    exact ⟨rfl, HB3.out.trans (hb3.mono HB3.out.size)⟩
  have q40 : ¬ (40 : Int) < (l.length : Int) := by omega
  have H40 := Lib.hid (Nat.not_lt.1 h40)
  clear hlb h40
  by_cases h200 : 200 < x.rates.length
  · have q200 : (200 : Int) < (x.rates.length : Int) := by omega
    go_wp2_with fail
    refine (lives_any _).mono ?_
    rintro e w4 ⟨rfl, hb3⟩
    go_wp2_with fail
    go_ret
    exact ⟨rfl, HB3.out.trans (hb3.mono HB3.out.size)⟩
  have q200 : ¬ (200 : Int) < (x.rates.length : Int) := by omega
  have lF := KB3.out.lt
  obtain ⟨f0, f1⟩ := frm_cells KB3.out
  go_wp2_with fail
  refine (after_any F a c l _ (HF.out.below HB3.out) (HL.out.belowS HB3.out) H40.out).mono ?_
  rintro e w4 ⟨⟨bo, S, rfl, hoS, hok⟩, hb⟩
  have HB4 := Lib.hid (HB3.out.trans (hb.mono HB3.out.size))
  have kB4 := KB3.out.belowS hb
  have kW4 := KW3.out.belowS hb
  clear f0 f1 lF hb KB3 q40 hlen q200 hrl lW y5 KW3
  have kA := Blk.new w4 33 (stoC S)
  have hbA : Below w4.heap.size w4 (w4.alloc (.cells #[.int .i64 S.year, .slice S.la S.last.length S.lc, .slice S.ga S.given.length S.gc, .slice S.ha S.heaps.length S.hc, .slice S.ua S.used.length S.uc, .slice S.wa S.waste.length S.wc] 33)) := (Below.refl _ w4).alloc (Nat.le_refl _) _
  have kB5 := kB4.belowS hbA
  have kW5 := kW4.belowS hbA
  have hoS5 := hoS.below hbA
  have HB5 := Lib.hid (HB4.out.trans (hbA.mono HB4.out.size))
  clear kB4 hoS hbA kW4
  unfold stoV
  cases bo with
  | false =>
    clear kA kB5 hoS5 hok
    go_wp2_with fail
    refine (lives_any _).mono ?_
    rintro e w6 ⟨rfl, hb3⟩
    go_wp2_with fail
    go_ret
    exact ⟨rfl, HB5.out.trans (hb3.mono HB5.out.size)⟩
  | true =>
  obtain ⟨hE, hT⟩ := hok rfl
  have HE := Lib.hid hE
  have HT := Lib.hid hT
  clear hok hE hT
  go_upto_region 4 with fail
  generalize w4.alloc (.cells #[.int .i64 S.year, .slice S.la S.last.length S.lc, .slice S.ga S.given.length S.gc, .slice S.ha S.heaps.length S.hc, .slice S.ua S.used.length S.uc, .slice S.wa S.waste.length S.wc] 33) = w5 at *
  have lA := kA.lt
  have lF := kB5.lt
  have lW := kW5.lt
  obtain ⟨f0, f1⟩ := frm_cells kB5
  obtain ⟨s0, s1, s2, s3, s4, s5⟩ := sto_cells kA
  have KA5 := Lib.hid kA
  have KB5 := Lib.hid kB5
  have KW5 := Lib.hid kW5
  have HO5 := Lib.hid hoS5
  clear kA kB5 hoS5 kW5
  by_cases hz : S.heaps = []
  · rw [hz] at s3
    simp only [List.length_nil] at s3
    go_wp2_with fail
    refine (lives_any _).mono ?_
    rintro e w6 ⟨rfl, hb3⟩
    go_wp2_with fail
    go_ret
    exact ⟨rfl, HB5.out.trans (hb3.mono HB5.out.size)⟩
  have hpos : 0 < S.heaps.length := List.length_pos_iff.2 hz
  have hle := (goodS_of HE.out).heaps.few
  have p1 : ((S.heaps.length : Int) == 0) = false := by simp; omega
  have p2 : ¬ ((S.heaps.length : Int) = 0) := by omega
  obtain ⟨k, hk, hcv, hmod⟩ := u8_mod HX.out.heap hpos
  have hq : S.heaps[k]? = some S.heaps[k] := List.getElem?_eq_getElem hk
  obtain ⟨b, off, hea, hblt, hcap, hcx, ⟨y0, y1, y2, y3, y4, y5, y6⟩, yp, hnm⟩ := HO5.out.store.heaps.at hq
  have HWET := Lib.hid (heap_wet HE.out (List.getElem_mem hk))
  generalize S.heaps[k] = h at *
  have HQ := Lib.hid hq
  have hk' : (k : Int) < (S.heaps.length : Int) := by omega
  have s3' := s3
  rw [hea] at s3'
  obtain ⟨v0, v1, v2, v3, v4, v5⟩ := (show w5.cell? ⟨w.heap.size + 1, 0, none⟩ = some (.int .u8 x.heap) ∧ w5.cell? ⟨w.heap.size + 1, 1, none⟩ = some (.int .u8 x.days) ∧ w5.cell? ⟨w.heap.size + 1, 2, none⟩ = some (.int .u8 x.rains) ∧ w5.cell? ⟨w.heap.size + 1, 3, none⟩ = some (.int .u8 x.more) ∧ w5.cell? ⟨w.heap.size + 1, 4, none⟩ = some (.int .u16 x.wet) ∧ w5.cell? ⟨w.heap.size + 1, 5, none⟩ = some (.slice x.ra x.rates.length x.rc) from ⟨KW5.out.cell 0, KW5.out.cell 1, KW5.out.cell 2, KW5.out.cell 3, KW5.out.cell 4, KW5.out.cell 5⟩)
  clear hz hq hea yp s3
  have hb6 : Below w5.heap.size w5 (w5.alloc (.cells #[.string h.name, .int .i64 h.crop, .int .i64 h.stage, .slice h.pa h.parts.length h.pc, .int .i64 h.per, .int .i64 h.wlo, .int .i64 h.whi] 58)) := (Below.refl _ w5).alloc (Nat.le_refl _) _
  have kH := Blk.new w5 58 #[.string h.name, .int .i64 h.crop, .int .i64 h.stage, .slice h.pa h.parts.length h.pc, .int .i64 h.per, .int .i64 h.wlo, .int .i64 h.whi]
  have HB6 := Lib.hid (HB5.out.trans (hb6.mono HB5.out.size))
  have KA6 := Lib.hid (KA5.out.belowS hb6)
  have KB6 := Lib.hid (KB5.out.belowS hb6)
  have KW6 := Lib.hid (KW5.out.belowS hb6)
  have HO6 := Lib.hid (HO5.out.below hb6)
  have HNM := Lib.hid hnm
  clear hb6 hnm
  go_upto_region 8 with fail
  generalize w5.alloc (.cells #[.string h.name, .int .i64 h.crop, .int .i64 h.stage, .slice h.pa h.parts.length h.pc, .int .i64 h.per, .int .i64 h.wlo, .int .i64 h.whi] 58) = w6 at *
  have KH6 := Lib.hid kH
  clear kH f0 f1 lF lA lW s0 s1 s2 s3' s4 s5 y0 y1 y2 y3 y4 y5 y6 p1 p2 hcv hmod hk' hblt hcap hcx hle hpos KA5 KB5 KW5 HO5 HB5 v0 v1 v2 v3 v4 v5
  obtain ⟨v0, v1, v2, v3, v4, v5⟩ := (show w6.cell? ⟨w.heap.size + 1, 0, none⟩ = some (.int .u8 x.heap) ∧ w6.cell? ⟨w.heap.size + 1, 1, none⟩ = some (.int .u8 x.days) ∧ w6.cell? ⟨w.heap.size + 1, 2, none⟩ = some (.int .u8 x.rains) ∧ w6.cell? ⟨w.heap.size + 1, 3, none⟩ = some (.int .u8 x.more) ∧ w6.cell? ⟨w.heap.size + 1, 4, none⟩ = some (.int .u16 x.wet) ∧ w6.cell? ⟨w.heap.size + 1, 5, none⟩ = some (.slice x.ra x.rates.length x.rc) from ⟨KW6.out.cell 0, KW6.out.cell 1, KW6.out.cell 2, KW6.out.cell 3, KW6.out.cell 4, KW6.out.cell 5⟩)
  have lW := KW6.out.lt
  obtain ⟨D, hD, hcv1, hmod1⟩ := u8_mod HX.out.days (show 0 < 61 by omega)
  obtain ⟨R, hR, hcv2, hmod2⟩ := u8_mod HX.out.rains (show 0 < 21 by omega)
  obtain ⟨M, hM, hcv3, hmod3⟩ := u8_mod HX.out.more (show 0 < 10 by omega)
  have hmod1 : x.days.tmod 61 = D := hmod1
  have hmod2 : x.rains.tmod 21 = R := hmod2
  have hmod3 : x.more.tmod 10 = M := hmod3
  go_quiet (fail)
  generalize hw7 : w6.drewN _ = w7
  have hb7 : Below w6.heap.size w6 w7 := by rw [← hw7]; exact below_drewN' _ _ _
  have HB7 := Lib.hid (HB6.out.trans (hb7.mono HB6.out.size))
  have KA7 := Lib.hid (KA6.out.belowS hb7)
  have KB7 := Lib.hid (KB6.out.belowS hb7)
  have KW7 := Lib.hid (KW6.out.belowS hb7)
  have KH7 := Lib.hid (KH6.out.belowS hb7)
  have HO7 := Lib.hid (HO6.out.below hb7)
  clear hw7 hb7 hcv1 hcv2 hcv3 hmod1 hmod2 hmod3 v0 v1 v2 v3 v4 v5 lW KA6 KB6 KW6 KH6 HO6 HB6
  have lA := KA7.out.lt
  have lF := KB7.out.lt
  have lH := KH7.out.lt
  obtain ⟨f0, f1⟩ := frm_cells KB7.out
  obtain ⟨s0, s1, s2, s3, s4, s5⟩ := sto_cells KA7.out
  have y0 : w7.cell? ⟨w5.heap.size, 0, none⟩ = some (.string h.name) := KH7.out.cell 0
  have hw1 : IntKind.i64.wrap ((R : Int) - (M : Int)) = (R : Int) - (M : Int) := by rw [IntKind.wrap_i64]; omega
  have hw2 : IntKind.i64.wrap ((R : Int) + (M : Int)) = (R : Int) + (M : Int) := by rw [IntKind.wrap_i64]; omega
  have HWW := Lib.hid (show (0 : Int) ≤ R ∧ (0 : Int) ≤ M ∧ (R : Int) ≤ 20 ∧ (M : Int) ≤ 9 ∧ (D : Int) ≤ 60 by omega)
  go_upto_region 9 with fail
  go_cut [14, 15] from 76 to 93 (fun b' e' wx => ∃ (rlo : Int) (B : Nat) (T : Sto), 0 ≤ rlo ∧ rlo ≤ R ∧ b' = .pointer (some ⟨B, 0, none⟩) ∧ e' = .int .i64 (doD F S (dryC h.name D rlo ((R : Int) + (M : Int)))).1 ∧ Blk wx B (stoC T) 33 ∧ OwnSto w7.heap.size wx T ∧ SameSto T (endS (doD F S (dryC h.name D rlo ((R : Int) + (M : Int)))).1 (doD F S (dryC h.name D rlo ((R : Int) + (M : Int)))).2) ∧ Below w7.heap.size w7 wx)
  case first =>
    have HDO := Lib.hid (fun (rlo rhi : Int) => doDry_any F S h.name D rlo rhi w7 (HF.out.below HB7.out) HO7.out.store (by have := HT.out; omega) HNM.out)
    go_wp2_with fail
    all_goals
      refine (HDO.out _ _).mono ?_
      rintro e w8 ⟨⟨T, rfl, hoT, hsT⟩, hb⟩
      have kC := Blk.new w8 33 (stoC T)
      have hbC : Below w8.heap.size w8 (w8.alloc (.cells #[.int .i64 T.year, .slice T.la T.last.length T.lc, .slice T.ga T.given.length T.gc, .slice T.ha T.heaps.length T.hc, .slice T.ua T.used.length T.uc, .slice T.wa T.waste.length T.wc] 33)) := (Below.refl _ w8).alloc (Nat.le_refl _) _
      have HO8 := Lib.hid (hoT.below hbC)
      have HB8 := Lib.hid (hb.trans (hbC.mono hb.size))
      have HS8 := Lib.hid hsT
      have HC8 := Lib.hid kC
      clear f0 f1 lF lA lH s0 s1 s2 s3 s4 s5 y0 hw1 hw2 hoT hsT hb hbC kC HDO
      go_wp2_with fail
      go_meet
      refine ⟨_, _, T, ?_, ?_, rfl, rfl, HC8.out, HO8.out, HS8.out, HB8.out⟩
      all_goals (have := HWW.out; omega)
  case rest =>
  obtain ⟨rlo, B, T, hr0, hr1, rfl, rfl, kC, hoT, hsT, hbx⟩ := hcut
  obtain ⟨w8, rfl⟩ : ∃ w8 : World, w8 = wc := ⟨_, rfl⟩
  obtain ⟨hdr, hdn⟩ := dry_said HE.out HQ.out (days := D) (rlo := rlo) (rhi := (R : Int) + (M : Int)) (by have := HWW.out; omega) (by have := HWW.out; omega)
  have HB8 := Lib.hid (HB7.out.trans (hbx.mono HB7.out.size))
  have KW8 := Lib.hid (KW7.out.belowS hbx)
  have KH8 := Lib.hid (KH7.out.belowS hbx)
  have KC8 := Lib.hid kC
  have HO8 := Lib.hid hoT.store
  have HR := Lib.hid (And.intro hr0 hr1)
  clear f0 f1 lF lA lH s0 s1 s2 s3 s4 s5 y0 hw1 hw2 hoT hbx kC hr0 hr1 KA7 KB7 KW7 KH7 HO7 HB7
  have lH := KH8.out.lt
  have y2 : w8.cell? ⟨w5.heap.size, 2, none⟩ = some (.int .i64 h.stage) := KH8.out.cell 2
  have y5 : w8.cell? ⟨w5.heap.size, 5, none⟩ = some (.int .i64 h.wlo) := KH8.out.cell 5
  have y6 : w8.cell? ⟨w5.heap.size, 6, none⟩ = some (.int .i64 h.whi) := KH8.out.cell 6
  by_cases h3 : h.stage = 3
  · rw [hdr h3]
    rw [h3] at y2
    clear hdr hdn hsT y5 y6
    go_wp2_with fail
    refine (lives_any _).mono ?_
    rintro e w9 ⟨rfl, hb3⟩
    go_wp2_with fail
    go_ret
    exact ⟨rfl, HB8.out.trans (hb3.mono HB8.out.size)⟩
  have q3 : (h.stage == 3) = false := by simp [h3]
  rw [hdn h3] at hsT ⊢
  simp only [] at hsT ⊢
  have hsT : SameSto T { S with heaps := S.heaps.set k { h with wlo := moistM (h.wlo - 20 * D + 5 * rlo), whi := moistM (h.whi - 10 * D + 15 * ((R : Int) + (M : Int))) } } := hsT
  have hln : T.heaps.length = S.heaps.length := by rw [hsT.many]; simp
  have hkT : k < T.heaps.length := by rw [hln]; exact hk
  have hq2 : T.heaps[k]? = some T.heaps[k] := List.getElem?_eq_getElem hkT
  have hsm := hsT.heaps k _ _ hq2 (set_get HQ.out)
  have hg1 : T.heaps[k].wlo = moistM (h.wlo - 20 * D + 5 * rlo) := hsm.wlo
  have hg2 : T.heaps[k].whi = moistM (h.whi - 10 * D + 15 * ((R : Int) + (M : Int))) := hsm.whi
  generalize T.heaps[k] = g at *
  have HG1 := Lib.hid hg1
  have HG2 := Lib.hid hg2
  have HQ2 := Lib.hid hq2
  have hkT' : ¬ ((T.heaps.length : Int) ≤ (k : Int)) := by omega
  have hw0 := HWET.out
  have p5 : ¬ (h.whi < h.wlo) := by omega
  obtain ⟨s0, s1, s2, s3, s4, s5⟩ := sto_cells KC8.out
  have lC := KC8.out.lt
  clear hdr hdn hsT hsm hq2 hg1 hg2 s0 s1 s2 s4 s5 hln hkT h3
  go_upto_region 14 with fail
  have hu1 : 0 ≤ x.wet ∧ x.wet ≤ 65535 := by
    have := HX.out.wet
    simp only [Lit.wf, Bool.and_eq_true, decide_eq_true_eq] at this
    exact this
  obtain ⟨m, hm0, hm1, hcw, hmw⟩ : ∃ m : Int, 0 ≤ m ∧ m ≤ h.whi - h.wlo ∧ IntKind.i64.wrap x.wet = x.wet ∧ x.wet.tmod (h.whi - h.wlo + 1) = m := by
    have h1 : 0 ≤ x.wet % (h.whi - h.wlo + 1) := Int.emod_nonneg _ (by omega)
    have h2 : x.wet % (h.whi - h.wlo + 1) < h.whi - h.wlo + 1 := Int.emod_lt_of_pos _ (by omega)
    exact ⟨_, h1, by omega, by rw [IntKind.wrap_i64]; omega, Int.tmod_eq_emod_of_nonneg hu1.1⟩
  have hwa : IntKind.i64.wrap (h.whi - h.wlo) = h.whi - h.wlo := by rw [IntKind.wrap_i64]; omega
  have hwb : IntKind.i64.wrap (h.whi - h.wlo + 1) = h.whi - h.wlo + 1 := by rw [IntKind.wrap_i64]; omega
  have hwc : IntKind.i64.wrap (h.wlo + m) = h.wlo + m := by rw [IntKind.wrap_i64]; omega
  have hnz : ¬ (h.whi - h.wlo + 1 = 0) := by omega
  have hnz2 : ((h.whi - h.wlo + 1) == 0) = false := by simp; omega
  have lW := KW8.out.lt
  have v4 : w8.cell? ⟨w.heap.size + 1, 4, none⟩ = some (.int .u16 x.wet) := KW8.out.cell 4
  go_quiet (fail)
  generalize hw9 : w8.drewN _ = w9
  have hb9 : Below w8.heap.size w8 w9 := by rw [← hw9]; exact below_drewN' _ _ _
  have HB9 := Lib.hid (HB8.out.trans (hb9.mono HB8.out.size))
  have KC9 := Lib.hid (KC8.out.belowS hb9)
  have KW9 := Lib.hid (KW8.out.belowS hb9)
  have HO9 := Lib.hid (HO8.out.below hb9)
  have HX9 := Lib.hid (HX.out.row.belowS HB9.out)
  generalize hn0 : h.wlo + m = n0 at *
  have HN0 := Lib.hid (show h.wlo ≤ n0 ∧ n0 ≤ h.whi ∧ 0 ≤ h.wlo ∧ h.whi ≤ 1000 by omega)
  clear hw9 hb9 hu1 hm0 hm1 hcw hmw hwa hwb hwc hnz hnz2 v4 lW y2 y5 y6 lH lC s3 q3 p5 hkT' hw0 hn0 KC8 KW8 KH8 HO8 HB8 HWET
  have hDR := HWW.out
  have lW := KW9.out.lt
  have v5 : w9.cell? ⟨w.heap.size + 1, 5, none⟩ = some (.slice x.ra x.rates.length x.rc) := KW9.out.cell 5
  obtain ⟨N, hN⟩ : ∃ N : Nat, N = D + R := ⟨_, rfl⟩
  have hwDR : IntKind.i64.wrap ((D : Int) + (R : Int)) = (N : Int) := by rw [IntKind.wrap_i64]; omega
  have HNN := Lib.hid hN
  clear hN
  go_wp2_with fail
  go_loopw [16, 17, 18] (fun s i r wr => ∃ (j : Nat) (n : Int), j ≤ N ∧ i = .int .i64 j ∧ s = .int .i64 n ∧ (n0 - 20 * (min j D : Nat) + 5 * (j - D : Nat) ≤ n ∧ n ≤ n0 - 10 * (min j D : Nat) + 15 * (j - D : Nat)) ∧ wr = w9) (fun _ i _ _ => N - (intOf i).toNat)
  case atStart => exact ⟨0, n0, Nat.zero_le _, rfl, rfl, by simp, rfl⟩
  case round =>
    obtain ⟨j, n, hj, rfl, rfl, hbd, rfl⟩ := hrel
    have hn00 := HN0.out
    have hN := HNN.out
    by_cases hlj : j < N
    · have hlj' : (j : Int) < (N : Int) := by omega
      have hsucc : IntKind.i64.wrap ((j : Int) + 1) = ((j + 1 : Nat) : Int) := by rw [IntKind.wrap_i64]; omega
      have hstep : ∀ z : Int, 0 ≤ z → z ≤ 10 → (j < D → IntKind.i64.wrap (10 + z) = 10 + z ∧ IntKind.i64.wrap (n - (10 + z)) = n - (10 + z) ∧ (n0 - 20 * (min (j + 1) D : Nat) + 5 * (j + 1 - D : Nat) ≤ n - (10 + z) ∧ n - (10 + z) ≤ n0 - 10 * (min (j + 1) D : Nat) + 15 * (j + 1 - D : Nat))) ∧
          (¬ j < D → IntKind.i64.wrap (5 + z) = 5 + z ∧ IntKind.i64.wrap (n + (5 + z)) = n + (5 + z) ∧ (n0 - 20 * (min (j + 1) D : Nat) + 5 * (j + 1 - D : Nat) ≤ n + (5 + z) ∧ n + (5 + z) ≤ n0 - 10 * (min (j + 1) D : Nat) + 15 * (j + 1 - D : Nat))) := by
        intro z hz0 hz1
        refine ⟨fun hjD => ⟨?_, ?_, ?_, ?_⟩, fun hjD => ⟨?_, ?_, ?_, ?_⟩⟩
        all_goals first | (rw [IntKind.wrap_i64]; omega) | omega
      by_cases hrt : j < x.rates.length
      · have hrt' : (j : Int) < (x.rates.length : Int) := by omega
        have hq9 : x.rates[j]? = some x.rates[j] := List.getElem?_eq_getElem hrt
        obtain ⟨rb, ro, hra, hrb, hrc, hrx, u0, u1, u2⟩ := HX9.out.at hq9
        generalize x.rates[j] = z at *
        have hcz : IntKind.i64.wrap z = z := by rw [IntKind.wrap_i64]; omega
        have hz0 : 0 ≤ z % 11 := Int.emod_nonneg _ (by omega)
        have hz1 : z % 11 < 11 := Int.emod_lt_of_pos _ (by omega)
        have hzm : z.tmod 11 = z % 11 := Int.tmod_eq_emod_of_nonneg u1
        obtain ⟨k1, k2⟩ := hstep (z % 11) hz0 (by omega)
        rw [Nat.mul_one] at u0
        rw [hra] at v5
        generalize z % 11 = z1 at *
        clear hstep hq9 hra hN hn00
        by_cases hjD : j < D
        · have hjD' : (j : Int) < (D : Int) := by omega
          obtain ⟨k3, k4, k5⟩ := k1 hjD
          clear k1 k2 hbd
          go_wp2_with fail
          exact ⟨⟨j + 1, n - (10 + z1), by omega, rfl, rfl, k5, trivial⟩, by simp [intOf]; omega⟩
        · have hjD' : ¬ (j : Int) < (D : Int) := by omega
          obtain ⟨k3, k4, k5⟩ := k2 hjD
          clear k1 k2 hbd
          go_wp2_with fail
          exact ⟨⟨j + 1, n + (5 + z1), by omega, rfl, rfl, k5, trivial⟩, by simp [intOf]; omega⟩
      · have hrt' : ¬ (j : Int) < (x.rates.length : Int) := by omega
        obtain ⟨k1, k2⟩ := hstep 0 (by omega) (by omega)
        simp only [Int.add_zero] at k1 k2
        clear hstep hN hn00
        by_cases hjD : j < D
        · have hjD' : (j : Int) < (D : Int) := by omega
          obtain ⟨k3, k4, k5⟩ := k1 hjD
          clear k1 k2 hbd
          go_wp2_with fail
          exact ⟨⟨j + 1, n - 10, by omega, rfl, rfl, k5, trivial⟩, by simp [intOf]; omega⟩
        · have hjD' : ¬ (j : Int) < (D : Int) := by omega
          obtain ⟨k3, k4, k5⟩ := k2 hjD
          clear k1 k2 hbd
          go_wp2_with fail
          exact ⟨⟨j + 1, n + 5, by omega, rfl, rfl, k5, trivial⟩, by simp [intOf]; omega⟩
    · have hlj' : ¬ (j : Int) < (N : Int) := by omega
      have hfin : h.wlo - 20 * D + 5 * R ≤ n ∧ n ≤ h.whi - 10 * D + 15 * R := by omega
      clear hN
      by_cases hin : 0 ≤ n ∧ n ≤ 1000
      rotate_left
      · by_cases h0 : n < 0
        · clear hbd hfin
          go_wp2_with fail
          refine (lives_any _).mono ?_
          rintro e w10 ⟨rfl, hb3⟩
          go_wp2_with fail
          go_ret
          exact ⟨rfl, HB9.out.trans (hb3.mono HB9.out.size)⟩
        · have h1 : (1000 : Int) < n := by omega
          clear hbd hfin
          go_wp2_with fail
          refine (lives_any _).mono ?_
          rintro e w10 ⟨rfl, hb3⟩
          go_wp2_with fail
          go_ret
          exact ⟨rfl, HB9.out.trans (hb3.mono HB9.out.size)⟩
      have h0 : ¬ n < 0 := by omega
      have h1 : ¬ (1000 : Int) < n := by omega
      have hr := HR.out
      have hok : g.wlo ≤ n ∧ n ≤ g.whi := by
        rw [HG1.out, HG2.out]
        unfold moistM
        omega
      obtain ⟨hok1, hok2⟩ := hok
      obtain ⟨s0, s1, s2, s3, s4, s5⟩ := sto_cells KC9.out
      have lC := KC9.out.lt
      obtain ⟨b', off', hea, hblt, hcap, hcx, ⟨y0, y1, y2, y3, y4, y5, y6⟩, yp, _⟩ := HO9.out.heaps.at HQ2.out
      rw [hea] at s3
      have hkT : (k : Int) < (T.heaps.length : Int) := by
        have := (List.getElem?_eq_some_iff.1 HQ2.out).1
        omega
      clear hbd hfin hin hr hea yp s0 s1 s2 s4 s5 y0 y1 y2 y3 y4
      go_wp2_with fail
      refine (lives_any _).mono ?_
      rintro e w10 ⟨rfl, hb3⟩
      go_wp2_with fail
      go_ret
      exact ⟨rfl, HB9.out.trans (hb3.mono HB9.out.size)⟩
end Go.Proofs.Ytkohmgmoeffgnaa
