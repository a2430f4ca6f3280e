/- after: the store behind chores from the first one on, as many as can be done. No condition. -/
import Derived.Test.YtkohmgmoeffgnaaMAQ
set_option linter.unusedSimpArgs false
namespace Go.Proofs.Ytkohmgmoeffgnaa
open Go.RowKit

/-- What after returns: a store, which may be if some chore was done. -/
def AfterSaid (F : Frm) (base : Nat) (e : Ending) (w' : World) : Prop := ∃ b T, e = .returned (.tuple #[stoV T, .bool b]) ∧ OwnSto base w' T ∧ (b = true → storeE F T = 0 ∧ tot T ≤ 120)
theorem set_rows {base B : Nat} {w w' : World} {S : Sto} (h : OwnSto base w S) (ht : Turn (fun k => k = B) w w') (hB : B < base) : OwnSto base w' S :=
  h.turn ht (fun k e hk => by have h1 := (h.ge k hk).1; rw [show k = B from e] at h1; omega)

set_option maxRecDepth 100000 in
set_option maxHeartbeats 8000000 in
theorem after_any (F : Frm) (a : Option Addr) (c : Nat) (l : List Chr) (w : World) (hF : IsFarm w F) (hL : IsChrs w a c l) (h40 : l.length ≤ 40) :
    Calls Try.prog 21 #[.agg #[.slice F.pa F.ps.length F.pc, .int .i64 F.dry], .slice a l.length c] w fun e w' => AfterSaid F w.heap.size e w' ∧ Below w.heap.size w w' := by
  have hb1 : Below w.heap.size w ((w.alloc (.cells #[.slice F.pa F.ps.length F.pc, .int .i64 F.dry] 24)).alloc (.cells #[.int .i64 0, .slice none 0 0, .slice none 0 0, .slice none 0 0, .slice none 0 0, .slice none 0 0] 33)) := ((Below.refl _ w).alloc (Nat.le_refl _) _).alloc (by simp) _
  have kB := (Blk.new w 24 #[.slice F.pa F.ps.length F.pc, .int .i64 F.dry]).alloc (.cells #[.int .i64 0, .slice none 0 0, .slice none 0 0, .slice none 0 0, .slice none 0 0, .slice none 0 0] 33)
  have kR := Blk.new (w.alloc (.cells #[.slice F.pa F.ps.length F.pc, .int .i64 F.dry] 24)) 33 #[.int .i64 0, .slice none 0 0, .slice none 0 0, .slice none 0 0, .slice none 0 0, .slice none 0 0]
  rw [World.size_alloc] at kR
  have HF := Lib.hid hF
  have HL := Lib.hid hL
  have H40 := Lib.hid h40
  clear hF hL h40
  go_enter Try.func21, Try.ntmps21
  go_upto_region 1 with fail
  generalize ((w.alloc (.cells #[.slice F.pa F.ps.length F.pc, .int .i64 F.dry] 24)).alloc (.cells #[.int .i64 0, .slice none 0 0, .slice none 0 0, .slice none 0 0, .slice none 0 0, .slice none 0 0] 33)) = w1 at *
  have lF := kB.lt
  obtain ⟨f0, f1⟩ := frm_cells kB
  have HB1 := Lib.hid hb1
  have KB1 := Lib.hid kB
  have KR1 := Lib.hid kR
  clear kB kR hb1
  go_wp2_with fail
  refine (new_any F _ (HF.out.below HB1.out)).mono ?_
  rintro e w2 ⟨hs, hb⟩
  have HB2 := Lib.hid (HB1.out.trans (hb.mono HB1.out.size))
  have kB2 := KB1.out.belowS hb
  have kR2 := KR1.out.belowS hb
  clear f0 f1 lF hb KB1 KR1 HB1
  rcases hs with ⟨hE, rfl⟩ | ⟨hE, v, rfl, K1, K2, c1, c2, rfl, hk1, hk2⟩
  · generalize checkE F = E at *
    have q1 : (E == 0) = false := by simp [hE]
    have q2 : (E != 0) = true := by simp [hE]
    have kA := Blk.new w2 33 #[.int .i64 0, .slice none 0 0, .slice none 0 0, .slice none 0 0, .slice none 0 0, .slice none 0 0]
    have kR3 := kR2.alloc (.cells #[.int .i64 0, .slice none 0 0, .slice none 0 0, .slice none 0 0, .slice none 0 0, .slice none 0 0] 33)
    have hb3 : Below w.heap.size w (w2.alloc (.cells #[.int .i64 0, .slice none 0 0, .slice none 0 0, .slice none 0 0, .slice none 0 0, .slice none 0 0] 33)) := HB2.out.alloc HB2.out.size _
    clear hE kB2 kR2
    go_upto_region 3 with fail
    generalize w2.alloc (.cells #[.int .i64 0, .slice none 0 0, .slice none 0 0, .slice none 0 0, .slice none 0 0, .slice none 0 0] 33) = w3 at *
    obtain ⟨s0, s1, s2, s3, s4, s5⟩ := (show w3.cell? ⟨w2.heap.size, 0, none⟩ = some (.int .i64 0) ∧ w3.cell? ⟨w2.heap.size, 1, none⟩ = some (.slice none 0 0) ∧ w3.cell? ⟨w2.heap.size, 2, none⟩ = some (.slice none 0 0) ∧ w3.cell? ⟨w2.heap.size, 3, none⟩ = some (.slice none 0 0) ∧ w3.cell? ⟨w2.heap.size, 4, none⟩ = some (.slice none 0 0) ∧ w3.cell? ⟨w2.heap.size, 5, none⟩ = some (.slice none 0 0) from ⟨kA.cell 0, kA.cell 1, kA.cell 2, kA.cell 3, kA.cell 4, kA.cell 5⟩)
    obtain ⟨r0, r1, r2, r3, r4, r5⟩ := (show w3.cell? ⟨w.heap.size + 1, 0, none⟩ = some (.int .i64 0) ∧ w3.cell? ⟨w.heap.size + 1, 1, none⟩ = some (.slice none 0 0) ∧ w3.cell? ⟨w.heap.size + 1, 2, none⟩ = some (.slice none 0 0) ∧ w3.cell? ⟨w.heap.size + 1, 3, none⟩ = some (.slice none 0 0) ∧ w3.cell? ⟨w.heap.size + 1, 4, none⟩ = some (.slice none 0 0) ∧ w3.cell? ⟨w.heap.size + 1, 5, none⟩ = some (.slice none 0 0) from ⟨kR3.cell 0, kR3.cell 1, kR3.cell 2, kR3.cell 3, kR3.cell 4, kR3.cell 5⟩)
    have lA := kA.lt
    have lR := kR3.lt
    have z0 := kR3.frozen 0
    have z1 := kR3.frozen 1
    have z2 := kR3.frozen 2
    have z3 := kR3.frozen 3
    have z4 := kR3.frozen 4
    have z5 := kR3.frozen 5
    have KR3 := Lib.hid kR3
    have HB3 := Lib.hid hb3
    clear kA kR3 hb3
    go_wp2_with fail
    have kf : Blk ((((((w3.setCell ⟨w.heap.size + 1, 0, none⟩ (.int .i64 0)).setCell ⟨w.heap.size + 1, 1, none⟩ (.slice none 0 0)).setCell ⟨w.heap.size + 1, 2, none⟩ (.slice none 0 0)).setCell ⟨w.heap.size + 1, 3, none⟩ (.slice none 0 0)).setCell ⟨w.heap.size + 1, 4, none⟩ (.slice none 0 0)).setCell ⟨w.heap.size + 1, 5, none⟩ (.slice none 0 0)) (w.heap.size + 1) #[.int .i64 0, .slice none 0 0, .slice none 0 0, .slice none 0 0, .slice none 0 0, .slice none 0 0] 33 := ((((((KR3.out.set 0 (.int .i64 0)).set 1 (.slice none 0 0)).set 2 (.slice none 0 0)).set 3 (.slice none 0 0)).set 4 (.slice none 0 0)).set 5 (.slice none 0 0))
    have ht : Turn (fun k => k = w.heap.size + 1) w3 ((((((w3.setCell ⟨w.heap.size + 1, 0, none⟩ (.int .i64 0)).setCell ⟨w.heap.size + 1, 1, none⟩ (.slice none 0 0)).setCell ⟨w.heap.size + 1, 2, none⟩ (.slice none 0 0)).setCell ⟨w.heap.size + 1, 3, none⟩ (.slice none 0 0)).setCell ⟨w.heap.size + 1, 4, none⟩ (.slice none 0 0)).setCell ⟨w.heap.size + 1, 5, none⟩ (.slice none 0 0)) := (((((((Turn.of_below (X := fun k => k = w.heap.size + 1) (Below.refl _ w3)).setCell (B := w.heap.size + 1) rfl 0 (.int .i64 0)).setCell (B := w.heap.size + 1) rfl 1 (.slice none 0 0)).setCell (B := w.heap.size + 1) rfl 2 (.slice none 0 0)).setCell (B := w.heap.size + 1) rfl 3 (.slice none 0 0)).setCell (B := w.heap.size + 1) rfl 4 (.slice none 0 0)).setCell (B := w.heap.size + 1) rfl 5 (.slice none 0 0))
    generalize ((((((w3.setCell ⟨w.heap.size + 1, 0, none⟩ (.int .i64 0)).setCell ⟨w.heap.size + 1, 1, none⟩ (.slice none 0 0)).setCell ⟨w.heap.size + 1, 2, none⟩ (.slice none 0 0)).setCell ⟨w.heap.size + 1, 3, none⟩ (.slice none 0 0)).setCell ⟨w.heap.size + 1, 4, none⟩ (.slice none 0 0)).setCell ⟨w.heap.size + 1, 5, none⟩ (.slice none 0 0)) = wf at *
    clear s0 s1 s2 s3 s4 s5 r0 r1 r2 r3 r4 r5 z0 z1 z2 z3 z4 z5
    obtain ⟨g0, g1, g2, g3, g4, g5⟩ := (show wf.cell? ⟨w.heap.size + 1, 0, none⟩ = some (.int .i64 0) ∧ wf.cell? ⟨w.heap.size + 1, 1, none⟩ = some (.slice none 0 0) ∧ wf.cell? ⟨w.heap.size + 1, 2, none⟩ = some (.slice none 0 0) ∧ wf.cell? ⟨w.heap.size + 1, 3, none⟩ = some (.slice none 0 0) ∧ wf.cell? ⟨w.heap.size + 1, 4, none⟩ = some (.slice none 0 0) ∧ wf.cell? ⟨w.heap.size + 1, 5, none⟩ = some (.slice none 0 0) from ⟨kf.cell 0, kf.cell 1, kf.cell 2, kf.cell 3, kf.cell 4, kf.cell 5⟩)
    exact bodyPost_ret (v := .tuple #[.agg #[.int .i64 0, .slice none 0 0, .slice none 0 0, .slice none 0 0, .slice none 0 0, .slice none 0 0], .bool false]) (by simp [results, Try.results21, go_sem, g0, g1, g2, g3, g4, g5]) rfl ⟨⟨false, emptyS, rfl, empty_own _ _, fun h => by cases h⟩, HB3.out.trans (ht.below HB3.out.size (fun k e => by rw [show k = w.heap.size + 1 from e]; omega))⟩
  have kA := Blk.new w2 33 #[.int .i64 0, .slice K1 F.ps.length c1, .slice K2 F.ps.length c2, .slice none 0 0, .slice none 0 0, .slice none 0 0]
  have hbS : Below w2.heap.size w2 (w2.alloc (.cells #[.int .i64 0, .slice K1 F.ps.length c1, .slice K2 F.ps.length c2, .slice none 0 0, .slice none 0 0, .slice none 0 0] 33)) := (Below.refl _ w2).alloc (Nat.le_refl _) _
  have kB3 := kB2.belowS hbS
  have kR3 := kR2.belowS hbS
  have HK1 := Lib.hid (hk1.belowS hbS)
  have HK2 := Lib.hid (hk2.belowS hbS)
  have HB3 := Lib.hid (HB2.out.trans (hbS.mono HB2.out.size))
  have HE := Lib.hid hE
  have HRA := Lib.hid kR2.lt
  clear hE hk1 hk2 kB2 kR2 hbS
  go_upto_region 4 with fail
  generalize w2.alloc (.cells #[.int .i64 0, .slice K1 F.ps.length c1, .slice K2 F.ps.length c2, .slice none 0 0, .slice none 0 0, .slice none 0 0] 33) = w3 at *
  have lF := kB3.lt
  have lA := kA.lt
  obtain ⟨f0, f1⟩ := frm_cells kB3
  obtain ⟨s0, s1, s2, s3, s4, s5⟩ := (show w3.cell? ⟨w2.heap.size, 0, none⟩ = some (.int .i64 0) ∧ w3.cell? ⟨w2.heap.size, 1, none⟩ = some (.slice K1 F.ps.length c1) ∧ w3.cell? ⟨w2.heap.size, 2, none⟩ = some (.slice K2 F.ps.length c2) ∧ w3.cell? ⟨w2.heap.size, 3, none⟩ = some (.slice none 0 0) ∧ w3.cell? ⟨w2.heap.size, 4, none⟩ = some (.slice none 0 0) ∧ w3.cell? ⟨w2.heap.size, 5, none⟩ = some (.slice none 0 0) from ⟨kA.cell 0, kA.cell 1, kA.cell 2, kA.cell 3, kA.cell 4, kA.cell 5⟩)
  have KA3 := Lib.hid kA
  have KR3 := Lib.hid kR3
  clear kB3 kA kR3
  obtain ⟨Y, n, ev, hall, hn, hev, hdone, hpart⟩ := parts_math (first_ok HE.out K1 K2 c1 c2) (first_tot F K1 K2 c1 c2) H40.out
  obtain ⟨Y', hy1, hy2, hy3, hy4⟩ := hpart n (Nat.le_refl n)
  rw [hdone] at hy1
  obtain rfl : Y = Y' := by simpa using hy1
  have HALL := Lib.hid hall
  have HY3 := Lib.hid hy3
  have HY4 := Lib.hid hy4
  have HN := Lib.hid hn
  clear hall hn hev hdone hpart hy1 hy2 hy3 hy4
  go_wp2_with fail
  refine (run_first F K1 K2 c1 c2 a c l l.length _ rfl (HF.out.below HB3.out) HK1.out HK2.out (HL.out.belowS HB3.out) HE.out H40.out HALL.out).mono ?_
  rintro e w4 ⟨⟨T, rfl, hoT, hsT⟩, hb⟩
  have kA4 := KA3.out.belowS hb
  have kR4 := KR3.out.belowS hb
  have HB4 := Lib.hid (HB3.out.trans (hb.mono HB3.out.size))
  have HLA := Lib.hid KA3.out.lt
  have H34 := Lib.hid hb.size
  clear f0 f1 lF lA s0 s1 s2 s3 s4 s5 hb KA3 KR3 HK1 HK2 HB3
  obtain ⟨s0, s1, s2, s3, s4, s5⟩ := (show w4.cell? ⟨w2.heap.size, 0, none⟩ = some (.int .i64 0) ∧ w4.cell? ⟨w2.heap.size, 1, none⟩ = some (.slice K1 F.ps.length c1) ∧ w4.cell? ⟨w2.heap.size, 2, none⟩ = some (.slice K2 F.ps.length c2) ∧ w4.cell? ⟨w2.heap.size, 3, none⟩ = some (.slice none 0 0) ∧ w4.cell? ⟨w2.heap.size, 4, none⟩ = some (.slice none 0 0) ∧ w4.cell? ⟨w2.heap.size, 5, none⟩ = some (.slice none 0 0) from ⟨kA4.cell 0, kA4.cell 1, kA4.cell 2, kA4.cell 3, kA4.cell 4, kA4.cell 5⟩)
  have lA := kA4.lt
  have z0 := kA4.frozen 0
  have z1 := kA4.frozen 1
  have z2 := kA4.frozen 2
  have z3 := kA4.frozen 3
  have z4 := kA4.frozen 4
  have z5 := kA4.frozen 5
  go_upto_region 5 with fail
  have kA5 : Blk ((((((w4.setCell ⟨w2.heap.size, 0, none⟩ (.int .i64 T.year)).setCell ⟨w2.heap.size, 1, none⟩ (.slice T.la T.last.length T.lc)).setCell ⟨w2.heap.size, 2, none⟩ (.slice T.ga T.given.length T.gc)).setCell ⟨w2.heap.size, 3, none⟩ (.slice T.ha T.heaps.length T.hc)).setCell ⟨w2.heap.size, 4, none⟩ (.slice T.ua T.used.length T.uc)).setCell ⟨w2.heap.size, 5, none⟩ (.slice T.wa T.waste.length T.wc)) w2.heap.size (stoC T) 33 := ((((((kA4.set 0 (.int .i64 T.year)).set 1 (.slice T.la T.last.length T.lc)).set 2 (.slice T.ga T.given.length T.gc)).set 3 (.slice T.ha T.heaps.length T.hc)).set 4 (.slice T.ua T.used.length T.uc)).set 5 (.slice T.wa T.waste.length T.wc))
  have ht5 : Turn (fun k => k = w2.heap.size) w4 ((((((w4.setCell ⟨w2.heap.size, 0, none⟩ (.int .i64 T.year)).setCell ⟨w2.heap.size, 1, none⟩ (.slice T.la T.last.length T.lc)).setCell ⟨w2.heap.size, 2, none⟩ (.slice T.ga T.given.length T.gc)).setCell ⟨w2.heap.size, 3, none⟩ (.slice T.ha T.heaps.length T.hc)).setCell ⟨w2.heap.size, 4, none⟩ (.slice T.ua T.used.length T.uc)).setCell ⟨w2.heap.size, 5, none⟩ (.slice T.wa T.waste.length T.wc)) := (((((((Turn.of_below (X := fun k => k = w2.heap.size) (Below.refl _ w4)).setCell (B := w2.heap.size) rfl 0 (.int .i64 T.year)).setCell (B := w2.heap.size) rfl 1 (.slice T.la T.last.length T.lc)).setCell (B := w2.heap.size) rfl 2 (.slice T.ga T.given.length T.gc)).setCell (B := w2.heap.size) rfl 3 (.slice T.ha T.heaps.length T.hc)).setCell (B := w2.heap.size) rfl 4 (.slice T.ua T.used.length T.uc)).setCell (B := w2.heap.size) rfl 5 (.slice T.wa T.waste.length T.wc))
  generalize ((((((w4.setCell ⟨w2.heap.size, 0, none⟩ (.int .i64 T.year)).setCell ⟨w2.heap.size, 1, none⟩ (.slice T.la T.last.length T.lc)).setCell ⟨w2.heap.size, 2, none⟩ (.slice T.ga T.given.length T.gc)).setCell ⟨w2.heap.size, 3, none⟩ (.slice T.ha T.heaps.length T.hc)).setCell ⟨w2.heap.size, 4, none⟩ (.slice T.ua T.used.length T.uc)).setCell ⟨w2.heap.size, 5, none⟩ (.slice T.wa T.waste.length T.wc)) = w5 at *
  have kR5 := ht5.blk kR4 (fun e => by have := HRA.out; have := (show w.heap.size + 1 = w2.heap.size from e); omega)
  have hoT5 := set_rows hoT ht5 (by have := HLA.out; exact this)
  have HB5 := Lib.hid (HB4.out.trans (ht5.below HB4.out.size (fun k e => by rw [show k = w2.heap.size from e]; exact HB2.out.size)))
  clear s0 s1 s2 s3 s4 s5 z0 z1 z2 z3 z4 z5 lA kA4 kR4 ht5 hoT
  obtain ⟨s0, s1, s2, s3, s4, s5⟩ := sto_cells kA5
  obtain ⟨r0, r1, r2, r3, r4, r5⟩ := (show w5.cell? ⟨w.heap.size + 1, 0, none⟩ = some (.int .i64 0) ∧ w5.cell? ⟨w.heap.size + 1, 1, none⟩ = some (.slice none 0 0) ∧ w5.cell? ⟨w.heap.size + 1, 2, none⟩ = some (.slice none 0 0) ∧ w5.cell? ⟨w.heap.size + 1, 3, none⟩ = some (.slice none 0 0) ∧ w5.cell? ⟨w.heap.size + 1, 4, none⟩ = some (.slice none 0 0) ∧ w5.cell? ⟨w.heap.size + 1, 5, none⟩ = some (.slice none 0 0) from ⟨kR5.cell 0, kR5.cell 1, kR5.cell 2, kR5.cell 3, kR5.cell 4, kR5.cell 5⟩)
  have lA := kA5.lt
  have lR := kR5.lt
  have z0 := kR5.frozen 0
  have z1 := kR5.frozen 1
  have z2 := kR5.frozen 2
  have z3 := kR5.frozen 3
  have z4 := kR5.frozen 4
  have z5 := kR5.frozen 5
  have KR5 := Lib.hid kR5
  have HO5 := Lib.hid hoT5
  have HST := Lib.hid hsT
  clear kA5 kR5 hoT5 hsT
  go_wp2_with fail
  have kf : Blk ((((((w5.setCell ⟨w.heap.size + 1, 0, none⟩ (.int .i64 T.year)).setCell ⟨w.heap.size + 1, 1, none⟩ (.slice T.la T.last.length T.lc)).setCell ⟨w.heap.size + 1, 2, none⟩ (.slice T.ga T.given.length T.gc)).setCell ⟨w.heap.size + 1, 3, none⟩ (.slice T.ha T.heaps.length T.hc)).setCell ⟨w.heap.size + 1, 4, none⟩ (.slice T.ua T.used.length T.uc)).setCell ⟨w.heap.size + 1, 5, none⟩ (.slice T.wa T.waste.length T.wc)) (w.heap.size + 1) (stoC T) 33 := ((((((KR5.out.set 0 (.int .i64 T.year)).set 1 (.slice T.la T.last.length T.lc)).set 2 (.slice T.ga T.given.length T.gc)).set 3 (.slice T.ha T.heaps.length T.hc)).set 4 (.slice T.ua T.used.length T.uc)).set 5 (.slice T.wa T.waste.length T.wc))
  have ht : Turn (fun k => k = w.heap.size + 1) w5 ((((((w5.setCell ⟨w.heap.size + 1, 0, none⟩ (.int .i64 T.year)).setCell ⟨w.heap.size + 1, 1, none⟩ (.slice T.la T.last.length T.lc)).setCell ⟨w.heap.size + 1, 2, none⟩ (.slice T.ga T.given.length T.gc)).setCell ⟨w.heap.size + 1, 3, none⟩ (.slice T.ha T.heaps.length T.hc)).setCell ⟨w.heap.size + 1, 4, none⟩ (.slice T.ua T.used.length T.uc)).setCell ⟨w.heap.size + 1, 5, none⟩ (.slice T.wa T.waste.length T.wc)) := (((((((Turn.of_below (X := fun k => k = w.heap.size + 1) (Below.refl _ w5)).setCell (B := w.heap.size + 1) rfl 0 (.int .i64 T.year)).setCell (B := w.heap.size + 1) rfl 1 (.slice T.la T.last.length T.lc)).setCell (B := w.heap.size + 1) rfl 2 (.slice T.ga T.given.length T.gc)).setCell (B := w.heap.size + 1) rfl 3 (.slice T.ha T.heaps.length T.hc)).setCell (B := w.heap.size + 1) rfl 4 (.slice T.ua T.used.length T.uc)).setCell (B := w.heap.size + 1) rfl 5 (.slice T.wa T.waste.length T.wc))
  generalize ((((((w5.setCell ⟨w.heap.size + 1, 0, none⟩ (.int .i64 T.year)).setCell ⟨w.heap.size + 1, 1, none⟩ (.slice T.la T.last.length T.lc)).setCell ⟨w.heap.size + 1, 2, none⟩ (.slice T.ga T.given.length T.gc)).setCell ⟨w.heap.size + 1, 3, none⟩ (.slice T.ha T.heaps.length T.hc)).setCell ⟨w.heap.size + 1, 4, none⟩ (.slice T.ua T.used.length T.uc)).setCell ⟨w.heap.size + 1, 5, none⟩ (.slice T.wa T.waste.length T.wc)) = wf at *
  clear s0 s1 s2 s3 s4 s5 r0 r1 r2 r3 r4 r5 z0 z1 z2 z3 z4 z5
  obtain ⟨g0, g1, g2, g3, g4, g5⟩ := sto_cells kf
  have hfin : AfterSaid F w.heap.size (.returned (.tuple #[.agg #[.int .i64 T.year, .slice T.la T.last.length T.lc, .slice T.ga T.given.length T.gc, .slice T.ha T.heaps.length T.hc, .slice T.ua T.used.length T.uc, .slice T.wa T.waste.length T.wc], .bool (decide (0 < (n : Int)))])) wf :=
    ⟨_, T, rfl, (set_rows HO5.out ht (by have := HRA.out; have := HLA.out; omega)).mono (Nat.le_trans HB2.out.size (Nat.le_of_lt HLA.out)), fun _ => ⟨by rw [same_storeE HST.out]; exact HY3.out, by rw [same_tot HST.out]; exact HY4.out⟩⟩
  exact bodyPost_ret (v := .tuple #[.agg #[.int .i64 T.year, .slice T.la T.last.length T.lc, .slice T.ga T.given.length T.gc, .slice T.ha T.heaps.length T.hc, .slice T.ua T.used.length T.uc, .slice T.wa T.waste.length T.wc], .bool (decide (0 < (n : Int)))]) (by simp [results, Try.results21, go_sem, g0, g1, g2, g3, g4, g5]) rfl ⟨hfin, HB5.out.trans (ht.below HB5.out.size (fun k e => by rw [show k = w.heap.size + 1 from e]; omega))⟩
end Go.Proofs.Ytkohmgmoeffgnaa
