/- Run: chores one behind the other. -/
import Derived.Test.YtghepojnimlafaaQKR
set_option linter.unusedSimpArgs false
namespace Go.Proofs.Ytghepojnimlafaa
open Go.RowKit

def RunSaid (F : Frm) (S : Sto) (l : List Chr) (w : World) (e : Ending) (w' : World) : Prop :=
  (∃ T, e = .returned (.tuple #[stoV T, .int .i64 ((runD F S l).2.1 : Nat), .int .i64 (runD F S l).2.2]) ∧ OwnSto w.heap.size w' T ∧ SameSto T (runD F S l).1) ∧ Below w.heap.size w w'

set_option maxRecDepth 100000 in
set_option maxHeartbeats 8000000 in
theorem run_any (F : Frm) (S : Sto) (a : Option Addr) (c : Nat) (l : List Chr) (w : World) (hF : IsFarm w F) (hS : IsStore w S) (hl : IsChrs w a c l) (hfew : tot S + 3 * l.length ≤ 1000) :
    Calls Try.prog 9 #[.agg #[.slice F.pa F.ps.length F.pc, .int .i64 F.dry], stoV S, .slice a l.length c] w (RunSaid F S l w) := by
  have hfit := ptot_fit (S := S) (by omega)
  have hcs := fun w' h1 h2 => checkStore_any F S w' h1 h2 hfit
  unfold stoV at hcs
  unfold stoV
  have hb1 : Below w.heap.size w (((w.alloc (.cells #[.slice F.pa F.ps.length F.pc, .int .i64 F.dry] 24)).alloc (.cells #[.int .i64 S.year, .slice S.la S.last.length S.lc, .slice S.ga S.given.length S.gc, .slice S.ha S.heaps.length S.hc, .slice S.ua S.used.length S.uc, .slice S.wa S.waste.length S.wc] 45)).alloc (.cells #[.int .i64 0, .slice none 0 0, .slice none 0 0, .slice none 0 0, .slice none 0 0, .slice none 0 0] 45)) := (((Below.refl _ w).alloc (Nat.le_refl _) _).alloc (by simp) _).alloc (by simp; omega) _
  have kF : Blk (((w.alloc (.cells #[.slice F.pa F.ps.length F.pc, .int .i64 F.dry] 24)).alloc (.cells #[.int .i64 S.year, .slice S.la S.last.length S.lc, .slice S.ga S.given.length S.gc, .slice S.ha S.heaps.length S.hc, .slice S.ua S.used.length S.uc, .slice S.wa S.waste.length S.wc] 45)).alloc (.cells #[.int .i64 0, .slice none 0 0, .slice none 0 0, .slice none 0 0, .slice none 0 0, .slice none 0 0] 45)) w.heap.size #[.slice F.pa F.ps.length F.pc, .int .i64 F.dry] 24 := ((Blk.new w 24 #[.slice F.pa F.ps.length F.pc, .int .i64 F.dry]).alloc _).alloc _
  have kS : Blk (((w.alloc (.cells #[.slice F.pa F.ps.length F.pc, .int .i64 F.dry] 24)).alloc (.cells #[.int .i64 S.year, .slice S.la S.last.length S.lc, .slice S.ga S.given.length S.gc, .slice S.ha S.heaps.length S.hc, .slice S.ua S.used.length S.uc, .slice S.wa S.waste.length S.wc] 45)).alloc (.cells #[.int .i64 0, .slice none 0 0, .slice none 0 0, .slice none 0 0, .slice none 0 0, .slice none 0 0] 45)) (w.heap.size + 1) #[.int .i64 S.year, .slice S.la S.last.length S.lc, .slice S.ga S.given.length S.gc, .slice S.ha S.heaps.length S.hc, .slice S.ua S.used.length S.uc, .slice S.wa S.waste.length S.wc] 45 := by
    have := (Blk.new (w.alloc (.cells #[.slice F.pa F.ps.length F.pc, .int .i64 F.dry] 24)) 45 #[.int .i64 S.year, .slice S.la S.last.length S.lc, .slice S.ga S.given.length S.gc, .slice S.ha S.heaps.length S.hc, .slice S.ua S.used.length S.uc, .slice S.wa S.waste.length S.wc]).alloc (.cells #[.int .i64 0, .slice none 0 0, .slice none 0 0, .slice none 0 0, .slice none 0 0, .slice none 0 0] 45)
    simpa using this
  have kE : Blk (((w.alloc (.cells #[.slice F.pa F.ps.length F.pc, .int .i64 F.dry] 24)).alloc (.cells #[.int .i64 S.year, .slice S.la S.last.length S.lc, .slice S.ga S.given.length S.gc, .slice S.ha S.heaps.length S.hc, .slice S.ua S.used.length S.uc, .slice S.wa S.waste.length S.wc] 45)).alloc (.cells #[.int .i64 0, .slice none 0 0, .slice none 0 0, .slice none 0 0, .slice none 0 0, .slice none 0 0] 45)) (w.heap.size + 1 + 1) (stoC emptyS) 45 := by
    have := Blk.new ((w.alloc (.cells #[.slice F.pa F.ps.length F.pc, .int .i64 F.dry] 24)).alloc (.cells #[.int .i64 S.year, .slice S.la S.last.length S.lc, .slice S.ga S.given.length S.gc, .slice S.ha S.heaps.length S.hc, .slice S.ua S.used.length S.uc, .slice S.wa S.waste.length S.wc] 45)) 45 #[.int .i64 0, .slice none 0 0, .slice none 0 0, .slice none 0 0, .slice none 0 0, .slice none 0 0]
    rw [World.size_alloc, World.size_alloc] at this
    exact this
  have HF := Lib.hid hF
  have HS := Lib.hid hS
  have HL := Lib.hid hl
  have HFIT := Lib.hid hfit
  have HCS := Lib.hid hcs
  clear hF hS hl hfit hcs
  go_enter Try.func9, Try.ntmps9
  go_upto_region 1 with fail
  generalize (((w.alloc (.cells #[.slice F.pa F.ps.length F.pc, .int .i64 F.dry] 24)).alloc (.cells #[.int .i64 S.year, .slice S.la S.last.length S.lc, .slice S.ga S.given.length S.gc, .slice S.ha S.heaps.length S.hc, .slice S.ua S.used.length S.uc, .slice S.wa S.waste.length S.wc] 45)).alloc (.cells #[.int .i64 0, .slice none 0 0, .slice none 0 0, .slice none 0 0, .slice none 0 0, .slice none 0 0] 45)) = w1 at *
  have hn1 := kE.lt
  have f0 : w1.cell? ⟨w.heap.size, 0, none⟩ = some (.slice F.pa F.ps.length F.pc) := kF.cell 0
  have f1 : w1.cell? ⟨w.heap.size, 1, none⟩ = some (.int .i64 F.dry) := kF.cell 1
  obtain ⟨s0, s1, s2, s3, s4, s5⟩ := sto_cells kS
  have lF := kF.lt
  have lS := kS.lt
  have HB1 := Lib.hid hb1
  have KF := Lib.hid kF
  have KS := Lib.hid kS
  have KE := Lib.hid kE
  clear hb1 kF kS kE
  go_wp2_with fail
  refine (HCS.out _ (HF.out.below HB1.out) (HS.out.below HB1.out)).mono ?_
  rintro e w2 ⟨rfl, hb2⟩
  have HB2 := Lib.hid (HB1.out.trans (hb2.mono HB1.out.size))
  have KF2 := Lib.hid (KF.out.belowS hb2)
  have KS2 := Lib.hid (KS.out.belowS hb2)
  have KE2 := Lib.hid (KE.out.belowS hb2)
  have hn2 := Nat.lt_of_lt_of_le hn1 hb2.size
  clear f0 f1 s0 s1 s2 s3 s4 s5 lF lS hb2
  by_cases hE : storeE F S = 0
  rotate_left
  · have hv0 : runD F S l = (emptyS, 0, storeE F S) := by unfold runD; rw [if_pos hE]
    have qE : (storeE F S == 0) = false := by simp [hE]
    have qE' : (storeE F S != 0) = true := by simp [hE]
    generalize hv : storeE F S = v at *
    have HV := Lib.hid hv0
    clear hv hE hv0
    obtain ⟨t0, t1, t2, t3, t4, t5⟩ := sto_cells (S := emptyS) KE2.out
    have z0 := KE2.out.frozen 0
    have z1 := KE2.out.frozen 1
    have z2 := KE2.out.frozen 2
    have z3 := KE2.out.frozen 3
    have z4 := KE2.out.frozen 4
    have z5 := KE2.out.frozen 5
    simp only [emptyS, List.length_nil] at t0 t1 t2 t3 t4 t5
    go_wp2_with fail
    have kf : Blk ((((((w2.setCell ⟨w.heap.size + 1 + 1, 0, none⟩ (.int .i64 0)).setCell ⟨w.heap.size + 1 + 1, 1, none⟩ (.slice none 0 0)).setCell ⟨w.heap.size + 1 + 1, 2, none⟩ (.slice none 0 0)).setCell ⟨w.heap.size + 1 + 1, 3, none⟩ (.slice none 0 0)).setCell ⟨w.heap.size + 1 + 1, 4, none⟩ (.slice none 0 0)).setCell ⟨w.heap.size + 1 + 1, 5, none⟩ (.slice none 0 0)) (w.heap.size + 1 + 1) (stoC emptyS) 45 := ((((((KE2.out.set 0 (.int .i64 0)).set 1 (.slice none 0 0)).set 2 (.slice none 0 0)).set 3 (.slice none 0 0)).set 4 (.slice none 0 0)).set 5 (.slice none 0 0))
    have hTf : Turn (fun k => k = w.heap.size + 1 + 1) w2 ((((((w2.setCell ⟨w.heap.size + 1 + 1, 0, none⟩ (.int .i64 0)).setCell ⟨w.heap.size + 1 + 1, 1, none⟩ (.slice none 0 0)).setCell ⟨w.heap.size + 1 + 1, 2, none⟩ (.slice none 0 0)).setCell ⟨w.heap.size + 1 + 1, 3, none⟩ (.slice none 0 0)).setCell ⟨w.heap.size + 1 + 1, 4, none⟩ (.slice none 0 0)).setCell ⟨w.heap.size + 1 + 1, 5, none⟩ (.slice none 0 0)) := (((((((Turn.of_below (X := fun k => k = w.heap.size + 1 + 1) (Below.refl _ w2)).setCell (B := w.heap.size + 1 + 1) rfl 0 (.int .i64 0)).setCell (B := w.heap.size + 1 + 1) rfl 1 (.slice none 0 0)).setCell (B := w.heap.size + 1 + 1) rfl 2 (.slice none 0 0)).setCell (B := w.heap.size + 1 + 1) rfl 3 (.slice none 0 0)).setCell (B := w.heap.size + 1 + 1) rfl 4 (.slice none 0 0)).setCell (B := w.heap.size + 1 + 1) rfl 5 (.slice none 0 0))
    generalize ((((((w2.setCell ⟨w.heap.size + 1 + 1, 0, none⟩ (.int .i64 0)).setCell ⟨w.heap.size + 1 + 1, 1, none⟩ (.slice none 0 0)).setCell ⟨w.heap.size + 1 + 1, 2, none⟩ (.slice none 0 0)).setCell ⟨w.heap.size + 1 + 1, 3, none⟩ (.slice none 0 0)).setCell ⟨w.heap.size + 1 + 1, 4, none⟩ (.slice none 0 0)).setCell ⟨w.heap.size + 1 + 1, 5, none⟩ (.slice none 0 0)) = wf at *
    clear t0 t1 t2 t3 t4 t5 z0 z1 z2 z3 z4 z5
    obtain ⟨g0, g1, g2, g3, g4, g5⟩ := sto_cells (S := emptyS) kf
    simp only [emptyS, List.length_nil] at g0 g1 g2 g3 g4 g5
    refine bodyPost_ret (v := .tuple #[.agg #[.int .i64 0, .slice none 0 0, .slice none 0 0, .slice none 0 0, .slice none 0 0, .slice none 0 0], .int .i64 0, .int .i64 v]) (by simp [results, Try.results9, go_sem, g0, g1, g2, g3, g4, g5]) rfl ⟨⟨emptyS, by rw [HV.out]; rfl, empty_own _ _, by rw [HV.out]; exact SameSto.refl _⟩, HB2.out.trans (hTf.below HB2.out.size (fun k e => by rw [show k = w.heap.size + 1 + 1 from e]; omega))⟩
  have qE : (storeE F S == 0) = true := by simp [hE]
  have qE' : (storeE F S != 0) = false := by simp [hE]
  have HE := Lib.hid hE
  rw [hE]
  clear hE
  by_cases hlen : 200 < l.length
  · have HV := Lib.hid (show runD F S l = (emptyS, 0, 3) by unfold runD; rw [if_neg (by rw [HE.out]; simp), if_pos hlen])
    have ql : (200 : Int) < (l.length : Int) := by omega
    obtain ⟨t0, t1, t2, t3, t4, t5⟩ := sto_cells (S := emptyS) KE2.out
    have z0 := KE2.out.frozen 0
    have z1 := KE2.out.frozen 1
    have z2 := KE2.out.frozen 2
    have z3 := KE2.out.frozen 3
    have z4 := KE2.out.frozen 4
    have z5 := KE2.out.frozen 5
    simp only [emptyS, List.length_nil] at t0 t1 t2 t3 t4 t5
    go_wp2_with fail
    have kf : Blk ((((((w2.setCell ⟨w.heap.size + 1 + 1, 0, none⟩ (.int .i64 0)).setCell ⟨w.heap.size + 1 + 1, 1, none⟩ (.slice none 0 0)).setCell ⟨w.heap.size + 1 + 1, 2, none⟩ (.slice none 0 0)).setCell ⟨w.heap.size + 1 + 1, 3, none⟩ (.slice none 0 0)).setCell ⟨w.heap.size + 1 + 1, 4, none⟩ (.slice none 0 0)).setCell ⟨w.heap.size + 1 + 1, 5, none⟩ (.slice none 0 0)) (w.heap.size + 1 + 1) (stoC emptyS) 45 := ((((((KE2.out.set 0 (.int .i64 0)).set 1 (.slice none 0 0)).set 2 (.slice none 0 0)).set 3 (.slice none 0 0)).set 4 (.slice none 0 0)).set 5 (.slice none 0 0))
    have hTf : Turn (fun k => k = w.heap.size + 1 + 1) w2 ((((((w2.setCell ⟨w.heap.size + 1 + 1, 0, none⟩ (.int .i64 0)).setCell ⟨w.heap.size + 1 + 1, 1, none⟩ (.slice none 0 0)).setCell ⟨w.heap.size + 1 + 1, 2, none⟩ (.slice none 0 0)).setCell ⟨w.heap.size + 1 + 1, 3, none⟩ (.slice none 0 0)).setCell ⟨w.heap.size + 1 + 1, 4, none⟩ (.slice none 0 0)).setCell ⟨w.heap.size + 1 + 1, 5, none⟩ (.slice none 0 0)) := (((((((Turn.of_below (X := fun k => k = w.heap.size + 1 + 1) (Below.refl _ w2)).setCell (B := w.heap.size + 1 + 1) rfl 0 (.int .i64 0)).setCell (B := w.heap.size + 1 + 1) rfl 1 (.slice none 0 0)).setCell (B := w.heap.size + 1 + 1) rfl 2 (.slice none 0 0)).setCell (B := w.heap.size + 1 + 1) rfl 3 (.slice none 0 0)).setCell (B := w.heap.size + 1 + 1) rfl 4 (.slice none 0 0)).setCell (B := w.heap.size + 1 + 1) rfl 5 (.slice none 0 0))
    generalize ((((((w2.setCell ⟨w.heap.size + 1 + 1, 0, none⟩ (.int .i64 0)).setCell ⟨w.heap.size + 1 + 1, 1, none⟩ (.slice none 0 0)).setCell ⟨w.heap.size + 1 + 1, 2, none⟩ (.slice none 0 0)).setCell ⟨w.heap.size + 1 + 1, 3, none⟩ (.slice none 0 0)).setCell ⟨w.heap.size + 1 + 1, 4, none⟩ (.slice none 0 0)).setCell ⟨w.heap.size + 1 + 1, 5, none⟩ (.slice none 0 0)) = wf at *
    clear t0 t1 t2 t3 t4 t5 z0 z1 z2 z3 z4 z5
    obtain ⟨g0, g1, g2, g3, g4, g5⟩ := sto_cells (S := emptyS) kf
    simp only [emptyS, List.length_nil] at g0 g1 g2 g3 g4 g5
    refine bodyPost_ret (v := .tuple #[.agg #[.int .i64 0, .slice none 0 0, .slice none 0 0, .slice none 0 0, .slice none 0 0, .slice none 0 0], .int .i64 0, .int .i64 3]) (by simp [results, Try.results9, go_sem, g0, g1, g2, g3, g4, g5]) rfl ⟨⟨emptyS, by rw [HV.out]; rfl, empty_own _ _, by rw [HV.out]; exact SameSto.refl _⟩, HB2.out.trans (hTf.below HB2.out.size (fun k e => by rw [show k = w.heap.size + 1 + 1 from e]; omega))⟩
  have ql : ¬ (200 : Int) < (l.length : Int) := by omega
  have HRV := Lib.hid (show runD F S l = runL F S l by unfold runD; rw [if_neg (by rw [HE.out]; simp), if_neg hlen])
  obtain ⟨s0, s1, s2, s3, s4, s5⟩ := sto_cells KS2.out
  have lS := KS2.out.lt
  have hyr := years_ok HE.out
  obtain ⟨hs1, hs2, _⟩ := store_ok HE.out
  have hcp := copyStore_any S w2 (HS.out.below HB2.out) HFIT.out (by omega) (by omega)
  have HCP := Lib.hid hcp
  clear hyr hs1 hs2 hcp
  go_wp2_with fail
  refine HCP.out.mono ?_
  rintro e w3 ⟨⟨T0, rfl, hoT, hsT⟩, hb3⟩
  have kE3 := KE2.out.belowS hb3
  have kF3 := KF2.out.belowS hb3
  have hn3 := Nat.lt_of_lt_of_le hn2 hb3.size
  obtain ⟨t0, t1, t2, t3, t4, t5⟩ := sto_cells (S := emptyS) kE3
  have z0 := kE3.frozen 0
  have z1 := kE3.frozen 1
  have z2 := kE3.frozen 2
  have z3 := kE3.frozen 3
  have z4 := kE3.frozen 4
  have z5 := kE3.frozen 5
  simp only [emptyS, List.length_nil] at t0 t1 t2 t3 t4 t5
  have k4 : Blk ((((((w3.setCell ⟨w.heap.size + 1 + 1, 0, none⟩ (.int .i64 T0.year)).setCell ⟨w.heap.size + 1 + 1, 1, none⟩ (.slice T0.la T0.last.length T0.lc)).setCell ⟨w.heap.size + 1 + 1, 2, none⟩ (.slice T0.ga T0.given.length T0.gc)).setCell ⟨w.heap.size + 1 + 1, 3, none⟩ (.slice T0.ha T0.heaps.length T0.hc)).setCell ⟨w.heap.size + 1 + 1, 4, none⟩ (.slice T0.ua T0.used.length T0.uc)).setCell ⟨w.heap.size + 1 + 1, 5, none⟩ (.slice T0.wa T0.waste.length T0.wc)) (w.heap.size + 1 + 1) (stoC T0) 45 := ((((((kE3.set 0 (.int .i64 T0.year)).set 1 (.slice T0.la T0.last.length T0.lc)).set 2 (.slice T0.ga T0.given.length T0.gc)).set 3 (.slice T0.ha T0.heaps.length T0.hc)).set 4 (.slice T0.ua T0.used.length T0.uc)).set 5 (.slice T0.wa T0.waste.length T0.wc))
  have hT4 : Turn (fun k => k = w.heap.size + 1 + 1) w3 ((((((w3.setCell ⟨w.heap.size + 1 + 1, 0, none⟩ (.int .i64 T0.year)).setCell ⟨w.heap.size + 1 + 1, 1, none⟩ (.slice T0.la T0.last.length T0.lc)).setCell ⟨w.heap.size + 1 + 1, 2, none⟩ (.slice T0.ga T0.given.length T0.gc)).setCell ⟨w.heap.size + 1 + 1, 3, none⟩ (.slice T0.ha T0.heaps.length T0.hc)).setCell ⟨w.heap.size + 1 + 1, 4, none⟩ (.slice T0.ua T0.used.length T0.uc)).setCell ⟨w.heap.size + 1 + 1, 5, none⟩ (.slice T0.wa T0.waste.length T0.wc)) := (((((((Turn.of_below (X := fun k => k = w.heap.size + 1 + 1) (Below.refl _ w3)).setCell (B := w.heap.size + 1 + 1) rfl 0 (.int .i64 T0.year)).setCell (B := w.heap.size + 1 + 1) rfl 1 (.slice T0.la T0.last.length T0.lc)).setCell (B := w.heap.size + 1 + 1) rfl 2 (.slice T0.ga T0.given.length T0.gc)).setCell (B := w.heap.size + 1 + 1) rfl 3 (.slice T0.ha T0.heaps.length T0.hc)).setCell (B := w.heap.size + 1 + 1) rfl 4 (.slice T0.ua T0.used.length T0.uc)).setCell (B := w.heap.size + 1 + 1) rfl 5 (.slice T0.wa T0.waste.length T0.wc))
  have HB3 := Lib.hid (HB2.out.trans (hb3.mono HB2.out.size))
  have HO3 := Lib.hid hoT
  have HS3 := Lib.hid hsT
  have K4 := Lib.hid k4
  have HT4 := Lib.hid hT4
  have KF3 := Lib.hid kF3
  clear s0 s1 s2 s3 s4 s5 lS kE3 kF3 hb3 hoT hsT k4 hT4
  go_upto_region 7 with fail
  generalize ((((((w3.setCell ⟨w.heap.size + 1 + 1, 0, none⟩ (.int .i64 T0.year)).setCell ⟨w.heap.size + 1 + 1, 1, none⟩ (.slice T0.la T0.last.length T0.lc)).setCell ⟨w.heap.size + 1 + 1, 2, none⟩ (.slice T0.ga T0.given.length T0.gc)).setCell ⟨w.heap.size + 1 + 1, 3, none⟩ (.slice T0.ha T0.heaps.length T0.hc)).setCell ⟨w.heap.size + 1 + 1, 4, none⟩ (.slice T0.ua T0.used.length T0.uc)).setCell ⟨w.heap.size + 1 + 1, 5, none⟩ (.slice T0.wa T0.waste.length T0.wc)) = w4 at *
  clear t0 t1 t2 t3 t4 t5 z0 z1 z2 z3 z4 z5
  go_wp2_with fail
  go_loopw [29, 10, 11, 12, 13] (fun k i10 b11 b12 e13 wr => ∃ (j : Nat) (T U : Sto), j ≤ l.length ∧ k = .int .i64 j ∧ Blk wr (w.heap.size + 1 + 1) (stoC T) 45 ∧ OwnSto w.heap.size wr T ∧ w.heap.size + 1 + 1 ∉ rowsOf T ∧ SameSto T U ∧ allD F S (l.take j) U ∧ tot T + 3 * (l.length - j) ≤ 1000 ∧
    Blk wr w.heap.size #[.slice F.pa F.ps.length F.pc, .int .i64 F.dry] 24 ∧ Below w.heap.size w wr ∧ w.heap.size + 1 + 1 < wr.heap.size) (fun k _ _ _ _ _ => l.length - (intOf k).toNat)
  case atStart =>
    have hTo := (HO3.out.mono (HB2.out.size)).turn HT4.out (fun k e hk => by have := (HO3.out.ge k hk).1; have := (show k = w.heap.size + 1 + 1 from e); omega)
    exact ⟨0, T0, S, Nat.zero_le _, rfl, K4.out, hTo, fun hk => by have := (HO3.out.ge _ hk).1; omega, HS3.out, by simpa using allD_nil F S, by rw [same_tot HS3.out]; simpa using hfew, HT4.out.blk KF3.out (fun e => by have : w.heap.size = w.heap.size + 1 + 1 := e; omega), HB3.out.trans (HT4.out.below HB3.out.size (fun k e => by rw [show k = w.heap.size + 1 + 1 from e]; omega)), K4.out.lt⟩
  case round =>
    obtain ⟨j, T, U, hj, rfl, kT, hoT, hET, hTU, hall, htot, kF, hB, hEs⟩ := hrel
    have hfT := ptot_fit (S := T) (by omega)
    by_cases hlj : j < l.length
    · have hq : l[j]? = some l[j] := List.getElem?_eq_getElem hlj
      have htk : l.take (j + 1) = l.take j ++ [l[j]] := by rw [List.take_add_one, hq]; rfl
      have hdr : l = l.take j ++ l[j] :: l.drop (j + 1) := by rw [List.getElem_cons_drop, List.take_append_drop]
      obtain ⟨cb, coff, hca, hcbl, hccap, hccx, ⟨x0, x1, x2, x3, x4, x5, x6, x7, x8⟩, hxn, hxo⟩ := (HL.out.belowS hB).at hq
      generalize l[j] = x at *
      subst hca
      have hj0 : (0 : Int) ≤ (j : Int) := Int.natCast_nonneg _
      have hj1 : (j : Int) < (l.length : Int) := by omega
      have kX := Blk.new wr 40 #[.int .i64 x.kind, .int .i64 x.plot, .int .i64 x.loads, .string x.name, .string x.other, .int .i64 x.days, .int .i64 x.per, .int .i64 x.rlo, .int .i64 x.rhi]
      have hbX : Below wr.heap.size wr (wr.alloc (.cells #[.int .i64 x.kind, .int .i64 x.plot, .int .i64 x.loads, .string x.name, .string x.other, .int .i64 x.days, .int .i64 x.per, .int .i64 x.rlo, .int .i64 x.rhi] 40)) := (Below.refl _ wr).alloc (Nat.le_refl _) _
      have HKT := Lib.hid kT
      have HOT := Lib.hid hoT
      have HKF := Lib.hid kF
      have HTU := Lib.hid hTU
      have HALL := Lib.hid hall
      have HTOT := Lib.hid htot
      have HTK := Lib.hid htk
      have HDR := Lib.hid hdr
      have HB := Lib.hid hB
      have HFT := Lib.hid hfT
      clear kT hoT kF hTU hall htot htk hdr hB hfT hq
      go_upto_region 10 with fail
      generalize wr.alloc (.cells #[.int .i64 x.kind, .int .i64 x.plot, .int .i64 x.loads, .string x.name, .string x.other, .int .i64 x.days, .int .i64 x.per, .int .i64 x.rlo, .int .i64 x.rhi] 40) = wx at *
      clear x0 x1 x2 x3 x4 x5 x6 x7 x8 hcbl hccap hccx
      have kTx := HKT.out.belowS hbX
      have kFx := HKF.out.belowS hbX
      obtain ⟨t0, t1, t2, t3, t4, t5⟩ := sto_cells (S := T) kTx
      have f0 : wx.cell? ⟨w.heap.size, 0, none⟩ = some (.slice F.pa F.ps.length F.pc) := kFx.cell 0
      have f1 : wx.cell? ⟨w.heap.size, 1, none⟩ = some (.int .i64 F.dry) := kFx.cell 1
      obtain ⟨c0, c1, c2, c3, c4, c5, c6, c7, c8⟩ := (show wx.cell? ⟨wr.heap.size, 0, none⟩ = some (.int .i64 x.kind) ∧ wx.cell? ⟨wr.heap.size, 1, none⟩ = some (.int .i64 x.plot) ∧ wx.cell? ⟨wr.heap.size, 2, none⟩ = some (.int .i64 x.loads) ∧ wx.cell? ⟨wr.heap.size, 3, none⟩ = some (.string x.name) ∧ wx.cell? ⟨wr.heap.size, 4, none⟩ = some (.string x.other) ∧ wx.cell? ⟨wr.heap.size, 5, none⟩ = some (.int .i64 x.days) ∧ wx.cell? ⟨wr.heap.size, 6, none⟩ = some (.int .i64 x.per) ∧ wx.cell? ⟨wr.heap.size, 7, none⟩ = some (.int .i64 x.rlo) ∧ wx.cell? ⟨wr.heap.size, 8, none⟩ = some (.int .i64 x.rhi) from ⟨kX.cell 0, kX.cell 1, kX.cell 2, kX.cell 3, kX.cell 4, kX.cell 5, kX.cell 6, kX.cell 7, kX.cell 8⟩)
      have lEx := kTx.lt
      have lFx := kFx.lt
      have lXx := kX.lt
      have hBx := HB.out.trans (hbX.mono HB.out.size)
      have hdo := strawDo_any F T x wx (HF.out.below hBx) ((HOT.out.below hbX).store) HFT.out hxn hxo
      unfold stoV chrC at hdo
      have HDO := Lib.hid hdo
      have HBX := Lib.hid hBx
      have HBx := Lib.hid hbX
      have KTX := Lib.hid kTx
      have KFX := Lib.hid kFx
      clear kTx kFx kX hbX hBx hdo
      go_wp2_with fail
      refine HDO.out.mono ?_
      rintro e w5 ⟨⟨V, rfl, hoV, hsV⟩, hb5⟩
      have HB5 := Lib.hid (HBX.out.trans (hb5.mono HBX.out.size))
      have kT5 := KTX.out.belowS hb5
      have kF5 := KFX.out.belowS hb5
      have hs5 := hb5.size
      have hsx := HBx.out.size
      have hoT5 := (HOT.out.below HBx.out).below hb5
      clear t0 t1 t2 t3 t4 t5 f0 f1 c0 c1 c2 c3 c4 c5 c6 c7 c8
      have hsame := same_do (F := F) HTU.out x
      have hrl := runL_done (m := x :: l.drop (j + 1)) HALL.out
      rw [← HDR.out] at hrl
      have htl : (l.take j).length = j := by rw [List.length_take]; omega
      have hbV : Below w5.heap.size w5 (w5.alloc (.cells (stoC V) 45)) := (Below.refl _ w5).alloc (Nat.le_refl _) _
      have kV := Blk.new w5 45 (stoC V)
      have kT6 := kT5.belowS hbV
      have kF6 := kF5.belowS hbV
      have hge : ∀ k ∈ rowsOf V, wx.heap.size ≤ k := fun k hk => (hoV.ge k hk).1
      by_cases hz : (doD F T x).1 = 0
      rotate_left
      · have qz : ((doD F T x).1 == 0) = false := by simp [hz]
        have qz' : ((doD F T x).1 != 0) = true := by simp [hz]
        have hv : runD F S l = (U, j, (doD F T x).1) := by
          rw [HRV.out, hrl, runL, if_neg (by rw [← hsame.1]; exact hz), htl]
          simp only [hsame.1, Nat.add_zero]
        generalize (doD F T x).1 = v at *
        have HV := Lib.hid hv
        obtain ⟨t0, t1, t2, t3, t4, t5⟩ := sto_cells (S := T) kT6
        have z0 := kT6.frozen 0
        have z1 := kT6.frozen 1
        have z2 := kT6.frozen 2
        have z3 := kT6.frozen 3
        have z4 := kT6.frozen 4
        have z5 := kT6.frozen 5
        have lE6 := kT6.lt
        have HT6 := Lib.hid kT6
        have HO6 := Lib.hid (hoT5.below hbV)
        have HB6 := Lib.hid (HB5.out.trans (hbV.mono HB5.out.size))
        clear hv hz hsame hrl htl hoV hsV kV kT5 kT6 kF5 kF6 hge hoT5 hbV hb5
        unfold stoC at *
        go_wp2_with fail
        have kf : Blk (((((((w5.alloc (.cells #[.int .i64 V.year, .slice V.la V.last.length V.lc, .slice V.ga V.given.length V.gc, .slice V.ha V.heaps.length V.hc, .slice V.ua V.used.length V.uc, .slice V.wa V.waste.length V.wc] 45)).setCell ⟨w.heap.size + 1 + 1, 0, none⟩ (.int .i64 T.year)).setCell ⟨w.heap.size + 1 + 1, 1, none⟩ (.slice T.la T.last.length T.lc)).setCell ⟨w.heap.size + 1 + 1, 2, none⟩ (.slice T.ga T.given.length T.gc)).setCell ⟨w.heap.size + 1 + 1, 3, none⟩ (.slice T.ha T.heaps.length T.hc)).setCell ⟨w.heap.size + 1 + 1, 4, none⟩ (.slice T.ua T.used.length T.uc)).setCell ⟨w.heap.size + 1 + 1, 5, none⟩ (.slice T.wa T.waste.length T.wc)) (w.heap.size + 1 + 1) (stoC T) 45 := ((((((HT6.out.set 0 (.int .i64 T.year)).set 1 (.slice T.la T.last.length T.lc)).set 2 (.slice T.ga T.given.length T.gc)).set 3 (.slice T.ha T.heaps.length T.hc)).set 4 (.slice T.ua T.used.length T.uc)).set 5 (.slice T.wa T.waste.length T.wc))
        have hTf : Turn (fun k => k = w.heap.size + 1 + 1) (w5.alloc (.cells #[.int .i64 V.year, .slice V.la V.last.length V.lc, .slice V.ga V.given.length V.gc, .slice V.ha V.heaps.length V.hc, .slice V.ua V.used.length V.uc, .slice V.wa V.waste.length V.wc] 45)) (((((((w5.alloc (.cells #[.int .i64 V.year, .slice V.la V.last.length V.lc, .slice V.ga V.given.length V.gc, .slice V.ha V.heaps.length V.hc, .slice V.ua V.used.length V.uc, .slice V.wa V.waste.length V.wc] 45)).setCell ⟨w.heap.size + 1 + 1, 0, none⟩ (.int .i64 T.year)).setCell ⟨w.heap.size + 1 + 1, 1, none⟩ (.slice T.la T.last.length T.lc)).setCell ⟨w.heap.size + 1 + 1, 2, none⟩ (.slice T.ga T.given.length T.gc)).setCell ⟨w.heap.size + 1 + 1, 3, none⟩ (.slice T.ha T.heaps.length T.hc)).setCell ⟨w.heap.size + 1 + 1, 4, none⟩ (.slice T.ua T.used.length T.uc)).setCell ⟨w.heap.size + 1 + 1, 5, none⟩ (.slice T.wa T.waste.length T.wc)) := (((((((Turn.of_below (X := fun k => k = w.heap.size + 1 + 1) (Below.refl _ (w5.alloc (.cells #[.int .i64 V.year, .slice V.la V.last.length V.lc, .slice V.ga V.given.length V.gc, .slice V.ha V.heaps.length V.hc, .slice V.ua V.used.length V.uc, .slice V.wa V.waste.length V.wc] 45)))).setCell (B := w.heap.size + 1 + 1) rfl 0 (.int .i64 T.year)).setCell (B := w.heap.size + 1 + 1) rfl 1 (.slice T.la T.last.length T.lc)).setCell (B := w.heap.size + 1 + 1) rfl 2 (.slice T.ga T.given.length T.gc)).setCell (B := w.heap.size + 1 + 1) rfl 3 (.slice T.ha T.heaps.length T.hc)).setCell (B := w.heap.size + 1 + 1) rfl 4 (.slice T.ua T.used.length T.uc)).setCell (B := w.heap.size + 1 + 1) rfl 5 (.slice T.wa T.waste.length T.wc))
        generalize (((((((w5.alloc (.cells #[.int .i64 V.year, .slice V.la V.last.length V.lc, .slice V.ga V.given.length V.gc, .slice V.ha V.heaps.length V.hc, .slice V.ua V.used.length V.uc, .slice V.wa V.waste.length V.wc] 45)).setCell ⟨w.heap.size + 1 + 1, 0, none⟩ (.int .i64 T.year)).setCell ⟨w.heap.size + 1 + 1, 1, none⟩ (.slice T.la T.last.length T.lc)).setCell ⟨w.heap.size + 1 + 1, 2, none⟩ (.slice T.ga T.given.length T.gc)).setCell ⟨w.heap.size + 1 + 1, 3, none⟩ (.slice T.ha T.heaps.length T.hc)).setCell ⟨w.heap.size + 1 + 1, 4, none⟩ (.slice T.ua T.used.length T.uc)).setCell ⟨w.heap.size + 1 + 1, 5, none⟩ (.slice T.wa T.waste.length T.wc)) = wf at *
        clear t0 t1 t2 t3 t4 t5 z0 z1 z2 z3 z4 z5
        obtain ⟨g0, g1, g2, g3, g4, g5⟩ := sto_cells (S := T) kf
        have ho2 := (HO6.out).turn hTf (fun k e hk => hET (by rw [← show k = w.heap.size + 1 + 1 from e]; exact hk))
        have hb2 := (HB6.out).trans (hTf.below (HB6.out).size (fun k e => by rw [show k = w.heap.size + 1 + 1 from e]; omega))
        refine bodyPost_ret (v := .tuple #[stoV T, .int .i64 ((j : Nat) : Nat), .int .i64 v]) (by simp [results, Try.results9, go_sem, g0, g1, g2, g3, g4, g5]) rfl ⟨⟨T, by rw [HV.out], ho2, by rw [HV.out]; exact HTU.out⟩, hb2⟩
      · have qz : ((doD F T x).1 == 0) = true := by simp [hz]
        have qz' : ((doD F T x).1 != 0) = false := by simp [hz]
        have hsV2 : SameSto V (doD F T x).2 := by rw [if_pos hz] at hsV; exact hsV
        have hall2 : allD F S (l.take (j + 1)) (doD F U x).2 := by rw [HTK.out]; exact allD_snoc HALL.out (by rw [← hsame.1]; exact hz)
        have hVU : SameSto V (doD F U x).2 := hsV2.trans hsame.2
        have htV : tot V + 3 * (l.length - (j + 1)) ≤ 1000 := by
          have h1 := few_do F T x hz
          rw [← same_tot hsV2] at h1
          have h2 := HTOT.out
          omega
        rw [hz]
        rw [hz] at qz qz'
        obtain ⟨t0, t1, t2, t3, t4, t5⟩ := sto_cells (S := T) kT6
        have z0 := kT6.frozen 0
        have z1 := kT6.frozen 1
        have z2 := kT6.frozen 2
        have z3 := kT6.frozen 3
        have z4 := kT6.frozen 4
        have z5 := kT6.frozen 5
        have lE6 := kT6.lt
        have hoV6 := (hoV.mono (show w.heap.size ≤ wx.heap.size from HBX.out.size)).below hbV
        have HT6 := Lib.hid kT6
        have HF6 := Lib.hid kF6
        have HOV := Lib.hid hoV6
        have HVU := Lib.hid hVU
        have HA2 := Lib.hid hall2
        have HTV := Lib.hid htV
        have HGE := Lib.hid hge
        have HB6 := Lib.hid (HB5.out.trans (hbV.mono HB5.out.size))
        clear hz hsame hrl htl hoV hsV hsV2 kV kT5 kT6 kF5 kF6 hge hoT5 hbV hb5 hall2 hVU htV hoV6
        unfold stoC at *
        go_wp2_with fail
        have kf : Blk (((((((w5.alloc (.cells #[.int .i64 V.year, .slice V.la V.last.length V.lc, .slice V.ga V.given.length V.gc, .slice V.ha V.heaps.length V.hc, .slice V.ua V.used.length V.uc, .slice V.wa V.waste.length V.wc] 45)).setCell ⟨w.heap.size + 1 + 1, 0, none⟩ (.int .i64 V.year)).setCell ⟨w.heap.size + 1 + 1, 1, none⟩ (.slice V.la V.last.length V.lc)).setCell ⟨w.heap.size + 1 + 1, 2, none⟩ (.slice V.ga V.given.length V.gc)).setCell ⟨w.heap.size + 1 + 1, 3, none⟩ (.slice V.ha V.heaps.length V.hc)).setCell ⟨w.heap.size + 1 + 1, 4, none⟩ (.slice V.ua V.used.length V.uc)).setCell ⟨w.heap.size + 1 + 1, 5, none⟩ (.slice V.wa V.waste.length V.wc)) (w.heap.size + 1 + 1) (stoC V) 45 := ((((((HT6.out.set 0 (.int .i64 V.year)).set 1 (.slice V.la V.last.length V.lc)).set 2 (.slice V.ga V.given.length V.gc)).set 3 (.slice V.ha V.heaps.length V.hc)).set 4 (.slice V.ua V.used.length V.uc)).set 5 (.slice V.wa V.waste.length V.wc))
        have hTf : Turn (fun k => k = w.heap.size + 1 + 1) (w5.alloc (.cells #[.int .i64 V.year, .slice V.la V.last.length V.lc, .slice V.ga V.given.length V.gc, .slice V.ha V.heaps.length V.hc, .slice V.ua V.used.length V.uc, .slice V.wa V.waste.length V.wc] 45)) (((((((w5.alloc (.cells #[.int .i64 V.year, .slice V.la V.last.length V.lc, .slice V.ga V.given.length V.gc, .slice V.ha V.heaps.length V.hc, .slice V.ua V.used.length V.uc, .slice V.wa V.waste.length V.wc] 45)).setCell ⟨w.heap.size + 1 + 1, 0, none⟩ (.int .i64 V.year)).setCell ⟨w.heap.size + 1 + 1, 1, none⟩ (.slice V.la V.last.length V.lc)).setCell ⟨w.heap.size + 1 + 1, 2, none⟩ (.slice V.ga V.given.length V.gc)).setCell ⟨w.heap.size + 1 + 1, 3, none⟩ (.slice V.ha V.heaps.length V.hc)).setCell ⟨w.heap.size + 1 + 1, 4, none⟩ (.slice V.ua V.used.length V.uc)).setCell ⟨w.heap.size + 1 + 1, 5, none⟩ (.slice V.wa V.waste.length V.wc)) := (((((((Turn.of_below (X := fun k => k = w.heap.size + 1 + 1) (Below.refl _ (w5.alloc (.cells #[.int .i64 V.year, .slice V.la V.last.length V.lc, .slice V.ga V.given.length V.gc, .slice V.ha V.heaps.length V.hc, .slice V.ua V.used.length V.uc, .slice V.wa V.waste.length V.wc] 45)))).setCell (B := w.heap.size + 1 + 1) rfl 0 (.int .i64 V.year)).setCell (B := w.heap.size + 1 + 1) rfl 1 (.slice V.la V.last.length V.lc)).setCell (B := w.heap.size + 1 + 1) rfl 2 (.slice V.ga V.given.length V.gc)).setCell (B := w.heap.size + 1 + 1) rfl 3 (.slice V.ha V.heaps.length V.hc)).setCell (B := w.heap.size + 1 + 1) rfl 4 (.slice V.ua V.used.length V.uc)).setCell (B := w.heap.size + 1 + 1) rfl 5 (.slice V.wa V.waste.length V.wc))
        generalize (((((((w5.alloc (.cells #[.int .i64 V.year, .slice V.la V.last.length V.lc, .slice V.ga V.given.length V.gc, .slice V.ha V.heaps.length V.hc, .slice V.ua V.used.length V.uc, .slice V.wa V.waste.length V.wc] 45)).setCell ⟨w.heap.size + 1 + 1, 0, none⟩ (.int .i64 V.year)).setCell ⟨w.heap.size + 1 + 1, 1, none⟩ (.slice V.la V.last.length V.lc)).setCell ⟨w.heap.size + 1 + 1, 2, none⟩ (.slice V.ga V.given.length V.gc)).setCell ⟨w.heap.size + 1 + 1, 3, none⟩ (.slice V.ha V.heaps.length V.hc)).setCell ⟨w.heap.size + 1 + 1, 4, none⟩ (.slice V.ua V.used.length V.uc)).setCell ⟨w.heap.size + 1 + 1, 5, none⟩ (.slice V.wa V.waste.length V.wc)) = wf at *
        have hov := HOV.out.turn hTf (fun k e hk => by have := HGE.out k hk; have := (show k = w.heap.size + 1 + 1 from e); omega)
        have hff := hTf.blk HF6.out (fun e => by have : w.heap.size = w.heap.size + 1 + 1 := e; omega)
        have hbf := HB6.out.trans (hTf.below HB6.out.size (fun k e => by rw [show k = w.heap.size + 1 + 1 from e]; omega))
        have hnv : w.heap.size + 1 + 1 ∉ rowsOf V := fun hk => by have := HGE.out _ hk; omega
        refine ⟨?_, by simp [intOf]; omega⟩
        first
          | exact ⟨_, _, _, _, _, ⟨j + 1, V, (doD F U x).2, by omega, rfl, kf, hov, hnv, HVU.out, HA2.out, HTV.out, hff, hbf, kf.lt⟩, rfl, rfl, rfl, rfl, by simp⟩
          | exact ⟨j + 1, V, (doD F U x).2, by omega, by simp, kf, hov, hnv, HVU.out, HA2.out, HTV.out, hff, hbf, kf.lt⟩
          | trace_state
    · obtain rfl : j = l.length := by omega
      rw [List.take_length] at hall
      have hv : runD F S l = (U, l.length, 0) := by rw [HRV.out]; exact hall
      have HV := Lib.hid hv
      obtain ⟨t0, t1, t2, t3, t4, t5⟩ := sto_cells (S := T) kT
      have z0 := kT.frozen 0
      have z1 := kT.frozen 1
      have z2 := kT.frozen 2
      have z3 := kT.frozen 3
      have z4 := kT.frozen 4
      have z5 := kT.frozen 5
      have lE6 := kT.lt
      have HT6 := Lib.hid kT
      have HO6 := Lib.hid hoT
      have HB6 := Lib.hid hB
      have HTU := Lib.hid hTU
      clear hv hall kT hoT hB hTU kF hfT htot hlj
      go_wp2_with fail
      have kf : Blk ((((((wr.setCell ⟨w.heap.size + 1 + 1, 0, none⟩ (.int .i64 T.year)).setCell ⟨w.heap.size + 1 + 1, 1, none⟩ (.slice T.la T.last.length T.lc)).setCell ⟨w.heap.size + 1 + 1, 2, none⟩ (.slice T.ga T.given.length T.gc)).setCell ⟨w.heap.size + 1 + 1, 3, none⟩ (.slice T.ha T.heaps.length T.hc)).setCell ⟨w.heap.size + 1 + 1, 4, none⟩ (.slice T.ua T.used.length T.uc)).setCell ⟨w.heap.size + 1 + 1, 5, none⟩ (.slice T.wa T.waste.length T.wc)) (w.heap.size + 1 + 1) (stoC T) 45 := ((((((HT6.out.set 0 (.int .i64 T.year)).set 1 (.slice T.la T.last.length T.lc)).set 2 (.slice T.ga T.given.length T.gc)).set 3 (.slice T.ha T.heaps.length T.hc)).set 4 (.slice T.ua T.used.length T.uc)).set 5 (.slice T.wa T.waste.length T.wc))
      have hTf : Turn (fun k => k = w.heap.size + 1 + 1) wr ((((((wr.setCell ⟨w.heap.size + 1 + 1, 0, none⟩ (.int .i64 T.year)).setCell ⟨w.heap.size + 1 + 1, 1, none⟩ (.slice T.la T.last.length T.lc)).setCell ⟨w.heap.size + 1 + 1, 2, none⟩ (.slice T.ga T.given.length T.gc)).setCell ⟨w.heap.size + 1 + 1, 3, none⟩ (.slice T.ha T.heaps.length T.hc)).setCell ⟨w.heap.size + 1 + 1, 4, none⟩ (.slice T.ua T.used.length T.uc)).setCell ⟨w.heap.size + 1 + 1, 5, none⟩ (.slice T.wa T.waste.length T.wc)) := (((((((Turn.of_below (X := fun k => k = w.heap.size + 1 + 1) (Below.refl _ wr)).setCell (B := w.heap.size + 1 + 1) rfl 0 (.int .i64 T.year)).setCell (B := w.heap.size + 1 + 1) rfl 1 (.slice T.la T.last.length T.lc)).setCell (B := w.heap.size + 1 + 1) rfl 2 (.slice T.ga T.given.length T.gc)).setCell (B := w.heap.size + 1 + 1) rfl 3 (.slice T.ha T.heaps.length T.hc)).setCell (B := w.heap.size + 1 + 1) rfl 4 (.slice T.ua T.used.length T.uc)).setCell (B := w.heap.size + 1 + 1) rfl 5 (.slice T.wa T.waste.length T.wc))
      generalize ((((((wr.setCell ⟨w.heap.size + 1 + 1, 0, none⟩ (.int .i64 T.year)).setCell ⟨w.heap.size + 1 + 1, 1, none⟩ (.slice T.la T.last.length T.lc)).setCell ⟨w.heap.size + 1 + 1, 2, none⟩ (.slice T.ga T.given.length T.gc)).setCell ⟨w.heap.size + 1 + 1, 3, none⟩ (.slice T.ha T.heaps.length T.hc)).setCell ⟨w.heap.size + 1 + 1, 4, none⟩ (.slice T.ua T.used.length T.uc)).setCell ⟨w.heap.size + 1 + 1, 5, none⟩ (.slice T.wa T.waste.length T.wc)) = wf at *
      clear t0 t1 t2 t3 t4 t5 z0 z1 z2 z3 z4 z5
      obtain ⟨g0, g1, g2, g3, g4, g5⟩ := sto_cells (S := T) kf
      have ho2 := (HO6.out).turn hTf (fun k e hk => hET (by rw [← show k = w.heap.size + 1 + 1 from e]; exact hk))
      have hb2 := (HB6.out).trans (hTf.below (HB6.out).size (fun k e => by rw [show k = w.heap.size + 1 + 1 from e]; omega))
      refine bodyPost_ret (v := .tuple #[stoV T, .int .i64 (l.length : Nat), .int .i64 0]) (by simp [results, Try.results9, go_sem, g0, g1, g2, g3, g4, g5]) rfl ⟨⟨T, by rw [HV.out], ho2, by rw [HV.out]; exact HTU.out⟩, hb2⟩
end Go.Proofs.Ytghepojnimlafaa
