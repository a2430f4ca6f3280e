/- Do: the store behind a chore, or an error. -/
import Derived.Test.YtmnfapdfdpglgaaKD
import Derived.Test.YtmnfapdfdpglgaaKE
import Derived.Test.YtmnfapdfdpglgaaKF
import Derived.Test.YtmnfapdfdpglgaaKH
import Derived.Deep.RegionHeld3
import Derived.Deep.DeepCutAuto
set_option linter.unusedSimpArgs false
namespace Go.Proofs.Ytmnfapdfdpglgaa
open Go.RowKit

def emptyS : Sto := ⟨0, none, 0, [], none, 0, [], none, 0, [], none, 0, [], none, 0, []⟩
theorem empty_own (base : Nat) (w : World) : OwnSto base w emptyS :=
  ⟨World.ownsRow_nil _ _ _ _, World.ownsRow_nil _ _ _ _, World.ownsRow_nil _ _ _ _, fun h hh => (by cases hh), World.ownsRow_nil _ _ _ _, World.ownsRow_nil _ _ _ _, fun h hh => (by cases hh), (by simp [rowsOf, emptyS])⟩
/-- What Do returns: the store behind the chore, or an error and no store. -/
def DoSaid (F : Frm) (S : Sto) (a : Chr) (w : World) (e : Ending) (w' : World) : Prop :=
  (∃ T, e = .returned (.tuple #[stoV T, .int .i64 (doD F S a).1]) ∧ OwnSto w.heap.size w' T ∧ SameSto T (if (doD F S a).1 = 0 then (doD F S a).2 else emptyS)) ∧ Below w.heap.size w w'
theorem doD_step {F : Frm} {S : Sto} {a : Chr} (h : storeE F S = 0) : doD F S a = stepD F S a := by unfold doD stepD; rw [if_neg (by simp [h])]
theorem doD_err {F : Frm} {S : Sto} {a : Chr} (h : ¬ storeE F S = 0) : doD F S a = (storeE F S, S) := by unfold doD; rw [if_pos h]

set_option maxRecDepth 100000 in
set_option maxHeartbeats 8000000 in
theorem strawDo_any (F : Frm) (S : Sto) (a : Chr) (w : World) (hF : IsFarm w F) (hS : IsStore w S) (hfit : S.fit) (hnm : a.name.size ≤ maxLen) (hno : a.other.size ≤ maxLen) :
    Calls Try.prog 15 #[.agg #[.slice F.pa F.ps.length F.pc, .int .i64 F.dry], stoV S, .agg (chrC a)] w (DoSaid F S a w) := by
  have hmf : ∀ (fn : Fn) (first cap : Array Value) (w : World), (Instr.makeFunc fn first cap).run Try.prog w = .ok (.func fn first cap) w := fun _ _ _ _ => rfl
  have hcs := fun w' h1 h2 => checkStore_any F S w' h1 h2 hfit
  unfold stoV at hcs
  unfold stoV chrC
  have hb1 : Below w.heap.size w (((((w.alloc (.cells #[.slice F.pa F.ps.length F.pc, .int .i64 F.dry] 24)).alloc (.cells #[.int .i64 S.year, .slice S.la S.last.length S.lc, .slice S.ga S.given.length S.gc, .slice S.ha S.heaps.length S.hc, .slice S.ua S.used.length S.uc, .slice S.wa S.waste.length S.wc] 29)).alloc (.cells #[.int .i64 a.kind, .int .i64 a.plot, .int .i64 a.loads, .string a.name, .string a.other, .int .i64 a.days, .int .i64 a.per, .int .i64 a.rlo, .int .i64 a.rhi] 34)).alloc (.cells #[.int .i64 0, .slice none 0 0, .slice none 0 0, .slice none 0 0, .slice none 0 0, .slice none 0 0] 29)).alloc (.cells #[.int .i64 0] 38)) := (((((Below.refl _ w).alloc (Nat.le_refl _) _).alloc (by simp) _).alloc (by simp; omega) _).alloc (by simp; omega) _).alloc (by simp; omega) _
  have kF : Blk (((((w.alloc (.cells #[.slice F.pa F.ps.length F.pc, .int .i64 F.dry] 24)).alloc (.cells #[.int .i64 S.year, .slice S.la S.last.length S.lc, .slice S.ga S.given.length S.gc, .slice S.ha S.heaps.length S.hc, .slice S.ua S.used.length S.uc, .slice S.wa S.waste.length S.wc] 29)).alloc (.cells #[.int .i64 a.kind, .int .i64 a.plot, .int .i64 a.loads, .string a.name, .string a.other, .int .i64 a.days, .int .i64 a.per, .int .i64 a.rlo, .int .i64 a.rhi] 34)).alloc (.cells #[.int .i64 0, .slice none 0 0, .slice none 0 0, .slice none 0 0, .slice none 0 0, .slice none 0 0] 29)).alloc (.cells #[.int .i64 0] 38)) w.heap.size #[.slice F.pa F.ps.length F.pc, .int .i64 F.dry] 24 := ((((Blk.new w 24 #[.slice F.pa F.ps.length F.pc, .int .i64 F.dry]).alloc _).alloc _).alloc _).alloc _
  have kS : Blk (((((w.alloc (.cells #[.slice F.pa F.ps.length F.pc, .int .i64 F.dry] 24)).alloc (.cells #[.int .i64 S.year, .slice S.la S.last.length S.lc, .slice S.ga S.given.length S.gc, .slice S.ha S.heaps.length S.hc, .slice S.ua S.used.length S.uc, .slice S.wa S.waste.length S.wc] 29)).alloc (.cells #[.int .i64 a.kind, .int .i64 a.plot, .int .i64 a.loads, .string a.name, .string a.other, .int .i64 a.days, .int .i64 a.per, .int .i64 a.rlo, .int .i64 a.rhi] 34)).alloc (.cells #[.int .i64 0, .slice none 0 0, .slice none 0 0, .slice none 0 0, .slice none 0 0, .slice none 0 0] 29)).alloc (.cells #[.int .i64 0] 38)) (w.heap.size + 1) #[.int .i64 S.year, .slice S.la S.last.length S.lc, .slice S.ga S.given.length S.gc, .slice S.ha S.heaps.length S.hc, .slice S.ua S.used.length S.uc, .slice S.wa S.waste.length S.wc] 29 := by
    have := (((Blk.new (w.alloc (.cells #[.slice F.pa F.ps.length F.pc, .int .i64 F.dry] 24)) 29 #[.int .i64 S.year, .slice S.la S.last.length S.lc, .slice S.ga S.given.length S.gc, .slice S.ha S.heaps.length S.hc, .slice S.ua S.used.length S.uc, .slice S.wa S.waste.length S.wc]).alloc (.cells #[.int .i64 a.kind, .int .i64 a.plot, .int .i64 a.loads, .string a.name, .string a.other, .int .i64 a.days, .int .i64 a.per, .int .i64 a.rlo, .int .i64 a.rhi] 34)).alloc (.cells #[.int .i64 0, .slice none 0 0, .slice none 0 0, .slice none 0 0, .slice none 0 0, .slice none 0 0] 29)).alloc (.cells #[.int .i64 0] 38)
    simpa using this
  have kA : Blk (((((w.alloc (.cells #[.slice F.pa F.ps.length F.pc, .int .i64 F.dry] 24)).alloc (.cells #[.int .i64 S.year, .slice S.la S.last.length S.lc, .slice S.ga S.given.length S.gc, .slice S.ha S.heaps.length S.hc, .slice S.ua S.used.length S.uc, .slice S.wa S.waste.length S.wc] 29)).alloc (.cells #[.int .i64 a.kind, .int .i64 a.plot, .int .i64 a.loads, .string a.name, .string a.other, .int .i64 a.days, .int .i64 a.per, .int .i64 a.rlo, .int .i64 a.rhi] 34)).alloc (.cells #[.int .i64 0, .slice none 0 0, .slice none 0 0, .slice none 0 0, .slice none 0 0, .slice none 0 0] 29)).alloc (.cells #[.int .i64 0] 38)) (w.heap.size + 1 + 1) #[.int .i64 a.kind, .int .i64 a.plot, .int .i64 a.loads, .string a.name, .string a.other, .int .i64 a.days, .int .i64 a.per, .int .i64 a.rlo, .int .i64 a.rhi] 34 := by
    have := ((Blk.new ((w.alloc (.cells #[.slice F.pa F.ps.length F.pc, .int .i64 F.dry] 24)).alloc (.cells #[.int .i64 S.year, .slice S.la S.last.length S.lc, .slice S.ga S.given.length S.gc, .slice S.ha S.heaps.length S.hc, .slice S.ua S.used.length S.uc, .slice S.wa S.waste.length S.wc] 29)) 34 #[.int .i64 a.kind, .int .i64 a.plot, .int .i64 a.loads, .string a.name, .string a.other, .int .i64 a.days, .int .i64 a.per, .int .i64 a.rlo, .int .i64 a.rhi]).alloc (.cells #[.int .i64 0, .slice none 0 0, .slice none 0 0, .slice none 0 0, .slice none 0 0, .slice none 0 0] 29)).alloc (.cells #[.int .i64 0] 38)
    simpa using this
  have k1 : Blk (((((w.alloc (.cells #[.slice F.pa F.ps.length F.pc, .int .i64 F.dry] 24)).alloc (.cells #[.int .i64 S.year, .slice S.la S.last.length S.lc, .slice S.ga S.given.length S.gc, .slice S.ha S.heaps.length S.hc, .slice S.ua S.used.length S.uc, .slice S.wa S.waste.length S.wc] 29)).alloc (.cells #[.int .i64 a.kind, .int .i64 a.plot, .int .i64 a.loads, .string a.name, .string a.other, .int .i64 a.days, .int .i64 a.per, .int .i64 a.rlo, .int .i64 a.rhi] 34)).alloc (.cells #[.int .i64 0, .slice none 0 0, .slice none 0 0, .slice none 0 0, .slice none 0 0, .slice none 0 0] 29)).alloc (.cells #[.int .i64 0] 38)) (w.heap.size + 1 + 1 + 1) zeroS 29 := by
    have := (Blk.new (((w.alloc (.cells #[.slice F.pa F.ps.length F.pc, .int .i64 F.dry] 24)).alloc (.cells #[.int .i64 S.year, .slice S.la S.last.length S.lc, .slice S.ga S.given.length S.gc, .slice S.ha S.heaps.length S.hc, .slice S.ua S.used.length S.uc, .slice S.wa S.waste.length S.wc] 29)).alloc (.cells #[.int .i64 a.kind, .int .i64 a.plot, .int .i64 a.loads, .string a.name, .string a.other, .int .i64 a.days, .int .i64 a.per, .int .i64 a.rlo, .int .i64 a.rhi] 34)) 29 zeroS).alloc (.cells #[.int .i64 0] 38)
    simpa using this
  have k2 : Blk (((((w.alloc (.cells #[.slice F.pa F.ps.length F.pc, .int .i64 F.dry] 24)).alloc (.cells #[.int .i64 S.year, .slice S.la S.last.length S.lc, .slice S.ga S.given.length S.gc, .slice S.ha S.heaps.length S.hc, .slice S.ua S.used.length S.uc, .slice S.wa S.waste.length S.wc] 29)).alloc (.cells #[.int .i64 a.kind, .int .i64 a.plot, .int .i64 a.loads, .string a.name, .string a.other, .int .i64 a.days, .int .i64 a.per, .int .i64 a.rlo, .int .i64 a.rhi] 34)).alloc (.cells #[.int .i64 0, .slice none 0 0, .slice none 0 0, .slice none 0 0, .slice none 0 0, .slice none 0 0] 29)).alloc (.cells #[.int .i64 0] 38)) (w.heap.size + 1 + 1 + 1 + 1) #[.int .i64 0] 38 := by
    have := Blk.new ((((w.alloc (.cells #[.slice F.pa F.ps.length F.pc, .int .i64 F.dry] 24)).alloc (.cells #[.int .i64 S.year, .slice S.la S.last.length S.lc, .slice S.ga S.given.length S.gc, .slice S.ha S.heaps.length S.hc, .slice S.ua S.used.length S.uc, .slice S.wa S.waste.length S.wc] 29)).alloc (.cells #[.int .i64 a.kind, .int .i64 a.plot, .int .i64 a.loads, .string a.name, .string a.other, .int .i64 a.days, .int .i64 a.per, .int .i64 a.rlo, .int .i64 a.rhi] 34)).alloc (.cells #[.int .i64 0, .slice none 0 0, .slice none 0 0, .slice none 0 0, .slice none 0 0, .slice none 0 0] 29)) 38 #[.int .i64 0]
    simpa using this
  have HF := Lib.hid hF
  have HS := Lib.hid hS
  have HFIT := Lib.hid hfit
  have HCS := Lib.hid hcs
  clear hF hS hfit hcs
  go_enter_defers Try.func15, Try.ntmps15
  go_upto_region 1 with fail
  generalize (((((w.alloc (.cells #[.slice F.pa F.ps.length F.pc, .int .i64 F.dry] 24)).alloc (.cells #[.int .i64 S.year, .slice S.la S.last.length S.lc, .slice S.ga S.given.length S.gc, .slice S.ha S.heaps.length S.hc, .slice S.ua S.used.length S.uc, .slice S.wa S.waste.length S.wc] 29)).alloc (.cells #[.int .i64 a.kind, .int .i64 a.plot, .int .i64 a.loads, .string a.name, .string a.other, .int .i64 a.days, .int .i64 a.per, .int .i64 a.rlo, .int .i64 a.rhi] 34)).alloc (.cells #[.int .i64 0, .slice none 0 0, .slice none 0 0, .slice none 0 0, .slice none 0 0, .slice none 0 0] 29)).alloc (.cells #[.int .i64 0] 38)) = w1 at *
  have hn1 := k2.lt
  have f0 : w1.cell? ⟨w.heap.size, 0, none⟩ = some (.slice F.pa F.ps.length F.pc) := kF.cell 0
  have f1 : w1.cell? ⟨w.heap.size, 1, none⟩ = some (.int .i64 F.dry) := kF.cell 1
  obtain ⟨s0, s1, s2, s3, s4, s5⟩ := sto_cells kS
  have lF := kF.lt
  have lS := kS.lt
  have HB1 := Lib.hid hb1
  have KF := Lib.hid kF
  have KS := Lib.hid kS
  have KA := Lib.hid kA
  have K1 := Lib.hid k1
  have K2 := Lib.hid k2
  clear hb1 kF kS kA k1 k2
  go_wp2_with fail
  refine (HCS.out _ (HF.out.below HB1.out) (HS.out.below HB1.out)).mono ?_
  rintro e w2 ⟨rfl, hb2⟩
  have HB2 := Lib.hid (HB1.out.trans (hb2.mono HB1.out.size))
  have KF2 := Lib.hid (KF.out.belowS hb2)
  have KS2 := Lib.hid (KS.out.belowS hb2)
  have KA2 := Lib.hid (KA.out.belowS hb2)
  have K12 := Lib.hid (K1.out.belowS hb2)
  have K22 := Lib.hid (K2.out.belowS hb2)
  have hn2 := Nat.lt_of_lt_of_le hn1 hb2.size
  clear f0 f1 s0 s1 s2 s3 s4 s5 lF lS hb2
  by_cases hE : storeE F S = 0
  rotate_left
  · have HV := Lib.hid (doD_err (a := a) hE)
    have HE := Lib.hid hE
    have qE : (storeE F S == 0) = false := by simp [hE]
    have qE' : (storeE F S != 0) = true := by simp [hE]
    generalize hv : storeE F S = v at *
    have HVV := Lib.hid hv
    clear hv hE
    obtain ⟨t0, t1, t2, t3, t4, t5⟩ := sto_cells (S := emptyS) (show Blk w2 (w.heap.size + 1 + 1 + 1) (stoC emptyS) 29 from K12.out)
    have t6 : w2.cell? ⟨w.heap.size + 1 + 1 + 1 + 1, 0, none⟩ = some (.int .i64 0) := K22.out.cell 0
    have l1 := K12.out.lt
    have z0 := K12.out.frozen 0
    have z1 := K12.out.frozen 1
    have z2 := K12.out.frozen 2
    have z3 := K12.out.frozen 3
    have z4 := K12.out.frozen 4
    have z5 := K12.out.frozen 5
    have z6 := K22.out.frozen 0
    simp only [emptyS, List.length_nil] at t0 t1 t2 t3 t4 t5
    go_wp2_with fail
    have kf1 : Blk (((((((w2.setCell ⟨w.heap.size + 1 + 1 + 1, 0, none⟩ (.int .i64 0)).setCell ⟨w.heap.size + 1 + 1 + 1, 1, none⟩ (.slice none 0 0)).setCell ⟨w.heap.size + 1 + 1 + 1, 2, none⟩ (.slice none 0 0)).setCell ⟨w.heap.size + 1 + 1 + 1, 3, none⟩ (.slice none 0 0)).setCell ⟨w.heap.size + 1 + 1 + 1, 4, none⟩ (.slice none 0 0)).setCell ⟨w.heap.size + 1 + 1 + 1, 5, none⟩ (.slice none 0 0)).setCell ⟨w.heap.size + 1 + 1 + 1 + 1, 0, none⟩ (.int .i64 v)) (w.heap.size + 1 + 1 + 1) zeroS 29 := ((((((K12.out.set 0 (.int .i64 0)).set 1 (.slice none 0 0)).set 2 (.slice none 0 0)).set 3 (.slice none 0 0)).set 4 (.slice none 0 0)).set 5 (.slice none 0 0)).other (show w.heap.size + 1 + 1 + 1 ≠ w.heap.size + 1 + 1 + 1 + 1 by omega) (i := 0) (.int .i64 v)
    have kf2 : Blk (((((((w2.setCell ⟨w.heap.size + 1 + 1 + 1, 0, none⟩ (.int .i64 0)).setCell ⟨w.heap.size + 1 + 1 + 1, 1, none⟩ (.slice none 0 0)).setCell ⟨w.heap.size + 1 + 1 + 1, 2, none⟩ (.slice none 0 0)).setCell ⟨w.heap.size + 1 + 1 + 1, 3, none⟩ (.slice none 0 0)).setCell ⟨w.heap.size + 1 + 1 + 1, 4, none⟩ (.slice none 0 0)).setCell ⟨w.heap.size + 1 + 1 + 1, 5, none⟩ (.slice none 0 0)).setCell ⟨w.heap.size + 1 + 1 + 1 + 1, 0, none⟩ (.int .i64 v)) (w.heap.size + 1 + 1 + 1 + 1) #[.int .i64 v] 38 := (((((((K22.out.other (show w.heap.size + 1 + 1 + 1 + 1 ≠ w.heap.size + 1 + 1 + 1 by omega) (i := 0) (.int .i64 0)).other (show w.heap.size + 1 + 1 + 1 + 1 ≠ w.heap.size + 1 + 1 + 1 by omega) (i := 1) (.slice none 0 0)).other (show w.heap.size + 1 + 1 + 1 + 1 ≠ w.heap.size + 1 + 1 + 1 by omega) (i := 2) (.slice none 0 0)).other (show w.heap.size + 1 + 1 + 1 + 1 ≠ w.heap.size + 1 + 1 + 1 by omega) (i := 3) (.slice none 0 0)).other (show w.heap.size + 1 + 1 + 1 + 1 ≠ w.heap.size + 1 + 1 + 1 by omega) (i := 4) (.slice none 0 0)).other (show w.heap.size + 1 + 1 + 1 + 1 ≠ w.heap.size + 1 + 1 + 1 by omega) (i := 5) (.slice none 0 0))).set 0 (.int .i64 v)
    have hTf : Turn (fun k => k = w.heap.size + 1 + 1 + 1 ∨ k = w.heap.size + 1 + 1 + 1 + 1) w2 (((((((w2.setCell ⟨w.heap.size + 1 + 1 + 1, 0, none⟩ (.int .i64 0)).setCell ⟨w.heap.size + 1 + 1 + 1, 1, none⟩ (.slice none 0 0)).setCell ⟨w.heap.size + 1 + 1 + 1, 2, none⟩ (.slice none 0 0)).setCell ⟨w.heap.size + 1 + 1 + 1, 3, none⟩ (.slice none 0 0)).setCell ⟨w.heap.size + 1 + 1 + 1, 4, none⟩ (.slice none 0 0)).setCell ⟨w.heap.size + 1 + 1 + 1, 5, none⟩ (.slice none 0 0)).setCell ⟨w.heap.size + 1 + 1 + 1 + 1, 0, none⟩ (.int .i64 v)) := ((((((((Turn.of_below (X := fun k => k = w.heap.size + 1 + 1 + 1 ∨ k = w.heap.size + 1 + 1 + 1 + 1) (Below.refl _ w2)).setCell (B := w.heap.size + 1 + 1 + 1) (.inl rfl) 0 (.int .i64 0)).setCell (B := w.heap.size + 1 + 1 + 1) (.inl rfl) 1 (.slice none 0 0)).setCell (B := w.heap.size + 1 + 1 + 1) (.inl rfl) 2 (.slice none 0 0)).setCell (B := w.heap.size + 1 + 1 + 1) (.inl rfl) 3 (.slice none 0 0)).setCell (B := w.heap.size + 1 + 1 + 1) (.inl rfl) 4 (.slice none 0 0)).setCell (B := w.heap.size + 1 + 1 + 1) (.inl rfl) 5 (.slice none 0 0)).setCell (B := w.heap.size + 1 + 1 + 1 + 1) (.inr rfl) 0 (.int .i64 v))
    generalize (((((((w2.setCell ⟨w.heap.size + 1 + 1 + 1, 0, none⟩ (.int .i64 0)).setCell ⟨w.heap.size + 1 + 1 + 1, 1, none⟩ (.slice none 0 0)).setCell ⟨w.heap.size + 1 + 1 + 1, 2, none⟩ (.slice none 0 0)).setCell ⟨w.heap.size + 1 + 1 + 1, 3, none⟩ (.slice none 0 0)).setCell ⟨w.heap.size + 1 + 1 + 1, 4, none⟩ (.slice none 0 0)).setCell ⟨w.heap.size + 1 + 1 + 1, 5, none⟩ (.slice none 0 0)).setCell ⟨w.heap.size + 1 + 1 + 1 + 1, 0, none⟩ (.int .i64 v)) = wf at *
    clear t0 t1 t2 t3 t4 t5 t6 z0 z1 z2 z3 z4 z5 z6
    have g0 := kf1.cell 0
    have g1 := kf1.cell 1
    have g2 := kf1.cell 2
    have g3 := kf1.cell 3
    have g4 := kf1.cell 4
    have g5 := kf1.cell 5
    have g6 := kf2.cell 0
    simp only [List.getElem?_toArray, List.getElem?_cons_zero, List.getElem?_cons_succ] at g0 g1 g2 g3 g4 g5 g6
    have hfin : DoSaid F S a w (.returned (.tuple #[.agg #[.int .i64 0, .slice none 0 0, .slice none 0 0, .slice none 0 0, .slice none 0 0, .slice none 0 0], .int .i64 v])) wf := by
      refine ⟨⟨emptyS, by rw [HV.out]; rfl, empty_own _ _, by rw [HV.out, if_neg HE.out]; exact SameSto.refl _⟩, HB2.out.trans (hTf.below HB2.out.size (fun k e => by rcases e with rfl | rfl <;> omega))⟩
    simp [bodyPostD, Leaves, settle, results, Try.results15, go_sem, g0, g1, g2, g3, g4, g5, g6]
    exact hfin
  have HV := Lib.hid (doD_step (a := a) hE)
  have qE : (storeE F S == 0) = true := by simp [hE]
  have qE' : (storeE F S != 0) = false := by simp [hE]
  have HE := Lib.hid hE
  rw [hE]
  clear hE
  have hyr := years_ok HE.out
  obtain ⟨hs1, hs2, _⟩ := store_ok HE.out
  have hcp : ∀ w', Below w2.heap.size w2 w' → Calls Try.prog 32 #[.agg #[.int .i64 S.year, .slice S.la S.last.length S.lc, .slice S.ga S.given.length S.gc, .slice S.ha S.heaps.length S.hc, .slice S.ua S.used.length S.uc, .slice S.wa S.waste.length S.wc]] w' fun e w'' => (∃ T, e = .returned (stoV T) ∧ OwnSto w'.heap.size w'' T ∧ SameSto T S) ∧ Below w'.heap.size w' w'' :=
    fun w' hb => copyStore_any S w' (HS.out.below (HB2.out.trans (hb.mono HB2.out.size))) HFIT.out (by omega) (by omega)
  have hstep : ∀ w', Below w2.heap.size w2 w' → (fun w' : World => Below w2.heap.size w2 w' ∧ (w'.cell? ⟨w.heap.size, 0, none⟩ = some (.slice F.pa F.ps.length F.pc) ∧ w'.cell? ⟨w.heap.size, 1, none⟩ = some (.int .i64 F.dry) ∧ w'.cell? ⟨w.heap.size + 1, 0, none⟩ = some (.int .i64 S.year) ∧ w'.cell? ⟨w.heap.size + 1, 1, none⟩ = some (.slice S.la S.last.length S.lc) ∧ w'.cell? ⟨w.heap.size + 1, 2, none⟩ = some (.slice S.ga S.given.length S.gc) ∧ w'.cell? ⟨w.heap.size + 1, 3, none⟩ = some (.slice S.ha S.heaps.length S.hc) ∧ w'.cell? ⟨w.heap.size + 1, 4, none⟩ = some (.slice S.ua S.used.length S.uc) ∧ w'.cell? ⟨w.heap.size + 1, 5, none⟩ = some (.slice S.wa S.waste.length S.wc))) w' := fun w' hb => by
    have k0 := KF2.out.belowS hb
    have k1 := KS2.out.belowS hb
    exact ⟨hb, k0.cell 0, k0.cell 1, k1.cell 0, k1.cell 1, k1.cell 2, k1.cell 3, k1.cell 4, k1.cell 5⟩
  have HCP := Lib.hid hcp
  have HST := Lib.hid hstep
  have hx := hstep w2.drew ((Below.refl _ w2).drew)
  clear hcp hstep hyr hs1 hs2
  go_upto_region 5 with fail
  go_cut [9] from 18 to 21 (fun b wx => ∃ (B : Nat) (T : Sto), b = .pointer (some ⟨B, 0, none⟩) ∧ Hand F w2.heap.size B wx T T ∧ SameSto T S ∧ Below w2.heap.size w2 wx)
  case first =>
    refine wp_region_noPanic ?_
    refine wp_region_E 5 (fun w' : World => Below w2.heap.size w2 w' ∧ (w'.cell? ⟨w.heap.size, 0, none⟩ = some (.slice F.pa F.ps.length F.pc) ∧ w'.cell? ⟨w.heap.size, 1, none⟩ = some (.int .i64 F.dry) ∧ w'.cell? ⟨w.heap.size + 1, 0, none⟩ = some (.int .i64 S.year) ∧ w'.cell? ⟨w.heap.size + 1, 1, none⟩ = some (.slice S.la S.last.length S.lc) ∧ w'.cell? ⟨w.heap.size + 1, 2, none⟩ = some (.slice S.ga S.given.length S.gc) ∧ w'.cell? ⟨w.heap.size + 1, 3, none⟩ = some (.slice S.ha S.heaps.length S.hc) ∧ w'.cell? ⟨w.heap.size + 1, 4, none⟩ = some (.slice S.ua S.used.length S.uc) ∧ w'.cell? ⟨w.heap.size + 1, 5, none⟩ = some (.slice S.wa S.waste.length S.wc))) (by kernel_rfl) ?_
    refine E_take (i := 0) (oi := _) (v := ?v63) rfl (by kernel_rfl) (by kernel_rfl) (by kernel_rfl) (by kernel_rfl) (fun _ _ _ h => h) hx (Or.inl ⟨by rfl, ?y63⟩) ?r63
    case y63 => (intro w' hSw; (try dsimp only at hSw); go_simp; try with_reducible rfl)
    try simp only [Act.put, List.getElem_toArray, List.getElem_cons_zero, List.getElem_cons_succ, List.setIfInBounds_toArray, List.set_cons_zero, List.set_cons_succ]
    refine E_take (i := 1) (oi := _) (v := ?v64) rfl (by kernel_rfl) (by kernel_rfl) (by kernel_rfl) (by kernel_rfl) (fun _ _ _ h => h) hx (Or.inl ⟨by rfl, ?y64⟩) ?r64
    case y64 => (intro w' hSw; (try dsimp only at hSw); go_simp; try with_reducible rfl)
    try simp only [Act.put, List.getElem_toArray, List.getElem_cons_zero, List.getElem_cons_succ, List.setIfInBounds_toArray, List.set_cons_zero, List.set_cons_succ]
    refine E_step2 (i := 2) (i' := 4) (o := _) (o' := _) (by kernel_rfl) rfl rfl (fun K hK => ?_) (fun K hK => ?_)
    · go_simp
      refine (HCP.out _ hx.1).mono ?_
      rintro r w5 ⟨⟨T, rfl, hoT, hsT⟩, hb5⟩
      dsimp only
      have hb5' : Below w2.heap.size w2 w5 := hx.1.trans (hb5.mono hx.1.size)
      have hx5 := HST.out w5 hb5'
      refine hK.out _ _ (fun _ => hx5) ?_
      clear hK K
      try simp only [Act.put, List.getElem_toArray, List.getElem_cons_zero, List.getElem_cons_succ, List.setIfInBounds_toArray, List.set_cons_zero, List.set_cons_succ]
      refine E_take (i := 3) (oi := _) (v := ?v62) rfl (by kernel_rfl) (by kernel_rfl) (by kernel_rfl) (by kernel_rfl) (fun _ _ _ h => h) hx5 (Or.inl ⟨by rfl, ?y62⟩) ?r62
      case y62 => (intro w' hSw; (try dsimp only at hSw); go_simp; try with_reducible rfl)
      try simp only [Act.put, List.getElem_toArray, List.getElem_cons_zero, List.getElem_cons_succ, List.setIfInBounds_toArray, List.set_cons_zero, List.set_cons_succ]
      refine E_step (i := 4) (o := _) (by kernel_rfl) rfl (fun K hK => ?_)
      go_simp
      have hbB : Below w2.heap.size w2 (w5.alloc (.cells #[.slice none 0 0, .int .i64 0, .int .i64 0, .slice none 0 0, .slice none 0 0, .slice none 0 0, .slice none 0 0, .slice none 0 0] 87)) := hb5'.alloc hb5'.size _
      refine hK.out _ _ (fun _ => HST.out _ hbB) ?_
      clear hK K
      try simp only [Act.put, List.getElem_toArray, List.getElem_cons_zero, List.getElem_cons_succ, List.setIfInBounds_toArray, List.set_cons_zero, List.set_cons_succ]
      refine E_step (i := 5) (o := _) (by kernel_rfl) rfl (fun K hK => ?_)
      go_simp
      refine hK.out _ _ (fun h => absurd rfl h) ?_
      clear hK K
      try simp only [Act.put, List.getElem_toArray, List.getElem_cons_zero, List.getElem_cons_succ, List.setIfInBounds_toArray, List.set_cons_zero, List.set_cons_succ]
      refine E_done (by kernel_rfl) ?_ _
      refine NoPanic.normal ?_
      have kB := Blk.new w5 87 (handC F T)
      have hbF : Below w2.heap.size w2 (w5.alloc (.cells (handC F T) 87)) := hb5'.alloc hb5'.size _
      have hH : Hand F w2.heap.size w5.heap.size (w5.alloc (.cells (handC F T) 87)) T T :=
        ⟨kB, (hoT.mono (show w2.heap.size ≤ w2.drew.heap.size from Nat.le_refl _)).below ((Below.refl _ w5).alloc (Nat.le_refl _) _), fun hk => Nat.lt_irrefl _ (hoT.ge _ hk).2, hb5'.size, rfl, rfl, rfl⟩
      have HHX := Lib.hid hH
      have HBX := Lib.hid hbF
      have HSX := Lib.hid hsT
      clear hx hx5 hb5 hb5' hbB hoT hsT kB hH hbF
      go_wp2_with fail
      go_meet
      exact ⟨_, T, rfl, HHX.out, HSX.out, HBX.out⟩
    · go_simp
      have hbB : Below w2.heap.size w2 (w2.drew.alloc (.cells #[.slice none 0 0, .int .i64 0, .int .i64 0, .slice none 0 0, .slice none 0 0, .slice none 0 0, .slice none 0 0, .slice none 0 0] 87)) := hx.1.alloc hx.1.size _
      have kB := Blk.new w2.drew 87 #[.slice none 0 0, .int .i64 0, .int .i64 0, .slice none 0 0, .slice none 0 0, .slice none 0 0, .slice none 0 0, .slice none 0 0]
      refine hK.out _ _ (fun _ => HST.out _ hbB) ?_
      clear hK K
      try simp only [Act.put, List.getElem_toArray, List.getElem_cons_zero, List.getElem_cons_succ, List.setIfInBounds_toArray, List.set_cons_zero, List.set_cons_succ]
      refine E_step (i := 2) (o := _) (by kernel_rfl) rfl (fun K hK => ?_)
      go_simp
      refine (HCP.out _ hbB).mono ?_
      rintro r w5 ⟨⟨T, rfl, hoT, hsT⟩, hb5⟩
      dsimp only
      have hb5' : Below w2.heap.size w2 w5 := hbB.trans (hb5.mono hbB.size)
      have kB5 := kB.belowS hb5
      have hx5 := HST.out w5 hb5'
      refine hK.out _ _ (fun _ => hx5) ?_
      clear hK K
      try simp only [Act.put, List.getElem_toArray, List.getElem_cons_zero, List.getElem_cons_succ, List.setIfInBounds_toArray, List.set_cons_zero, List.set_cons_succ]
      refine E_take (i := 3) (oi := _) (v := ?v65) rfl (by kernel_rfl) (by kernel_rfl) (by kernel_rfl) (by kernel_rfl) (fun _ _ _ h => h) hx5 (Or.inl ⟨by rfl, ?y65⟩) ?r65
      case y65 => (intro w' hSw; (try dsimp only at hSw); go_simp; try with_reducible rfl)
      try simp only [Act.put, List.getElem_toArray, List.getElem_cons_zero, List.getElem_cons_succ, List.setIfInBounds_toArray, List.set_cons_zero, List.set_cons_succ]
      obtain ⟨q0, q1, q2, q3, q4, q5, q6, q7⟩ := (show w5.cell? ⟨w2.heap.size, 0, none⟩ = some (.slice none 0 0) ∧ w5.cell? ⟨w2.heap.size, 1, none⟩ = some (.int .i64 0) ∧ w5.cell? ⟨w2.heap.size, 2, none⟩ = some (.int .i64 0) ∧ w5.cell? ⟨w2.heap.size, 3, none⟩ = some (.slice none 0 0) ∧ w5.cell? ⟨w2.heap.size, 4, none⟩ = some (.slice none 0 0) ∧ w5.cell? ⟨w2.heap.size, 5, none⟩ = some (.slice none 0 0) ∧ w5.cell? ⟨w2.heap.size, 6, none⟩ = some (.slice none 0 0) ∧ w5.cell? ⟨w2.heap.size, 7, none⟩ = some (.slice none 0 0) from ⟨kB5.cell 0, kB5.cell 1, kB5.cell 2, kB5.cell 3, kB5.cell 4, kB5.cell 5, kB5.cell 6, kB5.cell 7⟩)
      obtain ⟨r0, r1, r2, r3, r4, r5, r6, r7⟩ := (show w5.frozen? ⟨w2.heap.size, 0, none⟩ = false ∧ w5.frozen? ⟨w2.heap.size, 1, none⟩ = false ∧ w5.frozen? ⟨w2.heap.size, 2, none⟩ = false ∧ w5.frozen? ⟨w2.heap.size, 3, none⟩ = false ∧ w5.frozen? ⟨w2.heap.size, 4, none⟩ = false ∧ w5.frozen? ⟨w2.heap.size, 5, none⟩ = false ∧ w5.frozen? ⟨w2.heap.size, 6, none⟩ = false ∧ w5.frozen? ⟨w2.heap.size, 7, none⟩ = false from ⟨kB5.frozen 0, kB5.frozen 1, kB5.frozen 2, kB5.frozen 3, kB5.frozen 4, kB5.frozen 5, kB5.frozen 6, kB5.frozen 7⟩)
      refine E_step (i := 5) (o := _) (by kernel_rfl) rfl (fun K hK => ?_)
      go_simp
      refine hK.out _ _ (fun h => absurd rfl h) ?_
      clear hK K
      try simp only [Act.put, List.getElem_toArray, List.getElem_cons_zero, List.getElem_cons_succ, List.setIfInBounds_toArray, List.set_cons_zero, List.set_cons_succ]
      refine E_done (by kernel_rfl) ?_ _
      refine NoPanic.normal ?_
      have kF9 : Blk ((((((((w5.setCell ⟨w2.heap.size, 0, none⟩ (.slice F.pa F.ps.length F.pc)).setCell ⟨w2.heap.size, 1, none⟩ (.int .i64 F.dry)).setCell ⟨w2.heap.size, 2, none⟩ (.int .i64 T.year)).setCell ⟨w2.heap.size, 3, none⟩ (.slice T.la T.last.length T.lc)).setCell ⟨w2.heap.size, 4, none⟩ (.slice T.ga T.given.length T.gc)).setCell ⟨w2.heap.size, 5, none⟩ (.slice T.ha T.heaps.length T.hc)).setCell ⟨w2.heap.size, 6, none⟩ (.slice T.ua T.used.length T.uc)).setCell ⟨w2.heap.size, 7, none⟩ (.slice T.wa T.waste.length T.wc)) w2.heap.size (handC F T) 87 := ((((((((kB5.set 0 (.slice F.pa F.ps.length F.pc)).set 1 (.int .i64 F.dry)).set 2 (.int .i64 T.year)).set 3 (.slice T.la T.last.length T.lc)).set 4 (.slice T.ga T.given.length T.gc)).set 5 (.slice T.ha T.heaps.length T.hc)).set 6 (.slice T.ua T.used.length T.uc)).set 7 (.slice T.wa T.waste.length T.wc))
      have hT9 : Turn (fun k => k = w2.heap.size) w5 ((((((((w5.setCell ⟨w2.heap.size, 0, none⟩ (.slice F.pa F.ps.length F.pc)).setCell ⟨w2.heap.size, 1, none⟩ (.int .i64 F.dry)).setCell ⟨w2.heap.size, 2, none⟩ (.int .i64 T.year)).setCell ⟨w2.heap.size, 3, none⟩ (.slice T.la T.last.length T.lc)).setCell ⟨w2.heap.size, 4, none⟩ (.slice T.ga T.given.length T.gc)).setCell ⟨w2.heap.size, 5, none⟩ (.slice T.ha T.heaps.length T.hc)).setCell ⟨w2.heap.size, 6, none⟩ (.slice T.ua T.used.length T.uc)).setCell ⟨w2.heap.size, 7, none⟩ (.slice T.wa T.waste.length T.wc)) := (((((((((Turn.of_below (X := fun k => k = w2.heap.size) (Below.refl _ w5)).setCell (B := w2.heap.size) rfl 0 (.slice F.pa F.ps.length F.pc)).setCell (B := w2.heap.size) rfl 1 (.int .i64 F.dry)).setCell (B := w2.heap.size) rfl 2 (.int .i64 T.year)).setCell (B := w2.heap.size) rfl 3 (.slice T.la T.last.length T.lc)).setCell (B := w2.heap.size) rfl 4 (.slice T.ga T.given.length T.gc)).setCell (B := w2.heap.size) rfl 5 (.slice T.ha T.heaps.length T.hc)).setCell (B := w2.heap.size) rfl 6 (.slice T.ua T.used.length T.uc)).setCell (B := w2.heap.size) rfl 7 (.slice T.wa T.waste.length T.wc))
      have hbF : Below w2.heap.size w2 ((((((((w5.setCell ⟨w2.heap.size, 0, none⟩ (.slice F.pa F.ps.length F.pc)).setCell ⟨w2.heap.size, 1, none⟩ (.int .i64 F.dry)).setCell ⟨w2.heap.size, 2, none⟩ (.int .i64 T.year)).setCell ⟨w2.heap.size, 3, none⟩ (.slice T.la T.last.length T.lc)).setCell ⟨w2.heap.size, 4, none⟩ (.slice T.ga T.given.length T.gc)).setCell ⟨w2.heap.size, 5, none⟩ (.slice T.ha T.heaps.length T.hc)).setCell ⟨w2.heap.size, 6, none⟩ (.slice T.ua T.used.length T.uc)).setCell ⟨w2.heap.size, 7, none⟩ (.slice T.wa T.waste.length T.wc)) := ((((((((hb5'.setCell (p := ⟨w2.heap.size, 0, none⟩) (Nat.le_refl _) (.slice F.pa F.ps.length F.pc)).setCell (p := ⟨w2.heap.size, 1, none⟩) (Nat.le_refl _) (.int .i64 F.dry)).setCell (p := ⟨w2.heap.size, 2, none⟩) (Nat.le_refl _) (.int .i64 T.year)).setCell (p := ⟨w2.heap.size, 3, none⟩) (Nat.le_refl _) (.slice T.la T.last.length T.lc)).setCell (p := ⟨w2.heap.size, 4, none⟩) (Nat.le_refl _) (.slice T.ga T.given.length T.gc)).setCell (p := ⟨w2.heap.size, 5, none⟩) (Nat.le_refl _) (.slice T.ha T.heaps.length T.hc)).setCell (p := ⟨w2.heap.size, 6, none⟩) (Nat.le_refl _) (.slice T.ua T.used.length T.uc)).setCell (p := ⟨w2.heap.size, 7, none⟩) (Nat.le_refl _) (.slice T.wa T.waste.length T.wc))
      generalize ((((((((w5.setCell ⟨w2.heap.size, 0, none⟩ (.slice F.pa F.ps.length F.pc)).setCell ⟨w2.heap.size, 1, none⟩ (.int .i64 F.dry)).setCell ⟨w2.heap.size, 2, none⟩ (.int .i64 T.year)).setCell ⟨w2.heap.size, 3, none⟩ (.slice T.la T.last.length T.lc)).setCell ⟨w2.heap.size, 4, none⟩ (.slice T.ga T.given.length T.gc)).setCell ⟨w2.heap.size, 5, none⟩ (.slice T.ha T.heaps.length T.hc)).setCell ⟨w2.heap.size, 6, none⟩ (.slice T.ua T.used.length T.uc)).setCell ⟨w2.heap.size, 7, none⟩ (.slice T.wa T.waste.length T.wc)) = w9 at *
      have hge : ∀ k ∈ rowsOf T, w2.heap.size + 1 ≤ k := fun k hk => by have := (hoT.ge k hk).1; rw [World.size_alloc] at this; exact this
      have hH : Hand F w2.heap.size w2.heap.size w9 T T :=
        ⟨kF9, (hoT.mono (by rw [World.size_alloc]; exact Nat.le_succ _)).turn hT9 (fun k e hk => by have := hge k hk; have := (show k = w2.heap.size from e); omega), fun hk => by have := hge _ hk; omega, Nat.le_refl _, rfl, rfl, rfl⟩
      have HHX := Lib.hid hH
      have HBX := Lib.hid hbF
      have HSX := Lib.hid hsT
      clear hx hx5 hb5 hb5' hbB hoT hsT kB kB5 hH hbF hT9 kF9 hge q0 q1 q2 q3 q4 q5 q6 q7 r0 r1 r2 r3 r4 r5 r6 r7
      go_wp2_with fail
      go_meet
      exact ⟨_, T, rfl, HHX.out, HSX.out, HBX.out⟩
  case rest =>
  obtain ⟨B, T, rfl, hH, hST, hbx⟩ := hcut
  obtain ⟨w6, rfl⟩ : ∃ w6 : World, w6 = wc := ⟨_, rfl⟩
  have hET : storeE F T = 0 := by rw [same_storeE hST]; exact HE.out
  have hfT := same_fit hST HFIT.out
  have hF6 := HF.out.below (HB2.out.trans (hbx.mono HB2.out.size))
  have kA6 := KA2.out.belowS hbx
  have k16 := K12.out.belowS hbx
  have k26 := K22.out.belowS hbx
  have hdo := do_any F T a w2.heap.size B w6 hH hET hfT hbx.size hF6 hnm hno
  have hsD := same_do (F := F) hST a
  rw [doD_step hET, HV.out] at hsD
  have hHl := hH.le
  unfold chrC at hdo
  have l6 : w.heap.size + 1 + 1 < w6.heap.size := kA6.lt
  obtain ⟨a0, a1, a2, a3, a4, a5, a6, a7, a8⟩ := (show w6.cell? ⟨w.heap.size + 1 + 1, 0, none⟩ = some (.int .i64 a.kind) ∧ w6.cell? ⟨w.heap.size + 1 + 1, 1, none⟩ = some (.int .i64 a.plot) ∧ w6.cell? ⟨w.heap.size + 1 + 1, 2, none⟩ = some (.int .i64 a.loads) ∧ w6.cell? ⟨w.heap.size + 1 + 1, 3, none⟩ = some (.string a.name) ∧ w6.cell? ⟨w.heap.size + 1 + 1, 4, none⟩ = some (.string a.other) ∧ w6.cell? ⟨w.heap.size + 1 + 1, 5, none⟩ = some (.int .i64 a.days) ∧ w6.cell? ⟨w.heap.size + 1 + 1, 6, none⟩ = some (.int .i64 a.per) ∧ w6.cell? ⟨w.heap.size + 1 + 1, 7, none⟩ = some (.int .i64 a.rlo) ∧ w6.cell? ⟨w.heap.size + 1 + 1, 8, none⟩ = some (.int .i64 a.rhi) from ⟨kA6.cell 0, kA6.cell 1, kA6.cell 2, kA6.cell 3, kA6.cell 4, kA6.cell 5, kA6.cell 6, kA6.cell 7, kA6.cell 8⟩)
  have HDO := Lib.hid hdo
  have HSD := Lib.hid hsD
  have HB6 := Lib.hid (HB2.out.trans (hbx.mono HB2.out.size))
  have HBX := Lib.hid hbx
  have K16 := Lib.hid k16
  have K26 := Lib.hid k26
  clear hx hH hST hET hfT hF6 kA6 k16 k26 hdo hsD hbx
  go_wp2_with fail
  refine HDO.out.mono ?_
  rintro e w7 ⟨hs, hb7⟩
  have k17 := K16.out.below hb7 (by omega)
  have k27 := K26.out.below hb7 (by omega)
  have HB7 := Lib.hid (HB6.out.trans (hb7.mono HB2.out.size))
  have hs67 := hb7.size
  clear a0 a1 a2 a3 a4 a5 a6 a7 a8
  rcases hs with ⟨h1, rfl, U, hUs, hHU⟩ | ⟨h1, rfl⟩
  · obtain ⟨t0, t1, t2, t3, t4, t5⟩ := sto_cells (S := emptyS) (show Blk w7 (w.heap.size + 1 + 1 + 1) (stoC emptyS) 29 from k17)
    have t6 : w7.cell? ⟨w.heap.size + 1 + 1 + 1 + 1, 0, none⟩ = some (.int .i64 0) := k27.cell 0
    have l1 := k17.lt
    have l2 := k27.lt
    have z0 := k17.frozen 0
    have z1 := k17.frozen 1
    have z2 := k17.frozen 2
    have z3 := k17.frozen 3
    have z4 := k17.frozen 4
    have z5 := k17.frozen 5
    have z6 := k27.frozen 0
    simp only [emptyS, List.length_nil] at t0 t1 t2 t3 t4 t5
    have lB7 := hHU.box.lt
    obtain ⟨u0, u1, u2, u3, u4, u5⟩ := (show w7.cell? ⟨B, 2, none⟩ = some (.int .i64 U.year) ∧ w7.cell? ⟨B, 3, none⟩ = some (.slice U.la U.last.length U.lc) ∧ w7.cell? ⟨B, 4, none⟩ = some (.slice U.ga U.given.length U.gc) ∧ w7.cell? ⟨B, 5, none⟩ = some (.slice U.ha U.heaps.length U.hc) ∧ w7.cell? ⟨B, 6, none⟩ = some (.slice U.ua U.used.length U.uc) ∧ w7.cell? ⟨B, 7, none⟩ = some (.slice U.wa U.waste.length U.wc) from ⟨hHU.box.cell 2, hHU.box.cell 3, hHU.box.cell 4, hHU.box.cell 5, hHU.box.cell 6, hHU.box.cell 7⟩)
    have H1 := Lib.hid h1
    have HUS := Lib.hid hUs
    have HHU := Lib.hid hHU
    have K17 := Lib.hid k17
    have K27 := Lib.hid k27
    clear h1 hUs hHU k17 k27 hb7
    go_wp2_with fail
    have kf1 : Blk (((((((w7.setCell ⟨w.heap.size + 1 + 1 + 1, 0, none⟩ (.int .i64 U.year)).setCell ⟨w.heap.size + 1 + 1 + 1, 1, none⟩ (.slice U.la U.last.length U.lc)).setCell ⟨w.heap.size + 1 + 1 + 1, 2, none⟩ (.slice U.ga U.given.length U.gc)).setCell ⟨w.heap.size + 1 + 1 + 1, 3, none⟩ (.slice U.ha U.heaps.length U.hc)).setCell ⟨w.heap.size + 1 + 1 + 1, 4, none⟩ (.slice U.ua U.used.length U.uc)).setCell ⟨w.heap.size + 1 + 1 + 1, 5, none⟩ (.slice U.wa U.waste.length U.wc)).setCell ⟨w.heap.size + 1 + 1 + 1 + 1, 0, none⟩ (.int .i64 0)) (w.heap.size + 1 + 1 + 1) (stoC U) 29 := ((((((K17.out.set 0 (.int .i64 U.year)).set 1 (.slice U.la U.last.length U.lc)).set 2 (.slice U.ga U.given.length U.gc)).set 3 (.slice U.ha U.heaps.length U.hc)).set 4 (.slice U.ua U.used.length U.uc)).set 5 (.slice U.wa U.waste.length U.wc)).other (show w.heap.size + 1 + 1 + 1 ≠ w.heap.size + 1 + 1 + 1 + 1 by omega) (i := 0) (.int .i64 0)
    have kf2 : Blk (((((((w7.setCell ⟨w.heap.size + 1 + 1 + 1, 0, none⟩ (.int .i64 U.year)).setCell ⟨w.heap.size + 1 + 1 + 1, 1, none⟩ (.slice U.la U.last.length U.lc)).setCell ⟨w.heap.size + 1 + 1 + 1, 2, none⟩ (.slice U.ga U.given.length U.gc)).setCell ⟨w.heap.size + 1 + 1 + 1, 3, none⟩ (.slice U.ha U.heaps.length U.hc)).setCell ⟨w.heap.size + 1 + 1 + 1, 4, none⟩ (.slice U.ua U.used.length U.uc)).setCell ⟨w.heap.size + 1 + 1 + 1, 5, none⟩ (.slice U.wa U.waste.length U.wc)).setCell ⟨w.heap.size + 1 + 1 + 1 + 1, 0, none⟩ (.int .i64 0)) (w.heap.size + 1 + 1 + 1 + 1) #[.int .i64 0] 38 := (((((((K27.out.other (show w.heap.size + 1 + 1 + 1 + 1 ≠ w.heap.size + 1 + 1 + 1 by omega) (i := 0) (.int .i64 U.year)).other (show w.heap.size + 1 + 1 + 1 + 1 ≠ w.heap.size + 1 + 1 + 1 by omega) (i := 1) (.slice U.la U.last.length U.lc)).other (show w.heap.size + 1 + 1 + 1 + 1 ≠ w.heap.size + 1 + 1 + 1 by omega) (i := 2) (.slice U.ga U.given.length U.gc)).other (show w.heap.size + 1 + 1 + 1 + 1 ≠ w.heap.size + 1 + 1 + 1 by omega) (i := 3) (.slice U.ha U.heaps.length U.hc)).other (show w.heap.size + 1 + 1 + 1 + 1 ≠ w.heap.size + 1 + 1 + 1 by omega) (i := 4) (.slice U.ua U.used.length U.uc)).other (show w.heap.size + 1 + 1 + 1 + 1 ≠ w.heap.size + 1 + 1 + 1 by omega) (i := 5) (.slice U.wa U.waste.length U.wc))).set 0 (.int .i64 0)
    have hTf : Turn (fun k => k = w.heap.size + 1 + 1 + 1 ∨ k = w.heap.size + 1 + 1 + 1 + 1) w7 (((((((w7.setCell ⟨w.heap.size + 1 + 1 + 1, 0, none⟩ (.int .i64 U.year)).setCell ⟨w.heap.size + 1 + 1 + 1, 1, none⟩ (.slice U.la U.last.length U.lc)).setCell ⟨w.heap.size + 1 + 1 + 1, 2, none⟩ (.slice U.ga U.given.length U.gc)).setCell ⟨w.heap.size + 1 + 1 + 1, 3, none⟩ (.slice U.ha U.heaps.length U.hc)).setCell ⟨w.heap.size + 1 + 1 + 1, 4, none⟩ (.slice U.ua U.used.length U.uc)).setCell ⟨w.heap.size + 1 + 1 + 1, 5, none⟩ (.slice U.wa U.waste.length U.wc)).setCell ⟨w.heap.size + 1 + 1 + 1 + 1, 0, none⟩ (.int .i64 0)) := ((((((((Turn.of_below (X := fun k => k = w.heap.size + 1 + 1 + 1 ∨ k = w.heap.size + 1 + 1 + 1 + 1) (Below.refl _ w7)).setCell (B := w.heap.size + 1 + 1 + 1) (.inl rfl) 0 (.int .i64 U.year)).setCell (B := w.heap.size + 1 + 1 + 1) (.inl rfl) 1 (.slice U.la U.last.length U.lc)).setCell (B := w.heap.size + 1 + 1 + 1) (.inl rfl) 2 (.slice U.ga U.given.length U.gc)).setCell (B := w.heap.size + 1 + 1 + 1) (.inl rfl) 3 (.slice U.ha U.heaps.length U.hc)).setCell (B := w.heap.size + 1 + 1 + 1) (.inl rfl) 4 (.slice U.ua U.used.length U.uc)).setCell (B := w.heap.size + 1 + 1 + 1) (.inl rfl) 5 (.slice U.wa U.waste.length U.wc)).setCell (B := w.heap.size + 1 + 1 + 1 + 1) (.inr rfl) 0 (.int .i64 0))
    generalize (((((((w7.setCell ⟨w.heap.size + 1 + 1 + 1, 0, none⟩ (.int .i64 U.year)).setCell ⟨w.heap.size + 1 + 1 + 1, 1, none⟩ (.slice U.la U.last.length U.lc)).setCell ⟨w.heap.size + 1 + 1 + 1, 2, none⟩ (.slice U.ga U.given.length U.gc)).setCell ⟨w.heap.size + 1 + 1 + 1, 3, none⟩ (.slice U.ha U.heaps.length U.hc)).setCell ⟨w.heap.size + 1 + 1 + 1, 4, none⟩ (.slice U.ua U.used.length U.uc)).setCell ⟨w.heap.size + 1 + 1 + 1, 5, none⟩ (.slice U.wa U.waste.length U.wc)).setCell ⟨w.heap.size + 1 + 1 + 1 + 1, 0, none⟩ (.int .i64 0)) = wf at *
    clear t0 t1 t2 t3 t4 t5 t6 z0 z1 z2 z3 z4 z5 z6 u0 u1 u2 u3 u4 u5
    have hfin : DoSaid F S a w (.returned (.tuple #[stoV U, .int .i64 0])) wf := by
      have e0 : (doD F S a).1 = 0 := by rw [HV.out, ← HSD.out.1]; exact H1.out
      refine ⟨⟨U, by rw [e0], (HHU.out.own.mono HB2.out.size).turn hTf (fun k e hk => ?_), ?_⟩, HB7.out.trans (hTf.below HB7.out.size (fun k e => by rcases e with rfl | rfl <;> omega))⟩
      · have := (HHU.out.own.ge k hk).1
        rcases e with rfl | rfl <;> omega
      · rw [if_pos e0, HV.out]
        exact HUS.out.trans HSD.out.2
    obtain ⟨g0, g1, g2, g3, g4, g5⟩ := sto_cells kf1
    have g6 : wf.cell? ⟨w.heap.size + 1 + 1 + 1 + 1, 0, none⟩ = some (.int .i64 0) := kf2.cell 0
    unfold stoV at hfin
    refine leaves_cons (f := 31) (args := #[.pointer (some ⟨w.heap.size + 1 + 1 + 1, 0, none⟩), .pointer (some ⟨w.heap.size + 1 + 1 + 1 + 1, 0, none⟩)]) (by simp) (by simp [go_sem]) ?_
    refine (catch_idle (w.heap.size + 1 + 1 + 1) (w.heap.size + 1 + 1 + 1 + 1) _).mono ?_
    rintro e u' w'' ⟨rfl, rfl, rfl⟩
    simp [Leaves, settle, results, Try.results15, go_sem, g0, g1, g2, g3, g4, g5, g6]
    exact hfin
  · have H1 := Lib.hid h1
    have K17 := Lib.hid k17
    have K27 := Lib.hid k27
    clear h1 k17 k27 hb7
    go_wp2_with fail
    refine leaves_cons (f := 31) (args := #[.pointer (some ⟨w.heap.size + 1 + 1 + 1, 0, none⟩), .pointer (some ⟨w.heap.size + 1 + 1 + 1 + 1, 0, none⟩)]) (by simp) (by simp [go_sem]) ?_
    refine (catch_panicking (w.heap.size + 1 + 1 + 1) (w.heap.size + 1 + 1 + 1 + 1) (stepD F T a).1 [] _ _ _ _ _ _ _ w7 K17.out K27.out (by omega)).mono ?_
    rintro e u' wf ⟨rfl, rfl, kf1, kf2, hTf⟩
    have hfin : DoSaid F S a w (.returned (.tuple #[stoV emptyS, .int .i64 (stepD F T a).1])) wf := by
      have e1 : (doD F S a).1 = (stepD F T a).1 := by rw [HV.out]; exact HSD.out.1.symm
      refine ⟨⟨emptyS, by rw [e1], empty_own _ _, ?_⟩, HB7.out.trans (hTf.below HB7.out.size (fun k e => by rcases e with rfl | rfl <;> omega))⟩
      rw [if_neg (by rw [e1]; exact H1.out)]
      exact SameSto.refl _
    obtain ⟨g0, g1, g2, g3, g4, g5⟩ := sto_cells (S := emptyS) (show Blk wf (w.heap.size + 1 + 1 + 1) (stoC emptyS) 29 from kf1)
    have g6 : wf.cell? ⟨w.heap.size + 1 + 1 + 1 + 1, 0, none⟩ = some (.int .i64 (stepD F T a).1) := kf2.cell 0
    unfold stoV at hfin
    simp only [emptyS, List.length_nil] at g0 g1 g2 g3 g4 g5 hfin
    simp [Leaves, settle, results, Try.results15, go_sem, g0, g1, g2, g3, g4, g5, g6]
    exact hfin
end Go.Proofs.Ytmnfapdfdpglgaa
