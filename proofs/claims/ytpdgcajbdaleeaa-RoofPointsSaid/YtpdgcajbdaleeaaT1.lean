/- heightAt, at side 1. -/
import Derived.Test.YtpdgcajbdaleeaaT
namespace Go.Proofs.Ytpdgcajbdaleeaa
open Go.RowKit

set_option maxRecDepth 100000 in
set_option maxHeartbeats 1000000 in
theorem heightAt1 (f : Fac) (p : Pnt) (hf : f.ok) (hs : f.side = 1) (hp : p.ok) (w : World) :
    Calls Try.prog 34 #[.agg #[.string f.name, .int .i64 f.side, .int .i64 f.foot, .int .i64 f.base, .int .i64 f.rise, .int .i64 f.run, .slice f.ca f.cs.length f.cc], .agg #[.int .i64 p.x, .int .i64 p.y]] w fun e w' => e = .returned (.agg #[.int .i64 (hgtN f p), .int .i64 (hgtD f p)]) ∧ Below w.heap.size w w' := by
  obtain ⟨name, side, foot, base, rise, run, ca, cc, cs⟩ := f
  obtain ⟨px, py⟩ := p
  obtain rfl : side = 1 := hs
  obtain ⟨s1, s4, f0, f1, b0, b1, i0, i1, n0, n1⟩ := hf
  obtain ⟨⟨x0, x1⟩, y0, y1⟩ := hp
  simp only [] at f0 f1 b0 b1 i0 i1 n0 n1 x0 x1 y0 y1
  have hv : hNum (⟨name, 1, foot, base, rise, run, ca, cc, cs⟩ : Fac) ⟨px, py⟩ = base * run + rise * ((py) - (foot)) := by simp [hNum, ownV]
  have m1 := mul_bd (a := base) (b := run) (m := 10000) (n := 100) (by omega) (by omega) (by omega) (by omega)
  have m2 := mul_bd (a := rise) (b := (py) - (foot)) (m := 100) (n := 20000) (by omega) (by omega) (by omega) (by omega)
  have hB : Below w.heap.size w (((w.alloc (.cells #[.string name, .int .i64 1, .int .i64 foot, .int .i64 base, .int .i64 rise, .int .i64 run, .slice ca cs.length cc] 72)).alloc (.cells #[.int .i64 px, .int .i64 py] 27)).alloc (.cells #[.int .i64 0, .int .i64 0] 31)) := (((Below.refl _ _).alloc (Nat.le_refl _) _).alloc (by simp) _).alloc (by simp; omega) _
  have kF := ((Blk.new w 72 #[.string name, .int .i64 1, .int .i64 foot, .int .i64 base, .int .i64 rise, .int .i64 run, .slice ca cs.length cc]).alloc (.cells #[.int .i64 px, .int .i64 py] 27)).alloc (.cells #[.int .i64 0, .int .i64 0] 31)
  have kP := (Blk.new (w.alloc (.cells #[.string name, .int .i64 1, .int .i64 foot, .int .i64 base, .int .i64 rise, .int .i64 run, .slice ca cs.length cc] 72)) 27 #[.int .i64 px, .int .i64 py]).alloc (.cells #[.int .i64 0, .int .i64 0] 31)
  have kR := Blk.new ((w.alloc (.cells #[.string name, .int .i64 1, .int .i64 foot, .int .i64 base, .int .i64 rise, .int .i64 run, .slice ca cs.length cc] 72)).alloc (.cells #[.int .i64 px, .int .i64 py] 27)) 31 #[.int .i64 0, .int .i64 0]
  simp only [World.size_alloc] at kP kR
  have hsz : (((w.alloc (.cells #[.string name, .int .i64 1, .int .i64 foot, .int .i64 base, .int .i64 rise, .int .i64 run, .slice ca cs.length cc] 72)).alloc (.cells #[.int .i64 px, .int .i64 py] 27)).alloc (.cells #[.int .i64 0, .int .i64 0] 31)).heap.size = w.heap.size + 3 := by simp
  have HSZ := Lib.hid hsz
  have HV := Lib.hid hv
  clear hsz hv s1 s4
  have hf1 := run_field1
  go_enter Try.func34, Try.ntmps34
  go_wp2_with fail
  refine (ownMeasure1_any _).mono ?_
  rintro e w1 ⟨rfl, hb1⟩
  have kF1 := kF.belowS hb1
  have kP1 := kP.belowS hb1
  have kR1 := kR.belowS hb1
  have hB1 := hB.trans (hb1.mono (by rw [HSZ.out]; omega))
  have l1 := kF1.lt
  have l2 := kP1.lt
  have l3 := kR1.lt
  clear kF kP kR hB hb1 HSZ
  have hx : HeldF w1 w.heap.size (⟨name, 1, foot, base, rise, run, ca, cc, cs⟩ : Fac) (w.heap.size + 1) (.int .i64 px) (.int .i64 py) w1.drew :=
    ⟨(Below.refl _ _).drew, ⟨kF1.cell 0, kF1.cell 1, kF1.cell 2, kF1.cell 3, kF1.cell 4, kF1.cell 5, kF1.cell 6⟩, kP1.cell 0, kP1.cell 1⟩
  have c1 : w1.cell? ⟨w.heap.size + 1, 0, none⟩ = some (.int .i64 px) := kP1.cell 0
  go_wp2_with fail
  have hwr : IntKind.i64.wrap ((py) - (foot)) = (py) - (foot) := IntWalk.i64_in _ (by omega)
  go_region_held3 (fun w' => Below w1.heap.size w1 w' ∧ ((w'.cell? ⟨w.heap.size, 0, none⟩ = some (.string name) ∧ w'.cell? ⟨w.heap.size, 1, none⟩ = some (.int .i64 1) ∧ w'.cell? ⟨w.heap.size, 2, none⟩ = some (.int .i64 foot) ∧ w'.cell? ⟨w.heap.size, 3, none⟩ = some (.int .i64 base) ∧
        w'.cell? ⟨w.heap.size, 4, none⟩ = some (.int .i64 rise) ∧ w'.cell? ⟨w.heap.size, 5, none⟩ = some (.int .i64 run) ∧ w'.cell? ⟨w.heap.size, 6, none⟩ = some (.slice ca cs.length cc)) ∧
        (w'.cell? ⟨w.heap.size + 1, 0, none⟩ = some (.int .i64 px) ∧ w'.cell? ⟨w.heap.size + 1, 1, none⟩ = some (.int .i64 py))))
    (first | (with_reducible exact hx) | (with_reducible refine HeldF.step (f := (⟨name, 1, foot, base, rise, run, ca, cc, cs⟩ : Fac)) ?_ l1 l2 hb3; with_reducible assumption))
    (first | (go_at_call 94; (with_reducible refine (own1_xy px py (by omega) (by omega) (by omega) (by omega) _).mono ?_); rintro r w3 ⟨rfl, hb3⟩) | (go_at_call 94; (with_reducible refine (own1_xy foot foot (by omega) (by omega) (by omega) (by omega) _).mono ?_); rintro r w3 ⟨rfl, hb3⟩))
  clear hwr hx c1
  go_split_ands
  have hb4 : Below w1.heap.size w1 w3 := by with_reducible assumption
  have kR2 := kR1.belowS hb4
  have l4 := kR2.lt
  have HR2 := Lib.hid kR2
  clear kF1 kP1 kR1 kR2
  have hm1 : wrap64 (base * run) = base * run := w64 (by omega) (by omega)
  have hm2 : wrap64 (rise * ((py) - (foot))) = rise * ((py) - (foot)) := w64 (by omega) (by omega)
  go_wp2_with fail
  refine (lowest_any (base * run + rise * ((py) - (foot))) run (by omega) (by omega) (by omega) (by omega) _).mono ?_
  rintro e w5 ⟨rfl, hb5⟩
  have kR3 := HR2.out.belowS hb5
  have t0 := kR3.cell 0
  have t1 := kR3.cell 1
  have t2 := kR3.frozen 0
  have t3 := kR3.frozen 1
  simp only [List.getElem?_toArray, List.getElem?_cons_zero, List.getElem?_cons_succ] at t0 t1
  have r0 := ((kR3.set 0 (.int .i64 (lowN (base * run + rise * ((py) - (foot))) run))).set 1 (.int .i64 (lowD (base * run + rise * ((py) - (foot))) run))).cell 0
  have r1 := ((kR3.set 0 (.int .i64 (lowN (base * run + rise * ((py) - (foot))) run))).set 1 (.int .i64 (lowD (base * run + rise * ((py) - (foot))) run))).cell 1
  simp at r0 r1
  have HR0 := Lib.hid r0
  have HR1 := Lib.hid r1
  clear r0 r1
  go_wp2_with fail
  have r0 := HR0.out
  have r1 := HR1.out
  refine bodyPost_ret (v := .agg #[.int .i64 (lowN (base * run + rise * ((py) - (foot))) run), .int .i64 (lowD (base * run + rise * ((py) - (foot))) run)]) (by simp [results, Try.results34, go_sem, r0, r1]) rfl ⟨by rw [hgtN, hgtD, HV.out], ?_⟩
  exact ((hB1.trans ((hb4.trans (hb5.mono hb4.size)).mono (by omega))).setCell (p := ⟨w.heap.size + 1 + 1, 0, none⟩) (by simp; omega) _).setCell (p := ⟨w.heap.size + 1 + 1, 1, none⟩) (by simp; omega) _
end Go.Proofs.Ytpdgcajbdaleeaa
