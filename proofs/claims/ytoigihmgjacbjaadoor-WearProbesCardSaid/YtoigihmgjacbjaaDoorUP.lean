/- thatchref07.Twin: a skin with rows of its own. No condition but the lengths. -/
import Derived.Test.YtoigihmgjacbjaaDoorUO
import Derived.Test.YtoigihmgjacbjaaDoorVG
import Derived.Test.YtoigihmgjacbjaaDoorVJ
set_option linter.unusedSimpArgs false
namespace Go.Proofs.YtoigihmgjacbjaaDoor
open Go.RowKit

theorem src_fresh {α : Type} {f : α → List Value} {n : Nat} (hn : ∀ x, (f x).length = n) (hp : 0 < n) {w : World} {a : Option Addr} {c : Nat} {l : List α} (h : l = [] ∨ ∃ b off, a = some ⟨b, off, none⟩ ∧ b < w.heap.size ∧ l.length ≤ c ∧ c ≤ 9223372036854775807 ∧ ∀ j x, l[j]? = some x → ∀ i u, (f x)[i]? = some u → w.cell? ⟨b, off + j * n + i, none⟩ = some u) : (∀ ad, a = some ad → ∀ j u, (l.flatMap f)[j]? = some u → w.cell? (ad.add j) = some u) ∧ (a = none → l.length = 0) := by
  rcases h with h | ⟨b, off, e, _, _, _, h⟩
  · subst h
    exact ⟨fun ad _ j u hu => by simp at hu, fun _ => rfl⟩
  · subst e
    exact ⟨fun ad e j u hu => by
      obtain rfl := Option.some.inj e
      exact news_of f n hp hn h j u hu, fun e => by cases e⟩

set_option maxRecDepth 100000 in
set_option maxHeartbeats 8000000 in
theorem refTwin_any (S : Skn) (w : World) (hS : IsSkn w S) (h1 : S.pts.length ≤ 100000) (h2 : S.hs.length ≤ 100000) (h3 : S.ms.length ≤ 100000) :
    Calls Tryd.prog 38 #[.agg #[.slice S.pa S.pts.length S.pc, .slice S.ha S.hs.length S.hc, .int .i64 S.steep, .int .i64 S.th.lo, .int .i64 S.th.hi, .slice S.ma S.ms.length S.mc]] w (CopySaid S w) := by
  have k1 := (Blk.new w 30 #[.slice S.pa S.pts.length S.pc, .slice S.ha S.hs.length S.hc, .int .i64 S.steep, .int .i64 S.th.lo, .int .i64 S.th.hi, .slice S.ma S.ms.length S.mc]).alloc (.cells #[.slice none 0 0, .slice none 0 0, .int .i64 0, .int .i64 0, .int .i64 0, .slice none 0 0] 30)
  have k2 := Blk.new (w.alloc (.cells #[.slice S.pa S.pts.length S.pc, .slice S.ha S.hs.length S.hc, .int .i64 S.steep, .int .i64 S.th.lo, .int .i64 S.th.hi, .slice S.ma S.ms.length S.mc] 30)) 30 #[.slice none 0 0, .slice none 0 0, .int .i64 0, .int .i64 0, .int .i64 0, .slice none 0 0]
  rw [World.size_alloc] at k2
  have hb1 : Below w.heap.size w ((w.alloc (.cells #[.slice S.pa S.pts.length S.pc, .slice S.ha S.hs.length S.hc, .int .i64 S.steep, .int .i64 S.th.lo, .int .i64 S.th.hi, .slice S.ma S.ms.length S.mc] 30)).alloc (.cells #[.slice none 0 0, .slice none 0 0, .int .i64 0, .int .i64 0, .int .i64 0, .slice none 0 0] 30)) := ((Below.refl _ w).alloc (Nat.le_refl _) _).alloc (by simp) _
  have HS := Lib.hid hS
  have HL1 := Lib.hid h1
  have HL2 := Lib.hid h2
  have HL3 := Lib.hid h3
  obtain ⟨i1, p0, p1, p2, p3⟩ := info_parts3 info_pts
  obtain ⟨i2, q0, q1, q2, q3⟩ := info_parts3 info_box
  obtain ⟨i3, r0, r1, r2, r3⟩ := info_parts3 info_mrk
  have HFL1 := Lib.hid (flat_len pntL 2 (fun _ => rfl) S.pts)
  have HFL2 := Lib.hid (flat_len holL 4 (fun _ => rfl) S.hs)
  have HFL3 := Lib.hid (flat_len mrkL 4 (fun _ => rfl) S.ms)
  have HONE1 := Lib.hid (show ∀ u ∈ S.pts.flatMap pntL, u.oneCell' = true from fun u hu => by
    obtain ⟨x, _, hx⟩ := List.mem_flatMap.1 hu
    simp only [pntL, List.mem_cons, List.not_mem_nil, or_false] at hx
    rcases hx with rfl | rfl <;> rfl)
  have HONE2 := Lib.hid (show ∀ u ∈ S.hs.flatMap holL, u.oneCell' = true from fun u hu => by
    obtain ⟨x, _, hx⟩ := List.mem_flatMap.1 hu
    simp only [holL, List.mem_cons, List.not_mem_nil, or_false] at hx
    rcases hx with rfl | rfl | rfl | rfl <;> rfl)
  have HONE3 := Lib.hid (show ∀ u ∈ S.ms.flatMap mrkL, u.oneCell' = true from fun u hu => by
    obtain ⟨x, _, hx⟩ := List.mem_flatMap.1 hu
    simp only [mrkL, List.mem_cons, List.not_mem_nil, or_false] at hx
    rcases hx with rfl | rfl | rfl | rfl <;> rfl)
  clear hS h1 h2 h3
  go_enter Tryd.func38, Tryd.ntmps38
  go_upto_region 1 with fail
  generalize ((w.alloc (.cells #[.slice S.pa S.pts.length S.pc, .slice S.ha S.hs.length S.hc, .int .i64 S.steep, .int .i64 S.th.lo, .int .i64 S.th.hi, .slice S.ma S.ms.length S.mc] 30)).alloc (.cells #[.slice none 0 0, .slice none 0 0, .int .i64 0, .int .i64 0, .int .i64 0, .slice none 0 0] 30)) = w1 at *
  have K11 := Lib.hid k1
  have K21 := Lib.hid k2
  have HB1 := Lib.hid hb1
  clear k1 k2 hb1
  have HSR1 := Lib.hid (src_fresh (f := pntL) (n := 2) (fun _ => rfl) (by omega) (src_pts (HS.out.pts.below HB1.out)))
  obtain ⟨s0, s1, s2, s3, s4, s5⟩ := (show w1.cell? ⟨w.heap.size, 0, none⟩ = some (.slice S.pa S.pts.length S.pc) ∧ w1.cell? ⟨w.heap.size, 1, none⟩ = some (.slice S.ha S.hs.length S.hc) ∧ w1.cell? ⟨w.heap.size, 2, none⟩ = some (.int .i64 S.steep) ∧ w1.cell? ⟨w.heap.size, 3, none⟩ = some (.int .i64 S.th.lo) ∧ w1.cell? ⟨w.heap.size, 4, none⟩ = some (.int .i64 S.th.hi) ∧ w1.cell? ⟨w.heap.size, 5, none⟩ = some (.slice S.ma S.ms.length S.mc) from ⟨K11.out.cell 0, K11.out.cell 1, K11.out.cell 2, K11.out.cell 3, K11.out.cell 4, K11.out.cell 5⟩)
  have l1 := K11.out.lt
  go_upto_region 2 with (at_builtin; refine wpList_append_fresh rfl _ _ 22 rfl 45 i1 (.agg #[.int .i64 0, .int .i64 0]) 2 16 Tryd.underlying22 p0 p1 p2 p3 rfl (by decide) rfl S.pa S.pts.length S.pc (S.pts.flatMap pntL) rfl HFL1.out HSR1.out.1 HSR1.out.2 HONE1.out (by have := HL1.out; unfold maxLen; omega) (by have := HL1.out; omega) ?_; intro a1 c1 w2 ho1 hbj1; have KJ1 := Lib.hid (K11.out.belowS hbj1); have zc := KJ1.out.cell 0; have zf := KJ1.out.frozen 0; have zl := KJ1.out.lt; have HO1 := Lib.hid ho1; have HBJ1 := Lib.hid hbj1; clear ho1 hbj1)
  have kf : Blk (w2.setCell ⟨w.heap.size, 0, none⟩ (.slice a1 S.pts.length c1)) w.heap.size #[.slice a1 S.pts.length c1, .slice S.ha S.hs.length S.hc, .int .i64 S.steep, .int .i64 S.th.lo, .int .i64 S.th.hi, .slice S.ma S.ms.length S.mc] 30 := KJ1.out.set 0 _
  have ht : Turn (fun k => k = w.heap.size) w2 (w2.setCell ⟨w.heap.size, 0, none⟩ (.slice a1 S.pts.length c1)) := (Turn.of_below (X := fun k => k = w.heap.size) (Below.refl _ w2)).setCell (B := w.heap.size) rfl 0 _
  generalize w2.setCell ⟨w.heap.size, 0, none⟩ (.slice a1 S.pts.length c1) = w3 at *
  have K13 := Lib.hid kf
  have K23 := Lib.hid (ht.blk (K21.out.belowS HBJ1.out) (fun e => by have := (show w.heap.size + 1 = w.heap.size from e); omega))
  have hbi := HB1.out.trans (HBJ1.out.mono HB1.out.size)
  have HB3 := Lib.hid (hbi.trans (ht.below hbi.size (fun k e => by rw [show k = w.heap.size from e]; exact Nat.le_refl _)))
  have HT1 := Lib.hid ht
  have SZ1 := Lib.hid (And.intro HBJ1.out.size ht.size)
  clear s0 s1 s2 s3 s4 s5 l1 zc zf zl kf ht hbi
  have HSR2 := Lib.hid (src_fresh (f := holL) (n := 4) (fun _ => rfl) (by omega) (src_row (cs := holC) (fun _ => rfl) (fun _ => rfl) (HS.out.hs.below HB3.out)))
  obtain ⟨s0, s1, s2, s3, s4, s5⟩ := (show w3.cell? ⟨w.heap.size, 0, none⟩ = some (.slice a1 S.pts.length c1) ∧ w3.cell? ⟨w.heap.size, 1, none⟩ = some (.slice S.ha S.hs.length S.hc) ∧ w3.cell? ⟨w.heap.size, 2, none⟩ = some (.int .i64 S.steep) ∧ w3.cell? ⟨w.heap.size, 3, none⟩ = some (.int .i64 S.th.lo) ∧ w3.cell? ⟨w.heap.size, 4, none⟩ = some (.int .i64 S.th.hi) ∧ w3.cell? ⟨w.heap.size, 5, none⟩ = some (.slice S.ma S.ms.length S.mc) from ⟨K13.out.cell 0, K13.out.cell 1, K13.out.cell 2, K13.out.cell 3, K13.out.cell 4, K13.out.cell 5⟩)
  have l1 := K13.out.lt
  go_upto_region 3 with (at_builtin; refine wpList_append_fresh rfl _ _ 23 rfl 64 i2 (.agg #[.int .i64 0, .int .i64 0, .int .i64 0, .int .i64 0]) 4 32 Tryd.underlying23 q0 q1 q2 q3 rfl (by decide) rfl S.ha S.hs.length S.hc (S.hs.flatMap holL) rfl HFL2.out HSR2.out.1 HSR2.out.2 HONE2.out (by have := HL2.out; unfold maxLen; omega) (by have := HL2.out; omega) ?_; intro a2 c2 w4 ho2 hbj2; have KJ2 := Lib.hid (K13.out.belowS hbj2); have zc := KJ2.out.cell 1; have zf := KJ2.out.frozen 1; have zl := KJ2.out.lt; have HO2 := Lib.hid ho2; have HBJ2 := Lib.hid hbj2; clear ho2 hbj2)
  have kf : Blk (w4.setCell ⟨w.heap.size, 1, none⟩ (.slice a2 S.hs.length c2)) w.heap.size #[.slice a1 S.pts.length c1, .slice a2 S.hs.length c2, .int .i64 S.steep, .int .i64 S.th.lo, .int .i64 S.th.hi, .slice S.ma S.ms.length S.mc] 30 := KJ2.out.set 1 _
  have ht : Turn (fun k => k = w.heap.size) w4 (w4.setCell ⟨w.heap.size, 1, none⟩ (.slice a2 S.hs.length c2)) := (Turn.of_below (X := fun k => k = w.heap.size) (Below.refl _ w4)).setCell (B := w.heap.size) rfl 1 _
  generalize w4.setCell ⟨w.heap.size, 1, none⟩ (.slice a2 S.hs.length c2) = w5 at *
  have K15 := Lib.hid kf
  have K25 := Lib.hid (ht.blk (K23.out.belowS HBJ2.out) (fun e => by have := (show w.heap.size + 1 = w.heap.size from e); omega))
  have hbi := HB3.out.trans (HBJ2.out.mono HB3.out.size)
  have HB5 := Lib.hid (hbi.trans (ht.below hbi.size (fun k e => by rw [show k = w.heap.size from e]; exact Nat.le_refl _)))
  have HT2 := Lib.hid ht
  have SZ2 := Lib.hid (And.intro HBJ2.out.size ht.size)
  clear s0 s1 s2 s3 s4 s5 l1 zc zf zl kf ht hbi
  have HSR3 := Lib.hid (src_fresh (f := mrkL) (n := 4) (fun _ => rfl) (by omega) (src_row (cs := mrkC) (fun _ => rfl) (fun _ => rfl) (HS.out.ms.below HB5.out)))
  obtain ⟨s0, s1, s2, s3, s4, s5⟩ := (show w5.cell? ⟨w.heap.size, 0, none⟩ = some (.slice a1 S.pts.length c1) ∧ w5.cell? ⟨w.heap.size, 1, none⟩ = some (.slice a2 S.hs.length c2) ∧ w5.cell? ⟨w.heap.size, 2, none⟩ = some (.int .i64 S.steep) ∧ w5.cell? ⟨w.heap.size, 3, none⟩ = some (.int .i64 S.th.lo) ∧ w5.cell? ⟨w.heap.size, 4, none⟩ = some (.int .i64 S.th.hi) ∧ w5.cell? ⟨w.heap.size, 5, none⟩ = some (.slice S.ma S.ms.length S.mc) from ⟨K15.out.cell 0, K15.out.cell 1, K15.out.cell 2, K15.out.cell 3, K15.out.cell 4, K15.out.cell 5⟩)
  have l1 := K15.out.lt
  go_upto_region 4 with (at_builtin; refine wpList_append_fresh rfl _ _ 28 rfl 61 i3 (.agg #[.int .i64 0, .int .i64 0, .int .i64 0, .int .i64 0]) 4 32 Tryd.underlying28 r0 r1 r2 r3 rfl (by decide) rfl S.ma S.ms.length S.mc (S.ms.flatMap mrkL) rfl HFL3.out HSR3.out.1 HSR3.out.2 HONE3.out (by have := HL3.out; unfold maxLen; omega) (by have := HL3.out; omega) ?_; intro a3 c3 w6 ho3 hbj3; have KJ3 := Lib.hid (K15.out.belowS hbj3); have zc := KJ3.out.cell 5; have zf := KJ3.out.frozen 5; have zl := KJ3.out.lt; have HO3 := Lib.hid ho3; have HBJ3 := Lib.hid hbj3; clear ho3 hbj3)
  have kf : Blk (w6.setCell ⟨w.heap.size, 5, none⟩ (.slice a3 S.ms.length c3)) w.heap.size #[.slice a1 S.pts.length c1, .slice a2 S.hs.length c2, .int .i64 S.steep, .int .i64 S.th.lo, .int .i64 S.th.hi, .slice a3 S.ms.length c3] 30 := KJ3.out.set 5 _
  have ht : Turn (fun k => k = w.heap.size) w6 (w6.setCell ⟨w.heap.size, 5, none⟩ (.slice a3 S.ms.length c3)) := (Turn.of_below (X := fun k => k = w.heap.size) (Below.refl _ w6)).setCell (B := w.heap.size) rfl 5 _
  generalize w6.setCell ⟨w.heap.size, 5, none⟩ (.slice a3 S.ms.length c3) = w7 at *
  have K17 := Lib.hid kf
  have K27 := Lib.hid (ht.blk (K25.out.belowS HBJ3.out) (fun e => by have := (show w.heap.size + 1 = w.heap.size from e); omega))
  have hbi := HB5.out.trans (HBJ3.out.mono HB5.out.size)
  have HB7 := Lib.hid (hbi.trans (ht.below hbi.size (fun k e => by rw [show k = w.heap.size from e]; exact Nat.le_refl _)))
  have HT3 := Lib.hid ht
  have SZ3 := Lib.hid (And.intro HBJ3.out.size ht.size)
  clear s0 s1 s2 s3 s4 s5 l1 zc zf zl kf ht hbi
  obtain ⟨s0, s1, s2, s3, s4, s5⟩ := (show w7.cell? ⟨w.heap.size, 0, none⟩ = some (.slice a1 S.pts.length c1) ∧ w7.cell? ⟨w.heap.size, 1, none⟩ = some (.slice a2 S.hs.length c2) ∧ w7.cell? ⟨w.heap.size, 2, none⟩ = some (.int .i64 S.steep) ∧ w7.cell? ⟨w.heap.size, 3, none⟩ = some (.int .i64 S.th.lo) ∧ w7.cell? ⟨w.heap.size, 4, none⟩ = some (.int .i64 S.th.hi) ∧ w7.cell? ⟨w.heap.size, 5, none⟩ = some (.slice a3 S.ms.length c3) from ⟨K17.out.cell 0, K17.out.cell 1, K17.out.cell 2, K17.out.cell 3, K17.out.cell 4, K17.out.cell 5⟩)
  have l1 := K17.out.lt
  have l2 := K27.out.lt
  have z0 := K27.out.frozen 0
  have z1 := K27.out.frozen 1
  have z2 := K27.out.frozen 2
  have z3 := K27.out.frozen 3
  have z4 := K27.out.frozen 4
  have z5 := K27.out.frozen 5
  obtain ⟨y0, y1, y2, y3, y4, y5⟩ := (show w7.cell? ⟨w.heap.size + 1, 0, none⟩ = some (.slice none 0 0) ∧ w7.cell? ⟨w.heap.size + 1, 1, none⟩ = some (.slice none 0 0) ∧ w7.cell? ⟨w.heap.size + 1, 2, none⟩ = some (.int .i64 0) ∧ w7.cell? ⟨w.heap.size + 1, 3, none⟩ = some (.int .i64 0) ∧ w7.cell? ⟨w.heap.size + 1, 4, none⟩ = some (.int .i64 0) ∧ w7.cell? ⟨w.heap.size + 1, 5, none⟩ = some (.slice none 0 0) from ⟨K27.out.cell 0, K27.out.cell 1, K27.out.cell 2, K27.out.cell 3, K27.out.cell 4, K27.out.cell 5⟩)
  go_wp2_with fail
  have kf : Blk ((((((w7.setCell ⟨w.heap.size + 1, 0, none⟩ (.slice a1 S.pts.length c1)).setCell ⟨w.heap.size + 1, 1, none⟩ (.slice a2 S.hs.length c2)).setCell ⟨w.heap.size + 1, 2, none⟩ (.int .i64 S.steep)).setCell ⟨w.heap.size + 1, 3, none⟩ (.int .i64 S.th.lo)).setCell ⟨w.heap.size + 1, 4, none⟩ (.int .i64 S.th.hi)).setCell ⟨w.heap.size + 1, 5, none⟩ (.slice a3 S.ms.length c3)) (w.heap.size + 1) #[.slice a1 S.pts.length c1, .slice a2 S.hs.length c2, .int .i64 S.steep, .int .i64 S.th.lo, .int .i64 S.th.hi, .slice a3 S.ms.length c3] 30 := ((((((K27.out.set 0 (.slice a1 S.pts.length c1)).set 1 (.slice a2 S.hs.length c2)).set 2 (.int .i64 S.steep)).set 3 (.int .i64 S.th.lo)).set 4 (.int .i64 S.th.hi)).set 5 (.slice a3 S.ms.length c3))
  have ht : Turn (fun k => k = w.heap.size + 1) w7 ((((((w7.setCell ⟨w.heap.size + 1, 0, none⟩ (.slice a1 S.pts.length c1)).setCell ⟨w.heap.size + 1, 1, none⟩ (.slice a2 S.hs.length c2)).setCell ⟨w.heap.size + 1, 2, none⟩ (.int .i64 S.steep)).setCell ⟨w.heap.size + 1, 3, none⟩ (.int .i64 S.th.lo)).setCell ⟨w.heap.size + 1, 4, none⟩ (.int .i64 S.th.hi)).setCell ⟨w.heap.size + 1, 5, none⟩ (.slice a3 S.ms.length c3)) := (((((((Turn.of_below (X := fun k => k = w.heap.size + 1) (Below.refl _ w7)).setCell (B := w.heap.size + 1) rfl 0 (.slice a1 S.pts.length c1)).setCell (B := w.heap.size + 1) rfl 1 (.slice a2 S.hs.length c2)).setCell (B := w.heap.size + 1) rfl 2 (.int .i64 S.steep)).setCell (B := w.heap.size + 1) rfl 3 (.int .i64 S.th.lo)).setCell (B := w.heap.size + 1) rfl 4 (.int .i64 S.th.hi)).setCell (B := w.heap.size + 1) rfl 5 (.slice a3 S.ms.length c3))
  generalize ((((((w7.setCell ⟨w.heap.size + 1, 0, none⟩ (.slice a1 S.pts.length c1)).setCell ⟨w.heap.size + 1, 1, none⟩ (.slice a2 S.hs.length c2)).setCell ⟨w.heap.size + 1, 2, none⟩ (.int .i64 S.steep)).setCell ⟨w.heap.size + 1, 3, none⟩ (.int .i64 S.th.lo)).setCell ⟨w.heap.size + 1, 4, none⟩ (.int .i64 S.th.hi)).setCell ⟨w.heap.size + 1, 5, none⟩ (.slice a3 S.ms.length c3)) = wf at *
  clear s0 s1 s2 s3 s4 s5 l1 l2 z0 z1 z2 z3 z4 z5 y0 y1 y2 y3 y4 y5
  obtain ⟨g0, g1, g2, g3, g4, g5⟩ := (show wf.cell? ⟨w.heap.size + 1, 0, none⟩ = some (.slice a1 S.pts.length c1) ∧ wf.cell? ⟨w.heap.size + 1, 1, none⟩ = some (.slice a2 S.hs.length c2) ∧ wf.cell? ⟨w.heap.size + 1, 2, none⟩ = some (.int .i64 S.steep) ∧ wf.cell? ⟨w.heap.size + 1, 3, none⟩ = some (.int .i64 S.th.lo) ∧ wf.cell? ⟨w.heap.size + 1, 4, none⟩ = some (.int .i64 S.th.hi) ∧ wf.cell? ⟨w.heap.size + 1, 5, none⟩ = some (.slice a3 S.ms.length c3) from ⟨kf.cell 0, kf.cell 1, kf.cell 2, kf.cell 3, kf.cell 4, kf.cell 5⟩)
  have hsz : w.heap.size + 2 ≤ w1.heap.size := K21.out.lt
  have z12 := SZ1.out
  have z34 := SZ2.out
  have z56 := SZ3.out
  have z7f := ht.size
  have Q1 := fun x hx => own_where HO1.out x hx
  have Q2 := fun x hx => own_where HO2.out x hx
  have Q3 := fun x hx => own_where HO3.out x hx
  have n1 : ∀ x, a1 = some x → ¬ x.block = w.heap.size ∧ ¬ x.block = w.heap.size + 1 := fun x hx => by have := Q1 x hx; omega
  have n2 : ∀ x, a2 = some x → ¬ x.block = w.heap.size ∧ ¬ x.block = w.heap.size + 1 := fun x hx => by have := Q2 x hx; omega
  have P1 := (((((pts_own HO1.out).1.turn HT1.out (fun x hx e => (n1 x hx).1 e)).below HBJ2.out).turn HT2.out (fun x hx e => (n1 x hx).1 e)).below HBJ3.out).turn HT3.out (fun x hx e => (n1 x hx).1 e)
  have P2 := (((hol_own HO2.out).1.turn HT2.out (fun x hx e => (n2 x hx).1 e)).below HBJ3.out).turn HT3.out (fun x hx e => (n2 x hx).1 e)
  have P3 := ((own_marks HO3.out).turn HT3.out (fun k e => by have := (show k = w.heap.size from e); omega)).turn ht (fun k e => by have := (show k = w.heap.size + 1 from e); omega)
  exact bodyPost_ret (v := .agg #[.slice a1 S.pts.length c1, .slice a2 S.hs.length c2, .int .i64 S.steep, .int .i64 S.th.lo, .int .i64 S.th.hi, .slice a3 S.ms.length c3]) (by simp [results, Tryd.results38, go_sem, g0, g1, g2, g3, g4, g5]) rfl ⟨⟨a1, a2, a3, c1, c2, c3, w5.heap.size, rfl, HB5.out.size, fun x hx => by
    rcases hx with hx | hx
    · have := Q1 x hx; omega
    · have := Q2 x hx; omega, P1.turn ht (fun x hx e => (n1 x hx).2 e), P2.turn ht (fun x hx e => (n2 x hx).2 e), P3, fun x hx => by have := Q3 x hx; omega, by omega⟩, HB7.out.trans (ht.below HB7.out.size (fun k e => by have := (show k = w.heap.size + 1 from e); omega))⟩
end Go.Proofs.YtoigihmgjacbjaaDoor
