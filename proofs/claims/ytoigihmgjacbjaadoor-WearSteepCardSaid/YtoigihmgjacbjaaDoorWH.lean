/- bounds: the thicknesses that a point may have. No condition. -/
import Derived.Test.YtoigihmgjacbjaaDoorWG
set_option linter.unusedSimpArgs false
namespace Go.Proofs.YtoigihmgjacbjaaDoor
open Go.RowKit

structure Skn where
  pa : Option Addr
  pc : Nat
  pts : List Pnt
  ha : Option Addr
  hc : Nat
  hs : List Hol
  steep : Int
  th : Spn
  ma : Option Addr
  mc : Nat
  ms : List Mrk
abbrev sknC (S : Skn) : Array Value := #[.slice S.pa S.pts.length S.pc, .slice S.ha S.hs.length S.hc, .int .i64 S.steep, .int .i64 S.th.lo, .int .i64 S.th.hi, .slice S.ma S.ms.length S.mc]
structure IsSkn (w : World) (S : Skn) : Prop where
  pts : IsPts w (.slice S.pa S.pts.length S.pc) S.pts
  hs : IsRow4 holC w S.ha S.hc S.hs
  ms : IsRow4 mrkC w S.ma S.mc S.ms
theorem IsSkn.below {w w' : World} {S : Skn} (h : IsSkn w S) (hb : Below w.heap.size w w') : IsSkn w' S := ⟨h.pts.below hb, h.hs.below hb, h.ms.below hb⟩
def boundF (steep : Int) (th : Spn) (p : Pnt) (ms : List Mrk) : Spn := ms.foldl (fun b m => comM b (widM m.th (steep * distM m.at_ p))) th
def boundM (S : Skn) (p : Pnt) : Spn := boundF S.steep S.th p S.ms
def mrkOk (m : Mrk) : Prop := pointB m.at_ = true ∧ isSpanB m.th 0 2000 = true
theorem boundF_snoc (steep : Int) (th : Spn) (p : Pnt) (l : List Mrk) (m : Mrk) : boundF steep th p (l ++ [m]) = comM (boundF steep th p l) (widM m.th (steep * distM m.at_ p)) := by simp [boundF]
theorem skn_cells {w : World} {B : Nat} {S : Skn} (k : Blk w B (sknC S) 30) : w.cell? ⟨B, 0, none⟩ = some (.slice S.pa S.pts.length S.pc) ∧ w.cell? ⟨B, 1, none⟩ = some (.slice S.ha S.hs.length S.hc) ∧ w.cell? ⟨B, 2, none⟩ = some (.int .i64 S.steep) ∧ w.cell? ⟨B, 3, none⟩ = some (.int .i64 S.th.lo) ∧ w.cell? ⟨B, 4, none⟩ = some (.int .i64 S.th.hi) ∧ w.cell? ⟨B, 5, none⟩ = some (.slice S.ma S.ms.length S.mc) := ⟨k.cell 0, k.cell 1, k.cell 2, k.cell 3, k.cell 4, k.cell 5⟩
theorem spn_cells {w : World} {B : Nat} {s : Spn} {t : TypeId} (k : Blk w B #[.int .i64 s.lo, .int .i64 s.hi] t) : w.cell? ⟨B, 0, none⟩ = some (.int .i64 s.lo) ∧ w.cell? ⟨B, 1, none⟩ = some (.int .i64 s.hi) := ⟨k.cell 0, k.cell 1⟩
theorem pnt_cells {w : World} {B : Nat} {s : Pnt} {t : TypeId} (k : Blk w B #[.int .i64 s.x, .int .i64 s.y] t) : w.cell? ⟨B, 0, none⟩ = some (.int .i64 s.x) ∧ w.cell? ⟨B, 1, none⟩ = some (.int .i64 s.y) := ⟨k.cell 0, k.cell 1⟩

set_option maxRecDepth 100000 in
set_option maxHeartbeats 8000000 in
theorem bounds_any (S : Skn) (p : Pnt) (w : World) (hS : IsSkn w S) (hg : Laid w) (hst : 0 ≤ S.steep ∧ S.steep ≤ 1000) (hm : ∀ m ∈ S.ms, mrkOk m) (hp : pointB p = true) :
    Calls Tryd.prog 48 #[.agg #[.slice S.pa S.pts.length S.pc, .slice S.ha S.hs.length S.hc, .int .i64 S.steep, .int .i64 S.th.lo, .int .i64 S.th.hi, .slice S.ma S.ms.length S.mc], .agg #[.int .i64 p.x, .int .i64 p.y]] w fun e w' => e = .returned (.agg #[.int .i64 (boundM S p).lo, .int .i64 (boundM S p).hi]) ∧ Below w.heap.size w w' := by
  have k1 : Blk ((((w.alloc (.cells #[.slice S.pa S.pts.length S.pc, .slice S.ha S.hs.length S.hc, .int .i64 S.steep, .int .i64 S.th.lo, .int .i64 S.th.hi, .slice S.ma S.ms.length S.mc] 30)).alloc (.cells #[.int .i64 p.x, .int .i64 p.y] 45)).alloc (.cells #[.int .i64 0, .int .i64 0] 27)).alloc (.cells #[.int .i64 S.th.lo, .int .i64 S.th.hi] 27)) w.heap.size #[.slice S.pa S.pts.length S.pc, .slice S.ha S.hs.length S.hc, .int .i64 S.steep, .int .i64 S.th.lo, .int .i64 S.th.hi, .slice S.ma S.ms.length S.mc] 30 := (((Blk.new w _ _).alloc _).alloc _).alloc _
  have k2 : Blk ((((w.alloc (.cells #[.slice S.pa S.pts.length S.pc, .slice S.ha S.hs.length S.hc, .int .i64 S.steep, .int .i64 S.th.lo, .int .i64 S.th.hi, .slice S.ma S.ms.length S.mc] 30)).alloc (.cells #[.int .i64 p.x, .int .i64 p.y] 45)).alloc (.cells #[.int .i64 0, .int .i64 0] 27)).alloc (.cells #[.int .i64 S.th.lo, .int .i64 S.th.hi] 27)) (w.heap.size + 1) #[.int .i64 p.x, .int .i64 p.y] 45 := by
    have := ((Blk.new (w.alloc (.cells #[.slice S.pa S.pts.length S.pc, .slice S.ha S.hs.length S.hc, .int .i64 S.steep, .int .i64 S.th.lo, .int .i64 S.th.hi, .slice S.ma S.ms.length S.mc] 30)) 45 #[.int .i64 p.x, .int .i64 p.y]).alloc (.cells #[.int .i64 0, .int .i64 0] 27)).alloc (.cells #[.int .i64 S.th.lo, .int .i64 S.th.hi] 27)
    rwa [World.size_alloc] at this
  have k3 : Blk ((((w.alloc (.cells #[.slice S.pa S.pts.length S.pc, .slice S.ha S.hs.length S.hc, .int .i64 S.steep, .int .i64 S.th.lo, .int .i64 S.th.hi, .slice S.ma S.ms.length S.mc] 30)).alloc (.cells #[.int .i64 p.x, .int .i64 p.y] 45)).alloc (.cells #[.int .i64 0, .int .i64 0] 27)).alloc (.cells #[.int .i64 S.th.lo, .int .i64 S.th.hi] 27)) (w.heap.size + 1 + 1) #[.int .i64 0, .int .i64 0] 27 := by
    have := (Blk.new ((w.alloc (.cells #[.slice S.pa S.pts.length S.pc, .slice S.ha S.hs.length S.hc, .int .i64 S.steep, .int .i64 S.th.lo, .int .i64 S.th.hi, .slice S.ma S.ms.length S.mc] 30)).alloc (.cells #[.int .i64 p.x, .int .i64 p.y] 45)) 27 #[.int .i64 0, .int .i64 0]).alloc (.cells #[.int .i64 S.th.lo, .int .i64 S.th.hi] 27)
    rwa [World.size_alloc, World.size_alloc] at this
  have k4 : Blk ((((w.alloc (.cells #[.slice S.pa S.pts.length S.pc, .slice S.ha S.hs.length S.hc, .int .i64 S.steep, .int .i64 S.th.lo, .int .i64 S.th.hi, .slice S.ma S.ms.length S.mc] 30)).alloc (.cells #[.int .i64 p.x, .int .i64 p.y] 45)).alloc (.cells #[.int .i64 0, .int .i64 0] 27)).alloc (.cells #[.int .i64 S.th.lo, .int .i64 S.th.hi] 27)) (w.heap.size + 1 + 1 + 1) #[.int .i64 S.th.lo, .int .i64 S.th.hi] 27 := by
    have := Blk.new (((w.alloc (.cells #[.slice S.pa S.pts.length S.pc, .slice S.ha S.hs.length S.hc, .int .i64 S.steep, .int .i64 S.th.lo, .int .i64 S.th.hi, .slice S.ma S.ms.length S.mc] 30)).alloc (.cells #[.int .i64 p.x, .int .i64 p.y] 45)).alloc (.cells #[.int .i64 0, .int .i64 0] 27)) 27 #[.int .i64 S.th.lo, .int .i64 S.th.hi]
    rwa [World.size_alloc, World.size_alloc, World.size_alloc] at this
  have hb1 : Below w.heap.size w ((((w.alloc (.cells #[.slice S.pa S.pts.length S.pc, .slice S.ha S.hs.length S.hc, .int .i64 S.steep, .int .i64 S.th.lo, .int .i64 S.th.hi, .slice S.ma S.ms.length S.mc] 30)).alloc (.cells #[.int .i64 p.x, .int .i64 p.y] 45)).alloc (.cells #[.int .i64 0, .int .i64 0] 27)).alloc (.cells #[.int .i64 S.th.lo, .int .i64 S.th.hi] 27)) := ((((Below.refl _ w).alloc (Nat.le_refl _) _).alloc (by simp) _).alloc (by simp; omega) _).alloc (by simp; omega) _
  have HS := Lib.hid hS
  have HG := Lib.hid hg
  have HM := Lib.hid hm
  have HP := Lib.hid hp
  have HST := Lib.hid hst
  have hlen := hS.ms.len
  clear hS hg hm hp hst
  go_enter Tryd.func48, Tryd.ntmps48
  go_upto_region 2 with fail
  generalize ((((w.alloc (.cells #[.slice S.pa S.pts.length S.pc, .slice S.ha S.hs.length S.hc, .int .i64 S.steep, .int .i64 S.th.lo, .int .i64 S.th.hi, .slice S.ma S.ms.length S.mc] 30)).alloc (.cells #[.int .i64 p.x, .int .i64 p.y] 45)).alloc (.cells #[.int .i64 0, .int .i64 0] 27)).alloc (.cells #[.int .i64 S.th.lo, .int .i64 S.th.hi] 27)) = w2 at *
  obtain ⟨s0, s1, s2, s3, s4, s5⟩ := skn_cells (S := S) k1
  have l1 := k1.lt
  have HB2 := Lib.hid hb1
  have K1 := Lib.hid k1
  have K2 := Lib.hid k2
  have K3 := Lib.hid k3
  have K4 := Lib.hid k4
  clear k1 k2 k3 k4 hb1
  go_wp2_with fail
  go_loopw [7, 13] (fun _ s13 wr => ∃ (j : Nat) (A : Spn), j ≤ S.ms.length ∧ s13 = .int .i64 j ∧ boundF S.steep S.th p (S.ms.take j) = A ∧ Blk wr w.heap.size #[.slice S.pa S.pts.length S.pc, .slice S.ha S.hs.length S.hc, .int .i64 S.steep, .int .i64 S.th.lo, .int .i64 S.th.hi, .slice S.ma S.ms.length S.mc] 30 ∧ Blk wr (w.heap.size + 1) #[.int .i64 p.x, .int .i64 p.y] 45 ∧ Blk wr (w.heap.size + 1 + 1) #[.int .i64 0, .int .i64 0] 27 ∧ Blk wr (w.heap.size + 1 + 1 + 1) #[.int .i64 A.lo, .int .i64 A.hi] 27 ∧ Below w.heap.size w wr) (fun _ i _ => S.ms.length - (intOf i).toNat)
  case atStart => exact ⟨0, S.th, Nat.zero_le _, rfl, rfl, K1.out, K2.out, K3.out, K4.out, HB2.out⟩
  case round =>
  obtain ⟨j, A, hj, rfl, hA, g1, g2, g3, g4, gb⟩ := hrel
  obtain ⟨w3, rfl⟩ : ∃ w3 : World, w3 = wr := ⟨_, rfl⟩
  clear s0 s1 s2 s3 s4 s5 l1
  by_cases hlj : j < S.ms.length
  rotate_left
  · obtain rfl : j = S.ms.length := by omega
    have hlj' : ¬ (S.ms.length : Int) < (S.ms.length : Int) := by omega
    rw [List.take_of_length_le (Nat.le_refl _)] at hA
    have HA := Lib.hid (show boundM S p = A from hA)
    obtain ⟨a0, a1⟩ := spn_cells g4
    obtain ⟨r0, r1⟩ := spn_cells (s := ⟨0, 0⟩) g3
    have z0 := g3.frozen 0
    have z1 := g3.frozen 1
    have l3 := g3.lt
    have l4 := g4.lt
    have HB3 := Lib.hid gb
    have K33 := Lib.hid g3
    clear hA g1 g2 g3 g4 gb hj hlj
    go_wp2_with fail
    have kf := (K33.out.set 0 (.int .i64 A.lo)).set 1 (.int .i64 A.hi)
    have hbf := (HB3.out.setCell (p := ⟨w.heap.size + 1 + 1, 0, none⟩) (by show w.heap.size ≤ w.heap.size + 1 + 1; omega) (.int .i64 A.lo)).setCell (p := ⟨w.heap.size + 1 + 1, 1, none⟩) (by show w.heap.size ≤ w.heap.size + 1 + 1; omega) (.int .i64 A.hi)
    obtain ⟨x0, x1⟩ := spn_cells (s := A) kf
    generalize (w3.setCell ⟨w.heap.size + 1 + 1, 0, none⟩ (.int .i64 A.lo)).setCell ⟨w.heap.size + 1 + 1, 1, none⟩ (.int .i64 A.hi) = wf at *
    exact bodyPost_ret (v := .agg #[.int .i64 A.lo, .int .i64 A.hi]) (by simp [results, Tryd.results48, go_sem, x0, x1]) rfl ⟨by rw [HA.out], hbf⟩
  have hlj' : (j : Int) < (S.ms.length : Int) := by omega
  have hjs : IntKind.i64.wrap ((j : Int) + 1) = ((j + 1 : Nat) : Int) := by rw [IntKind.wrap_i64]; omega
  have hq : S.ms[j]? = some S.ms[j] := List.getElem?_eq_getElem hlj
  obtain ⟨b, off, hea, hbl, hcap, hcx, y0, y1, y2, y3⟩ := (HS.out.ms.below gb).at hq
  have hmk := HM.out _ (List.getElem_mem hlj)
  have HA := Lib.hid (show boundF S.steep S.th p (S.ms.take (j + 1)) = comM A (widM S.ms[j].th (S.steep * distM S.ms[j].at_ p)) by rw [List.take_add_one, hq]; simp only [Option.toList]; rw [boundF_snoc, hA])
  generalize S.ms[j] = m at *
  simp only [mrkC, List.getElem?_toArray, List.getElem?_cons_zero, List.getElem?_cons_succ] at y0 y1 y2 y3
  obtain ⟨hmp, hmt⟩ := hmk
  have hsp := isSpanB_iff.1 hmt
  have hd := dist_bd hmp HP.out
  have hpr := mul_bd (a := S.steep) (b := distM m.at_ p) (m := 1000) (n := 800) (by have := HST.out; omega) (by have := HST.out; omega) (by omega) (by omega)
  have HD := Lib.hid (fun W' => distance_any m.at_ p hmp HP.out W')
  have HW := Lib.hid (fun W' => widened_any m.th (S.steep * distM m.at_ p) (by omega) W')
  have hwp : IntKind.i64.wrap (S.steep * distM m.at_ p) = S.steep * distM m.at_ p := by rw [IntKind.wrap_i64]; omega
  generalize distM m.at_ p = D at *
  have HLJ := Lib.hid hlj
  have kM := Blk.new w3 61 #[.int .i64 m.at_.x, .int .i64 m.at_.y, .int .i64 m.th.lo, .int .i64 m.th.hi]
  have hb4 : Below w3.heap.size w3 (w3.alloc (.cells #[.int .i64 m.at_.x, .int .i64 m.at_.y, .int .i64 m.th.lo, .int .i64 m.th.hi] 61)) := (Below.refl _ w3).alloc (Nat.le_refl _) _
  rw [hea] at g1
  have h1 := g1.belowS hb4
  have h2 := g2.belowS hb4
  have h3 := g3.belowS hb4
  have h4 := g4.belowS hb4
  have s5 : w3.cell? ⟨w.heap.size, 5, none⟩ = some (.slice (some ⟨b, off, none⟩) S.ms.length S.mc) := g1.cell 5
  have l1 := g1.lt
  have HGB := Lib.hid (gb.trans (hb4.mono gb.size))
  clear hq hpr hd hsp hmp hmt g1 g2 g3 g4 gb hj hlj hA
  go_upto_region 5 with fail
  clear y0 y1 y2 y3 hbl hcap hcx s5 l1
  generalize w3.alloc (.cells #[.int .i64 m.at_.x, .int .i64 m.at_.y, .int .i64 m.th.lo, .int .i64 m.th.hi] 61) = w4 at *
  have K14 := Lib.hid h1
  have K24 := Lib.hid h2
  have K34 := Lib.hid h3
  have K44 := Lib.hid h4
  have KM4 := Lib.hid kM
  have HG4 := Lib.hid (HG.out.below HGB.out)
  have hst : ∀ w', Below w4.heap.size w4 w' → (fun w' : World => Below w4.heap.size w4 w' ∧ (w'.cell? ⟨w.heap.size, 0, none⟩ = some (.slice S.pa S.pts.length S.pc) ∧ w'.cell? ⟨w.heap.size, 1, none⟩ = some (.slice S.ha S.hs.length S.hc) ∧ w'.cell? ⟨w.heap.size, 2, none⟩ = some (.int .i64 S.steep) ∧ w'.cell? ⟨w.heap.size, 3, none⟩ = some (.int .i64 S.th.lo) ∧ w'.cell? ⟨w.heap.size, 4, none⟩ = some (.int .i64 S.th.hi) ∧ w'.cell? ⟨w.heap.size, 5, none⟩ = some (.slice (some ⟨b, off, none⟩) S.ms.length S.mc) ∧ w'.cell? ⟨w.heap.size + 1, 0, none⟩ = some (.int .i64 p.x) ∧ w'.cell? ⟨w.heap.size + 1, 1, none⟩ = some (.int .i64 p.y) ∧ w'.cell? ⟨w.heap.size + 1 + 1 + 1, 0, none⟩ = some (.int .i64 A.lo) ∧ w'.cell? ⟨w.heap.size + 1 + 1 + 1, 1, none⟩ = some (.int .i64 A.hi) ∧ w'.cell? ⟨w3.heap.size, 0, none⟩ = some (.int .i64 m.at_.x) ∧ w'.cell? ⟨w3.heap.size, 1, none⟩ = some (.int .i64 m.at_.y) ∧ w'.cell? ⟨w3.heap.size, 2, none⟩ = some (.int .i64 m.th.lo) ∧ w'.cell? ⟨w3.heap.size, 3, none⟩ = some (.int .i64 m.th.hi))) w' := fun w' hb => by
    have x1 := K14.out.belowS hb
    have x2 := K24.out.belowS hb
    have x4 := K44.out.belowS hb
    have xm := KM4.out.belowS hb
    exact ⟨hb, x1.cell 0, x1.cell 1, x1.cell 2, x1.cell 3, x1.cell 4, x1.cell 5, x2.cell 0, x2.cell 1, x4.cell 0, x4.cell 1, xm.cell 0, xm.cell 1, xm.cell 2, xm.cell 3⟩
  have HSTE := Lib.hid hst
  clear h1 h2 h3 h4 kM hst hb4
  have hx := HSTE.out w4.drew ((Below.refl _ w4).drew)
  refine wp_region_E 12 (fun w' : World => Below w4.heap.size w4 w' ∧ (w'.cell? ⟨w.heap.size, 0, none⟩ = some (.slice S.pa S.pts.length S.pc) ∧ w'.cell? ⟨w.heap.size, 1, none⟩ = some (.slice S.ha S.hs.length S.hc) ∧ w'.cell? ⟨w.heap.size, 2, none⟩ = some (.int .i64 S.steep) ∧ w'.cell? ⟨w.heap.size, 3, none⟩ = some (.int .i64 S.th.lo) ∧ w'.cell? ⟨w.heap.size, 4, none⟩ = some (.int .i64 S.th.hi) ∧ w'.cell? ⟨w.heap.size, 5, none⟩ = some (.slice (some ⟨b, off, none⟩) S.ms.length S.mc) ∧ w'.cell? ⟨w.heap.size + 1, 0, none⟩ = some (.int .i64 p.x) ∧ w'.cell? ⟨w.heap.size + 1, 1, none⟩ = some (.int .i64 p.y) ∧ w'.cell? ⟨w.heap.size + 1 + 1 + 1, 0, none⟩ = some (.int .i64 A.lo) ∧ w'.cell? ⟨w.heap.size + 1 + 1 + 1, 1, none⟩ = some (.int .i64 A.hi) ∧ w'.cell? ⟨w3.heap.size, 0, none⟩ = some (.int .i64 m.at_.x) ∧ w'.cell? ⟨w3.heap.size, 1, none⟩ = some (.int .i64 m.at_.y) ∧ w'.cell? ⟨w3.heap.size, 2, none⟩ = some (.int .i64 m.th.lo) ∧ w'.cell? ⟨w3.heap.size, 3, none⟩ = some (.int .i64 m.th.hi))) (by kernel_rfl) ?_
  refine E_take (i := 0) (oi := _) (v := ?vt1) rfl (by kernel_rfl) (by kernel_rfl) (by kernel_rfl) (by kernel_rfl) (fun _ _ _ h => h) hx (Or.inl ⟨by rfl, ?yt1⟩) ?rt1
  case yt1 => (intro w' hSw; (try dsimp only at hSw); go_simp; try with_reducible rfl)
  try simp only [Act.put, List.getElem_toArray, List.getElem_cons_zero, List.getElem_cons_succ, List.setIfInBounds_toArray, List.set_cons_zero, List.set_cons_succ]
  refine E_take (i := 1) (oi := _) (v := ?vt2) rfl (by kernel_rfl) (by kernel_rfl) (by kernel_rfl) (by kernel_rfl) (fun _ _ _ h => h) hx (Or.inl ⟨by rfl, ?yt2⟩) ?rt2
  case yt2 => (intro w' hSw; (try dsimp only at hSw); go_simp; try with_reducible rfl)
  try simp only [Act.put, List.getElem_toArray, List.getElem_cons_zero, List.getElem_cons_succ, List.setIfInBounds_toArray, List.set_cons_zero, List.set_cons_succ]
  refine E_take (i := 2) (oi := _) (v := ?vt3) rfl (by kernel_rfl) (by kernel_rfl) (by kernel_rfl) (by kernel_rfl) (fun _ _ _ h => h) hx (Or.inl ⟨by rfl, ?yt3⟩) ?rt3
  case yt3 => (intro w' hSw; (try dsimp only at hSw); go_simp; try with_reducible rfl)
  try simp only [Act.put, List.getElem_toArray, List.getElem_cons_zero, List.getElem_cons_succ, List.setIfInBounds_toArray, List.set_cons_zero, List.set_cons_succ]
  refine E_take (i := 3) (oi := _) (v := ?vt4) rfl (by kernel_rfl) (by kernel_rfl) (by kernel_rfl) (by kernel_rfl) (fun _ _ _ h => h) hx (Or.inl ⟨by rfl, ?yt4⟩) ?rt4
  case yt4 => (intro w' hSw; (try dsimp only at hSw); go_simp; try with_reducible rfl)
  try simp only [Act.put, List.getElem_toArray, List.getElem_cons_zero, List.getElem_cons_succ, List.setIfInBounds_toArray, List.set_cons_zero, List.set_cons_succ]
  refine E_take (i := 4) (oi := _) (v := ?vt5) rfl (by kernel_rfl) (by kernel_rfl) (by kernel_rfl) (by kernel_rfl) (fun _ _ _ h => h) hx (Or.inl ⟨by rfl, ?yt5⟩) ?rt5
  case yt5 => (intro w' hSw; (try dsimp only at hSw); go_simp; try with_reducible rfl)
  try simp only [Act.put, List.getElem_toArray, List.getElem_cons_zero, List.getElem_cons_succ, List.setIfInBounds_toArray, List.set_cons_zero, List.set_cons_succ]
  refine E_take (i := 5) (oi := _) (v := ?vt6) rfl (by kernel_rfl) (by kernel_rfl) (by kernel_rfl) (by kernel_rfl) (fun _ _ _ h => h) hx (Or.inl ⟨by rfl, ?yt6⟩) ?rt6
  case yt6 => (intro w' hSw; (try dsimp only at hSw); go_simp; try with_reducible rfl)
  try simp only [Act.put, List.getElem_toArray, List.getElem_cons_zero, List.getElem_cons_succ, List.setIfInBounds_toArray, List.set_cons_zero, List.set_cons_succ]
  refine E_take (i := 6) (oi := _) (v := ?vt7) rfl (by kernel_rfl) (by kernel_rfl) (by kernel_rfl) (by kernel_rfl) (fun _ _ _ h => h) hx (Or.inl ⟨by rfl, ?yt7⟩) ?rt7
  case yt7 => (intro w' hSw; (try dsimp only at hSw); go_simp; try with_reducible rfl)
  try simp only [Act.put, List.getElem_toArray, List.getElem_cons_zero, List.getElem_cons_succ, List.setIfInBounds_toArray, List.set_cons_zero, List.set_cons_succ]
  refine E_take (i := 7) (oi := _) (v := ?vt8) rfl (by kernel_rfl) (by kernel_rfl) (by kernel_rfl) (by kernel_rfl) (fun _ _ _ h => h) hx (Or.inl ⟨by rfl, ?yt8⟩) ?rt8
  case yt8 => (intro w' hSw; (try dsimp only at hSw); go_simp; try with_reducible rfl)
  try simp only [Act.put, List.getElem_toArray, List.getElem_cons_zero, List.getElem_cons_succ, List.setIfInBounds_toArray, List.set_cons_zero, List.set_cons_succ]
  refine E_step (i := 8) (o := _) (by kernel_rfl) rfl (fun K hK => ?_)
  go_simp
  refine (HD.out _).mono ?_
  rintro e w5 ⟨rfl, hb5⟩
  (try dsimp only)
  have hb45 : Below w4.heap.size w4 w5 := hx.1.trans (hb5.mono hx.1.size)
  refine hK.out _ _ (fun _ => HSTE.out w5 hb45) ?_
  clear hK K
  try simp only [Act.put, List.getElem_toArray, List.getElem_cons_zero, List.getElem_cons_succ, List.setIfInBounds_toArray, List.set_cons_zero, List.set_cons_succ]
  have hx5 := HSTE.out w5 hb45
  refine E_take (i := 9) (oi := _) (v := ?vt9) rfl (by kernel_rfl) (by kernel_rfl) (by kernel_rfl) (by kernel_rfl) (fun _ _ _ h => h) hx5 (Or.inl ⟨by rfl, ?yt9⟩) ?rt9
  case yt9 => (intro w' hSw; (try dsimp only at hSw); go_simp; try with_reducible rfl)
  try simp only [Act.put, List.getElem_toArray, List.getElem_cons_zero, List.getElem_cons_succ, List.setIfInBounds_toArray, List.set_cons_zero, List.set_cons_succ]
  refine E_step (i := 10) (o := _) (by kernel_rfl) rfl (fun K hK => ?_)
  go_simp
  refine (HW.out _).mono ?_
  rintro e w6 ⟨rfl, hb6⟩
  (try dsimp only)
  have hb46 : Below w4.heap.size w4 w6 := hb45.trans (hb6.mono hb45.size)
  refine hK.out _ _ (fun _ => HSTE.out w6 hb46) ?_
  clear hK K
  try simp only [Act.put, List.getElem_toArray, List.getElem_cons_zero, List.getElem_cons_succ, List.setIfInBounds_toArray, List.set_cons_zero, List.set_cons_succ]
  refine E_step (i := 11) (o := _) (by kernel_rfl) rfl (fun K hK => ?_)
  go_simp
  refine (common_any A (widM m.th (S.steep * D)) _ (HG4.out.below hb46)).mono ?_
  rintro e w7 ⟨rfl, hb7⟩
  (try dsimp only)
  have hb47 : Below w4.heap.size w4 w7 := hb46.trans (hb7.mono hb46.size)
  refine hK.out _ _ (fun _ => HSTE.out w7 hb47) ?_
  clear hK K
  try simp only [Act.put, List.getElem_toArray, List.getElem_cons_zero, List.getElem_cons_succ, List.setIfInBounds_toArray, List.set_cons_zero, List.set_cons_succ]
  have k7 := K44.out.belowS hb47
  obtain ⟨a0, a1⟩ := spn_cells k7
  have z0 := k7.frozen 0
  have z1 := k7.frozen 1
  have l7 := k7.lt
  obtain ⟨C, hC⟩ : ∃ C, comM A (widM m.th (S.steep * D)) = C := ⟨_, rfl⟩
  rw [hC] at HA ⊢
  have HB47 := Lib.hid hb47
  have K7 := Lib.hid k7
  clear hx hx5 hb5 hb6 hb7 hb45 hb46 hb47 hC k7
  refine E_step (i := 12) (o := _) (by kernel_rfl) rfl (fun K hK => ?_)
  go_simp
  refine hK.out _ _ (fun h => absurd rfl h) ?_
  clear hK K
  try simp only [Act.put, List.getElem_toArray, List.getElem_cons_zero, List.getElem_cons_succ, List.setIfInBounds_toArray, List.set_cons_zero, List.set_cons_succ]
  refine E_done (by kernel_rfl) ?_ _
  have kf : Blk ((w7.setCell ⟨w.heap.size + 1 + 1 + 1, 0, none⟩ (.int .i64 C.lo)).setCell ⟨w.heap.size + 1 + 1 + 1, 1, none⟩ (.int .i64 C.hi)) (w.heap.size + 1 + 1 + 1) #[.int .i64 C.lo, .int .i64 C.hi] 27 := ((K7.out.set 0 (.int .i64 C.lo)).set 1 (.int .i64 C.hi))
  have ht : Turn (fun k => k = w.heap.size + 1 + 1 + 1) w7 ((w7.setCell ⟨w.heap.size + 1 + 1 + 1, 0, none⟩ (.int .i64 C.lo)).setCell ⟨w.heap.size + 1 + 1 + 1, 1, none⟩ (.int .i64 C.hi)) := (((Turn.of_below (X := fun k => k = w.heap.size + 1 + 1 + 1) (Below.refl _ w7)).setCell (B := w.heap.size + 1 + 1 + 1) rfl 0 (.int .i64 C.lo)).setCell (B := w.heap.size + 1 + 1 + 1) rfl 1 (.int .i64 C.hi))
  generalize ((w7.setCell ⟨w.heap.size + 1 + 1 + 1, 0, none⟩ (.int .i64 C.lo)).setCell ⟨w.heap.size + 1 + 1 + 1, 1, none⟩ (.int .i64 C.hi)) = w8 at *
  have e1 := ht.blk (K14.out.belowS HB47.out) (fun e => by have := (show w.heap.size = w.heap.size + 1 + 1 + 1 from e); omega)
  have e2 := ht.blk (K24.out.belowS HB47.out) (fun e => by have := (show w.heap.size + 1 = w.heap.size + 1 + 1 + 1 from e); omega)
  have e3 := ht.blk (K34.out.belowS HB47.out) (fun e => by have := (show w.heap.size + 1 + 1 = w.heap.size + 1 + 1 + 1 from e); omega)
  have hb8 := HGB.out.trans (HB47.out.mono HGB.out.size)
  have hb9 := hb8.trans (ht.below (base := w.heap.size) hb8.size (fun k e => by rw [show k = w.heap.size + 1 + 1 + 1 from e]; omega))
  have E1 := Lib.hid e1
  have E2 := Lib.hid e2
  have E3 := Lib.hid e3
  have E4 := Lib.hid kf
  have E5 := Lib.hid hb9
  clear a0 a1 z0 z1 l7 kf ht e1 e2 e3 hb8 hb9
  go_wp2_with fail
  exact ⟨⟨j + 1, by have := HLJ.out; omega, rfl, E1.out, E2.out, E3.out, by rw [HA.out]; exact E4.out, E5.out⟩, by have := HLJ.out; simp [intOf]; omega⟩
end Go.Proofs.YtoigihmgjacbjaaDoor
