/- Patterns of cuts: what is wanted (wanted), what a pattern weighs (weigh), the weights of a fold (fold). No condition but the limits of rods that may be. -/
import Derived.Test.YtmcmhgjlpffcnaaPL
import Derived.Lib.Overlaps
set_option linter.unusedSimpArgs false
namespace Go.Proofs.Ytmcmhgjlpffcnaa
open Go.RowKit

/-- The element i of a list of numbers, or 0. -/
def ent (q : List Int) (i : Nat) : Int := q.getD i 0
/-- The cells of a pattern: how often each of eight cuts stands in it. -/
def patC (q : List Int) : Array Value := #[.int .i64 (ent (q) 0), .int .i64 (ent (q) 1), .int .i64 (ent (q) 2), .int .i64 (ent (q) 3), .int .i64 (ent (q) 4), .int .i64 (ent (q) 5), .int .i64 (ent (q) 6), .int .i64 (ent (q) 7)]
theorem patC_set (q : List Int) (c : Nat) (v : Int) (hq : q.length = 8) (hc : c < 8) : (patC q).setIfInBounds c (.int .i64 v) = patC (q.set c v) := by
  match q, hq with
  | [a0, a1, a2, a3, a4, a5, a6, a7], _ =>
    rcases (show c = 0 ∨ c = 1 ∨ c = 2 ∨ c = 3 ∨ c = 4 ∨ c = 5 ∨ c = 6 ∨ c = 7 by omega) with rfl | rfl | rfl | rfl | rfl | rfl | rfl | rfl <;> rfl
theorem set8 (a0 v0 a1 v1 a2 v2 a3 v3 a4 v4 a5 v5 a6 v6 a7 v7 : Value) : ((((((((#[a0, a1, a2, a3, a4, a5, a6, a7].setIfInBounds 0 v0).setIfInBounds 1 v1).setIfInBounds 2 v2).setIfInBounds 3 v3).setIfInBounds 4 v4).setIfInBounds 5 v5).setIfInBounds 6 v6).setIfInBounds 7 v7) = #[v0, v1, v2, v3, v4, v5, v6, v7] := by simp
theorem pat_cells {W : World} {B : Nat} {q : List Int} {t : TypeId} (h : Blk W B (patC q) t) :
    W.cell? ⟨B, 0, none⟩ = some (.int .i64 (ent q 0)) ∧ W.cell? ⟨B, 1, none⟩ = some (.int .i64 (ent q 1)) ∧ W.cell? ⟨B, 2, none⟩ = some (.int .i64 (ent q 2)) ∧ W.cell? ⟨B, 3, none⟩ = some (.int .i64 (ent q 3)) ∧ W.cell? ⟨B, 4, none⟩ = some (.int .i64 (ent q 4)) ∧ W.cell? ⟨B, 5, none⟩ = some (.int .i64 (ent q 5)) ∧ W.cell? ⟨B, 6, none⟩ = some (.int .i64 (ent q 6)) ∧ W.cell? ⟨B, 7, none⟩ = some (.int .i64 (ent q 7)) := ⟨h.cell 0, h.cell 1, h.cell 2, h.cell 3, h.cell 4, h.cell 5, h.cell 6, h.cell 7⟩
theorem pat_at {W : World} {B : Nat} {q : List Int} {t : TypeId} (h : Blk W B (patC q) t) {i : Nat} (hi : i < 8) : W.cell? ⟨B, i, none⟩ = some (.int .i64 (ent q i)) := by
  rcases (show i = 0 ∨ i = 1 ∨ i = 2 ∨ i = 3 ∨ i = 4 ∨ i = 5 ∨ i = 6 ∨ i = 7 by omega) with rfl | rfl | rfl | rfl | rfl | rfl | rfl | rfl
  · exact h.cell 0
  · exact h.cell 1
  · exact h.cell 2
  · exact h.cell 3
  · exact h.cell 4
  · exact h.cell 5
  · exact h.cell 6
  · exact h.cell 7
/-- What is wanted of the first k cuts. -/
def wantTo (l : List Cut) (k : Nat) : List Int := (List.range 8).map fun i => if i < k then (match l[i]? with | some x => x.mn | none => 0) else 0
def wantL (l : List Cut) : List Int := wantTo l l.length
theorem wantTo_len (l : List Cut) (k : Nat) : (wantTo l k).length = 8 := by simp [wantTo]
theorem wantTo_zero (l : List Cut) : wantTo l 0 = List.replicate 8 0 := by simp [wantTo]; rfl
theorem wantTo_succ {l : List Cut} {k : Nat} {x : Cut} (h : l[k]? = some x) (hk : k < 8) : wantTo l (k + 1) = (wantTo l k).set k x.mn := by
  apply List.ext_getElem?
  intro i
  simp only [wantTo, List.getElem?_set, List.length_map, List.length_range, List.getElem?_map, List.getElem?_range]
  by_cases hi : i < 8
  · simp only [List.getElem?_range hi, Option.map_some]
    by_cases e : k = i
    · subst e
      simp [h, hk]
    · simp only [e, if_false]
      congr 1
      by_cases h2 : i < k
      · rw [if_pos (by omega), if_pos h2]
      · rw [if_neg (by omega), if_neg h2]
  · have : (List.range 8)[i]? = none := by simp; omega
    simp only [this, Option.map_none]
    by_cases e : k = i
    · omega
    · simp [e]

set_option maxRecDepth 100000 in
set_option maxHeartbeats 8000000 in
theorem wanted_any (r : Rds) (w : World) (hr : r.ok) (hrow : IsCts w r.ca r.cc r.cs) :
    Calls Try.prog 91 #[.agg #[.int .i64 r.stock, .int .i64 r.kerf, .slice r.ca r.cs.length r.cc]] w fun e w' => e = .returned (.agg (patC (wantL r.cs))) ∧ Below w.heap.size w w' := by
  have k1 := ((Blk.new w 43 #[.int .i64 r.stock, .int .i64 r.kerf, .slice r.ca r.cs.length r.cc]).alloc (.cells #[.int .i64 0, .int .i64 0, .int .i64 0, .int .i64 0, .int .i64 0, .int .i64 0, .int .i64 0, .int .i64 0] 105)).alloc (.cells #[.int .i64 0, .int .i64 0, .int .i64 0, .int .i64 0, .int .i64 0, .int .i64 0, .int .i64 0, .int .i64 0] 105)
  have k2 := (Blk.new (w.alloc (.cells #[.int .i64 r.stock, .int .i64 r.kerf, .slice r.ca r.cs.length r.cc] 43)) 105 #[.int .i64 0, .int .i64 0, .int .i64 0, .int .i64 0, .int .i64 0, .int .i64 0, .int .i64 0, .int .i64 0]).alloc (.cells #[.int .i64 0, .int .i64 0, .int .i64 0, .int .i64 0, .int .i64 0, .int .i64 0, .int .i64 0, .int .i64 0] 105)
  have k3 := Blk.new ((w.alloc (.cells #[.int .i64 r.stock, .int .i64 r.kerf, .slice r.ca r.cs.length r.cc] 43)).alloc (.cells #[.int .i64 0, .int .i64 0, .int .i64 0, .int .i64 0, .int .i64 0, .int .i64 0, .int .i64 0, .int .i64 0] 105)) 105 #[.int .i64 0, .int .i64 0, .int .i64 0, .int .i64 0, .int .i64 0, .int .i64 0, .int .i64 0, .int .i64 0]
  have hb1 : Below w.heap.size w (((w.alloc (.cells #[.int .i64 r.stock, .int .i64 r.kerf, .slice r.ca r.cs.length r.cc] 43)).alloc (.cells #[.int .i64 0, .int .i64 0, .int .i64 0, .int .i64 0, .int .i64 0, .int .i64 0, .int .i64 0, .int .i64 0] 105)).alloc (.cells #[.int .i64 0, .int .i64 0, .int .i64 0, .int .i64 0, .int .i64 0, .int .i64 0, .int .i64 0, .int .i64 0] 105)) := (((Below.refl _ w).alloc (Nat.le_refl _) _).alloc (by simp) _).alloc (by simp; omega) _
  simp only [World.size_alloc] at k2 k3
  have hsz : (((w.alloc (.cells #[.int .i64 r.stock, .int .i64 r.kerf, .slice r.ca r.cs.length r.cc] 43)).alloc (.cells #[.int .i64 0, .int .i64 0, .int .i64 0, .int .i64 0, .int .i64 0, .int .i64 0, .int .i64 0, .int .i64 0] 105)).alloc (.cells #[.int .i64 0, .int .i64 0, .int .i64 0, .int .i64 0, .int .i64 0, .int .i64 0, .int .i64 0, .int .i64 0] 105)).heap.size = w.heap.size + 3 := by simp
  have HR := Lib.hid hr
  have HROW := Lib.hid hrow
  clear hr hrow
  go_enter Try.func91, Try.ntmps91
  go_upto_region 2 with fail
  generalize (((w.alloc (.cells #[.int .i64 r.stock, .int .i64 r.kerf, .slice r.ca r.cs.length r.cc] 43)).alloc (.cells #[.int .i64 0, .int .i64 0, .int .i64 0, .int .i64 0, .int .i64 0, .int .i64 0, .int .i64 0, .int .i64 0] 105)).alloc (.cells #[.int .i64 0, .int .i64 0, .int .i64 0, .int .i64 0, .int .i64 0, .int .i64 0, .int .i64 0, .int .i64 0] 105)) = w1 at *
  have K1 := Lib.hid k1
  have K2 := Lib.hid k2
  have K3 := Lib.hid k3
  have HB1 := Lib.hid hb1
  have HSZ := Lib.hid hsz
  obtain ⟨r0, r1, r2⟩ := rds_cells (r := r) k1
  have hlr := k1.lt
  clear k1 k2 k3 hb1 hsz
  go_wp2_with fail
  go_loopw [9, 4, 5] (fun i _ _ wr => ∃ j : Nat, j ≤ r.cs.length ∧ i = .int .i64 j ∧ Blk wr (w.heap.size + 1 + 1) (patC (wantTo r.cs j)) 105 ∧ Blk wr (w.heap.size + 1) #[.int .i64 0, .int .i64 0, .int .i64 0, .int .i64 0, .int .i64 0, .int .i64 0, .int .i64 0, .int .i64 0] 105 ∧ Below w.heap.size w wr) (fun i _ _ _ => r.cs.length - (intOf i).toNat)
  case atStart => exact ⟨0, Nat.zero_le _, rfl, by rw [wantTo_zero]; exact K3.out, K2.out, HB1.out⟩
  case round =>
    obtain ⟨j, hj, rfl, hk, hz, g2⟩ := hrel
    have HK := Lib.hid hk
    have HZ := Lib.hid hz
    have HBW := Lib.hid g2
    have hl8 := HR.out.len
    clear r0 r1 r2 hlr hz
    by_cases hlj : j < r.cs.length
    · have hq : r.cs[j]? = some r.cs[j] := List.getElem?_eq_getElem hlj
      obtain ⟨b, off, e, hbl, hc1, hc2, hp⟩ := (HROW.out.belowS g2).at hq
      have hst := wantTo_succ hq (by omega)
      generalize r.cs[j] = x at *
      obtain ⟨c0, c1⟩ := hp
      rw [e]
      have hj0 : (0 : Int) ≤ (j : Int) := Int.natCast_nonneg _
      have hj1 : (j : Int) < (r.cs.length : Int) := by omega
      have hj8 : (j : Int) < 8 := by omega
      have hkc := pat_at hk (i := j) (by omega)
      have hkz := hk.frozen j
      have hkl := hk.lt
      have HST := Lib.hid hst
      clear hk g2 e hq hst
      go_wp2_with fail
      have kf := HK.out.set j (.int .i64 x.mn)
      rw [patC_set _ _ _ (wantTo_len _ _) (by omega), ← HST.out] at kf
      have kz := HZ.out.other (B' := w.heap.size + 1 + 1) (i := j) (by omega) (.int .i64 x.mn)
      have hbf : Below w.heap.size w (wr.setCell ⟨w.heap.size + 1 + 1, j, none⟩ (.int .i64 x.mn)) := HBW.out.setCell (by show w.heap.size ≤ w.heap.size + 1 + 1; omega) _
      generalize wr.setCell ⟨w.heap.size + 1 + 1, j, none⟩ (.int .i64 x.mn) = wq at *
      exact ⟨⟨j + 1, by omega, by simp, kf.alloc _, kz.alloc _, hbf.alloc hbf.size _⟩, by simp [intOf]; omega⟩
    · obtain rfl : j = r.cs.length := by omega
      rw [show wantTo r.cs r.cs.length = wantL r.cs from rfl] at hk
      obtain ⟨x0, x1, x2, x3, x4, x5, x6, x7⟩ := pat_cells hk
      have lk := hk.lt
      have lz := HZ.out.lt
      obtain ⟨y0, y1, y2, y3, y4, y5, y6, y7⟩ := (show wr.cell? ⟨w.heap.size + 1, 0, none⟩ = some (.int .i64 0) ∧ wr.cell? ⟨w.heap.size + 1, 1, none⟩ = some (.int .i64 0) ∧ wr.cell? ⟨w.heap.size + 1, 2, none⟩ = some (.int .i64 0) ∧ wr.cell? ⟨w.heap.size + 1, 3, none⟩ = some (.int .i64 0) ∧ wr.cell? ⟨w.heap.size + 1, 4, none⟩ = some (.int .i64 0) ∧ wr.cell? ⟨w.heap.size + 1, 5, none⟩ = some (.int .i64 0) ∧ wr.cell? ⟨w.heap.size + 1, 6, none⟩ = some (.int .i64 0) ∧ wr.cell? ⟨w.heap.size + 1, 7, none⟩ = some (.int .i64 0) from ⟨HZ.out.cell 0, HZ.out.cell 1, HZ.out.cell 2, HZ.out.cell 3, HZ.out.cell 4, HZ.out.cell 5, HZ.out.cell 6, HZ.out.cell 7⟩)
      have z0 := HZ.out.frozen 0
      have z1 := HZ.out.frozen 1
      have z2 := HZ.out.frozen 2
      have z3 := HZ.out.frozen 3
      have z4 := HZ.out.frozen 4
      have z5 := HZ.out.frozen 5
      have z6 := HZ.out.frozen 6
      have z7 := HZ.out.frozen 7
      have hpq : patC (wantL r.cs) = #[.int .i64 (ent (wantL r.cs) 0), .int .i64 (ent (wantL r.cs) 1), .int .i64 (ent (wantL r.cs) 2), .int .i64 (ent (wantL r.cs) 3), .int .i64 (ent (wantL r.cs) 4), .int .i64 (ent (wantL r.cs) 5), .int .i64 (ent (wantL r.cs) 6), .int .i64 (ent (wantL r.cs) 7)] := rfl
      generalize ent (wantL r.cs) 0 = q0 at *
      generalize ent (wantL r.cs) 1 = q1 at *
      generalize ent (wantL r.cs) 2 = q2 at *
      generalize ent (wantL r.cs) 3 = q3 at *
      generalize ent (wantL r.cs) 4 = q4 at *
      generalize ent (wantL r.cs) 5 = q5 at *
      generalize ent (wantL r.cs) 6 = q6 at *
      generalize ent (wantL r.cs) 7 = q7 at *
      have HPQ := Lib.hid hpq
      clear hpq
      clear hk g2
      go_wp2_with fail
      have kf := (((((((HZ.out.set 0 (.int .i64 q0)).set 1 (.int .i64 q1)).set 2 (.int .i64 q2)).set 3 (.int .i64 q3)).set 4 (.int .i64 q4)).set 5 (.int .i64 q5)).set 6 (.int .i64 q6)).set 7 (.int .i64 q7)
      rw [set8] at kf
      have hbf := (((((((HBW.out.setCell (p := ⟨w.heap.size + 1, 0, none⟩) (by simp) (.int .i64 q0)).setCell (p := ⟨w.heap.size + 1, 1, none⟩) (by simp) (.int .i64 q1)).setCell (p := ⟨w.heap.size + 1, 2, none⟩) (by simp) (.int .i64 q2)).setCell (p := ⟨w.heap.size + 1, 3, none⟩) (by simp) (.int .i64 q3)).setCell (p := ⟨w.heap.size + 1, 4, none⟩) (by simp) (.int .i64 q4)).setCell (p := ⟨w.heap.size + 1, 5, none⟩) (by simp) (.int .i64 q5)).setCell (p := ⟨w.heap.size + 1, 6, none⟩) (by simp) (.int .i64 q6)).setCell (p := ⟨w.heap.size + 1, 7, none⟩) (by simp) (.int .i64 q7)
      generalize ((((((((wr.setCell ⟨w.heap.size + 1, 0, none⟩ (.int .i64 q0)).setCell ⟨w.heap.size + 1, 1, none⟩ (.int .i64 q1)).setCell ⟨w.heap.size + 1, 2, none⟩ (.int .i64 q2)).setCell ⟨w.heap.size + 1, 3, none⟩ (.int .i64 q3)).setCell ⟨w.heap.size + 1, 4, none⟩ (.int .i64 q4)).setCell ⟨w.heap.size + 1, 5, none⟩ (.int .i64 q5)).setCell ⟨w.heap.size + 1, 6, none⟩ (.int .i64 q6)).setCell ⟨w.heap.size + 1, 7, none⟩ (.int .i64 q7)) = wf at *
      obtain ⟨g0, g1, g2, g3, g4, g5, g6, g7⟩ := (show wf.cell? ⟨w.heap.size + 1, 0, none⟩ = some (.int .i64 q0) ∧ wf.cell? ⟨w.heap.size + 1, 1, none⟩ = some (.int .i64 q1) ∧ wf.cell? ⟨w.heap.size + 1, 2, none⟩ = some (.int .i64 q2) ∧ wf.cell? ⟨w.heap.size + 1, 3, none⟩ = some (.int .i64 q3) ∧ wf.cell? ⟨w.heap.size + 1, 4, none⟩ = some (.int .i64 q4) ∧ wf.cell? ⟨w.heap.size + 1, 5, none⟩ = some (.int .i64 q5) ∧ wf.cell? ⟨w.heap.size + 1, 6, none⟩ = some (.int .i64 q6) ∧ wf.cell? ⟨w.heap.size + 1, 7, none⟩ = some (.int .i64 q7) from ⟨kf.cell 0, kf.cell 1, kf.cell 2, kf.cell 3, kf.cell 4, kf.cell 5, kf.cell 6, kf.cell 7⟩)
      exact bodyPost_ret (v := .agg #[.int .i64 q0, .int .i64 q1, .int .i64 q2, .int .i64 q3, .int .i64 q4, .int .i64 q5, .int .i64 q6, .int .i64 q7]) (by simp [results, Try.results91, go_sem, g0, g1, g2, g3, g4, g5, g6, g7]) rfl ⟨by rw [HPQ.out], hbf⟩

/-! ### What a pattern weighs -/
def weighTo (ws q : List Int) : Nat → Int
  | 0 => 0
  | k + 1 => weighTo ws q k + ent ws k * ent q k
def weighM (ws q : List Int) : Int := weighTo ws q ws.length
/-- Numbers that may be in a pattern, weights that may be. -/
def patB (q : List Int) : Prop := ∀ i, 0 ≤ ent q i ∧ ent q i ≤ 12
def heftB (ws : List Int) : Prop := ∀ i, 0 ≤ ent ws i ∧ ent ws i ≤ 1000000
theorem term_bd {ws q : List Int} (hq : patB q) (hw : heftB ws) (k : Nat) : 0 ≤ ent ws k * ent q k ∧ ent ws k * ent q k ≤ 12000000 := by
  obtain ⟨h1, h2⟩ := hq k
  obtain ⟨h3, h4⟩ := hw k
  have a := Int.mul_nonneg h3 h1
  have b := Int.mul_le_mul h4 h2 h1 (by omega)
  omega
theorem weighTo_bd {ws q : List Int} (hq : patB q) (hw : heftB ws) : ∀ k : Nat, 0 ≤ weighTo ws q k ∧ weighTo ws q k ≤ 12000000 * k
  | 0 => by simp [weighTo]
  | k + 1 => by
    have h1 := weighTo_bd hq hw k
    have h2 := term_bd hq hw k
    simp only [weighTo]
    omega
def IntAt (w : World) (b o : Nat) (x : Int) : Prop := w.cell? ⟨b, o, none⟩ = some (.int .i64 x)
def IsInts (w : World) (a : Option Addr) (c : Nat) (l : List Int) : Prop := IsRow 1 IntAt w a c l
theorem IsInts.belowS {w w' : World} {a : Option Addr} {c : Nat} {l : List Int} (h : IsInts w a c l) (hb : Below w.heap.size w w') : IsInts w' a c l := IsRow.below h hb.size (fun b o _ hl h => (hb.cell (p := ⟨b, o, none⟩) hl).trans h)

set_option maxRecDepth 100000 in
set_option maxHeartbeats 8000000 in
theorem weigh_any (q ws : List Int) (sa : Option Addr) (c : Nat) (w : World) (hrow : IsInts w sa c ws) (hl : ws.length ≤ 8) (hq : patB q) (hw : heftB ws) :
    Calls Try.prog 92 #[.agg (patC q), .slice sa ws.length c] w fun e w' => e = .returned (.int .i64 (weighM ws q)) ∧ Below w.heap.size w w' := by
  have k1 := Blk.new w 105 (patC q)
  have hb1 : Below w.heap.size w (w.alloc (.cells (patC q) 105)) := (Below.refl _ w).alloc (Nat.le_refl _) _
  have HROW := Lib.hid hrow
  have HQW := Lib.hid (And.intro hq hw)
  clear hrow hq hw
  unfold patC at k1 hb1 ⊢
  go_enter Try.func92, Try.ntmps92
  go_upto_region 1 with fail
  generalize w.alloc _ = w1 at *
  have K1 := Lib.hid k1
  have HB1 := Lib.hid hb1
  clear k1 hb1
  go_wp2_with fail
  go_loopw [10, 5, 6, 7] (fun i s _ _ wr => ∃ j : Nat, j ≤ ws.length ∧ i = .int .i64 j ∧ s = .int .i64 (weighTo ws q j) ∧ Below w1.heap.size w1 wr) (fun i _ _ _ _ => ws.length - (intOf i).toNat)
  case atStart => exact ⟨0, Nat.zero_le _, rfl, rfl, Below.refl _ _⟩
  case round =>
    obtain ⟨j, hj, rfl, rfl, g2⟩ := hrel
    have HG := Lib.hid g2
    by_cases hlj : j < ws.length
    · have hqj : ws[j]? = some (ent ws j) := by simp [ent, hlj]
      obtain ⟨b, off, e, hbl, hc1, hc2, hp⟩ := (HROW.out.belowS (HB1.out.trans (g2.mono HB1.out.size))).at hqj
      subst e
      have c0 : wr.cell? ⟨b, off + j * 1, none⟩ = some (.int .i64 (ent ws j)) := hp
      rw [Nat.mul_one] at c0
      have hkc := pat_at (q := q) (K1.out.belowS g2) (i := j) (by omega)
      have hkl := (K1.out.belowS g2).lt
      have t1 := term_bd HQW.out.1 HQW.out.2 j
      have t2 := weighTo_bd HQW.out.1 HQW.out.2 j
      have hst : weighTo ws q (j + 1) = weighTo ws q j + ent ws j * ent q j := rfl
      have HST := Lib.hid hst
      obtain ⟨u, hu⟩ : ∃ u, ent ws j = u := ⟨_, rfl⟩
      obtain ⟨v, hv⟩ : ∃ v, ent q j = v := ⟨_, rfl⟩
      obtain ⟨s, hs⟩ : ∃ s, weighTo ws q j = s := ⟨_, rfl⟩
      have hjl : (j : Int) ≤ 8 := by omega
      have e1 : IntKind.i64.wrap (u * v) = u * v := by rw [IntKind.wrap_i64, ← hu, ← hv]; omega
      have e2 : IntKind.i64.wrap (s + u * v) = s + u * v := by rw [IntKind.wrap_i64, ← hu, ← hv, ← hs]; omega
      rw [hu] at c0
      rw [hv] at hkc
      rw [hs]
      have HU := Lib.hid (And.intro hu (And.intro hv hs))
      have hj0 : (0 : Int) ≤ (j : Int) := Int.natCast_nonneg _
      have hj1 : (j : Int) < (ws.length : Int) := by omega
      have hj8 : (j : Int) < 8 := by omega
      clear hu hv hs t1 t2 hst hqj hp g2
      go_wp2_with fail
      refine ⟨⟨j + 1, by omega, by simp, ?_, HG.out⟩, by simp [intOf]; omega⟩
      rw [HST.out, HU.out.1, HU.out.2.1, HU.out.2.2]
    · obtain rfl : j = ws.length := by omega
      have HBW := Lib.hid (HB1.out.trans (g2.mono HB1.out.size))
      obtain ⟨s, hs⟩ : ∃ s, weighTo ws q ws.length = s := ⟨_, rfl⟩
      rw [hs]
      have HS := Lib.hid hs
      clear hs g2
      go_wp2_with fail
      go_ret
      exact ⟨by rw [weighM, HS.out]; rfl, HBW.out⟩
end Go.Proofs.Ytmcmhgjlpffcnaa
