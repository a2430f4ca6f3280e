/- The specification's table: in how many ways each gap can be filled, none above one more than the limit. No condition but that the ridge may be. -/
import Derived.Test.YtmcmhgjlpffcnaaQY
import Derived.Laws.MakeOwn
set_option linter.unusedSimpArgs false
namespace Go.Proofs.Ytmcmhgjlpffcnaa
open Go.RowKit

/-! ### Mathematics -/
def partN (ps : List Pce) (en : Nat) (g : Gp) (i : Nat) : Nat := ((ps.take i).map fun x => if takB g x = true then wy ps en (behG g x) else 0).sum
theorem part_zero (ps : List Pce) (en : Nat) (g : Gp) : partN ps en g 0 = 0 := by simp [partN]
theorem part_succ {ps : List Pce} (en : Nat) (g : Gp) {i : Nat} {x : Pce} (h : ps[i]? = some x) : partN ps en g (i + 1) = partN ps en g i + if takB g x = true then wy ps en (behG g x) else 0 := by
  simp only [partN, List.take_add_one, h, Option.toList_some, List.map_append, List.sum_append, List.map_cons, List.map_nil, List.sum_cons, List.sum_nil]
  omega
theorem part_all {ps : List Pce} (hps : ∀ x ∈ ps, x.ok) (en : Nat) {g : Gp} (h0 : g.n ≠ 0) : partN ps en g ps.length = wy ps en g := by
  rw [wy_step hps en g, baseW, if_neg (fun h => h0 h.1), Nat.zero_add, partN, List.take_length]
def capN (v : Nat) : Int := (min (MW + 1) v : Nat)
theorem capN_bd (v : Nat) : 0 ≤ capN v ∧ capN v ≤ 1000000000000001 := by
  unfold capN MW
  omega
theorem capN_add (a b : Nat) : (if capN a + capN b < 1000000000000001 then capN a + capN b else 1000000000000001) = capN (a + b) := by
  unfold capN MW
  split <;> omega
/-- The table where all lengths below n have been reckoned, and of the length n the first i pieces. -/
def tabF (ps : List Pce) (en n i : Nat) (ix : Nat) : Int := if ix / 10 < n then capN (wy ps en ⟨ix / 10, ix % 10⟩) else if ix / 10 = n then capN (partN ps en ⟨n, ix % 10⟩ i) else 0
theorem capN_zero : capN 0 = 0 := rfl
theorem tab_at {ps : List Pce} {en n i : Nat} (m p : Nat) (hp : p < 10) : tabF ps en n i (m * 10 + p) = if m < n then capN (wy ps en ⟨m, p⟩) else if m = n then capN (partN ps en ⟨n, p⟩ i) else 0 := by
  unfold tabF
  rw [show (m * 10 + p) / 10 = m by omega, show (m * 10 + p) % 10 = p by omega]
theorem tab_init {ps : List Pce} (hps : ∀ x ∈ ps, x.ok) {en : Nat} (he : en < 10) : setF (fun _ => 0) en 1 = tabF ps en 1 0 := by
  funext ix
  unfold setF tabF
  by_cases h : ix / 10 < 1
  · rw [if_pos h, show ix / 10 = 0 by omega, show ix % 10 = ix by omega, wy_end hps en rfl]
    by_cases e : ix = en
    · rw [if_pos e, if_pos e]; rfl
    · rw [if_neg e, if_neg e]; rfl
  · rw [if_neg h, if_neg (by omega), part_zero]
    split <;> rfl
theorem tab_row {ps : List Pce} (hps : ∀ x ∈ ps, x.ok) {en n : Nat} (hn : n ≠ 0) : tabF ps en n ps.length = tabF ps en (n + 1) 0 := by
  funext ix
  unfold tabF
  by_cases h : ix / 10 < n
  · rw [if_pos h, if_pos (by omega)]
  · rw [if_neg h]
    by_cases e : ix / 10 = n
    · rw [if_pos e, if_pos (by omega), part_all hps en hn, e]
    · rw [if_neg e, if_neg (by omega), part_zero]
      split <;> rfl
theorem tab_skip {ps : List Pce} {en n i : Nat} {x : Pce} (h : ps[i]? = some x) (hw : ¬ x.wd ≤ (n : Int)) : tabF ps en n i = tabF ps en n (i + 1) := by
  funext ix
  unfold tabF
  rw [part_succ en _ h, if_neg (c := takB _ x = true) (fun ht => hw (takB_iff.1 ht).2), Nat.add_zero]
theorem tab_step {ps : List Pce} {en n i : Nat} {x : Pce} (h : ps[i]? = some x) (hx : x.ok) (hw : x.wd ≤ (n : Int)) :
    setF (tabF ps en n i) (n * 10 + x.lf.toNat) (if tabF ps en n i (n * 10 + x.lf.toNat) + tabF ps en n i ((n - x.wd.toNat) * 10 + x.rt.toNat) < 1000000000000001 then tabF ps en n i (n * 10 + x.lf.toNat) + tabF ps en n i ((n - x.wd.toNat) * 10 + x.rt.toNat) else 1000000000000001) = tabF ps en n (i + 1) := by
  obtain ⟨⟨w1, w2⟩, ⟨l1, l2⟩, r1, r2⟩ := hx
  have ha : tabF ps en n i (n * 10 + x.lf.toNat) = capN (partN ps en ⟨n, x.lf.toNat⟩ i) := by rw [tab_at n x.lf.toNat (by omega), if_neg (by omega), if_pos rfl]
  have hb : tabF ps en n i ((n - x.wd.toNat) * 10 + x.rt.toNat) = capN (wy ps en ⟨n - x.wd.toNat, x.rt.toNat⟩) := by rw [tab_at (n - x.wd.toNat) x.rt.toNat (by omega), if_pos (by omega)]
  rw [ha, hb, capN_add]
  funext ix
  unfold setF
  by_cases e : ix = n * 10 + x.lf.toNat
  · subst e
    rw [if_pos rfl, tab_at n x.lf.toNat (by omega), if_neg (by omega), if_pos rfl, part_succ en _ h, if_pos (takB_iff.2 ⟨by simp only; omega, hw⟩)]
    rfl
  · rw [if_neg e]
    unfold tabF
    by_cases h2 : ix / 10 = n
    · rw [if_neg (by omega), if_pos h2, if_neg (by omega), if_pos h2, part_succ en _ h, if_neg (fun ht => e (by have := (takB_iff.1 ht).1; simp only at this; omega)), Nat.add_zero]
    · rw [if_neg (c := ix / 10 = n) h2, if_neg (c := ix / 10 = n) h2]

/-! ### The table in memory -/
def TabR (W : World) (B N : Nat) (F : Nat → Int) : Prop := ∃ cs, Blk W B cs 73 ∧ cs.size = N ∧ ∀ i, i < N → cs[i]? = some (.int .i64 (F i))
theorem TabR.lt {W : World} {B N : Nat} {F : Nat → Int} (h : TabR W B N F) : B < W.heap.size := by obtain ⟨cs, h, _⟩ := h; exact h.lt
theorem TabR.cell {W : World} {B N : Nat} {F : Nat → Int} (h : TabR W B N F) {i : Nat} (hi : i < N) : W.cell? ⟨B, i, none⟩ = some (.int .i64 (F i)) := by obtain ⟨cs, h, _, h2⟩ := h; exact (h.cell i).trans (h2 i hi)
theorem TabR.frozen {W : World} {B N : Nat} {F : Nat → Int} (h : TabR W B N F) (i : Nat) : W.frozen? ⟨B, i, none⟩ = false := by obtain ⟨cs, h, _⟩ := h; exact h.frozen i
theorem TabR.belowS {W W' : World} {B N : Nat} {F : Nat → Int} (h : TabR W B N F) (hb : Below W.heap.size W W') : TabR W' B N F := by obtain ⟨cs, h, h2⟩ := h; exact ⟨cs, h.belowS hb, h2⟩
theorem TabR.set {W : World} {B N : Nat} {F : Nat → Int} (h : TabR W B N F) (i : Nat) (v : Int) : TabR (W.setCell ⟨B, i, none⟩ (.int .i64 v)) B N (setF F i v) := by
  obtain ⟨cs, h, hs, h2⟩ := h
  refine ⟨_, h.set i _, by simp [hs], fun j hj => ?_⟩
  unfold setF
  rw [Array.getElem?_setIfInBounds]
  by_cases e : i = j
  · subst e
    rw [if_pos rfl, if_pos (by rw [hs]; exact hj), if_pos rfl]
  · rw [if_neg e, if_neg (fun h => e h.symm)]
    exact h2 j hj
theorem tabR_new (W : World) (N : Nat) : TabR (W.alloc (.cells (madeCells #[.int .i64 0, .int .i64 0, .int .i64 0, .int .i64 0, .int .i64 0, .int .i64 0, .int .i64 0, .int .i64 0, .int .i64 0, .int .i64 0] N) 73)) W.heap.size N (fun _ => 0) := by
  refine ⟨_, Blk.new W _ _, size_madeCells _ _, fun i hi => ?_⟩
  have h : i % 10 < 10 := Nat.mod_lt _ (by decide)
  simp only [madeCells, Array.getElem?_map, Array.getElem?_range, hi]
  rcases (show i % 10 = 0 ∨ i % 10 = 1 ∨ i % 10 = 2 ∨ i % 10 = 3 ∨ i % 10 = 4 ∨ i % 10 = 5 ∨ i % 10 = 6 ∨ i % 10 = 7 ∨ i % 10 = 8 ∨ i % 10 = 9 by omega) with e | e | e | e | e | e | e | e | e | e <;> simp [e]
theorem info_row : ∃ i, (Try.prog : Program).info? 73 = some i ∧ i.zero = some (.agg #[.int .i64 0, .int .i64 0, .int .i64 0, .int .i64 0, .int .i64 0, .int .i64 0, .int .i64 0, .int .i64 0, .int .i64 0, .int .i64 0]) ∧ i.size = 10 ∧ i.bytes = 80 := by
  have h : ((Try.prog : Program).info? 73).map (fun i => (i.zero, i.size, i.bytes)) = some (some (.agg #[.int .i64 0, .int .i64 0, .int .i64 0, .int .i64 0, .int .i64 0, .int .i64 0, .int .i64 0, .int .i64 0, .int .i64 0, .int .i64 0]), 10, 80) := by kernel_rfl
  obtain ⟨i, h1, h2⟩ := Option.map_eq_some_iff.1 h
  simp only [Prod.mk.injEq] at h2
  exact ⟨i, h1, h2.1, h2.2.1, h2.2.2⟩
theorem run_make_tab (n : Nat) (hn : n ≤ 2000) (w : World) : (Instr.makeSlice 70 (.int .i64 ((n : Int) + 1)) (.int .i64 ((n : Int) + 1))).run Try.prog w = .ok (.slice (some ⟨w.heap.size, 0, none⟩) (n + 1) (n + 1)) (w.alloc (.cells (madeCells #[.int .i64 0, .int .i64 0, .int .i64 0, .int .i64 0, .int .i64 0, .int .i64 0, .int .i64 0, .int .i64 0, .int .i64 0, .int .i64 0] ((n + 1) * 10)) 73)) := by
  obtain ⟨i, hi, hz, hs, hb⟩ := info_row
  have h := run_make (P := Try.prog) w 70 73 i _ (by kernel_rfl) hi hz .i64 .i64 ((n : Int) + 1) ((n : Int) + 1) (by omega) (Int.le_refl _) (by rw [hb]; omega) (by omega)
  rw [hs, show ((n : Int) + 1).toNat = n + 1 by omega] at h
  exact h
/-- What table returns. -/
def TableSaid (R : Rdg) (w : World) (e : Ending) (w' : World) : Prop := ∃ B, e = .returned (.slice (some ⟨B, 0, none⟩) (R.top.n + 1) (R.top.n + 1)) ∧ w.heap.size ≤ B ∧ TabR w' B ((R.top.n + 1) * 10) (tabF R.ps R.en.toNat (R.top.n + 1) 0) ∧ Below w.heap.size w w'

set_option maxRecDepth 100000 in
set_option maxHeartbeats 16000000 in
theorem refTable_any (R : Rdg) (w : World) (hR : R.ok) (hrow : IsPcs w R.pa R.pc R.ps) :
    Calls Try.prog 85 #[.agg #[.int .i64 R.len, .int .i64 R.st, .int .i64 R.en, .slice R.pa R.ps.length R.pc]] w (TableSaid R w) := by
  have hts : R.len = (R.top.n : Int) ∧ R.st = (R.top.p : Int) := by
    obtain ⟨⟨h1, h2⟩, ⟨h3, h4⟩, -⟩ := hR
    simp only [Rdg.top]
    omega
  have htn := hR.top.1
  have hen : ∃ en : Nat, R.en = (en : Int) ∧ en < 10 := by
    obtain ⟨-, -, ⟨h3, h4⟩, -⟩ := hR
    exact ⟨R.en.toNat, by omega, by omega⟩
  obtain ⟨en, hen, hen10⟩ := hen
  have hmk := run_make_tab R.top.n htn
  have k1 := Blk.new w 24 #[.int .i64 R.len, .int .i64 R.st, .int .i64 R.en, .slice R.pa R.ps.length R.pc]
  have hb1 : Below w.heap.size w (w.alloc (.cells #[.int .i64 R.len, .int .i64 R.st, .int .i64 R.en, .slice R.pa R.ps.length R.pc] 24)) := (Below.refl _ w).alloc (Nat.le_refl _) _
  have HR := Lib.hid hR
  have HROW := Lib.hid hrow
  have HTS := Lib.hid hts
  have HEN := Lib.hid (And.intro hen hen10)
  have ew : IntKind.i64.wrap (R.len + 1) = (R.top.n : Int) + 1 := by rw [hts.1, IntKind.wrap_i64]; omega
  clear hR hrow hts hen
  go_enter Try.func85, Try.ntmps85
  go_upto_region 1 with fail
  obtain ⟨r0, r1, r2, r3⟩ := rdg_cells (R := R) k1
  have hlr := k1.lt
  go_upto_region 2 with fail
  have k2 := k1.alloc (.cells (madeCells #[.int .i64 0, .int .i64 0, .int .i64 0, .int .i64 0, .int .i64 0, .int .i64 0, .int .i64 0, .int .i64 0, .int .i64 0, .int .i64 0] ((R.top.n + 1) * 10)) 73)
  have hT := tabR_new (w.alloc (.cells #[.int .i64 R.len, .int .i64 R.st, .int .i64 R.en, .slice R.pa R.ps.length R.pc] 24)) ((R.top.n + 1) * 10)
  have hb2 := hb1.alloc hb1.size (.cells (madeCells #[.int .i64 0, .int .i64 0, .int .i64 0, .int .i64 0, .int .i64 0, .int .i64 0, .int .i64 0, .int .i64 0, .int .i64 0, .int .i64 0] ((R.top.n + 1) * 10)) 73)
  rw [World.size_alloc] at hT
  clear r0 r1 r2 r3 hlr k1 hb1 hmk ew
  generalize (w.alloc (.cells #[.int .i64 R.len, .int .i64 R.st, .int .i64 R.en, .slice R.pa R.ps.length R.pc] 24)).alloc (.cells (madeCells #[.int .i64 0, .int .i64 0, .int .i64 0, .int .i64 0, .int .i64 0, .int .i64 0, .int .i64 0, .int .i64 0, .int .i64 0, .int .i64 0] ((R.top.n + 1) * 10)) 73) = w2 at *
  obtain ⟨r0, r1, r2, r3⟩ := rdg_cells (R := R) k2
  have hlr := k2.lt
  have tc := hT.cell (i := en) (by omega)
  have tz := hT.frozen en
  have tl := hT.lt
  rw [HEN.out.1] at r2
  have hn10 : (0 : Int) < (R.top.n : Int) + 1 := by omega
  have e10 : (en : Int) < 10 := by omega
  have e0 : (0 : Int) ≤ (en : Int) := Int.natCast_nonneg _
  go_region
  have KR := Lib.hid ((k2.other (B' := w.heap.size + 1) (i := en) (by omega) (.int .i64 1)).drew)
  have hT1 : TabR ((w2.setCell ⟨w.heap.size + 1, en, none⟩ (.int .i64 1)).drew) (w.heap.size + 1) ((R.top.n + 1) * 10) (tabF R.ps en 1 0) := by
    rw [← tab_init HR.out.2.2.2.2 hen10]
    exact (hT.set en 1).belowS (Below.refl _ _).drew
  have HT := Lib.hid hT1
  have HB := Lib.hid ((hb2.setCell (p := ⟨w.heap.size + 1, en, none⟩) (by show w.heap.size ≤ w.heap.size + 1; omega) (.int .i64 1)).drew)
  clear hT1 hT k2 hb2 r0 r1 r2 r3 hlr tc tz tl
  generalize (w2.setCell ⟨w.heap.size + 1, en, none⟩ (.int .i64 1)).drew = w3 at *
  obtain ⟨B, hB⟩ : ∃ B, w.heap.size + 1 = B := ⟨_, rfl⟩
  rw [hB] at HT ⊢
  go_wp2_with fail
  go_loopw [4, 5, 6] (fun s _ _ wr => ∃ n : Nat, (1 ≤ n ∧ n ≤ R.top.n + 1) ∧ s = .int .i64 n ∧ TabR wr B ((R.top.n + 1) * 10) (tabF R.ps en n 0) ∧ Blk wr w.heap.size #[.int .i64 R.len, .int .i64 R.st, .int .i64 R.en, .slice R.pa R.ps.length R.pc] 24 ∧ Below w.heap.size w wr) (fun s _ _ _ => R.top.n + 1 - (intOf s).toNat)
  case atStart => exact ⟨1, by omega, rfl, HT.out, KR.out, HB.out⟩
  case round =>
    obtain ⟨n, ⟨hn1, hn2⟩, rfl, hT, hkr, hb⟩ := hrel
    have HT := Lib.hid hT
    have HKR := Lib.hid hkr
    have HB := Lib.hid hb
    obtain ⟨r0, r1, r2, r3⟩ := rdg_cells (R := R) hkr
    have hlr := hkr.lt
    have hlen := HTS.out.1
    by_cases hnl : n ≤ R.top.n
    rotate_left
    · obtain rfl : n = R.top.n + 1 := by omega
      have hc : ¬ ((R.top.n + 1 : Nat) : Int) ≤ R.len := by omega
      clear hT hkr hb hlen
      go_wp2_with fail
      go_ret
      exact ⟨B, rfl, by omega, by rw [show R.en.toNat = en by rw [HEN.out.1]; rfl]; exact HT.out, HB.out⟩
    · have hc : (n : Int) ≤ R.len := by omega
      have hps10 := HR.out.2.2.2.1
      have ewn : IntKind.i64.wrap ((n : Int) + 1) = ((n + 1 : Nat) : Int) := by rw [IntKind.wrap_i64]; omega
      clear hT hkr hb hlen
      go_wp2_with fail
      clear r0 r1 r2 r3 hlr
      obtain ⟨wo, rfl⟩ : ∃ wo : World, wo = wr := ⟨_, rfl⟩
      go_loopw [5, 6] (fun s _ wv => ∃ i : Nat, i ≤ R.ps.length ∧ s = .int .i64 i ∧ TabR wv B ((R.top.n + 1) * 10) (tabF R.ps en n i) ∧ Blk wv w.heap.size #[.int .i64 R.len, .int .i64 R.st, .int .i64 R.en, .slice R.pa R.ps.length R.pc] 24 ∧ Below w.heap.size w wv) (fun s _ _ => R.ps.length - (intOf s).toNat)
      case atStart => exact ⟨0, Nat.zero_le _, rfl, HT.out, HKR.out, HB.out⟩
      case round =>
        obtain ⟨i, hi, rfl, hT, hkr, hb⟩ := hrel
        have HTV := Lib.hid hT
        have HKV := Lib.hid hkr
        have HBV := Lib.hid hb
        obtain ⟨wi, rfl⟩ : ∃ wi : World, wi = wr := ⟨_, rfl⟩
        obtain ⟨r0, r1, r2, r3⟩ := rdg_cells (R := R) hkr
        have hlr := hkr.lt
        have hi0 : (0 : Int) ≤ (i : Int) := Int.natCast_nonneg _
        by_cases hil : i < R.ps.length
        · have hq : R.ps[i]? = some R.ps[i] := List.getElem?_eq_getElem hil
          obtain ⟨b, off, e, hbl, hc1, hc2, hp⟩ := (HROW.out.belowS hb).at hq
          have hxo := HR.out.2.2.2.2 _ (List.mem_of_getElem? hq)
          generalize R.ps[i] = x at *
          obtain ⟨p0, p1, p2, p3, p4⟩ := hp
          have HQ := Lib.hid hq
          have HXO := Lib.hid hxo
          have HE := Lib.hid e
          have hi1 : (i : Int) < (R.ps.length : Int) := by omega
          rw [e] at r3
          clear hT hkr hb hq hxo e
          go_upto_region 10 with fail
          have kX := Blk.new wi 54 #[.string x.name, .int .i64 x.wd, .int .i64 x.lf, .int .i64 x.rt, .int .i64 x.mr]
          have hbx : Below wi.heap.size wi (wi.alloc (.cells #[.string x.name, .int .i64 x.wd, .int .i64 x.lf, .int .i64 x.rt, .int .i64 x.mr] 54)) := (Below.refl _ _).alloc (Nat.le_refl _) _
          clear r0 r1 r2 r3 hlr p0 p1 p2 p3 p4 hbl
          obtain ⟨Bx, hBx⟩ : ∃ Bx, wi.heap.size = Bx := ⟨_, rfl⟩
          have HTX := Lib.hid (HTV.out.belowS hbx)
          have HKX := Lib.hid (HKV.out.belowS hbx)
          have HBX := Lib.hid (HBV.out.trans (hbx.mono HBV.out.size))
          rw [hBx] at kX ⊢
          generalize wi.alloc (.cells #[.string x.name, .int .i64 x.wd, .int .i64 x.lf, .int .i64 x.rt, .int .i64 x.mr] 54) = wx at *
          obtain ⟨x0, x1, x2, x3, x4⟩ := pce_cells (x := x) kX
          have lX := kX.lt
          have KX := Lib.hid kX
          clear kX hbx hBx
          by_cases hw : x.wd ≤ (n : Int)
          rotate_left
          · have HSK := Lib.hid (tab_skip (en := en) HQ.out hw)
            go_wp2_with fail
            exact ⟨⟨i + 1, by omega, by simp, by rw [← HSK.out]; exact HTX.out, HKX.out, HBX.out⟩, by simp [intOf]; omega⟩
          · have hst := tab_step (en := en) HQ.out HXO.out hw
            obtain ⟨⟨w1', w2'⟩, ⟨l1', l2'⟩, q1', q2'⟩ := HXO.out
            obtain ⟨lf, hlf⟩ : ∃ lf : Nat, x.lf = (lf : Int) := ⟨x.lf.toNat, by omega⟩
            obtain ⟨rt, hrt⟩ : ∃ rt : Nat, x.rt = (rt : Int) := ⟨x.rt.toNat, by omega⟩
            obtain ⟨wd, hwd⟩ : ∃ wd : Nat, x.wd = (wd : Int) := ⟨x.wd.toNat, by omega⟩
            rw [hlf, hrt, hwd] at hst
            simp only [Int.toNat_natCast] at hst
            have ca := HTX.out.cell (i := n * 10 + lf) (by omega)
            have cb := HTX.out.cell (i := (n - wd) * 10 + rt) (by omega)
            have hva : 0 ≤ tabF R.ps en n i (n * 10 + lf) ∧ tabF R.ps en n i (n * 10 + lf) ≤ 1000000000000001 := by
              unfold tabF; split; exact capN_bd _; split; exact capN_bd _; omega
            have hvb : 0 ≤ tabF R.ps en n i ((n - wd) * 10 + rt) ∧ tabF R.ps en n i ((n - wd) * 10 + rt) ≤ 1000000000000001 := by
              unfold tabF; split; exact capN_bd _; split; exact capN_bd _; omega
            generalize tabF R.ps en n i (n * 10 + lf) = va at *
            generalize tabF R.ps en n i ((n - wd) * 10 + rt) = vb at *
            have HST := Lib.hid hst
            have ea : IntKind.i64.wrap (va + vb) = va + vb := by rw [IntKind.wrap_i64]; omega
            have es : IntKind.i64.wrap ((n : Int) - (wd : Int)) = ((n - wd : Nat) : Int) := by rw [IntKind.wrap_i64]; omega
            have i1 : (n : Int) < (R.top.n : Int) + 1 := by omega
            have i2 : ((n - wd : Nat) : Int) < (R.top.n : Int) + 1 := by omega
            have i3 : (lf : Int) < 10 := by omega
            have i4 : (rt : Int) < 10 := by omega
            have i5 : (0 : Int) ≤ ((n - wd : Nat) : Int) := Int.natCast_nonneg _
            have i6 : (0 : Int) ≤ (lf : Int) := Int.natCast_nonneg _
            have i7 : (0 : Int) ≤ (rt : Int) := Int.natCast_nonneg _
            have i8 : (0 : Int) ≤ (n : Int) := Int.natCast_nonneg _
            have tz := HTX.out.frozen (n * 10 + lf)
            have tl := HTX.out.lt
            rw [hwd] at x1
            rw [hlf] at x2
            rw [hrt] at x3
            have hw' : (wd : Int) ≤ (n : Int) := by omega
            clear hst hva hvb hw w1' w2' l1' l2' q1' q2' hlf hrt hwd x0 x4
            go_upto_region 11 with fail
            have hx : (fun w' : World => (w'.cell? ⟨Bx, 1, none⟩ = some (.int .i64 (wd : Int)) ∧ w'.cell? ⟨Bx, 2, none⟩ = some (.int .i64 (lf : Int)) ∧ w'.cell? ⟨Bx, 3, none⟩ = some (.int .i64 (rt : Int))) ∧ w'.cell? ⟨B, n * 10 + lf, none⟩ = some (.int .i64 va) ∧ w'.cell? ⟨B, (n - wd) * 10 + rt, none⟩ = some (.int .i64 vb)) wx.drew := ⟨⟨x1, x2, x3⟩, ca, cb⟩
            refine wp_region_E 25 (fun w' => (w'.cell? ⟨Bx, 1, none⟩ = some (.int .i64 (wd : Int)) ∧ w'.cell? ⟨Bx, 2, none⟩ = some (.int .i64 (lf : Int)) ∧ w'.cell? ⟨Bx, 3, none⟩ = some (.int .i64 (rt : Int))) ∧ w'.cell? ⟨B, n * 10 + lf, none⟩ = some (.int .i64 va) ∧ w'.cell? ⟨B, (n - wd) * 10 + rt, none⟩ = some (.int .i64 vb)) (by kernel_rfl) ?_
            refine E_take (i := 0) (oi := _) (v := ?v1) rfl (by kernel_rfl) (by kernel_rfl) (by kernel_rfl) (by kernel_rfl) (fun _ _ _ h => h) hx (Or.inl ⟨by rfl, ?y1⟩) ?r1
            case y1 => (intro w' hSw; (try dsimp only at hSw); go_simp; try with_reducible rfl)
            try simp only [Act.put, List.getElem_toArray, List.getElem_cons_zero, List.getElem_cons_succ, List.setIfInBounds_toArray, List.set_cons_zero, List.set_cons_succ]
            refine E_take (i := 1) (oi := _) (v := ?v2) rfl (by kernel_rfl) (by kernel_rfl) (by kernel_rfl) (by kernel_rfl) (fun _ _ _ h => h) hx (Or.inl ⟨by rfl, ?y2⟩) ?r2
            case y2 => (intro w' hSw; (try dsimp only at hSw); go_simp; try with_reducible rfl)
            try simp only [Act.put, List.getElem_toArray, List.getElem_cons_zero, List.getElem_cons_succ, List.setIfInBounds_toArray, List.set_cons_zero, List.set_cons_succ]
            refine E_take (i := 2) (oi := _) (v := ?v3) rfl (by kernel_rfl) (by kernel_rfl) (by kernel_rfl) (by kernel_rfl) (fun _ _ _ h => h) hx (Or.inl ⟨by rfl, ?y3⟩) ?r3
            case y3 => (intro w' hSw; (try dsimp only at hSw); go_simp; try with_reducible rfl)
            try simp only [Act.put, List.getElem_toArray, List.getElem_cons_zero, List.getElem_cons_succ, List.setIfInBounds_toArray, List.set_cons_zero, List.set_cons_succ]
            refine E_take (i := 3) (oi := _) (v := ?v4) rfl (by kernel_rfl) (by kernel_rfl) (by kernel_rfl) (by kernel_rfl) (fun _ _ _ h => h) hx (Or.inl ⟨by rfl, ?y4⟩) ?r4
            case y4 => (intro w' hSw; (try dsimp only at hSw); go_simp; try with_reducible rfl)
            try simp only [Act.put, List.getElem_toArray, List.getElem_cons_zero, List.getElem_cons_succ, List.setIfInBounds_toArray, List.set_cons_zero, List.set_cons_succ]
            refine E_take (i := 4) (oi := _) (v := ?v5) rfl (by kernel_rfl) (by kernel_rfl) (by kernel_rfl) (by kernel_rfl) (fun _ _ _ h => h) hx (Or.inl ⟨by rfl, ?y5⟩) ?r5
            case y5 => (intro w' hSw; (try dsimp only at hSw); go_simp; try with_reducible rfl)
            try simp only [Act.put, List.getElem_toArray, List.getElem_cons_zero, List.getElem_cons_succ, List.setIfInBounds_toArray, List.set_cons_zero, List.set_cons_succ]
            refine E_take (i := 5) (oi := _) (v := ?v6) rfl (by kernel_rfl) (by kernel_rfl) (by kernel_rfl) (by kernel_rfl) (fun _ _ _ h => h) hx (Or.inl ⟨by rfl, ?y6⟩) ?r6
            case y6 => (intro w' hSw; (try dsimp only at hSw); go_simp; try with_reducible rfl)
            try simp only [Act.put, List.getElem_toArray, List.getElem_cons_zero, List.getElem_cons_succ, List.setIfInBounds_toArray, List.set_cons_zero, List.set_cons_succ]
            refine E_take (i := 6) (oi := _) (v := ?v7) rfl (by kernel_rfl) (by kernel_rfl) (by kernel_rfl) (by kernel_rfl) (fun _ _ _ h => h) hx (Or.inl ⟨by rfl, ?y7⟩) ?r7
            case y7 => (intro w' hSw; (try dsimp only at hSw); go_simp; try with_reducible rfl)
            try simp only [Act.put, List.getElem_toArray, List.getElem_cons_zero, List.getElem_cons_succ, List.setIfInBounds_toArray, List.set_cons_zero, List.set_cons_succ]
            refine E_take (i := 7) (oi := _) (v := ?v8) rfl (by kernel_rfl) (by kernel_rfl) (by kernel_rfl) (by kernel_rfl) (fun _ _ _ h => h) hx (Or.inl ⟨by rfl, ?y8⟩) ?r8
            case y8 => (intro w' hSw; (try dsimp only at hSw); go_simp; try with_reducible rfl)
            try simp only [Act.put, List.getElem_toArray, List.getElem_cons_zero, List.getElem_cons_succ, List.setIfInBounds_toArray, List.set_cons_zero, List.set_cons_succ]
            refine E_take (i := 8) (oi := _) (v := ?v9) rfl (by kernel_rfl) (by kernel_rfl) (by kernel_rfl) (by kernel_rfl) (fun _ _ _ h => h) hx (Or.inl ⟨by rfl, ?y9⟩) ?r9
            case y9 => (intro w' hSw; (try dsimp only at hSw); go_simp; try with_reducible rfl)
            try simp only [Act.put, List.getElem_toArray, List.getElem_cons_zero, List.getElem_cons_succ, List.setIfInBounds_toArray, List.set_cons_zero, List.set_cons_succ]
            refine E_take (i := 9) (oi := _) (v := ?v10) rfl (by kernel_rfl) (by kernel_rfl) (by kernel_rfl) (by kernel_rfl) (fun _ _ _ h => h) hx (Or.inl ⟨by rfl, ?y10⟩) ?r10
            case y10 => (intro w' hSw; (try dsimp only at hSw); go_simp; try with_reducible rfl)
            try simp only [Act.put, List.getElem_toArray, List.getElem_cons_zero, List.getElem_cons_succ, List.setIfInBounds_toArray, List.set_cons_zero, List.set_cons_succ]
            refine E_take (i := 10) (oi := _) (v := ?v11) rfl (by kernel_rfl) (by kernel_rfl) (by kernel_rfl) (by kernel_rfl) (fun _ _ _ h => h) hx (Or.inl ⟨by rfl, ?y11⟩) ?r11
            case y11 => (intro w' hSw; (try dsimp only at hSw); go_simp; try with_reducible rfl)
            try simp only [Act.put, List.getElem_toArray, List.getElem_cons_zero, List.getElem_cons_succ, List.setIfInBounds_toArray, List.set_cons_zero, List.set_cons_succ]
            refine E_take (i := 11) (oi := _) (v := ?v12) rfl (by kernel_rfl) (by kernel_rfl) (by kernel_rfl) (by kernel_rfl) (fun _ _ _ h => h) hx (Or.inl ⟨by rfl, ?y12⟩) ?r12
            case y12 => (intro w' hSw; (try dsimp only at hSw); go_simp; try with_reducible rfl)
            try simp only [Act.put, List.getElem_toArray, List.getElem_cons_zero, List.getElem_cons_succ, List.setIfInBounds_toArray, List.set_cons_zero, List.set_cons_succ]
            refine E_take (i := 12) (oi := _) (v := ?v13) rfl (by kernel_rfl) (by kernel_rfl) (by kernel_rfl) (by kernel_rfl) (fun _ _ _ h => h) hx (Or.inl ⟨by rfl, ?y13⟩) ?r13
            case y13 => (intro w' hSw; (try dsimp only at hSw); go_simp; try with_reducible rfl)
            try simp only [Act.put, List.getElem_toArray, List.getElem_cons_zero, List.getElem_cons_succ, List.setIfInBounds_toArray, List.set_cons_zero, List.set_cons_succ]
            refine E_take (i := 13) (oi := _) (v := ?v14) rfl (by kernel_rfl) (by kernel_rfl) (by kernel_rfl) (by kernel_rfl) (fun _ _ _ h => h) hx (Or.inl ⟨by rfl, ?y14⟩) ?r14
            case y14 => (intro w' hSw; (try dsimp only at hSw); go_simp; try with_reducible rfl)
            try simp only [Act.put, List.getElem_toArray, List.getElem_cons_zero, List.getElem_cons_succ, List.setIfInBounds_toArray, List.set_cons_zero, List.set_cons_succ]
            refine E_take (i := 14) (oi := _) (v := ?v15) rfl (by kernel_rfl) (by kernel_rfl) (by kernel_rfl) (by kernel_rfl) (fun _ _ _ h => h) hx (Or.inl ⟨by rfl, ?y15⟩) ?r15
            case y15 => (intro w' hSw; (try dsimp only at hSw); go_simp; try with_reducible rfl)
            try simp only [Act.put, List.getElem_toArray, List.getElem_cons_zero, List.getElem_cons_succ, List.setIfInBounds_toArray, List.set_cons_zero, List.set_cons_succ]
            refine E_take (i := 15) (oi := _) (v := ?v16) rfl (by kernel_rfl) (by kernel_rfl) (by kernel_rfl) (by kernel_rfl) (fun _ _ _ h => h) hx (Or.inl ⟨by rfl, ?y16⟩) ?r16
            case y16 => (intro w' hSw; (try dsimp only at hSw); go_simp; try with_reducible rfl)
            try simp only [Act.put, List.getElem_toArray, List.getElem_cons_zero, List.getElem_cons_succ, List.setIfInBounds_toArray, List.set_cons_zero, List.set_cons_succ]
            refine E_take (i := 16) (oi := _) (v := ?v17) rfl (by kernel_rfl) (by kernel_rfl) (by kernel_rfl) (by kernel_rfl) (fun _ _ _ h => h) hx (Or.inl ⟨by rfl, ?y17⟩) ?r17
            case y17 => (intro w' hSw; (try dsimp only at hSw); go_simp; try with_reducible rfl)
            try simp only [Act.put, List.getElem_toArray, List.getElem_cons_zero, List.getElem_cons_succ, List.setIfInBounds_toArray, List.set_cons_zero, List.set_cons_succ]
            refine E_take (i := 17) (oi := _) (v := ?v18) rfl (by kernel_rfl) (by kernel_rfl) (by kernel_rfl) (by kernel_rfl) (fun _ _ _ h => h) hx (Or.inl ⟨by rfl, ?y18⟩) ?r18
            case y18 => (intro w' hSw; (try dsimp only at hSw); go_simp; try with_reducible rfl)
            try simp only [Act.put, List.getElem_toArray, List.getElem_cons_zero, List.getElem_cons_succ, List.setIfInBounds_toArray, List.set_cons_zero, List.set_cons_succ]
            refine E_take (i := 18) (oi := _) (v := ?v19) rfl (by kernel_rfl) (by kernel_rfl) (by kernel_rfl) (by kernel_rfl) (fun _ _ _ h => h) hx (Or.inl ⟨by rfl, ?y19⟩) ?r19
            case y19 => (intro w' hSw; (try dsimp only at hSw); go_simp; try with_reducible rfl)
            try simp only [Act.put, List.getElem_toArray, List.getElem_cons_zero, List.getElem_cons_succ, List.setIfInBounds_toArray, List.set_cons_zero, List.set_cons_succ]
            refine E_take (i := 19) (oi := _) (v := ?v20) rfl (by kernel_rfl) (by kernel_rfl) (by kernel_rfl) (by kernel_rfl) (fun _ _ _ h => h) hx (Or.inl ⟨by rfl, ?y20⟩) ?r20
            case y20 => (intro w' hSw; (try dsimp only at hSw); go_simp; try with_reducible rfl)
            try simp only [Act.put, List.getElem_toArray, List.getElem_cons_zero, List.getElem_cons_succ, List.setIfInBounds_toArray, List.set_cons_zero, List.set_cons_succ]
            refine E_take (i := 20) (oi := _) (v := ?v21) rfl (by kernel_rfl) (by kernel_rfl) (by kernel_rfl) (by kernel_rfl) (fun _ _ _ h => h) hx (Or.inl ⟨by rfl, ?y21⟩) ?r21
            case y21 => (intro w' hSw; (try dsimp only at hSw); go_simp; try with_reducible rfl)
            try simp only [Act.put, List.getElem_toArray, List.getElem_cons_zero, List.getElem_cons_succ, List.setIfInBounds_toArray, List.set_cons_zero, List.set_cons_succ]
            refine E_take (i := 21) (oi := _) (v := ?v22) rfl (by kernel_rfl) (by kernel_rfl) (by kernel_rfl) (by kernel_rfl) (fun _ _ _ h => h) hx (Or.inl ⟨by rfl, ?y22⟩) ?r22
            case y22 => (intro w' hSw; (try dsimp only at hSw); go_simp; try with_reducible rfl)
            try simp only [Act.put, List.getElem_toArray, List.getElem_cons_zero, List.getElem_cons_succ, List.setIfInBounds_toArray, List.set_cons_zero, List.set_cons_succ]
            refine E_take (i := 22) (oi := _) (v := ?v23) rfl (by kernel_rfl) (by kernel_rfl) (by kernel_rfl) (by kernel_rfl) (fun _ _ _ h => h) hx (Or.inl ⟨by rfl, ?y23⟩) ?r23
            case y23 => (intro w' hSw; (try dsimp only at hSw); go_simp; try with_reducible rfl)
            try simp only [Act.put, List.getElem_toArray, List.getElem_cons_zero, List.getElem_cons_succ, List.setIfInBounds_toArray, List.set_cons_zero, List.set_cons_succ]
            refine E_step (i := 23) (o := _) (by kernel_rfl) rfl (fun K hK => ?_)
            go_simp
            refine hK.out _ _ (fun h => hx) ?_
            clear hK K
            try simp only [Act.put, List.getElem_toArray, List.getElem_cons_zero, List.getElem_cons_succ, List.setIfInBounds_toArray, List.set_cons_zero, List.set_cons_succ]
            refine E_step (i := 24) (o := _) (by kernel_rfl) rfl (fun K hK => ?_)
            go_simp
            refine hK.out _ _ (fun h => hx) ?_
            clear hK K
            try simp only [Act.put, List.getElem_toArray, List.getElem_cons_zero, List.getElem_cons_succ, List.setIfInBounds_toArray, List.set_cons_zero, List.set_cons_succ]
            refine E_step (i := 25) (o := _) (by kernel_rfl) rfl (fun K hK => ?_)
            go_simp
            refine hK.out _ _ (fun h => absurd rfl h) ?_
            clear hK K
            try simp only [Act.put, List.getElem_toArray, List.getElem_cons_zero, List.getElem_cons_succ, List.setIfInBounds_toArray, List.set_cons_zero, List.set_cons_succ]
            refine E_done (by kernel_rfl) ?_ _
            clear hx x1 x2 x3 ca cb lX tz tl
            generalize (if va + vb < 1000000000000001 then va + vb else 1000000000000001) = vm at *
            have TF : TabR ((wx.setCell ⟨B, n * 10 + lf, none⟩ (.int .i64 vm)).drew) B ((R.top.n + 1) * 10) (tabF R.ps en n (i + 1)) := by
              rw [← HST.out]
              exact (HTX.out.set (n * 10 + lf) vm).belowS (Below.refl _ _).drew
            have HTF := Lib.hid TF
            have HKF := Lib.hid ((HKX.out.other (B' := B) (i := n * 10 + lf) (by omega) (.int .i64 vm)).drew)
            have HBF := Lib.hid ((HBX.out.setCell (p := ⟨B, n * 10 + lf, none⟩) (by show w.heap.size ≤ B; omega) (.int .i64 vm)).drew)
            clear TF
            generalize (wx.setCell ⟨B, n * 10 + lf, none⟩ (.int .i64 vm)).drew = wf at *
            go_wp2_with fail
            exact ⟨⟨i + 1, by omega, by simp, HTF.out, HKF.out, HBF.out⟩, by simp [intOf]; omega⟩
        · obtain rfl : i = R.ps.length := by omega
          have hjj : ¬ (R.ps.length : Int) < (R.ps.length : Int) := by omega
          have HRW := Lib.hid (tab_row HR.out.2.2.2.2 (en := en) (n := n) (by omega))
          clear hT hkr hb hil hi
          go_wp2_with fail
          exact ⟨⟨n + 1, by omega, by simp, by rw [← HRW.out]; exact HTV.out, HKV.out, HBV.out⟩, by simp [intOf]; omega⟩
end Go.Proofs.Ytmcmhgjlpffcnaa
