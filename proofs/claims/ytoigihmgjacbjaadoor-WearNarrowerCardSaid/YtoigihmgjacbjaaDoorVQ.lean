/- said, joined; slices.BinarySearchFunc among marks in order. No condition but the package's variable. -/
import Derived.Test.YtoigihmgjacbjaaDoorVM
set_option linter.unusedSimpArgs false
namespace Go.Proofs.YtoigihmgjacbjaaDoor
open Go.RowKit

def saidM (r n : Int) : Spn := comM (widM ⟨r, r⟩ n) ⟨0, 2000⟩
set_option maxHeartbeats 2000000 in
theorem said_any (r n : Int) (hr : 0 ≤ r ∧ r ≤ 2000) (hn : 0 ≤ n ∧ n ≤ 2000) (w : World) (hg : Laid w) :
    Calls Tryd.prog 45 #[.int .i64 r, .int .i64 n] w fun e w' => e = .returned (.agg #[.int .i64 (saidM r n).lo, .int .i64 (saidM r n).hi]) ∧ Below w.heap.size w w' := by
  have k0 := Blk.new w 27 #[.int .i64 0, .int .i64 0]
  have hb1 : Below w.heap.size w (w.alloc (.cells #[.int .i64 0, .int .i64 0] 27)) := (Below.refl _ w).alloc (Nat.le_refl _) _
  have HG := Lib.hid hg
  have HW := Lib.hid (fun w' => widened_any ⟨r, r⟩ n (by simp only; omega) w')
  clear hg hr hn
  go_enter Tryd.func45, Tryd.ntmps45
  go_upto_region 1 with fail
  generalize w.alloc (.cells #[.int .i64 0, .int .i64 0] 27) = w1 at *
  have HB1 := Lib.hid hb1
  have K0 := Lib.hid k0
  clear hb1 k0
  go_wp2_with fail
  refine (HW.out _).mono ?_
  rintro e w2 ⟨rfl, hb⟩
  have HB2 := Lib.hid (HB1.out.trans (hb.mono HB1.out.size))
  have K2 := Lib.hid (K0.out.belowS hb)
  clear hb
  go_wp2_with fail
  refine (common_any (widM ⟨r, r⟩ n) ⟨0, 2000⟩ _ (HG.out.below HB2.out)).mono ?_
  rintro e w3 ⟨rfl, hb⟩
  obtain ⟨C, hC⟩ : ∃ C, comM (widM ⟨r, r⟩ n) ⟨0, 2000⟩ = C := ⟨_, rfl⟩
  rw [hC]
  have HC := Lib.hid (show saidM r n = C from hC)
  have HB3 := Lib.hid (HB2.out.trans (hb.mono HB2.out.size))
  have k3 := K2.out.belowS hb
  obtain ⟨b0, b1⟩ := spn_cells (s := ⟨0, 0⟩) k3
  have lB := k3.lt
  have z0 := k3.frozen 0
  have z1 := k3.frozen 1
  have KB := Lib.hid k3
  clear hb hC k3
  go_wp2_with fail
  have kf : Blk ((w3.setCell ⟨w.heap.size, 0, none⟩ (.int .i64 C.lo)).setCell ⟨w.heap.size, 1, none⟩ (.int .i64 C.hi)) w.heap.size #[.int .i64 C.lo, .int .i64 C.hi] 27 := ((KB.out.set 0 (.int .i64 C.lo)).set 1 (.int .i64 C.hi))
  have ht : Turn (fun k => k = w.heap.size) w3 ((w3.setCell ⟨w.heap.size, 0, none⟩ (.int .i64 C.lo)).setCell ⟨w.heap.size, 1, none⟩ (.int .i64 C.hi)) := (((Turn.of_below (X := fun k => k = w.heap.size) (Below.refl _ w3)).setCell (B := w.heap.size) rfl 0 (.int .i64 C.lo)).setCell (B := w.heap.size) rfl 1 (.int .i64 C.hi))
  generalize ((w3.setCell ⟨w.heap.size, 0, none⟩ (.int .i64 C.lo)).setCell ⟨w.heap.size, 1, none⟩ (.int .i64 C.hi)) = wf at *
  clear b0 b1 z0 z1
  obtain ⟨g0, g1⟩ := spn_cells (s := C) kf
  exact bodyPost_ret (v := .agg #[.int .i64 C.lo, .int .i64 C.hi]) (by simp [results, Tryd.results45, go_sem, g0, g1]) rfl ⟨by rw [HC.out], HB3.out.trans (ht.below HB3.out.size (fun k e => by rw [show k = w.heap.size from e]; exact Nat.le_refl _))⟩

def joinK (a b : Mrk) : Mrk := ⟨a.at_, comM a.th b.th⟩
set_option maxRecDepth 100000 in
set_option maxHeartbeats 4000000 in
theorem joined_any (m1 m2 : Mrk) (w : World) (hg : Laid w) :
    Calls Tryd.prog 70 #[.agg #[.int .i64 m1.at_.x, .int .i64 m1.at_.y, .int .i64 m1.th.lo, .int .i64 m1.th.hi], .agg #[.int .i64 m2.at_.x, .int .i64 m2.at_.y, .int .i64 m2.th.lo, .int .i64 m2.th.hi]] w fun e w' => e = .returned (.agg #[.int .i64 (joinK m1 m2).at_.x, .int .i64 (joinK m1 m2).at_.y, .int .i64 (joinK m1 m2).th.lo, .int .i64 (joinK m1 m2).th.hi]) ∧ Below w.heap.size w w' := by
  have k1 := ((Blk.new w 61 #[.int .i64 m1.at_.x, .int .i64 m1.at_.y, .int .i64 m1.th.lo, .int .i64 m1.th.hi]).alloc (.cells #[.int .i64 m2.at_.x, .int .i64 m2.at_.y, .int .i64 m2.th.lo, .int .i64 m2.th.hi] 61)).alloc (.cells #[.int .i64 0, .int .i64 0, .int .i64 0, .int .i64 0] 61)
  have k2 := (Blk.new (w.alloc (.cells #[.int .i64 m1.at_.x, .int .i64 m1.at_.y, .int .i64 m1.th.lo, .int .i64 m1.th.hi] 61)) 61 #[.int .i64 m2.at_.x, .int .i64 m2.at_.y, .int .i64 m2.th.lo, .int .i64 m2.th.hi]).alloc (.cells #[.int .i64 0, .int .i64 0, .int .i64 0, .int .i64 0] 61)
  have k3 := Blk.new ((w.alloc (.cells #[.int .i64 m1.at_.x, .int .i64 m1.at_.y, .int .i64 m1.th.lo, .int .i64 m1.th.hi] 61)).alloc (.cells #[.int .i64 m2.at_.x, .int .i64 m2.at_.y, .int .i64 m2.th.lo, .int .i64 m2.th.hi] 61)) 61 #[.int .i64 0, .int .i64 0, .int .i64 0, .int .i64 0]
  rw [World.size_alloc] at k2
  rw [World.size_alloc, World.size_alloc] at k3
  have hb1 : Below w.heap.size w (((w.alloc (.cells #[.int .i64 m1.at_.x, .int .i64 m1.at_.y, .int .i64 m1.th.lo, .int .i64 m1.th.hi] 61)).alloc (.cells #[.int .i64 m2.at_.x, .int .i64 m2.at_.y, .int .i64 m2.th.lo, .int .i64 m2.th.hi] 61)).alloc (.cells #[.int .i64 0, .int .i64 0, .int .i64 0, .int .i64 0] 61)) := (((Below.refl _ w).alloc (Nat.le_refl _) _).alloc (by simp) _).alloc (by simp; omega) _
  have HG := Lib.hid hg
  clear hg
  go_enter Tryd.func70, Tryd.ntmps70
  go_upto_region 1 with fail
  generalize (((w.alloc (.cells #[.int .i64 m1.at_.x, .int .i64 m1.at_.y, .int .i64 m1.th.lo, .int .i64 m1.th.hi] 61)).alloc (.cells #[.int .i64 m2.at_.x, .int .i64 m2.at_.y, .int .i64 m2.th.lo, .int .i64 m2.th.hi] 61)).alloc (.cells #[.int .i64 0, .int .i64 0, .int .i64 0, .int .i64 0] 61)) = w1 at *
  have K1 := Lib.hid k1
  have K2 := Lib.hid k2
  have K3 := Lib.hid k3
  have HB1 := Lib.hid hb1
  have HG1 := Lib.hid (HG.out.below hb1)
  have hst : ∀ w', Below w1.heap.size w1 w' → (fun w' : World => Below w1.heap.size w1 w' ∧ (w'.cell? ⟨w.heap.size, 0, none⟩ = some (.int .i64 m1.at_.x) ∧ w'.cell? ⟨w.heap.size, 1, none⟩ = some (.int .i64 m1.at_.y) ∧ w'.cell? ⟨w.heap.size, 2, none⟩ = some (.int .i64 m1.th.lo) ∧ w'.cell? ⟨w.heap.size, 3, none⟩ = some (.int .i64 m1.th.hi) ∧ w'.cell? ⟨w.heap.size + 1, 0, none⟩ = some (.int .i64 m2.at_.x) ∧ w'.cell? ⟨w.heap.size + 1, 1, none⟩ = some (.int .i64 m2.at_.y) ∧ w'.cell? ⟨w.heap.size + 1, 2, none⟩ = some (.int .i64 m2.th.lo) ∧ w'.cell? ⟨w.heap.size + 1, 3, none⟩ = some (.int .i64 m2.th.hi))) w' := fun w' hb => by
    have x1 := K1.out.belowS hb
    have x2 := K2.out.belowS hb
    exact ⟨hb, x1.cell 0, x1.cell 1, x1.cell 2, x1.cell 3, x2.cell 0, x2.cell 1, x2.cell 2, x2.cell 3⟩
  have HST := Lib.hid hst
  clear k1 k2 k3 hb1 hst
  have hx := HST.out w1.drew ((Below.refl _ w1).drew)
  refine wp_region_E 8 (fun w' : World => Below w1.heap.size w1 w' ∧ (w'.cell? ⟨w.heap.size, 0, none⟩ = some (.int .i64 m1.at_.x) ∧ w'.cell? ⟨w.heap.size, 1, none⟩ = some (.int .i64 m1.at_.y) ∧ w'.cell? ⟨w.heap.size, 2, none⟩ = some (.int .i64 m1.th.lo) ∧ w'.cell? ⟨w.heap.size, 3, none⟩ = some (.int .i64 m1.th.hi) ∧ w'.cell? ⟨w.heap.size + 1, 0, none⟩ = some (.int .i64 m2.at_.x) ∧ w'.cell? ⟨w.heap.size + 1, 1, none⟩ = some (.int .i64 m2.at_.y) ∧ w'.cell? ⟨w.heap.size + 1, 2, none⟩ = some (.int .i64 m2.th.lo) ∧ w'.cell? ⟨w.heap.size + 1, 3, none⟩ = some (.int .i64 m2.th.hi))) (by kernel_rfl) ?_
  refine E_take (i := 0) (oi := _) (v := ?vt44) rfl (by kernel_rfl) (by kernel_rfl) (by kernel_rfl) (by kernel_rfl) (fun _ _ _ h => h) hx (Or.inl ⟨by rfl, ?yt44⟩) ?rt44
  case yt44 => (intro w' hSw; (try dsimp only at hSw); go_simp; try with_reducible rfl)
  try simp only [Act.put, List.getElem_toArray, List.getElem_cons_zero, List.getElem_cons_succ, List.setIfInBounds_toArray, List.set_cons_zero, List.set_cons_succ]
  refine E_take (i := 1) (oi := _) (v := ?vt45) rfl (by kernel_rfl) (by kernel_rfl) (by kernel_rfl) (by kernel_rfl) (fun _ _ _ h => h) hx (Or.inl ⟨by rfl, ?yt45⟩) ?rt45
  case yt45 => (intro w' hSw; (try dsimp only at hSw); go_simp; try with_reducible rfl)
  try simp only [Act.put, List.getElem_toArray, List.getElem_cons_zero, List.getElem_cons_succ, List.setIfInBounds_toArray, List.set_cons_zero, List.set_cons_succ]
  refine E_take (i := 2) (oi := _) (v := ?vt46) rfl (by kernel_rfl) (by kernel_rfl) (by kernel_rfl) (by kernel_rfl) (fun _ _ _ h => h) hx (Or.inl ⟨by rfl, ?yt46⟩) ?rt46
  case yt46 => (intro w' hSw; (try dsimp only at hSw); go_simp; try with_reducible rfl)
  try simp only [Act.put, List.getElem_toArray, List.getElem_cons_zero, List.getElem_cons_succ, List.setIfInBounds_toArray, List.set_cons_zero, List.set_cons_succ]
  refine E_take (i := 3) (oi := _) (v := ?vt47) rfl (by kernel_rfl) (by kernel_rfl) (by kernel_rfl) (by kernel_rfl) (fun _ _ _ h => h) hx (Or.inl ⟨by rfl, ?yt47⟩) ?rt47
  case yt47 => (intro w' hSw; (try dsimp only at hSw); go_simp; try with_reducible rfl)
  try simp only [Act.put, List.getElem_toArray, List.getElem_cons_zero, List.getElem_cons_succ, List.setIfInBounds_toArray, List.set_cons_zero, List.set_cons_succ]
  refine E_take (i := 4) (oi := _) (v := ?vt48) rfl (by kernel_rfl) (by kernel_rfl) (by kernel_rfl) (by kernel_rfl) (fun _ _ _ h => h) hx (Or.inl ⟨by rfl, ?yt48⟩) ?rt48
  case yt48 => (intro w' hSw; (try dsimp only at hSw); go_simp; try with_reducible rfl)
  try simp only [Act.put, List.getElem_toArray, List.getElem_cons_zero, List.getElem_cons_succ, List.setIfInBounds_toArray, List.set_cons_zero, List.set_cons_succ]
  refine E_take (i := 5) (oi := _) (v := ?vt49) rfl (by kernel_rfl) (by kernel_rfl) (by kernel_rfl) (by kernel_rfl) (fun _ _ _ h => h) hx (Or.inl ⟨by rfl, ?yt49⟩) ?rt49
  case yt49 => (intro w' hSw; (try dsimp only at hSw); go_simp; try with_reducible rfl)
  try simp only [Act.put, List.getElem_toArray, List.getElem_cons_zero, List.getElem_cons_succ, List.setIfInBounds_toArray, List.set_cons_zero, List.set_cons_succ]
  refine E_step (i := 6) (o := _) (by kernel_rfl) rfl (fun K hK => ?_)
  go_simp
  refine (common_any m1.th m2.th _ (HG1.out.below hx.1)).mono ?_
  rintro e w2 ⟨rfl, hb2⟩
  (try dsimp only)
  have hb12 : Below w1.heap.size w1 w2 := hx.1.trans (hb2.mono hx.1.size)
  refine hK.out _ _ (fun _ => HST.out w2 hb12) ?_
  clear hK K
  try simp only [Act.put, List.getElem_toArray, List.getElem_cons_zero, List.getElem_cons_succ, List.setIfInBounds_toArray, List.set_cons_zero, List.set_cons_succ]
  have hx2 := HST.out w2 hb12
  refine E_take (i := 7) (oi := _) (v := ?vt50) rfl (by kernel_rfl) (by kernel_rfl) (by kernel_rfl) (by kernel_rfl) (fun _ _ _ h => h) hx2 (Or.inl ⟨by rfl, ?yt50⟩) ?rt50
  case yt50 => (intro w' hSw; (try dsimp only at hSw); go_simp; try with_reducible rfl)
  try simp only [Act.put, List.getElem_toArray, List.getElem_cons_zero, List.getElem_cons_succ, List.setIfInBounds_toArray, List.set_cons_zero, List.set_cons_succ]
  have k32 := K3.out.belowS hb12
  obtain ⟨b0, b1, b2, b3⟩ := (show w2.cell? ⟨w.heap.size + 1 + 1, 0, none⟩ = some (.int .i64 0) ∧ w2.cell? ⟨w.heap.size + 1 + 1, 1, none⟩ = some (.int .i64 0) ∧ w2.cell? ⟨w.heap.size + 1 + 1, 2, none⟩ = some (.int .i64 0) ∧ w2.cell? ⟨w.heap.size + 1 + 1, 3, none⟩ = some (.int .i64 0) from ⟨k32.cell 0, k32.cell 1, k32.cell 2, k32.cell 3⟩)
  have z0 := k32.frozen 0
  have z1 := k32.frozen 1
  have z2 := k32.frozen 2
  have z3 := k32.frozen 3
  have l3 := k32.lt
  obtain ⟨C, hC⟩ : ∃ C, comM m1.th m2.th = C := ⟨_, rfl⟩
  rw [hC]
  have HC := Lib.hid hC
  have HB2 := Lib.hid (HB1.out.trans (hb12.mono HB1.out.size))
  have KB := Lib.hid k32
  clear hx hx2 hb2 hb12 hC k32
  refine E_step (i := 8) (o := _) (by kernel_rfl) rfl (fun K hK => ?_)
  go_simp
  refine hK.out _ _ (fun h => absurd rfl h) ?_
  clear hK K
  try simp only [Act.put, List.getElem_toArray, List.getElem_cons_zero, List.getElem_cons_succ, List.setIfInBounds_toArray, List.set_cons_zero, List.set_cons_succ]
  refine E_done (by kernel_rfl) ?_ _
  have kf : Blk ((((w2.setCell ⟨w.heap.size + 1 + 1, 0, none⟩ (.int .i64 m1.at_.x)).setCell ⟨w.heap.size + 1 + 1, 1, none⟩ (.int .i64 m1.at_.y)).setCell ⟨w.heap.size + 1 + 1, 2, none⟩ (.int .i64 C.lo)).setCell ⟨w.heap.size + 1 + 1, 3, none⟩ (.int .i64 C.hi)) (w.heap.size + 1 + 1) #[.int .i64 m1.at_.x, .int .i64 m1.at_.y, .int .i64 C.lo, .int .i64 C.hi] 61 := ((((KB.out.set 0 (.int .i64 m1.at_.x)).set 1 (.int .i64 m1.at_.y)).set 2 (.int .i64 C.lo)).set 3 (.int .i64 C.hi))
  have ht : Turn (fun k => k = w.heap.size + 1 + 1) w2 ((((w2.setCell ⟨w.heap.size + 1 + 1, 0, none⟩ (.int .i64 m1.at_.x)).setCell ⟨w.heap.size + 1 + 1, 1, none⟩ (.int .i64 m1.at_.y)).setCell ⟨w.heap.size + 1 + 1, 2, none⟩ (.int .i64 C.lo)).setCell ⟨w.heap.size + 1 + 1, 3, none⟩ (.int .i64 C.hi)) := (((((Turn.of_below (X := fun k => k = w.heap.size + 1 + 1) (Below.refl _ w2)).setCell (B := w.heap.size + 1 + 1) rfl 0 (.int .i64 m1.at_.x)).setCell (B := w.heap.size + 1 + 1) rfl 1 (.int .i64 m1.at_.y)).setCell (B := w.heap.size + 1 + 1) rfl 2 (.int .i64 C.lo)).setCell (B := w.heap.size + 1 + 1) rfl 3 (.int .i64 C.hi))
  generalize ((((w2.setCell ⟨w.heap.size + 1 + 1, 0, none⟩ (.int .i64 m1.at_.x)).setCell ⟨w.heap.size + 1 + 1, 1, none⟩ (.int .i64 m1.at_.y)).setCell ⟨w.heap.size + 1 + 1, 2, none⟩ (.int .i64 C.lo)).setCell ⟨w.heap.size + 1 + 1, 3, none⟩ (.int .i64 C.hi)) = wf at *
  clear b0 b1 b2 b3 z0 z1 z2 z3
  obtain ⟨g0, g1, g2, g3⟩ := (show wf.cell? ⟨w.heap.size + 1 + 1, 0, none⟩ = some (.int .i64 m1.at_.x) ∧ wf.cell? ⟨w.heap.size + 1 + 1, 1, none⟩ = some (.int .i64 m1.at_.y) ∧ wf.cell? ⟨w.heap.size + 1 + 1, 2, none⟩ = some (.int .i64 C.lo) ∧ wf.cell? ⟨w.heap.size + 1 + 1, 3, none⟩ = some (.int .i64 C.hi) from ⟨kf.cell 0, kf.cell 1, kf.cell 2, kf.cell 3⟩)
  go_wp2_with fail
  exact bodyPost_ret (v := .agg #[.int .i64 m1.at_.x, .int .i64 m1.at_.y, .int .i64 C.lo, .int .i64 C.hi]) (by simp [results, Tryd.results70, go_sem, g0, g1, g2, g3]) rfl ⟨by simp only [joinK, HC.out], HB2.out.trans (ht.below HB2.out.size (fun k e => by rw [show k = w.heap.size + 1 + 1 from e]; omega))⟩

/-! ### The place of a mark among marks in order -/
def thereB (l : List Mrk) (x : Mrk) (i : Nat) : Bool := decide (l[i]?.map (·.at_) = some x.at_)
/-- Where a mark belongs: ahead of it are lesser ones alone, from there on is none. -/
def PlaceOf (l : List Mrk) (x : Mrk) (i : Nat) : Prop := i ≤ l.length ∧ (∀ j m, l[j]? = some m → j < i → plt m.at_ x.at_) ∧ (∀ m, l[i]? = some m → ¬ plt m.at_ x.at_)
theorem ord_lt {l : List Mrk} (h : ordB l = true) : ∀ (d i : Nat) (a b : Mrk), l[i]? = some a → l[i + 1 + d]? = some b → plt a.at_ b.at_
  | 0, i, a, b, ha, hb => plt_iff.1 ((ordB_iff l).1 h i a b ha hb)
  | d + 1, i, a, b, ha, hb => by
    have hlt : i + 1 + d < l.length := by have := (List.getElem?_eq_some_iff.1 hb).1; omega
    have h1 := ord_lt h d i a l[i + 1 + d] ha (List.getElem?_eq_getElem hlt)
    have h2 := plt_iff.1 ((ordB_iff l).1 h (i + 1 + d) l[i + 1 + d] b (List.getElem?_eq_getElem hlt) (by rw [show i + 1 + d + 1 = i + 1 + (d + 1) by omega]; exact hb))
    exact plt_trans h1 h2
theorem ord_lt' {l : List Mrk} (h : ordB l = true) {i j : Nat} {a b : Mrk} (hij : i < j) (ha : l[i]? = some a) (hb : l[j]? = some b) : plt a.at_ b.at_ :=
  ord_lt h (j - i - 1) i a b ha (by rw [show i + 1 + (j - i - 1) = j by omega]; exact hb)

set_option maxRecDepth 100000 in
set_option maxHeartbeats 8000000 in
theorem bsearch_any (la : Option Addr) (lc : Nat) (l : List Mrk) (x : Mrk) (w : World) (hl : IsRow4 mrkC w la lc l) (hord : ordB l = true) (hlen : l.length ≤ 100000) :
    Calls Tryd.prog 87 #[.slice la l.length lc, .agg #[.int .i64 x.at_.x, .int .i64 x.at_.y, .int .i64 x.th.lo, .int .i64 x.th.hi], .func (.func 67) #[] #[]] w fun e w' => (∃ i, PlaceOf l x i ∧ e = .returned (.tuple #[.int .i64 i, .bool (thereB l x i)])) ∧ Below w.heap.size w w' := by
  have k1 := Blk.new w 61 #[.int .i64 x.at_.x, .int .i64 x.at_.y, .int .i64 x.th.lo, .int .i64 x.th.hi]
  have hb1 : Below w.heap.size w (w.alloc (.cells #[.int .i64 x.at_.x, .int .i64 x.at_.y, .int .i64 x.th.lo, .int .i64 x.th.hi] 61)) := (Below.refl _ w).alloc (Nat.le_refl _) _
  have HL := Lib.hid hl
  have HO := Lib.hid hord
  have HN := Lib.hid hlen
  clear hl hord hlen
  go_enter Tryd.func87, Tryd.ntmps87
  go_upto_region 1 with fail
  generalize w.alloc (.cells #[.int .i64 x.at_.x, .int .i64 x.at_.y, .int .i64 x.th.lo, .int .i64 x.th.hi] 61) = w1 at *
  have HB1 := Lib.hid hb1
  have K1 := Lib.hid k1
  clear hb1 k1
  go_wp2_with fail
  go_loopw [9, 10, 11] (fun s9 s10 _ wr => ∃ p q : Nat, p ≤ q ∧ q ≤ l.length ∧ s9 = .int .i64 p ∧ s10 = .int .i64 q ∧ (∀ j m, l[j]? = some m → j < p → plt m.at_ x.at_) ∧ (∀ j m, l[j]? = some m → q ≤ j → ¬ plt m.at_ x.at_) ∧ Below w1.heap.size w1 wr) (fun a b _ _ => (intOf b - intOf a).toNat)
  case atStart => exact ⟨0, l.length, Nat.zero_le _, Nat.le_refl _, rfl, rfl, fun j m _ h => by omega, fun j m hj h => by have := (List.getElem?_eq_some_iff.1 hj).1; omega, Below.refl _ _⟩
  case round =>
  obtain ⟨p, q, hpq, hql, rfl, rfl, hlo, hhi, hb3⟩ := hrel
  obtain ⟨w3, rfl⟩ : ∃ w3 : World, w3 = wr := ⟨_, rfl⟩
  have HLO := Lib.hid hlo
  have HHI := Lib.hid hhi
  have HB3 := Lib.hid (HB1.out.trans (hb3.mono HB1.out.size))
  have HB13 := Lib.hid hb3
  have K3 := Lib.hid (K1.out.belowS hb3)
  clear hlo hhi hb3
  by_cases hlt : p < q
  rotate_left
  · obtain rfl : p = q := by omega
    have hlt' : ¬ (p : Int) < (p : Int) := by omega
    clear hlt hpq
    have HPL := Lib.hid (show PlaceOf l x p from ⟨hql, HLO.out, fun m hm => HHI.out p m hm (Nat.le_refl _)⟩)
    by_cases hpn : p < l.length
    rotate_left
    · obtain rfl : p = l.length := by omega
      have hlt2 : ¬ (l.length : Int) < (l.length : Int) := by omega
      have HE := Lib.hid (show thereB l x l.length = false by simp [thereB])
      clear hpn hql
      go_upto_region 8 with fail
      have hst : ∀ w', Below w3.heap.size w3 w' → (fun w' : World => Below w3.heap.size w3 w') w' := fun w' hb => hb
      have hx := hst w3.drew ((Below.refl _ w3).drew)
      refine wp_region_E 16 (fun w' : World => Below w3.heap.size w3 w') (by kernel_rfl) ?_
      refine E_takeR (i := 0) (oi := _) (v := ?vt10) rfl (by kernel_rfl) (by kernel_rfl) (by kernel_rfl) (by decide) (fun _ _ _ h => h) hx (Or.inl ⟨by rfl, ?yt10⟩) ?rt10
      case yt10 => (intro w' hSw; (try dsimp only at hSw); go_simp; try with_reducible rfl)
      try simp only [Act.put, List.getElem_toArray, List.getElem_cons_zero, List.getElem_cons_succ, List.setIfInBounds_toArray, List.set_cons_zero, List.set_cons_succ]
      refine E_takeR (i := 1) (oi := _) (v := ?vt11) rfl (by kernel_rfl) (by kernel_rfl) (by kernel_rfl) (by decide) (fun _ _ _ h => h) hx (Or.inl ⟨by rfl, ?yt11⟩) ?rt11
      case yt11 => (intro w' hSw; (try dsimp only at hSw); go_simp; try with_reducible rfl)
      try simp only [Act.put, List.getElem_toArray, List.getElem_cons_zero, List.getElem_cons_succ, List.setIfInBounds_toArray, List.set_cons_zero, List.set_cons_succ]
      refine E_takeR (i := 2) (oi := _) (v := ?vt12) rfl (by kernel_rfl) (by kernel_rfl) (by kernel_rfl) (by decide) (fun _ _ _ h => h) hx (Or.inl ⟨by rfl, ?yt12⟩) ?rt12
      case yt12 => (intro w' hSw; (try dsimp only at hSw); go_simp; try with_reducible rfl)
      try simp only [Act.put, List.getElem_toArray, List.getElem_cons_zero, List.getElem_cons_succ, List.setIfInBounds_toArray, List.set_cons_zero, List.set_cons_succ]
      refine E_takeR (i := 3) (oi := _) (v := ?vt13) rfl (by kernel_rfl) (by kernel_rfl) (by kernel_rfl) (by decide) (fun _ _ _ h => h) hx (Or.inl ⟨by rfl, ?yt13⟩) ?rt13
      case yt13 => (intro w' hSw; (try dsimp only at hSw); go_simp; try with_reducible rfl)
      try simp only [Act.put, List.getElem_toArray, List.getElem_cons_zero, List.getElem_cons_succ, List.setIfInBounds_toArray, List.set_cons_zero, List.set_cons_succ]
      refine E_takeR (i := 4) (oi := _) (v := ?vt14) rfl (by kernel_rfl) (by kernel_rfl) (by kernel_rfl) (by decide) (fun _ _ _ h => h) hx (Or.inl ⟨by rfl, ?yt14⟩) ?rt14
      case yt14 => (intro w' hSw; (try dsimp only at hSw); go_simp; try with_reducible rfl)
      try simp only [Act.put, List.getElem_toArray, List.getElem_cons_zero, List.getElem_cons_succ, List.setIfInBounds_toArray, List.set_cons_zero, List.set_cons_succ]
      refine E_takeR (i := 5) (oi := _) (v := undef) rfl (by kernel_rfl) (by kernel_rfl) (by kernel_rfl) (by decide) (fun _ _ _ h => h) hx (Or.inr ⟨by rfl, rfl⟩) ?rt15
      try simp only [Act.put, List.getElem_toArray, List.getElem_cons_zero, List.getElem_cons_succ, List.setIfInBounds_toArray, List.set_cons_zero, List.set_cons_succ]
      refine E_takeR (i := 6) (oi := _) (v := undef) rfl (by kernel_rfl) (by kernel_rfl) (by kernel_rfl) (by decide) (fun _ _ _ h => h) hx (Or.inr ⟨by rfl, rfl⟩) ?rt16
      try simp only [Act.put, List.getElem_toArray, List.getElem_cons_zero, List.getElem_cons_succ, List.setIfInBounds_toArray, List.set_cons_zero, List.set_cons_succ]
      refine E_takeR (i := 7) (oi := _) (v := undef) rfl (by kernel_rfl) (by kernel_rfl) (by kernel_rfl) (by decide) (fun _ _ _ h => h) hx (Or.inr ⟨by rfl, rfl⟩) ?rt17
      try simp only [Act.put, List.getElem_toArray, List.getElem_cons_zero, List.getElem_cons_succ, List.setIfInBounds_toArray, List.set_cons_zero, List.set_cons_succ]
      refine E_takeR (i := 8) (oi := _) (v := undef) rfl (by kernel_rfl) (by kernel_rfl) (by kernel_rfl) (by decide) (fun _ _ _ h => h) hx (Or.inr ⟨by rfl, rfl⟩) ?rt18
      try simp only [Act.put, List.getElem_toArray, List.getElem_cons_zero, List.getElem_cons_succ, List.setIfInBounds_toArray, List.set_cons_zero, List.set_cons_succ]
      refine E_takeR (i := 9) (oi := _) (v := undef) rfl (by kernel_rfl) (by kernel_rfl) (by kernel_rfl) (by decide) (fun _ _ _ h => h) hx (Or.inr ⟨by rfl, rfl⟩) ?rt19
      try simp only [Act.put, List.getElem_toArray, List.getElem_cons_zero, List.getElem_cons_succ, List.setIfInBounds_toArray, List.set_cons_zero, List.set_cons_succ]
      refine E_takeR (i := 10) (oi := _) (v := undef) rfl (by kernel_rfl) (by kernel_rfl) (by kernel_rfl) (by decide) (fun _ _ _ h => h) hx (Or.inr ⟨by rfl, rfl⟩) ?rt20
      try simp only [Act.put, List.getElem_toArray, List.getElem_cons_zero, List.getElem_cons_succ, List.setIfInBounds_toArray, List.set_cons_zero, List.set_cons_succ]
      refine E_takeR (i := 11) (oi := _) (v := undef) rfl (by kernel_rfl) (by kernel_rfl) (by kernel_rfl) (by decide) (fun _ _ _ h => h) hx (Or.inr ⟨by rfl, rfl⟩) ?rt21
      try simp only [Act.put, List.getElem_toArray, List.getElem_cons_zero, List.getElem_cons_succ, List.setIfInBounds_toArray, List.set_cons_zero, List.set_cons_succ]
      refine E_takeR (i := 12) (oi := _) (v := undef) rfl (by kernel_rfl) (by kernel_rfl) (by kernel_rfl) (by decide) (fun _ _ _ h => h) hx (Or.inr ⟨by rfl, rfl⟩) ?rt22
      try simp only [Act.put, List.getElem_toArray, List.getElem_cons_zero, List.getElem_cons_succ, List.setIfInBounds_toArray, List.set_cons_zero, List.set_cons_succ]
      refine E_takeR (i := 13) (oi := _) (v := ?vt23) rfl (by kernel_rfl) (by kernel_rfl) (by kernel_rfl) (by decide) (fun _ _ _ h => h) hx (Or.inl ⟨by rfl, ?yt23⟩) ?rt23
      case yt23 => (intro w' hSw; (try dsimp only at hSw); go_simp; try with_reducible rfl)
      try simp only [Act.put, List.getElem_toArray, List.getElem_cons_zero, List.getElem_cons_succ, List.setIfInBounds_toArray, List.set_cons_zero, List.set_cons_succ]
      refine E_step (i := 14) (o := _) (by kernel_rfl) rfl (fun K hK => ?_)
      go_simp
      refine hK.out _ _ (fun _ => hx) ?_
      clear hK K
      try simp only [Act.put, List.getElem_toArray, List.getElem_cons_zero, List.getElem_cons_succ, List.setIfInBounds_toArray, List.set_cons_zero, List.set_cons_succ]
      refine E_step (i := 15) (o := _) (by kernel_rfl) rfl (fun K hK => ?_)
      go_simp
      refine hK.out _ _ (fun _ => hx) ?_
      clear hK K
      try simp only [Act.put, List.getElem_toArray, List.getElem_cons_zero, List.getElem_cons_succ, List.setIfInBounds_toArray, List.set_cons_zero, List.set_cons_succ]
      refine E_done (by kernel_rfl) ?_ _
      have HBZ := Lib.hid (HB3.out.trans (hx.mono HB3.out.size))
      go_wp2_with fail
      exact bodyPost_ret (v := .tuple #[.int .i64 (l.length : Int), .bool false]) (by simp [results, Tryd.results87, go_sem]) rfl ⟨⟨l.length, HPL.out, by rw [HE.out]⟩, HBZ.out⟩
    have hpi : (p : Int) < (l.length : Int) := by omega
    have hp0 : (0 : Int) ≤ (p : Int) := Int.natCast_nonneg _
    have hqK : l[p]? = some l[p] := List.getElem?_eq_getElem hpn
    have HQK := Lib.hid hqK
    obtain ⟨b, off, hea, hbl, hcap, hcx, y0, y1, y2, y3⟩ := (HL.out.below HB3.out).at hqK
    generalize l[p] = m at *
    simp only [mrkC, List.getElem?_toArray, List.getElem?_cons_zero, List.getElem?_cons_succ] at y0 y1 y2 y3
    clear hql hqK hpn
    go_upto_region 8 with fail
    rw [hea]
    have HROW := Lib.hid (And.intro hbl (And.intro hcap hcx))
    have hst : ∀ w', Below w3.heap.size w3 w' → (fun w' : World => Below w3.heap.size w3 w' ∧ (w'.cell? ⟨w.heap.size, 0, none⟩ = some (.int .i64 x.at_.x) ∧ w'.cell? ⟨w.heap.size, 1, none⟩ = some (.int .i64 x.at_.y) ∧ w'.cell? ⟨w.heap.size, 2, none⟩ = some (.int .i64 x.th.lo) ∧ w'.cell? ⟨w.heap.size, 3, none⟩ = some (.int .i64 x.th.hi) ∧ w'.cell? ⟨b, off + p * 4, none⟩ = some (.int .i64 m.at_.x) ∧ w'.cell? ⟨b, off + p * 4 + 1, none⟩ = some (.int .i64 m.at_.y) ∧ w'.cell? ⟨b, off + p * 4 + 2, none⟩ = some (.int .i64 m.th.lo) ∧ w'.cell? ⟨b, off + p * 4 + 3, none⟩ = some (.int .i64 m.th.hi))) w' := fun w' hb => by
      have x1 := K3.out.belowS hb
      have e : ∀ o, w'.cell? ⟨b, o, none⟩ = w3.cell? ⟨b, o, none⟩ := fun o => hb.cell (p := ⟨b, o, none⟩) HROW.out.1
      exact ⟨hb, x1.cell 0, x1.cell 1, x1.cell 2, x1.cell 3, (e _).trans y0, (e _).trans y1, (e _).trans y2, (e _).trans y3⟩
    have HST := Lib.hid hst
    clear hst y0 y1 y2 y3 hea
    have hx := HST.out w3.drew ((Below.refl _ w3).drew)
    refine wp_region_E 16 (fun w' : World => Below w3.heap.size w3 w' ∧ (w'.cell? ⟨w.heap.size, 0, none⟩ = some (.int .i64 x.at_.x) ∧ w'.cell? ⟨w.heap.size, 1, none⟩ = some (.int .i64 x.at_.y) ∧ w'.cell? ⟨w.heap.size, 2, none⟩ = some (.int .i64 x.th.lo) ∧ w'.cell? ⟨w.heap.size, 3, none⟩ = some (.int .i64 x.th.hi) ∧ w'.cell? ⟨b, off + p * 4, none⟩ = some (.int .i64 m.at_.x) ∧ w'.cell? ⟨b, off + p * 4 + 1, none⟩ = some (.int .i64 m.at_.y) ∧ w'.cell? ⟨b, off + p * 4 + 2, none⟩ = some (.int .i64 m.th.lo) ∧ w'.cell? ⟨b, off + p * 4 + 3, none⟩ = some (.int .i64 m.th.hi))) (by kernel_rfl) ?_
    refine E_takeR (i := 0) (oi := _) (v := ?vt24) rfl (by kernel_rfl) (by kernel_rfl) (by kernel_rfl) (by decide) (fun _ _ _ h => h) hx (Or.inl ⟨by rfl, ?yt24⟩) ?rt24
    case yt24 => (intro w' hSw; (try dsimp only at hSw); go_simp; try with_reducible rfl)
    try simp only [Act.put, List.getElem_toArray, List.getElem_cons_zero, List.getElem_cons_succ, List.setIfInBounds_toArray, List.set_cons_zero, List.set_cons_succ]
    refine E_takeR (i := 1) (oi := _) (v := ?vt25) rfl (by kernel_rfl) (by kernel_rfl) (by kernel_rfl) (by decide) (fun _ _ _ h => h) hx (Or.inl ⟨by rfl, ?yt25⟩) ?rt25
    case yt25 => (intro w' hSw; (try dsimp only at hSw); go_simp; try with_reducible rfl)
    try simp only [Act.put, List.getElem_toArray, List.getElem_cons_zero, List.getElem_cons_succ, List.setIfInBounds_toArray, List.set_cons_zero, List.set_cons_succ]
    refine E_takeR (i := 2) (oi := _) (v := ?vt26) rfl (by kernel_rfl) (by kernel_rfl) (by kernel_rfl) (by decide) (fun _ _ _ h => h) hx (Or.inl ⟨by rfl, ?yt26⟩) ?rt26
    case yt26 => (intro w' hSw; (try dsimp only at hSw); go_simp; try with_reducible rfl)
    try simp only [Act.put, List.getElem_toArray, List.getElem_cons_zero, List.getElem_cons_succ, List.setIfInBounds_toArray, List.set_cons_zero, List.set_cons_succ]
    refine E_takeR (i := 3) (oi := _) (v := ?vt27) rfl (by kernel_rfl) (by kernel_rfl) (by kernel_rfl) (by decide) (fun _ _ _ h => h) hx (Or.inl ⟨by rfl, ?yt27⟩) ?rt27
    case yt27 => (intro w' hSw; (try dsimp only at hSw); go_simp; try with_reducible rfl)
    try simp only [Act.put, List.getElem_toArray, List.getElem_cons_zero, List.getElem_cons_succ, List.setIfInBounds_toArray, List.set_cons_zero, List.set_cons_succ]
    refine E_takeR (i := 4) (oi := _) (v := ?vt28) rfl (by kernel_rfl) (by kernel_rfl) (by kernel_rfl) (by decide) (fun _ _ _ h => h) hx (Or.inl ⟨by rfl, ?yt28⟩) ?rt28
    case yt28 => (intro w' hSw; (try dsimp only at hSw); go_simp; try with_reducible rfl)
    try simp only [Act.put, List.getElem_toArray, List.getElem_cons_zero, List.getElem_cons_succ, List.setIfInBounds_toArray, List.set_cons_zero, List.set_cons_succ]
    refine E_takeR (i := 5) (oi := _) (v := ?vt29) rfl (by kernel_rfl) (by kernel_rfl) (by kernel_rfl) (by decide) (fun _ _ _ h => h) hx (Or.inl ⟨by rfl, ?yt29⟩) ?rt29
    case yt29 => (intro w' hSw; (try dsimp only at hSw); go_simp; try with_reducible rfl)
    try simp only [Act.put, List.getElem_toArray, List.getElem_cons_zero, List.getElem_cons_succ, List.setIfInBounds_toArray, List.set_cons_zero, List.set_cons_succ]
    refine E_takeR (i := 6) (oi := _) (v := ?vt30) rfl (by kernel_rfl) (by kernel_rfl) (by kernel_rfl) (by decide) (fun _ _ _ h => h) hx (Or.inl ⟨by rfl, ?yt30⟩) ?rt30
    case yt30 => (intro w' hSw; (try dsimp only at hSw); go_simp; try with_reducible rfl)
    try simp only [Act.put, List.getElem_toArray, List.getElem_cons_zero, List.getElem_cons_succ, List.setIfInBounds_toArray, List.set_cons_zero, List.set_cons_succ]
    refine E_takeR (i := 7) (oi := _) (v := ?vt31) rfl (by kernel_rfl) (by kernel_rfl) (by kernel_rfl) (by decide) (fun _ _ _ h => h) hx (Or.inl ⟨by rfl, ?yt31⟩) ?rt31
    case yt31 => (intro w' hSw; (try dsimp only at hSw); go_simp; try with_reducible rfl)
    try simp only [Act.put, List.getElem_toArray, List.getElem_cons_zero, List.getElem_cons_succ, List.setIfInBounds_toArray, List.set_cons_zero, List.set_cons_succ]
    refine E_takeR (i := 8) (oi := _) (v := ?vt32) rfl (by kernel_rfl) (by kernel_rfl) (by kernel_rfl) (by decide) (fun _ _ _ h => h) hx (Or.inl ⟨by rfl, ?yt32⟩) ?rt32
    case yt32 => (intro w' hSw; (try dsimp only at hSw); go_simp; try with_reducible rfl)
    try simp only [Act.put, List.getElem_toArray, List.getElem_cons_zero, List.getElem_cons_succ, List.setIfInBounds_toArray, List.set_cons_zero, List.set_cons_succ]
    refine E_takeR (i := 9) (oi := _) (v := ?vt33) rfl (by kernel_rfl) (by kernel_rfl) (by kernel_rfl) (by decide) (fun _ _ _ h => h) hx (Or.inl ⟨by rfl, ?yt33⟩) ?rt33
    case yt33 => (intro w' hSw; (try dsimp only at hSw); go_simp; try with_reducible rfl)
    try simp only [Act.put, List.getElem_toArray, List.getElem_cons_zero, List.getElem_cons_succ, List.setIfInBounds_toArray, List.set_cons_zero, List.set_cons_succ]
    refine E_takeR (i := 10) (oi := _) (v := ?vt34) rfl (by kernel_rfl) (by kernel_rfl) (by kernel_rfl) (by decide) (fun _ _ _ h => h) hx (Or.inl ⟨by rfl, ?yt34⟩) ?rt34
    case yt34 => (intro w' hSw; (try dsimp only at hSw); go_simp; try with_reducible rfl)
    try simp only [Act.put, List.getElem_toArray, List.getElem_cons_zero, List.getElem_cons_succ, List.setIfInBounds_toArray, List.set_cons_zero, List.set_cons_succ]
    refine E_step (i := 11) (o := _) (by kernel_rfl) rfl (fun K hK => ?_)
    go_simp
    refine (compareMarks_any m x _).mono ?_
    rintro e w4 ⟨rfl, hb4⟩
    (try dsimp only)
    have hb34 : Below w3.heap.size w3 w4 := hx.1.trans (hb4.mono hx.1.size)
    refine hK.out _ _ (fun _ => HST.out w4 hb34) ?_
    clear hK K
    try simp only [Act.put, List.getElem_toArray, List.getElem_cons_zero, List.getElem_cons_succ, List.setIfInBounds_toArray, List.set_cons_zero, List.set_cons_succ]
    have hx4 := HST.out w4 hb34
    refine E_takeR (i := 12) (oi := _) (v := ?vt35) rfl (by kernel_rfl) (by kernel_rfl) (by kernel_rfl) (by decide) (fun _ _ _ h => h) hx4 (Or.inl ⟨by rfl, ?yt35⟩) ?rt35
    case yt35 => (intro w' hSw; (try dsimp only at hSw); go_simp; try with_reducible rfl)
    try simp only [Act.put, List.getElem_toArray, List.getElem_cons_zero, List.getElem_cons_succ, List.setIfInBounds_toArray, List.set_cons_zero, List.set_cons_succ]
    refine E_takeR (i := 13) (oi := _) (v := ?vt36) rfl (by kernel_rfl) (by kernel_rfl) (by kernel_rfl) (by decide) (fun _ _ _ h => h) hx4 (Or.inl ⟨by rfl, ?yt36⟩) ?rt36
    case yt36 => (intro w' hSw; (try dsimp only at hSw); go_simp; try with_reducible rfl)
    try simp only [Act.put, List.getElem_toArray, List.getElem_cons_zero, List.getElem_cons_succ, List.setIfInBounds_toArray, List.set_cons_zero, List.set_cons_succ]
    refine E_step (i := 14) (o := _) (by kernel_rfl) rfl (fun K hK => ?_)
    go_simp
    refine hK.out _ _ (fun _ => hx4) ?_
    clear hK K
    try simp only [Act.put, List.getElem_toArray, List.getElem_cons_zero, List.getElem_cons_succ, List.setIfInBounds_toArray, List.set_cons_zero, List.set_cons_succ]
    refine E_step (i := 15) (o := _) (by kernel_rfl) rfl (fun K hK => ?_)
    go_simp
    refine hK.out _ _ (fun _ => hx4) ?_
    clear hK K
    try simp only [Act.put, List.getElem_toArray, List.getElem_cons_zero, List.getElem_cons_succ, List.setIfInBounds_toArray, List.set_cons_zero, List.set_cons_succ]
    refine E_done (by kernel_rfl) ?_ _
    have HBZ := Lib.hid (HB3.out.trans (hb34.mono HB3.out.size))
    have HV := Lib.hid (show thereB l x p = (pcmp m.at_ x.at_ == 0) by
      unfold thereB
      rw [HQK.out]
      by_cases h : m.at_ = x.at_
      · simp [h, pcmp_zero.2 rfl]
      · simp [h, mt pcmp_zero.1 h])
    clear hx hx4 hb4 hb34
    go_wp2_with fail
    exact bodyPost_ret (v := .tuple #[.int .i64 (p : Int), .bool (pcmp m.at_ x.at_ == 0)]) (by simp [results, Tryd.results87, go_sem]) rfl ⟨⟨p, HPL.out, by rw [HV.out]⟩, HBZ.out⟩
  have hlt' : (p : Int) < (q : Int) := by omega
  obtain ⟨KK, hK⟩ : ∃ KK : Nat, KK = (p + q) / 2 := ⟨_, rfl⟩
  have hKp : p ≤ KK := by omega
  have hKq : KK < q := by omega
  have hpq2 : IntKind.i64.wrap ((p : Int) + (q : Int)) = (p : Int) + (q : Int) := by have := HN.out; rw [IntKind.wrap_i64]; omega
  have hmid : wrap64 (IntKind.u64.wrap ((p : Int) + (q : Int)) / 2) = (KK : Int) := by
    have h1 : IntKind.u64.wrap ((p : Int) + (q : Int)) = (p : Int) + (q : Int) := by have := HN.out; rw [IntKind.wrap_u64]; omega
    rw [h1]
    have := HN.out
    unfold wrap64
    omega
  have HMID := Lib.hid hmid
  have HMID2 := Lib.hid (show ((p : Int) + (q : Int)) / 2 = (KK : Int) by omega)
  have hlK : KK < l.length := by omega
  have hqK : l[KK]? = some l[KK] := List.getElem?_eq_getElem hlK
  have HQK := Lib.hid hqK
  obtain ⟨b, off, hea, hbl, hcap, hcx, y0, y1, y2, y3⟩ := (HL.out.below HB3.out).at hqK
  generalize l[KK] = m at *
  simp only [mrkC, List.getElem?_toArray, List.getElem?_cons_zero, List.getElem?_cons_succ] at y0 y1 y2 y3
  have HPQ := Lib.hid (And.intro hKp (And.intro hKq hql))
  clear hK hKp hKq hmid hqK
  go_upto_region 5 with fail
  (try rw [HMID.out])
  (try rw [HMID2.out])
  clear hpq2 hlt hlt' hpq hql
  have hlK' : (KK : Int) < (l.length : Int) := by omega
  have hK0 : (0 : Int) ≤ (KK : Int) := Int.natCast_nonneg _
  have HEA := Lib.hid hea.symm
  rw [hea]
  have HROW := Lib.hid (And.intro hbl (And.intro hcap hcx))
  have hst : ∀ w', Below w3.heap.size w3 w' → (fun w' : World => Below w3.heap.size w3 w' ∧ (w'.cell? ⟨w.heap.size, 0, none⟩ = some (.int .i64 x.at_.x) ∧ w'.cell? ⟨w.heap.size, 1, none⟩ = some (.int .i64 x.at_.y) ∧ w'.cell? ⟨w.heap.size, 2, none⟩ = some (.int .i64 x.th.lo) ∧ w'.cell? ⟨w.heap.size, 3, none⟩ = some (.int .i64 x.th.hi) ∧ w'.cell? ⟨b, off + KK * 4, none⟩ = some (.int .i64 m.at_.x) ∧ w'.cell? ⟨b, off + KK * 4 + 1, none⟩ = some (.int .i64 m.at_.y) ∧ w'.cell? ⟨b, off + KK * 4 + 2, none⟩ = some (.int .i64 m.th.lo) ∧ w'.cell? ⟨b, off + KK * 4 + 3, none⟩ = some (.int .i64 m.th.hi))) w' := fun w' hb => by
    have x1 := K3.out.belowS hb
    have e : ∀ o, w'.cell? ⟨b, o, none⟩ = w3.cell? ⟨b, o, none⟩ := fun o => hb.cell (p := ⟨b, o, none⟩) HROW.out.1
    exact ⟨hb, x1.cell 0, x1.cell 1, x1.cell 2, x1.cell 3, (e _).trans y0, (e _).trans y1, (e _).trans y2, (e _).trans y3⟩
  have HST := Lib.hid hst
  clear hst y0 y1 y2 y3 hea
  have hx := HST.out w3.drew ((Below.refl _ w3).drew)
  refine wp_region_E 8 (fun w' : World => Below w3.heap.size w3 w' ∧ (w'.cell? ⟨w.heap.size, 0, none⟩ = some (.int .i64 x.at_.x) ∧ w'.cell? ⟨w.heap.size, 1, none⟩ = some (.int .i64 x.at_.y) ∧ w'.cell? ⟨w.heap.size, 2, none⟩ = some (.int .i64 x.th.lo) ∧ w'.cell? ⟨w.heap.size, 3, none⟩ = some (.int .i64 x.th.hi) ∧ w'.cell? ⟨b, off + KK * 4, none⟩ = some (.int .i64 m.at_.x) ∧ w'.cell? ⟨b, off + KK * 4 + 1, none⟩ = some (.int .i64 m.at_.y) ∧ w'.cell? ⟨b, off + KK * 4 + 2, none⟩ = some (.int .i64 m.th.lo) ∧ w'.cell? ⟨b, off + KK * 4 + 3, none⟩ = some (.int .i64 m.th.hi))) (by kernel_rfl) ?_
  refine E_takeR (i := 0) (oi := _) (v := ?vt37) rfl (by kernel_rfl) (by kernel_rfl) (by kernel_rfl) (by decide) (fun _ _ _ h => h) hx (Or.inl ⟨by rfl, ?yt37⟩) ?rt37
  case yt37 => (intro w' hSw; (try dsimp only at hSw); go_simp; try with_reducible rfl)
  try simp only [Act.put, List.getElem_toArray, List.getElem_cons_zero, List.getElem_cons_succ, List.setIfInBounds_toArray, List.set_cons_zero, List.set_cons_succ]
  refine E_takeR (i := 1) (oi := _) (v := ?vt38) rfl (by kernel_rfl) (by kernel_rfl) (by kernel_rfl) (by decide) (fun _ _ _ h => h) hx (Or.inl ⟨by rfl, ?yt38⟩) ?rt38
  case yt38 => (intro w' hSw; (try dsimp only at hSw); go_simp; try with_reducible rfl)
  try simp only [Act.put, List.getElem_toArray, List.getElem_cons_zero, List.getElem_cons_succ, List.setIfInBounds_toArray, List.set_cons_zero, List.set_cons_succ]
  refine E_takeR (i := 2) (oi := _) (v := ?vt39) rfl (by kernel_rfl) (by kernel_rfl) (by kernel_rfl) (by decide) (fun _ _ _ h => h) hx (Or.inl ⟨by rfl, ?yt39⟩) ?rt39
  case yt39 => (intro w' hSw; (try dsimp only at hSw); go_simp; try with_reducible rfl)
  try simp only [Act.put, List.getElem_toArray, List.getElem_cons_zero, List.getElem_cons_succ, List.setIfInBounds_toArray, List.set_cons_zero, List.set_cons_succ]
  refine E_takeR (i := 3) (oi := _) (v := ?vt40) rfl (by kernel_rfl) (by kernel_rfl) (by kernel_rfl) (by decide) (fun _ _ _ h => h) hx (Or.inl ⟨by rfl, ?yt40⟩) ?rt40
  case yt40 => (intro w' hSw; (try dsimp only at hSw); go_simp; try with_reducible rfl)
  try simp only [Act.put, List.getElem_toArray, List.getElem_cons_zero, List.getElem_cons_succ, List.setIfInBounds_toArray, List.set_cons_zero, List.set_cons_succ]
  refine E_takeR (i := 4) (oi := _) (v := ?vt41) rfl (by kernel_rfl) (by kernel_rfl) (by kernel_rfl) (by decide) (fun _ _ _ h => h) hx (Or.inl ⟨by rfl, ?yt41⟩) ?rt41
  case yt41 => (intro w' hSw; (try dsimp only at hSw); go_simp; try with_reducible rfl)
  try simp only [Act.put, List.getElem_toArray, List.getElem_cons_zero, List.getElem_cons_succ, List.setIfInBounds_toArray, List.set_cons_zero, List.set_cons_succ]
  refine E_takeR (i := 5) (oi := _) (v := ?vt42) rfl (by kernel_rfl) (by kernel_rfl) (by kernel_rfl) (by decide) (fun _ _ _ h => h) hx (Or.inl ⟨by rfl, ?yt42⟩) ?rt42
  case yt42 => (intro w' hSw; (try dsimp only at hSw); go_simp; try with_reducible rfl)
  try simp only [Act.put, List.getElem_toArray, List.getElem_cons_zero, List.getElem_cons_succ, List.setIfInBounds_toArray, List.set_cons_zero, List.set_cons_succ]
  refine E_step (i := 6) (o := _) (by kernel_rfl) rfl (fun K hK => ?_)
  go_simp
  refine (compareMarks_any m x _).mono ?_
  rintro e w4 ⟨rfl, hb4⟩
  (try dsimp only)
  have hb34 : Below w3.heap.size w3 w4 := hx.1.trans (hb4.mono hx.1.size)
  refine hK.out _ _ (fun _ => HST.out w4 hb34) ?_
  clear hK K
  try simp only [Act.put, List.getElem_toArray, List.getElem_cons_zero, List.getElem_cons_succ, List.setIfInBounds_toArray, List.set_cons_zero, List.set_cons_succ]
  have hx4 := HST.out w4 hb34
  refine E_takeR (i := 7) (oi := _) (v := ?vt43) rfl (by kernel_rfl) (by kernel_rfl) (by kernel_rfl) (by decide) (fun _ _ _ h => h) hx4 (Or.inl ⟨by rfl, ?yt43⟩) ?rt43
  case yt43 => (intro w' hSw; (try dsimp only at hSw); go_simp; try with_reducible rfl)
  try simp only [Act.put, List.getElem_toArray, List.getElem_cons_zero, List.getElem_cons_succ, List.setIfInBounds_toArray, List.set_cons_zero, List.set_cons_succ]
  refine E_done (by kernel_rfl) ?_ _
  have HB34 := Lib.hid (HB13.out.trans (hb34.mono HB13.out.size))
  clear hx hx4 hb4 hb34
  obtain ⟨bb, hbb⟩ : ∃ bb : Bool, decide (pcmp m.at_ x.at_ < 0) = bb := ⟨_, rfl⟩
  have HBB := Lib.hid hbb
  cases bb with
  | true =>
    have hpc : pcmp m.at_ x.at_ < 0 := of_decide_eq_true hbb
    have hks : IntKind.i64.wrap ((KK : Int) + 1) = ((KK + 1 : Nat) : Int) := by have := HN.out; have := HPQ.out; rw [IntKind.wrap_i64]; omega
    clear hbb
    go_wp2_with fail
    refine ⟨⟨_, _, ⟨KK + 1, q, by have := HPQ.out; omega, HPQ.out.2.2, rfl, rfl, ?_, HHI.out, HB34.out⟩, HEA.out, by simp, rfl, HEA.out⟩, by have := HPQ.out; simp [intOf]; omega⟩
    intro j y hj hjk
    have hmx := plt_iff.1 (of_decide_eq_true HBB.out)
    rcases Nat.lt_or_ge j KK with h | h
    · exact plt_trans (ord_lt' HO.out h hj HQK.out) hmx
    · obtain rfl : j = KK := by omega
      rw [HQK.out] at hj
      obtain rfl := Option.some.inj hj
      exact hmx
  | false =>
    have hpc : ¬ pcmp m.at_ x.at_ < 0 := of_decide_eq_false hbb
    clear hbb
    go_wp2_with fail
    refine ⟨⟨_, _, ⟨p, KK, by have := HPQ.out; omega, by have := HPQ.out; omega, rfl, rfl, HLO.out, ?_, HB34.out⟩, HEA.out, rfl, rfl, HEA.out⟩, by have := HPQ.out; simp [intOf]; omega⟩
    intro j y hj hjk hyx
    have hmx : ¬ plt m.at_ x.at_ := fun h => of_decide_eq_false HBB.out (plt_iff.2 h)
    rcases Nat.lt_or_ge KK j with h | h
    · exact hmx (plt_trans (ord_lt' HO.out h HQK.out hj) hyx)
    · obtain rfl : j = KK := by omega
      rw [HQK.out] at hj
      obtain rfl := Option.some.inj hj
      exact hmx hyx
end Go.Proofs.YtoigihmgjacbjaaDoor
