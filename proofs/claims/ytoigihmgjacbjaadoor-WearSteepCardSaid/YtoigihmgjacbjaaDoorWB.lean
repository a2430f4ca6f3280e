/- Points and marks compared; marks, holes and a skin in memory. No condition. -/
import Derived.Test.YtoigihmgjacbjaaDoorWE
set_option linter.unusedSimpArgs false
namespace Go.Proofs.YtoigihmgjacbjaaDoor
open Go.RowKit

/-- cmp.Or of two numbers. -/
def orM (a b : Int) : Int := if a = 0 then b else a
theorem or_any (B : Nat) (a b : Int) (w : World) (h0 : w.cell? ⟨B, 0, none⟩ = some (.int .i64 a)) (h1 : w.cell? ⟨B, 1, none⟩ = some (.int .i64 b)) :
    Calls Tryd.prog 94 #[.slice (some ⟨B, 0, none⟩) 2 2] w fun e w' => e = .returned (.int .i64 (orM a b)) ∧ w' = w := by
  have hlt := World.block_lt_of_cell? _ _ h0
  obtain ⟨ba, hba⟩ : ∃ x : Bool, (a == 0) = x := ⟨_, rfl⟩
  obtain ⟨bb, hbb⟩ : ∃ x : Bool, (b == 0) = x := ⟨_, rfl⟩
  have HV := Lib.hid (show orM a b = if ba then (if bb then 0 else b) else a by
    unfold orM
    rw [← hba, ← hbb]
    by_cases h : a = 0
    · by_cases h' : b = 0 <;> simp [h, h']
    · simp [h])
  have HA := Lib.hid hba
  have HB := Lib.hid hbb
  clear hba hbb
  go_enter Tryd.func94, Tryd.ntmps94
  go_wp2
  go_loopw [5, 8] (fun _ s8 wr => (s8 = .int .i64 0 ∨ (ba = true ∧ s8 = .int .i64 1) ∨ (ba = true ∧ bb = true ∧ s8 = .int .i64 2)) ∧ wr = w) (fun _ i _ => 2 - (intOf i).toNat)
  case atStart => exact ⟨.inl rfl, rfl⟩
  case round =>
  obtain ⟨h, rfl⟩ := hrel
  rcases h with rfl | ⟨rfl, rfl⟩ | ⟨rfl, rfl, rfl⟩
  · cases ba with
    | true =>
      have q : (a == 0) = true := HA.out
      have q2 : (a != 0) = false := by rw [bne, q]; rfl
      go_wp2
      exact ⟨by simp, by decide⟩
    | false =>
      have q : (a == 0) = false := HA.out
      have q2 : (a != 0) = true := by rw [bne, q]; rfl
      go_wp2
      go_ret
      exact ⟨by rw [HV.out]; rfl, rfl⟩
  · cases bb with
    | true =>
      have q : (b == 0) = true := HB.out
      have q2 : (b != 0) = false := by rw [bne, q]; rfl
      go_wp2
      exact ⟨by simp, by decide⟩
    | false =>
      have q : (b == 0) = false := HB.out
      have q2 : (b != 0) = true := by rw [bne, q]; rfl
      go_wp2
      go_ret
      exact ⟨by rw [HV.out]; rfl, rfl⟩
  · go_wp2
    go_ret
    exact ⟨by rw [HV.out]; rfl, rfl⟩
structure Mrk where
  at_ : Pnt
  th : Spn
deriving DecidableEq
def pcmp (p q : Pnt) : Int := orM (sgn (p.y - q.y)) (sgn (p.x - q.x))
set_option maxRecDepth 100000 in
set_option maxHeartbeats 4000000 in
theorem comparePoints_any (p q : Pnt) (w : World) :
    Calls Tryd.prog 86 #[.agg #[.int .i64 p.x, .int .i64 p.y], .agg #[.int .i64 q.x, .int .i64 q.y]] w fun e w' => e = .returned (.int .i64 (pcmp p q)) ∧ Below w.heap.size w w' := by
  have k1 := (Blk.new w 45 #[.int .i64 p.x, .int .i64 p.y]).alloc (.cells #[.int .i64 q.x, .int .i64 q.y] 45)
  have k2 := Blk.new (w.alloc (.cells #[.int .i64 p.x, .int .i64 p.y] 45)) 45 #[.int .i64 q.x, .int .i64 q.y]
  rw [World.size_alloc] at k2
  have hb1 : Below w.heap.size w ((w.alloc (.cells #[.int .i64 p.x, .int .i64 p.y] 45)).alloc (.cells #[.int .i64 q.x, .int .i64 q.y] 45)) := ((Below.refl _ w).alloc (Nat.le_refl _) _).alloc (by simp) _
  go_enter Tryd.func86, Tryd.ntmps86
  go_upto_region 1 with fail
  generalize ((w.alloc (.cells #[.int .i64 p.x, .int .i64 p.y] 45)).alloc (.cells #[.int .i64 q.x, .int .i64 q.y] 45)) = w1 at *
  have K1 := Lib.hid k1
  have K2 := Lib.hid k2
  have HB1 := Lib.hid hb1
  have hst : ∀ w', Below w1.heap.size w1 w' → (fun w' : World => Below w1.heap.size w1 w' ∧ (w'.cell? ⟨w.heap.size, 0, none⟩ = some (.int .i64 p.x) ∧ w'.cell? ⟨w.heap.size, 1, none⟩ = some (.int .i64 p.y) ∧ w'.cell? ⟨w.heap.size + 1, 0, none⟩ = some (.int .i64 q.x) ∧ w'.cell? ⟨w.heap.size + 1, 1, none⟩ = some (.int .i64 q.y))) w' := fun w' hb => by
    have k0 := K1.out.belowS hb
    have k1 := K2.out.belowS hb
    exact ⟨hb, k0.cell 0, k0.cell 1, k1.cell 0, k1.cell 1⟩
  have HST := Lib.hid hst
  clear k1 k2 hb1 hst
  have hx := HST.out w1.drew ((Below.refl _ w1).drew)
  refine wp_region_E 13 (fun w' : World => Below w1.heap.size w1 w' ∧ (w'.cell? ⟨w.heap.size, 0, none⟩ = some (.int .i64 p.x) ∧ w'.cell? ⟨w.heap.size, 1, none⟩ = some (.int .i64 p.y) ∧ w'.cell? ⟨w.heap.size + 1, 0, none⟩ = some (.int .i64 q.x) ∧ w'.cell? ⟨w.heap.size + 1, 1, none⟩ = some (.int .i64 q.y))) (by kernel_rfl) ?_
  refine E_takeR (i := 0) (oi := _) (v := ?vt1) rfl (by kernel_rfl) (by kernel_rfl) (by kernel_rfl) (by decide) (fun _ _ _ h => h) hx (Or.inl ⟨by rfl, ?yt1⟩) ?rt1
  case yt1 => (intro w' hSw; (try dsimp only at hSw); go_simp; try with_reducible rfl)
  try simp only [Act.put, List.getElem_toArray, List.getElem_cons_zero, List.getElem_cons_succ, List.setIfInBounds_toArray, List.set_cons_zero, List.set_cons_succ]
  refine E_takeR (i := 1) (oi := _) (v := ?vt2) rfl (by kernel_rfl) (by kernel_rfl) (by kernel_rfl) (by decide) (fun _ _ _ h => h) hx (Or.inl ⟨by rfl, ?yt2⟩) ?rt2
  case yt2 => (intro w' hSw; (try dsimp only at hSw); go_simp; try with_reducible rfl)
  try simp only [Act.put, List.getElem_toArray, List.getElem_cons_zero, List.getElem_cons_succ, List.setIfInBounds_toArray, List.set_cons_zero, List.set_cons_succ]
  refine E_takeR (i := 2) (oi := _) (v := ?vt3) rfl (by kernel_rfl) (by kernel_rfl) (by kernel_rfl) (by decide) (fun _ _ _ h => h) hx (Or.inl ⟨by rfl, ?yt3⟩) ?rt3
  case yt3 => (intro w' hSw; (try dsimp only at hSw); go_simp; try with_reducible rfl)
  try simp only [Act.put, List.getElem_toArray, List.getElem_cons_zero, List.getElem_cons_succ, List.setIfInBounds_toArray, List.set_cons_zero, List.set_cons_succ]
  refine E_takeR (i := 3) (oi := _) (v := ?vt4) rfl (by kernel_rfl) (by kernel_rfl) (by kernel_rfl) (by decide) (fun _ _ _ h => h) hx (Or.inl ⟨by rfl, ?yt4⟩) ?rt4
  case yt4 => (intro w' hSw; (try dsimp only at hSw); go_simp; try with_reducible rfl)
  try simp only [Act.put, List.getElem_toArray, List.getElem_cons_zero, List.getElem_cons_succ, List.setIfInBounds_toArray, List.set_cons_zero, List.set_cons_succ]
  refine E_takeR (i := 5) (oi := _) (v := ?vt5) rfl (by kernel_rfl) (by kernel_rfl) (by kernel_rfl) (by decide) (fun _ _ _ h => h) hx (Or.inl ⟨by rfl, ?yt5⟩) ?rt5
  case yt5 => (intro w' hSw; (try dsimp only at hSw); go_simp; try with_reducible rfl)
  try simp only [Act.put, List.getElem_toArray, List.getElem_cons_zero, List.getElem_cons_succ, List.setIfInBounds_toArray, List.set_cons_zero, List.set_cons_succ]
  refine E_takeR (i := 6) (oi := _) (v := ?vt6) rfl (by kernel_rfl) (by kernel_rfl) (by kernel_rfl) (by decide) (fun _ _ _ h => h) hx (Or.inl ⟨by rfl, ?yt6⟩) ?rt6
  case yt6 => (intro w' hSw; (try dsimp only at hSw); go_simp; try with_reducible rfl)
  try simp only [Act.put, List.getElem_toArray, List.getElem_cons_zero, List.getElem_cons_succ, List.setIfInBounds_toArray, List.set_cons_zero, List.set_cons_succ]
  refine E_takeR (i := 7) (oi := _) (v := ?vt7) rfl (by kernel_rfl) (by kernel_rfl) (by kernel_rfl) (by decide) (fun _ _ _ h => h) hx (Or.inl ⟨by rfl, ?yt7⟩) ?rt7
  case yt7 => (intro w' hSw; (try dsimp only at hSw); go_simp; try with_reducible rfl)
  try simp only [Act.put, List.getElem_toArray, List.getElem_cons_zero, List.getElem_cons_succ, List.setIfInBounds_toArray, List.set_cons_zero, List.set_cons_succ]
  refine E_takeR (i := 8) (oi := _) (v := ?vt8) rfl (by kernel_rfl) (by kernel_rfl) (by kernel_rfl) (by decide) (fun _ _ _ h => h) hx (Or.inl ⟨by rfl, ?yt8⟩) ?rt8
  case yt8 => (intro w' hSw; (try dsimp only at hSw); go_simp; try with_reducible rfl)
  try simp only [Act.put, List.getElem_toArray, List.getElem_cons_zero, List.getElem_cons_succ, List.setIfInBounds_toArray, List.set_cons_zero, List.set_cons_succ]
  refine E_step (i := 4) (o := _) (by kernel_rfl) rfl (fun K hK => ?_)
  go_simp
  refine (cmp_any _ _ _).mono ?_
  rintro e w2 ⟨rfl, hw⟩
  (try dsimp only)
  subst hw
  refine hK.out _ _ (fun _ => hx) ?_
  clear hK K
  try simp only [Act.put, List.getElem_toArray, List.getElem_cons_zero, List.getElem_cons_succ, List.setIfInBounds_toArray, List.set_cons_zero, List.set_cons_succ]
  refine E_step (i := 9) (o := _) (by kernel_rfl) rfl (fun K hK => ?_)
  go_simp
  refine (cmp_any _ _ _).mono ?_
  rintro e w2 ⟨rfl, hw⟩
  (try dsimp only)
  subst hw
  refine hK.out _ _ (fun _ => hx) ?_
  clear hK K
  try simp only [Act.put, List.getElem_toArray, List.getElem_cons_zero, List.getElem_cons_succ, List.setIfInBounds_toArray, List.set_cons_zero, List.set_cons_succ]
  refine E_step (i := 10) (o := _) (by kernel_rfl) rfl (fun K hK => ?_)
  go_simp
  have hbA : Below w1.heap.size w1 (w1.drew.alloc (.cells #[.int .i64 (sgn (p.y - q.y)), .int .i64 (sgn (p.x - q.x))] 3)) := hx.1.alloc hx.1.size _
  refine hK.out _ _ (fun _ => HST.out _ hbA) ?_
  clear hK K
  try simp only [Act.put, List.getElem_toArray, List.getElem_cons_zero, List.getElem_cons_succ, List.setIfInBounds_toArray, List.set_cons_zero, List.set_cons_succ]
  refine E_step (i := 11) (o := _) (by kernel_rfl) rfl (fun K hK => ?_)
  go_simp
  refine (or_any _ (sgn (p.y - q.y)) (sgn (p.x - q.x)) _ ((Blk.new _ 3 _).cell 0) ((Blk.new _ 3 _).cell 1)).mono ?_
  rintro e w2 ⟨rfl, hw⟩
  (try dsimp only)
  subst hw
  refine hK.out _ _ (fun _ => HST.out _ hbA) ?_
  clear hK K
  try simp only [Act.put, List.getElem_toArray, List.getElem_cons_zero, List.getElem_cons_succ, List.setIfInBounds_toArray, List.set_cons_zero, List.set_cons_succ]
  refine E_takeR (i := 12) (oi := _) (v := ?vt9) rfl (by kernel_rfl) (by kernel_rfl) (by kernel_rfl) (by decide) (fun _ _ _ h => h) (HST.out _ hbA) (Or.inl ⟨by rfl, ?yt9⟩) ?rt9
  case yt9 => (intro w' hSw; (try dsimp only at hSw); go_simp; try with_reducible rfl)
  try simp only [Act.put, List.getElem_toArray, List.getElem_cons_zero, List.getElem_cons_succ, List.setIfInBounds_toArray, List.set_cons_zero, List.set_cons_succ]
  refine E_done (by kernel_rfl) ?_ _
  have HBA := Lib.hid hbA
  clear hx hbA
  go_wp2_with fail
  go_ret
  exact ⟨rfl, HB1.out.trans (HBA.out.mono HB1.out.size)⟩
theorem compareMarks_any (m1 m2 : Mrk) (w : World) :
    Calls Tryd.prog 67 #[.agg #[.int .i64 m1.at_.x, .int .i64 m1.at_.y, .int .i64 m1.th.lo, .int .i64 m1.th.hi], .agg #[.int .i64 m2.at_.x, .int .i64 m2.at_.y, .int .i64 m2.th.lo, .int .i64 m2.th.hi]] w fun e w' => e = .returned (.int .i64 (pcmp m1.at_ m2.at_)) ∧ Below w.heap.size w w' := by
  have hb1 : Below w.heap.size w ((w.alloc (.cells #[.int .i64 m1.at_.x, .int .i64 m1.at_.y, .int .i64 m1.th.lo, .int .i64 m1.th.hi] 61)).alloc (.cells #[.int .i64 m2.at_.x, .int .i64 m2.at_.y, .int .i64 m2.th.lo, .int .i64 m2.th.hi] 61)) := ((Below.refl _ w).alloc (Nat.le_refl _) _).alloc (by simp) _
  go_enter Tryd.func67, Tryd.ntmps67
  go_wp2_with fail
  refine (comparePoints_any m1.at_ m2.at_ _).mono ?_
  rintro e w2 ⟨rfl, hb⟩
  go_wp2_with fail
  go_ret
  exact ⟨rfl, hb1.trans (hb.mono hb1.size)⟩
end Go.Proofs.YtoigihmgjacbjaaDoor
