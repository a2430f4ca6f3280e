/- WearChecks' walk. No condition but the package's variable. -/
import Derived.Test.YtoigihmgjacbjaaDoorUM
import Derived.Test.YtoigihmgjacbjaaDoorVI
import Derived.Test.YtoigihmgjacbjaaDoorVB
set_option linter.unusedSimpArgs false
namespace Go.Proofs.YtoigihmgjacbjaaDoor
open Go.RowKit

set_option maxRecDepth 100000 in
set_option maxHeartbeats 16000000 in
theorem wearChecksLaw_any (S : Skn) (p : Pnt) (w : World) (hS : IsSkn w S) (hg : Laid w) :
    Calls Tryd.prog 8 #[.agg #[.slice S.pa S.pts.length S.pc, .slice S.ha S.hs.length S.hc, .int .i64 S.steep, .int .i64 S.th.lo, .int .i64 S.th.hi, .slice S.ma S.ms.length S.mc], .agg #[.int .i64 p.x, .int .i64 p.y]] w fun e w' => e = .returned (.bool true) ∧ Below w.heap.size w w' := by
  have k1 := (Blk.new w 30 #[.slice S.pa S.pts.length S.pc, .slice S.ha S.hs.length S.hc, .int .i64 S.steep, .int .i64 S.th.lo, .int .i64 S.th.hi, .slice S.ma S.ms.length S.mc]).alloc (.cells #[.int .i64 p.x, .int .i64 p.y] 45)
  have k2 := Blk.new (w.alloc (.cells #[.slice S.pa S.pts.length S.pc, .slice S.ha S.hs.length S.hc, .int .i64 S.steep, .int .i64 S.th.lo, .int .i64 S.th.hi, .slice S.ma S.ms.length S.mc] 30)) 45 #[.int .i64 p.x, .int .i64 p.y]
  rw [World.size_alloc] at k2
  have hb1 : Below w.heap.size w ((w.alloc (.cells #[.slice S.pa S.pts.length S.pc, .slice S.ha S.hs.length S.hc, .int .i64 S.steep, .int .i64 S.th.lo, .int .i64 S.th.hi, .slice S.ma S.ms.length S.mc] 30)).alloc (.cells #[.int .i64 p.x, .int .i64 p.y] 45)) := ((Below.refl _ w).alloc (Nat.le_refl _) _).alloc (by simp) _
  have HS := Lib.hid hS
  have HG := Lib.hid hg
  clear hS hg
  go_enter Tryd.func8, Tryd.ntmps8
  go_upto_region 1 with fail
  generalize ((w.alloc (.cells #[.slice S.pa S.pts.length S.pc, .slice S.ha S.hs.length S.hc, .int .i64 S.steep, .int .i64 S.th.lo, .int .i64 S.th.hi, .slice S.ma S.ms.length S.mc] 30)).alloc (.cells #[.int .i64 p.x, .int .i64 p.y] 45)) = w1 at *
  have KS1 := Lib.hid k1
  have KP1 := Lib.hid k2
  have HB1 := Lib.hid hb1
  clear k1 k2 hb1
  obtain ⟨s0, s1, s2, s3, s4, s5⟩ := skn_cells (S := S) KS1.out
  have ls := KS1.out.lt
  obtain ⟨p0, p1⟩ := pnt_cells KP1.out
  have lp := KP1.out.lt
  go_wp2_with fail
  refine (great_any S _ (HS.out.below HB1.out)).mono ?_
  rintro e w2 ⟨⟨gb, rfl⟩, hb⟩
  clear s0 s1 s2 s3 s4 s5 ls p0 p1 lp
  have HB2 := Lib.hid (HB1.out.trans (hb.mono HB1.out.size))
  have KS2 := Lib.hid (KS1.out.belowS hb)
  have KP2 := Lib.hid (KP1.out.belowS hb)
  clear hb KS1 KP1
  cases gb with
  | true =>
    go_wp2_with fail
    refine (lives_any _ (HG.out.below HB2.out)).mono ?_
    rintro e wz ⟨rfl, hbz⟩
    go_wp2_with fail
    go_ret
    exact ⟨rfl, HB2.out.trans (hbz.mono HB2.out.size)⟩
  | false =>
  obtain ⟨s0, s1, s2, s3, s4, s5⟩ := skn_cells (S := S) KS2.out
  have ls := KS2.out.lt
  obtain ⟨p0, p1⟩ := pnt_cells KP2.out
  have lp := KP2.out.lt
  go_wp2_with fail
  refine (wearBounds_any S p _ (HS.out.below HB2.out) (HG.out.below HB2.out)).mono ?_
  rintro e w3 ⟨rfl, hb⟩
  have HBO := Lib.hid (fun (w' : World) (h : IsSkn w' S) => refBoundsOf_any S p w' h)
  generalize endB (pointE S p) (boundM S p) = U at *
  generalize pointE S p = E at *
  obtain ⟨a, ha⟩ : ∃ a, a = w3.heap.size := ⟨_, rfl⟩
  have kA := Blk.new w3 27 #[.int .i64 U.lo, .int .i64 U.hi]
  have hb3 : Below w3.heap.size w3 (w3.alloc (.cells #[.int .i64 U.lo, .int .i64 U.hi] 27)) := (Below.refl _ w3).alloc (Nat.le_refl _) _
  have hb23 := hb.trans (hb3.mono hb.size)
  have KS3 := Lib.hid (KS2.out.belowS hb23)
  have KP3 := Lib.hid (KP2.out.belowS hb23)
  have HB3 := Lib.hid (HB2.out.trans (hb23.mono HB2.out.size))
  clear s0 s1 s2 s3 s4 s5 ls p0 p1 lp
  clear hb hb3 hb23 KS2 KP2
  go_upto_region 4 with fail
  generalize w3.alloc (.cells #[.int .i64 U.lo, .int .i64 U.hi] 27) = w4 at *
  rw [← ha] at kA ⊢
  clear ha
  have KA := Lib.hid kA
  clear kA
  obtain ⟨s0, s1, s2, s3, s4, s5⟩ := skn_cells (S := S) KS3.out
  have ls := KS3.out.lt
  obtain ⟨p0, p1⟩ := pnt_cells KP3.out
  have lp := KP3.out.lt
  go_wp2_with fail
  refine (HBO.out _ (HS.out.below HB3.out)).mono ?_
  rintro e w5 ⟨rfl, hb⟩
  obtain ⟨b, hbb⟩ : ∃ b, b = w5.heap.size := ⟨_, rfl⟩
  have kB := Blk.new w5 27 #[.int .i64 U.lo, .int .i64 U.hi]
  have hb3 : Below w5.heap.size w5 (w5.alloc (.cells #[.int .i64 U.lo, .int .i64 U.hi] 27)) := (Below.refl _ w5).alloc (Nat.le_refl _) _
  have hb23 := hb.trans (hb3.mono hb.size)
  have KS5 := Lib.hid (KS3.out.belowS hb23)
  have KA5 := Lib.hid (KA.out.belowS hb23)
  have HB5' := Lib.hid (HB3.out.trans (hb23.mono HB3.out.size))
  clear s0 s1 s2 s3 s4 s5 ls p0 p1 lp
  clear hb hb3 hb23 KS3 KP3 KA
  go_upto_region 5 with fail
  generalize w5.alloc (.cells #[.int .i64 U.lo, .int .i64 U.hi] 27) = wv at *
  rw [← hbb] at kB ⊢
  clear hbb w5
  obtain ⟨w5, rfl⟩ : ∃ w5 : World, w5 = wv := ⟨_, rfl⟩
  have HB5 := HB5'
  have KB5 := Lib.hid kB
  clear kB HB5' HBO
  have he1 : ∀ w, (Op.equalIn 10000 27 (.agg #[.int .i64 U.lo, .int .i64 U.hi]) (.agg #[.int .i64 U.lo, .int .i64 U.hi])).run Tryd.prog w = .ok true w := fun w => by
    have := run_equalIn_span 9998 U U w
    rwa [decide_eq_true rfl] at this
  have hst : ∀ w', Below w5.heap.size w5 w' → (fun w' : World => Below w5.heap.size w5 w' ∧ ((w'.cell? ⟨w.heap.size, 0, none⟩ = some (.slice S.pa S.pts.length S.pc) ∧ w'.cell? ⟨w.heap.size, 1, none⟩ = some (.slice S.ha S.hs.length S.hc) ∧ w'.cell? ⟨w.heap.size, 2, none⟩ = some (.int .i64 S.steep) ∧ w'.cell? ⟨w.heap.size, 3, none⟩ = some (.int .i64 S.th.lo) ∧ w'.cell? ⟨w.heap.size, 4, none⟩ = some (.int .i64 S.th.hi) ∧ w'.cell? ⟨w.heap.size, 5, none⟩ = some (.slice S.ma S.ms.length S.mc)) ∧ (w'.cell? ⟨a, 0, none⟩ = some (.int .i64 U.lo) ∧ w'.cell? ⟨a, 1, none⟩ = some (.int .i64 U.hi)) ∧ w'.cell? ⟨b, 0, none⟩ = some (.int .i64 U.lo) ∧ w'.cell? ⟨b, 1, none⟩ = some (.int .i64 U.hi))) w' := fun w' hb => by
    have y1 := KS5.out.belowS hb
    have y2 := KA5.out.belowS hb
    have y3 := KB5.out.belowS hb
    exact ⟨hb, ⟨y1.cell 0, y1.cell 1, y1.cell 2, y1.cell 3, y1.cell 4, y1.cell 5⟩, ⟨y2.cell 0, y2.cell 1⟩, y3.cell 0, y3.cell 1⟩
  have HST := Lib.hid hst
  clear hst
  have hx := HST.out w5.drew ((Below.refl _ w5).drew)
  refine wp_region_E 19 (fun w' : World => Below w5.heap.size w5 w' ∧ ((w'.cell? ⟨w.heap.size, 0, none⟩ = some (.slice S.pa S.pts.length S.pc) ∧ w'.cell? ⟨w.heap.size, 1, none⟩ = some (.slice S.ha S.hs.length S.hc) ∧ w'.cell? ⟨w.heap.size, 2, none⟩ = some (.int .i64 S.steep) ∧ w'.cell? ⟨w.heap.size, 3, none⟩ = some (.int .i64 S.th.lo) ∧ w'.cell? ⟨w.heap.size, 4, none⟩ = some (.int .i64 S.th.hi) ∧ w'.cell? ⟨w.heap.size, 5, none⟩ = some (.slice S.ma S.ms.length S.mc)) ∧ (w'.cell? ⟨a, 0, none⟩ = some (.int .i64 U.lo) ∧ w'.cell? ⟨a, 1, none⟩ = some (.int .i64 U.hi)) ∧ w'.cell? ⟨b, 0, none⟩ = some (.int .i64 U.lo) ∧ w'.cell? ⟨b, 1, none⟩ = some (.int .i64 U.hi))) (by kernel_rfl) ?_
  refine E_takeR (i := 0) (oi := _) (v := ?vt10) rfl (by kernel_rfl) (by kernel_rfl) (by kernel_rfl) (by decide) (fun _ _ _ h => h) hx (Or.inl ⟨by rfl, ?yt10⟩) ?rt10
  case yt10 => (intro w' hSw; (try dsimp only at hSw); go_simp; try with_reducible rfl)
  try simp only [Act.put, List.getElem_toArray, List.getElem_cons_zero, List.getElem_cons_succ, List.setIfInBounds_toArray, List.set_cons_zero, List.set_cons_succ]
  refine E_takeR (i := 2) (oi := _) (v := ?vt11) rfl (by kernel_rfl) (by kernel_rfl) (by kernel_rfl) (by decide) (fun _ _ _ h => h) hx (Or.inl ⟨by rfl, ?yt11⟩) ?rt11
  case yt11 => (intro w' hSw; (try dsimp only at hSw); go_simp; try with_reducible rfl)
  try simp only [Act.put, List.getElem_toArray, List.getElem_cons_zero, List.getElem_cons_succ, List.setIfInBounds_toArray, List.set_cons_zero, List.set_cons_succ]
  refine E_step (i := 1) (o := _) (by kernel_rfl) rfl (fun K hK => ?_)
  go_simp
  refine (wearCheck_any S _ (HS.out.below (HB5.out.trans (hx.1.mono HB5.out.size))) (HG.out.below (HB5.out.trans (hx.1.mono HB5.out.size)))).mono ?_
  rintro e w6 ⟨rfl, hb6⟩
  (try dsimp only)
  have hb56 : Below w5.heap.size w5 w6 := hx.1.trans (hb6.mono hx.1.size)
  refine hK.out _ _ (fun _ => HST.out w6 hb56) ?_
  clear hK K
  try simp only [Act.put, List.getElem_toArray, List.getElem_cons_zero, List.getElem_cons_succ, List.setIfInBounds_toArray, List.set_cons_zero, List.set_cons_succ]
  have hx6 := HST.out w6 hb56
  refine E_step (i := 3) (o := _) (by kernel_rfl) rfl (fun K hK => ?_)
  go_simp
  refine (refCheck_any S _ (HS.out.below (HB5.out.trans (hx6.1.mono HB5.out.size)))).mono ?_
  rintro e w7 ⟨rfl, hb7⟩
  (try dsimp only)
  have hb57 : Below w5.heap.size w5 w7 := hx6.1.trans (hb7.mono hx6.1.size)
  refine hK.out _ _ (fun _ => HST.out w7 hb57) ?_
  clear hK K
  try simp only [Act.put, List.getElem_toArray, List.getElem_cons_zero, List.getElem_cons_succ, List.setIfInBounds_toArray, List.set_cons_zero, List.set_cons_succ]
  have hx7 := HST.out w7 hb57
  refine E_takeR (i := 4) (oi := _) (v := ?vt12) rfl (by kernel_rfl) (by kernel_rfl) (by kernel_rfl) (by decide) (fun _ _ _ h => h) hx7 (Or.inl ⟨by rfl, ?yt12⟩) ?rt12
  case yt12 => (intro w' hSw; (try dsimp only at hSw); go_simp; try with_reducible rfl)
  try simp only [Act.put, List.getElem_toArray, List.getElem_cons_zero, List.getElem_cons_succ, List.setIfInBounds_toArray, List.set_cons_zero, List.set_cons_succ]
  refine E_takeR (i := 5) (oi := _) (v := ?vt13) rfl (by kernel_rfl) (by kernel_rfl) (by kernel_rfl) (by decide) (fun _ _ _ h => h) hx7 (Or.inl ⟨by rfl, ?yt13⟩) ?rt13
  case yt13 => (intro w' hSw; (try dsimp only at hSw); go_simp; try with_reducible rfl)
  try simp only [Act.put, List.getElem_toArray, List.getElem_cons_zero, List.getElem_cons_succ, List.setIfInBounds_toArray, List.set_cons_zero, List.set_cons_succ]
  refine E_takeR (i := 6) (oi := _) (v := ?vt14) rfl (by kernel_rfl) (by kernel_rfl) (by kernel_rfl) (by decide) (fun _ _ _ h => h) hx7 (Or.inl ⟨by rfl, ?yt14⟩) ?rt14
  case yt14 => (intro w' hSw; (try dsimp only at hSw); go_simp; try with_reducible rfl)
  try simp only [Act.put, List.getElem_toArray, List.getElem_cons_zero, List.getElem_cons_succ, List.setIfInBounds_toArray, List.set_cons_zero, List.set_cons_succ]
  refine E_takeR (i := 7) (oi := _) (v := ?vt15) rfl (by kernel_rfl) (by kernel_rfl) (by kernel_rfl) (by decide) (fun _ _ _ h => h) hx7 (Or.inl ⟨by rfl, ?yt15⟩) ?rt15
  case yt15 => (intro w' hSw; (try dsimp only at hSw); go_simp; try with_reducible rfl)
  try simp only [Act.put, List.getElem_toArray, List.getElem_cons_zero, List.getElem_cons_succ, List.setIfInBounds_toArray, List.set_cons_zero, List.set_cons_succ]
  refine E_takeR (i := 8) (oi := _) (v := ?vt16) rfl (by kernel_rfl) (by kernel_rfl) (by kernel_rfl) (by decide) (fun _ _ _ h => h) hx7 (Or.inl ⟨by rfl, ?yt16⟩) ?rt16
  case yt16 => (intro w' hSw; (try dsimp only at hSw); go_simp; try with_reducible rfl)
  try simp only [Act.put, List.getElem_toArray, List.getElem_cons_zero, List.getElem_cons_succ, List.setIfInBounds_toArray, List.set_cons_zero, List.set_cons_succ]
  refine E_takeR (i := 9) (oi := _) (v := ?vt17) rfl (by kernel_rfl) (by kernel_rfl) (by kernel_rfl) (by decide) (fun _ _ _ h => h) hx7 (Or.inl ⟨by rfl, ?yt17⟩) ?rt17
  case yt17 => (intro w' hSw; (try dsimp only at hSw); go_simp; try with_reducible rfl)
  try simp only [Act.put, List.getElem_toArray, List.getElem_cons_zero, List.getElem_cons_succ, List.setIfInBounds_toArray, List.set_cons_zero, List.set_cons_succ]
  refine E_takeR (i := 10) (oi := _) (v := ?vt18) rfl (by kernel_rfl) (by kernel_rfl) (by kernel_rfl) (by decide) (fun _ _ _ h => h) hx7 (Or.inl ⟨by rfl, ?yt18⟩) ?rt18
  case yt18 => (intro w' hSw; (try dsimp only at hSw); go_simp; try with_reducible rfl)
  try simp only [Act.put, List.getElem_toArray, List.getElem_cons_zero, List.getElem_cons_succ, List.setIfInBounds_toArray, List.set_cons_zero, List.set_cons_succ]
  refine E_takeR (i := 11) (oi := _) (v := ?vt19) rfl (by kernel_rfl) (by kernel_rfl) (by kernel_rfl) (by decide) (fun _ _ _ h => h) hx7 (Or.inl ⟨by rfl, ?yt19⟩) ?rt19
  case yt19 => (intro w' hSw; (try dsimp only at hSw); go_simp; try with_reducible rfl)
  try simp only [Act.put, List.getElem_toArray, List.getElem_cons_zero, List.getElem_cons_succ, List.setIfInBounds_toArray, List.set_cons_zero, List.set_cons_succ]
  refine E_takeR (i := 12) (oi := _) (v := ?vt20) rfl (by kernel_rfl) (by kernel_rfl) (by kernel_rfl) (by decide) (fun _ _ _ h => h) hx7 (Or.inl ⟨by rfl, ?yt20⟩) ?rt20
  case yt20 => (intro w' hSw; (try dsimp only at hSw); go_simp; try with_reducible rfl)
  try simp only [Act.put, List.getElem_toArray, List.getElem_cons_zero, List.getElem_cons_succ, List.setIfInBounds_toArray, List.set_cons_zero, List.set_cons_succ]
  refine E_takeR (i := 13) (oi := _) (v := ?vt21) rfl (by kernel_rfl) (by kernel_rfl) (by kernel_rfl) (by decide) (fun _ _ _ h => h) hx7 (Or.inl ⟨by rfl, ?yt21⟩) ?rt21
  case yt21 => (intro w' hSw; (try dsimp only at hSw); go_simp; try with_reducible rfl)
  try simp only [Act.put, List.getElem_toArray, List.getElem_cons_zero, List.getElem_cons_succ, List.setIfInBounds_toArray, List.set_cons_zero, List.set_cons_succ]
  refine E_takeR (i := 14) (oi := _) (v := ?vt22) rfl (by kernel_rfl) (by kernel_rfl) (by kernel_rfl) (by decide) (fun _ _ _ h => h) hx7 (Or.inl ⟨by rfl, ?yt22⟩) ?rt22
  case yt22 => (intro w' hSw; (try dsimp only at hSw); go_simp; try with_reducible rfl)
  try simp only [Act.put, List.getElem_toArray, List.getElem_cons_zero, List.getElem_cons_succ, List.setIfInBounds_toArray, List.set_cons_zero, List.set_cons_succ]
  refine E_takeR (i := 15) (oi := _) (v := ?vt23) rfl (by kernel_rfl) (by kernel_rfl) (by kernel_rfl) (by decide) (fun _ _ _ h => h) hx7 (Or.inl ⟨by rfl, ?yt23⟩) ?rt23
  case yt23 => (intro w' hSw; (try dsimp only at hSw); go_simp; try with_reducible rfl)
  try simp only [Act.put, List.getElem_toArray, List.getElem_cons_zero, List.getElem_cons_succ, List.setIfInBounds_toArray, List.set_cons_zero, List.set_cons_succ]
  refine E_step (i := 16) (o := _) (by kernel_rfl) rfl (fun K hK => ?_)
  go_simp
  refine (lives_any _ (HG.out.below (HB5.out.trans (hx7.1.mono HB5.out.size)))).mono ?_
  rintro e w8 ⟨rfl, hb8⟩
  (try dsimp only)
  have hb58 : Below w5.heap.size w5 w8 := hx7.1.trans (hb8.mono hx7.1.size)
  refine hK.out _ _ (fun _ => HST.out w8 hb58) ?_
  clear hK K
  try simp only [Act.put, List.getElem_toArray, List.getElem_cons_zero, List.getElem_cons_succ, List.setIfInBounds_toArray, List.set_cons_zero, List.set_cons_succ]
  have hx8 := HST.out w8 hb58
  refine E_takeR (i := 17) (oi := _) (v := ?vt24) rfl (by kernel_rfl) (by kernel_rfl) (by kernel_rfl) (by decide) (fun _ _ _ h => h) hx8 (Or.inl ⟨by rfl, ?yt24⟩) ?rt24
  case yt24 => (intro w' hSw; (try dsimp only at hSw); go_simp; try with_reducible rfl)
  try simp only [Act.put, List.getElem_toArray, List.getElem_cons_zero, List.getElem_cons_succ, List.setIfInBounds_toArray, List.set_cons_zero, List.set_cons_succ]
  refine E_takeR (i := 18) (oi := _) (v := ?vt25) rfl (by kernel_rfl) (by kernel_rfl) (by kernel_rfl) (by decide) (fun _ _ _ h => h) hx8 (Or.inl ⟨by rfl, ?yt25⟩) ?rt25
  case yt25 => (intro w' hSw; (try dsimp only at hSw); go_simp; try with_reducible rfl)
  try simp only [Act.put, List.getElem_toArray, List.getElem_cons_zero, List.getElem_cons_succ, List.setIfInBounds_toArray, List.set_cons_zero, List.set_cons_succ]
  refine E_done (by kernel_rfl) ?_ _
  have HB8 := Lib.hid (HB5.out.trans (hb58.mono HB5.out.size))
  clear hx hx6 hx7 hx8
  go_wp2_with fail
  go_ret
  exact ⟨rfl, HB8.out⟩
end Go.Proofs.YtoigihmgjacbjaaDoor
