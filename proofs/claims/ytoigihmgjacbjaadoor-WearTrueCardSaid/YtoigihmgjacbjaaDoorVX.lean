/- Probes one behind the other: what thatchlaw07.all returns. No condition but the package's variable. -/
import Derived.Test.YtoigihmgjacbjaaDoorVO
set_option linter.unusedSimpArgs false
namespace Go.Proofs.YtoigihmgjacbjaaDoor
open Go.RowKit

theorem allR_step {S : Skn} {l : List Rdg} {j : Nat} {x : Rdg} (hj : l[j]? = some x) : allR S (l.take (j + 1)) = withMs (allR S (l.take j)) (insR (allR S (l.take j)).ms x) := by
  show withMs S (List.foldl insR S.ms (l.take (j + 1))) = withMs S (insR (List.foldl insR S.ms (l.take j)) x)
  rw [List.take_add_one, hj, List.foldl_append]
  rfl
theorem allE_drop {S : Skn} {l : List Rdg} {j : Nat} {x : Rdg} (hj : l[j]? = some x) : allE (allR S (l.take j)) (l.drop j) = if ¬ probeE (allR S (l.take j)) x.at_ x.r x.n = 0 then probeE (allR S (l.take j)) x.at_ x.r x.n else allE (allR S (l.take (j + 1))) (l.drop (j + 1)) := by
  obtain ⟨hlt, rfl⟩ := List.getElem?_eq_some_iff.1 hj
  rw [List.drop_eq_getElem_cons hlt, allR_step hj]
  rfl
/-- What probes one behind the other return. -/
def AllSaid (S : Skn) (l : List Rdg) (w : World) (e : Ending) (w' : World) : Prop := (∃ R, e = .returned (.tuple #[.agg (sknC R), .int .i64 (allE S l)]) ∧ IsSkn w' R ∧ (allE S l = 0 → Alike (allR S l) R)) ∧ Below w.heap.size w w'

set_option maxRecDepth 100000 in
set_option maxHeartbeats 16000000 in
theorem all_any (S : Skn) (la : Option Addr) (lc : Nat) (l : List Rdg) (w : World) (hS : IsSkn w S) (hg : Laid w) (hl : IsRow4 rdgC w la lc l) (hlen : l.length ≤ 1000) :
    Calls Tryd.prog 21 #[.agg #[.slice S.pa S.pts.length S.pc, .slice S.ha S.hs.length S.hc, .int .i64 S.steep, .int .i64 S.th.lo, .int .i64 S.th.hi, .slice S.ma S.ms.length S.mc], .slice la l.length lc] w (AllSaid S l w) := by
  have k1 := (Blk.new w 30 #[.slice S.pa S.pts.length S.pc, .slice S.ha S.hs.length S.hc, .int .i64 S.steep, .int .i64 S.th.lo, .int .i64 S.th.hi, .slice S.ma S.ms.length S.mc]).alloc (.cells #[.slice none 0 0, .slice none 0 0, .int .i64 0, .int .i64 0, .int .i64 0, .slice none 0 0] 30)
  have k2 := Blk.new (w.alloc (.cells #[.slice S.pa S.pts.length S.pc, .slice S.ha S.hs.length S.hc, .int .i64 S.steep, .int .i64 S.th.lo, .int .i64 S.th.hi, .slice S.ma S.ms.length S.mc] 30)) 30 #[.slice none 0 0, .slice none 0 0, .int .i64 0, .int .i64 0, .int .i64 0, .slice none 0 0]
  rw [World.size_alloc] at k2
  have hb1 : Below w.heap.size w ((w.alloc (.cells #[.slice S.pa S.pts.length S.pc, .slice S.ha S.hs.length S.hc, .int .i64 S.steep, .int .i64 S.th.lo, .int .i64 S.th.hi, .slice S.ma S.ms.length S.mc] 30)).alloc (.cells #[.slice none 0 0, .slice none 0 0, .int .i64 0, .int .i64 0, .int .i64 0, .slice none 0 0] 30)) := ((Below.refl _ w).alloc (Nat.le_refl _) _).alloc (by simp) _
  have HS := Lib.hid hS
  have HG := Lib.hid hg
  have HL := Lib.hid hl
  have HN := Lib.hid hlen
  clear hS hg hl hlen
  go_enter Tryd.func21, Tryd.ntmps21
  go_upto_region 1 with fail
  generalize ((w.alloc (.cells #[.slice S.pa S.pts.length S.pc, .slice S.ha S.hs.length S.hc, .int .i64 S.steep, .int .i64 S.th.lo, .int .i64 S.th.hi, .slice S.ma S.ms.length S.mc] 30)).alloc (.cells #[.slice none 0 0, .slice none 0 0, .int .i64 0, .int .i64 0, .int .i64 0, .slice none 0 0] 30)) = w1 at *
  have HB1 := Lib.hid hb1
  have K1 := Lib.hid k1
  have K2 := Lib.hid k2
  clear k1 k2 hb1
  go_wp2_with fail
  go_loopw [6, 7, 8] (fun s6 _ _ wr => ∃ (j : Nat) (R : Skn), j ≤ l.length ∧ s6 = .int .i64 j ∧ Blk wr w.heap.size (sknC R) 30 ∧ Blk wr (w.heap.size + 1) #[.slice none 0 0, .slice none 0 0, .int .i64 0, .int .i64 0, .int .i64 0, .slice none 0 0] 30 ∧ Alike (allR S (l.take j)) R ∧ (R = S ∨ (IsSkn wr R ∧ Fresh (w.heap.size + 2) R)) ∧ allE S l = allE (allR S (l.take j)) (l.drop j) ∧ Below w.heap.size w wr) (fun i _ _ _ => l.length - (intOf i).toNat)
  case atStart => exact ⟨0, S, Nat.zero_le _, rfl, K1.out, K2.out, ⟨rfl, rfl, rfl, rfl, rfl⟩, .inl rfl, allE_alike l (S := allR S (l.take 0)) (R := S) ⟨rfl, rfl, rfl, rfl, rfl⟩, HB1.out⟩
  case round =>
  obtain ⟨j, R, hj, rfl, kR, kZ, hal, hR, hE, hb⟩ := hrel
  obtain ⟨w3, rfl⟩ : ∃ w3 : World, w3 = wr := ⟨_, rfl⟩
  have HB3 := Lib.hid hb
  have KR := Lib.hid kR
  have KZ := Lib.hid kZ
  have HAL := Lib.hid hal
  have HE := Lib.hid hE
  have HSZ := Lib.hid (show w.heap.size + 2 ≤ w3.heap.size from kZ.lt)
  have HRR := Lib.hid hR
  have HR := Lib.hid (show IsSkn w3 R by
    rcases hR with rfl | h
    · exact HS.out.below hb
    · exact h.1)
  clear kR kZ hal hR hE hb
  by_cases hlj : j < l.length
  rotate_left
  · obtain rfl : j = l.length := by omega
    have hlj' : ¬ (l.length : Int) < (l.length : Int) := by omega
    have HV := Lib.hid (show allE S l = 0 by rw [HE.out, List.drop_of_length_le (Nat.le_refl _)]; rfl)
    have HAA := Lib.hid (show Alike (allR S l) R by have := HAL.out; rwa [List.take_of_length_le (Nat.le_refl _)] at this)
    clear hlj hj
    obtain ⟨s0, s1, s2, s3, s4, s5⟩ := skn_cells (S := R) KR.out
    obtain ⟨q0, q1, q2, q3, q4, q5⟩ := (show w3.cell? ⟨w.heap.size + 1, 0, none⟩ = some (.slice none 0 0) ∧ w3.cell? ⟨w.heap.size + 1, 1, none⟩ = some (.slice none 0 0) ∧ w3.cell? ⟨w.heap.size + 1, 2, none⟩ = some (.int .i64 0) ∧ w3.cell? ⟨w.heap.size + 1, 3, none⟩ = some (.int .i64 0) ∧ w3.cell? ⟨w.heap.size + 1, 4, none⟩ = some (.int .i64 0) ∧ w3.cell? ⟨w.heap.size + 1, 5, none⟩ = some (.slice none 0 0) from ⟨KZ.out.cell 0, KZ.out.cell 1, KZ.out.cell 2, KZ.out.cell 3, KZ.out.cell 4, KZ.out.cell 5⟩)
    have l1 := KR.out.lt
    have l2 := KZ.out.lt
    have z0 := KZ.out.frozen 0
    have z1 := KZ.out.frozen 1
    have z2 := KZ.out.frozen 2
    have z3 := KZ.out.frozen 3
    have z4 := KZ.out.frozen 4
    have z5 := KZ.out.frozen 5
    go_wp2_with fail
    have kf : Blk ((((((w3.setCell ⟨w.heap.size + 1, 0, none⟩ (.slice R.pa R.pts.length R.pc)).setCell ⟨w.heap.size + 1, 1, none⟩ (.slice R.ha R.hs.length R.hc)).setCell ⟨w.heap.size + 1, 2, none⟩ (.int .i64 R.steep)).setCell ⟨w.heap.size + 1, 3, none⟩ (.int .i64 R.th.lo)).setCell ⟨w.heap.size + 1, 4, none⟩ (.int .i64 R.th.hi)).setCell ⟨w.heap.size + 1, 5, none⟩ (.slice R.ma R.ms.length R.mc)) (w.heap.size + 1) #[.slice R.pa R.pts.length R.pc, .slice R.ha R.hs.length R.hc, .int .i64 R.steep, .int .i64 R.th.lo, .int .i64 R.th.hi, .slice R.ma R.ms.length R.mc] 30 := ((((((KZ.out.set 0 (.slice R.pa R.pts.length R.pc)).set 1 (.slice R.ha R.hs.length R.hc)).set 2 (.int .i64 R.steep)).set 3 (.int .i64 R.th.lo)).set 4 (.int .i64 R.th.hi)).set 5 (.slice R.ma R.ms.length R.mc))
    have ht : Turn (fun k => k = w.heap.size + 1) w3 ((((((w3.setCell ⟨w.heap.size + 1, 0, none⟩ (.slice R.pa R.pts.length R.pc)).setCell ⟨w.heap.size + 1, 1, none⟩ (.slice R.ha R.hs.length R.hc)).setCell ⟨w.heap.size + 1, 2, none⟩ (.int .i64 R.steep)).setCell ⟨w.heap.size + 1, 3, none⟩ (.int .i64 R.th.lo)).setCell ⟨w.heap.size + 1, 4, none⟩ (.int .i64 R.th.hi)).setCell ⟨w.heap.size + 1, 5, none⟩ (.slice R.ma R.ms.length R.mc)) := (((((((Turn.of_below (X := fun k => k = w.heap.size + 1) (Below.refl _ w3)).setCell (B := w.heap.size + 1) rfl 0 (.slice R.pa R.pts.length R.pc)).setCell (B := w.heap.size + 1) rfl 1 (.slice R.ha R.hs.length R.hc)).setCell (B := w.heap.size + 1) rfl 2 (.int .i64 R.steep)).setCell (B := w.heap.size + 1) rfl 3 (.int .i64 R.th.lo)).setCell (B := w.heap.size + 1) rfl 4 (.int .i64 R.th.hi)).setCell (B := w.heap.size + 1) rfl 5 (.slice R.ma R.ms.length R.mc))
    generalize ((((((w3.setCell ⟨w.heap.size + 1, 0, none⟩ (.slice R.pa R.pts.length R.pc)).setCell ⟨w.heap.size + 1, 1, none⟩ (.slice R.ha R.hs.length R.hc)).setCell ⟨w.heap.size + 1, 2, none⟩ (.int .i64 R.steep)).setCell ⟨w.heap.size + 1, 3, none⟩ (.int .i64 R.th.lo)).setCell ⟨w.heap.size + 1, 4, none⟩ (.int .i64 R.th.hi)).setCell ⟨w.heap.size + 1, 5, none⟩ (.slice R.ma R.ms.length R.mc)) = wf at *
    clear s0 s1 s2 s3 s4 s5 q0 q1 q2 q3 q4 q5 z0 z1 z2 z3 z4 z5 l1 l2
    obtain ⟨g0, g1, g2, g3, g4, g5⟩ := skn_cells (S := R) kf
    have hbf := HB3.out.trans (ht.below (base := w.heap.size) HB3.out.size (fun k e => by rw [show k = w.heap.size + 1 from e]; exact Nat.le_succ _))
    have hRf : IsSkn wf R := by
      rcases HRR.out with rfl | h
      · exact HS.out.below hbf
      · exact h.1.turnF h.2 ht (fun k e => by have := (show k = w.heap.size + 1 from e); omega)
    exact bodyPost_ret (v := .tuple #[.agg #[.slice R.pa R.pts.length R.pc, .slice R.ha R.hs.length R.hc, .int .i64 R.steep, .int .i64 R.th.lo, .int .i64 R.th.hi, .slice R.ma R.ms.length R.mc], .int .i64 0]) (by simp [results, Tryd.results21, go_sem, g0, g1, g2, g3, g4, g5]) rfl ⟨⟨R, by rw [HV.out], hRf, fun _ => HAA.out⟩, hbf⟩
  have hlj' : (j : Int) < (l.length : Int) := by omega
  have hj0 : (0 : Int) ≤ (j : Int) := Int.natCast_nonneg _
  have hjs : IntKind.i64.wrap ((j : Int) + 1) = ((j + 1 : Nat) : Int) := by have := HN.out; rw [IntKind.wrap_i64]; omega
  have hq : l[j]? = some l[j] := List.getElem?_eq_getElem hlj
  obtain ⟨b, off, hea, hbl, hcap, hcx, y0, y1, y2, y3⟩ := (HL.out.below HB3.out).at hq
  have HED := Lib.hid (allE_drop (S := S) hq)
  have HTK := Lib.hid (allR_step (S := S) hq)
  generalize l[j] = x at *
  simp only [rdgC, List.getElem?_toArray, List.getElem?_cons_zero, List.getElem?_cons_succ] at y0 y1 y2 y3
  have HLJ := Lib.hid hlj
  have HROW := Lib.hid (And.intro hbl (And.intro hcap hcx))
  subst hea
  clear hq hlj hj
  go_upto_region 4 with fail
  have hst : ∀ w', Below w3.heap.size w3 w' → (fun w' : World => Below w3.heap.size w3 w' ∧ (w'.cell? ⟨w.heap.size, 0, none⟩ = some (.slice R.pa R.pts.length R.pc) ∧ w'.cell? ⟨w.heap.size, 1, none⟩ = some (.slice R.ha R.hs.length R.hc) ∧ w'.cell? ⟨w.heap.size, 2, none⟩ = some (.int .i64 R.steep) ∧ w'.cell? ⟨w.heap.size, 3, none⟩ = some (.int .i64 R.th.lo) ∧ w'.cell? ⟨w.heap.size, 4, none⟩ = some (.int .i64 R.th.hi) ∧ w'.cell? ⟨w.heap.size, 5, none⟩ = some (.slice R.ma R.ms.length R.mc) ∧ w'.cell? ⟨b, off + j * 4, none⟩ = some (.int .i64 x.at_.x) ∧ w'.cell? ⟨b, off + j * 4 + 1, none⟩ = some (.int .i64 x.at_.y) ∧ w'.cell? ⟨b, off + j * 4 + 2, none⟩ = some (.int .i64 x.r) ∧ w'.cell? ⟨b, off + j * 4 + 3, none⟩ = some (.int .i64 x.n))) w' := fun w' hb => by
    have x1 := KR.out.belowS hb
    have e : ∀ o, w'.cell? ⟨b, o, none⟩ = w3.cell? ⟨b, o, none⟩ := fun o => hb.cell (p := ⟨b, o, none⟩) HROW.out.1
    exact ⟨hb, x1.cell 0, x1.cell 1, x1.cell 2, x1.cell 3, x1.cell 4, x1.cell 5, (e _).trans y0, (e _).trans y1, (e _).trans y2, (e _).trans y3⟩
  have HST := Lib.hid hst
  have HPRB := Lib.hid (fun (w' : World) (hb : Below w3.heap.size w3 w') => wearProbe_any R x.at_ x.r x.n w' (HR.out.below hb) (HG.out.below (HB3.out.trans (hb.mono HB3.out.size))))
  clear hst y0 y1 y2 y3
  go_cut [7, 8] from 15 to 34 (fun s7 s8 wx => ∃ (D : Nat) (T : Skn), s7 = .pointer (some ⟨D, 0, none⟩) ∧ s8 = .int .i64 (probeE R x.at_ x.r x.n) ∧ Blk wx D (sknC T) 30 ∧ IsSkn wx T ∧ Fresh (w.heap.size + 2) T ∧ (probeE R x.at_ x.r x.n = 0 → Probed ⟨x.at_, saidM x.r x.n⟩ R T) ∧ Below w3.heap.size w3 wx)
  case first =>
    have hx := HST.out w3.drew ((Below.refl _ w3).drew)
    refine wp_region_E 23 (fun w' : World => Below w3.heap.size w3 w' ∧ (w'.cell? ⟨w.heap.size, 0, none⟩ = some (.slice R.pa R.pts.length R.pc) ∧ w'.cell? ⟨w.heap.size, 1, none⟩ = some (.slice R.ha R.hs.length R.hc) ∧ w'.cell? ⟨w.heap.size, 2, none⟩ = some (.int .i64 R.steep) ∧ w'.cell? ⟨w.heap.size, 3, none⟩ = some (.int .i64 R.th.lo) ∧ w'.cell? ⟨w.heap.size, 4, none⟩ = some (.int .i64 R.th.hi) ∧ w'.cell? ⟨w.heap.size, 5, none⟩ = some (.slice R.ma R.ms.length R.mc) ∧ w'.cell? ⟨b, off + j * 4, none⟩ = some (.int .i64 x.at_.x) ∧ w'.cell? ⟨b, off + j * 4 + 1, none⟩ = some (.int .i64 x.at_.y) ∧ w'.cell? ⟨b, off + j * 4 + 2, none⟩ = some (.int .i64 x.r) ∧ w'.cell? ⟨b, off + j * 4 + 3, none⟩ = some (.int .i64 x.n))) (by kernel_rfl) ?_
    refine E_takeR (i := 0) (oi := _) (v := ?vt18) rfl (by kernel_rfl) (by kernel_rfl) (by kernel_rfl) (by decide) (fun _ _ _ h => h) hx (Or.inl ⟨by rfl, ?yt18⟩) ?rt18
    case yt18 => (intro w' hSw; (try dsimp only at hSw); go_simp; try with_reducible rfl)
    try simp only [Act.put, List.getElem_toArray, List.getElem_cons_zero, List.getElem_cons_succ, List.setIfInBounds_toArray, List.set_cons_zero, List.set_cons_succ]
    refine E_takeR (i := 1) (oi := _) (v := ?vt19) rfl (by kernel_rfl) (by kernel_rfl) (by kernel_rfl) (by decide) (fun _ _ _ h => h) hx (Or.inl ⟨by rfl, ?yt19⟩) ?rt19
    case yt19 => (intro w' hSw; (try dsimp only at hSw); go_simp; try with_reducible rfl)
    try simp only [Act.put, List.getElem_toArray, List.getElem_cons_zero, List.getElem_cons_succ, List.setIfInBounds_toArray, List.set_cons_zero, List.set_cons_succ]
    refine E_takeR (i := 2) (oi := _) (v := ?vt20) rfl (by kernel_rfl) (by kernel_rfl) (by kernel_rfl) (by decide) (fun _ _ _ h => h) hx (Or.inl ⟨by rfl, ?yt20⟩) ?rt20
    case yt20 => (intro w' hSw; (try dsimp only at hSw); go_simp; try with_reducible rfl)
    try simp only [Act.put, List.getElem_toArray, List.getElem_cons_zero, List.getElem_cons_succ, List.setIfInBounds_toArray, List.set_cons_zero, List.set_cons_succ]
    refine E_takeR (i := 3) (oi := _) (v := ?vt21) rfl (by kernel_rfl) (by kernel_rfl) (by kernel_rfl) (by decide) (fun _ _ _ h => h) hx (Or.inl ⟨by rfl, ?yt21⟩) ?rt21
    case yt21 => (intro w' hSw; (try dsimp only at hSw); go_simp; try with_reducible rfl)
    try simp only [Act.put, List.getElem_toArray, List.getElem_cons_zero, List.getElem_cons_succ, List.setIfInBounds_toArray, List.set_cons_zero, List.set_cons_succ]
    refine E_takeR (i := 4) (oi := _) (v := ?vt22) rfl (by kernel_rfl) (by kernel_rfl) (by kernel_rfl) (by decide) (fun _ _ _ h => h) hx (Or.inl ⟨by rfl, ?yt22⟩) ?rt22
    case yt22 => (intro w' hSw; (try dsimp only at hSw); go_simp; try with_reducible rfl)
    try simp only [Act.put, List.getElem_toArray, List.getElem_cons_zero, List.getElem_cons_succ, List.setIfInBounds_toArray, List.set_cons_zero, List.set_cons_succ]
    refine E_takeR (i := 5) (oi := _) (v := ?vt23) rfl (by kernel_rfl) (by kernel_rfl) (by kernel_rfl) (by decide) (fun _ _ _ h => h) hx (Or.inl ⟨by rfl, ?yt23⟩) ?rt23
    case yt23 => (intro w' hSw; (try dsimp only at hSw); go_simp; try with_reducible rfl)
    try simp only [Act.put, List.getElem_toArray, List.getElem_cons_zero, List.getElem_cons_succ, List.setIfInBounds_toArray, List.set_cons_zero, List.set_cons_succ]
    refine E_takeR (i := 6) (oi := _) (v := ?vt24) rfl (by kernel_rfl) (by kernel_rfl) (by kernel_rfl) (by decide) (fun _ _ _ h => h) hx (Or.inl ⟨by rfl, ?yt24⟩) ?rt24
    case yt24 => (intro w' hSw; (try dsimp only at hSw); go_simp; try with_reducible rfl)
    try simp only [Act.put, List.getElem_toArray, List.getElem_cons_zero, List.getElem_cons_succ, List.setIfInBounds_toArray, List.set_cons_zero, List.set_cons_succ]
    refine E_takeR (i := 7) (oi := _) (v := ?vt25) rfl (by kernel_rfl) (by kernel_rfl) (by kernel_rfl) (by decide) (fun _ _ _ h => h) hx (Or.inl ⟨by rfl, ?yt25⟩) ?rt25
    case yt25 => (intro w' hSw; (try dsimp only at hSw); go_simp; try with_reducible rfl)
    try simp only [Act.put, List.getElem_toArray, List.getElem_cons_zero, List.getElem_cons_succ, List.setIfInBounds_toArray, List.set_cons_zero, List.set_cons_succ]
    refine E_takeR (i := 8) (oi := _) (v := ?vt26) rfl (by kernel_rfl) (by kernel_rfl) (by kernel_rfl) (by decide) (fun _ _ _ h => h) hx (Or.inl ⟨by rfl, ?yt26⟩) ?rt26
    case yt26 => (intro w' hSw; (try dsimp only at hSw); go_simp; try with_reducible rfl)
    try simp only [Act.put, List.getElem_toArray, List.getElem_cons_zero, List.getElem_cons_succ, List.setIfInBounds_toArray, List.set_cons_zero, List.set_cons_succ]
    refine E_takeR (i := 9) (oi := _) (v := ?vt27) rfl (by kernel_rfl) (by kernel_rfl) (by kernel_rfl) (by decide) (fun _ _ _ h => h) hx (Or.inl ⟨by rfl, ?yt27⟩) ?rt27
    case yt27 => (intro w' hSw; (try dsimp only at hSw); go_simp; try with_reducible rfl)
    try simp only [Act.put, List.getElem_toArray, List.getElem_cons_zero, List.getElem_cons_succ, List.setIfInBounds_toArray, List.set_cons_zero, List.set_cons_succ]
    refine E_takeR (i := 10) (oi := _) (v := ?vt28) rfl (by kernel_rfl) (by kernel_rfl) (by kernel_rfl) (by decide) (fun _ _ _ h => h) hx (Or.inl ⟨by rfl, ?yt28⟩) ?rt28
    case yt28 => (intro w' hSw; (try dsimp only at hSw); go_simp; try with_reducible rfl)
    try simp only [Act.put, List.getElem_toArray, List.getElem_cons_zero, List.getElem_cons_succ, List.setIfInBounds_toArray, List.set_cons_zero, List.set_cons_succ]
    refine E_takeR (i := 11) (oi := _) (v := ?vt29) rfl (by kernel_rfl) (by kernel_rfl) (by kernel_rfl) (by decide) (fun _ _ _ h => h) hx (Or.inl ⟨by rfl, ?yt29⟩) ?rt29
    case yt29 => (intro w' hSw; (try dsimp only at hSw); go_simp; try with_reducible rfl)
    try simp only [Act.put, List.getElem_toArray, List.getElem_cons_zero, List.getElem_cons_succ, List.setIfInBounds_toArray, List.set_cons_zero, List.set_cons_succ]
    refine E_takeR (i := 12) (oi := _) (v := ?vt30) rfl (by kernel_rfl) (by kernel_rfl) (by kernel_rfl) (by decide) (fun _ _ _ h => h) hx (Or.inl ⟨by rfl, ?yt30⟩) ?rt30
    case yt30 => (intro w' hSw; (try dsimp only at hSw); go_simp; try with_reducible rfl)
    try simp only [Act.put, List.getElem_toArray, List.getElem_cons_zero, List.getElem_cons_succ, List.setIfInBounds_toArray, List.set_cons_zero, List.set_cons_succ]
    refine E_takeR (i := 13) (oi := _) (v := ?vt31) rfl (by kernel_rfl) (by kernel_rfl) (by kernel_rfl) (by decide) (fun _ _ _ h => h) hx (Or.inl ⟨by rfl, ?yt31⟩) ?rt31
    case yt31 => (intro w' hSw; (try dsimp only at hSw); go_simp; try with_reducible rfl)
    try simp only [Act.put, List.getElem_toArray, List.getElem_cons_zero, List.getElem_cons_succ, List.setIfInBounds_toArray, List.set_cons_zero, List.set_cons_succ]
    refine E_takeR (i := 14) (oi := _) (v := ?vt32) rfl (by kernel_rfl) (by kernel_rfl) (by kernel_rfl) (by decide) (fun _ _ _ h => h) hx (Or.inl ⟨by rfl, ?yt32⟩) ?rt32
    case yt32 => (intro w' hSw; (try dsimp only at hSw); go_simp; try with_reducible rfl)
    try simp only [Act.put, List.getElem_toArray, List.getElem_cons_zero, List.getElem_cons_succ, List.setIfInBounds_toArray, List.set_cons_zero, List.set_cons_succ]
    refine E_takeR (i := 15) (oi := _) (v := ?vt33) rfl (by kernel_rfl) (by kernel_rfl) (by kernel_rfl) (by decide) (fun _ _ _ h => h) hx (Or.inl ⟨by rfl, ?yt33⟩) ?rt33
    case yt33 => (intro w' hSw; (try dsimp only at hSw); go_simp; try with_reducible rfl)
    try simp only [Act.put, List.getElem_toArray, List.getElem_cons_zero, List.getElem_cons_succ, List.setIfInBounds_toArray, List.set_cons_zero, List.set_cons_succ]
    refine E_step2 (i := 16) (i' := 20) (o := _) (o' := _) (by kernel_rfl) rfl rfl (fun K hK => ?_) (fun K hK => ?_)
    · go_simp
      refine (HPRB.out _ hx.1).mono ?_
      rintro e w4 ⟨⟨T, rfl, hT, hF, hP, hZ⟩, hb4⟩
      dsimp only
      have hb34 : Below w3.heap.size w3 w4 := hx.1.trans (hb4.mono hx.1.size)
      have hx4 := HST.out w4 hb34
      refine hK.out _ _ (fun _ => hx4) ?_
      clear hK K
      try simp only [Act.put, List.getElem_toArray, List.getElem_cons_zero, List.getElem_cons_succ, List.setIfInBounds_toArray, List.set_cons_zero, List.set_cons_succ]
      unfold sknC
      refine E_takeR (i := 17) (oi := _) (v := ?vt34) rfl (by kernel_rfl) (by kernel_rfl) (by kernel_rfl) (by decide) (fun _ _ _ h => h) hx4 (Or.inl ⟨by rfl, ?yt34⟩) ?rt34
      case yt34 => (intro w' hSw; (try dsimp only at hSw); go_simp; try with_reducible rfl)
      try simp only [Act.put, List.getElem_toArray, List.getElem_cons_zero, List.getElem_cons_succ, List.setIfInBounds_toArray, List.set_cons_zero, List.set_cons_succ]
      refine E_takeR (i := 18) (oi := _) (v := ?vt35) rfl (by kernel_rfl) (by kernel_rfl) (by kernel_rfl) (by decide) (fun _ _ _ h => h) hx4 (Or.inl ⟨by rfl, ?yt35⟩) ?rt35
      case yt35 => (intro w' hSw; (try dsimp only at hSw); go_simp; try with_reducible rfl)
      try simp only [Act.put, List.getElem_toArray, List.getElem_cons_zero, List.getElem_cons_succ, List.setIfInBounds_toArray, List.set_cons_zero, List.set_cons_succ]
      refine E_takeR (i := 19) (oi := _) (v := ?vt36) rfl (by kernel_rfl) (by kernel_rfl) (by kernel_rfl) (by decide) (fun _ _ _ h => h) hx4 (Or.inl ⟨by rfl, ?yt36⟩) ?rt36
      case yt36 => (intro w' hSw; (try dsimp only at hSw); go_simp; try with_reducible rfl)
      try simp only [Act.put, List.getElem_toArray, List.getElem_cons_zero, List.getElem_cons_succ, List.setIfInBounds_toArray, List.set_cons_zero, List.set_cons_succ]
      refine E_step (i := 20) (o := _) (by kernel_rfl) rfl (fun K hK => ?_)
      go_simp
      have hbB : Below w3.heap.size w3 (w4.alloc (.cells #[.slice none 0 0, .slice none 0 0, .int .i64 0, .int .i64 0, .int .i64 0, .slice none 0 0] 30)) := hb34.alloc hb34.size _
      refine hK.out _ _ (fun _ => HST.out _ hbB) ?_
      clear hK K
      try simp only [Act.put, List.getElem_toArray, List.getElem_cons_zero, List.getElem_cons_succ, List.setIfInBounds_toArray, List.set_cons_zero, List.set_cons_succ]
      have hbF : Below w3.heap.size w3 (w4.alloc (.cells #[.slice T.pa T.pts.length T.pc, .slice T.ha T.hs.length T.hc, .int .i64 T.steep, .int .i64 T.th.lo, .int .i64 T.th.hi, .slice T.ma T.ms.length T.mc] 30)) := hb34.alloc hb34.size _
      refine E_step (i := 21) (o := _) (by kernel_rfl) rfl (fun K hK => ?_)
      go_simp
      refine hK.out _ _ (fun _ => HST.out _ hbF) ?_
      clear hK K
      try simp only [Act.put, List.getElem_toArray, List.getElem_cons_zero, List.getElem_cons_succ, List.setIfInBounds_toArray, List.set_cons_zero, List.set_cons_succ]
      refine E_step (i := 22) (o := _) (by kernel_rfl) rfl (fun K hK => ?_)
      go_simp
      refine hK.out _ _ (fun _ => (HST.out _ hbF)) ?_
      clear hK K
      try simp only [Act.put, List.getElem_toArray, List.getElem_cons_zero, List.getElem_cons_succ, List.setIfInBounds_toArray, List.set_cons_zero, List.set_cons_succ]
      refine E_done (by kernel_rfl) ?_ _
      have kT := Blk.new w4 30 #[.slice T.pa T.pts.length T.pc, .slice T.ha T.hs.length T.hc, .int .i64 T.steep, .int .i64 T.th.lo, .int .i64 T.th.hi, .slice T.ma T.ms.length T.mc]
      have HKX := Lib.hid kT
      have HTX := Lib.hid (hT.below ((Below.refl _ w4).alloc (Nat.le_refl _) (.cells #[.slice T.pa T.pts.length T.pc, .slice T.ha T.hs.length T.hc, .int .i64 T.steep, .int .i64 T.th.lo, .int .i64 T.th.hi, .slice T.ma T.ms.length T.mc] 30)))
      have HFX := Lib.hid (hF.mono (show w.heap.size + 2 ≤ w3.drew.heap.size from HSZ.out))
      have HPX := Lib.hid hP
      have HBX := Lib.hid hbF
      clear hx hx4 hb4 hb34 hbB hbF hT hF hP hZ kT
      go_wp2_with fail
      go_meet
      exact ⟨_, T, rfl, rfl, HKX.out, HTX.out, HFX.out, HPX.out, HBX.out⟩
    · go_simp
      have hbB : Below w3.heap.size w3 (w3.drew.alloc (.cells #[.slice none 0 0, .slice none 0 0, .int .i64 0, .int .i64 0, .int .i64 0, .slice none 0 0] 30)) := hx.1.alloc hx.1.size _
      have kB := Blk.new w3.drew 30 #[.slice none 0 0, .slice none 0 0, .int .i64 0, .int .i64 0, .int .i64 0, .slice none 0 0]
      refine hK.out _ _ (fun _ => HST.out _ hbB) ?_
      clear hK K
      try simp only [Act.put, List.getElem_toArray, List.getElem_cons_zero, List.getElem_cons_succ, List.setIfInBounds_toArray, List.set_cons_zero, List.set_cons_succ]
      refine E_step (i := 16) (o := _) (by kernel_rfl) rfl (fun K hK => ?_)
      go_simp
      refine (HPRB.out _ hbB).mono ?_
      rintro e w4 ⟨⟨T, rfl, hT, hF, hP, hZ⟩, hb4⟩
      dsimp only
      have hb34 : Below w3.heap.size w3 w4 := hbB.trans (hb4.mono hbB.size)
      have kB4 := kB.belowS hb4
      have hx4 := HST.out w4 hb34
      refine hK.out _ _ (fun _ => hx4) ?_
      clear hK K
      try simp only [Act.put, List.getElem_toArray, List.getElem_cons_zero, List.getElem_cons_succ, List.setIfInBounds_toArray, List.set_cons_zero, List.set_cons_succ]
      unfold sknC
      refine E_takeR (i := 17) (oi := _) (v := ?vt37) rfl (by kernel_rfl) (by kernel_rfl) (by kernel_rfl) (by decide) (fun _ _ _ h => h) hx4 (Or.inl ⟨by rfl, ?yt37⟩) ?rt37
      case yt37 => (intro w' hSw; (try dsimp only at hSw); go_simp; try with_reducible rfl)
      try simp only [Act.put, List.getElem_toArray, List.getElem_cons_zero, List.getElem_cons_succ, List.setIfInBounds_toArray, List.set_cons_zero, List.set_cons_succ]
      refine E_takeR (i := 18) (oi := _) (v := ?vt38) rfl (by kernel_rfl) (by kernel_rfl) (by kernel_rfl) (by decide) (fun _ _ _ h => h) hx4 (Or.inl ⟨by rfl, ?yt38⟩) ?rt38
      case yt38 => (intro w' hSw; (try dsimp only at hSw); go_simp; try with_reducible rfl)
      try simp only [Act.put, List.getElem_toArray, List.getElem_cons_zero, List.getElem_cons_succ, List.setIfInBounds_toArray, List.set_cons_zero, List.set_cons_succ]
      refine E_takeR (i := 19) (oi := _) (v := ?vt39) rfl (by kernel_rfl) (by kernel_rfl) (by kernel_rfl) (by decide) (fun _ _ _ h => h) hx4 (Or.inl ⟨by rfl, ?yt39⟩) ?rt39
      case yt39 => (intro w' hSw; (try dsimp only at hSw); go_simp; try with_reducible rfl)
      try simp only [Act.put, List.getElem_toArray, List.getElem_cons_zero, List.getElem_cons_succ, List.setIfInBounds_toArray, List.set_cons_zero, List.set_cons_succ]
      have lD : w3.heap.size < w4.heap.size := kB4.lt
      obtain ⟨q0, q1, q2, q3, q4, q5⟩ := (show w4.cell? ⟨w3.heap.size, 0, none⟩ = some (.slice none 0 0) ∧ w4.cell? ⟨w3.heap.size, 1, none⟩ = some (.slice none 0 0) ∧ w4.cell? ⟨w3.heap.size, 2, none⟩ = some (.int .i64 0) ∧ w4.cell? ⟨w3.heap.size, 3, none⟩ = some (.int .i64 0) ∧ w4.cell? ⟨w3.heap.size, 4, none⟩ = some (.int .i64 0) ∧ w4.cell? ⟨w3.heap.size, 5, none⟩ = some (.slice none 0 0) from ⟨kB4.cell 0, kB4.cell 1, kB4.cell 2, kB4.cell 3, kB4.cell 4, kB4.cell 5⟩)
      obtain ⟨r0, r1, r2, r3, r4, r5⟩ := (show w4.frozen? ⟨w3.heap.size, 0, none⟩ = false ∧ w4.frozen? ⟨w3.heap.size, 1, none⟩ = false ∧ w4.frozen? ⟨w3.heap.size, 2, none⟩ = false ∧ w4.frozen? ⟨w3.heap.size, 3, none⟩ = false ∧ w4.frozen? ⟨w3.heap.size, 4, none⟩ = false ∧ w4.frozen? ⟨w3.heap.size, 5, none⟩ = false from ⟨kB4.frozen 0, kB4.frozen 1, kB4.frozen 2, kB4.frozen 3, kB4.frozen 4, kB4.frozen 5⟩)
      have kF9 : Blk ((((((w4.setCell ⟨w3.heap.size, 0, none⟩ (.slice T.pa T.pts.length T.pc)).setCell ⟨w3.heap.size, 1, none⟩ (.slice T.ha T.hs.length T.hc)).setCell ⟨w3.heap.size, 2, none⟩ (.int .i64 T.steep)).setCell ⟨w3.heap.size, 3, none⟩ (.int .i64 T.th.lo)).setCell ⟨w3.heap.size, 4, none⟩ (.int .i64 T.th.hi)).setCell ⟨w3.heap.size, 5, none⟩ (.slice T.ma T.ms.length T.mc)) w3.heap.size #[.slice T.pa T.pts.length T.pc, .slice T.ha T.hs.length T.hc, .int .i64 T.steep, .int .i64 T.th.lo, .int .i64 T.th.hi, .slice T.ma T.ms.length T.mc] 30 := ((((((kB4.set 0 (.slice T.pa T.pts.length T.pc)).set 1 (.slice T.ha T.hs.length T.hc)).set 2 (.int .i64 T.steep)).set 3 (.int .i64 T.th.lo)).set 4 (.int .i64 T.th.hi)).set 5 (.slice T.ma T.ms.length T.mc))
      have hbF : Below w3.heap.size w3 ((((((w4.setCell ⟨w3.heap.size, 0, none⟩ (.slice T.pa T.pts.length T.pc)).setCell ⟨w3.heap.size, 1, none⟩ (.slice T.ha T.hs.length T.hc)).setCell ⟨w3.heap.size, 2, none⟩ (.int .i64 T.steep)).setCell ⟨w3.heap.size, 3, none⟩ (.int .i64 T.th.lo)).setCell ⟨w3.heap.size, 4, none⟩ (.int .i64 T.th.hi)).setCell ⟨w3.heap.size, 5, none⟩ (.slice T.ma T.ms.length T.mc)) := ((((((hb34.setCell (p := ⟨w3.heap.size, 0, none⟩) (Nat.le_refl _) (.slice T.pa T.pts.length T.pc)).setCell (p := ⟨w3.heap.size, 1, none⟩) (Nat.le_refl _) (.slice T.ha T.hs.length T.hc)).setCell (p := ⟨w3.heap.size, 2, none⟩) (Nat.le_refl _) (.int .i64 T.steep)).setCell (p := ⟨w3.heap.size, 3, none⟩) (Nat.le_refl _) (.int .i64 T.th.lo)).setCell (p := ⟨w3.heap.size, 4, none⟩) (Nat.le_refl _) (.int .i64 T.th.hi)).setCell (p := ⟨w3.heap.size, 5, none⟩) (Nat.le_refl _) (.slice T.ma T.ms.length T.mc))
      have hT9 : Turn (fun k => k = w3.heap.size) w4 ((((((w4.setCell ⟨w3.heap.size, 0, none⟩ (.slice T.pa T.pts.length T.pc)).setCell ⟨w3.heap.size, 1, none⟩ (.slice T.ha T.hs.length T.hc)).setCell ⟨w3.heap.size, 2, none⟩ (.int .i64 T.steep)).setCell ⟨w3.heap.size, 3, none⟩ (.int .i64 T.th.lo)).setCell ⟨w3.heap.size, 4, none⟩ (.int .i64 T.th.hi)).setCell ⟨w3.heap.size, 5, none⟩ (.slice T.ma T.ms.length T.mc)) := (((((((Turn.of_below (X := fun k => k = w3.heap.size) (Below.refl _ w4)).setCell (B := w3.heap.size) rfl 0 (.slice T.pa T.pts.length T.pc)).setCell (B := w3.heap.size) rfl 1 (.slice T.ha T.hs.length T.hc)).setCell (B := w3.heap.size) rfl 2 (.int .i64 T.steep)).setCell (B := w3.heap.size) rfl 3 (.int .i64 T.th.lo)).setCell (B := w3.heap.size) rfl 4 (.int .i64 T.th.hi)).setCell (B := w3.heap.size) rfl 5 (.slice T.ma T.ms.length T.mc))
      refine E_step (i := 21) (o := _) (by kernel_rfl) rfl (fun K hK => ?_)
      go_simp
      refine hK.out _ _ (fun _ => HST.out _ hbF) ?_
      clear hK K
      try simp only [Act.put, List.getElem_toArray, List.getElem_cons_zero, List.getElem_cons_succ, List.setIfInBounds_toArray, List.set_cons_zero, List.set_cons_succ]
      refine E_step (i := 22) (o := _) (by kernel_rfl) rfl (fun K hK => ?_)
      go_simp
      refine hK.out _ _ (fun _ => (HST.out _ hbF)) ?_
      clear hK K
      try simp only [Act.put, List.getElem_toArray, List.getElem_cons_zero, List.getElem_cons_succ, List.setIfInBounds_toArray, List.set_cons_zero, List.set_cons_succ]
      refine E_done (by kernel_rfl) ?_ _
      have hTF := hT.turnF hF hT9 (fun k e => by rw [show k = w3.heap.size from e]; simp)
      generalize ((((((w4.setCell ⟨w3.heap.size, 0, none⟩ (.slice T.pa T.pts.length T.pc)).setCell ⟨w3.heap.size, 1, none⟩ (.slice T.ha T.hs.length T.hc)).setCell ⟨w3.heap.size, 2, none⟩ (.int .i64 T.steep)).setCell ⟨w3.heap.size, 3, none⟩ (.int .i64 T.th.lo)).setCell ⟨w3.heap.size, 4, none⟩ (.int .i64 T.th.hi)).setCell ⟨w3.heap.size, 5, none⟩ (.slice T.ma T.ms.length T.mc)) = w9 at *
      have HKX := Lib.hid kF9
      have HTX := Lib.hid hTF
      have HFX := Lib.hid (hF.mono (show w.heap.size + 2 ≤ (w3.drew.alloc (.cells #[.slice none 0 0, .slice none 0 0, .int .i64 0, .int .i64 0, .int .i64 0, .slice none 0 0] 30)).heap.size by have := HSZ.out; simp; omega))
      have HPX := Lib.hid hP
      have HBX := Lib.hid hbF
      clear hx hx4 hb4 hb34 hbB hbF hT hF hP hZ kB kB4 lD q0 q1 q2 q3 q4 q5 r0 r1 r2 r3 r4 r5 kF9 hT9 hTF
      go_wp2_with fail
      go_meet
      exact ⟨_, T, rfl, rfl, HKX.out, HTX.out, HFX.out, HPX.out, HBX.out⟩
  case rest =>
  obtain ⟨D, T, rfl, rfl, kT, hT, hF, hP, hbx⟩ := hcut
  obtain ⟨w5, rfl⟩ : ∃ w5 : World, w5 = wc := ⟨_, rfl⟩
  have HB5 := Lib.hid (HB3.out.trans (hbx.mono HB3.out.size))
  have KR5 := Lib.hid (KR.out.belowS hbx)
  have KZ5 := Lib.hid (KZ.out.belowS hbx)
  have KT5 := Lib.hid kT
  have HT5 := Lib.hid hT
  have HF5 := Lib.hid hF
  have HPE := Lib.hid (show probeE R x.at_ x.r x.n = probeE (allR S (l.take j)) x.at_ x.r x.n from probeE_data HAL.out _ _ _)
  obtain ⟨E, hE⟩ : ∃ E, probeE R x.at_ x.r x.n = E := ⟨_, rfl⟩
  rw [hE] at hP ⊢
  have HEE := Lib.hid hE
  have HP5 := Lib.hid hP
  clear kT hT hF hP hbx hE
  by_cases hE0 : E = 0
  rotate_left
  · have e1 : (E == 0) = false := by rw [beq_eq_false_iff_ne]; exact hE0
    have e2 : (E != 0) = true := by simp [hE0]
    have HV := Lib.hid (show allE S l = E by rw [HE.out, HED.out, ← HPE.out, HEE.out, if_pos hE0])
    have HNE := Lib.hid hE0
    clear hE0
    obtain ⟨q0, q1, q2, q3, q4, q5⟩ := (show w5.cell? ⟨w.heap.size + 1, 0, none⟩ = some (.slice none 0 0) ∧ w5.cell? ⟨w.heap.size + 1, 1, none⟩ = some (.slice none 0 0) ∧ w5.cell? ⟨w.heap.size + 1, 2, none⟩ = some (.int .i64 0) ∧ w5.cell? ⟨w.heap.size + 1, 3, none⟩ = some (.int .i64 0) ∧ w5.cell? ⟨w.heap.size + 1, 4, none⟩ = some (.int .i64 0) ∧ w5.cell? ⟨w.heap.size + 1, 5, none⟩ = some (.slice none 0 0) from ⟨KZ5.out.cell 0, KZ5.out.cell 1, KZ5.out.cell 2, KZ5.out.cell 3, KZ5.out.cell 4, KZ5.out.cell 5⟩)
    have l2 := KZ5.out.lt
    have z0 := KZ5.out.frozen 0
    have z1 := KZ5.out.frozen 1
    have z2 := KZ5.out.frozen 2
    have z3 := KZ5.out.frozen 3
    have z4 := KZ5.out.frozen 4
    have z5 := KZ5.out.frozen 5
    go_wp2_with fail
    have kf : Blk ((((((w5.setCell ⟨w.heap.size + 1, 0, none⟩ (.slice none 0 0)).setCell ⟨w.heap.size + 1, 1, none⟩ (.slice none 0 0)).setCell ⟨w.heap.size + 1, 2, none⟩ (.int .i64 0)).setCell ⟨w.heap.size + 1, 3, none⟩ (.int .i64 0)).setCell ⟨w.heap.size + 1, 4, none⟩ (.int .i64 0)).setCell ⟨w.heap.size + 1, 5, none⟩ (.slice none 0 0)) (w.heap.size + 1) #[.slice none 0 0, .slice none 0 0, .int .i64 0, .int .i64 0, .int .i64 0, .slice none 0 0] 30 := ((((((KZ5.out.set 0 (.slice none 0 0)).set 1 (.slice none 0 0)).set 2 (.int .i64 0)).set 3 (.int .i64 0)).set 4 (.int .i64 0)).set 5 (.slice none 0 0))
    have ht : Turn (fun k => k = w.heap.size + 1) w5 ((((((w5.setCell ⟨w.heap.size + 1, 0, none⟩ (.slice none 0 0)).setCell ⟨w.heap.size + 1, 1, none⟩ (.slice none 0 0)).setCell ⟨w.heap.size + 1, 2, none⟩ (.int .i64 0)).setCell ⟨w.heap.size + 1, 3, none⟩ (.int .i64 0)).setCell ⟨w.heap.size + 1, 4, none⟩ (.int .i64 0)).setCell ⟨w.heap.size + 1, 5, none⟩ (.slice none 0 0)) := (((((((Turn.of_below (X := fun k => k = w.heap.size + 1) (Below.refl _ w5)).setCell (B := w.heap.size + 1) rfl 0 (.slice none 0 0)).setCell (B := w.heap.size + 1) rfl 1 (.slice none 0 0)).setCell (B := w.heap.size + 1) rfl 2 (.int .i64 0)).setCell (B := w.heap.size + 1) rfl 3 (.int .i64 0)).setCell (B := w.heap.size + 1) rfl 4 (.int .i64 0)).setCell (B := w.heap.size + 1) rfl 5 (.slice none 0 0))
    generalize ((((((w5.setCell ⟨w.heap.size + 1, 0, none⟩ (.slice none 0 0)).setCell ⟨w.heap.size + 1, 1, none⟩ (.slice none 0 0)).setCell ⟨w.heap.size + 1, 2, none⟩ (.int .i64 0)).setCell ⟨w.heap.size + 1, 3, none⟩ (.int .i64 0)).setCell ⟨w.heap.size + 1, 4, none⟩ (.int .i64 0)).setCell ⟨w.heap.size + 1, 5, none⟩ (.slice none 0 0)) = wf at *
    clear q0 q1 q2 q3 q4 q5 z0 z1 z2 z3 z4 z5 l2
    obtain ⟨g0, g1, g2, g3, g4, g5⟩ := (show wf.cell? ⟨w.heap.size + 1, 0, none⟩ = some (.slice none 0 0) ∧ wf.cell? ⟨w.heap.size + 1, 1, none⟩ = some (.slice none 0 0) ∧ wf.cell? ⟨w.heap.size + 1, 2, none⟩ = some (.int .i64 0) ∧ wf.cell? ⟨w.heap.size + 1, 3, none⟩ = some (.int .i64 0) ∧ wf.cell? ⟨w.heap.size + 1, 4, none⟩ = some (.int .i64 0) ∧ wf.cell? ⟨w.heap.size + 1, 5, none⟩ = some (.slice none 0 0) from ⟨kf.cell 0, kf.cell 1, kf.cell 2, kf.cell 3, kf.cell 4, kf.cell 5⟩)
    exact bodyPost_ret (v := .tuple #[.agg #[.slice none 0 0, .slice none 0 0, .int .i64 0, .int .i64 0, .int .i64 0, .slice none 0 0], .int .i64 E]) (by simp [results, Tryd.results21, go_sem, g0, g1, g2, g3, g4, g5]) rfl ⟨⟨zeroSkn, by rw [HV.out]; rfl, zero_is _, fun h => absurd (HV.out.symm.trans h) HNE.out⟩, HB5.out.trans (ht.below (base := w.heap.size) HB5.out.size (fun k e => by rw [show k = w.heap.size + 1 from e]; exact Nat.le_succ _))⟩
  subst hE0
  obtain ⟨s0, s1, s2, s3, s4, s5⟩ := skn_cells (S := R) KR5.out
  obtain ⟨q0, q1, q2, q3, q4, q5⟩ := skn_cells (S := T) KT5.out
  have l1 := KR5.out.lt
  have l2 := KT5.out.lt
  have z0 := KR5.out.frozen 0
  have z1 := KR5.out.frozen 1
  have z2 := KR5.out.frozen 2
  have z3 := KR5.out.frozen 3
  have z4 := KR5.out.frozen 4
  have z5 := KR5.out.frozen 5
  go_wp2_with fail
  have kf : Blk ((((((w5.setCell ⟨w.heap.size, 0, none⟩ (.slice T.pa T.pts.length T.pc)).setCell ⟨w.heap.size, 1, none⟩ (.slice T.ha T.hs.length T.hc)).setCell ⟨w.heap.size, 2, none⟩ (.int .i64 T.steep)).setCell ⟨w.heap.size, 3, none⟩ (.int .i64 T.th.lo)).setCell ⟨w.heap.size, 4, none⟩ (.int .i64 T.th.hi)).setCell ⟨w.heap.size, 5, none⟩ (.slice T.ma T.ms.length T.mc)) w.heap.size #[.slice T.pa T.pts.length T.pc, .slice T.ha T.hs.length T.hc, .int .i64 T.steep, .int .i64 T.th.lo, .int .i64 T.th.hi, .slice T.ma T.ms.length T.mc] 30 := ((((((KR5.out.set 0 (.slice T.pa T.pts.length T.pc)).set 1 (.slice T.ha T.hs.length T.hc)).set 2 (.int .i64 T.steep)).set 3 (.int .i64 T.th.lo)).set 4 (.int .i64 T.th.hi)).set 5 (.slice T.ma T.ms.length T.mc))
  have ht : Turn (fun k => k = w.heap.size) w5 ((((((w5.setCell ⟨w.heap.size, 0, none⟩ (.slice T.pa T.pts.length T.pc)).setCell ⟨w.heap.size, 1, none⟩ (.slice T.ha T.hs.length T.hc)).setCell ⟨w.heap.size, 2, none⟩ (.int .i64 T.steep)).setCell ⟨w.heap.size, 3, none⟩ (.int .i64 T.th.lo)).setCell ⟨w.heap.size, 4, none⟩ (.int .i64 T.th.hi)).setCell ⟨w.heap.size, 5, none⟩ (.slice T.ma T.ms.length T.mc)) := (((((((Turn.of_below (X := fun k => k = w.heap.size) (Below.refl _ w5)).setCell (B := w.heap.size) rfl 0 (.slice T.pa T.pts.length T.pc)).setCell (B := w.heap.size) rfl 1 (.slice T.ha T.hs.length T.hc)).setCell (B := w.heap.size) rfl 2 (.int .i64 T.steep)).setCell (B := w.heap.size) rfl 3 (.int .i64 T.th.lo)).setCell (B := w.heap.size) rfl 4 (.int .i64 T.th.hi)).setCell (B := w.heap.size) rfl 5 (.slice T.ma T.ms.length T.mc))
  generalize ((((((w5.setCell ⟨w.heap.size, 0, none⟩ (.slice T.pa T.pts.length T.pc)).setCell ⟨w.heap.size, 1, none⟩ (.slice T.ha T.hs.length T.hc)).setCell ⟨w.heap.size, 2, none⟩ (.int .i64 T.steep)).setCell ⟨w.heap.size, 3, none⟩ (.int .i64 T.th.lo)).setCell ⟨w.heap.size, 4, none⟩ (.int .i64 T.th.hi)).setCell ⟨w.heap.size, 5, none⟩ (.slice T.ma T.ms.length T.mc)) = w6 at *
  have hpr := HP5.out (by first | rfl | trivial)
  refine ⟨⟨j + 1, T, by have := HLJ.out; omega, by simp, kf, ht.blk KZ5.out (fun e => by have := (show w.heap.size + 1 = w.heap.size from e); omega), ?_, .inr ⟨HT5.out.turnF HF5.out ht (fun k e => by have := (show k = w.heap.size from e); omega), HF5.out⟩, ?_, HB5.out.trans (ht.below (base := w.heap.size) HB5.out.size (fun k e => by rw [show k = w.heap.size from e]; exact Nat.le_refl _))⟩, by have := HLJ.out; simp [intOf]; omega⟩
  · rw [HTK.out]
    exact probed_alike (alike_probed HAL.out hpr)
  · rw [HE.out, HED.out, ← HPE.out, HEE.out, if_neg (by decide)]
end Go.Proofs.YtoigihmgjacbjaaDoor
