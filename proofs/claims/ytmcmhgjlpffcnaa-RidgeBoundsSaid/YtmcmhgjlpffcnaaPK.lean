/- The rows of a ridge: how many there are (rowsOf, all, Ways), and whether it may be (Check). No condition but the bounds of what is given. -/
import Derived.Test.YtmcmhgjlpffcnaaPJ
set_option linter.unusedSimpArgs false
namespace Go.Proofs.Ytmcmhgjlpffcnaa
open Go.RowKit

theorem count_of (R : Rdg) (w : World) (hR : R.ok) (hrow : IsPcs w R.pa R.pc R.ps) : Calls Try.prog 83 #[.agg #[.int .i64 R.len, .int .i64 R.st, .int .i64 R.en, .slice R.pa R.ps.length R.pc]] w (CountSaid R.ps R.top R.en.toNat w) := by
  have h := count_any R.top R.en.toNat R.pa R.pc R.ps w hR.top hR.bot.2 hR.2.2.2.2 hR.2.2.2.1 hrow
  obtain ⟨h1, h2, h3, _⟩ := hR
  rw [show ((R.top.n : Nat) : Int) = R.len by simp only [Rdg.top]; omega, show ((R.top.p : Nat) : Int) = R.st by simp only [Rdg.top]; omega, show ((R.en.toNat : Nat) : Int) = R.en by omega] at h
  exact h
/-- How many rows fit a ridge. -/
def waysN (R : Rdg) : Nat := wy R.ps R.en.toNat R.top
/-- The first error of a ridge, or that too many rows fit it, or 0. -/
def waysE (R : Rdg) : Int := if rdgE R ≠ 0 then rdgE R else if MW < waysN R then 3 else 0
theorem waysE_zero {R : Rdg} (h : waysE R = 0) : rdgE R = 0 ∧ waysN R ≤ MW := by
  unfold waysE at h
  split at h
  · rename_i h2; exact absurd h h2
  · rename_i h2
    split at h
    · omega
    · exact ⟨by omega, by omega⟩
def RowsSaid (R : Rdg) (w : World) (e : Ending) (w' : World) : Prop :=
  ((waysE R = 0 ∧ ∃ B f, e = .returned (.agg #[.int .i64 R.len, .int .i64 R.st, .int .i64 R.en, .slice R.pa R.ps.length R.pc, .pointer (some ⟨B, 0, none⟩)]) ∧ w.heap.size ≤ B ∧ TabI w' B f ∧ ∀ g, Rch R.ps R.top g → f g.ix = (wy R.ps R.en.toNat g : Int)) ∨ (waysE R ≠ 0 ∧ e = chain (waysE R))) ∧ Below w.heap.size w w'

set_option maxRecDepth 100000 in
set_option maxHeartbeats 8000000 in
theorem rowsOf_any (R : Rdg) (w : World) (hrow : IsPcs w R.pa R.pc R.ps) (hbig : R.ps.length ≤ 1000000000) (hnm : ∀ x ∈ R.ps, x.name.size ≤ maxLen) :
    Calls Try.prog 52 #[.agg #[.int .i64 R.len, .int .i64 R.st, .int .i64 R.en, .slice R.pa R.ps.length R.pc]] w (RowsSaid R w) := by
  have k1 := (Blk.new w 24 #[.int .i64 R.len, .int .i64 R.st, .int .i64 R.en, .slice R.pa R.ps.length R.pc]).alloc (.cells #[.int .i64 0, .int .i64 0, .int .i64 0, .slice none 0 0, .pointer none] 67)
  have k2 := Blk.new (w.alloc (.cells #[.int .i64 R.len, .int .i64 R.st, .int .i64 R.en, .slice R.pa R.ps.length R.pc] 24)) 67 #[.int .i64 0, .int .i64 0, .int .i64 0, .slice none 0 0, .pointer none]
  have hb1 : Below w.heap.size w ((w.alloc (.cells #[.int .i64 R.len, .int .i64 R.st, .int .i64 R.en, .slice R.pa R.ps.length R.pc] 24)).alloc (.cells #[.int .i64 0, .int .i64 0, .int .i64 0, .slice none 0 0, .pointer none] 67)) := ((Below.refl _ w).alloc (Nat.le_refl _) _).alloc (by simp) _
  rw [World.size_alloc] at k2
  have HNM := Lib.hid hnm
  have HROW := Lib.hid hrow
  have HBG := Lib.hid hbig
  clear hrow hnm hbig
  go_enter Try.func52, Try.ntmps52
  go_upto_region 1 with fail
  generalize ((w.alloc (.cells #[.int .i64 R.len, .int .i64 R.st, .int .i64 R.en, .slice R.pa R.ps.length R.pc] 24)).alloc (.cells #[.int .i64 0, .int .i64 0, .int .i64 0, .slice none 0 0, .pointer none] 67)) = w1 at *
  have K1 := Lib.hid k1
  have K2 := Lib.hid k2
  have HB1 := Lib.hid hb1
  obtain ⟨r0, r1, r2, r3⟩ := rdg_cells (R := R) k1
  have hlr := k1.lt
  clear k1 k2 hb1
  go_wp2_with fail
  refine (requireRidge_any R _ (HROW.out.belowS HB1.out) HBG.out HNM.out).mono ?_
  rintro e W ⟨h, hb⟩
  have HB2 := Lib.hid (HB1.out.trans (hb.mono HB1.out.size))
  have KR := Lib.hid (K1.out.belowS hb)
  have KZ := Lib.hid (K2.out.belowS hb)
  clear r0 r1 r2 r3 hlr hb K1 K2
  rcases h with ⟨hE, rfl⟩ | ⟨hE, rfl⟩
  rotate_left
  · exact ⟨rfl, .inr ⟨by simp [waysE, hE], by simp [waysE, hE]⟩, HB2.out⟩
  have HE := Lib.hid hE
  have HOKR := Lib.hid (rdgE_ridge hE)
  clear hE
  obtain ⟨r0, r1, r2, r3⟩ := rdg_cells (R := R) KR.out
  have hlr := KR.out.lt
  have hmk : ∀ w', Below W.heap.size W w' → (Below W.heap.size W w' ∧ (w'.cell? ⟨w.heap.size, 0, none⟩ = some (.int .i64 R.len) ∧ w'.cell? ⟨w.heap.size, 1, none⟩ = some (.int .i64 R.st) ∧ w'.cell? ⟨w.heap.size, 2, none⟩ = some (.int .i64 R.en) ∧ w'.cell? ⟨w.heap.size, 3, none⟩ = some (.slice R.pa R.ps.length R.pc))) := fun w' h => ⟨h, (h.cell (p := ⟨w.heap.size, 0, none⟩) hlr).trans r0, (h.cell (p := ⟨w.heap.size, 1, none⟩) hlr).trans r1, (h.cell (p := ⟨w.heap.size, 2, none⟩) hlr).trans r2, (h.cell (p := ⟨w.heap.size, 3, none⟩) hlr).trans r3⟩
  have HMK := Lib.hid hmk
  clear r0 r1 r2 r3 hlr hmk
  go_wp2_with fail
  refine wp_region_E 4 (fun w' => Below W.heap.size W w' ∧ (w'.cell? ⟨w.heap.size, 0, none⟩ = some (.int .i64 R.len) ∧ w'.cell? ⟨w.heap.size, 1, none⟩ = some (.int .i64 R.st) ∧ w'.cell? ⟨w.heap.size, 2, none⟩ = some (.int .i64 R.en) ∧ w'.cell? ⟨w.heap.size, 3, none⟩ = some (.slice R.pa R.ps.length R.pc))) (by kernel_rfl) ?_
  have hx0 := HMK.out W.drew (Below.refl _ _).drew
  refine E_take (i := 0) (oi := _) (v := ?v1) rfl (by kernel_rfl) (by kernel_rfl) (by kernel_rfl) (by kernel_rfl) (fun _ _ _ h => h) hx0 (Or.inl ⟨by rfl, ?y1⟩) ?r1
  case y1 => (intro w' hSw; (try dsimp only at hSw); go_simp; try with_reducible rfl)
  try simp only [Act.put, List.getElem_toArray, List.getElem_cons_zero, List.getElem_cons_succ, List.setIfInBounds_toArray, List.set_cons_zero, List.set_cons_succ]
  refine E_take (i := 1) (oi := _) (v := ?v2) rfl (by kernel_rfl) (by kernel_rfl) (by kernel_rfl) (by kernel_rfl) (fun _ _ _ h => h) hx0 (Or.inl ⟨by rfl, ?y2⟩) ?r2
  case y2 => (intro w' hSw; (try dsimp only at hSw); go_simp; try with_reducible rfl)
  try simp only [Act.put, List.getElem_toArray, List.getElem_cons_zero, List.getElem_cons_succ, List.setIfInBounds_toArray, List.set_cons_zero, List.set_cons_succ]
  refine E_step (i := 2) (o := _) (by kernel_rfl) rfl (fun K hK => ?_)
  go_simp
  refine (count_of R _ HOKR.out (HROW.out.belowS (HB2.out.trans ((Below.refl _ W).drew.mono HB2.out.size)))).mono ?_
  rintro e w6 ⟨h, hb6⟩
  have hB6 := (Below.refl W.heap.size W).drew.trans hb6
  have HB6 := Lib.hid (HB2.out.trans (hB6.mono HB2.out.size))
  have hx6 := HMK.out w6 hB6
  rcases h with ⟨hM, B, f, rfl, hBB, hT, hf⟩ | ⟨hM, rfl⟩
  rotate_left
  · dsimp only
    have hv : waysE R = 3 := by simp [waysE, HE.out, waysN, hM]
    exact ⟨rfl, .inr ⟨by rw [hv]; decide, by rw [hv]⟩, HB6.out⟩
  dsimp only
  refine hK.out _ _ (fun h => hx6) ?_
  clear hK K
  try simp only [Act.put, List.getElem_toArray, List.getElem_cons_zero, List.getElem_cons_succ, List.setIfInBounds_toArray, List.set_cons_zero, List.set_cons_succ]
  refine E_take (i := 3) (oi := _) (v := ?v3) rfl (by kernel_rfl) (by kernel_rfl) (by kernel_rfl) (by kernel_rfl) (fun _ _ _ h => h) hx6 (Or.inl ⟨by rfl, ?y3⟩) ?r3
  case y3 => (intro w' hSw; (try dsimp only at hSw); go_simp; try with_reducible rfl)
  try simp only [Act.put, List.getElem_toArray, List.getElem_cons_zero, List.getElem_cons_succ, List.setIfInBounds_toArray, List.set_cons_zero, List.set_cons_succ]
  have kz := KZ.out.below hB6 KZ.out.lt
  have lz := kz.lt
  have z0 := kz.frozen 0
  have z1 := kz.frozen 1
  have z2 := kz.frozen 2
  have z3 := kz.frozen 3
  have z4 := kz.frozen 4
  obtain ⟨q0, q1, q2, q3, q4⟩ := (show w6.cell? ⟨w.heap.size + 1, 0, none⟩ = some (.int .i64 0) ∧ w6.cell? ⟨w.heap.size + 1, 1, none⟩ = some (.int .i64 0) ∧ w6.cell? ⟨w.heap.size + 1, 2, none⟩ = some (.int .i64 0) ∧ w6.cell? ⟨w.heap.size + 1, 3, none⟩ = some (.slice none 0 0) ∧ w6.cell? ⟨w.heap.size + 1, 4, none⟩ = some (.pointer none) from ⟨kz.cell 0, kz.cell 1, kz.cell 2, kz.cell 3, kz.cell 4⟩)
  have HX := Lib.hid hx6
  have HT := Lib.hid hT
  have HF := Lib.hid hf
  have KZ6 := Lib.hid kz
  have HM := Lib.hid hM
  clear hx6 hT hf kz hx0 hM
  refine E_step (i := 4) (o := _) (by kernel_rfl) rfl (fun K hK => ?_)
  go_simp
  refine hK.out _ _ (fun h => absurd rfl h) ?_
  clear hK K
  try simp only [Act.put, List.getElem_toArray, List.getElem_cons_zero, List.getElem_cons_succ, List.setIfInBounds_toArray, List.set_cons_zero, List.set_cons_succ]
  refine E_done (by kernel_rfl) ?_ _
  have kf := ((((KZ6.out.set 0 (.int .i64 R.len)).set 1 (.int .i64 R.st)).set 2 (.int .i64 R.en)).set 3 (.slice R.pa R.ps.length R.pc)).set 4 (.pointer (some ⟨B, 0, none⟩))
  have hne : B ≠ w.heap.size + 1 := by have := KZ.out.lt; have : W.drew.heap.size = W.heap.size := rfl; omega
  have htf : TabI (((((w6.setCell ⟨w.heap.size + 1, 0, none⟩ (.int .i64 R.len)).setCell ⟨w.heap.size + 1, 1, none⟩ (.int .i64 R.st)).setCell ⟨w.heap.size + 1, 2, none⟩ (.int .i64 R.en)).setCell ⟨w.heap.size + 1, 3, none⟩ (.slice R.pa R.ps.length R.pc)).setCell ⟨w.heap.size + 1, 4, none⟩ (.pointer (some ⟨B, 0, none⟩))) B f := by
    obtain ⟨cs, hk, hr⟩ := HT.out
    exact ⟨cs, ((((hk.other hne _).other hne _).other hne _).other hne _).other hne _, hr⟩
  have hbf : Below w.heap.size w (((((w6.setCell ⟨w.heap.size + 1, 0, none⟩ (.int .i64 R.len)).setCell ⟨w.heap.size + 1, 1, none⟩ (.int .i64 R.st)).setCell ⟨w.heap.size + 1, 2, none⟩ (.int .i64 R.en)).setCell ⟨w.heap.size + 1, 3, none⟩ (.slice R.pa R.ps.length R.pc)).setCell ⟨w.heap.size + 1, 4, none⟩ (.pointer (some ⟨B, 0, none⟩))) :=
    ((((HB6.out.setCell (p := ⟨w.heap.size + 1, 0, none⟩) (by simp) _).setCell (p := ⟨w.heap.size + 1, 1, none⟩) (by simp) _).setCell (p := ⟨w.heap.size + 1, 2, none⟩) (by simp) _).setCell (p := ⟨w.heap.size + 1, 3, none⟩) (by simp) _).setCell (p := ⟨w.heap.size + 1, 4, none⟩) (by simp) _
  generalize (((((w6.setCell ⟨w.heap.size + 1, 0, none⟩ (.int .i64 R.len)).setCell ⟨w.heap.size + 1, 1, none⟩ (.int .i64 R.st)).setCell ⟨w.heap.size + 1, 2, none⟩ (.int .i64 R.en)).setCell ⟨w.heap.size + 1, 3, none⟩ (.slice R.pa R.ps.length R.pc)).setCell ⟨w.heap.size + 1, 4, none⟩ (.pointer (some ⟨B, 0, none⟩))) = wf at *
  obtain ⟨g0, g1, g2, g3, g4⟩ := (show wf.cell? ⟨w.heap.size + 1, 0, none⟩ = some (.int .i64 R.len) ∧ wf.cell? ⟨w.heap.size + 1, 1, none⟩ = some (.int .i64 R.st) ∧ wf.cell? ⟨w.heap.size + 1, 2, none⟩ = some (.int .i64 R.en) ∧ wf.cell? ⟨w.heap.size + 1, 3, none⟩ = some (.slice R.pa R.ps.length R.pc) ∧ wf.cell? ⟨w.heap.size + 1, 4, none⟩ = some (.pointer (some ⟨B, 0, none⟩)) from ⟨kf.cell 0, kf.cell 1, kf.cell 2, kf.cell 3, kf.cell 4⟩)
  have hv : waysE R = 0 := by
    have := HM.out
    simp [waysE, HE.out, waysN]
    omega
  have HVW := Lib.hid hv
  clear hv kf
  go_wp2_with fail
  exact bodyPost_ret (v := .agg #[.int .i64 R.len, .int .i64 R.st, .int .i64 R.en, .slice R.pa R.ps.length R.pc, .pointer (some ⟨B, 0, none⟩)]) (by simp [results, Try.results52, go_sem, g0, g1, g2, g3, g4]) rfl ⟨.inl ⟨HVW.out, B, f, rfl, Nat.le_trans HB2.out.size hBB, htf, HF.out⟩, hbf⟩

set_option maxRecDepth 100000 in
set_option maxHeartbeats 8000000 in
theorem all_any (R : Rdg) (B : Nat) (f : Nat → Int) (w : World) (hR : R.ok) (hT : TabI w B f) :
    Calls Try.prog 53 #[.agg #[.int .i64 R.len, .int .i64 R.st, .int .i64 R.en, .slice R.pa R.ps.length R.pc, .pointer (some ⟨B, 0, none⟩)]] w fun e w' => e = .returned (.int .i64 (f R.top.ix)) ∧ Below w.heap.size w w' := by
  have k1 := Blk.new w 67 #[.int .i64 R.len, .int .i64 R.st, .int .i64 R.en, .slice R.pa R.ps.length R.pc, .pointer (some ⟨B, 0, none⟩)]
  have hb1 : Below w.heap.size w (w.alloc (.cells #[.int .i64 R.len, .int .i64 R.st, .int .i64 R.en, .slice R.pa R.ps.length R.pc, .pointer (some ⟨B, 0, none⟩)] 67)) := (Below.refl _ w).alloc (Nat.le_refl _) _
  have hT1 := hT.of_block (hb1.block _ hT.lt)
  have HTOP := Lib.hid hR.top
  have e1 : ((R.top.n : Nat) : Int) = R.len := by have := hR.1; simp only [Rdg.top]; omega
  have e2 : ((R.top.p : Nat) : Int) = R.st := by have := hR.2.1; simp only [Rdg.top]; omega
  have HAT := Lib.hid (show ∀ W, Calls Try.prog 84 #[.pointer (some ⟨B, 0, none⟩), .agg #[.int .i64 R.len, .int .i64 R.st]] W fun e w' => e = .returned (.pointer (some ⟨B, R.top.ix, none⟩)) ∧ Below W.heap.size W w' from fun W => by
    have := atI_any B R.top W hR.top
    rwa [e1, e2] at this)
  clear hT e1 e2 hR
  go_enter Try.func53, Try.ntmps53
  go_upto_region 1 with fail
  generalize w.alloc (.cells #[.int .i64 R.len, .int .i64 R.st, .int .i64 R.en, .slice R.pa R.ps.length R.pc, .pointer (some ⟨B, 0, none⟩)] 67) = W at *
  have HB1 := Lib.hid hb1
  have lk := k1.lt
  have lt := hT1.lt
  have hct := hT1.cell (ix_lt HTOP.out)
  obtain ⟨g0, g1, g2, g3, g4⟩ := (show W.cell? ⟨w.heap.size, 0, none⟩ = some (.int .i64 R.len) ∧ W.cell? ⟨w.heap.size, 1, none⟩ = some (.int .i64 R.st) ∧ W.cell? ⟨w.heap.size, 2, none⟩ = some (.int .i64 R.en) ∧ W.cell? ⟨w.heap.size, 3, none⟩ = some (.slice R.pa R.ps.length R.pc) ∧ W.cell? ⟨w.heap.size, 4, none⟩ = some (.pointer (some ⟨B, 0, none⟩)) from ⟨k1.cell 0, k1.cell 1, k1.cell 2, k1.cell 3, k1.cell 4⟩)
  have hmk : ∀ w', Below W.heap.size W w' → (Below W.heap.size W w' ∧ ((w'.cell? ⟨w.heap.size, 0, none⟩ = some (.int .i64 R.len) ∧ w'.cell? ⟨w.heap.size, 1, none⟩ = some (.int .i64 R.st) ∧ w'.cell? ⟨w.heap.size, 2, none⟩ = some (.int .i64 R.en) ∧ w'.cell? ⟨w.heap.size, 3, none⟩ = some (.slice R.pa R.ps.length R.pc) ∧ w'.cell? ⟨w.heap.size, 4, none⟩ = some (.pointer (some ⟨B, 0, none⟩))) ∧ w'.cell? ⟨B, R.top.ix, none⟩ = some (.int .i64 (f R.top.ix)))) := fun w' h => ⟨h, ⟨(h.cell (p := ⟨w.heap.size, 0, none⟩) lk).trans g0, (h.cell (p := ⟨w.heap.size, 1, none⟩) lk).trans g1, (h.cell (p := ⟨w.heap.size, 2, none⟩) lk).trans g2, (h.cell (p := ⟨w.heap.size, 3, none⟩) lk).trans g3, (h.cell (p := ⟨w.heap.size, 4, none⟩) lk).trans g4⟩, (h.cell (p := ⟨B, _, none⟩) lt).trans hct⟩
  have HMK := Lib.hid hmk
  clear k1 hb1 hT1 lk lt hct g0 g1 g2 g3 g4 hmk
  refine wp_region_E 9 (fun w' => Below W.heap.size W w' ∧ ((w'.cell? ⟨w.heap.size, 0, none⟩ = some (.int .i64 R.len) ∧ w'.cell? ⟨w.heap.size, 1, none⟩ = some (.int .i64 R.st) ∧ w'.cell? ⟨w.heap.size, 2, none⟩ = some (.int .i64 R.en) ∧ w'.cell? ⟨w.heap.size, 3, none⟩ = some (.slice R.pa R.ps.length R.pc) ∧ w'.cell? ⟨w.heap.size, 4, none⟩ = some (.pointer (some ⟨B, 0, none⟩))) ∧ w'.cell? ⟨B, R.top.ix, none⟩ = some (.int .i64 (f R.top.ix)))) (by kernel_rfl) ?_
  have hx0 := HMK.out W.drew (Below.refl _ _).drew
  refine E_takeR (i := 0) (oi := _) (v := ?v4) rfl (by kernel_rfl) (by kernel_rfl) (by kernel_rfl) (by decide) (fun _ _ _ h => h) hx0 (Or.inl ⟨by rfl, ?y4⟩) ?r4
  case y4 => (intro w' hSw; (try dsimp only at hSw); go_simp; try with_reducible rfl)
  try simp only [Act.put, List.getElem_toArray, List.getElem_cons_zero, List.getElem_cons_succ, List.setIfInBounds_toArray, List.set_cons_zero, List.set_cons_succ]
  refine E_takeR (i := 1) (oi := _) (v := ?v5) rfl (by kernel_rfl) (by kernel_rfl) (by kernel_rfl) (by decide) (fun _ _ _ h => h) hx0 (Or.inl ⟨by rfl, ?y5⟩) ?r5
  case y5 => (intro w' hSw; (try dsimp only at hSw); go_simp; try with_reducible rfl)
  try simp only [Act.put, List.getElem_toArray, List.getElem_cons_zero, List.getElem_cons_succ, List.setIfInBounds_toArray, List.set_cons_zero, List.set_cons_succ]
  refine E_takeR (i := 2) (oi := _) (v := ?v6) rfl (by kernel_rfl) (by kernel_rfl) (by kernel_rfl) (by decide) (fun _ _ _ h => h) hx0 (Or.inl ⟨by rfl, ?y6⟩) ?r6
  case y6 => (intro w' hSw; (try dsimp only at hSw); go_simp; try with_reducible rfl)
  try simp only [Act.put, List.getElem_toArray, List.getElem_cons_zero, List.getElem_cons_succ, List.setIfInBounds_toArray, List.set_cons_zero, List.set_cons_succ]
  refine E_takeR (i := 3) (oi := _) (v := ?v7) rfl (by kernel_rfl) (by kernel_rfl) (by kernel_rfl) (by decide) (fun _ _ _ h => h) hx0 (Or.inl ⟨by rfl, ?y7⟩) ?r7
  case y7 => (intro w' hSw; (try dsimp only at hSw); go_simp; try with_reducible rfl)
  try simp only [Act.put, List.getElem_toArray, List.getElem_cons_zero, List.getElem_cons_succ, List.setIfInBounds_toArray, List.set_cons_zero, List.set_cons_succ]
  refine E_step (i := 4) (o := _) (by kernel_rfl) rfl (fun K hK => ?_)
  go_simp
  refine (whole_any R _).mono ?_
  rintro e w6 ⟨rfl, hb6⟩
  dsimp only
  refine hK.out _ _ (fun h => HMK.out _ ((Below.refl _ W).drew.trans hb6)) ?_
  clear hK K
  try simp only [Act.put, List.getElem_toArray, List.getElem_cons_zero, List.getElem_cons_succ, List.setIfInBounds_toArray, List.set_cons_zero, List.set_cons_succ]
  have hB6 := (Below.refl W.heap.size W).drew.trans hb6
  refine E_step (i := 5) (o := _) (by kernel_rfl) rfl (fun K hK => ?_)
  go_simp
  refine (HAT.out _).mono ?_
  rintro e w8 ⟨rfl, hb8⟩
  dsimp only
  refine hK.out _ _ (fun h => HMK.out _ (hB6.trans (hb8.mono hB6.size))) ?_
  clear hK K
  try simp only [Act.put, List.getElem_toArray, List.getElem_cons_zero, List.getElem_cons_succ, List.setIfInBounds_toArray, List.set_cons_zero, List.set_cons_succ]
  have hB8 := hB6.trans (hb8.mono hB6.size)
  have hx8 := HMK.out w8 hB8
  refine E_takeR (i := 6) (oi := _) (v := ?v8) rfl (by kernel_rfl) (by kernel_rfl) (by kernel_rfl) (by decide) (fun _ _ _ h => h) hx8 (Or.inl ⟨by rfl, ?y8⟩) ?r8
  case y8 => (intro w' hSw; (try dsimp only at hSw); go_simp; try with_reducible rfl)
  try simp only [Act.put, List.getElem_toArray, List.getElem_cons_zero, List.getElem_cons_succ, List.setIfInBounds_toArray, List.set_cons_zero, List.set_cons_succ]
  refine E_takeR (i := 7) (oi := _) (v := ?v9) rfl (by kernel_rfl) (by kernel_rfl) (by kernel_rfl) (by decide) (fun _ _ _ h => h) hx8 (Or.inl ⟨by rfl, ?y9⟩) ?r9
  case y9 => (intro w' hSw; (try dsimp only at hSw); go_simp; try with_reducible rfl)
  try simp only [Act.put, List.getElem_toArray, List.getElem_cons_zero, List.getElem_cons_succ, List.setIfInBounds_toArray, List.set_cons_zero, List.set_cons_succ]
  refine E_step (i := 8) (o := _) (by kernel_rfl) rfl (fun K hK => ?_)
  go_simp
  refine hK.out _ _ (fun h => hx8) ?_
  clear hK K
  try simp only [Act.put, List.getElem_toArray, List.getElem_cons_zero, List.getElem_cons_succ, List.setIfInBounds_toArray, List.set_cons_zero, List.set_cons_succ]
  refine E_done (by kernel_rfl) ?_ _
  have HBF := Lib.hid (HB1.out.trans (hB8.mono HB1.out.size))
  clear hx0 hx8
  go_wp2_with fail
  go_ret
  exact ⟨rfl, HBF.out⟩

/-! ### Ways and Check -/
set_option maxHeartbeats 4000000 in
theorem waysIn_any (P : Nat) (R : Rdg) (w : World) (k : Blk w P #[.int .i64 R.len, .int .i64 R.st, .int .i64 R.en, .slice R.pa R.ps.length R.pc] 24) (hrow : IsPcs w R.pa R.pc R.ps) (hbig : R.ps.length ≤ 1000000000) (hnm : ∀ x ∈ R.ps, x.name.size ≤ maxLen) :
    Calls Try.prog 51 #[.pointer (some ⟨P, 0, none⟩)] w (IntDone (waysE R) (waysN R : Int) w) := by
  have HRO := Lib.hid (rowsOf_any R w hrow hbig hnm)
  obtain ⟨r0, r1, r2, r3⟩ := rdg_cells (R := R) k
  have hlr := k.lt
  clear k hrow hbig hnm
  go_enter Try.func51, Try.ntmps51
  go_wp2_with fail
  refine HRO.out.mono ?_
  rintro e w1 ⟨⟨hE, B, f, rfl, hB, hT, hf⟩ | ⟨hE, rfl⟩, hb⟩
  rotate_left
  · exact ⟨rfl, .inr ⟨hE, rfl⟩, hb⟩
  have HB := Lib.hid hb
  have HV := Lib.hid (And.intro hE (hf _ .top))
  have HAL := Lib.hid (all_any R B f w1 (rdgE_ridge (waysE_zero hE).1) hT)
  clear hE hf hT hb hB r0 r1 r2 r3 hlr HRO
  go_wp2_with fail
  refine HAL.out.mono ?_
  rintro e w2 ⟨rfl, hb2⟩
  have HB2 := Lib.hid (HB.out.trans (hb2.mono HB.out.size))
  clear hb2 HAL
  go_wp2_with fail
  go_ret
  exact ⟨.inl ⟨HV.out.1, by rw [HV.out.2]; rfl⟩, HB2.out⟩

set_option maxHeartbeats 4000000 in
theorem ways_any (R : Rdg) (w : World) (hrow : IsPcs w R.pa R.pc R.ps) (hbig : R.ps.length ≤ 1000000000) (hnm : ∀ x ∈ R.ps, x.name.size ≤ maxLen) :
    Calls Try.prog 22 #[.agg #[.int .i64 R.len, .int .i64 R.st, .int .i64 R.en, .slice R.pa R.ps.length R.pc]] w fun e w' => e = .returned (.tuple #[.int .i64 (endI (waysE R) (waysN R : Int)), .int .i64 (waysE R)]) ∧ Below w.heap.size w w' := by
  have hmf : ∀ (fn : Fn) (first cap : Array Value) (w : World), (Instr.makeFunc fn first cap).run Try.prog w = .ok (.func fn first cap) w := fun _ _ _ _ => rfl
  have k1 := Blk.new w 24 #[.int .i64 R.len, .int .i64 R.st, .int .i64 R.en, .slice R.pa R.ps.length R.pc]
  have hb1 : Below w.heap.size w (w.alloc (.cells #[.int .i64 R.len, .int .i64 R.st, .int .i64 R.en, .slice R.pa R.ps.length R.pc] 24)) := (Below.refl _ w).alloc (Nat.le_refl _) _
  have HA := Lib.hid (answerInt_any 51 #[.pointer (some ⟨w.heap.size, 0, none⟩)] (waysE R) (waysN R : Int) (w.alloc (.cells #[.int .i64 R.len, .int .i64 R.st, .int .i64 R.en, .slice R.pa R.ps.length R.pc] 24)) (run_enter Try.func51 (by kernel_rfl) rfl)
    (fun w1 h => waysIn_any _ R w1 (k1.belowS h) (hrow.belowS (hb1.trans (h.mono hb1.size))) hbig hnm))
  have HB1 := Lib.hid hb1
  clear k1 hb1 hrow hbig hnm
  go_enter Try.func22, Try.ntmps22
  go_wp2_with fail
  refine HA.out.mono ?_
  rintro e w2 ⟨rfl, hb⟩
  have HB2 := Lib.hid (HB1.out.trans (hb.mono HB1.out.size))
  clear hb HA
  go_wp2_with fail
  go_ret2
  exact ⟨rfl, HB2.out⟩

set_option maxHeartbeats 4000000 in
theorem checkIn_any (P : Nat) (R : Rdg) (w : World) (k : Blk w P #[.int .i64 R.len, .int .i64 R.st, .int .i64 R.en, .slice R.pa R.ps.length R.pc] 24) (hrow : IsPcs w R.pa R.pc R.ps) (hbig : R.ps.length ≤ 1000000000) (hnm : ∀ x ∈ R.ps, x.name.size ≤ maxLen) :
    Calls Try.prog 45 #[.pointer (some ⟨P, 0, none⟩)] w (Tried (rdgE R) (fun _ => False) (fun _ => True) w) := by
  have HRO := Lib.hid (requireRidge_any R w hrow hbig hnm)
  obtain ⟨r0, r1, r2, r3⟩ := rdg_cells (R := R) k
  have hlr := k.lt
  clear k hrow hbig hnm
  go_enter Try.func45, Try.ntmps45
  go_wp2_with fail
  refine HRO.out.mono ?_
  rintro e w1 ⟨⟨hE, rfl⟩ | ⟨hE, rfl⟩, hb⟩
  · have HE := Lib.hid hE
    have HB := Lib.hid hb
    clear hE hb r0 r1 r2 r3 hlr
    go_wp2_with fail
    go_end0
    exact ⟨.inl ⟨HE.out, rfl⟩, trivial, Turn.of_below HB.out⟩
  · exact ⟨rfl, .inr ⟨hE, rfl⟩, trivial, Turn.of_below hb⟩
set_option maxHeartbeats 4000000 in
theorem check_any (R : Rdg) (w : World) (hrow : IsPcs w R.pa R.pc R.ps) (hbig : R.ps.length ≤ 1000000000) (hnm : ∀ x ∈ R.ps, x.name.size ≤ maxLen) :
    Calls Try.prog 17 #[.agg #[.int .i64 R.len, .int .i64 R.st, .int .i64 R.en, .slice R.pa R.ps.length R.pc]] w fun e w' => e = .returned (.int .i64 (rdgE R)) ∧ Below w.heap.size w w' := by
  have hmf : ∀ (fn : Fn) (first cap : Array Value) (w : World), (Instr.makeFunc fn first cap).run Try.prog w = .ok (.func fn first cap) w := fun _ _ _ _ => rfl
  have k1 := Blk.new w 24 #[.int .i64 R.len, .int .i64 R.st, .int .i64 R.en, .slice R.pa R.ps.length R.pc]
  have hb1 : Below w.heap.size w (w.alloc (.cells #[.int .i64 R.len, .int .i64 R.st, .int .i64 R.en, .slice R.pa R.ps.length R.pc] 24)) := (Below.refl _ w).alloc (Nat.le_refl _) _
  have HA := Lib.hid (of_any 45 #[.pointer (some ⟨w.heap.size, 0, none⟩)] (rdgE R) (fun _ => False) (fun _ => True) (w.alloc (.cells #[.int .i64 R.len, .int .i64 R.st, .int .i64 R.en, .slice R.pa R.ps.length R.pc] 24)) (run_enter Try.func45 (by kernel_rfl) rfl) (fun _ h => h.elim)
    (fun w1 h _ => checkIn_any _ R w1 (k1.belowS h) (hrow.belowS (hb1.trans (h.mono hb1.size))) hbig hnm))
  have HB1 := Lib.hid hb1
  clear k1 hb1 hrow hbig hnm
  go_enter Try.func17, Try.ntmps17
  go_wp2_with fail
  refine HA.out.mono ?_
  rintro e w2 ⟨rfl, _, ht⟩
  have HB2 := Lib.hid (HB1.out.trans (ht.below (base := w.heap.size) HB1.out.size (fun k e => e.elim)))
  clear ht HA
  go_wp2_with fail
  go_ret
  exact ⟨rfl, HB2.out⟩
end Go.Proofs.Ytmcmhgjlpffcnaa
