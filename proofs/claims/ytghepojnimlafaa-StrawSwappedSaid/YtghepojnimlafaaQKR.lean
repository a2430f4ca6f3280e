/- Do: the store behind a chore, or an error. Chores one behind the other: mathematics, chores in memory, how many parts there are. A chore makes few parts more. Mathematics of heaps that are set, taken out, put behind, and whose first loads are gone. -/
import Derived.Test.YtghepojnimlafaaQKH
import Derived.Test.YtghepojnimlafaaQKQ
import Derived.Deep.RegionHeld3
import Derived.Deep.DeepCutAuto
import Derived.Test.YtghepojnimlafaaQJR
import Derived.Test.YtghepojnimlafaaQGO
namespace Go.Proofs.Ytghepojnimlafaa
section
set_option linter.unusedSimpArgs false
open Go.RowKit

/-- What Do returns: the store behind the chore, or an error and no store. -/
def DoSaid (F : Frm) (S : Sto) (a : Chr) (w : World) (e : Ending) (w' : World) : Prop :=
  (∃ T, e = .returned (.tuple #[stoV T, .int .i64 (doD F S a).1]) ∧ OwnSto w.heap.size w' T ∧ SameSto T (if (doD F S a).1 = 0 then (doD F S a).2 else emptyS)) ∧ Below w.heap.size w w'
theorem doD_step {F : Frm} {S : Sto} {a : Chr} (h : storeE F S = 0) : doD F S a = stepD F S a := by unfold doD stepD; rw [if_neg (by simp [h])]
theorem doD_err {F : Frm} {S : Sto} {a : Chr} (h : ¬ storeE F S = 0) : doD F S a = (storeE F S, S) := by unfold doD; rw [if_pos h]

set_option maxRecDepth 100000 in
set_option maxHeartbeats 8000000 in
theorem doBody_any (F : Frm) (S : Sto) (a : Chr) (p q r : Nat) (w : World) (kF : Blk w p #[.slice F.pa F.ps.length F.pc, .int .i64 F.dry] 24) (kS : Blk w q (stoC S) 45) (kA : Blk w r (chrC a) 40)
    (hF : IsFarm w F) (hS : IsStore w S) (hE : storeE F S = 0) (hfit : S.fit) (hnm : a.name.size ≤ maxLen) (hno : a.other.size ≤ maxLen) :
    Calls Try.prog 30 #[.pointer (some ⟨p, 0, none⟩), .pointer (some ⟨q, 0, none⟩), .pointer (some ⟨r, 0, none⟩)] w (DoneSaid (stepD F S a).1 (stepD F S a).2 w) := by
  have kR := Blk.new w 45 zeroS
  have hb1 : Below w.heap.size w (w.alloc (.cells zeroS 45)) := (Below.refl _ w).alloc (Nat.le_refl _) _
  have HSZ := Lib.hid (World.size_alloc w (.cells zeroS 45))
  have KF2 := Lib.hid (kF.belowS hb1)
  have KS2 := Lib.hid (kS.belowS hb1)
  have KA2 := Lib.hid (kA.belowS hb1)
  have HF := Lib.hid hF
  have HS := Lib.hid hS
  have HFIT := Lib.hid hfit
  have HE := Lib.hid hE
  clear kF kS kA hF hS hfit hE
  go_enter Try.func30, Try.ntmps30
  go_upto_region 1 with fail
  generalize w.alloc (.cells zeroS 45) = w2 at *
  have HB2 := Lib.hid hb1
  have KR := Lib.hid kR
  clear kR hb1
  have hyr := years_ok HE.out
  obtain ⟨hs1, hs2, _⟩ := store_ok HE.out
  have hcp : ∀ w', Below w2.heap.size w2 w' → Calls Try.prog 16 #[.agg #[.int .i64 S.year, .slice S.la S.last.length S.lc, .slice S.ga S.given.length S.gc, .slice S.ha S.heaps.length S.hc, .slice S.ua S.used.length S.uc, .slice S.wa S.waste.length S.wc]] w' fun e w'' => (∃ T, e = .returned (stoV T) ∧ OwnSto w'.heap.size w'' T ∧ SameSto T S) ∧ Below w'.heap.size w' w'' :=
    fun w' hb => copyStore_any S w' (HS.out.below (HB2.out.trans (hb.mono HB2.out.size))) HFIT.out (by omega) (by omega)
  have hstep : ∀ w', Below w2.heap.size w2 w' → (fun w' : World => Below w2.heap.size w2 w' ∧ (w'.cell? ⟨p, 0, none⟩ = some (.slice F.pa F.ps.length F.pc) ∧ w'.cell? ⟨p, 1, none⟩ = some (.int .i64 F.dry) ∧ w'.cell? ⟨q, 0, none⟩ = some (.int .i64 S.year) ∧ w'.cell? ⟨q, 1, none⟩ = some (.slice S.la S.last.length S.lc) ∧ w'.cell? ⟨q, 2, none⟩ = some (.slice S.ga S.given.length S.gc) ∧ w'.cell? ⟨q, 3, none⟩ = some (.slice S.ha S.heaps.length S.hc) ∧ w'.cell? ⟨q, 4, none⟩ = some (.slice S.ua S.used.length S.uc) ∧ w'.cell? ⟨q, 5, none⟩ = some (.slice S.wa S.waste.length S.wc))) w' := fun w' hb => by
    have k0 := KF2.out.belowS hb
    have k1 := KS2.out.belowS hb
    exact ⟨hb, k0.cell 0, k0.cell 1, k1.cell 0, k1.cell 1, k1.cell 2, k1.cell 3, k1.cell 4, k1.cell 5⟩
  have HCP := Lib.hid hcp
  have HST := Lib.hid hstep
  have hx := hstep w2.drew ((Below.refl _ w2).drew)
  clear hcp hstep hyr hs1 hs2
  go_cut [4] from 5 to 8 (fun b wx => ∃ (B : Nat) (T : Sto), b = .pointer (some ⟨B, 0, none⟩) ∧ Hand F w2.heap.size B wx T T ∧ SameSto T S ∧ Below w2.heap.size w2 wx)
  case first =>
    refine wp_region_noPanic ?_
    refine wp_region_E 5 (fun w' : World => Below w2.heap.size w2 w' ∧ (w'.cell? ⟨p, 0, none⟩ = some (.slice F.pa F.ps.length F.pc) ∧ w'.cell? ⟨p, 1, none⟩ = some (.int .i64 F.dry) ∧ w'.cell? ⟨q, 0, none⟩ = some (.int .i64 S.year) ∧ w'.cell? ⟨q, 1, none⟩ = some (.slice S.la S.last.length S.lc) ∧ w'.cell? ⟨q, 2, none⟩ = some (.slice S.ga S.given.length S.gc) ∧ w'.cell? ⟨q, 3, none⟩ = some (.slice S.ha S.heaps.length S.hc) ∧ w'.cell? ⟨q, 4, none⟩ = some (.slice S.ua S.used.length S.uc) ∧ w'.cell? ⟨q, 5, none⟩ = some (.slice S.wa S.waste.length S.wc))) (by kernel_rfl) ?_
    refine E_take (i := 0) (oi := _) (v := ?v63) rfl (by kernel_rfl) (by kernel_rfl) (by kernel_rfl) (by kernel_rfl) (fun _ _ _ h => h) hx (Or.inl ⟨by rfl, ?y63⟩) ?r63
    case y63 => (intro w' hSw; (try dsimp only at hSw); go_simp; try with_reducible rfl)
    try simp only [Act.put, List.getElem_toArray, List.getElem_cons_zero, List.getElem_cons_succ, List.setIfInBounds_toArray, List.set_cons_zero, List.set_cons_succ]
    refine E_take (i := 1) (oi := _) (v := ?v64) rfl (by kernel_rfl) (by kernel_rfl) (by kernel_rfl) (by kernel_rfl) (fun _ _ _ h => h) hx (Or.inl ⟨by rfl, ?y64⟩) ?r64
    case y64 => (intro w' hSw; (try dsimp only at hSw); go_simp; try with_reducible rfl)
    try simp only [Act.put, List.getElem_toArray, List.getElem_cons_zero, List.getElem_cons_succ, List.setIfInBounds_toArray, List.set_cons_zero, List.set_cons_succ]
    refine E_step2 (i := 2) (i' := 4) (o := _) (o' := _) (by kernel_rfl) rfl rfl (fun K hK => ?_) (fun K hK => ?_)
    · go_simp
      refine (HCP.out _ hx.1).mono ?_
      rintro r w5 ⟨⟨T, rfl, hoT, hsT⟩, hb5⟩
      dsimp only
      have hb5' : Below w2.heap.size w2 w5 := hx.1.trans (hb5.mono hx.1.size)
      have hx5 := HST.out w5 hb5'
      refine hK.out _ _ (fun _ => hx5) ?_
      clear hK K
      try simp only [Act.put, List.getElem_toArray, List.getElem_cons_zero, List.getElem_cons_succ, List.setIfInBounds_toArray, List.set_cons_zero, List.set_cons_succ]
      refine E_take (i := 3) (oi := _) (v := ?v62) rfl (by kernel_rfl) (by kernel_rfl) (by kernel_rfl) (by kernel_rfl) (fun _ _ _ h => h) hx5 (Or.inl ⟨by rfl, ?y62⟩) ?r62
      case y62 => (intro w' hSw; (try dsimp only at hSw); go_simp; try with_reducible rfl)
      try simp only [Act.put, List.getElem_toArray, List.getElem_cons_zero, List.getElem_cons_succ, List.setIfInBounds_toArray, List.set_cons_zero, List.set_cons_succ]
      refine E_step (i := 4) (o := _) (by kernel_rfl) rfl (fun K hK => ?_)
      go_simp
      have hbB : Below w2.heap.size w2 (w5.alloc (.cells #[.slice none 0 0, .int .i64 0, .int .i64 0, .slice none 0 0, .slice none 0 0, .slice none 0 0, .slice none 0 0, .slice none 0 0] 83)) := hb5'.alloc hb5'.size _
      refine hK.out _ _ (fun _ => HST.out _ hbB) ?_
      clear hK K
      try simp only [Act.put, List.getElem_toArray, List.getElem_cons_zero, List.getElem_cons_succ, List.setIfInBounds_toArray, List.set_cons_zero, List.set_cons_succ]
      refine E_step (i := 5) (o := _) (by kernel_rfl) rfl (fun K hK => ?_)
      go_simp
      refine hK.out _ _ (fun h => absurd rfl h) ?_
      clear hK K
      try simp only [Act.put, List.getElem_toArray, List.getElem_cons_zero, List.getElem_cons_succ, List.setIfInBounds_toArray, List.set_cons_zero, List.set_cons_succ]
      refine E_done (by kernel_rfl) ?_ _
      refine NoPanic.normal ?_
      have kB := Blk.new w5 83 (handC F T)
      have hbF : Below w2.heap.size w2 (w5.alloc (.cells (handC F T) 83)) := hb5'.alloc hb5'.size _
      have hH : Hand F w2.heap.size w5.heap.size (w5.alloc (.cells (handC F T) 83)) T T :=
        ⟨kB, (hoT.mono (show w2.heap.size ≤ w2.drew.heap.size from Nat.le_refl _)).below ((Below.refl _ w5).alloc (Nat.le_refl _) _), fun hk => Nat.lt_irrefl _ (hoT.ge _ hk).2, hb5'.size, rfl, rfl, rfl⟩
      have HHX := Lib.hid hH
      have HBX := Lib.hid hbF
      have HSX := Lib.hid hsT
      clear hx hx5 hb5 hb5' hbB hoT hsT kB hH hbF
      go_wp2_with fail
      go_meet
      exact ⟨_, T, rfl, HHX.out, HSX.out, HBX.out⟩
    · go_simp
      have hbB : Below w2.heap.size w2 (w2.drew.alloc (.cells #[.slice none 0 0, .int .i64 0, .int .i64 0, .slice none 0 0, .slice none 0 0, .slice none 0 0, .slice none 0 0, .slice none 0 0] 83)) := hx.1.alloc hx.1.size _
      have kB := Blk.new w2.drew 83 #[.slice none 0 0, .int .i64 0, .int .i64 0, .slice none 0 0, .slice none 0 0, .slice none 0 0, .slice none 0 0, .slice none 0 0]
      refine hK.out _ _ (fun _ => HST.out _ hbB) ?_
      clear hK K
      try simp only [Act.put, List.getElem_toArray, List.getElem_cons_zero, List.getElem_cons_succ, List.setIfInBounds_toArray, List.set_cons_zero, List.set_cons_succ]
      refine E_step (i := 2) (o := _) (by kernel_rfl) rfl (fun K hK => ?_)
      go_simp
      refine (HCP.out _ hbB).mono ?_
      rintro r w5 ⟨⟨T, rfl, hoT, hsT⟩, hb5⟩
      dsimp only
      have hb5' : Below w2.heap.size w2 w5 := hbB.trans (hb5.mono hbB.size)
      have kB5 := kB.belowS hb5
      have hx5 := HST.out w5 hb5'
      refine hK.out _ _ (fun _ => hx5) ?_
      clear hK K
      try simp only [Act.put, List.getElem_toArray, List.getElem_cons_zero, List.getElem_cons_succ, List.setIfInBounds_toArray, List.set_cons_zero, List.set_cons_succ]
      refine E_take (i := 3) (oi := _) (v := ?v65) rfl (by kernel_rfl) (by kernel_rfl) (by kernel_rfl) (by kernel_rfl) (fun _ _ _ h => h) hx5 (Or.inl ⟨by rfl, ?y65⟩) ?r65
      case y65 => (intro w' hSw; (try dsimp only at hSw); go_simp; try with_reducible rfl)
      try simp only [Act.put, List.getElem_toArray, List.getElem_cons_zero, List.getElem_cons_succ, List.setIfInBounds_toArray, List.set_cons_zero, List.set_cons_succ]
      obtain ⟨q0, q1, q2, q3, q4, q5, q6, q7⟩ := (show w5.cell? ⟨w2.heap.size, 0, none⟩ = some (.slice none 0 0) ∧ w5.cell? ⟨w2.heap.size, 1, none⟩ = some (.int .i64 0) ∧ w5.cell? ⟨w2.heap.size, 2, none⟩ = some (.int .i64 0) ∧ w5.cell? ⟨w2.heap.size, 3, none⟩ = some (.slice none 0 0) ∧ w5.cell? ⟨w2.heap.size, 4, none⟩ = some (.slice none 0 0) ∧ w5.cell? ⟨w2.heap.size, 5, none⟩ = some (.slice none 0 0) ∧ w5.cell? ⟨w2.heap.size, 6, none⟩ = some (.slice none 0 0) ∧ w5.cell? ⟨w2.heap.size, 7, none⟩ = some (.slice none 0 0) from ⟨kB5.cell 0, kB5.cell 1, kB5.cell 2, kB5.cell 3, kB5.cell 4, kB5.cell 5, kB5.cell 6, kB5.cell 7⟩)
      obtain ⟨r0, r1, r2, r3, r4, r5, r6, r7⟩ := (show w5.frozen? ⟨w2.heap.size, 0, none⟩ = false ∧ w5.frozen? ⟨w2.heap.size, 1, none⟩ = false ∧ w5.frozen? ⟨w2.heap.size, 2, none⟩ = false ∧ w5.frozen? ⟨w2.heap.size, 3, none⟩ = false ∧ w5.frozen? ⟨w2.heap.size, 4, none⟩ = false ∧ w5.frozen? ⟨w2.heap.size, 5, none⟩ = false ∧ w5.frozen? ⟨w2.heap.size, 6, none⟩ = false ∧ w5.frozen? ⟨w2.heap.size, 7, none⟩ = false from ⟨kB5.frozen 0, kB5.frozen 1, kB5.frozen 2, kB5.frozen 3, kB5.frozen 4, kB5.frozen 5, kB5.frozen 6, kB5.frozen 7⟩)
      refine E_step (i := 5) (o := _) (by kernel_rfl) rfl (fun K hK => ?_)
      go_simp
      refine hK.out _ _ (fun h => absurd rfl h) ?_
      clear hK K
      try simp only [Act.put, List.getElem_toArray, List.getElem_cons_zero, List.getElem_cons_succ, List.setIfInBounds_toArray, List.set_cons_zero, List.set_cons_succ]
      refine E_done (by kernel_rfl) ?_ _
      refine NoPanic.normal ?_
      have kF9 : Blk ((((((((w5.setCell ⟨w2.heap.size, 0, none⟩ (.slice F.pa F.ps.length F.pc)).setCell ⟨w2.heap.size, 1, none⟩ (.int .i64 F.dry)).setCell ⟨w2.heap.size, 2, none⟩ (.int .i64 T.year)).setCell ⟨w2.heap.size, 3, none⟩ (.slice T.la T.last.length T.lc)).setCell ⟨w2.heap.size, 4, none⟩ (.slice T.ga T.given.length T.gc)).setCell ⟨w2.heap.size, 5, none⟩ (.slice T.ha T.heaps.length T.hc)).setCell ⟨w2.heap.size, 6, none⟩ (.slice T.ua T.used.length T.uc)).setCell ⟨w2.heap.size, 7, none⟩ (.slice T.wa T.waste.length T.wc)) w2.heap.size (handC F T) 83 := ((((((((kB5.set 0 (.slice F.pa F.ps.length F.pc)).set 1 (.int .i64 F.dry)).set 2 (.int .i64 T.year)).set 3 (.slice T.la T.last.length T.lc)).set 4 (.slice T.ga T.given.length T.gc)).set 5 (.slice T.ha T.heaps.length T.hc)).set 6 (.slice T.ua T.used.length T.uc)).set 7 (.slice T.wa T.waste.length T.wc))
      have hT9 : Turn (fun k => k = w2.heap.size) w5 ((((((((w5.setCell ⟨w2.heap.size, 0, none⟩ (.slice F.pa F.ps.length F.pc)).setCell ⟨w2.heap.size, 1, none⟩ (.int .i64 F.dry)).setCell ⟨w2.heap.size, 2, none⟩ (.int .i64 T.year)).setCell ⟨w2.heap.size, 3, none⟩ (.slice T.la T.last.length T.lc)).setCell ⟨w2.heap.size, 4, none⟩ (.slice T.ga T.given.length T.gc)).setCell ⟨w2.heap.size, 5, none⟩ (.slice T.ha T.heaps.length T.hc)).setCell ⟨w2.heap.size, 6, none⟩ (.slice T.ua T.used.length T.uc)).setCell ⟨w2.heap.size, 7, none⟩ (.slice T.wa T.waste.length T.wc)) := (((((((((Turn.of_below (X := fun k => k = w2.heap.size) (Below.refl _ w5)).setCell (B := w2.heap.size) rfl 0 (.slice F.pa F.ps.length F.pc)).setCell (B := w2.heap.size) rfl 1 (.int .i64 F.dry)).setCell (B := w2.heap.size) rfl 2 (.int .i64 T.year)).setCell (B := w2.heap.size) rfl 3 (.slice T.la T.last.length T.lc)).setCell (B := w2.heap.size) rfl 4 (.slice T.ga T.given.length T.gc)).setCell (B := w2.heap.size) rfl 5 (.slice T.ha T.heaps.length T.hc)).setCell (B := w2.heap.size) rfl 6 (.slice T.ua T.used.length T.uc)).setCell (B := w2.heap.size) rfl 7 (.slice T.wa T.waste.length T.wc))
      have hbF : Below w2.heap.size w2 ((((((((w5.setCell ⟨w2.heap.size, 0, none⟩ (.slice F.pa F.ps.length F.pc)).setCell ⟨w2.heap.size, 1, none⟩ (.int .i64 F.dry)).setCell ⟨w2.heap.size, 2, none⟩ (.int .i64 T.year)).setCell ⟨w2.heap.size, 3, none⟩ (.slice T.la T.last.length T.lc)).setCell ⟨w2.heap.size, 4, none⟩ (.slice T.ga T.given.length T.gc)).setCell ⟨w2.heap.size, 5, none⟩ (.slice T.ha T.heaps.length T.hc)).setCell ⟨w2.heap.size, 6, none⟩ (.slice T.ua T.used.length T.uc)).setCell ⟨w2.heap.size, 7, none⟩ (.slice T.wa T.waste.length T.wc)) := ((((((((hb5'.setCell (p := ⟨w2.heap.size, 0, none⟩) (Nat.le_refl _) (.slice F.pa F.ps.length F.pc)).setCell (p := ⟨w2.heap.size, 1, none⟩) (Nat.le_refl _) (.int .i64 F.dry)).setCell (p := ⟨w2.heap.size, 2, none⟩) (Nat.le_refl _) (.int .i64 T.year)).setCell (p := ⟨w2.heap.size, 3, none⟩) (Nat.le_refl _) (.slice T.la T.last.length T.lc)).setCell (p := ⟨w2.heap.size, 4, none⟩) (Nat.le_refl _) (.slice T.ga T.given.length T.gc)).setCell (p := ⟨w2.heap.size, 5, none⟩) (Nat.le_refl _) (.slice T.ha T.heaps.length T.hc)).setCell (p := ⟨w2.heap.size, 6, none⟩) (Nat.le_refl _) (.slice T.ua T.used.length T.uc)).setCell (p := ⟨w2.heap.size, 7, none⟩) (Nat.le_refl _) (.slice T.wa T.waste.length T.wc))
      generalize ((((((((w5.setCell ⟨w2.heap.size, 0, none⟩ (.slice F.pa F.ps.length F.pc)).setCell ⟨w2.heap.size, 1, none⟩ (.int .i64 F.dry)).setCell ⟨w2.heap.size, 2, none⟩ (.int .i64 T.year)).setCell ⟨w2.heap.size, 3, none⟩ (.slice T.la T.last.length T.lc)).setCell ⟨w2.heap.size, 4, none⟩ (.slice T.ga T.given.length T.gc)).setCell ⟨w2.heap.size, 5, none⟩ (.slice T.ha T.heaps.length T.hc)).setCell ⟨w2.heap.size, 6, none⟩ (.slice T.ua T.used.length T.uc)).setCell ⟨w2.heap.size, 7, none⟩ (.slice T.wa T.waste.length T.wc)) = w9 at *
      have hge : ∀ k ∈ rowsOf T, w2.heap.size + 1 ≤ k := fun k hk => by have := (hoT.ge k hk).1; rw [World.size_alloc] at this; exact this
      have hH : Hand F w2.heap.size w2.heap.size w9 T T :=
        ⟨kF9, (hoT.mono (by rw [World.size_alloc]; exact Nat.le_succ _)).turn hT9 (fun k e hk => by have := hge k hk; have := (show k = w2.heap.size from e); omega), fun hk => by have := hge _ hk; omega, Nat.le_refl _, rfl, rfl, rfl⟩
      have HHX := Lib.hid hH
      have HBX := Lib.hid hbF
      have HSX := Lib.hid hsT
      clear hx hx5 hb5 hb5' hbB hoT hsT kB kB5 hH hbF hT9 kF9 hge q0 q1 q2 q3 q4 q5 q6 q7 r0 r1 r2 r3 r4 r5 r6 r7
      go_wp2_with fail
      go_meet
      exact ⟨_, T, rfl, HHX.out, HSX.out, HBX.out⟩
  case rest =>
  obtain ⟨B, T, rfl, hH, hST, hbx⟩ := hcut
  obtain ⟨w6, rfl⟩ : ∃ w6 : World, w6 = wc := ⟨_, rfl⟩
  have hET : storeE F T = 0 := by rw [same_storeE hST]; exact HE.out
  have hfT := same_fit hST HFIT.out
  have hF6 := HF.out.below (HB2.out.trans (hbx.mono HB2.out.size))
  have kA6 := KA2.out.belowS hbx
  have k16 := KR.out.belowS hbx
  have hdo := do_any F T a w2.heap.size B w6 hH hET hfT hbx.size hF6 hnm hno
  have hsD := same_do (F := F) hST a
  rw [doD_step hET, doD_step HE.out] at hsD
  have hHl := hH.le
  unfold chrC at hdo
  have l6 : r < w6.heap.size := kA6.lt
  obtain ⟨a0, a1, a2, a3, a4, a5, a6, a7, a8⟩ := (show w6.cell? ⟨r, 0, none⟩ = some (.int .i64 a.kind) ∧ w6.cell? ⟨r, 1, none⟩ = some (.int .i64 a.plot) ∧ w6.cell? ⟨r, 2, none⟩ = some (.int .i64 a.loads) ∧ w6.cell? ⟨r, 3, none⟩ = some (.string a.name) ∧ w6.cell? ⟨r, 4, none⟩ = some (.string a.other) ∧ w6.cell? ⟨r, 5, none⟩ = some (.int .i64 a.days) ∧ w6.cell? ⟨r, 6, none⟩ = some (.int .i64 a.per) ∧ w6.cell? ⟨r, 7, none⟩ = some (.int .i64 a.rlo) ∧ w6.cell? ⟨r, 8, none⟩ = some (.int .i64 a.rhi) from ⟨kA6.cell 0, kA6.cell 1, kA6.cell 2, kA6.cell 3, kA6.cell 4, kA6.cell 5, kA6.cell 6, kA6.cell 7, kA6.cell 8⟩)
  have HDO := Lib.hid hdo
  have HSD := Lib.hid hsD
  have HB6 := Lib.hid (HB2.out.trans (hbx.mono HB2.out.size))
  have HBX := Lib.hid hbx
  have K16 := Lib.hid k16
  have HLR := Lib.hid KR.out.lt
  clear hx hH hST hET hfT hF6 kA6 k16 hdo hsD hbx
  go_wp2_with fail
  refine HDO.out.mono ?_
  rintro e w7 ⟨hs, hb7⟩
  have k17 := K16.out.below hb7 HLR.out
  have HB7 := Lib.hid (HB6.out.trans (hb7.mono HB2.out.size))
  have hs67 := hb7.size
  clear a0 a1 a2 a3 a4 a5 a6 a7 a8
  rcases hs with ⟨h1, rfl, U, hUs, hHU⟩ | ⟨h1, rfl⟩
  · obtain ⟨t0, t1, t2, t3, t4, t5⟩ := sto_cells (S := emptyS) (show Blk w7 w.heap.size (stoC emptyS) 45 from k17)
    have l1 := k17.lt
    have z0 := k17.frozen 0
    have z1 := k17.frozen 1
    have z2 := k17.frozen 2
    have z3 := k17.frozen 3
    have z4 := k17.frozen 4
    have z5 := k17.frozen 5
    simp only [emptyS, List.length_nil] at t0 t1 t2 t3 t4 t5
    have lB7 := hHU.box.lt
    obtain ⟨u0, u1, u2, u3, u4, u5⟩ := (show w7.cell? ⟨B, 2, none⟩ = some (.int .i64 U.year) ∧ w7.cell? ⟨B, 3, none⟩ = some (.slice U.la U.last.length U.lc) ∧ w7.cell? ⟨B, 4, none⟩ = some (.slice U.ga U.given.length U.gc) ∧ w7.cell? ⟨B, 5, none⟩ = some (.slice U.ha U.heaps.length U.hc) ∧ w7.cell? ⟨B, 6, none⟩ = some (.slice U.ua U.used.length U.uc) ∧ w7.cell? ⟨B, 7, none⟩ = some (.slice U.wa U.waste.length U.wc) from ⟨hHU.box.cell 2, hHU.box.cell 3, hHU.box.cell 4, hHU.box.cell 5, hHU.box.cell 6, hHU.box.cell 7⟩)
    have H1 := Lib.hid h1
    have HUS := Lib.hid hUs
    have HHU := Lib.hid hHU
    have K17 := Lib.hid k17
    clear h1 hUs hHU k17 hb7
    go_wp2_with fail
    have kf1 : Blk ((((((w7.setCell ⟨w.heap.size, 0, none⟩ (.int .i64 U.year)).setCell ⟨w.heap.size, 1, none⟩ (.slice U.la U.last.length U.lc)).setCell ⟨w.heap.size, 2, none⟩ (.slice U.ga U.given.length U.gc)).setCell ⟨w.heap.size, 3, none⟩ (.slice U.ha U.heaps.length U.hc)).setCell ⟨w.heap.size, 4, none⟩ (.slice U.ua U.used.length U.uc)).setCell ⟨w.heap.size, 5, none⟩ (.slice U.wa U.waste.length U.wc)) w.heap.size (stoC U) 45 := ((((((K17.out.set 0 (.int .i64 U.year)).set 1 (.slice U.la U.last.length U.lc)).set 2 (.slice U.ga U.given.length U.gc)).set 3 (.slice U.ha U.heaps.length U.hc)).set 4 (.slice U.ua U.used.length U.uc)).set 5 (.slice U.wa U.waste.length U.wc))
    have hTf : Turn (fun k => k = w.heap.size) w7 ((((((w7.setCell ⟨w.heap.size, 0, none⟩ (.int .i64 U.year)).setCell ⟨w.heap.size, 1, none⟩ (.slice U.la U.last.length U.lc)).setCell ⟨w.heap.size, 2, none⟩ (.slice U.ga U.given.length U.gc)).setCell ⟨w.heap.size, 3, none⟩ (.slice U.ha U.heaps.length U.hc)).setCell ⟨w.heap.size, 4, none⟩ (.slice U.ua U.used.length U.uc)).setCell ⟨w.heap.size, 5, none⟩ (.slice U.wa U.waste.length U.wc)) := (((((((Turn.of_below (X := fun k => k = w.heap.size) (Below.refl _ w7)).setCell (B := w.heap.size) rfl 0 (.int .i64 U.year)).setCell (B := w.heap.size) rfl 1 (.slice U.la U.last.length U.lc)).setCell (B := w.heap.size) rfl 2 (.slice U.ga U.given.length U.gc)).setCell (B := w.heap.size) rfl 3 (.slice U.ha U.heaps.length U.hc)).setCell (B := w.heap.size) rfl 4 (.slice U.ua U.used.length U.uc)).setCell (B := w.heap.size) rfl 5 (.slice U.wa U.waste.length U.wc))
    generalize ((((((w7.setCell ⟨w.heap.size, 0, none⟩ (.int .i64 U.year)).setCell ⟨w.heap.size, 1, none⟩ (.slice U.la U.last.length U.lc)).setCell ⟨w.heap.size, 2, none⟩ (.slice U.ga U.given.length U.gc)).setCell ⟨w.heap.size, 3, none⟩ (.slice U.ha U.heaps.length U.hc)).setCell ⟨w.heap.size, 4, none⟩ (.slice U.ua U.used.length U.uc)).setCell ⟨w.heap.size, 5, none⟩ (.slice U.wa U.waste.length U.wc)) = wf at *
    clear t0 t1 t2 t3 t4 t5 z0 z1 z2 z3 z4 z5 u0 u1 u2 u3 u4 u5
    have hfin : DoneSaid (stepD F S a).1 (stepD F S a).2 w (.returned (stoV U)) wf := by
      refine ⟨.inl ⟨HSD.out.1.symm.trans H1.out, U, rfl, (HHU.out.own.mono HB2.out.size).turn hTf (fun k e hk => ?_), HUS.out.trans HSD.out.2⟩, HB7.out.trans (hTf.below HB7.out.size (fun k e => by rw [show k = w.heap.size from e]; exact Nat.le_refl _))⟩
      have := (HHU.out.own.ge k hk).1
      have := HLR.out
      rw [show k = w.heap.size from e] at *
      omega
    obtain ⟨g0, g1, g2, g3, g4, g5⟩ := sto_cells kf1
    unfold stoV at hfin
    exact bodyPost_ret (v := .agg #[.int .i64 U.year, .slice U.la U.last.length U.lc, .slice U.ga U.given.length U.gc, .slice U.ha U.heaps.length U.hc, .slice U.ua U.used.length U.uc, .slice U.wa U.waste.length U.wc]) (by simp [results, Try.results30, go_sem, g0, g1, g2, g3, g4, g5]) rfl hfin
  · have H1 := Lib.hid h1
    clear h1 k17 hb7
    go_wp2_with fail
    exact ⟨rfl, .inr ⟨fun h => H1.out (HSD.out.1.trans h), congrArg chain HSD.out.1⟩, HB7.out⟩

set_option maxRecDepth 100000 in
set_option maxHeartbeats 8000000 in
theorem strawDo_any (F : Frm) (S : Sto) (a : Chr) (w : World) (hF : IsFarm w F) (hS : IsStore w S) (hfit : S.fit) (hnm : a.name.size ≤ maxLen) (hno : a.other.size ≤ maxLen) :
    Calls Try.prog 17 #[.agg #[.slice F.pa F.ps.length F.pc, .int .i64 F.dry], stoV S, .agg (chrC a)] w (DoSaid F S a w) := by
  have hmf : ∀ (fn : Fn) (first cap : Array Value) (w : World), (Instr.makeFunc fn first cap).run Try.prog w = .ok (.func fn first cap) w := fun _ _ _ _ => rfl
  have hcs := fun w' h1 h2 => checkStore_any F S w' h1 h2 hfit
  unfold stoV at hcs
  unfold stoV chrC
  have hb1 : Below w.heap.size w ((((w.alloc (.cells #[.slice F.pa F.ps.length F.pc, .int .i64 F.dry] 24)).alloc (.cells #[.int .i64 S.year, .slice S.la S.last.length S.lc, .slice S.ga S.given.length S.gc, .slice S.ha S.heaps.length S.hc, .slice S.ua S.used.length S.uc, .slice S.wa S.waste.length S.wc] 45)).alloc (.cells #[.int .i64 a.kind, .int .i64 a.plot, .int .i64 a.loads, .string a.name, .string a.other, .int .i64 a.days, .int .i64 a.per, .int .i64 a.rlo, .int .i64 a.rhi] 40)).alloc (.cells #[.int .i64 0, .slice none 0 0, .slice none 0 0, .slice none 0 0, .slice none 0 0, .slice none 0 0] 45)) := ((((Below.refl _ w).alloc (Nat.le_refl _) _).alloc (by simp) _).alloc (by simp; omega) _).alloc (by simp; omega) _
  have kF : Blk ((((w.alloc (.cells #[.slice F.pa F.ps.length F.pc, .int .i64 F.dry] 24)).alloc (.cells #[.int .i64 S.year, .slice S.la S.last.length S.lc, .slice S.ga S.given.length S.gc, .slice S.ha S.heaps.length S.hc, .slice S.ua S.used.length S.uc, .slice S.wa S.waste.length S.wc] 45)).alloc (.cells #[.int .i64 a.kind, .int .i64 a.plot, .int .i64 a.loads, .string a.name, .string a.other, .int .i64 a.days, .int .i64 a.per, .int .i64 a.rlo, .int .i64 a.rhi] 40)).alloc (.cells #[.int .i64 0, .slice none 0 0, .slice none 0 0, .slice none 0 0, .slice none 0 0, .slice none 0 0] 45)) w.heap.size #[.slice F.pa F.ps.length F.pc, .int .i64 F.dry] 24 := (((Blk.new w 24 #[.slice F.pa F.ps.length F.pc, .int .i64 F.dry]).alloc _).alloc _).alloc _
  have kS : Blk ((((w.alloc (.cells #[.slice F.pa F.ps.length F.pc, .int .i64 F.dry] 24)).alloc (.cells #[.int .i64 S.year, .slice S.la S.last.length S.lc, .slice S.ga S.given.length S.gc, .slice S.ha S.heaps.length S.hc, .slice S.ua S.used.length S.uc, .slice S.wa S.waste.length S.wc] 45)).alloc (.cells #[.int .i64 a.kind, .int .i64 a.plot, .int .i64 a.loads, .string a.name, .string a.other, .int .i64 a.days, .int .i64 a.per, .int .i64 a.rlo, .int .i64 a.rhi] 40)).alloc (.cells #[.int .i64 0, .slice none 0 0, .slice none 0 0, .slice none 0 0, .slice none 0 0, .slice none 0 0] 45)) (w.heap.size + 1) (stoC S) 45 := by
    have := ((Blk.new (w.alloc (.cells #[.slice F.pa F.ps.length F.pc, .int .i64 F.dry] 24)) 45 (stoC S)).alloc (.cells #[.int .i64 a.kind, .int .i64 a.plot, .int .i64 a.loads, .string a.name, .string a.other, .int .i64 a.days, .int .i64 a.per, .int .i64 a.rlo, .int .i64 a.rhi] 40)).alloc (.cells #[.int .i64 0, .slice none 0 0, .slice none 0 0, .slice none 0 0, .slice none 0 0, .slice none 0 0] 45)
    rw [World.size_alloc] at this
    exact this
  have kA : Blk ((((w.alloc (.cells #[.slice F.pa F.ps.length F.pc, .int .i64 F.dry] 24)).alloc (.cells #[.int .i64 S.year, .slice S.la S.last.length S.lc, .slice S.ga S.given.length S.gc, .slice S.ha S.heaps.length S.hc, .slice S.ua S.used.length S.uc, .slice S.wa S.waste.length S.wc] 45)).alloc (.cells #[.int .i64 a.kind, .int .i64 a.plot, .int .i64 a.loads, .string a.name, .string a.other, .int .i64 a.days, .int .i64 a.per, .int .i64 a.rlo, .int .i64 a.rhi] 40)).alloc (.cells #[.int .i64 0, .slice none 0 0, .slice none 0 0, .slice none 0 0, .slice none 0 0, .slice none 0 0] 45)) (w.heap.size + 1 + 1) (chrC a) 40 := by
    have := (Blk.new ((w.alloc (.cells #[.slice F.pa F.ps.length F.pc, .int .i64 F.dry] 24)).alloc (.cells #[.int .i64 S.year, .slice S.la S.last.length S.lc, .slice S.ga S.given.length S.gc, .slice S.ha S.heaps.length S.hc, .slice S.ua S.used.length S.uc, .slice S.wa S.waste.length S.wc] 45)) 40 (chrC a)).alloc (.cells #[.int .i64 0, .slice none 0 0, .slice none 0 0, .slice none 0 0, .slice none 0 0, .slice none 0 0] 45)
    rw [World.size_alloc, World.size_alloc] at this
    exact this
  have k1 : Blk ((((w.alloc (.cells #[.slice F.pa F.ps.length F.pc, .int .i64 F.dry] 24)).alloc (.cells #[.int .i64 S.year, .slice S.la S.last.length S.lc, .slice S.ga S.given.length S.gc, .slice S.ha S.heaps.length S.hc, .slice S.ua S.used.length S.uc, .slice S.wa S.waste.length S.wc] 45)).alloc (.cells #[.int .i64 a.kind, .int .i64 a.plot, .int .i64 a.loads, .string a.name, .string a.other, .int .i64 a.days, .int .i64 a.per, .int .i64 a.rlo, .int .i64 a.rhi] 40)).alloc (.cells #[.int .i64 0, .slice none 0 0, .slice none 0 0, .slice none 0 0, .slice none 0 0, .slice none 0 0] 45)) (w.heap.size + 1 + 1 + 1) zeroS 45 := by
    have := Blk.new (((w.alloc (.cells #[.slice F.pa F.ps.length F.pc, .int .i64 F.dry] 24)).alloc (.cells #[.int .i64 S.year, .slice S.la S.last.length S.lc, .slice S.ga S.given.length S.gc, .slice S.ha S.heaps.length S.hc, .slice S.ua S.used.length S.uc, .slice S.wa S.waste.length S.wc] 45)).alloc (.cells #[.int .i64 a.kind, .int .i64 a.plot, .int .i64 a.loads, .string a.name, .string a.other, .int .i64 a.days, .int .i64 a.per, .int .i64 a.rlo, .int .i64 a.rhi] 40)) 45 zeroS
    rw [World.size_alloc, World.size_alloc, World.size_alloc] at this
    exact this
  have HF := Lib.hid hF
  have HS := Lib.hid hS
  have HFIT := Lib.hid hfit
  have HCS := Lib.hid hcs
  clear hF hS hfit hcs
  go_enter Try.func17, Try.ntmps17
  go_upto_region 1 with fail
  generalize ((((w.alloc (.cells #[.slice F.pa F.ps.length F.pc, .int .i64 F.dry] 24)).alloc (.cells #[.int .i64 S.year, .slice S.la S.last.length S.lc, .slice S.ga S.given.length S.gc, .slice S.ha S.heaps.length S.hc, .slice S.ua S.used.length S.uc, .slice S.wa S.waste.length S.wc] 45)).alloc (.cells #[.int .i64 a.kind, .int .i64 a.plot, .int .i64 a.loads, .string a.name, .string a.other, .int .i64 a.days, .int .i64 a.per, .int .i64 a.rlo, .int .i64 a.rhi] 40)).alloc (.cells #[.int .i64 0, .slice none 0 0, .slice none 0 0, .slice none 0 0, .slice none 0 0, .slice none 0 0] 45)) = w1 at *
  have hn1 := k1.lt
  have f0 : w1.cell? ⟨w.heap.size, 0, none⟩ = some (.slice F.pa F.ps.length F.pc) := kF.cell 0
  have f1 : w1.cell? ⟨w.heap.size, 1, none⟩ = some (.int .i64 F.dry) := kF.cell 1
  obtain ⟨s0, s1, s2, s3, s4, s5⟩ := sto_cells kS
  have lF := kF.lt
  have lS := kS.lt
  have HB1 := Lib.hid hb1
  have KF := Lib.hid kF
  have KS := Lib.hid kS
  have KA := Lib.hid kA
  have K1 := Lib.hid k1
  clear hb1 kF kS kA k1
  go_wp2_with fail
  refine (HCS.out _ (HF.out.below HB1.out) (HS.out.below HB1.out)).mono ?_
  rintro e w2 ⟨rfl, hb2⟩
  have HB2 := Lib.hid (HB1.out.trans (hb2.mono HB1.out.size))
  have KF2 := Lib.hid (KF.out.belowS hb2)
  have KS2 := Lib.hid (KS.out.belowS hb2)
  have KA2 := Lib.hid (KA.out.belowS hb2)
  have K12 := Lib.hid (K1.out.belowS hb2)
  have hn2 := Nat.lt_of_lt_of_le hn1 hb2.size
  clear f0 f1 s0 s1 s2 s3 s4 s5 lF lS hb2
  by_cases hE : storeE F S = 0
  rotate_left
  · have HV := Lib.hid (doD_err (a := a) hE)
    have HE := Lib.hid hE
    have qE : (storeE F S == 0) = false := by simp [hE]
    have qE' : (storeE F S != 0) = true := by simp [hE]
    generalize hv : storeE F S = v at *
    have HVV := Lib.hid hv
    clear hv hE
    obtain ⟨t0, t1, t2, t3, t4, t5⟩ := sto_cells (S := emptyS) (show Blk w2 (w.heap.size + 1 + 1 + 1) (stoC emptyS) 45 from K12.out)
    have l1 := K12.out.lt
    have z0 := K12.out.frozen 0
    have z1 := K12.out.frozen 1
    have z2 := K12.out.frozen 2
    have z3 := K12.out.frozen 3
    have z4 := K12.out.frozen 4
    have z5 := K12.out.frozen 5
    simp only [emptyS, List.length_nil] at t0 t1 t2 t3 t4 t5
    go_wp2_with fail
    have kf1 : Blk ((((((w2.setCell ⟨w.heap.size + 1 + 1 + 1, 0, none⟩ (.int .i64 0)).setCell ⟨w.heap.size + 1 + 1 + 1, 1, none⟩ (.slice none 0 0)).setCell ⟨w.heap.size + 1 + 1 + 1, 2, none⟩ (.slice none 0 0)).setCell ⟨w.heap.size + 1 + 1 + 1, 3, none⟩ (.slice none 0 0)).setCell ⟨w.heap.size + 1 + 1 + 1, 4, none⟩ (.slice none 0 0)).setCell ⟨w.heap.size + 1 + 1 + 1, 5, none⟩ (.slice none 0 0)) (w.heap.size + 1 + 1 + 1) zeroS 45 := ((((((K12.out.set 0 (.int .i64 0)).set 1 (.slice none 0 0)).set 2 (.slice none 0 0)).set 3 (.slice none 0 0)).set 4 (.slice none 0 0)).set 5 (.slice none 0 0))
    have hTf : Turn (fun k => k = w.heap.size + 1 + 1 + 1) w2 ((((((w2.setCell ⟨w.heap.size + 1 + 1 + 1, 0, none⟩ (.int .i64 0)).setCell ⟨w.heap.size + 1 + 1 + 1, 1, none⟩ (.slice none 0 0)).setCell ⟨w.heap.size + 1 + 1 + 1, 2, none⟩ (.slice none 0 0)).setCell ⟨w.heap.size + 1 + 1 + 1, 3, none⟩ (.slice none 0 0)).setCell ⟨w.heap.size + 1 + 1 + 1, 4, none⟩ (.slice none 0 0)).setCell ⟨w.heap.size + 1 + 1 + 1, 5, none⟩ (.slice none 0 0)) := (((((((Turn.of_below (X := fun k => k = w.heap.size + 1 + 1 + 1) (Below.refl _ w2)).setCell (B := w.heap.size + 1 + 1 + 1) rfl 0 (.int .i64 0)).setCell (B := w.heap.size + 1 + 1 + 1) rfl 1 (.slice none 0 0)).setCell (B := w.heap.size + 1 + 1 + 1) rfl 2 (.slice none 0 0)).setCell (B := w.heap.size + 1 + 1 + 1) rfl 3 (.slice none 0 0)).setCell (B := w.heap.size + 1 + 1 + 1) rfl 4 (.slice none 0 0)).setCell (B := w.heap.size + 1 + 1 + 1) rfl 5 (.slice none 0 0))
    generalize ((((((w2.setCell ⟨w.heap.size + 1 + 1 + 1, 0, none⟩ (.int .i64 0)).setCell ⟨w.heap.size + 1 + 1 + 1, 1, none⟩ (.slice none 0 0)).setCell ⟨w.heap.size + 1 + 1 + 1, 2, none⟩ (.slice none 0 0)).setCell ⟨w.heap.size + 1 + 1 + 1, 3, none⟩ (.slice none 0 0)).setCell ⟨w.heap.size + 1 + 1 + 1, 4, none⟩ (.slice none 0 0)).setCell ⟨w.heap.size + 1 + 1 + 1, 5, none⟩ (.slice none 0 0)) = wf at *
    clear t0 t1 t2 t3 t4 t5 z0 z1 z2 z3 z4 z5
    have hfin : DoSaid F S a w (.returned (.tuple #[.agg #[.int .i64 0, .slice none 0 0, .slice none 0 0, .slice none 0 0, .slice none 0 0, .slice none 0 0], .int .i64 v])) wf := by
      refine ⟨⟨emptyS, by rw [HV.out]; rfl, empty_own _ _, by rw [HV.out, if_neg HE.out]; exact SameSto.refl _⟩, HB2.out.trans (hTf.below HB2.out.size (fun k e => by rw [show k = w.heap.size + 1 + 1 + 1 from e]; omega))⟩
    obtain ⟨g0, g1, g2, g3, g4, g5⟩ := sto_cells (S := emptyS) kf1
    simp only [emptyS, List.length_nil] at g0 g1 g2 g3 g4 g5
    exact bodyPost_ret (v := .tuple #[.agg #[.int .i64 0, .slice none 0 0, .slice none 0 0, .slice none 0 0, .slice none 0 0, .slice none 0 0], .int .i64 v]) (by simp [results, Try.results17, go_sem, g0, g1, g2, g3, g4, g5]) rfl hfin
  have HV := Lib.hid (doD_step (a := a) hE)
  have qE : (storeE F S == 0) = true := by simp [hE]
  have qE' : (storeE F S != 0) = false := by simp [hE]
  have HE := Lib.hid hE
  rw [hE]
  clear hE
  have HAN := Lib.hid (answer_any w.heap.size (w.heap.size + 1) (w.heap.size + 1 + 1) (stepD F S a).1 (stepD F S a).2 w2 (fun w3 h3 => doBody_any F S a _ _ _ w3 (KF2.out.belowS h3) (KS2.out.belowS h3) (KA2.out.belowS h3) (HF.out.below (HB2.out.trans (h3.mono HB2.out.size))) (HS.out.below (HB2.out.trans (h3.mono HB2.out.size))) HE.out HFIT.out hnm hno))
  go_wp2_with fail
  refine HAN.out.mono ?_
  rintro e w3 ⟨⟨U, rfl, hU, hs⟩, hb3⟩
  have k13 := K12.out.belowS hb3
  obtain ⟨t0, t1, t2, t3, t4, t5⟩ := sto_cells (S := emptyS) (show Blk w3 (w.heap.size + 1 + 1 + 1) (stoC emptyS) 45 from k13)
  have l1 := k13.lt
  have z0 := k13.frozen 0
  have z1 := k13.frozen 1
  have z2 := k13.frozen 2
  have z3 := k13.frozen 3
  have z4 := k13.frozen 4
  have z5 := k13.frozen 5
  simp only [emptyS, List.length_nil] at t0 t1 t2 t3 t4 t5
  have HU := Lib.hid hU
  have HS3 := Lib.hid hs
  have HB3 := Lib.hid (HB2.out.trans (hb3.mono HB2.out.size))
  have K13 := Lib.hid k13
  clear hU hs hb3 k13
  go_wp2_with fail
  have kf1 : Blk ((((((w3.setCell ⟨w.heap.size + 1 + 1 + 1, 0, none⟩ (.int .i64 U.year)).setCell ⟨w.heap.size + 1 + 1 + 1, 1, none⟩ (.slice U.la U.last.length U.lc)).setCell ⟨w.heap.size + 1 + 1 + 1, 2, none⟩ (.slice U.ga U.given.length U.gc)).setCell ⟨w.heap.size + 1 + 1 + 1, 3, none⟩ (.slice U.ha U.heaps.length U.hc)).setCell ⟨w.heap.size + 1 + 1 + 1, 4, none⟩ (.slice U.ua U.used.length U.uc)).setCell ⟨w.heap.size + 1 + 1 + 1, 5, none⟩ (.slice U.wa U.waste.length U.wc)) (w.heap.size + 1 + 1 + 1) (stoC U) 45 := ((((((K13.out.set 0 (.int .i64 U.year)).set 1 (.slice U.la U.last.length U.lc)).set 2 (.slice U.ga U.given.length U.gc)).set 3 (.slice U.ha U.heaps.length U.hc)).set 4 (.slice U.ua U.used.length U.uc)).set 5 (.slice U.wa U.waste.length U.wc))
  have hTf : Turn (fun k => k = w.heap.size + 1 + 1 + 1) w3 ((((((w3.setCell ⟨w.heap.size + 1 + 1 + 1, 0, none⟩ (.int .i64 U.year)).setCell ⟨w.heap.size + 1 + 1 + 1, 1, none⟩ (.slice U.la U.last.length U.lc)).setCell ⟨w.heap.size + 1 + 1 + 1, 2, none⟩ (.slice U.ga U.given.length U.gc)).setCell ⟨w.heap.size + 1 + 1 + 1, 3, none⟩ (.slice U.ha U.heaps.length U.hc)).setCell ⟨w.heap.size + 1 + 1 + 1, 4, none⟩ (.slice U.ua U.used.length U.uc)).setCell ⟨w.heap.size + 1 + 1 + 1, 5, none⟩ (.slice U.wa U.waste.length U.wc)) := (((((((Turn.of_below (X := fun k => k = w.heap.size + 1 + 1 + 1) (Below.refl _ w3)).setCell (B := w.heap.size + 1 + 1 + 1) rfl 0 (.int .i64 U.year)).setCell (B := w.heap.size + 1 + 1 + 1) rfl 1 (.slice U.la U.last.length U.lc)).setCell (B := w.heap.size + 1 + 1 + 1) rfl 2 (.slice U.ga U.given.length U.gc)).setCell (B := w.heap.size + 1 + 1 + 1) rfl 3 (.slice U.ha U.heaps.length U.hc)).setCell (B := w.heap.size + 1 + 1 + 1) rfl 4 (.slice U.ua U.used.length U.uc)).setCell (B := w.heap.size + 1 + 1 + 1) rfl 5 (.slice U.wa U.waste.length U.wc))
  generalize ((((((w3.setCell ⟨w.heap.size + 1 + 1 + 1, 0, none⟩ (.int .i64 U.year)).setCell ⟨w.heap.size + 1 + 1 + 1, 1, none⟩ (.slice U.la U.last.length U.lc)).setCell ⟨w.heap.size + 1 + 1 + 1, 2, none⟩ (.slice U.ga U.given.length U.gc)).setCell ⟨w.heap.size + 1 + 1 + 1, 3, none⟩ (.slice U.ha U.heaps.length U.hc)).setCell ⟨w.heap.size + 1 + 1 + 1, 4, none⟩ (.slice U.ua U.used.length U.uc)).setCell ⟨w.heap.size + 1 + 1 + 1, 5, none⟩ (.slice U.wa U.waste.length U.wc)) = wf at *
  clear t0 t1 t2 t3 t4 t5 z0 z1 z2 z3 z4 z5
  have hfin : DoSaid F S a w (.returned (.tuple #[.agg #[.int .i64 U.year, .slice U.la U.last.length U.lc, .slice U.ga U.given.length U.gc, .slice U.ha U.heaps.length U.hc, .slice U.ua U.used.length U.uc, .slice U.wa U.waste.length U.wc], .int .i64 (stepD F S a).1])) wf := by
    refine ⟨⟨U, by rw [HV.out], (HU.out.turn hTf (fun k e hk => ?_)).mono HB2.out.size, by rw [HV.out]; exact HS3.out⟩, HB3.out.trans (hTf.below HB3.out.size (fun k e => by rw [show k = w.heap.size + 1 + 1 + 1 from e]; omega))⟩
    have := (HU.out.ge k hk).1
    rw [show k = w.heap.size + 1 + 1 + 1 from e] at this
    omega
  obtain ⟨g0, g1, g2, g3, g4, g5⟩ := sto_cells kf1
  exact bodyPost_ret (v := .tuple #[.agg #[.int .i64 U.year, .slice U.la U.last.length U.lc, .slice U.ga U.given.length U.gc, .slice U.ha U.heaps.length U.hc, .slice U.ua U.used.length U.uc, .slice U.wa U.waste.length U.wc], .int .i64 (stepD F S a).1]) (by simp [results, Try.results17, go_sem, g0, g1, g2, g3, g4, g5]) rfl hfin
end
end Go.Proofs.Ytghepojnimlafaa
namespace Go.Proofs.Ytghepojnimlafaa
section
set_option linter.unusedSimpArgs false
open Go.RowKit

def ChrAt (w : World) (b o : Nat) (x : Chr) : Prop :=
  (w.cell? ⟨b, o, none⟩ = some (.int .i64 x.kind) ∧ w.cell? ⟨b, o + 1, none⟩ = some (.int .i64 x.plot) ∧ w.cell? ⟨b, o + 2, none⟩ = some (.int .i64 x.loads) ∧ w.cell? ⟨b, o + 3, none⟩ = some (.string x.name) ∧ w.cell? ⟨b, o + 4, none⟩ = some (.string x.other) ∧
    w.cell? ⟨b, o + 5, none⟩ = some (.int .i64 x.days) ∧ w.cell? ⟨b, o + 6, none⟩ = some (.int .i64 x.per) ∧ w.cell? ⟨b, o + 7, none⟩ = some (.int .i64 x.rlo) ∧ w.cell? ⟨b, o + 8, none⟩ = some (.int .i64 x.rhi)) ∧ x.name.size ≤ maxLen ∧ x.other.size ≤ maxLen
abbrev IsChrs (w : World) (a : Option Addr) (c : Nat) (l : List Chr) : Prop := IsRow 9 ChrAt w a c l
theorem ChrAt.keep {w w' : World} (hb : Below w.heap.size w w') (b o : Nat) (x : Chr) (hl : b < w.heap.size) (h : ChrAt w b o x) : ChrAt w' b o x := by
  have c : ∀ i, w'.cell? ⟨b, i, none⟩ = w.cell? ⟨b, i, none⟩ := fun i => hb.cell (p := ⟨b, i, none⟩) hl
  obtain ⟨⟨h0, h1, h2, h3, h4, h5, h6, h7, h8⟩, hn⟩ := h
  exact ⟨⟨(c _).trans h0, (c _).trans h1, (c _).trans h2, (c _).trans h3, (c _).trans h4, (c _).trans h5, (c _).trans h6, (c _).trans h7, (c _).trans h8⟩, hn⟩
theorem IsChrs.belowS {w w' : World} {a : Option Addr} {c : Nat} {l : List Chr} (h : IsChrs w a c l) (hb : Below w.heap.size w w') : IsChrs w' a c l := IsRow.below h hb (ChrAt.keep hb)

/-- Chores in order: the store, how many are done, the first error. -/
def runL (F : Frm) : Sto → List Chr → Sto × Nat × Int
  | S, [] => (S, 0, 0)
  | S, a :: l => if (doD F S a).1 = 0 then ((runL F (doD F S a).2 l).1, (runL F (doD F S a).2 l).2.1 + 1, (runL F (doD F S a).2 l).2.2) else (S, 0, (doD F S a).1)
def runD (F : Frm) (S : Sto) (l : List Chr) : Sto × Nat × Int := if ¬ storeE F S = 0 then (emptyS, 0, storeE F S) else if 200 < l.length then (emptyS, 0, 3) else runL F S l
/-- All chores of a list are done. -/
def allD (F : Frm) (S : Sto) (l : List Chr) (T : Sto) : Prop := runL F S l = (T, l.length, 0)
theorem allD_nil (F : Frm) (S : Sto) : allD F S [] S := rfl
theorem allD_snoc {F : Frm} {S T : Sto} {l : List Chr} {a : Chr} (h : allD F S l T) (ha : (doD F T a).1 = 0) : allD F S (l ++ [a]) (doD F T a).2 := by
  unfold allD at h ⊢
  induction l generalizing S with
  | nil => cases h; simp only [List.nil_append, runL, if_pos ha]; rfl
  | cons b l ih =>
    simp only [runL] at h
    split at h
    · next hb =>
      simp only [Prod.mk.injEq, List.length_cons, Nat.add_right_cancel_iff] at h
      have h2 := ih (S := (doD F S b).2) (by rw [← h.1, ← h.2.1, ← h.2.2])
      simp only [List.cons_append, runL, if_pos hb, h2]
      simp
    · simp at h
theorem runL_done {F : Frm} {S T : Sto} {l m : List Chr} (h : allD F S l T) : runL F S (l ++ m) = ((runL F T m).1, l.length + (runL F T m).2.1, (runL F T m).2.2) := by
  unfold allD at h
  induction l generalizing S with
  | nil => cases h; simp
  | cons b l ih =>
    simp only [runL] at h
    split at h
    · next hb =>
      simp only [Prod.mk.injEq, List.length_cons, Nat.add_right_cancel_iff] at h
      have h2 := ih (S := (doD F S b).2) (by rw [← h.1, ← h.2.1, ← h.2.2])
      simp only [List.cons_append, runL, if_pos hb, h2, List.length_cons]
      refine Prod.ext rfl (Prod.ext ?_ rfl)
      show l.length + (runL F T m).2.1 + 1 = l.length + 1 + (runL F T m).2.1
      omega
    · simp at h

/-- How many parts and heaps there are. -/
def ptot : List Hep → Nat
  | [] => 0
  | h :: l => h.parts.length + 1 + ptot l
def tot (S : Sto) : Nat := S.used.length + S.waste.length + ptot S.heaps
theorem ptot_append (l m : List Hep) : ptot (l ++ m) = ptot l + ptot m := by
  induction l with
  | nil => simp [ptot]
  | cons h l ih => simp only [List.cons_append, ptot, ih]; omega
theorem ptot_set (l : List Hep) : ∀ (i : Nat) (x y : Hep), l[i]? = some x → ptot (l.set i y) + x.parts.length = ptot l + y.parts.length := by
  induction l with
  | nil => intro i x y h; simp at h
  | cons h l ih =>
    intro i x y hx
    cases i with
    | zero => obtain rfl : h = x := by simpa using hx
              simp only [List.set_cons_zero, ptot]; omega
    | succ i => have := ih i x y (by simpa using hx); simp only [List.set_cons_succ, ptot]; omega
theorem ptot_erase (l : List Hep) : ∀ (i : Nat) (x : Hep), l[i]? = some x → ptot (l.eraseIdx i) + x.parts.length + 1 = ptot l := by
  induction l with
  | nil => intro i x h; simp at h
  | cons h l ih =>
    intro i x hx
    cases i with
    | zero => obtain rfl : h = x := by simpa using hx
              simp only [List.eraseIdx_cons_zero, ptot]; omega
    | succ i => have := ih i x (by simpa using hx); simp only [List.eraseIdx_cons_succ, ptot]; omega
theorem ptot_fit {S : Sto} (h : tot S ≤ 1000) : S.fit := by
  unfold tot at h
  have key : ∀ l : List Hep, l.length ≤ ptot l ∧ ∀ x ∈ l, x.parts.length ≤ ptot l := fun l => by
    induction l with
    | nil => simp
    | cons y l ih =>
      refine ⟨by simp only [List.length_cons, ptot]; omega, fun x hx => ?_⟩
      rcases List.mem_cons.1 hx with rfl | hx
      · simp only [ptot]; omega
      · have := ih.2 x hx; simp only [ptot]; omega
  obtain ⟨k1, k2⟩ := key S.heaps
  exact ⟨by omega, by omega, by omega, fun x hx => by have := k2 x hx; omega⟩
theorem cut_lens {l : List Prt} (h : ∀ p ∈ l, 1 ≤ p.loads) : ∀ {n : Int}, 0 ≤ n → (cutT n l).length + (cutR n l).length ≤ l.length + 1 ∧ (n = 0 → (cutT n l).length = 0) := by
  induction l with
  | nil => intro n _; simp [cutT, cutR]
  | cons p l ih =>
    intro n hn
    have hp := h p (by simp)
    have ih := fun m => @ih (fun q hq => h q (by simp [hq])) m
    have hr := cutR_len l
    simp only [cutT, cutR, List.length_append, List.length_cons]
    refine ⟨?_, fun h0 => ?_⟩
    · by_cases h1 : n < p.loads
      · have e1 : min n p.loads = n := by omega
        rw [e1, Int.sub_self]
        have h2 := (ih 0 (by omega)).2 rfl
        have h3 := hr 0
        rw [if_pos h1]
        split <;> simp <;> omega
      · have e1 : min n p.loads = p.loads := by omega
        rw [e1]
        have h2 := (ih (n - p.loads) (by omega)).1
        rw [if_pos (by omega), if_neg (by omega)]
        simp; omega
    · subst h0
      have e1 : min (0 : Int) p.loads = 0 := by omega
      rw [e1, if_neg (by omega)]
      simpa using (ih (0 - 0) (by omega)).2 (by omega)
theorem ptot_move {l : List Hep} {i : Nat} {x : Hep} {n : Int} (hx : l[i]? = some x) (h : ∀ p ∈ x.parts, 1 ≤ p.loads) (hn : 0 ≤ n) : ptot (moveH l i n) + (cutT n x.parts).length ≤ ptot l + 1 := by
  have h1 := (cut_lens h hn).1
  unfold moveH
  rw [hx]
  simp only
  split
  · next e =>
    have := ptot_erase l i x hx
    rw [e] at h1
    simp at h1
    omega
  · have := ptot_set l i x { x with parts := cutR n x.parts } hx
    simp only at this
    omega
theorem putL_le (l m : List Prt) : (putL l m).length ≤ l.length + m.length := putL_len l m
end
end Go.Proofs.Ytghepojnimlafaa
namespace Go.Proofs.Ytghepojnimlafaa
section
set_option linter.unusedSimpArgs false
open Go.RowKit

def Few (S : Sto) (r : Int × Sto) : Prop := r.1 = 0 → tot r.2 ≤ tot S + 3
theorem few_no {S : Sto} {x : Int} (hx : x ≠ 0) (T : Sto) : Few S (x, T) := fun h => absurd h hx
theorem cutT_le (n : Int) (l : List Prt) : (cutT n l).length ≤ l.length := cutT_len l n
theorem heap_at {F : Frm} {S : Sto} (hE : storeE F S = 0) {nm : ByteArray} (h : ¬ idxH S.heaps nm < 0) : ∃ x, S.heaps[(idxH S.heaps nm).toNat]? = some x ∧ hepAt S nm = x ∧ (∀ p ∈ x.parts, 1 ≤ p.loads) ∧ 0 ≤ loadsM x.parts := by
  obtain ⟨i, x, hi, _, hx, _⟩ := idxH_at (Int.not_lt.1 h)
  have hb := heapB_parts ((store_ok hE).2.2.2.2 x (List.mem_of_getElem? hx))
  exact ⟨x, by rw [hi]; simpa using hx, hepAt_of hi hx, fun p hp => (hb p hp).2.1, (loadsM_bd hb).1⟩
theorem few_year (S : Sto) : Few S (yearD S) := by
  unfold yearD
  split
  · intro _; exact Nat.le_add_right (tot S) 3
  · exact few_no (by decide) _
theorem few_cut (F : Frm) (S : Sto) (a : Chr) : Few S (cutD F S a) := by
  unfold cutD
  repeat' split
  all_goals first
    | exact few_no (by decide) _
    | (intro _; simp only [tot, ptot_append, ptot, List.length_cons, List.length_nil]; omega)
theorem few_dry {F : Frm} {S : Sto} (hE : storeE F S = 0) (a : Chr) : Few S (dryD S a) := by
  unfold dryD
  split
  · exact few_no (by decide) _
  next h0 =>
  obtain ⟨x, hx, hh, _, _⟩ := heap_at hE h0
  rw [hh]
  repeat' split
  all_goals first
    | exact few_no (by decide) _
    | (intro _
       have h1 := ptot_set S.heaps _ x { x with wlo := moistM (x.wlo - 20 * a.days + 5 * a.rlo), whi := moistM (x.whi - 10 * a.days + 15 * a.rhi) } hx
       simp only [tot] at h1 ⊢
       omega)
theorem few_comb {F : Frm} {S : Sto} (hE : storeE F S = 0) (a : Chr) : Few S (combD F S a) := by
  unfold combD
  split
  · exact few_no (by decide) _
  next h0 =>
  obtain ⟨x, hx, hh, hp, _⟩ := heap_at hE h0
  rw [hh]
  split
  · exact few_no (by decide) _
  split
  · exact few_no (by decide) _
  next h2 =>
  have h3 := (isFromB_iff.1 (by simpa using h2)).1
  intro _
  have hil := (List.getElem?_eq_some_iff.1 hx).1
  have h1 := ptot_set S.heaps _ x { x with stage := 2 } hx
  have h4 := ptot_move (l := S.heaps.set (idxH S.heaps a.name).toNat { x with stage := 2 }) (i := (idxH S.heaps a.name).toNat) (x := { x with stage := 2 }) (n := a.loads) (by simp [hil]) hp h3
  have h5 := putL_le S.waste (cutT a.loads x.parts)
  simp only [tot] at h1 h4 h5 ⊢
  omega
theorem few_join {F : Frm} {S : Sto} (hE : storeE F S = 0) (a : Chr) : Few S (joinD S a) := by
  unfold joinD
  split
  · exact few_no (by decide) _
  next h0 =>
  split
  · exact few_no (by decide) _
  next h1 =>
  split
  · exact few_no (by decide) _
  next h2 =>
  obtain ⟨x, hx, hh, _, _⟩ := heap_at hE h0
  obtain ⟨y, hy, hk, _, _⟩ := heap_at hE h1
  rw [hh, hk]
  split
  · exact few_no (by decide) _
  intro _
  have h3 := ptot_set S.heaps _ x { x with parts := putL x.parts y.parts, wlo := min x.wlo y.wlo, whi := max x.whi y.whi } hx
  have hne : (idxH S.heaps a.name).toNat ≠ (idxH S.heaps a.other).toNat := by omega
  have h4 := ptot_erase (S.heaps.set (idxH S.heaps a.name).toNat { x with parts := putL x.parts y.parts, wlo := min x.wlo y.wlo, whi := max x.whi y.whi }) (idxH S.heaps a.other).toNat y (by rw [List.getElem?_set_ne hne]; exact hy)
  have h5 := putL_le x.parts y.parts
  simp only [tot] at h3 h4 h5 ⊢
  omega
theorem few_bind {F : Frm} {S : Sto} (hE : storeE F S = 0) (a : Chr) : Few S (bindD F S a) := by
  unfold bindD
  split
  · exact few_no (by decide) _
  next h0 =>
  obtain ⟨x, hx, hh, hp, hl⟩ := heap_at hE h0
  rw [hh]
  split
  · exact few_no (by decide) _
  split
  · exact few_no (by decide) _
  split
  · exact few_no (by decide) _
  split
  · exact few_no (by decide) _
  next h4 =>
  have h5 := (isFromB_iff.1 (by simpa using h4)).1
  split
  · exact few_no (by decide) _
  split
  · exact few_no (by decide) _
  intro _
  have hr := (rem_of hl h5).2.2
  have h6 := ptot_move (n := loadsM x.parts - loadsM x.parts % a.per) hx hp (by omega)
  simp only [tot, ptot_append, ptot] at h6 ⊢
  omega
theorem few_use {F : Frm} {S : Sto} (hE : storeE F S = 0) (a : Chr) : Few S (useD S a) := by
  unfold useD
  split
  · exact few_no (by decide) _
  next h0 =>
  obtain ⟨x, hx, hh, hp, hl⟩ := heap_at hE h0
  rw [hh]
  split
  · exact few_no (by decide) _
  next h1 =>
  split
  · exact few_no (by decide) _
  next h2 =>
  have h3 := (isFromB_iff.1 (by simpa using h2)).1
  have hb := (store_ok hE).2.2.2.2 x (List.mem_of_getElem? hx)
  have hper : 1 ≤ x.per := by
    simp only [heapB, Bool.and_eq_true] at hb
    have h9 := hb.2.2.2.2.2.2.2
    rw [if_pos (by omega)] at h9
    simp only [Bool.and_eq_true] at h9
    exact (isFromB_iff.1 h9.1).1
  intro _
  have h4 := ptot_move (n := a.loads * x.per) hx hp (Int.mul_nonneg (by omega) (by omega))
  have h5 := putL_le S.used (cutT (a.loads * x.per) x.parts)
  simp only [tot] at h4 h5 ⊢
  omega
theorem few_rot {F : Frm} {S : Sto} (hE : storeE F S = 0) (a : Chr) : Few S (rotD F S a) := by
  unfold rotD
  split
  · exact few_no (by decide) _
  next h0 =>
  obtain ⟨x, hx, hh, hp, hl⟩ := heap_at hE h0
  rw [hh]
  split
  · exact few_no (by decide) _
  intro _
  have h4 := ptot_move (n := loadsM x.parts) hx hp hl
  have h5 := putL_le S.waste (cutT (loadsM x.parts) x.parts)
  simp only [tot] at h4 h5 ⊢
  omega
theorem few_do (F : Frm) (S : Sto) (a : Chr) : Few S (doD F S a) := by
  by_cases hE : storeE F S = 0
  · rw [doD_step hE]
    unfold stepD
    split
    · exact few_no (by decide) _
    · unfold choreD
      repeat' split
      · exact few_year S
      · exact few_cut F S a
      · exact few_dry hE a
      · exact few_comb hE a
      · exact few_join hE a
      · exact few_bind hE a
      · exact few_use hE a
      · exact few_rot hE a
  · rw [doD_err hE]
    exact few_no hE _
theorem same_tot {S T : Sto} (h : SameSto S T) : tot S = tot T := by
  unfold tot
  rw [h.used, h.waste]
  congr 1
  have key : ∀ {l m : List Hep}, sameH l m → ptot l = ptot m := fun {l m} h => by
    induction l generalizing m with
    | nil => cases m with
      | nil => rfl
      | cons _ _ => have := h.1; simp at this
    | cons x l ih => cases m with
      | nil => have := h.1; simp at this
      | cons y m =>
        obtain ⟨h1, h2⟩ := sameH_cons h
        simp only [ptot, h1.parts, ih h2]
  exact key h.sameH
end
end Go.Proofs.Ytghepojnimlafaa
namespace Go.Proofs.Ytghepojnimlafaa
section
open Go.RowKit

theorem leftM_set (i : Int) : ∀ (l : List Hep) (k : Nat) (x y : Hep), l[k]? = some x → leftM i (l.set k y) + ofM i x.parts = leftM i l + ofM i y.parts := by
  intro l
  induction l with
  | nil => intro k x y h; simp at h
  | cons z l ih =>
    intro k x y h
    cases k with
    | zero =>
      simp only [List.getElem?_cons_zero, Option.some.injEq] at h
      subst h
      simp only [List.set_cons_zero, leftM]
      omega
    | succ k =>
      have := ih k x y (by simpa using h)
      simp only [List.set_cons_succ, leftM]
      omega
theorem leftM_erase (i : Int) : ∀ (l : List Hep) (k : Nat) (x : Hep), l[k]? = some x → leftM i (l.eraseIdx k) + ofM i x.parts = leftM i l := by
  intro l
  induction l with
  | nil => intro k x h; simp at h
  | cons z l ih =>
    intro k x h
    cases k with
    | zero =>
      simp only [List.getElem?_cons_zero, Option.some.injEq] at h
      subst h
      simp only [List.eraseIdx_cons_zero, leftM]
      omega
    | succ k =>
      have := ih k x (by simpa using h)
      simp only [List.eraseIdx_cons_succ, leftM]
      omega
theorem leftM_move (i : Int) {l : List Hep} {k : Nat} {x : Hep} {n : Int} (hx : l[k]? = some x) (h : ∀ p ∈ x.parts, 1 ≤ p.loads) (hn : 0 ≤ n) : leftM i (moveH l k n) + ofM i (cutT n x.parts) = leftM i l := by
  have hc := ofM_cut i h hn
  unfold moveH
  rw [hx]
  simp only
  split
  · next e =>
    rw [e] at hc
    have := leftM_erase i l k x hx
    simp only [ofM] at hc
    omega
  · have := leftM_set i l k x { x with parts := cutR n x.parts } hx
    simp only at this
    omega

theorem strB_comm (a b : ByteArray) : strB a b = strB b a := by unfold strB; exact BEq.comm
/-- Heaps as they may be. -/
structure GoodH (ps : List Plt) (l : List Hep) : Prop where
  few : l.length ≤ 16
  each : ∀ h ∈ l, heapB ps h = true
  apart : ∀ (i j : Nat) (x y : Hep), l[i]? = some x → l[j]? = some y → i < j → strB x.name y.name = false
theorem goodH_of {ps : List Plt} {l : List Hep} (h : heapsB ps l = true) : GoodH ps l := by
  refine ⟨by simp only [heapsB, Bool.and_eq_true, decide_eq_true_eq] at h; exact h.1, heapsB_heap h, fun i j x y hx hy hij => ?_⟩
  rw [Bool.eq_false_iff]
  intro hs
  have := heapsB_no (ps := ps) (List.getElem?_eq_some_iff.1 hy).1 (heapAt_dup hy hx hij hs)
  rw [h] at this
  cases this
theorem GoodH.is {ps : List Plt} {l : List Hep} (g : GoodH ps l) : heapsB ps l = true := by
  refine heapsB_yes g.few fun i hi => (heapAt_yes (List.getElem?_eq_getElem hi) fun f hf => ?_).trans (g.each _ (List.getElem_mem hi))
  obtain ⟨j, hj, rfl⟩ := List.getElem_of_mem hf
  rw [List.length_take] at hj
  rw [List.getElem_take]
  exact g.apart j i _ _ (List.getElem?_eq_getElem (by omega)) (List.getElem?_eq_getElem hi) (by omega)
theorem GoodH.set {ps : List Plt} {l : List Hep} (g : GoodH ps l) {k : Nat} {x y : Hep} (hk : l[k]? = some x) (hn : y.name = x.name) (hy : heapB ps y = true) : GoodH ps (l.set k y) := by
  have key : ∀ (i : Nat) (a : Hep), (l.set k y)[i]? = some a → ∃ b, l[i]? = some b ∧ b.name = a.name := by
    intro i a ha
    rw [List.getElem?_set] at ha
    split at ha
    · next e =>
      subst e
      split at ha
      · cases ha; exact ⟨x, hk, hn.symm⟩
      · cases ha
    · exact ⟨a, ha, rfl⟩
  refine ⟨by simpa using g.few, fun h hh => ?_, fun i j a b ha hb hij => ?_⟩
  · rcases List.mem_or_eq_of_mem_set hh with hh | rfl
    · exact g.each h hh
    · exact hy
  · obtain ⟨a', ha', ea⟩ := key i a ha
    obtain ⟨b', hb', eb⟩ := key j b hb
    rw [← ea, ← eb]
    exact g.apart i j a' b' ha' hb' hij
theorem GoodH.erase {ps : List Plt} {l : List Hep} (g : GoodH ps l) (k : Nat) : GoodH ps (l.eraseIdx k) := by
  refine ⟨Nat.le_trans (List.length_eraseIdx_le l k) g.few, fun h hh => g.each h (List.mem_of_mem_eraseIdx hh), fun i j a b ha hb hij => ?_⟩
  rw [List.getElem?_eraseIdx] at ha hb
  split at ha <;> split at hb
  · exact g.apart _ _ a b ha hb hij
  · exact g.apart _ _ a b ha hb (by omega)
  · exact g.apart _ _ a b ha hb (by omega)
  · exact g.apart _ _ a b ha hb (by omega)
theorem GoodH.snoc {ps : List Plt} {l : List Hep} (g : GoodH ps l) (hl : l.length < 16) {y : Hep} (hy : heapB ps y = true) (hn : idxH l y.name < 0) : GoodH ps (l ++ [y]) := by
  have hno : ∀ x ∈ l, strB x.name y.name = false := fun x hx => by
    rw [Bool.eq_false_iff]
    intro hs
    obtain ⟨i, hi, rfl⟩ := List.getElem_of_mem hx
    have := of_decide_eq_true (idxH_some (List.getElem?_eq_getElem hi) hs)
    omega
  refine ⟨by simp; omega, fun h hh => ?_, fun i j a b ha hb hij => ?_⟩
  · rcases List.mem_append.1 hh with hh | hh
    · exact g.each h hh
    · obtain rfl := List.mem_singleton.1 hh; exact hy
  · have hj : j < (l ++ [y]).length := (List.getElem?_eq_some_iff.1 hb).1
    rw [List.length_append, List.length_singleton] at hj
    rw [List.getElem?_append_left (by omega)] at ha
    rcases Nat.lt_or_ge j l.length with hj2 | hj2
    · rw [List.getElem?_append_left hj2] at hb
      exact g.apart i j a b ha hb hij
    · rw [List.getElem?_append_right hj2, show j - l.length = 0 by omega] at hb
      simp only [List.getElem?_cons_zero, Option.some.injEq] at hb
      subst hb
      exact hno a (List.mem_of_getElem? ha)
theorem heapB_iff {ps : List Plt} {h : Hep} : heapB ps h = true ↔ nameB h.name = true ∧ isFromB h.crop 1 3 = true ∧ isFromB h.stage 1 3 = true ∧ isSpanB h.wlo h.whi 0 1000 = true ∧ h.parts ≠ [] ∧ partsB ps.length h.parts = true ∧ cropsB ps h.crop h.parts = true ∧
    (if h.stage = 3 then isFromB h.per 1 100 = true ∧ loadsM h.parts % h.per = 0 else h.per = 0) := by
  unfold heapB
  by_cases h3 : h.stage = 3
  · simp [h3]
  · simp [h3]
theorem crops_iff {ps : List Plt} {c : Int} {l : List Prt} : cropsB ps c l = true ↔ ∀ p ∈ l, cropAt ps p.plot = c := by simp [cropsB, offB]
theorem parts_of {n : Nat} {l : List Prt} (h1 : ∀ p ∈ l, 1 ≤ p.loads) (h2 : ∀ p ∈ l, 0 ≤ p.plot ∧ p.plot < n) (h3 : ∀ i : Int, ofM i l ≤ 100000) (ha : ap none l) : partsB n l = true :=
  partsB_of (fun p hp => ⟨h2 p hp, h1 p hp, Int.le_trans (le_of h1 p hp).1 (h3 p.plot)⟩) ha
end
end Go.Proofs.Ytghepojnimlafaa
