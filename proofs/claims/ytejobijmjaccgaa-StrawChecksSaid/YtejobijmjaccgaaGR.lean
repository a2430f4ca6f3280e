/- StrawChecks' walk. -/
import Derived.Test.YtejobijmjaccgaaGO
import Derived.Test.YtejobijmjaccgaaGQ
import Derived.Test.YtejobijmjaccgaaGJ
import Derived.Test.YtejobijmjaccgaaFH
namespace Go.Proofs.Ytejobijmjaccgaa
open Go.RowKit

/-- How many fields the first store has. -/
def firstN (F : Frm) : Nat := if checkE F = 0 then F.ps.length else 0
theorem new_first {F : Frm} {e : Ending} {w' : World} (h : NewSaid F e w') : ∃ K1 K2 c1 c2, e = .returned (.tuple #[.agg #[.int .i64 0, .slice K1 (firstN F) c1, .slice K2 (firstN F) c2, .slice none 0 0, .slice none 0 0, .slice none 0 0], .int .i64 (checkE F)]) ∧ IsNums w' K1 c1 (List.replicate (firstN F) (-1)) ∧ IsNums w' K2 c2 (List.replicate (firstN F) 0) := by
  rcases h with ⟨hE, rfl⟩ | ⟨hE, v, rfl, K1, K2, c1, c2, rfl, h1, h2⟩
  · have hf : firstN F = 0 := if_neg hE
    rw [hf]
    exact ⟨none, none, 0, 0, rfl, .inl rfl, .inl rfl⟩
  · have hf : firstN F = F.ps.length := if_pos hE
    rw [hf, hE]
    exact ⟨K1, K2, c1, c2, rfl, h1, h2⟩
theorem isNil {α : Type} {sz : Nat} {At : World → Nat → Nat → α → Prop} {w : World} : IsRow sz At w none 0 ([] : List α) := .inl rfl
theorem sameFirst_any (n : Nat) (K1 K2 L1 L2 : Option Addr) (c1 c2 e1 e2 : Nat) (w : World) (h1 : IsNums w K1 c1 (List.replicate n (-1))) (h2 : IsNums w K2 c2 (List.replicate n 0)) (h3 : IsNums w L1 e1 (List.replicate n (-1))) (h4 : IsNums w L2 e2 (List.replicate n 0)) :
    Calls Try.prog 12 #[.agg #[.int .i64 0, .slice K1 n c1, .slice K2 n c2, .slice none 0 0, .slice none 0 0, .slice none 0 0], .agg #[.int .i64 0, .slice L1 n e1, .slice L2 n e2, .slice none 0 0, .slice none 0 0, .slice none 0 0]] w fun e w' => e = .returned (.bool true) ∧ Below w.heap.size w w' := by
  have := sameStore_any ⟨0, K1, c1, List.replicate n (-1), K2, c2, List.replicate n 0, none, 0, [], none, 0, [], none, 0, []⟩ ⟨0, L1, e1, List.replicate n (-1), L2, e2, List.replicate n 0, none, 0, [], none, 0, [], none, 0, []⟩ w
    ⟨h1, h2, isNil, isNil, isNil⟩ ⟨h3, h4, isNil, isNil, isNil⟩ ⟨rfl, rfl, rfl, rfl, rfl, rfl, fun i g h hg => by simp at hg⟩
  unfold stoV at this
  simpa only [List.length_replicate, List.length_nil] using this

set_option maxRecDepth 100000 in
set_option maxHeartbeats 8000000 in
theorem checksLaw_any (F : Frm) (S : Sto) (w : World) (hF : IsFarm w F) (hS : IsStore w S) :
    Calls Try.prog 3 #[.agg #[.slice F.pa F.ps.length F.pc, .int .i64 F.dry], .agg #[.int .i64 S.year, .slice S.la S.last.length S.lc, .slice S.ga S.given.length S.gc, .slice S.ha S.heaps.length S.hc, .slice S.ua S.used.length S.uc, .slice S.wa S.waste.length S.wc]] w
      fun e w' => e = .returned (.bool true) ∧ Below w.heap.size w w' := by
  have HF := Lib.hid hF
  have HS := Lib.hid hS
  clear hF hS
  have kB := (Blk.new w 24 #[.slice F.pa F.ps.length F.pc, .int .i64 F.dry]).alloc (.cells #[.int .i64 S.year, .slice S.la S.last.length S.lc, .slice S.ga S.given.length S.gc, .slice S.ha S.heaps.length S.hc, .slice S.ua S.used.length S.uc, .slice S.wa S.waste.length S.wc] 29)
  have kD := Blk.new (w.alloc (.cells #[.slice F.pa F.ps.length F.pc, .int .i64 F.dry] 24)) 29 #[.int .i64 S.year, .slice S.la S.last.length S.lc, .slice S.ga S.given.length S.gc, .slice S.ha S.heaps.length S.hc, .slice S.ua S.used.length S.uc, .slice S.wa S.waste.length S.wc]
  have hB : Below w.heap.size w ((w.alloc (.cells #[.slice F.pa F.ps.length F.pc, .int .i64 F.dry] 24)).alloc (.cells #[.int .i64 S.year, .slice S.la S.last.length S.lc, .slice S.ga S.given.length S.gc, .slice S.ha S.heaps.length S.hc, .slice S.ua S.used.length S.uc, .slice S.wa S.waste.length S.wc] 29)) := ((Below.refl _ w).alloc (by simp) _).alloc (by simp) _
  simp only [World.size_alloc] at kD
  go_enter Try.func3, Try.ntmps3
  go_upto_region 1 with fail
  generalize ((w.alloc (.cells #[.slice F.pa F.ps.length F.pc, .int .i64 F.dry] 24)).alloc (.cells #[.int .i64 S.year, .slice S.la S.last.length S.lc, .slice S.ga S.given.length S.gc, .slice S.ha S.heaps.length S.hc, .slice S.ua S.used.length S.uc, .slice S.wa S.waste.length S.wc] 29)) = w1 at *
  have lF := kB.lt
  have lS := kD.lt
  obtain ⟨f0, f1⟩ := frm_cells kB
  obtain ⟨d0, d1, d2, d3, d4, d5⟩ := sto_cells kD
  have KB1 := Lib.hid kB
  have KD1 := Lib.hid kD
  have HB1 := Lib.hid hB
  clear kB kD hB
  go_wp2_with fail
  refine (great_any F _ (HF.out.below HB1.out)).mono ?_
  rintro e w2 ⟨⟨gb, rfl⟩, hb⟩
  have HB2 := Lib.hid (HB1.out.trans (hb.mono HB1.out.size))
  have KB2 := Lib.hid (KB1.out.belowS hb)
  have KD2 := Lib.hid (KD1.out.belowS hb)
  clear f0 f1 d0 d1 d2 d3 d4 d5 lF lS hb
  cases gb with
  | true =>
    go_wp2_with fail
    refine (lives_any _).mono ?_
    rintro e w3 ⟨rfl, hb3⟩
    go_wp2_with fail
    go_ret
    exact ⟨rfl, HB2.out.trans (hb3.mono HB2.out.size)⟩
  | false =>
  have lF := KB2.out.lt
  have lS := KD2.out.lt
  obtain ⟨f0, f1⟩ := frm_cells KB2.out
  obtain ⟨d0, d1, d2, d3, d4, d5⟩ := sto_cells KD2.out
  go_wp2_with fail
  refine (wide_any S _ (HS.out.below HB2.out)).mono ?_
  rintro e w3 ⟨⟨wb, rfl, hfit⟩, hb⟩
  have HB3 := Lib.hid (HB2.out.trans (hb.mono HB2.out.size))
  have KB3 := Lib.hid (KB2.out.belowS hb)
  have KD3 := Lib.hid (KD2.out.belowS hb)
  clear f0 f1 d0 d1 d2 d3 d4 d5 lF lS hb
  cases wb with
  | true =>
    go_wp2_with fail
    refine (lives_any _).mono ?_
    rintro e w4 ⟨rfl, hb3⟩
    go_wp2_with fail
    go_ret
    exact ⟨rfl, HB3.out.trans (hb3.mono HB3.out.size)⟩
  | false =>
  have HFIT := Lib.hid (hfit rfl)
  clear hfit
  have lF := KB3.out.lt
  have lS := KD3.out.lt
  obtain ⟨f0, f1⟩ := frm_cells KB3.out
  obtain ⟨d0, d1, d2, d3, d4, d5⟩ := sto_cells KD3.out
  go_wp2_with fail
  refine (new_any F _ (HF.out.below HB3.out)).mono ?_
  rintro e w4 ⟨hsaid, hb⟩
  obtain ⟨K1, K2, c1, c2, rfl, hK1, hK2⟩ := new_first hsaid
  have HB4 := Lib.hid (HB3.out.trans (hb.mono HB3.out.size))
  have kB4 := KB3.out.belowS hb
  have kD4 := KD3.out.belowS hb
  clear f0 f1 d0 d1 d2 d3 d4 d5 lF lS hb hsaid
  generalize hE : checkE F = E at *
  have HE := Lib.hid hE
  clear hE
  have kA := Blk.new w4 29 #[.int .i64 0, .slice K1 (firstN F) c1, .slice K2 (firstN F) c2, .slice none 0 0, .slice none 0 0, .slice none 0 0]
  have kB5 := kB4.alloc (.cells #[.int .i64 0, .slice K1 (firstN F) c1, .slice K2 (firstN F) c2, .slice none 0 0, .slice none 0 0, .slice none 0 0] 29)
  have kD5 := kD4.alloc (.cells #[.int .i64 0, .slice K1 (firstN F) c1, .slice K2 (firstN F) c2, .slice none 0 0, .slice none 0 0, .slice none 0 0] 29)
  have hb5 : Below w4.heap.size w4 (w4.alloc (.cells #[.int .i64 0, .slice K1 (firstN F) c1, .slice K2 (firstN F) c2, .slice none 0 0, .slice none 0 0, .slice none 0 0] 29)) := (Below.refl _ w4).alloc (Nat.le_refl _) _
  go_upto_region 4 with fail
  generalize w4.alloc (.cells #[.int .i64 0, .slice K1 (firstN F) c1, .slice K2 (firstN F) c2, .slice none 0 0, .slice none 0 0, .slice none 0 0] 29) = w5 at *
  have HB5 := Lib.hid (HB4.out.trans (hb5.mono HB4.out.size))
  have HK1 := Lib.hid (hK1.belowS hb5)
  have HK2 := Lib.hid (hK2.belowS hb5)
  have lF := kB5.lt
  obtain ⟨f0, f1⟩ := frm_cells kB5
  have KA5 := Lib.hid kA
  have KB5 := Lib.hid kB5
  have KD5 := Lib.hid kD5
  clear kA kB5 kD5 kB4 kD4 hb5 hK1 hK2
  go_wp2_with fail
  refine (refNew_any F _ (HF.out.below HB5.out)).mono ?_
  rintro e w6 ⟨hsaid, hb⟩
  obtain ⟨L1, L2, e1, e2, rfl, hL1, hL2⟩ := new_first hsaid
  rw [HE.out]
  have HB6 := Lib.hid (HB5.out.trans (hb.mono HB5.out.size))
  have hb8 : Below w6.heap.size w6 (w6.alloc (.cells #[.int .i64 0, .slice L1 (firstN F) e1, .slice L2 (firstN F) e2, .slice none 0 0, .slice none 0 0, .slice none 0 0] 29)) := (Below.refl _ w6).alloc (Nat.le_refl _) _
  have kB := Blk.new w6 29 #[.int .i64 0, .slice L1 (firstN F) e1, .slice L2 (firstN F) e2, .slice none 0 0, .slice none 0 0, .slice none 0 0]
  have kA := (KA5.out.belowS hb).alloc (.cells #[.int .i64 0, .slice L1 (firstN F) e1, .slice L2 (firstN F) e2, .slice none 0 0, .slice none 0 0, .slice none 0 0] 29)
  have kF := (KB5.out.belowS hb).alloc (.cells #[.int .i64 0, .slice L1 (firstN F) e1, .slice L2 (firstN F) e2, .slice none 0 0, .slice none 0 0, .slice none 0 0] 29)
  have kS := (KD5.out.belowS hb).alloc (.cells #[.int .i64 0, .slice L1 (firstN F) e1, .slice L2 (firstN F) e2, .slice none 0 0, .slice none 0 0, .slice none 0 0] 29)
  have HK3 := Lib.hid ((HK1.out.belowS hb).belowS hb8)
  have HK4 := Lib.hid ((HK2.out.belowS hb).belowS hb8)
  have HL1 := Lib.hid (hL1.belowS hb8)
  have HL2 := Lib.hid (hL2.belowS hb8)
  have HB9 := Lib.hid (HB6.out.trans (hb8.mono HB6.out.size))
  clear f0 f1 lF hb hsaid hL1 hL2
  go_upto_region 5 with fail
  generalize w6.alloc (.cells #[.int .i64 0, .slice L1 (firstN F) e1, .slice L2 (firstN F) e2, .slice none 0 0, .slice none 0 0, .slice none 0 0] 29) = v9 at *
  generalize w4.heap.size = A at *
  generalize w6.heap.size = B at *
  have lF := kF.lt
  have lS := kS.lt
  have lA := kA.lt
  have lB := kB.lt
  have f0 := kF.cell 0
  have f1 := kF.cell 1
  have d0 := kS.cell 0; have d1 := kS.cell 1; have d2 := kS.cell 2; have d3 := kS.cell 3; have d4 := kS.cell 4; have d5 := kS.cell 5; have a0 := kA.cell 0; have a1 := kA.cell 1; have a2 := kA.cell 2; have a3 := kA.cell 3; have a4 := kA.cell 4; have a5 := kA.cell 5; have b0 := kB.cell 0; have b1 := kB.cell 1; have b2 := kB.cell 2; have b3 := kB.cell 3; have b4 := kB.cell 4; have b5 := kB.cell 5
  simp only [List.getElem?_toArray, List.getElem?_cons_zero, List.getElem?_cons_succ] at f0 f1 d0 d1 d2 d3 d4 d5 a0 a1 a2 a3 a4 a5 b0 b1 b2 b3 b4 b5
  have hch : ∀ w', Below v9.heap.size v9 w' → Calls Try.prog 10 #[.agg #[.slice F.pa F.ps.length F.pc, .int .i64 F.dry]] w' fun e w'' => e = .returned (.int .i64 E) ∧ Below w'.heap.size w' w'' := fun w' h => (check_any F w' (HF.out.below (HB9.out.trans (h.mono HB9.out.size)))).mono fun _ _ ⟨x, y⟩ => ⟨by rw [x, HE.out], y⟩
  have hrc : ∀ w', Below v9.heap.size v9 w' → Calls Try.prog 11 #[.agg #[.slice F.pa F.ps.length F.pc, .int .i64 F.dry]] w' fun e w'' => e = .returned (.int .i64 E) ∧ Below w'.heap.size w' w'' := fun w' h => (refCheck_any F w' (HF.out.below (HB9.out.trans (h.mono HB9.out.size)))).mono fun _ _ ⟨x, y⟩ => ⟨by rw [x, HE.out], y⟩
  have hss : ∀ w', Below v9.heap.size v9 w' → Calls Try.prog 12 #[.agg #[.int .i64 0, .slice K1 (firstN F) c1, .slice K2 (firstN F) c2, .slice none 0 0, .slice none 0 0, .slice none 0 0], .agg #[.int .i64 0, .slice L1 (firstN F) e1, .slice L2 (firstN F) e2, .slice none 0 0, .slice none 0 0, .slice none 0 0]] w' fun e w'' => e = .returned (.bool true) ∧ Below w'.heap.size w' w'' := fun w' h => sameFirst_any _ _ _ _ _ _ _ _ _ w' (HK3.out.belowS h) (HK4.out.belowS h) (HL1.out.belowS h) (HL2.out.belowS h)
  obtain ⟨M, hM⟩ : ∃ M, storeE F S = M := ⟨_, rfl⟩
  have hcs : ∀ w', Below v9.heap.size v9 w' → Calls Try.prog 13 #[.agg #[.slice F.pa F.ps.length F.pc, .int .i64 F.dry], .agg #[.int .i64 S.year, .slice S.la S.last.length S.lc, .slice S.ga S.given.length S.gc, .slice S.ha S.heaps.length S.hc, .slice S.ua S.used.length S.uc, .slice S.wa S.waste.length S.wc]] w' fun e w'' => e = .returned (.int .i64 M) ∧ Below w'.heap.size w' w'' := fun w' h => (checkStore_any F S w' (HF.out.below (HB9.out.trans (h.mono HB9.out.size))) (HS.out.below (HB9.out.trans (h.mono HB9.out.size))) HFIT.out).mono fun _ _ ⟨x, y⟩ => ⟨by rw [x, hM], y⟩
  have hrs : ∀ w', Below v9.heap.size v9 w' → Calls Try.prog 14 #[.agg #[.slice F.pa F.ps.length F.pc, .int .i64 F.dry], .agg #[.int .i64 S.year, .slice S.la S.last.length S.lc, .slice S.ga S.given.length S.gc, .slice S.ha S.heaps.length S.hc, .slice S.ua S.used.length S.uc, .slice S.wa S.waste.length S.wc]] w' fun e w'' => e = .returned (.int .i64 M) ∧ Below w'.heap.size w' w'' := fun w' h => (refCheckStore_any F S w' (HF.out.below (HB9.out.trans (h.mono HB9.out.size))) (HS.out.below (HB9.out.trans (h.mono HB9.out.size))) HFIT.out).mono fun _ _ ⟨x, y⟩ => ⟨by rw [x, hM], y⟩
  have HCH := Lib.hid hch
  have HRC := Lib.hid hrc
  have HSS := Lib.hid hss
  have HCS := Lib.hid hcs
  have HRS := Lib.hid hrs
  have hstep : ∀ w', Below v9.heap.size v9 w' → Below v9.heap.size v9 w' ∧ (w'.cell? ⟨w.heap.size, 0, none⟩ = some (.slice F.pa F.ps.length F.pc) ∧ w'.cell? ⟨w.heap.size, 1, none⟩ = some (.int .i64 F.dry) ∧ w'.cell? ⟨w.heap.size + 1, 0, none⟩ = some (.int .i64 S.year) ∧ w'.cell? ⟨w.heap.size + 1, 1, none⟩ = some (.slice S.la S.last.length S.lc) ∧ w'.cell? ⟨w.heap.size + 1, 2, none⟩ = some (.slice S.ga S.given.length S.gc) ∧ w'.cell? ⟨w.heap.size + 1, 3, none⟩ = some (.slice S.ha S.heaps.length S.hc) ∧ w'.cell? ⟨w.heap.size + 1, 4, none⟩ = some (.slice S.ua S.used.length S.uc) ∧ w'.cell? ⟨w.heap.size + 1, 5, none⟩ = some (.slice S.wa S.waste.length S.wc) ∧ w'.cell? ⟨A, 0, none⟩ = some (.int .i64 0) ∧ w'.cell? ⟨A, 1, none⟩ = some (.slice K1 (firstN F) c1) ∧ w'.cell? ⟨A, 2, none⟩ = some (.slice K2 (firstN F) c2) ∧ w'.cell? ⟨A, 3, none⟩ = some (.slice none 0 0) ∧ w'.cell? ⟨A, 4, none⟩ = some (.slice none 0 0) ∧ w'.cell? ⟨A, 5, none⟩ = some (.slice none 0 0) ∧ w'.cell? ⟨B, 0, none⟩ = some (.int .i64 0) ∧ w'.cell? ⟨B, 1, none⟩ = some (.slice L1 (firstN F) e1) ∧ w'.cell? ⟨B, 2, none⟩ = some (.slice L2 (firstN F) e2) ∧ w'.cell? ⟨B, 3, none⟩ = some (.slice none 0 0) ∧ w'.cell? ⟨B, 4, none⟩ = some (.slice none 0 0) ∧ w'.cell? ⟨B, 5, none⟩ = some (.slice none 0 0)) := fun w' h => ⟨h, (h.cell (p := ⟨w.heap.size, 0, none⟩) lF).trans f0, (h.cell (p := ⟨w.heap.size, 1, none⟩) lF).trans f1, (h.cell (p := ⟨w.heap.size + 1, 0, none⟩) lS).trans d0, (h.cell (p := ⟨w.heap.size + 1, 1, none⟩) lS).trans d1, (h.cell (p := ⟨w.heap.size + 1, 2, none⟩) lS).trans d2, (h.cell (p := ⟨w.heap.size + 1, 3, none⟩) lS).trans d3, (h.cell (p := ⟨w.heap.size + 1, 4, none⟩) lS).trans d4, (h.cell (p := ⟨w.heap.size + 1, 5, none⟩) lS).trans d5, (h.cell (p := ⟨A, 0, none⟩) lA).trans a0, (h.cell (p := ⟨A, 1, none⟩) lA).trans a1, (h.cell (p := ⟨A, 2, none⟩) lA).trans a2, (h.cell (p := ⟨A, 3, none⟩) lA).trans a3, (h.cell (p := ⟨A, 4, none⟩) lA).trans a4, (h.cell (p := ⟨A, 5, none⟩) lA).trans a5, (h.cell (p := ⟨B, 0, none⟩) lB).trans b0, (h.cell (p := ⟨B, 1, none⟩) lB).trans b1, (h.cell (p := ⟨B, 2, none⟩) lB).trans b2, (h.cell (p := ⟨B, 3, none⟩) lB).trans b3, (h.cell (p := ⟨B, 4, none⟩) lB).trans b4, (h.cell (p := ⟨B, 5, none⟩) lB).trans b5⟩
  have HSTEP := Lib.hid hstep
  have q1 : (E == E) = true := by simp
  have q2 : (M == M) = true := by simp
  clear hch hrc hss hcs hrs hM hstep f0 f1 d0 d1 d2 d3 d4 d5 a0 a1 a2 a3 a4 a5 b0 b1 b2 b3 b4 b5 kA kB kF kS hb8
  go_region_held3 (fun w' => Below v9.heap.size v9 w' ∧ (w'.cell? ⟨w.heap.size, 0, none⟩ = some (.slice F.pa F.ps.length F.pc) ∧ w'.cell? ⟨w.heap.size, 1, none⟩ = some (.int .i64 F.dry) ∧ w'.cell? ⟨w.heap.size + 1, 0, none⟩ = some (.int .i64 S.year) ∧ w'.cell? ⟨w.heap.size + 1, 1, none⟩ = some (.slice S.la S.last.length S.lc) ∧ w'.cell? ⟨w.heap.size + 1, 2, none⟩ = some (.slice S.ga S.given.length S.gc) ∧ w'.cell? ⟨w.heap.size + 1, 3, none⟩ = some (.slice S.ha S.heaps.length S.hc) ∧ w'.cell? ⟨w.heap.size + 1, 4, none⟩ = some (.slice S.ua S.used.length S.uc) ∧ w'.cell? ⟨w.heap.size + 1, 5, none⟩ = some (.slice S.wa S.waste.length S.wc) ∧ w'.cell? ⟨A, 0, none⟩ = some (.int .i64 0) ∧ w'.cell? ⟨A, 1, none⟩ = some (.slice K1 (firstN F) c1) ∧ w'.cell? ⟨A, 2, none⟩ = some (.slice K2 (firstN F) c2) ∧ w'.cell? ⟨A, 3, none⟩ = some (.slice none 0 0) ∧ w'.cell? ⟨A, 4, none⟩ = some (.slice none 0 0) ∧ w'.cell? ⟨A, 5, none⟩ = some (.slice none 0 0) ∧ w'.cell? ⟨B, 0, none⟩ = some (.int .i64 0) ∧ w'.cell? ⟨B, 1, none⟩ = some (.slice L1 (firstN F) e1) ∧ w'.cell? ⟨B, 2, none⟩ = some (.slice L2 (firstN F) e2) ∧ w'.cell? ⟨B, 3, none⟩ = some (.slice none 0 0) ∧ w'.cell? ⟨B, 4, none⟩ = some (.slice none 0 0) ∧ w'.cell? ⟨B, 5, none⟩ = some (.slice none 0 0)))
    ((refine HSTEP.out _ ?_; repeat (first | (with_reducible exact Below.refl _ _) | (with_reducible refine bel_drew ?_) | (with_reducible refine bel_call ?_ hb5) | (with_reducible exact And.left (by with_reducible assumption)))))
    (first
      | (go_at_call 10; (with_reducible refine (HCH.out _ (And.left (by with_reducible assumption))).mono ?_); rintro r w3 ⟨rfl, hb5⟩)
      | (go_at_call 11; (with_reducible refine (HRC.out _ (And.left (by with_reducible assumption))).mono ?_); rintro r w3 ⟨rfl, hb5⟩)
      | (go_at_call 12; (with_reducible refine (HSS.out _ (And.left (by with_reducible assumption))).mono ?_); rintro r w3 ⟨rfl, hb5⟩)
      | (go_at_call 13; (with_reducible refine (HCS.out _ (And.left (by with_reducible assumption))).mono ?_); rintro r w3 ⟨rfl, hb5⟩)
      | (go_at_call 14; (with_reducible refine (HRS.out _ (And.left (by with_reducible assumption))).mono ?_); rintro r w3 ⟨rfl, hb5⟩)
      | (go_at_call 7; (with_reducible refine (lives_any _).mono ?_); rintro r w3 ⟨rfl, hb5⟩))
  all_goals
    go_wp2_with fail
    go_ret
    exact ⟨rfl, HB9.out.trans ((And.left (by with_reducible assumption) : Below v9.heap.size v9 _).mono HB9.out.size)⟩
end Go.Proofs.Ytejobijmjaccgaa
