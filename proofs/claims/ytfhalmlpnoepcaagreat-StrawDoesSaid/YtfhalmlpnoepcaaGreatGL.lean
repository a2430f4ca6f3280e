/- The specification's SameStore: of equal stores. -/
import Derived.Test.YtfhalmlpnoepcaaGreatGK
import Derived.Test.YtfhalmlpnoepcaaGreatGH
namespace Go.Proofs.YtfhalmlpnoepcaaGreat
open Go.RowKit

theorem bel_alloc {w w' : World} (h : Below w.heap.size w w') (o : Obj) : Below w.heap.size w (w'.alloc o) := h.alloc h.size o
theorem bel_call {w w' w2 : World} (h : Below w.heap.size w w') (hb : Below w'.heap.size w' w2) : Below w.heap.size w w2 := h.trans (hb.mono h.size)
theorem bel_drew {w w' : World} (h : Below w.heap.size w w') : Below w.heap.size w w'.drew := h.drew
theorem blk2_0 (w : World) (t : TypeId) (cs : Array Value) (o1 : Obj) : Blk ((w.alloc (.cells cs t)).alloc o1).drew w.heap.size cs t := ((Blk.new w t cs).alloc o1).drew
theorem blk2_1 (w : World) (t : TypeId) (cs : Array Value) (o1 : Obj) : Blk ((w.alloc o1).alloc (.cells cs t)).drew (w.heap.size + 1) cs t := by
  have := (Blk.new (w.alloc o1) t cs).drew
  rwa [World.size_alloc] at this
/-- Two heaps, two stores that read alike, wherever their lists lie. -/
structure SameHep (g h : Hep) : Prop where
  name : g.name = h.name
  crop : g.crop = h.crop
  stage : g.stage = h.stage
  parts : g.parts = h.parts
  per : g.per = h.per
  wlo : g.wlo = h.wlo
  whi : g.whi = h.whi
structure SameSto (S T : Sto) : Prop where
  year : S.year = T.year
  last : S.last = T.last
  given : S.given = T.given
  used : S.used = T.used
  waste : S.waste = T.waste
  many : S.heaps.length = T.heaps.length
  heaps : ∀ (i : Nat) (g h : Hep), S.heaps[i]? = some g → T.heaps[i]? = some h → SameHep g h

set_option maxRecDepth 100000 in
set_option maxHeartbeats 8000000 in
theorem sameStore_any (S T : Sto) (w : World) (hS : IsStore w S) (hT : IsStore w T) (hst : SameSto S T) :
    Calls Tryz.prog 10 #[stoV S, stoV T] w fun e w' => e = .returned (.bool true) ∧ Below w.heap.size w w' := by
  have hll := hS.heaps.len
  have HS := Lib.hid hS
  have HT := Lib.hid hT
  have hsh := hS.heaps
  have hth := hT.heaps
  obtain ⟨s1, s2, s3, s4, s5, s6, s7⟩ := hst
  have HH := Lib.hid s7
  have E1 := Lib.hid s2
  have E2 := Lib.hid s3
  have E3 := Lib.hid s4
  have E4 := Lib.hid s5
  have hl1 : T.last.length = S.last.length := by rw [s2]
  have hl2 : T.given.length = S.given.length := by rw [s3]
  have hl3 : T.used.length = S.used.length := by rw [s4]
  have hl4 : T.waste.length = S.waste.length := by rw [s5]
  clear hS hT s2 s3 s4 s5 s7
  unfold stoV
  rw [hl1, hl2, hl3, hl4, ← s6, ← s1]
  have H6 := Lib.hid s6
  generalize hga : S.ha = sha at *
  generalize hgb : T.ha = tha at *
  have HSH := Lib.hid hsh
  have HTH := Lib.hid hth
  clear s1 s6 hl1 hl2 hl3 hl4 hsh hth hga hgb
  have y0 : (S.year == S.year) = true := by simp
  have y1 : (S.year != S.year) = false := by simp
  have y2 : ((S.heaps.length : Int) == (S.heaps.length : Int)) = true := by simp
  have y3 : ((S.heaps.length : Int) != (S.heaps.length : Int)) = false := by simp
  have kB := (Blk.new w 29 #[.int .i64 S.year, .slice S.la S.last.length S.lc, .slice S.ga S.given.length S.gc, .slice sha S.heaps.length S.hc, .slice S.ua S.used.length S.uc, .slice S.wa S.waste.length S.wc]).alloc (.cells #[.int .i64 S.year, .slice T.la S.last.length T.lc, .slice T.ga S.given.length T.gc, .slice tha S.heaps.length T.hc, .slice T.ua S.used.length T.uc, .slice T.wa S.waste.length T.wc] 29)
  have kD := Blk.new (w.alloc (.cells #[.int .i64 S.year, .slice S.la S.last.length S.lc, .slice S.ga S.given.length S.gc, .slice sha S.heaps.length S.hc, .slice S.ua S.used.length S.uc, .slice S.wa S.waste.length S.wc] 29)) 29 #[.int .i64 S.year, .slice T.la S.last.length T.lc, .slice T.ga S.given.length T.gc, .slice tha S.heaps.length T.hc, .slice T.ua S.used.length T.uc, .slice T.wa S.waste.length T.wc]
  have hB : Below w.heap.size w ((w.alloc (.cells #[.int .i64 S.year, .slice S.la S.last.length S.lc, .slice S.ga S.given.length S.gc, .slice sha S.heaps.length S.hc, .slice S.ua S.used.length S.uc, .slice S.wa S.waste.length S.wc] 29)).alloc (.cells #[.int .i64 S.year, .slice T.la S.last.length T.lc, .slice T.ga S.given.length T.gc, .slice tha S.heaps.length T.hc, .slice T.ua S.used.length T.uc, .slice T.wa S.waste.length T.wc] 29)) := ((Below.refl _ w).alloc (by simp) _).alloc (by simp) _
  simp only [World.size_alloc] at kD
  go_enter Tryz.func10, Tryz.ntmps10
  go_upto_region 1 with fail
  generalize ((w.alloc (.cells #[.int .i64 S.year, .slice S.la S.last.length S.lc, .slice S.ga S.given.length S.gc, .slice sha S.heaps.length S.hc, .slice S.ua S.used.length S.uc, .slice S.wa S.waste.length S.wc] 29)).alloc (.cells #[.int .i64 S.year, .slice T.la S.last.length T.lc, .slice T.ga S.given.length T.gc, .slice tha S.heaps.length T.hc, .slice T.ua S.used.length T.uc, .slice T.wa S.waste.length T.wc] 29)) = w1 at *

  have lB := kB.lt
  have lD := kD.lt
  have b0 := kB.cell 0
  have b1 := kB.cell 1
  have b2 := kB.cell 2
  have b3 := kB.cell 3
  have b4 := kB.cell 4
  have b5 := kB.cell 5
  have d0 := kD.cell 0
  have d1 := kD.cell 1
  have d2 := kD.cell 2
  have d3 := kD.cell 3
  have d4 := kD.cell 4
  have d5 := kD.cell 5
  simp only [List.getElem?_toArray, List.getElem?_cons_zero, List.getElem?_cons_succ] at b0 b1 b2 b3 b4 b5 d0 d1 d2 d3 d4 d5
  go_wp2_with fail
  refine (refSameInts_any S.la T.la S.lc T.lc S.last _ (HS.out.below hB).last (by have := (HT.out.below hB).last; rw [← E1.out] at this; exact this)).mono ?_
  rintro e w2 ⟨rfl, hb⟩
  replace hB := hB.trans (hb.mono hB.size)
  replace kB := kB.belowS hb
  replace kD := kD.belowS hb
  clear lB lD b0 d0 b1 d1 b2 d2 b3 d3 b4 d4 b5 d5
  clear hb
  obtain ⟨w3, rfl⟩ : ∃ w3 : World, w3 = w2 := ⟨_, rfl⟩
  have lB := kB.lt
  have lD := kD.lt
  have b0 := kB.cell 0
  have b1 := kB.cell 1
  have b2 := kB.cell 2
  have b3 := kB.cell 3
  have b4 := kB.cell 4
  have b5 := kB.cell 5
  have d0 := kD.cell 0
  have d1 := kD.cell 1
  have d2 := kD.cell 2
  have d3 := kD.cell 3
  have d4 := kD.cell 4
  have d5 := kD.cell 5
  simp only [List.getElem?_toArray, List.getElem?_cons_zero, List.getElem?_cons_succ] at b0 b1 b2 b3 b4 b5 d0 d1 d2 d3 d4 d5
  go_wp2_with fail
  refine (refSameInts_any S.ga T.ga S.gc T.gc S.given _ (HS.out.below hB).given (by have := (HT.out.below hB).given; rw [← E2.out] at this; exact this)).mono ?_
  rintro e w2 ⟨rfl, hb⟩
  replace hB := hB.trans (hb.mono hB.size)
  replace kB := kB.belowS hb
  replace kD := kD.belowS hb
  clear lB lD b0 d0 b1 d1 b2 d2 b3 d3 b4 d4 b5 d5
  clear hb
  obtain ⟨w4, rfl⟩ : ∃ w4 : World, w4 = w2 := ⟨_, rfl⟩
  have lB := kB.lt
  have lD := kD.lt
  have b0 := kB.cell 0
  have b1 := kB.cell 1
  have b2 := kB.cell 2
  have b3 := kB.cell 3
  have b4 := kB.cell 4
  have b5 := kB.cell 5
  have d0 := kD.cell 0
  have d1 := kD.cell 1
  have d2 := kD.cell 2
  have d3 := kD.cell 3
  have d4 := kD.cell 4
  have d5 := kD.cell 5
  simp only [List.getElem?_toArray, List.getElem?_cons_zero, List.getElem?_cons_succ] at b0 b1 b2 b3 b4 b5 d0 d1 d2 d3 d4 d5
  go_wp2_with fail
  refine (refSameParts_any S.ua T.ua S.uc T.uc S.used _ (HS.out.below hB).used (by have := (HT.out.below hB).used; rw [← E3.out] at this; exact this)).mono ?_
  rintro e w2 ⟨rfl, hb⟩
  replace hB := hB.trans (hb.mono hB.size)
  replace kB := kB.belowS hb
  replace kD := kD.belowS hb
  clear lB lD b0 d0 b1 d1 b2 d2 b3 d3 b4 d4 b5 d5
  clear hb
  obtain ⟨w5, rfl⟩ : ∃ w5 : World, w5 = w2 := ⟨_, rfl⟩
  have lB := kB.lt
  have lD := kD.lt
  have b0 := kB.cell 0
  have b1 := kB.cell 1
  have b2 := kB.cell 2
  have b3 := kB.cell 3
  have b4 := kB.cell 4
  have b5 := kB.cell 5
  have d0 := kD.cell 0
  have d1 := kD.cell 1
  have d2 := kD.cell 2
  have d3 := kD.cell 3
  have d4 := kD.cell 4
  have d5 := kD.cell 5
  simp only [List.getElem?_toArray, List.getElem?_cons_zero, List.getElem?_cons_succ] at b0 b1 b2 b3 b4 b5 d0 d1 d2 d3 d4 d5
  go_wp2_with fail
  refine (refSameParts_any S.wa T.wa S.wc T.wc S.waste _ (HS.out.below hB).waste (by have := (HT.out.below hB).waste; rw [← E4.out] at this; exact this)).mono ?_
  rintro e w2 ⟨rfl, hb⟩
  replace hB := hB.trans (hb.mono hB.size)
  replace kB := kB.belowS hb
  replace kD := kD.belowS hb
  clear lB lD b0 d0 b1 d1 b2 d2 b3 d3 b4 d4 b5 d5
  clear hb
  obtain ⟨w6, rfl⟩ : ∃ w6 : World, w6 = w2 := ⟨_, rfl⟩
  have lB := kB.lt
  have lD := kD.lt
  have b0 := kB.cell 0
  have b1 := kB.cell 1
  have b2 := kB.cell 2
  have b3 := kB.cell 3
  have b4 := kB.cell 4
  have b5 := kB.cell 5
  have d0 := kD.cell 0
  have d1 := kD.cell 1
  have d2 := kD.cell 2
  have d3 := kD.cell 3
  have d4 := kD.cell 4
  have d5 := kD.cell 5
  simp only [List.getElem?_toArray, List.getElem?_cons_zero, List.getElem?_cons_succ] at b0 b1 b2 b3 b4 b5 d0 d1 d2 d3 d4 d5
  go_wp2_with fail
  clear lB lD b0 d0 b1 d1 b2 d2 b3 d3 b4 d4 b5 d5
  go_loopw [5, 6, 7] (fun i _ _ wr => ∃ j : Nat, j ≤ S.heaps.length ∧ i = .int .i64 j ∧ Blk wr w.heap.size #[.int .i64 S.year, .slice S.la S.last.length S.lc, .slice S.ga S.given.length S.gc, .slice sha S.heaps.length S.hc, .slice S.ua S.used.length S.uc, .slice S.wa S.waste.length S.wc] 29 ∧ Blk wr (w.heap.size + 1) #[.int .i64 S.year, .slice T.la S.last.length T.lc, .slice T.ga S.given.length T.gc, .slice tha S.heaps.length T.hc, .slice T.ua S.used.length T.uc, .slice T.wa S.waste.length T.wc] 29 ∧ Below w.heap.size w wr) (fun i _ _ _ => S.heaps.length - (intOf i).toNat)
  case atStart => exact ⟨0, Nat.zero_le _, rfl, kB, kD, hB⟩
  case round =>
    obtain ⟨j, hj, rfl, gB, gD, hb⟩ := hrel
    clear kB kD hB
    have b3 := gB.cell 3
    have d3 := gD.cell 3
    have lB := gB.lt
    have lD := gD.lt
    simp only [List.getElem?_toArray, List.getElem?_cons_zero, List.getElem?_cons_succ] at b3 d3
    by_cases hlj : j < S.heaps.length
    · have hq : S.heaps[j]? = some S.heaps[j] := List.getElem?_eq_getElem hlj
      have hq2 : T.heaps[j]? = some (T.heaps[j]'(by rw [← H6.out]; exact hlj)) := List.getElem?_eq_getElem (by rw [← H6.out]; exact hlj)
      obtain ⟨e1, e2, e3, e4, e5, e6, e7⟩ := HH.out j _ _ hq hq2
      obtain ⟨b, off, hea, hblt, hcap, hcx, ⟨c0, c1, c2, c3, c4, c5, c6⟩, hpp, _⟩ := (HSH.out.belowS hb).at hq
      obtain ⟨b', off', hea', hblt', hcap', hcx', ⟨t0, t1, t2, t3, t4, t5, t6⟩, hpp', _⟩ := (HTH.out.belowS hb).at hq2
      subst hea hea'
      rw [← e1] at t0
      rw [← e2] at t1
      rw [← e3] at t2
      rw [← e4] at t3 hpp'
      rw [← e5] at t4
      rw [← e6] at t5
      rw [← e7] at t6
      generalize (T.heaps[j]'(by rw [← H6.out]; exact hlj)).pa = pa' at *
      generalize (T.heaps[j]'(by rw [← H6.out]; exact hlj)).pc = pc' at *
      clear e1 e2 e3 e4 e5 e6 e7
      generalize S.heaps[j] = h at *
      have HP := Lib.hid hpp
      have HP2 := Lib.hid hpp'
      have HB := Lib.hid hb
      have GB := Lib.hid gB
      have GD := Lib.hid gD
      have hj0 : (0 : Int) ≤ (j : Int) := Int.natCast_nonneg _
      have hj1 : (j : Int) < (S.heaps.length : Int) := by omega
      have n0 : (h.crop == h.crop) = true := by simp
      have n1 : (h.stage == h.stage) = true := by simp
      have n2 : (h.per == h.per) = true := by simp
      have n3 : (h.crop != h.crop) = false := by simp
      have n4 : (h.stage != h.stage) = false := by simp
      have n5 : (h.per != h.per) = false := by simp
      clear hq hq2 hpp hpp' hb gB gD
      go_upto_region 6 with fail
      go_cut [6, 7] from 61 to 71 (fun s6 s7 wx => ∃ G H, s6 = .pointer (some ⟨G, 0, none⟩) ∧ s7 = .pointer (some ⟨H, 0, none⟩) ∧ Blk wx G #[.string h.name, .int .i64 h.crop, .int .i64 h.stage, .slice h.pa h.parts.length h.pc, .int .i64 h.per, .int .i64 h.wlo, .int .i64 h.whi] 53 ∧ Blk wx H #[.string h.name, .int .i64 h.crop, .int .i64 h.stage, .slice pa' h.parts.length pc', .int .i64 h.per, .int .i64 h.wlo, .int .i64 h.whi] 53 ∧ Below wr.heap.size wr wx)
      case first =>
        have hstep : ∀ w', Below wr.heap.size wr w' → Below wr.heap.size wr w' ∧ ((w'.cell? ⟨w.heap.size, 3, none⟩ = some (.slice (some ⟨b, off, none⟩) S.heaps.length S.hc) ∧ w'.cell? ⟨w.heap.size + 1, 3, none⟩ = some (.slice (some ⟨b', off', none⟩) S.heaps.length T.hc)) ∧ ((w'.cell? ⟨b, off + j * 7, none⟩ = some (.string h.name) ∧ w'.cell? ⟨b, off + j * 7 + 1, none⟩ = some (.int .i64 h.crop) ∧ w'.cell? ⟨b, off + j * 7 + 2, none⟩ = some (.int .i64 h.stage) ∧ w'.cell? ⟨b, off + j * 7 + 3, none⟩ = some (.slice h.pa h.parts.length h.pc) ∧ w'.cell? ⟨b, off + j * 7 + 4, none⟩ = some (.int .i64 h.per) ∧ w'.cell? ⟨b, off + j * 7 + 5, none⟩ = some (.int .i64 h.wlo) ∧ w'.cell? ⟨b, off + j * 7 + 6, none⟩ = some (.int .i64 h.whi)) ∧ (w'.cell? ⟨b', off' + j * 7, none⟩ = some (.string h.name) ∧ w'.cell? ⟨b', off' + j * 7 + 1, none⟩ = some (.int .i64 h.crop) ∧ w'.cell? ⟨b', off' + j * 7 + 2, none⟩ = some (.int .i64 h.stage) ∧ w'.cell? ⟨b', off' + j * 7 + 3, none⟩ = some (.slice pa' h.parts.length pc') ∧ w'.cell? ⟨b', off' + j * 7 + 4, none⟩ = some (.int .i64 h.per) ∧ w'.cell? ⟨b', off' + j * 7 + 5, none⟩ = some (.int .i64 h.wlo) ∧ w'.cell? ⟨b', off' + j * 7 + 6, none⟩ = some (.int .i64 h.whi)))) := fun w' h => ⟨h, ⟨(h.cell (p := ⟨w.heap.size, 3, none⟩) lB).trans b3, (h.cell (p := ⟨w.heap.size + 1, 3, none⟩) lD).trans d3⟩, ⟨(h.cell (p := ⟨b, _, none⟩) hblt).trans c0, (h.cell (p := ⟨b, _, none⟩) hblt).trans c1, (h.cell (p := ⟨b, _, none⟩) hblt).trans c2, (h.cell (p := ⟨b, _, none⟩) hblt).trans c3, (h.cell (p := ⟨b, _, none⟩) hblt).trans c4, (h.cell (p := ⟨b, _, none⟩) hblt).trans c5, (h.cell (p := ⟨b, _, none⟩) hblt).trans c6⟩, (h.cell (p := ⟨b', _, none⟩) hblt').trans t0, (h.cell (p := ⟨b', _, none⟩) hblt').trans t1, (h.cell (p := ⟨b', _, none⟩) hblt').trans t2, (h.cell (p := ⟨b', _, none⟩) hblt').trans t3, (h.cell (p := ⟨b', _, none⟩) hblt').trans t4, (h.cell (p := ⟨b', _, none⟩) hblt').trans t5, (h.cell (p := ⟨b', _, none⟩) hblt').trans t6⟩
        have HSTEP := Lib.hid hstep
        clear hstep c0 c1 c2 c3 c4 c5 c6 t0 t1 t2 t3 t4 t5 t6 b3 d3
        go_region_held3 (fun w' => Below wr.heap.size wr w' ∧ ((w'.cell? ⟨w.heap.size, 3, none⟩ = some (.slice (some ⟨b, off, none⟩) S.heaps.length S.hc) ∧ w'.cell? ⟨w.heap.size + 1, 3, none⟩ = some (.slice (some ⟨b', off', none⟩) S.heaps.length T.hc)) ∧ ((w'.cell? ⟨b, off + j * 7, none⟩ = some (.string h.name) ∧ w'.cell? ⟨b, off + j * 7 + 1, none⟩ = some (.int .i64 h.crop) ∧ w'.cell? ⟨b, off + j * 7 + 2, none⟩ = some (.int .i64 h.stage) ∧ w'.cell? ⟨b, off + j * 7 + 3, none⟩ = some (.slice h.pa h.parts.length h.pc) ∧ w'.cell? ⟨b, off + j * 7 + 4, none⟩ = some (.int .i64 h.per) ∧ w'.cell? ⟨b, off + j * 7 + 5, none⟩ = some (.int .i64 h.wlo) ∧ w'.cell? ⟨b, off + j * 7 + 6, none⟩ = some (.int .i64 h.whi)) ∧ (w'.cell? ⟨b', off' + j * 7, none⟩ = some (.string h.name) ∧ w'.cell? ⟨b', off' + j * 7 + 1, none⟩ = some (.int .i64 h.crop) ∧ w'.cell? ⟨b', off' + j * 7 + 2, none⟩ = some (.int .i64 h.stage) ∧ w'.cell? ⟨b', off' + j * 7 + 3, none⟩ = some (.slice pa' h.parts.length pc') ∧ w'.cell? ⟨b', off' + j * 7 + 4, none⟩ = some (.int .i64 h.per) ∧ w'.cell? ⟨b', off' + j * 7 + 5, none⟩ = some (.int .i64 h.wlo) ∧ w'.cell? ⟨b', off' + j * 7 + 6, none⟩ = some (.int .i64 h.whi)))))
          ((refine HSTEP.out _ ?_; repeat (first | (with_reducible exact Below.refl _ _) | (with_reducible refine bel_alloc ?_ _) | (with_reducible refine bel_drew ?_))))
          (fail)
        all_goals
          go_wp2_with fail
          go_meet
          refine ⟨_, _, rfl, rfl, ?k1, ?k2, bel_drew (bel_alloc (bel_alloc (Below.refl _ _) _) _)⟩
          case k1 => first | exact blk2_0 _ _ _ _ | exact blk2_1 _ _ _ _
          case k2 => first | exact blk2_0 _ _ _ _ | exact blk2_1 _ _ _ _
      case rest =>
        obtain ⟨G, H, rfl, rfl, kG, kH, hcx2⟩ := hcut
        obtain ⟨w9, rfl⟩ : ∃ w9 : World, w9 = wc := ⟨_, rfl⟩
        obtain ⟨x0, x1, x2, x3, x4, x5, x6⟩ := hep_cells kG
        have z0 := kH.cell 0
        have z1 := kH.cell 1
        have z2 := kH.cell 2
        have z3 := kH.cell 3
        have z4 := kH.cell 4
        have z5 := kH.cell 5
        have z6 := kH.cell 6
        simp only [List.getElem?_toArray, List.getElem?_cons_zero, List.getElem?_cons_succ] at z0 z1 z2 z3 z4 z5 z6
        have lG := kG.lt
        have lH := kH.lt
        clear c0 c1 c2 c3 c4 c5 c6 t0 t1 t2 t3 t4 t5 t6 b3 d3 lB lD
        go_wp2_with fail
        refine (refSameParts_any h.pa pa' h.pc pc' h.parts _ (HP.out.belowS hcx2) (HP2.out.belowS hcx2)).mono ?_
        rintro e w10 ⟨rfl, hb10⟩
        have hbx := hcx2.trans (hb10.mono hcx2.size)
        go_wp2_with fail
        exact ⟨⟨j + 1, by omega, by simp, GB.out.belowS hbx, GD.out.belowS hbx, HB.out.trans (hbx.mono HB.out.size)⟩, by simp [intOf]; omega⟩
    · obtain rfl : j = S.heaps.length := by omega
      go_wp2_with fail
      go_ret
      exact ⟨rfl, hb⟩
end Go.Proofs.YtfhalmlpnoepcaaGreat
