/- The ledger (thatchref02). -/
import Derived.Test.YtmaehiomljnkgaaGZ
import Derived.Test.YtmaehiomljnkgaaGY
import Derived.Test.YtmaehiomljnkgaaGO
namespace Go.Proofs.Ytmaehiomljnkgaa
open Go.RowKit

def cellsC (S : Sto) (k : Nat) : List Value := [.int .i64 (givenAt S.given k), .int .i64 (ofM k S.used), .int .i64 (leftM k S.heaps), .int .i64 (ofM k S.waste)]
theorem cellsC_at (S : Sto) (k i : Nat) (hi : i < 4) : (cellsC S k)[i]? = some (.int .i64 (cntF (givenAt S.given) (fun k => ofM k S.used) (fun k => leftM k S.heaps) (fun k => ofM k S.waste) (k * 4 + i))) := by
  rcases (show i = 0 ∨ i = 1 ∨ i = 2 ∨ i = 3 by omega) with rfl | rfl | rfl | rfl
  · rw [Nat.add_zero, cntF_0]; rfl
  · rw [cntF_1]; rfl
  · rw [cntF_2]; rfl
  · rw [cntF_3]; rfl
theorem row_below {w2 wr w5 w9 : World} {tmp : Obj} {a : Option Addr} {n c : Nat} {xs : List Value} {t : TypeId} (hb : Below w2.heap.size w2 wr) (hR : wr.ownsRow w2.heap.size t 4 (.slice a n c) n xs) (hb5 : Below wr.heap.size wr w5) (hgrow : (w5.alloc tmp).grownBy w9 (Value.slice a n c).ownBlock) : Below w2.heap.size w2 w9 := by
  have hl1 : ∀ k, a.map (·.block) = some k → w2.heap.size ≤ k ∧ k < wr.heap.size := fun k hk => hR.lt k (by rw [rowOf_own']; exact hk)
  rw [rowOf_own'] at hgrow
  have h5 := hb.trans (hb5.mono hb.size)
  exact (h5.alloc h5.size tmp).grown hgrow (by simp; have := h5.size; omega) (fun k e => (hl1 k e).1)

set_option maxRecDepth 100000 in
set_option maxHeartbeats 4000000 in
theorem refLedger_any (F : Frm) (S : Sto) (w : World) (hF : IsFarm w F) (hS : IsStore w S) (hfit : S.fit) :
    Calls Try.prog 9 #[.agg #[.slice F.pa F.ps.length F.pc, .int .i64 F.dry], stoV S] w (CntSaid F S w) := by
  obtain ⟨i0, hi, hz0, hz1, hz2⟩ := info_parts info_count
  have hcs := refCheckStore_any F S
  have hleft := fun i => refLeft_any F.ps.length S i
  unfold stoV at hcs hleft ⊢
  have HF := Lib.hid hF
  have HS := Lib.hid hS
  have hsg := hS.given
  generalize hgb : S.ga = sga at *
  have HSG := Lib.hid hsg
  have HCS := Lib.hid hcs
  have HLE := Lib.hid hleft
  clear hF hS hsg hgb hcs hleft
  have kB := (Blk.new w 24 (frmC F)).alloc (.cells #[.int .i64 S.year, .slice S.la S.last.length S.lc, .slice sga S.given.length S.gc, .slice S.ha S.heaps.length S.hc, .slice S.ua S.used.length S.uc, .slice S.wa S.waste.length S.wc] 29)
  have kD := Blk.new (w.alloc (.cells (frmC F) 24)) 29 #[.int .i64 S.year, .slice S.la S.last.length S.lc, .slice sga S.given.length S.gc, .slice S.ha S.heaps.length S.hc, .slice S.ua S.used.length S.uc, .slice S.wa S.waste.length S.wc]
  have hB : Below w.heap.size w ((w.alloc (.cells (frmC F) 24)).alloc (.cells #[.int .i64 S.year, .slice S.la S.last.length S.lc, .slice sga S.given.length S.gc, .slice S.ha S.heaps.length S.hc, .slice S.ua S.used.length S.uc, .slice S.wa S.waste.length S.wc] 29)) := ((Below.refl _ w).alloc (by simp) _).alloc (by simp) _
  simp only [World.size_alloc] at kD
  unfold frmC at kB kD hB
  go_enter Try.func9, Try.ntmps9
  go_upto_region 1 with fail
  generalize ((w.alloc (.cells #[.slice F.pa F.ps.length F.pc, .int .i64 F.dry] 24)).alloc (.cells #[.int .i64 S.year, .slice S.la S.last.length S.lc, .slice sga S.given.length S.gc, .slice S.ha S.heaps.length S.hc, .slice S.ua S.used.length S.uc, .slice S.wa S.waste.length S.wc] 29)) = w1 at *
  have lF0 := kB.lt
  have lS0 := kD.lt
  obtain ⟨f0, f1⟩ := frm_cells kB
  have d0 := kD.cell 0
  have d1 := kD.cell 1
  have d2 := kD.cell 2
  have d3 := kD.cell 3
  have d4 := kD.cell 4
  have d5 := kD.cell 5
  have HB0 := Lib.hid hB
  have KB0 := Lib.hid kB
  have KD0 := Lib.hid kD
  clear kB kD hB
  go_wp2_with fail
  refine (HCS.out _ (HF.out.below HB0.out) (HS.out.below HB0.out) hfit).mono ?_
  rintro e w2 ⟨rfl, hb⟩
  have hB1 := HB0.out.trans (hb.mono HB0.out.size)
  have KB1 := Lib.hid (KB0.out.belowS hb)
  have KD1 := Lib.hid (KD0.out.belowS hb)
  clear d0 d1 d2 d3 d4 d5 f0 f1 lF0 lS0 hb
  have HB1 := Lib.hid hB1
  clear hB1
  obtain ⟨v2, rfl⟩ : ∃ v2 : World, v2 = w2 := ⟨_, rfl⟩
  by_cases hE : storeE F S = 0
  · obtain ⟨hn, hgl, hup, hwp, hhp⟩ := store_ok hE
    have HE := Lib.hid hE
    have HU := Lib.hid (partsB_ok hup)
    have HW := Lib.hid (partsB_ok hwp)
    have HH := Lib.hid (show ∀ h ∈ S.heaps, ∀ p ∈ h.parts, p.ok F.ps.length from fun h hh => heapB_parts (hhp h hh))
    have HFI := Lib.hid hfit
    have z1 : ((0 : Int) == 0) = true := rfl
    rw [hE]
    have HGL := Lib.hid hgl
    clear hE hup hwp hhp hgl hfit
    go_wp2_with fail
    go_loopw [8, 7] (fun i out wr => ∃ (j : Nat) (a : Option Addr) (c : Nat), j ≤ F.ps.length ∧ i = .int .i64 j ∧ out = .slice a j c ∧ wr.ownsRow v2.heap.size 38 4 (.slice a j c) j ((List.range j).flatMap (cellsC S)) ∧ Below v2.heap.size v2 wr) (fun i _ _ => F.ps.length - (intOf i).toNat)
    case atStart => exact ⟨0, none, 0, Nat.zero_le _, rfl, rfl, World.ownsRow_nil _ _ _ _, Below.refl _ _⟩
    case round =>
      obtain ⟨j, a, c, hj, rfl, rfl, hR, hb⟩ := hrel
      have KB2 := Lib.hid (KB1.out.belowS hb)
      have lF2 := KB2.out.lt
      obtain ⟨f0, f1⟩ := frm_cells KB2.out
      have hbw := hb.size
      by_cases hlj : j < F.ps.length
      · have hgl2 : j < S.given.length := by rw [HGL.out]; exact hlj
        have hq2 : S.given[j]? = some S.given[j] := List.getElem?_eq_getElem hgl2
        have hgv : givenAt S.given j = S.given[j] := by rw [givenAt, hq2]; rfl
        obtain ⟨b', off', hea', hbl0, _, _, _⟩ := (HSG.out.belowS HB1.out).at hq2
        obtain ⟨b'', off'', hea'', _, _, _, s0⟩ := ((HSG.out.belowS HB1.out).belowS hb).at hq2
        obtain ⟨rfl, rfl, _⟩ : b' = b'' ∧ off' = off'' ∧ True := by rw [hea'] at hea''; injection hea'' with h; injection h with h1 h2; exact ⟨h1, h2, trivial⟩
        subst hea'
        have s0' : wr.cell? ⟨b', off' + j * 1, none⟩ = some (.int .i64 S.given[j]) := s0
        generalize S.given[j] = g at *
        rw [Nat.mul_one] at s0'
        have HGV := Lib.hid hgv
        have hj0 : (0 : Int) ≤ (j : Int) := Int.natCast_nonneg _
        have hj1 : (j : Int) < (F.ps.length : Int) := by omega
        have hj2 : (j : Int) < (S.given.length : Int) := by omega
        have hj1000 : j ≤ 1000 := by omega
        have hmx : j + 1 ≤ maxLen := by unfold maxLen; omega
        have kS := KD1.out.belowS hb
        have lS := kS.lt
        have d0 : wr.cell? ⟨w.heap.size + 1, 0, none⟩ = some (.int .i64 S.year) := kS.cell 0
        have d1 : wr.cell? ⟨w.heap.size + 1, 1, none⟩ = some (.slice S.la S.last.length S.lc) := kS.cell 1
        have d2 : wr.cell? ⟨w.heap.size + 1, 2, none⟩ = some (.slice (some ⟨b', off', none⟩) S.given.length S.gc) := kS.cell 2
        have d3 : wr.cell? ⟨w.heap.size + 1, 3, none⟩ = some (.slice S.ha S.heaps.length S.hc) := kS.cell 3
        have d4 : wr.cell? ⟨w.heap.size + 1, 4, none⟩ = some (.slice S.ua S.used.length S.uc) := kS.cell 4
        have d5 : wr.cell? ⟨w.heap.size + 1, 5, none⟩ = some (.slice S.wa S.waste.length S.wc) := kS.cell 5
        have hof1 := fun w' hw => refOf_any F.ps.length S.ua S.uc S.used j w' hw HU.out HFI.out.used hj1000
        have hof2 := fun w' hw => refOf_any F.ps.length S.wa S.wc S.waste j w' hw HW.out HFI.out.waste hj1000
        have hlf := fun w' hw => HLE.out j w' hw HH.out HFI.out.parts HFI.out.heaps hj1000
        have hcc : cellsC S j = [.int .i64 (givenAt S.given j), .int .i64 (ofM j S.used), .int .i64 (leftM j S.heaps), .int .i64 (ofM j S.waste)] := rfl
        rw [hgv] at hcc
        generalize hgu : ofM (j : Int) S.used = U at *
        generalize hgl' : leftM (j : Int) S.heaps = L at *
        generalize hgz : ofM (j : Int) S.waste = Z at *
        have HO1 := Lib.hid hof1
        have HO2 := Lib.hid hof2
        have HLF := Lib.hid hlf
        have HCC := Lib.hid hcc
        have HRW := Lib.hid hR
        have HBB := Lib.hid hb
        have hlw : w.heap.size + 1 < v2.heap.size := KD1.out.lt
        have hstep : ∀ w', Below v2.heap.size v2 w' → Below v2.heap.size v2 w' ∧ (w'.cell? ⟨w.heap.size + 1, 0, none⟩ = some (.int .i64 S.year) ∧ w'.cell? ⟨w.heap.size + 1, 1, none⟩ = some (.slice S.la S.last.length S.lc) ∧ w'.cell? ⟨w.heap.size + 1, 2, none⟩ = some (.slice (some ⟨b', off', none⟩) S.given.length S.gc) ∧ w'.cell? ⟨w.heap.size + 1, 3, none⟩ = some (.slice S.ha S.heaps.length S.hc) ∧ w'.cell? ⟨w.heap.size + 1, 4, none⟩ = some (.slice S.ua S.used.length S.uc) ∧ w'.cell? ⟨w.heap.size + 1, 5, none⟩ = some (.slice S.wa S.waste.length S.wc)) ∧ w'.cell? ⟨b', off' + j, none⟩ = some (.int .i64 g) := fun w' h => by
          have hc : ∀ (p : Addr) {x : Value}, p.block < v2.heap.size → wr.cell? p = some x → w'.cell? p = some x := fun p x hp hx => (h.cell hp).trans ((HBB.out.cell hp).symm.trans hx)
          exact ⟨h, ⟨hc _ hlw d0, hc _ hlw d1, hc _ hlw d2, hc _ hlw d3, hc _ hlw d4, hc _ hlw d5⟩, hc _ hbl0 s0'⟩
        have HSTEP := Lib.hid hstep
        clear hof1 hof2 hlf hgu hgl' hgz hstep hcc hR hb hgv hq2 s0 hea''
        go_upto_region 8 with fail
        clear d0 d1 d2 d3 d4 d5 s0'
        go_region_held3 (fun w' => Below v2.heap.size v2 w' ∧ (w'.cell? ⟨w.heap.size + 1, 0, none⟩ = some (.int .i64 S.year) ∧ w'.cell? ⟨w.heap.size + 1, 1, none⟩ = some (.slice S.la S.last.length S.lc) ∧ w'.cell? ⟨w.heap.size + 1, 2, none⟩ = some (.slice (some ⟨b', off', none⟩) S.given.length S.gc) ∧ w'.cell? ⟨w.heap.size + 1, 3, none⟩ = some (.slice S.ha S.heaps.length S.hc) ∧ w'.cell? ⟨w.heap.size + 1, 4, none⟩ = some (.slice S.ua S.used.length S.uc) ∧ w'.cell? ⟨w.heap.size + 1, 5, none⟩ = some (.slice S.wa S.waste.length S.wc)) ∧ w'.cell? ⟨b', off' + j, none⟩ = some (.int .i64 g))
          ((refine HSTEP.out _ ?_; repeat (first | (with_reducible exact HBB.out) | (with_reducible exact hb9) | (with_reducible refine bel_alloc ?_ _) | (with_reducible refine bel_drew ?_) | (with_reducible refine bel_call ?_ hb5))))
          (first
            | (go_at_call 22; (refine (HLF.out _ ((HS.out.below (HB1.out.trans ((And.left (by with_reducible assumption) : Below v2.heap.size v2 _).mono HB1.out.size))).heaps)).mono ?_); rintro r w5 ⟨rfl, hb5⟩; have hb5r : Below wr.heap.size wr w5 := ⟨hb5.os, hb5.tape, hb5.output, hb5.size, hb5.block⟩)
            | (go_at_call 21; (with_reducible refine (HO1.out _ ((HS.out.below (HB1.out.trans ((And.left (by with_reducible assumption) : Below v2.heap.size v2 _).mono HB1.out.size))).used)).mono ?_); rintro r w3 ⟨rfl, rfl⟩)
            | (go_at_call 21; (with_reducible refine (HO2.out _ ((HS.out.below (HB1.out.trans ((And.left (by with_reducible assumption) : Below v2.heap.size v2 _).mono HB1.out.size))).waste)).mono ?_); rintro r w3 ⟨rfl, rfl⟩)
            | (refine step_append_lies _ (by rfl) _ _ _ (by rfl) v2.heap.size 38 i0 _ 4 32 Try.underlying33 hi hz0 hz1 hz2 rfl (by omega) (.slice a j c) j ((List.range j).flatMap (cellsC S)) (by rfl) ((own_below HRW.out hb5r).alloc _) ⟨w5.heap.size, 0, none⟩ 1 1 [.int .i64 g, .int .i64 U, .int .i64 L, .int .i64 Z] (by rfl) (by rfl) (World.news_of_block (cs := #[.int .i64 g, .int .i64 U, .int .i64 L, .int .i64 Z]) (t := 38) (fr := (0, 0)) (heap_alloc_new w5 _)) (by simp [Value.oneCell']) (by omega) hmx (by omega) (by have := hb5r.size; simp at this ⊢; omega) (w5.heap.size + 1) (by simp) ?_; intro gg cap w9 hown9 hgrow9 hat9 hlt9; have hb9 := row_below HBB.out HRW.out hb5r hgrow9; have HW9 := Lib.hid hown9; clear hown9 hgrow9 hat9 hlt9))
        all_goals
          go_wp2_with fail
          refine ⟨⟨j + 1, some ⟨gg, 0, none⟩, cap, by omega, by simp, rfl, ?_, hb9⟩, by simp [intOf]; omega⟩
          have := HW9.out
          rw [List.range_succ, List.flatMap_append, List.flatMap_singleton, HCC.out]
          simpa using this
      · obtain rfl : j = F.ps.length := by omega
        have HR2 := Lib.hid hR
        have HBB := Lib.hid hb
        clear hR hb
        go_wp2_with fail
        refine bodyPost_ret (v := .tuple #[.slice a F.ps.length c, .int .i64 0]) (by simp [results, Try.results9, go_sem]) rfl ⟨_, _, _, by rw [HE.out], ?_, HB1.out.trans (HBB.out.mono HB1.out.size)⟩
        rw [if_pos HE.out]
        refine ⟨rfl, ?_⟩
        rcases row_at (cellsC S) 4 (fun _ => rfl) (l := List.range F.ps.length) (by rw [List.length_range]; exact HR2.out) with ⟨_, e⟩ | ⟨gg, cap, hv, _, hlt, h1, h2, key⟩
        · exact Or.inl (by simpa using e)
        · obtain ⟨rfl, _, rfl⟩ := slice_inj hv
          rw [List.length_range] at h1
          refine Or.inr ⟨gg, rfl, h1, h2, hlt, fun i hi => ?_⟩
          have h3 := key (i / 4) (i / 4) (by rw [List.getElem?_range (by omega)]) (i % 4) (by omega)
          rw [cellsC_at S _ _ (by omega), show i / 4 * 4 + i % 4 = i by omega] at h3
          exact h3
  · have HE := Lib.hid hE
    have hne : (storeE F S == 0) = false := by simpa using hE
    generalize hg : storeE F S = v at *
    go_wp2_with fail
    refine bodyPost_ret (v := .tuple #[.slice none 0 0, .int .i64 v]) (by simp [results, Try.results9, go_sem]) rfl ⟨none, 0, 0, by rw [hg], ?_, HB1.out⟩
    rw [hg, if_neg HE.out]

end Go.Proofs.Ytmaehiomljnkgaa
