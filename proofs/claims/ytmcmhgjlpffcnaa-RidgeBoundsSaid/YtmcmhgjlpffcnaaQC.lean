/- Whether a row fits a ridge (fits). No condition but that the ridge may be. -/
import Derived.Test.YtmcmhgjlpffcnaaPW
set_option linter.unusedSimpArgs false
namespace Go.Proofs.Ytmcmhgjlpffcnaa
open Go.RowKit

/-- What a piece with a number leaves of a gap, if it may come next. -/
def stepG (ps : List Pce) (g : Gp) (n : Int) : Option Gp := if isFromB n 0 ((ps.length : Int) - 1) = true then (match ps[n.toNat]? with | some x => if takB g x = true then some (behG g x) else none | none => none) else none
/-- What a row leaves of a gap. -/
def runG (ps : List Pce) (g : Gp) (row : List Int) : Option Gp := row.foldlM (stepG ps) g
theorem runG_snoc (ps : List Pce) (g : Gp) (l : List Int) (n : Int) : runG ps g (l ++ [n]) = (runG ps g l).bind (fun h => stepG ps h n) := by
  simp [runG, List.foldlM_append]
theorem runG_none {ps : List Pce} {g : Gp} {row : List Int} {k : Nat} (h : runG ps g (row.take k) = none) : runG ps g row = none := by
  rw [← List.take_append_drop k row, runG, List.foldlM_append]
  unfold runG at h
  rw [h]
  rfl
theorem run_equalIn_gap (d : Nat) (p q : Gp) (w : World) : (Op.equalIn (d + 2) 87 (.agg #[.int .i64 (p.n : Int), .int .i64 (p.p : Int)]) (.agg #[.int .i64 (q.n : Int), .int .i64 (q.p : Int)])).run Try.prog w = .ok (decide (p = q)) w := by
  rw [run_equalIn_struct w (d + 1) 87 _ _ (by kernel_rfl) (by kernel_rfl)]
  obtain ⟨px, py⟩ := p
  obtain ⟨qx, qy⟩ := q
  by_cases h1 : px = qx <;> by_cases h2 : py = qy
  all_goals simp [Program.fieldsOf, Try.underlying87, Op.eqFields, go_sem, h1, h2]
  all_goals omega
def fitsB (R : Rdg) (row : List Int) : Bool := match runG R.ps R.top row with | some g => decide (g = ⟨0, R.en.toNat⟩) | none => false

set_option maxRecDepth 100000 in
set_option maxHeartbeats 16000000 in
theorem fits_any (R : Rdg) (sa : Option Addr) (c : Nat) (row : List Int) (w : World) (hR : R.ok) (hrow : IsPcs w R.pa R.pc R.ps) (hns : IsInts w sa c row) :
    Calls Try.prog 42 #[.agg #[.int .i64 R.len, .int .i64 R.st, .int .i64 R.en, .slice R.pa R.ps.length R.pc], .slice sa row.length c] w fun e w' => e = .returned (.bool (fitsB R row)) ∧ Below w.heap.size w w' := by
  have k1 := Blk.new w 24 #[.int .i64 R.len, .int .i64 R.st, .int .i64 R.en, .slice R.pa R.ps.length R.pc]
  have hb1 : Below w.heap.size w (w.alloc (.cells #[.int .i64 R.len, .int .i64 R.st, .int .i64 R.en, .slice R.pa R.ps.length R.pc] 24)) := (Below.refl _ w).alloc (Nat.le_refl _) _
  have hlr := ints_le hns
  have HROW := Lib.hid hrow
  have HNS := Lib.hid hns
  have hT := hR.top
  have hts : R.len = (R.top.n : Int) ∧ R.st = (R.top.p : Int) := by
    obtain ⟨⟨h1, h2⟩, ⟨h3, h4⟩, -⟩ := hR
    simp only [Rdg.top]
    omega
  have hps10 := hR.2.2.2.1
  have HR := Lib.hid hR
  have HT := Lib.hid (And.intro hT hts)
  clear hrow hns hT hts hR
  go_enter Try.func42, Try.ntmps42
  go_upto_region 1 with fail
  generalize w.alloc (.cells #[.int .i64 R.len, .int .i64 R.st, .int .i64 R.en, .slice R.pa R.ps.length R.pc] 24) = w1 at *
  have K1 := Lib.hid k1
  have HB1 := Lib.hid hb1
  obtain ⟨r0, r1, r2, r3⟩ := rdg_cells (R := R) k1
  have hl1 := k1.lt
  clear k1 hb1
  go_wp2_with fail
  refine (whole_any R _).mono ?_
  rintro e w2 ⟨rfl, hb2⟩
  have hag : (Value.agg #[.int .i64 R.len, .int .i64 R.st]) = .agg #[.int .i64 (R.top.n : Int), .int .i64 (R.top.p : Int)] := by rw [HT.out.2.1, HT.out.2.2]
  rw [hag]
  clear hag
  have K2 := Lib.hid (K1.out.belowS hb2)
  have HB2 := Lib.hid (HB1.out.trans (hb2.mono HB1.out.size))
  have hGl : w.heap.size < w2.heap.size := K2.out.lt
  clear r0 r1 r2 r3 hl1 hb2
  go_upto_region 2 with fail
  have kg := Blk.new w2 87 #[.int .i64 (R.top.n : Int), .int .i64 (R.top.p : Int)]
  have kr := K2.out.alloc (.cells #[.int .i64 (R.top.n : Int), .int .i64 (R.top.p : Int)] 87)
  have hb3 := HB2.out.alloc (o := .cells #[.int .i64 (R.top.n : Int), .int .i64 (R.top.p : Int)] 87) HB2.out.size
  generalize w2.alloc (.cells #[.int .i64 (R.top.n : Int), .int .i64 (R.top.p : Int)] 87) = w3 at *
  generalize w2.heap.size = G at *
  have KG := Lib.hid kg
  have KR := Lib.hid kr
  have HB3 := Lib.hid hb3
  clear kg kr hb3 K1 K2 HB1 HB2
  go_wp2_with fail
  go_loopw [12, 7] (fun i _ wr => ∃ (j : Nat) (g : Gp), j ≤ row.length ∧ i = .int .i64 j ∧ runG R.ps R.top (row.take j) = some g ∧ g.ok ∧ Blk wr G #[.int .i64 (g.n : Int), .int .i64 (g.p : Int)] 87 ∧ Blk wr w.heap.size #[.int .i64 R.len, .int .i64 R.st, .int .i64 R.en, .slice R.pa R.ps.length R.pc] 24 ∧ Below w.heap.size w wr) (fun i _ _ => row.length - (intOf i).toNat)
  case atStart => exact ⟨0, R.top, Nat.zero_le _, rfl, rfl, HT.out.1, KG.out, KR.out, HB3.out⟩
  case round =>
    obtain ⟨j, g, hj, rfl, hrun, hgo, hkg, hkr, hb⟩ := hrel
    have hj0 : (0 : Int) ≤ (j : Int) := Int.natCast_nonneg _
    have HRUN := Lib.hid hrun
    have HGO := Lib.hid hgo
    have HB := Lib.hid hb
    by_cases hlj : j < row.length
    · have hq : row[j]? = some row[j] := List.getElem?_eq_getElem hlj
      obtain ⟨b, off, e, hbl, hc1, hc2, hp⟩ := (HNS.out.belowS hb).at hq
      have hta : row.take (j + 1) = row.take j ++ [row[j]] := by rw [List.take_add_one, hq]; rfl
      have hst := runG_snoc R.ps R.top (row.take j) row[j]
      rw [← hta, hrun] at hst
      generalize row[j] = n at *
      have c0 : wr.cell? ⟨b, off + j * 1, none⟩ = some (.int .i64 n) := hp
      rw [Nat.mul_one] at c0
      have hj1 : (j : Int) < (row.length : Int) := by omega
      obtain ⟨r0, r1, r2, r3⟩ := rdg_cells (R := R) hkr
      have hmk : ∀ w', Below wr.heap.size wr w' → (Below wr.heap.size wr w' ∧ (w'.cell? ⟨w.heap.size, 0, none⟩ = some (.int .i64 R.len) ∧ w'.cell? ⟨w.heap.size, 1, none⟩ = some (.int .i64 R.st) ∧ w'.cell? ⟨w.heap.size, 2, none⟩ = some (.int .i64 R.en) ∧ w'.cell? ⟨w.heap.size, 3, none⟩ = some (.slice R.pa R.ps.length R.pc)) ∧ (w'.cell? ⟨G, 0, none⟩ = some (.int .i64 (g.n : Int)) ∧ w'.cell? ⟨G, 1, none⟩ = some (.int .i64 (g.p : Int)))) := fun w' h => ⟨h, rdg_cells (R := R) (hkr.belowS h), gp_cells (g := g) (hkg.belowS h)⟩
      have HMK := Lib.hid hmk
      have HKG := Lib.hid hkg
      have HKR := Lib.hid hkr
      have HST := Lib.hid hst
      subst e
      clear hrun hgo hb hkg hkr hmk hst hta hp hq r0 r1 r2 r3
      go_upto_region 5 with fail
      cases hP : isFromB n 0 ((R.ps.length : Int) - 1) with
      | false =>
        have hno : runG R.ps R.top row = none := by
          refine runG_none (k := j + 1) ?_
          rw [HST.out]
          simp [stepG, hP]
        have hfin : fitsB R row = false := by unfold fitsB; rw [hno]
        have HF := Lib.hid hfin
        have HP := Lib.hid hP
        clear hno hfin hP c0 hbl
        refine wp_region_E 14 (fun w' => Below wr.heap.size wr w' ∧ (w'.cell? ⟨w.heap.size, 0, none⟩ = some (.int .i64 R.len) ∧ w'.cell? ⟨w.heap.size, 1, none⟩ = some (.int .i64 R.st) ∧ w'.cell? ⟨w.heap.size, 2, none⟩ = some (.int .i64 R.en) ∧ w'.cell? ⟨w.heap.size, 3, none⟩ = some (.slice R.pa R.ps.length R.pc)) ∧ (w'.cell? ⟨G, 0, none⟩ = some (.int .i64 (g.n : Int)) ∧ w'.cell? ⟨G, 1, none⟩ = some (.int .i64 (g.p : Int)))) (by kernel_rfl) ?_
        have hx0 := HMK.out wr.drew (Below.refl _ _).drew
        refine E_takeR (i := 0) (oi := _) (v := ?v1) rfl (by kernel_rfl) (by kernel_rfl) (by kernel_rfl) (by decide) (fun _ _ _ h => h) hx0 (Or.inl ⟨by rfl, ?y1⟩) ?r1
        case y1 => (intro w' hSw; (try dsimp only at hSw); go_simp; try with_reducible rfl)
        try simp only [Act.put, List.getElem_toArray, List.getElem_cons_zero, List.getElem_cons_succ, List.setIfInBounds_toArray, List.set_cons_zero, List.set_cons_succ]
        refine E_takeR (i := 1) (oi := _) (v := ?v2) rfl (by kernel_rfl) (by kernel_rfl) (by kernel_rfl) (by decide) (fun _ _ _ h => h) hx0 (Or.inl ⟨by rfl, ?y2⟩) ?r2
        case y2 => (intro w' hSw; (try dsimp only at hSw); go_simp; try with_reducible rfl)
        try simp only [Act.put, List.getElem_toArray, List.getElem_cons_zero, List.getElem_cons_succ, List.setIfInBounds_toArray, List.set_cons_zero, List.set_cons_succ]
        refine E_step (i := 2) (o := _) (by kernel_rfl) rfl (fun K hK => ?_)
        go_simp
        refine (isPiece_any R n _ (by omega)).mono ?_
        rintro e w4 ⟨rfl, hb4⟩
        dsimp only
        refine hK.out _ _ (fun h => HMK.out _ ((Below.refl _ wr).drew.trans hb4)) ?_
        clear hK K
        try simp only [Act.put, List.getElem_toArray, List.getElem_cons_zero, List.getElem_cons_succ, List.setIfInBounds_toArray, List.set_cons_zero, List.set_cons_succ]
        have hB4 := (Below.refl wr.heap.size wr).drew.trans hb4
        have hx4 := HMK.out w4 hB4
        rw [HP.out]
        refine E_step (i := 3) (o := _) (by kernel_rfl) rfl (fun K hK => ?_)
        go_simp
        refine hK.out _ _ (fun h => hx4) ?_
        clear hK K
        try simp only [Act.put, List.getElem_toArray, List.getElem_cons_zero, List.getElem_cons_succ, List.setIfInBounds_toArray, List.set_cons_zero, List.set_cons_succ]
        refine E_step (i := 4) (o := _) (by kernel_rfl) rfl (fun K hK => ?_)
        go_simp
        refine hK.out _ _ (fun h => hx4) ?_
        clear hK K
        try simp only [Act.put, List.getElem_toArray, List.getElem_cons_zero, List.getElem_cons_succ, List.setIfInBounds_toArray, List.set_cons_zero, List.set_cons_succ]
        refine E_takeR (i := 5) (oi := _) (v := undef) rfl (by kernel_rfl) (by kernel_rfl) (by kernel_rfl) (by decide) (fun _ _ _ h => h) hx4 (Or.inr ⟨by rfl, rfl⟩) ?r3
        try simp only [Act.put, List.getElem_toArray, List.getElem_cons_zero, List.getElem_cons_succ, List.setIfInBounds_toArray, List.set_cons_zero, List.set_cons_succ]
        refine E_takeR (i := 6) (oi := _) (v := undef) rfl (by kernel_rfl) (by kernel_rfl) (by kernel_rfl) (by decide) (fun _ _ _ h => h) hx4 (Or.inr ⟨by rfl, rfl⟩) ?r4
        try simp only [Act.put, List.getElem_toArray, List.getElem_cons_zero, List.getElem_cons_succ, List.setIfInBounds_toArray, List.set_cons_zero, List.set_cons_succ]
        refine E_takeR (i := 7) (oi := _) (v := undef) rfl (by kernel_rfl) (by kernel_rfl) (by kernel_rfl) (by decide) (fun _ _ _ h => h) hx4 (Or.inr ⟨by rfl, rfl⟩) ?r5
        try simp only [Act.put, List.getElem_toArray, List.getElem_cons_zero, List.getElem_cons_succ, List.setIfInBounds_toArray, List.set_cons_zero, List.set_cons_succ]
        refine E_takeR (i := 8) (oi := _) (v := undef) rfl (by kernel_rfl) (by kernel_rfl) (by kernel_rfl) (by decide) (fun _ _ _ h => h) hx4 (Or.inr ⟨by rfl, rfl⟩) ?r6
        try simp only [Act.put, List.getElem_toArray, List.getElem_cons_zero, List.getElem_cons_succ, List.setIfInBounds_toArray, List.set_cons_zero, List.set_cons_succ]
        refine E_takeR (i := 9) (oi := _) (v := undef) rfl (by kernel_rfl) (by kernel_rfl) (by kernel_rfl) (by decide) (fun _ _ _ h => h) hx4 (Or.inr ⟨by rfl, rfl⟩) ?r7
        try simp only [Act.put, List.getElem_toArray, List.getElem_cons_zero, List.getElem_cons_succ, List.setIfInBounds_toArray, List.set_cons_zero, List.set_cons_succ]
        refine E_takeR (i := 10) (oi := _) (v := undef) rfl (by kernel_rfl) (by kernel_rfl) (by kernel_rfl) (by decide) (fun _ _ _ h => h) hx4 (Or.inr ⟨by rfl, rfl⟩) ?r8
        try simp only [Act.put, List.getElem_toArray, List.getElem_cons_zero, List.getElem_cons_succ, List.setIfInBounds_toArray, List.set_cons_zero, List.set_cons_succ]
        refine E_takeR (i := 11) (oi := _) (v := undef) rfl (by kernel_rfl) (by kernel_rfl) (by kernel_rfl) (by decide) (fun _ _ _ h => h) hx4 (Or.inr ⟨by rfl, rfl⟩) ?r9
        try simp only [Act.put, List.getElem_toArray, List.getElem_cons_zero, List.getElem_cons_succ, List.setIfInBounds_toArray, List.set_cons_zero, List.set_cons_succ]
        refine E_takeR (i := 12) (oi := _) (v := undef) rfl (by kernel_rfl) (by kernel_rfl) (by kernel_rfl) (by decide) (fun _ _ _ h => h) hx4 (Or.inr ⟨by rfl, rfl⟩) ?r10
        try simp only [Act.put, List.getElem_toArray, List.getElem_cons_zero, List.getElem_cons_succ, List.setIfInBounds_toArray, List.set_cons_zero, List.set_cons_succ]
        refine E_step (i := 13) (o := _) (by kernel_rfl) rfl (fun K hK => ?_)
        go_simp
        refine hK.out _ _ (fun h => hx4) ?_
        clear hK K
        try simp only [Act.put, List.getElem_toArray, List.getElem_cons_zero, List.getElem_cons_succ, List.setIfInBounds_toArray, List.set_cons_zero, List.set_cons_succ]
        refine E_done (by kernel_rfl) ?_ _
        have HBF := Lib.hid (HB.out.trans (hB4.mono HB.out.size))
        clear hx0 hx4
        go_wp2_with fail
        go_ret
        exact ⟨by rw [HF.out]; rfl, HBF.out⟩
      | true =>
        have hPI : 0 ≤ n ∧ n ≤ (R.ps.length : Int) - 1 := by simpa [isFromB_iff] using hP
        have hnl : n.toNat < R.ps.length := by omega
        have hqx : R.ps[n.toNat]? = some R.ps[n.toNat] := List.getElem?_eq_getElem hnl
        have hxo := HR.out.2.2.2.2 _ (List.mem_of_getElem? hqx)
        have hsx : stepG R.ps g n = if takB g R.ps[n.toNat] = true then some (behG g R.ps[n.toNat]) else none := by
          unfold stepG
          rw [if_pos hP, hqx]
        obtain ⟨b2, off2, e2, hbl2, hc21, hc22, hp2⟩ := (HROW.out.belowS HB.out).at hqx
        generalize R.ps[n.toNat] = x at *
        obtain ⟨n1, n2⟩ := hPI
        have hmk2 : ∀ w', Below wr.heap.size wr w' → (Below wr.heap.size wr w' ∧ (w'.cell? ⟨w.heap.size, 0, none⟩ = some (.int .i64 R.len) ∧ w'.cell? ⟨w.heap.size, 1, none⟩ = some (.int .i64 R.st) ∧ w'.cell? ⟨w.heap.size, 2, none⟩ = some (.int .i64 R.en) ∧ w'.cell? ⟨w.heap.size, 3, none⟩ = some (.slice R.pa R.ps.length R.pc)) ∧ (w'.cell? ⟨G, 0, none⟩ = some (.int .i64 (g.n : Int)) ∧ w'.cell? ⟨G, 1, none⟩ = some (.int .i64 (g.p : Int))) ∧ (w'.cell? ⟨b2, off2 + n.toNat * 5, none⟩ = some (.string x.name) ∧ w'.cell? ⟨b2, off2 + n.toNat * 5 + 1, none⟩ = some (.int .i64 x.wd) ∧ w'.cell? ⟨b2, off2 + n.toNat * 5 + 2, none⟩ = some (.int .i64 x.lf) ∧ w'.cell? ⟨b2, off2 + n.toNat * 5 + 3, none⟩ = some (.int .i64 x.rt) ∧ w'.cell? ⟨b2, off2 + n.toNat * 5 + 4, none⟩ = some (.int .i64 x.mr))) := fun w' h => ⟨(HMK.out w' h).1, (HMK.out w' h).2.1, (HMK.out w' h).2.2, PceAt.keep (bcell h).1 _ _ _ hbl2 hp2⟩
        have HMK2 := Lib.hid hmk2
        have HXO := Lib.hid hxo
        have HSX := Lib.hid hsx
        have HP := Lib.hid hP
        clear hmk2 hxo hsx hp2 hbl2 hqx hP c0 hbl
        have hip : ∀ W, Calls Try.prog 72 #[.agg #[.int .i64 R.len, .int .i64 R.st, .int .i64 R.en, .slice (some ⟨b2, off2, none⟩) R.ps.length R.pc], .int .i64 n] W fun e w' => e = .returned (.bool true) ∧ Below W.heap.size W w' := fun W => by
          have := isPiece_any R n W (by omega)
          rwa [e2, HP.out] at this
        have HIP := Lib.hid hip
        clear hip
        refine wp_region_E 14 (fun w' => Below wr.heap.size wr w' ∧ (w'.cell? ⟨w.heap.size, 0, none⟩ = some (.int .i64 R.len) ∧ w'.cell? ⟨w.heap.size, 1, none⟩ = some (.int .i64 R.st) ∧ w'.cell? ⟨w.heap.size, 2, none⟩ = some (.int .i64 R.en) ∧ w'.cell? ⟨w.heap.size, 3, none⟩ = some (.slice R.pa R.ps.length R.pc)) ∧ (w'.cell? ⟨G, 0, none⟩ = some (.int .i64 (g.n : Int)) ∧ w'.cell? ⟨G, 1, none⟩ = some (.int .i64 (g.p : Int))) ∧ (w'.cell? ⟨b2, off2 + n.toNat * 5, none⟩ = some (.string x.name) ∧ w'.cell? ⟨b2, off2 + n.toNat * 5 + 1, none⟩ = some (.int .i64 x.wd) ∧ w'.cell? ⟨b2, off2 + n.toNat * 5 + 2, none⟩ = some (.int .i64 x.lf) ∧ w'.cell? ⟨b2, off2 + n.toNat * 5 + 3, none⟩ = some (.int .i64 x.rt) ∧ w'.cell? ⟨b2, off2 + n.toNat * 5 + 4, none⟩ = some (.int .i64 x.mr))) (by kernel_rfl) ?_
        have hx0 := HMK2.out wr.drew (Below.refl _ _).drew
        refine E_takeR (i := 0) (oi := _) (v := ?v11) rfl (by kernel_rfl) (by kernel_rfl) (by kernel_rfl) (by decide) (fun _ _ _ h => h) hx0 (Or.inl ⟨by rfl, ?y11⟩) ?r11
        case y11 => (intro w' hSw; (try dsimp only at hSw); go_simp; try with_reducible rfl)
        try simp only [Act.put, List.getElem_toArray, List.getElem_cons_zero, List.getElem_cons_succ, List.setIfInBounds_toArray, List.set_cons_zero, List.set_cons_succ]
        refine E_takeR (i := 1) (oi := _) (v := ?v12) rfl (by kernel_rfl) (by kernel_rfl) (by kernel_rfl) (by decide) (fun _ _ _ h => h) hx0 (Or.inl ⟨by rfl, ?y12⟩) ?r12
        case y12 => (intro w' hSw; (try dsimp only at hSw); go_simp; try with_reducible rfl)
        try simp only [Act.put, List.getElem_toArray, List.getElem_cons_zero, List.getElem_cons_succ, List.setIfInBounds_toArray, List.set_cons_zero, List.set_cons_succ]
        refine E_step (i := 2) (o := _) (by kernel_rfl) rfl (fun K hK => ?_)
        go_simp
        refine (HIP.out _).mono ?_
        rintro e w4 ⟨rfl, hb4⟩
        dsimp only
        refine hK.out _ _ (fun h => HMK2.out _ ((Below.refl _ wr).drew.trans hb4)) ?_
        clear hK K
        try simp only [Act.put, List.getElem_toArray, List.getElem_cons_zero, List.getElem_cons_succ, List.setIfInBounds_toArray, List.set_cons_zero, List.set_cons_succ]
        have hB4 := (Below.refl wr.heap.size wr).drew.trans hb4
        have hx4 := HMK2.out w4 hB4
        refine E_step (i := 3) (o := _) (by kernel_rfl) rfl (fun K hK => ?_)
        go_simp
        refine hK.out _ _ (fun h => hx4) ?_
        clear hK K
        try simp only [Act.put, List.getElem_toArray, List.getElem_cons_zero, List.getElem_cons_succ, List.setIfInBounds_toArray, List.set_cons_zero, List.set_cons_succ]
        refine E_step (i := 4) (o := _) (by kernel_rfl) rfl (fun K hK => ?_)
        go_simp
        refine hK.out _ _ (fun h => hx4) ?_
        clear hK K
        try simp only [Act.put, List.getElem_toArray, List.getElem_cons_zero, List.getElem_cons_succ, List.setIfInBounds_toArray, List.set_cons_zero, List.set_cons_succ]
        have hn1 : n < (R.ps.length : Int) := by omega
        refine E_takeR (i := 5) (oi := _) (v := ?v13) rfl (by kernel_rfl) (by kernel_rfl) (by kernel_rfl) (by decide) (fun _ _ _ h => h) hx4 (Or.inl ⟨by rfl, ?y13⟩) ?r13
        case y13 => (intro w' hSw; (try dsimp only at hSw); go_simp; try with_reducible rfl)
        try simp only [Act.put, List.getElem_toArray, List.getElem_cons_zero, List.getElem_cons_succ, List.setIfInBounds_toArray, List.set_cons_zero, List.set_cons_succ]
        refine E_takeR (i := 6) (oi := _) (v := ?v14) rfl (by kernel_rfl) (by kernel_rfl) (by kernel_rfl) (by decide) (fun _ _ _ h => h) hx4 (Or.inl ⟨by rfl, ?y14⟩) ?r14
        case y14 => (intro w' hSw; (try dsimp only at hSw); go_simp; try with_reducible rfl)
        try simp only [Act.put, List.getElem_toArray, List.getElem_cons_zero, List.getElem_cons_succ, List.setIfInBounds_toArray, List.set_cons_zero, List.set_cons_succ]
        refine E_takeR (i := 7) (oi := _) (v := ?v15) rfl (by kernel_rfl) (by kernel_rfl) (by kernel_rfl) (by decide) (fun _ _ _ h => h) hx4 (Or.inl ⟨by rfl, ?y15⟩) ?r15
        case y15 => (intro w' hSw; (try dsimp only at hSw); go_simp; try with_reducible rfl)
        try simp only [Act.put, List.getElem_toArray, List.getElem_cons_zero, List.getElem_cons_succ, List.setIfInBounds_toArray, List.set_cons_zero, List.set_cons_succ]
        refine E_takeR (i := 8) (oi := _) (v := ?v16) rfl (by kernel_rfl) (by kernel_rfl) (by kernel_rfl) (by decide) (fun _ _ _ h => h) hx4 (Or.inl ⟨by rfl, ?y16⟩) ?r16
        case y16 => (intro w' hSw; (try dsimp only at hSw); go_simp; try with_reducible rfl)
        try simp only [Act.put, List.getElem_toArray, List.getElem_cons_zero, List.getElem_cons_succ, List.setIfInBounds_toArray, List.set_cons_zero, List.set_cons_succ]
        refine E_takeR (i := 9) (oi := _) (v := ?v17) rfl (by kernel_rfl) (by kernel_rfl) (by kernel_rfl) (by decide) (fun _ _ _ h => h) hx4 (Or.inl ⟨by rfl, ?y17⟩) ?r17
        case y17 => (intro w' hSw; (try dsimp only at hSw); go_simp; try with_reducible rfl)
        try simp only [Act.put, List.getElem_toArray, List.getElem_cons_zero, List.getElem_cons_succ, List.setIfInBounds_toArray, List.set_cons_zero, List.set_cons_succ]
        refine E_takeR (i := 10) (oi := _) (v := ?v18) rfl (by kernel_rfl) (by kernel_rfl) (by kernel_rfl) (by decide) (fun _ _ _ h => h) hx4 (Or.inl ⟨by rfl, ?y18⟩) ?r18
        case y18 => (intro w' hSw; (try dsimp only at hSw); go_simp; try with_reducible rfl)
        try simp only [Act.put, List.getElem_toArray, List.getElem_cons_zero, List.getElem_cons_succ, List.setIfInBounds_toArray, List.set_cons_zero, List.set_cons_succ]
        refine E_step (i := 11) (o := _) (by kernel_rfl) rfl (fun K hK => ?_)
        go_simp
        refine (takes_any g x _).mono ?_
        rintro e w5 ⟨rfl, hb5⟩
        dsimp only
        refine hK.out _ _ (fun h => HMK2.out _ (hB4.trans (hb5.mono hB4.size))) ?_
        clear hK K
        try simp only [Act.put, List.getElem_toArray, List.getElem_cons_zero, List.getElem_cons_succ, List.setIfInBounds_toArray, List.set_cons_zero, List.set_cons_succ]
        have hB5 := hB4.trans (hb5.mono hB4.size)
        have hx5 := HMK2.out w5 hB5
        refine E_step (i := 12) (o := _) (by kernel_rfl) rfl (fun K hK => ?_)
        go_simp
        refine hK.out _ _ (fun h => hx5) ?_
        clear hK K
        try simp only [Act.put, List.getElem_toArray, List.getElem_cons_zero, List.getElem_cons_succ, List.setIfInBounds_toArray, List.set_cons_zero, List.set_cons_succ]
        refine E_step (i := 13) (o := _) (by kernel_rfl) rfl (fun K hK => ?_)
        go_simp
        refine hK.out _ _ (fun h => hx5) ?_
        clear hK K
        try simp only [Act.put, List.getElem_toArray, List.getElem_cons_zero, List.getElem_cons_succ, List.setIfInBounds_toArray, List.set_cons_zero, List.set_cons_succ]
        refine E_done (by kernel_rfl) ?_ _
        have HB5 := Lib.hid (HB.out.trans (hB5.mono HB.out.size))
        have kg5 := HKG.out.belowS hB5
        have kr5 := HKR.out.belowS hB5
        have hmk5 : ∀ w', Below w5.heap.size w5 w' → (Below w5.heap.size w5 w' ∧ (w'.cell? ⟨w.heap.size, 0, none⟩ = some (.int .i64 R.len) ∧ w'.cell? ⟨w.heap.size, 1, none⟩ = some (.int .i64 R.st) ∧ w'.cell? ⟨w.heap.size, 2, none⟩ = some (.int .i64 R.en) ∧ w'.cell? ⟨w.heap.size, 3, none⟩ = some (.slice R.pa R.ps.length R.pc)) ∧ (w'.cell? ⟨G, 0, none⟩ = some (.int .i64 (g.n : Int)) ∧ w'.cell? ⟨G, 1, none⟩ = some (.int .i64 (g.p : Int))) ∧ (w'.cell? ⟨b2, off2 + n.toNat * 5, none⟩ = some (.string x.name) ∧ w'.cell? ⟨b2, off2 + n.toNat * 5 + 1, none⟩ = some (.int .i64 x.wd) ∧ w'.cell? ⟨b2, off2 + n.toNat * 5 + 2, none⟩ = some (.int .i64 x.lf) ∧ w'.cell? ⟨b2, off2 + n.toNat * 5 + 3, none⟩ = some (.int .i64 x.rt) ∧ w'.cell? ⟨b2, off2 + n.toNat * 5 + 4, none⟩ = some (.int .i64 x.mr))) := fun w' h => by
          obtain ⟨p1, p2, p3, p4⟩ := HMK2.out w' (hB5.trans (h.mono hB5.size))
          exact ⟨h, p2, p3, p4⟩
        have HMK5 := Lib.hid hmk5
        have KG5 := Lib.hid kg5
        have KR5 := Lib.hid kr5
        have HE2 := Lib.hid e2
        rw [← e2]
        clear hx0 hx4 hx5 hB4 hB5 hb4 hb5 hmk5 kg5 kr5 e2
        cases hT : takB g x with
        | false =>
          have hno : runG R.ps R.top row = none := by
            refine runG_none (k := j + 1) ?_
            rw [HST.out]
            simp [HSX.out, hT]
          have hfin : fitsB R row = false := by unfold fitsB; rw [hno]
          have HF := Lib.hid hfin
          clear hno hfin hT
          go_wp2_with fail
          go_ret
          exact ⟨by rw [HF.out]; rfl, HB5.out⟩
        | true =>
          have hst2 : runG R.ps R.top (row.take (j + 1)) = some (behG g x) := by
            rw [HST.out]
            simp [HSX.out, hT]
          have HT2 := Lib.hid (And.intro hT hst2)
          clear hT hst2
          go_wp2_with fail
          have e2 := HE2.out
          refine wp_region_E 7 (fun w' => Below w5.heap.size w5 w' ∧ (w'.cell? ⟨w.heap.size, 0, none⟩ = some (.int .i64 R.len) ∧ w'.cell? ⟨w.heap.size, 1, none⟩ = some (.int .i64 R.st) ∧ w'.cell? ⟨w.heap.size, 2, none⟩ = some (.int .i64 R.en) ∧ w'.cell? ⟨w.heap.size, 3, none⟩ = some (.slice R.pa R.ps.length R.pc)) ∧ (w'.cell? ⟨G, 0, none⟩ = some (.int .i64 (g.n : Int)) ∧ w'.cell? ⟨G, 1, none⟩ = some (.int .i64 (g.p : Int))) ∧ (w'.cell? ⟨b2, off2 + n.toNat * 5, none⟩ = some (.string x.name) ∧ w'.cell? ⟨b2, off2 + n.toNat * 5 + 1, none⟩ = some (.int .i64 x.wd) ∧ w'.cell? ⟨b2, off2 + n.toNat * 5 + 2, none⟩ = some (.int .i64 x.lf) ∧ w'.cell? ⟨b2, off2 + n.toNat * 5 + 3, none⟩ = some (.int .i64 x.rt) ∧ w'.cell? ⟨b2, off2 + n.toNat * 5 + 4, none⟩ = some (.int .i64 x.mr))) (by kernel_rfl) ?_
          have hx0 := HMK5.out w5.drew (Below.refl _ _).drew
          refine E_take (i := 0) (oi := _) (v := ?v19) rfl (by kernel_rfl) (by kernel_rfl) (by kernel_rfl) (by kernel_rfl) (fun _ _ _ h => h) hx0 (Or.inl ⟨by rfl, ?y19⟩) ?r19
          case y19 => (intro w' hSw; (try dsimp only at hSw); go_simp; try with_reducible rfl)
          try simp only [Act.put, List.getElem_toArray, List.getElem_cons_zero, List.getElem_cons_succ, List.setIfInBounds_toArray, List.set_cons_zero, List.set_cons_succ]
          refine E_take (i := 1) (oi := _) (v := ?v20) rfl (by kernel_rfl) (by kernel_rfl) (by kernel_rfl) (by kernel_rfl) (fun _ _ _ h => h) hx0 (Or.inl ⟨by rfl, ?y20⟩) ?r20
          case y20 => (intro w' hSw; (try dsimp only at hSw); go_simp; try with_reducible rfl)
          try simp only [Act.put, List.getElem_toArray, List.getElem_cons_zero, List.getElem_cons_succ, List.setIfInBounds_toArray, List.set_cons_zero, List.set_cons_succ]
          refine E_take (i := 2) (oi := _) (v := ?v21) rfl (by kernel_rfl) (by kernel_rfl) (by kernel_rfl) (by kernel_rfl) (fun _ _ _ h => h) hx0 (Or.inl ⟨by rfl, ?y21⟩) ?r21
          case y21 => (intro w' hSw; (try dsimp only at hSw); go_simp; try with_reducible rfl)
          try simp only [Act.put, List.getElem_toArray, List.getElem_cons_zero, List.getElem_cons_succ, List.setIfInBounds_toArray, List.set_cons_zero, List.set_cons_succ]
          refine E_take (i := 3) (oi := _) (v := ?v22) rfl (by kernel_rfl) (by kernel_rfl) (by kernel_rfl) (by kernel_rfl) (fun _ _ _ h => h) hx0 (Or.inl ⟨by rfl, ?y22⟩) ?r22
          case y22 => (intro w' hSw; (try dsimp only at hSw); go_simp; try with_reducible rfl)
          try simp only [Act.put, List.getElem_toArray, List.getElem_cons_zero, List.getElem_cons_succ, List.setIfInBounds_toArray, List.set_cons_zero, List.set_cons_succ]
          refine E_take (i := 4) (oi := _) (v := ?v23) rfl (by kernel_rfl) (by kernel_rfl) (by kernel_rfl) (by kernel_rfl) (fun _ _ _ h => h) hx0 (Or.inl ⟨by rfl, ?y23⟩) ?r23
          case y23 => (intro w' hSw; (try dsimp only at hSw); go_simp; try with_reducible rfl)
          try simp only [Act.put, List.getElem_toArray, List.getElem_cons_zero, List.getElem_cons_succ, List.setIfInBounds_toArray, List.set_cons_zero, List.set_cons_succ]
          refine E_take (i := 5) (oi := _) (v := ?v24) rfl (by kernel_rfl) (by kernel_rfl) (by kernel_rfl) (by kernel_rfl) (fun _ _ _ h => h) hx0 (Or.inl ⟨by rfl, ?y24⟩) ?r24
          case y24 => (intro w' hSw; (try dsimp only at hSw); go_simp; try with_reducible rfl)
          try simp only [Act.put, List.getElem_toArray, List.getElem_cons_zero, List.getElem_cons_succ, List.setIfInBounds_toArray, List.set_cons_zero, List.set_cons_succ]
          refine E_step (i := 6) (o := _) (by kernel_rfl) rfl (fun K hK => ?_)
          go_simp
          refine (behind_any g x _ HGO.out HXO.out HT2.out.1).mono ?_
          rintro e w6 ⟨rfl, hb6⟩
          dsimp only
          refine hK.out _ _ (fun h => HMK5.out _ ((Below.refl _ w5).drew.trans hb6)) ?_
          clear hK K
          try simp only [Act.put, List.getElem_toArray, List.getElem_cons_zero, List.getElem_cons_succ, List.setIfInBounds_toArray, List.set_cons_zero, List.set_cons_succ]
          have hB6 := (Below.refl w5.heap.size w5).drew.trans hb6
          have hx6 := HMK5.out w6 hB6
          have kg6 := KG5.out.belowS hB6
          have z0 := kg6.frozen 0
          have z1 := kg6.frozen 1
          have lg := kg6.lt
          refine E_step (i := 7) (o := _) (by kernel_rfl) rfl (fun K hK => ?_)
          go_simp
          refine hK.out _ _ (fun h => absurd rfl h) ?_
          clear hK K
          try simp only [Act.put, List.getElem_toArray, List.getElem_cons_zero, List.getElem_cons_succ, List.setIfInBounds_toArray, List.set_cons_zero, List.set_cons_succ]
          refine E_done (by kernel_rfl) ?_ _
          have kf := (kg6.set 0 (.int .i64 ((behG g x).n : Int))).set 1 (.int .i64 ((behG g x).p : Int))
          simp only [List.setIfInBounds_toArray, List.set_cons_zero, List.set_cons_succ] at kf
          have krf := ((KR5.out.belowS hB6).other (B' := G) (i := 0) (by omega) (.int .i64 ((behG g x).n : Int))).other (B' := G) (i := 1) (by omega) (.int .i64 ((behG g x).p : Int))
          have hbf := ((HB5.out.trans (hB6.mono HB5.out.size)).setCell (p := ⟨G, 0, none⟩) (by show w.heap.size ≤ G; omega) (.int .i64 ((behG g x).n : Int))).setCell (p := ⟨G, 1, none⟩) (by show w.heap.size ≤ G; omega) (.int .i64 ((behG g x).p : Int))
          rw [← e2]
          clear hx0 hx6 e2 z0 z1 lg
          have HF := Lib.hid (And.intro (behG_ok HGO.out HXO.out) (And.intro kf (And.intro krf hbf)))
          clear kf krf hbf hB6 hb6 kg6
          go_wp2_with fail
          exact ⟨⟨j + 1, behG g x, by omega, by simp, HT2.out.2, HF.out⟩, by simp [intOf]; omega⟩
    · obtain rfl : j = row.length := by omega
      have hfin : fitsB R row = decide (g = ⟨0, R.en.toNat⟩) := by
        have := HRUN.out
        rw [List.take_length] at this
        unfold fitsB
        rw [this]
      have hen : R.en = ((R.en.toNat : Nat) : Int) := by have := HR.out.2.2.1; omega
      have s1 : ∀ wx, (Op.equalIn 10000 87 (.agg #[.int .i64 (g.n : Int), .int .i64 (g.p : Int)]) (.agg #[.int .i64 0, .int .i64 R.en])).run Try.prog wx = .ok (decide (g = ⟨0, R.en.toNat⟩)) wx := fun wx => by
        have := run_equalIn_gap 9998 g ⟨0, R.en.toNat⟩ wx
        rwa [← hen] at this
      have hmk : ∀ w', Below wr.heap.size wr w' → (Below wr.heap.size wr w' ∧ (w'.cell? ⟨w.heap.size, 0, none⟩ = some (.int .i64 R.len) ∧ w'.cell? ⟨w.heap.size, 1, none⟩ = some (.int .i64 R.st) ∧ w'.cell? ⟨w.heap.size, 2, none⟩ = some (.int .i64 R.en) ∧ w'.cell? ⟨w.heap.size, 3, none⟩ = some (.slice R.pa R.ps.length R.pc)) ∧ (w'.cell? ⟨G, 0, none⟩ = some (.int .i64 (g.n : Int)) ∧ w'.cell? ⟨G, 1, none⟩ = some (.int .i64 (g.p : Int)))) := fun w' h => ⟨h, rdg_cells (R := R) (hkr.belowS h), gp_cells (g := g) (hkg.belowS h)⟩
      have HF := Lib.hid hfin
      clear hrun hfin hen
      go_wp2_with fail
      refine wp_region_E 5 (fun w' => Below wr.heap.size wr w' ∧ (w'.cell? ⟨w.heap.size, 0, none⟩ = some (.int .i64 R.len) ∧ w'.cell? ⟨w.heap.size, 1, none⟩ = some (.int .i64 R.st) ∧ w'.cell? ⟨w.heap.size, 2, none⟩ = some (.int .i64 R.en) ∧ w'.cell? ⟨w.heap.size, 3, none⟩ = some (.slice R.pa R.ps.length R.pc)) ∧ (w'.cell? ⟨G, 0, none⟩ = some (.int .i64 (g.n : Int)) ∧ w'.cell? ⟨G, 1, none⟩ = some (.int .i64 (g.p : Int)))) (by kernel_rfl) ?_
      have hx0 := hmk wr.drew (Below.refl _ _).drew
      refine E_takeR (i := 0) (oi := _) (v := ?v25) rfl (by kernel_rfl) (by kernel_rfl) (by kernel_rfl) (by decide) (fun _ _ _ h => h) hx0 (Or.inl ⟨by rfl, ?y25⟩) ?r25
      case y25 => (intro w' hSw; (try dsimp only at hSw); go_simp; try with_reducible rfl)
      try simp only [Act.put, List.getElem_toArray, List.getElem_cons_zero, List.getElem_cons_succ, List.setIfInBounds_toArray, List.set_cons_zero, List.set_cons_succ]
      refine E_takeR (i := 1) (oi := _) (v := ?v26) rfl (by kernel_rfl) (by kernel_rfl) (by kernel_rfl) (by decide) (fun _ _ _ h => h) hx0 (Or.inl ⟨by rfl, ?y26⟩) ?r26
      case y26 => (intro w' hSw; (try dsimp only at hSw); go_simp; try with_reducible rfl)
      try simp only [Act.put, List.getElem_toArray, List.getElem_cons_zero, List.getElem_cons_succ, List.setIfInBounds_toArray, List.set_cons_zero, List.set_cons_succ]
      refine E_step (i := 2) (o := _) (by kernel_rfl) rfl (fun K hK => ?_)
      go_simp
      refine (closed_any R _).mono ?_
      rintro e w4 ⟨rfl, hb4⟩
      dsimp only
      refine hK.out _ _ (fun h => hmk _ ((Below.refl _ wr).drew.trans hb4)) ?_
      clear hK K
      try simp only [Act.put, List.getElem_toArray, List.getElem_cons_zero, List.getElem_cons_succ, List.setIfInBounds_toArray, List.set_cons_zero, List.set_cons_succ]
      have hB4 := (Below.refl wr.heap.size wr).drew.trans hb4
      have hx4 := hmk w4 hB4
      refine E_step (i := 3) (o := _) (by kernel_rfl) rfl (fun K hK => ?_)
      go_simp
      refine hK.out _ _ (fun h => hx4) ?_
      clear hK K
      try simp only [Act.put, List.getElem_toArray, List.getElem_cons_zero, List.getElem_cons_succ, List.setIfInBounds_toArray, List.set_cons_zero, List.set_cons_succ]
      refine E_step (i := 4) (o := _) (by kernel_rfl) rfl (fun K hK => ?_)
      go_simp
      refine hK.out _ _ (fun h => hx4) ?_
      clear hK K
      try simp only [Act.put, List.getElem_toArray, List.getElem_cons_zero, List.getElem_cons_succ, List.setIfInBounds_toArray, List.set_cons_zero, List.set_cons_succ]
      refine E_done (by kernel_rfl) ?_ _
      have HBF := Lib.hid (hb.trans (hB4.mono hb.size))
      clear hx0 hx4
      go_wp2_with fail
      go_ret
      exact ⟨by rw [HF.out]; rfl, HBF.out⟩
end Go.Proofs.Ytmcmhgjlpffcnaa
