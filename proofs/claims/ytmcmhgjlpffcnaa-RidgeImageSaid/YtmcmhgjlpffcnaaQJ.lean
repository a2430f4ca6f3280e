/- RidgeImage's walk. No condition. -/
import Derived.Test.YtmcmhgjlpffcnaaQI
set_option linter.unusedSimpArgs false
namespace Go.Proofs.Ytmcmhgjlpffcnaa
open Go.RowKit

theorem below_dn (B : Nat) (w : World) (n : Nat) : Below B w (w.drewN n) := ⟨rfl, rfl, rfl, Nat.le_refl _, fun _ _ => rfl⟩
set_option maxRecDepth 100000 in
set_option maxHeartbeats 16000000 in
theorem imageLaw_any (R : Rdg) (sa : Option Addr) (c : Nat) (row : List Int) (w : World) (hR : IsRdg w R) (hns : IsInts w sa c row) :
    Calls Try.prog 9 #[.agg #[.int .i64 R.len, .int .i64 R.st, .int .i64 R.en, .slice R.pa R.ps.length R.pc], .slice sa row.length c] w fun e w' => e = .returned (.bool true) ∧ Below w.heap.size w w' := by
  have k1 := Blk.new w 24 #[.int .i64 R.len, .int .i64 R.st, .int .i64 R.en, .slice R.pa R.ps.length R.pc]
  have hb1 : Below w.heap.size w (w.alloc (.cells #[.int .i64 R.len, .int .i64 R.st, .int .i64 R.en, .slice R.pa R.ps.length R.pc] 24)) := (Below.refl _ w).alloc (Nat.le_refl _) _
  have hrl := ints_le hns
  have HR := Lib.hid hR
  have HNS := Lib.hid hns
  clear hR hns
  go_enter Try.func9, Try.ntmps9
  go_upto_region 1 with fail
  generalize w.alloc (.cells #[.int .i64 R.len, .int .i64 R.st, .int .i64 R.en, .slice R.pa R.ps.length R.pc] 24) = w1 at *
  have K1 := Lib.hid k1
  have HB1 := Lib.hid hb1
  obtain ⟨r0, r1, r2, r3⟩ := rdg_cells (R := R) k1
  have hlr := k1.lt
  clear k1 hb1
  go_wp2_with fail
  refine (great_any R _ (HR.out.belowS HB1.out)).mono ?_
  rintro e w2 ⟨b, rfl, hb, hb2⟩
  have K2 := Lib.hid (K1.out.belowS hb2)
  have HB2 := Lib.hid (HB1.out.trans (hb2.mono HB1.out.size))
  clear r0 r1 r2 r3 hlr hb2
  obtain ⟨r0, r1, r2, r3⟩ := rdg_cells (R := R) K2.out
  have hlr := K2.out.lt
  cases b with
  | true =>
    clear hb
    go_wp2_with fail
    refine (lives_any _).mono ?_
    rintro e w9 ⟨rfl, hb9⟩
    have HB9 := Lib.hid (HB2.out.trans (hb9.mono HB2.out.size))
    clear hb9
    go_wp2_with fail
    go_ret
    exact ⟨rfl, HB9.out⟩
  | false =>
    obtain ⟨hps, -⟩ := hb rfl
    clear hb
    by_cases hl : row.length ≤ 400
    rotate_left
    · have hl' : (400 : Int) < (row.length : Int) := by omega
      clear hl
      go_wp2_with fail
      refine (lives_any _).mono ?_
      rintro e w9 ⟨rfl, hb9⟩
      have HB9 := Lib.hid (HB2.out.trans (hb9.mono HB2.out.size))
      clear hb9
      go_wp2_with fail
      go_ret
      exact ⟨rfl, HB9.out⟩
    have hl' : ¬ (400 : Int) < (row.length : Int) := by omega
    go_wp2_with fail
    refine (check_any R _ (HR.out.belowS HB2.out).row (by omega) HR.out.names).mono ?_
    rintro e w3 ⟨rfl, hb3⟩
    have K3 := Lib.hid (K2.out.belowS hb3)
    have HB3 := Lib.hid (HB2.out.trans (hb3.mono HB2.out.size))
    clear r0 r1 r2 r3 hlr hb3
    obtain ⟨r0, r1, r2, r3⟩ := rdg_cells (R := R) K3.out
    have hlr := K3.out.lt
    by_cases hE : rdgE R = 0
    rotate_left
    · have q : (rdgE R != 0) = true := by simpa using hE
      generalize rdgE R = eR at *
      go_wp2_with fail
      refine (lives_any _).mono ?_
      rintro e w9 ⟨rfl, hb9⟩
      have HB9 := Lib.hid (HB3.out.trans (hb9.mono HB3.out.size))
      clear hb9
      go_wp2_with fail
      go_ret
      exact ⟨rfl, HB9.out⟩
    have HE := Lib.hid hE
    rw [hE]
    clear hE
    obtain ⟨i0, hi, hz0, hz1, hz2⟩ := info_int
    have hw0 : IntKind.i64.wrap ((row.length : Int) - 1) = (row.length : Int) - 1 := by rw [IntKind.wrap_i64]; omega
    go_wp2_with fail
    clear r0 r1 r2 r3 hlr
    have HWL := Lib.hid K3.out.lt
    obtain ⟨wl, hwl⟩ : ∃ wl : World, wl = w3 := ⟨_, rfl⟩
    subst hwl
    go_loopw [5, 6] (fun s i wr => ∃ (k : Nat) (a : Option Addr) (cc : Nat), k ≤ row.length ∧ i = .int .i64 ((k : Int) - 1) ∧ s = .slice a (imgL R.ps (row.drop k)).length cc ∧ InR R.ps (row.drop k) ∧ wr.ownsRow wl.heap.size 3 1 (.slice a (imgL R.ps (row.drop k)).length cc) (imgL R.ps (row.drop k)).length ((imgL R.ps (row.drop k)).flatMap cellsI) ∧ Blk wr w.heap.size #[.int .i64 R.len, .int .i64 R.st, .int .i64 R.en, .slice R.pa R.ps.length R.pc] 24 ∧ Below w.heap.size w wr ∧ wl.heap.size ≤ wr.heap.size) (fun _ i _ => (intOf i + 1).toNat)
    case atStart =>
      refine ⟨row.length, none, 0, Nat.le_refl _, rfl, ?_, ?_, ?_, K3.out, HB3.out, Nat.le_refl _⟩
      · rw [List.drop_length]; rfl
      · rw [List.drop_length]; intro n hn; cases hn
      · rw [List.drop_length]; exact World.ownsRow_nil _ _ _ _
    case round =>
      obtain ⟨k1, a, cc, hk, rfl, rfl, hin, hown, hkr, hbr, hsz⟩ := hrel
      have HIN := Lib.hid hin
      have HOWN := Lib.hid hown
      have HKR := Lib.hid hkr
      have HBR := Lib.hid hbr
      obtain ⟨ro, hro⟩ : ∃ ro : World, ro = wr := ⟨_, rfl⟩
      cases k1 with
      | succ k =>
        have hklt : k < row.length := by omega
        have hge : (0 : Int) ≤ ((k + 1 : Nat) : Int) - 1 := by omega
        have hik : ((k + 1 : Nat) : Int) - 1 = (k : Int) := by omega
        have hq : row[k]? = some row[k] := List.getElem?_eq_getElem hklt
        obtain ⟨b, off, e, hbw, hc1, hc2, hp⟩ := HNS.out.at hq
        have hbl : b < wr.heap.size := Nat.lt_of_lt_of_le hbw hbr.size
        have hdr : row.drop k = row[k] :: row.drop (k + 1) := List.drop_eq_getElem_cons hklt
        generalize row[k] = n at *
        have c0 : wr.cell? ⟨b, off + k * 1, none⟩ = some (.int .i64 n) := (hbr.cell (p := ⟨b, off + k * 1, none⟩) hbw).trans hp
        have HBW := Lib.hid hbw
        rw [Nat.mul_one] at c0
        have himg : imgL R.ps (row.drop k) = imgL R.ps (row.drop (k + 1)) ++ [mirI R.ps n] := by
          rw [hdr]; simp [imgL]
        have HDR := Lib.hid (And.intro hdr himg)
        obtain ⟨L, hL⟩ : ∃ L : List Int, imgL R.ps (row.drop (k + 1)) = L := ⟨_, rfl⟩
        rw [hL] at hown HOWN ⊢
        have HL := Lib.hid hL
        have hLlen : L.length ≤ 400 := by rw [← hL]; simp [imgL]; omega
        subst e
        obtain ⟨r0, r1, r2, r3⟩ := rdg_cells (R := R) hkr
        have hlr := hkr.lt
        rw [hik]
        have hkl : (k : Int) < (row.length : Int) := by omega
        have hk0 : (0 : Int) ≤ (k : Int) := Int.natCast_nonneg _
        clear hin hown hkr hbr hq hbw hp hdr himg hL hik hge hro ro
        go_upto_region 7 with fail
        by_cases hneg : n < 0
        · have g1 : decide (n < 0) = true := by simpa using hneg
          go_quiet (fail)
          go_wp2_with fail
          refine (lives_any _).mono ?_
          rintro e w9 ⟨rfl, hb9⟩
          have HB9 := Lib.hid ((HBR.out.trans (below_dn _ _ _)).trans (hb9.mono HBR.out.size))
          clear hb9
          go_wp2_with fail
          go_ret
          exact ⟨rfl, HB9.out⟩
        by_cases hbig : (R.ps.length : Int) ≤ n
        · have g1 : decide (n < 0) = false := by simp; omega
          have g2 : decide ((R.ps.length : Int) ≤ n) = true := by simpa using hbig
          go_quiet (fail)
          go_wp2_with fail
          refine (lives_any _).mono ?_
          rintro e w9 ⟨rfl, hb9⟩
          have HB9 := Lib.hid ((HBR.out.trans (below_dn _ _ _)).trans (hb9.mono HBR.out.size))
          clear hb9
          go_wp2_with fail
          go_ret
          exact ⟨rfl, HB9.out⟩
        have g1 : decide (n < 0) = false := by simp; omega
        have g2 : decide ((R.ps.length : Int) ≤ n) = false := by simp; omega
        go_quiet (fail)
        have hbq : Below wr.heap.size wr (wr.drewN nq) := ⟨rfl, rfl, rfl, Nat.le_refl _, fun _ _ => rfl⟩
        have hnr : 0 ≤ n ∧ n < (R.ps.length : Int) := by omega
        have hnl : n.toNat < R.ps.length := by omega
        have hqx : R.ps[n.toNat]? = some R.ps[n.toNat] := List.getElem?_eq_getElem hnl
        obtain ⟨b2, off2, e2, hbw2, hc21, hc22, hp2⟩ := HR.out.row.at hqx
        have hbl2 : b2 < wr.heap.size := Nat.lt_of_lt_of_le hbw2 HBR.out.size
        have hmi : mirI R.ps n = R.ps[n.toNat].mr := by simp [mirI, hqx]
        generalize R.ps[n.toNat] = x at *
        have KQ := Lib.hid (HKR.out.belowS hbq)
        have HBQ := Lib.hid (HBR.out.trans (hbq.mono HBR.out.size))
        have HOWQ := Lib.hid (own_below HOWN.out hbq)
        have d0 := (hbq.cell (p := ⟨b, off + k, none⟩) hbl).trans c0
        have d4 := (hbq.cell (p := ⟨b2, off2 + n.toNat * 5 + 4, none⟩) hbl2).trans ((HBR.out.cell (p := ⟨b2, off2 + n.toNat * 5 + 4, none⟩) hbw2).trans hp2.2.2.2.2)
        have HBW2 := Lib.hid (And.intro HBW.out hbw2)
        clear hbw2
        have hszq : wl.heap.size ≤ (wr.drewN nq).heap.size := Nat.le_trans hsz hbq.size
        have HBL := Lib.hid (And.intro (Nat.lt_of_lt_of_le hbl hbq.size) (Nat.lt_of_lt_of_le hbl2 hbq.size))
        have hn5 : L.length + 1 ≤ maxLen := by unfold maxLen; omega
        have hwk : IntKind.i64.wrap ((k : Int) - 1) = (k : Int) - 1 := by rw [IntKind.wrap_i64]; omega
        have HMI := Lib.hid hmi
        have HNR := Lib.hid hnr
        clear r0 r1 r2 r3 hlr c0 hbl hp2 hbl2 hqx hmi hbq hsz
        generalize wr.drewN nq = wq at *
        obtain ⟨r0, r1, r2, r3⟩ := rdg_cells (R := R) KQ.out
        rw [e2] at r3
        have hlr := KQ.out.lt
        obtain ⟨hbl, hbl2⟩ := HBL.out
        have hxn : n < (R.ps.length : Int) := hnr.2
        have hxn0 : 0 ≤ n := hnr.1
        clear hnr
        go_upto_region 9 with fail
        have hx : (fun w' : World => (w'.cell? ⟨w.heap.size, 3, none⟩ = some (.slice (some ⟨b2, off2, none⟩) R.ps.length R.pc) ∧ w'.cell? ⟨b, off + k, none⟩ = some (.int .i64 n)) ∧ w'.cell? ⟨b2, off2 + n.toNat * 5 + 4, none⟩ = some (.int .i64 x.mr)) wq.drew := ⟨⟨r3, d0⟩, d4⟩
        refine wp_region_E 12 (fun w' => (w'.cell? ⟨w.heap.size, 3, none⟩ = some (.slice (some ⟨b2, off2, none⟩) R.ps.length R.pc) ∧ w'.cell? ⟨b, off + k, none⟩ = some (.int .i64 n)) ∧ w'.cell? ⟨b2, off2 + n.toNat * 5 + 4, none⟩ = some (.int .i64 x.mr)) (by kernel_rfl) ?_
        refine E_take (i := 0) (oi := _) (v := ?v1) rfl (by kernel_rfl) (by kernel_rfl) (by kernel_rfl) (by kernel_rfl) (fun _ _ _ h => h) hx (Or.inl ⟨by rfl, ?y1⟩) ?r1
        case y1 => (intro w' hSw; (try dsimp only at hSw); go_simp; try with_reducible rfl)
        try simp only [Act.put, List.getElem_toArray, List.getElem_cons_zero, List.getElem_cons_succ, List.setIfInBounds_toArray, List.set_cons_zero, List.set_cons_succ]
        refine E_take (i := 1) (oi := _) (v := ?v2) rfl (by kernel_rfl) (by kernel_rfl) (by kernel_rfl) (by kernel_rfl) (fun _ _ _ h => h) hx (Or.inl ⟨by rfl, ?y2⟩) ?r2
        case y2 => (intro w' hSw; (try dsimp only at hSw); go_simp; try with_reducible rfl)
        try simp only [Act.put, List.getElem_toArray, List.getElem_cons_zero, List.getElem_cons_succ, List.setIfInBounds_toArray, List.set_cons_zero, List.set_cons_succ]
        refine E_take (i := 2) (oi := _) (v := ?v3) rfl (by kernel_rfl) (by kernel_rfl) (by kernel_rfl) (by kernel_rfl) (fun _ _ _ h => h) hx (Or.inl ⟨by rfl, ?y3⟩) ?r3
        case y3 => (intro w' hSw; (try dsimp only at hSw); go_simp; try with_reducible rfl)
        try simp only [Act.put, List.getElem_toArray, List.getElem_cons_zero, List.getElem_cons_succ, List.setIfInBounds_toArray, List.set_cons_zero, List.set_cons_succ]
        refine E_take (i := 3) (oi := _) (v := ?v4) rfl (by kernel_rfl) (by kernel_rfl) (by kernel_rfl) (by kernel_rfl) (fun _ _ _ h => h) hx (Or.inl ⟨by rfl, ?y4⟩) ?r4
        case y4 => (intro w' hSw; (try dsimp only at hSw); go_simp; try with_reducible rfl)
        try simp only [Act.put, List.getElem_toArray, List.getElem_cons_zero, List.getElem_cons_succ, List.setIfInBounds_toArray, List.set_cons_zero, List.set_cons_succ]
        refine E_take (i := 4) (oi := _) (v := ?v5) rfl (by kernel_rfl) (by kernel_rfl) (by kernel_rfl) (by kernel_rfl) (fun _ _ _ h => h) hx (Or.inl ⟨by rfl, ?y5⟩) ?r5
        case y5 => (intro w' hSw; (try dsimp only at hSw); go_simp; try with_reducible rfl)
        try simp only [Act.put, List.getElem_toArray, List.getElem_cons_zero, List.getElem_cons_succ, List.setIfInBounds_toArray, List.set_cons_zero, List.set_cons_succ]
        refine E_take (i := 5) (oi := _) (v := ?v6) rfl (by kernel_rfl) (by kernel_rfl) (by kernel_rfl) (by kernel_rfl) (fun _ _ _ h => h) hx (Or.inl ⟨by rfl, ?y6⟩) ?r6
        case y6 => (intro w' hSw; (try dsimp only at hSw); go_simp; try with_reducible rfl)
        try simp only [Act.put, List.getElem_toArray, List.getElem_cons_zero, List.getElem_cons_succ, List.setIfInBounds_toArray, List.set_cons_zero, List.set_cons_succ]
        refine E_take (i := 6) (oi := _) (v := ?v7) rfl (by kernel_rfl) (by kernel_rfl) (by kernel_rfl) (by kernel_rfl) (fun _ _ _ h => h) hx (Or.inl ⟨by rfl, ?y7⟩) ?r7
        case y7 => (intro w' hSw; (try dsimp only at hSw); go_simp; try with_reducible rfl)
        try simp only [Act.put, List.getElem_toArray, List.getElem_cons_zero, List.getElem_cons_succ, List.setIfInBounds_toArray, List.set_cons_zero, List.set_cons_succ]
        refine E_take (i := 7) (oi := _) (v := ?v8) rfl (by kernel_rfl) (by kernel_rfl) (by kernel_rfl) (by kernel_rfl) (fun _ _ _ h => h) hx (Or.inl ⟨by rfl, ?y8⟩) ?r8
        case y8 => (intro w' hSw; (try dsimp only at hSw); go_simp; try with_reducible rfl)
        try simp only [Act.put, List.getElem_toArray, List.getElem_cons_zero, List.getElem_cons_succ, List.setIfInBounds_toArray, List.set_cons_zero, List.set_cons_succ]
        refine E_take (i := 8) (oi := _) (v := ?v9) rfl (by kernel_rfl) (by kernel_rfl) (by kernel_rfl) (by kernel_rfl) (fun _ _ _ h => h) hx (Or.inl ⟨by rfl, ?y9⟩) ?r9
        case y9 => (intro w' hSw; (try dsimp only at hSw); go_simp; try with_reducible rfl)
        try simp only [Act.put, List.getElem_toArray, List.getElem_cons_zero, List.getElem_cons_succ, List.setIfInBounds_toArray, List.set_cons_zero, List.set_cons_succ]
        refine E_take (i := 9) (oi := _) (v := ?v10) rfl (by kernel_rfl) (by kernel_rfl) (by kernel_rfl) (by kernel_rfl) (fun _ _ _ h => h) hx (Or.inl ⟨by rfl, ?y10⟩) ?r10
        case y10 => (intro w' hSw; (try dsimp only at hSw); go_simp; try with_reducible rfl)
        try simp only [Act.put, List.getElem_toArray, List.getElem_cons_zero, List.getElem_cons_succ, List.setIfInBounds_toArray, List.set_cons_zero, List.set_cons_succ]
        have hrow : ∀ q : Nat, q < wl.heap.size ∨ wq.heap.size ≤ q → some q ≠ (Value.slice a L.length cc).ownBlock := fun q hq he => by
          obtain ⟨h1, h2, -⟩ := own_lt HOWQ.out he.symm
          omega
        have hy : (fun w' : World => (w'.cell? ⟨w.heap.size, 3, none⟩ = some (.slice (some ⟨b2, off2, none⟩) R.ps.length R.pc) ∧ w'.cell? ⟨b, off + k, none⟩ = some (.int .i64 n)) ∧ w'.cell? ⟨b2, off2 + n.toNat * 5 + 4, none⟩ = some (.int .i64 x.mr)) (wq.drew.alloc (.cells #[.int .i64 x.mr] 3)) := ⟨⟨(((Below.refl _ wq).drew.alloc (Nat.le_refl _) _).cell (p := ⟨w.heap.size, 3, none⟩) hlr).trans r3, (((Below.refl _ wq).drew.alloc (Nat.le_refl _) _).cell (p := ⟨b, off + k, none⟩) hbl).trans d0⟩, (((Below.refl _ wq).drew.alloc (Nat.le_refl _) _).cell (p := ⟨b2, off2 + n.toNat * 5 + 4, none⟩) hbl2).trans d4⟩
        have HY := Lib.hid hy
        clear hy
        refine E_step (i := 10) (o := _) (by kernel_rfl) rfl (fun K hK => ?_)
        go_simp
        refine hK.out _ _ (fun _ => HY.out) ?_
        clear hK K
        try simp only [Act.put, List.getElem_toArray, List.getElem_cons_zero, List.getElem_cons_succ, List.setIfInBounds_toArray, List.set_cons_zero, List.set_cons_succ]
        refine E_step (i := 11) (o := _) (by kernel_rfl) rfl (fun K hK => ?_)
        refine step_append_lies _ (by rfl) _ _ _ (by rfl) wl.heap.size 3 i0 _ 1 8 Try.underlying25 hi hz0 hz1 hz2 rfl (by omega) _ L.length (L.flatMap cellsI) (by rfl) ((own_below HOWQ.out (Below.refl _ _).drew).alloc _)
          ⟨wq.heap.size, 0, none⟩ 1 1 [.int .i64 x.mr] (by rfl) (by rfl) (World.news_of_block (cs := #[.int .i64 x.mr]) (t := 3) (fr := (0, 0)) (World.alloc_heap_new wq.drew _)) (by simp [Value.oneCell'])
          (by omega) hn5 (by omega) (by simp; omega) (wq.heap.size + 1) (by simp) ?_
        intro gg cap w9 hown9 hgrow hat hlt9
        have hfar : ∀ q, q < wl.heap.size → some q ≠ (Value.slice a L.length cc).ownBlock := fun q hq => hrow q (.inl hq)
        have hy := HY.out
        have hS9 : (fun w' : World => (w'.cell? ⟨w.heap.size, 3, none⟩ = some (.slice (some ⟨b2, off2, none⟩) R.ps.length R.pc) ∧ w'.cell? ⟨b, off + k, none⟩ = some (.int .i64 n)) ∧ w'.cell? ⟨b2, off2 + n.toNat * 5 + 4, none⟩ = some (.int .i64 x.mr)) w9 := ⟨⟨(hgrow.cell_far ⟨w.heap.size, 3, none⟩ (by simp; omega) (hfar _ HWL.out)).trans hy.1.1, (hgrow.cell_far ⟨b, off + k, none⟩ (by simp; omega) (hfar _ (Nat.lt_trans HBW2.out.1 HWL.out))).trans hy.1.2⟩, (hgrow.cell_far ⟨b2, off2 + n.toNat * 5 + 4, none⟩ (by simp; omega) (hfar _ (Nat.lt_trans HBW2.out.2 HWL.out))).trans hy.2⟩
        refine hK.out _ _ (fun _ => hS9) ?_
        clear hK K
        try simp only [Act.put, List.getElem_toArray, List.getElem_cons_zero, List.getElem_cons_succ, List.setIfInBounds_toArray, List.set_cons_zero, List.set_cons_succ]
        refine E_step (i := 12) (o := _) (by kernel_rfl) rfl (fun K hK => ?_)
        go_simp
        refine hK.out _ _ (fun h => absurd rfl h) ?_
        clear hK K
        try simp only [Act.put, List.getElem_toArray, List.getElem_cons_zero, List.getElem_cons_succ, List.setIfInBounds_toArray, List.set_cons_zero, List.set_cons_succ]
        refine E_done (by kernel_rfl) ?_ _
        have hKA := (KQ.out.belowS (Below.refl _ _).drew).alloc (.cells #[.int .i64 x.mr] 3)
        have K9 := Lib.hid (hKA.kept hgrow (hfar _ HWL.out))
        have HB9 := Lib.hid ((HBQ.out.drew.alloc HBQ.out.size (.cells #[.int .i64 x.mr] 3)).grown hgrow (by simp; omega) (fun q e => by have := (own_lt HOWQ.out e).1; have := HWL.out; omega))
        have hs9 : wl.heap.size ≤ w9.heap.size := by have := hgrow.size; simp at this; omega
        have HW9 := Lib.hid hown9
        have HI := Lib.hid (show imgL R.ps (row.drop k) = L ++ [x.mr] by rw [HDR.out.2, HL.out, HMI.out])
        clear hx hy hS9 hown9 hgrow hat hlt9 r0 r1 r2 r3 d0 d4 hlr hbl hbl2 hrow hfar hKA
        go_wp2_with fail
        refine ⟨⟨_, _, _, ⟨k, by omega, rfl, some ⟨gg, 0, none⟩, cap, ?_, ?_, ?_, (by rw [← e2]; exact K9.out), HB9.out⟩, rfl, rfl, rfl⟩, by simp [intOf]; omega⟩
        · rw [HI.out, List.length_append]; rfl
        · rw [HDR.out.1]
          intro m hm
          rcases List.mem_cons.1 hm with rfl | hm
          · exact HNR.out
          · exact HIN.out m hm
        · rw [HI.out, List.length_append, List.flatMap_append]
          exact HW9.out
      | zero =>
        have hneg : ((0 : Nat) : Int) - 1 = -1 := rfl
        rw [hneg]
        rw [List.drop_zero] at hin hown ⊢
        have HII := Lib.hid (isInts_own hown)
        have hil : (imgL R.ps row).length ≤ 400 := by simp [imgL]; omega
        have hfs : fitsV (swapR R) (imgL R.ps row) = fitsV R row := by
          unfold fitsV
          rw [swap_ok HE.out, HE.out, if_pos rfl, if_pos rfl, fits_swap HE.out hin]
        have hsr : IsRdg w (swapR R) := ⟨HR.out.row, HR.out.names⟩
        have HSR := Lib.hid hsr
        obtain ⟨I, hI⟩ : ∃ I : List Int, imgL R.ps row = I := ⟨_, rfl⟩
        rw [hI] at hfs hil HII ⊢
        have HFS := Lib.hid hfs
        clear hin hown HIN HOWN hfs hsr hI hneg
        obtain ⟨r0, r1, r2, r3⟩ := rdg_cells (R := R) hkr
        have hlr := hkr.lt
        clear hkr hbr
        go_wp2_with fail
        refine (fitsPub_any R sa c row _ (HR.out.belowS HBR.out) (by omega) (HNS.out.belowS HBR.out)).mono ?_
        rintro e w4 ⟨rfl, hb4⟩
        rw [HE.out]
        have K4 := Lib.hid (HKR.out.belowS hb4)
        have HB4 := Lib.hid (HBR.out.trans (hb4.mono HBR.out.size))
        have HI4 := Lib.hid (HII.out.belowS hb4)
        obtain ⟨fb, hfb⟩ : ∃ fb, fitsV R row = fb := ⟨_, rfl⟩
        rw [hfb] at HFS ⊢
        clear r0 r1 r2 r3 hlr hb4 hfb
        obtain ⟨r0, r1, r2, r3⟩ := rdg_cells (R := R) K4.out
        have hlr := K4.out.lt
        go_wp2_with fail
        refine (swapped_any R _).mono ?_
        rintro e w5 ⟨rfl, hb5⟩
        have K5 := Lib.hid (K4.out.belowS hb5)
        have HB5 := Lib.hid (HB4.out.trans (hb5.mono HB4.out.size))
        have HI5 := Lib.hid (HI4.out.belowS hb5)
        clear r0 r1 r2 r3 hlr hb5
        have hf5 := fitsPub_any (swapR R) a cc I w5 (HSR.out.belowS HB5.out) (show R.ps.length ≤ 1000000000 by omega) HI5.out
        rw [HFS.out, swap_ok HE.out] at hf5
        have HF5 := Lib.hid hf5
        clear hf5
        go_wp2_with fail
        refine HF5.out.mono ?_
        rintro e w6 ⟨rfl, hb6⟩
        have K6 := Lib.hid (K5.out.belowS hb6)
        have HB6 := Lib.hid (HB5.out.trans (hb6.mono HB5.out.size))
        obtain ⟨r0, r1, r2, r3⟩ := rdg_cells (R := R) K6.out
        have hlr := K6.out.lt
        clear hb6 HF5
        have hff : (fb != fb) = false := by cases fb <;> rfl
        go_wp2_with fail
        refine (ways_any R _ (HR.out.belowS HB6.out).row (by omega) HR.out.names).mono ?_
        rintro e w7 ⟨rfl, hb7⟩
        have K7 := Lib.hid (K6.out.belowS hb7)
        have HB7 := Lib.hid (HB6.out.trans (hb7.mono HB6.out.size))
        clear r0 r1 r2 r3 hlr hb7 hff
        have hw := ways_any (swapR R)
        obtain ⟨V, hV⟩ : ∃ V, endI (waysE R) ((waysN R : Nat) : Int) = V := ⟨_, rfl⟩
        obtain ⟨E, hEE⟩ : ∃ E, waysE R = E := ⟨_, rfl⟩
        rw [waysE_swap HE.out, ways_swap HE.out, hV, hEE] at hw
        rw [hV, hEE]
        have HW := Lib.hid hw
        clear hV hEE hw
        obtain ⟨r0, r1, r2, r3⟩ := rdg_cells (R := R) K7.out
        have hlr := K7.out.lt
        go_wp2_with fail
        refine (swapped_any R _).mono ?_
        rintro e w8 ⟨rfl, hb8⟩
        have HB8 := Lib.hid (HB7.out.trans (hb8.mono HB7.out.size))
        clear r0 r1 r2 r3 hlr hb8
        go_wp2_with fail
        refine (HW.out _ (HSR.out.belowS HB8.out).row (show R.ps.length ≤ 1000000000 by omega) HSR.out.names).mono ?_
        rintro e w10 ⟨rfl, hb10⟩
        have HB10 := Lib.hid (HB8.out.trans (hb10.mono HB8.out.size))
        have hvv : (V == V) = true := by simp
        have hee : (E == E) = true := by simp
        clear hb10 HW
        go_wp2_with fail
        refine (lives_any _).mono ?_
        rintro e w9 ⟨rfl, hb9⟩
        have HB9 := Lib.hid (HB10.out.trans (hb9.mono HB10.out.size))
        clear hb9
        go_wp2_with fail
        go_ret
        exact ⟨rfl, HB9.out⟩
end Go.Proofs.Ytmcmhgjlpffcnaa
