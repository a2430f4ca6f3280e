/- RidgeBounds' walk. No condition. -/
import Derived.Test.YtmcmhgjlpffcnaaRV
import Derived.Test.YtmcmhgjlpffcnaaPU
set_option linter.unusedSimpArgs false
namespace Go.Proofs.Ytmcmhgjlpffcnaa
open Go.RowKit

theorem cts_le {w : World} {a : Option Addr} {c : Nat} {l : List Cut} (h : IsCts w a c l) : l.length ≤ 9223372036854775807 := by
  rcases h with h | ⟨b, off, e, hl, hc, hc', hp⟩
  · rw [h]; simp
  · omega
def WideSaid (r : Rds) (w : World) (e : Ending) (w' : World) : Prop := ∃ b, e = .returned (.bool b) ∧ (b = false → r.cs.length ≤ 30) ∧ Below w.heap.size w w'

set_option maxRecDepth 100000 in
set_option maxHeartbeats 8000000 in
theorem wide_any (r : Rds) (w : World) (hrow : IsCts w r.ca r.cc r.cs) : Calls Try.prog 30 #[.agg #[.int .i64 r.stock, .int .i64 r.kerf, .slice r.ca r.cs.length r.cc]] w (WideSaid r w) := by
  have k1 := Blk.new w 43 #[.int .i64 r.stock, .int .i64 r.kerf, .slice r.ca r.cs.length r.cc]
  have hb1 : Below w.heap.size w (w.alloc (.cells #[.int .i64 r.stock, .int .i64 r.kerf, .slice r.ca r.cs.length r.cc] 43)) := (Below.refl _ w).alloc (Nat.le_refl _) _
  have hll := cts_le hrow
  have HROW := Lib.hid hrow
  clear hrow
  go_enter Try.func30, Try.ntmps30
  go_upto_region 1 with fail
  generalize w.alloc (.cells #[.int .i64 r.stock, .int .i64 r.kerf, .slice r.ca r.cs.length r.cc] 43) = w1 at *
  have K1 := Lib.hid k1
  have HB1 := Lib.hid hb1
  obtain ⟨r0, r1, r2⟩ := rds_cells (r := r) k1
  have hlr := k1.lt
  clear k1 hb1
  go_wp2_with fail
  go_loopw [3, 4] (fun s3 s4 wv => ∃ (i : Nat) (u : Int), i ≤ r.cs.length ∧ i ≤ 31 ∧ 0 ≤ u ∧ u ≤ 100 * i ∧ s4 = .int .i64 i ∧ s3 = .int .i64 u ∧ Below w1.heap.size w1 wv) (fun _ s4 _ => r.cs.length - (intOf s4).toNat)
  case atStart => exact ⟨0, 0, Nat.zero_le _, by omega, by omega, by omega, rfl, rfl, Below.refl _ _⟩
  case round =>
    clear r0 r1 r2 hlr
    obtain ⟨i, u, hi, hi31, hu0, hu1, rfl, rfl, hb⟩ := hrel
    have HB := Lib.hid hb
    have HBW := Lib.hid (HB1.out.trans (hb.mono HB1.out.size))
    have KI := Lib.hid (K1.out.belowS hb)
    obtain ⟨wo, rfl⟩ : ∃ wo : World, wo = wr := ⟨_, rfl⟩
    have hi0 : (0 : Int) ≤ (i : Int) := Int.natCast_nonneg _
    obtain ⟨r0, r1, r2⟩ := rds_cells (r := r) KI.out
    have hlr := KI.out.lt
    by_cases hil : i < r.cs.length ∧ i ≤ 30
    · obtain ⟨h1, h2⟩ := hil
      have hi1 : (i : Int) < (r.cs.length : Int) := by omega
      have hi2 : (i : Int) ≤ 30 := by omega
      have hq : r.cs[i]? = some r.cs[i] := List.getElem?_eq_getElem h1
      obtain ⟨b, off, e, hbl, hc1, hc2, hp⟩ := (HROW.out.belowS HBW.out).at hq
      have p1 : wo.cell? ⟨b, off + i * 2 + 1, none⟩ = some (.int .i64 r.cs[i].mn) := hp.2
      generalize r.cs[i].mn = n at *
      have HE := Lib.hid e
      rw [e] at r2
      clear hq e hp hb
      by_cases ha : n < 0
      · have hn1 : n < 100 := by omega
        go_wp2_with fail
        exact ⟨⟨i + 1, u, by omega, by omega, by omega, by omega, by simp, rfl, HB.out⟩, by simp [intOf]; omega⟩
      · by_cases hc : n < 100
        · have hn0 : 0 ≤ n := by omega
          have ea : IntKind.i64.wrap (u + n) = u + n := by rw [IntKind.wrap_i64]; omega
          go_wp2_with fail
          exact ⟨⟨i + 1, u + if 0 < n then n else 0, by omega, by omega, by split <;> omega, by split <;> omega, by simp, rfl, HB.out⟩, by simp [intOf]; omega⟩
        · have ea : IntKind.i64.wrap (u + 100) = u + 100 := by rw [IntKind.wrap_i64]; omega
          go_wp2_with fail
          exact ⟨⟨i + 1, u + if 100 < n then 100 else n, by omega, by omega, by split <;> omega, by split <;> omega, by simp, rfl, HB.out⟩, by simp [intOf]; omega⟩
    · by_cases hlt : i < r.cs.length
      · have g1 : (i : Int) < (r.cs.length : Int) := by omega
        have g2 : ¬ (i : Int) ≤ 30 := by omega
        have hbig : (30 : Int) < (r.cs.length : Int) := by omega
        clear hb
        go_wp2_with fail
        go_ret
        exact ⟨true, rfl, (fun h => by cases h), HBW.out⟩
      · have g1 : ¬ (i : Int) < (r.cs.length : Int) := by omega
        by_cases hbig : (30 : Int) < (r.cs.length : Int)
        · clear hb
          go_wp2_with fail
          go_ret
          exact ⟨true, rfl, (fun h => by cases h), HBW.out⟩
        have hsm : r.cs.length ≤ 30 := by omega
        clear hb
        by_cases h9 : (9 : Int) < u
        · by_cases h12 : u ≤ 12
          · go_wp2_with fail
            go_ret
            exact ⟨_, rfl, (fun _ => hsm), HBW.out⟩
          · go_wp2_with fail
            go_ret
            exact ⟨_, rfl, (fun _ => hsm), HBW.out⟩
        · go_wp2_with fail
          go_ret
          exact ⟨_, rfl, (fun _ => hsm), HBW.out⟩

set_option maxRecDepth 100000 in
set_option maxHeartbeats 16000000 in
theorem boundsLaw_any (r : Rds) (sa : Option Addr) (c : Nat) (ws : List Int) (w : World) (hrow : IsCts w r.ca r.cc r.cs) (hws : IsInts w sa c ws) :
    Calls Try.prog 6 #[.agg #[.int .i64 r.stock, .int .i64 r.kerf, .slice r.ca r.cs.length r.cc], .slice sa ws.length c] w fun e w' => e = .returned (.bool true) ∧ Below w.heap.size w w' := by
  have k1 := Blk.new w 43 #[.int .i64 r.stock, .int .i64 r.kerf, .slice r.ca r.cs.length r.cc]
  have hb1 : Below w.heap.size w (w.alloc (.cells #[.int .i64 r.stock, .int .i64 r.kerf, .slice r.ca r.cs.length r.cc] 43)) := (Below.refl _ w).alloc (Nat.le_refl _) _
  have hrl := ints_le hws
  have HROW := Lib.hid hrow
  have HWS := Lib.hid hws
  clear hrow hws
  go_enter Try.func6, Try.ntmps6
  go_upto_region 1 with fail
  generalize w.alloc (.cells #[.int .i64 r.stock, .int .i64 r.kerf, .slice r.ca r.cs.length r.cc] 43) = w1 at *
  have K1 := Lib.hid k1
  have HB1 := Lib.hid hb1
  obtain ⟨r0, r1, r2⟩ := rds_cells (r := r) k1
  have hlr := k1.lt
  clear k1 hb1
  go_wp2_with fail
  refine (wide_any r _ (HROW.out.belowS HB1.out)).mono ?_
  rintro e w2 ⟨b, rfl, hb, hb2⟩
  have K2 := Lib.hid (K1.out.belowS hb2)
  have HB2 := Lib.hid (HB1.out.trans (hb2.mono HB1.out.size))
  clear r0 r1 r2 hlr hb2
  obtain ⟨r0, r1, r2⟩ := rds_cells (r := r) K2.out
  have hlr := K2.out.lt
  cases b with
  | true =>
    clear hb
    go_wp2_with fail
    refine (lives_any _).mono ?_
    rintro e w9 ⟨rfl, hb9⟩
    have HB9 := Lib.hid (HB2.out.trans (hb9.mono HB2.out.size))
    clear hb9
    go_wp2_with fail
    go_ret
    exact ⟨rfl, HB9.out⟩
  | false =>
    have hcl := hb rfl
    clear hb
    by_cases hl : ws.length ≤ 30
    rotate_left
    · have hl' : (30 : Int) < (ws.length : Int) := by omega
      clear hl
      go_wp2_with fail
      refine (lives_any _).mono ?_
      rintro e w9 ⟨rfl, hb9⟩
      have HB9 := Lib.hid (HB2.out.trans (hb9.mono HB2.out.size))
      clear hb9
      go_wp2_with fail
      go_ret
      exact ⟨rfl, HB9.out⟩
    have hl' : ¬ (30 : Int) < (ws.length : Int) := by omega
    have HA := Lib.hid (fun W (hb : Below w.heap.size w W) => boundPub_any r sa c ws W (HROW.out.belowS hb) (by omega) (HWS.out.belowS hb))
    have HF := Lib.hid (fun W (hb : Below w.heap.size w W) => refBoundPub_any r sa c ws W (HROW.out.belowS hb) (by omega) (HWS.out.belowS hb))
    have HC := Lib.hid (fun W (hb : Below w.heap.size w W) => checkRods_any r W (HROW.out.belowS hb) (by omega))
    have HD := Lib.hid (fun W (hb : Below w.heap.size w W) => refCheckRods_any r W (HROW.out.belowS hb) (by omega))
    have HN := Lib.hid (fun W (hb : Below w.heap.size w W) => lowerPub_any r W (HROW.out.belowS hb) (by omega))
    have HM := Lib.hid (fun W (hb : Below w.heap.size w W) => refLowerPub_any r W (HROW.out.belowS hb) (by omega))
    unfold LowSaid at HN HM
    obtain ⟨eB, heB⟩ : ∃ eB, boundE r ws = eB := ⟨_, rfl⟩
    obtain ⟨vB, hvB⟩ : ∃ vB, endI eB (boundV r ws) = vB := ⟨_, rfl⟩
    obtain ⟨eR, heR⟩ : ∃ eR, rodsE r = eR := ⟨_, rfl⟩
    obtain ⟨nV, hnV⟩ : ∃ nV, lowV r = nV := ⟨_, rfl⟩
    obtain ⟨nL, hnL⟩ : ∃ nL, lowW r = nL := ⟨_, rfl⟩
    simp only [heB, hvB] at HA HF
    simp only [heR] at HC HD HN HM
    simp only [hnV, hnL] at HN HM
    have hff : (vB != vB) = false := by simp
    have hee : (eR != eR) = false := by simp
    have heb : (eB != eB) = false := by simp
    have hnn : (nV == nV) = true := by simp
    have he1 : (eR == eR) = true := by simp
    clear heB hvB heR hnV hnL
    go_wp2_with fail
    refine (HA.out w2 HB2.out).mono ?_
    rintro e w3 ⟨rfl, hb3⟩
    have K3 := Lib.hid (K2.out.belowS hb3)
    have HB3 := Lib.hid (HB2.out.trans (hb3.mono HB2.out.size))
    clear r0 r1 r2 hlr hb3 HA
    obtain ⟨r0, r1, r2⟩ := rds_cells (r := r) K3.out
    have hlr := K3.out.lt
    go_wp2_with fail
    refine (HF.out w3 HB3.out).mono ?_
    rintro e w4 ⟨rfl, hb4⟩
    have K4 := Lib.hid (K3.out.belowS hb4)
    have HB4 := Lib.hid (HB3.out.trans (hb4.mono HB3.out.size))
    clear r0 r1 r2 hlr hb4 HF
    obtain ⟨r0, r1, r2⟩ := rds_cells (r := r) K4.out
    have hlr := K4.out.lt
    go_upto_region 5 with fail
    refine wp_region_E 15 (fun w' => w'.cell? ⟨w.heap.size, 0, none⟩ = some (.int .i64 r.stock) ∧ w'.cell? ⟨w.heap.size, 1, none⟩ = some (.int .i64 r.kerf) ∧ w'.cell? ⟨w.heap.size, 2, none⟩ = some (.slice r.ca r.cs.length r.cc)) (by kernel_rfl) ?_
    have hx : (fun w' : World => w'.cell? ⟨w.heap.size, 0, none⟩ = some (.int .i64 r.stock) ∧ w'.cell? ⟨w.heap.size, 1, none⟩ = some (.int .i64 r.kerf) ∧ w'.cell? ⟨w.heap.size, 2, none⟩ = some (.slice r.ca r.cs.length r.cc)) w4.drew := ⟨r0, r1, r2⟩
    refine E_takeR (i := 0) (oi := _) (v := ?v1) rfl (by kernel_rfl) (by kernel_rfl) (by kernel_rfl) (by decide) (fun _ _ _ h => h) hx (Or.inl ⟨by rfl, ?y1⟩) ?r1
    case y1 => (intro w' hSw; (try dsimp only at hSw); go_simp; try with_reducible rfl)
    try simp only [Act.put, List.getElem_toArray, List.getElem_cons_zero, List.getElem_cons_succ, List.setIfInBounds_toArray, List.set_cons_zero, List.set_cons_succ]
    refine E_takeR (i := 2) (oi := _) (v := ?v2) rfl (by kernel_rfl) (by kernel_rfl) (by kernel_rfl) (by decide) (fun _ _ _ h => h) hx (Or.inl ⟨by rfl, ?y2⟩) ?r2
    case y2 => (intro w' hSw; (try dsimp only at hSw); go_simp; try with_reducible rfl)
    try simp only [Act.put, List.getElem_toArray, List.getElem_cons_zero, List.getElem_cons_succ, List.setIfInBounds_toArray, List.set_cons_zero, List.set_cons_succ]
    refine E_step (i := 1) (o := _) (by kernel_rfl) rfl (fun K hK => ?_)
    go_simp
    refine (HC.out w4.drew HB4.out.drew).mono ?_
    rintro e w5 ⟨rfl, hb5⟩
    dsimp only
    have K5 := Lib.hid ((K4.out.belowS (Below.refl _ _).drew).belowS hb5)
    have HB5 := Lib.hid (HB4.out.drew.trans (hb5.mono HB4.out.drew.size))
    have hx5 : (fun w' : World => w'.cell? ⟨w.heap.size, 0, none⟩ = some (.int .i64 r.stock) ∧ w'.cell? ⟨w.heap.size, 1, none⟩ = some (.int .i64 r.kerf) ∧ w'.cell? ⟨w.heap.size, 2, none⟩ = some (.slice r.ca r.cs.length r.cc)) w5 := rds_cells (r := r) K5.out
    refine hK.out _ _ (fun h => hx5) ?_
    clear hK K
    try simp only [Act.put, List.getElem_toArray, List.getElem_cons_zero, List.getElem_cons_succ, List.setIfInBounds_toArray, List.set_cons_zero, List.set_cons_succ]
    refine E_step (i := 3) (o := _) (by kernel_rfl) rfl (fun K hK => ?_)
    go_simp
    refine (HD.out w5 HB5.out).mono ?_
    rintro e w6 ⟨rfl, hb6⟩
    dsimp only
    have K6 := Lib.hid (K5.out.belowS hb6)
    have HB6 := Lib.hid (HB5.out.trans (hb6.mono HB5.out.size))
    have hx6 : (fun w' : World => w'.cell? ⟨w.heap.size, 0, none⟩ = some (.int .i64 r.stock) ∧ w'.cell? ⟨w.heap.size, 1, none⟩ = some (.int .i64 r.kerf) ∧ w'.cell? ⟨w.heap.size, 2, none⟩ = some (.slice r.ca r.cs.length r.cc)) w6 := rds_cells (r := r) K6.out
    refine hK.out _ _ (fun h => hx6) ?_
    clear hK K hx hx5 hb5 hb6
    try simp only [Act.put, List.getElem_toArray, List.getElem_cons_zero, List.getElem_cons_succ, List.setIfInBounds_toArray, List.set_cons_zero, List.set_cons_succ]
    refine E_step (i := 4) (o := _) (by kernel_rfl) rfl (fun K hK => ?_)
    go_simp
    refine hK.out _ _ (fun h => hx6) ?_
    clear hK K
    try simp only [Act.put, List.getElem_toArray, List.getElem_cons_zero, List.getElem_cons_succ, List.setIfInBounds_toArray, List.set_cons_zero, List.set_cons_succ]
    try rw [hee]
    refine E_step (i := 5) (o := _) (by kernel_rfl) rfl (fun K hK => ?_)
    go_simp
    refine hK.out _ _ (fun h => hx6) ?_
    clear hK K
    try simp only [Act.put, List.getElem_toArray, List.getElem_cons_zero, List.getElem_cons_succ, List.setIfInBounds_toArray, List.set_cons_zero, List.set_cons_succ]
    refine E_takeR (i := 6) (oi := _) (v := ?v3) rfl (by kernel_rfl) (by kernel_rfl) (by kernel_rfl) (by decide) (fun _ _ _ h => h) hx6 (Or.inl ⟨by rfl, ?y3⟩) ?r3
    case y3 => (intro w' hSw; (try dsimp only at hSw); go_simp; try with_reducible rfl)
    try simp only [Act.put, List.getElem_toArray, List.getElem_cons_zero, List.getElem_cons_succ, List.setIfInBounds_toArray, List.set_cons_zero, List.set_cons_succ]
    refine E_takeR (i := 7) (oi := _) (v := ?v4) rfl (by kernel_rfl) (by kernel_rfl) (by kernel_rfl) (by decide) (fun _ _ _ h => h) hx6 (Or.inl ⟨by rfl, ?y4⟩) ?r4
    case y4 => (intro w' hSw; (try dsimp only at hSw); go_simp; try with_reducible rfl)
    try simp only [Act.put, List.getElem_toArray, List.getElem_cons_zero, List.getElem_cons_succ, List.setIfInBounds_toArray, List.set_cons_zero, List.set_cons_succ]
    refine E_step (i := 8) (o := _) (by kernel_rfl) rfl (fun K hK => ?_)
    go_simp
    refine hK.out _ _ (fun h => hx6) ?_
    clear hK K
    try simp only [Act.put, List.getElem_toArray, List.getElem_cons_zero, List.getElem_cons_succ, List.setIfInBounds_toArray, List.set_cons_zero, List.set_cons_succ]
    try rw [hff]
    refine E_step (i := 9) (o := _) (by kernel_rfl) rfl (fun K hK => ?_)
    go_simp
    refine hK.out _ _ (fun h => hx6) ?_
    clear hK K
    try simp only [Act.put, List.getElem_toArray, List.getElem_cons_zero, List.getElem_cons_succ, List.setIfInBounds_toArray, List.set_cons_zero, List.set_cons_succ]
    refine E_step (i := 10) (o := _) (by kernel_rfl) rfl (fun K hK => ?_)
    go_simp
    refine hK.out _ _ (fun h => hx6) ?_
    clear hK K
    try simp only [Act.put, List.getElem_toArray, List.getElem_cons_zero, List.getElem_cons_succ, List.setIfInBounds_toArray, List.set_cons_zero, List.set_cons_succ]
    refine E_takeR (i := 11) (oi := _) (v := ?v5) rfl (by kernel_rfl) (by kernel_rfl) (by kernel_rfl) (by decide) (fun _ _ _ h => h) hx6 (Or.inl ⟨by rfl, ?y5⟩) ?r5
    case y5 => (intro w' hSw; (try dsimp only at hSw); go_simp; try with_reducible rfl)
    try simp only [Act.put, List.getElem_toArray, List.getElem_cons_zero, List.getElem_cons_succ, List.setIfInBounds_toArray, List.set_cons_zero, List.set_cons_succ]
    refine E_takeR (i := 12) (oi := _) (v := ?v6) rfl (by kernel_rfl) (by kernel_rfl) (by kernel_rfl) (by decide) (fun _ _ _ h => h) hx6 (Or.inl ⟨by rfl, ?y6⟩) ?r6
    case y6 => (intro w' hSw; (try dsimp only at hSw); go_simp; try with_reducible rfl)
    try simp only [Act.put, List.getElem_toArray, List.getElem_cons_zero, List.getElem_cons_succ, List.setIfInBounds_toArray, List.set_cons_zero, List.set_cons_succ]
    refine E_step (i := 13) (o := _) (by kernel_rfl) rfl (fun K hK => ?_)
    go_simp
    refine hK.out _ _ (fun h => hx6) ?_
    clear hK K
    try simp only [Act.put, List.getElem_toArray, List.getElem_cons_zero, List.getElem_cons_succ, List.setIfInBounds_toArray, List.set_cons_zero, List.set_cons_succ]
    try rw [heb]
    refine E_step (i := 14) (o := _) (by kernel_rfl) rfl (fun K hK => ?_)
    go_simp
    refine hK.out _ _ (fun h => hx6) ?_
    clear hK K
    try simp only [Act.put, List.getElem_toArray, List.getElem_cons_zero, List.getElem_cons_succ, List.setIfInBounds_toArray, List.set_cons_zero, List.set_cons_succ]
    refine E_done (by kernel_rfl) ?_ _
    obtain ⟨r0, r1, r2⟩ := hx6
    have hlr := K6.out.lt
    clear hee hff heb
    go_wp2_with fail
    refine (HN.out w6 HB6.out).mono ?_
    rintro e w7 ⟨a7, c7, rfl, hi7, hb7⟩
    have K7 := Lib.hid (K6.out.belowS hb7)
    have HB7 := Lib.hid (HB6.out.trans (hb7.mono HB6.out.size))
    have HI7 := Lib.hid hi7
    clear r0 r1 r2 hlr hb7 hi7
    obtain ⟨r0, r1, r2⟩ := rds_cells (r := r) K7.out
    have hlr := K7.out.lt
    go_wp2_with fail
    refine (HM.out w7 HB7.out).mono ?_
    rintro e w8 ⟨a8, c8, rfl, hi8, hb8⟩
    have HB8 := Lib.hid (HB7.out.trans (hb8.mono HB7.out.size))
    have HS := Lib.hid (sameInts_any nL nL a7 a8 c7 c8 w8 (HI7.out.belowS hb8) hi8)
    clear r0 r1 r2 hlr hb8 hi8
    go_wp2_with fail
    refine HS.out.mono ?_
    rintro e w10 ⟨rfl, hb10⟩
    have HB10 := Lib.hid (HB8.out.trans (hb10.mono HB8.out.size))
    have hll : decide (nL = nL) = true := by simp
    clear hb10 HS
    go_wp2_with fail
    refine (lives_any _).mono ?_
    rintro e w9 ⟨rfl, hb9⟩
    have HB9 := Lib.hid (HB10.out.trans (hb9.mono HB10.out.size))
    clear hb9
    go_wp2_with fail
    go_ret
    exact ⟨rfl, HB9.out⟩
end Go.Proofs.Ytmcmhgjlpffcnaa
