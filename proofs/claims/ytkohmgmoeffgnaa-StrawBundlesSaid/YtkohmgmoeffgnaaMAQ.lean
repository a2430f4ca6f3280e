/- StrawParts' walk. No condition. -/
import Derived.Test.YtkohmgmoeffgnaaKLQ
import Derived.Test.YtkohmgmoeffgnaaKZQ
import Derived.Test.YtkohmgmoeffgnaaKYQ
import Derived.Test.YtkohmgmoeffgnaaQJQ
import Derived.Test.YtkohmgmoeffgnaaQFC
import Derived.Test.YtkohmgmoeffgnaaQFH
import Derived.Deep.DeepCutAuto
set_option linter.unusedSimpArgs false
namespace Go.Proofs.Ytkohmgmoeffgnaa
open Go.RowKit

/-- Chores from the first store on: all, those that are done, and parted anywhere. -/
theorem parts_math {F : Frm} {S : Sto} (hE : storeE F S = 0) (hS : tot S = 0) {l : List Chr} (hl : l.length ≤ 40) :
    ∃ (Y : Sto) (n : Nat) (ev : Int), runL F S l = (Y, n, ev) ∧ n ≤ l.length ∧ (ev = 0 ↔ n = l.length) ∧ runL F S (l.take n) = (Y, n, 0) ∧
      ∀ k, k ≤ n → ∃ T, runL F S (l.take k) = (T, k, 0) ∧ runL F T (l.drop k) = (Y, n - k, ev) ∧ storeE F T = 0 ∧ tot T ≤ 120 := by
  have h1 := runL_le (F := F) (l := l) (S := S)
  have h2 := runL_done_alone (F := F) (l := l) (S := S)
  have h3 := fun k h => runL_part (F := F) (l := l) (S := S) (k := k) h
  refine ⟨(runL F S l).1, (runL F S l).2.1, (runL F S l).2.2, rfl, h1.1, h1.2, ?_, fun k hk => ?_⟩
  · unfold allD at h2
    rw [h2, List.length_take, Nat.min_eq_left h1.1]
  · obtain ⟨T, h4, h5⟩ := h3 k hk
    have h6 := tot_run h4
    have h7 : storeE F T = 0 := by
      have := runL_keep (F := F) (l := l.take k) hE
      unfold allD at h4
      rwa [h4] at this
    unfold allD at h4
    rw [List.length_take, Nat.min_eq_left (Nat.le_trans hk h1.1)] at h4
    refine ⟨T, h4, h5, h7, ?_⟩
    rw [List.length_take] at h6
    omega
/-- Run from any store that may be. -/
theorem run_at (F : Frm) (S : Sto) (a : Option Addr) (c : Nat) (l : List Chr) (n : Nat) (w : World) (hn : l.length = n) (hF : IsFarm w F) (hS : IsStore w S) (hl : IsChrs w a c l) (hE : storeE F S = 0) (hT : tot S ≤ 120) (h40 : l.length ≤ 40) {Y : Sto} {m : Nat} {ev : Int} (hY : runL F S l = (Y, m, ev)) :
    Calls Try.prog 14 #[.agg #[.slice F.pa F.ps.length F.pc, .int .i64 F.dry], .agg #[.int .i64 S.year, .slice S.la S.last.length S.lc, .slice S.ga S.given.length S.gc, .slice S.ha S.heaps.length S.hc, .slice S.ua S.used.length S.uc, .slice S.wa S.waste.length S.wc], .slice a n c] w fun e w' =>
      (∃ T, e = .returned (.tuple #[.agg #[.int .i64 T.year, .slice T.la T.last.length T.lc, .slice T.ga T.given.length T.gc, .slice T.ha T.heaps.length T.hc, .slice T.ua T.used.length T.uc, .slice T.wa T.waste.length T.wc], .int .i64 m, .int .i64 ev]) ∧ OwnSto w.heap.size w' T ∧ SameSto T Y) ∧ Below w.heap.size w w' := by
  have h := run_any F S a c l w hF hS hl (by omega)
  unfold RunSaid at h
  rw [run_of hE (by omega), hY, hn] at h
  exact h
theorem run_first (F : Frm) (K1 K2 : Option Addr) (c1 c2 : Nat) (a : Option Addr) (c : Nat) (l : List Chr) (n : Nat) (w : World) (hn : l.length = n) (hF : IsFarm w F) (h1 : IsNums w K1 c1 (List.replicate F.ps.length (-1))) (h2 : IsNums w K2 c2 (List.replicate F.ps.length 0)) (hl : IsChrs w a c l) (hE : checkE F = 0) (h40 : l.length ≤ 40) {Y : Sto} {m : Nat} {ev : Int} (hY : runL F (firstOf F K1 K2 c1 c2) l = (Y, m, ev)) :
    Calls Try.prog 14 #[.agg #[.slice F.pa F.ps.length F.pc, .int .i64 F.dry], .agg #[.int .i64 0, .slice K1 F.ps.length c1, .slice K2 F.ps.length c2, .slice none 0 0, .slice none 0 0, .slice none 0 0], .slice a n c] w fun e w' =>
      (∃ T, e = .returned (.tuple #[.agg #[.int .i64 T.year, .slice T.la T.last.length T.lc, .slice T.ga T.given.length T.gc, .slice T.ha T.heaps.length T.hc, .slice T.ua T.used.length T.uc, .slice T.wa T.waste.length T.wc], .int .i64 m, .int .i64 ev]) ∧ OwnSto w.heap.size w' T ∧ SameSto T Y) ∧ Below w.heap.size w w' := by
  have h := run_at F (firstOf F K1 K2 c1 c2) a c l n w hn hF ⟨h1, h2, .inl rfl, .inl rfl, .inl rfl⟩ hl (first_ok hE K1 K2 c1 c2) (by rw [first_tot]; omega) h40 hY
  simpa only [firstOf, List.length_replicate, List.length_nil] using h

set_option maxRecDepth 100000 in
set_option maxHeartbeats 16000000 in
theorem partsLaw_any (F : Frm) (a : Option Addr) (c : Nat) (l : List Chr) (n8 : Int) (w : World) (hF : IsFarm w F) (hL : IsChrs w a c l) (h8 : (Lit.int .u8 n8).wf = true) :
    Calls Try.prog 3 #[.agg #[.slice F.pa F.ps.length F.pc, .int .i64 F.dry], .slice a l.length c, .int .u8 n8] w fun e w' => e = .returned (.bool true) ∧ Below w.heap.size w w' := by
  have hb1 : Below w.heap.size w (w.alloc (.cells #[.slice F.pa F.ps.length F.pc, .int .i64 F.dry] 24)) := (Below.refl _ w).alloc (Nat.le_refl _) _
  have kB := Blk.new w 24 #[.slice F.pa F.ps.length F.pc, .int .i64 F.dry]
  have HF := Lib.hid hF
  have HL := Lib.hid hL
  have H8 := Lib.hid h8
  clear hF hL h8
  go_enter Try.func3, Try.ntmps3
  go_upto_region 1 with fail
  generalize w.alloc (.cells #[.slice F.pa F.ps.length F.pc, .int .i64 F.dry] 24) = w1 at *
  have lF := kB.lt
  obtain ⟨f0, f1⟩ := frm_cells kB
  have HB1 := Lib.hid hb1
  have KB1 := Lib.hid kB
  clear kB hb1
  go_wp2_with fail
  refine (great_any F _ (HF.out.below HB1.out)).mono ?_
  rintro e w2 ⟨⟨gb, rfl⟩, hb⟩
  have HB2 := Lib.hid (HB1.out.trans (hb.mono HB1.out.size))
  have KB2 := Lib.hid (KB1.out.belowS hb)
  clear f0 f1 lF hb KB1 HB1
  cases gb with
  | true =>
    go_wp2_with fail
    refine (lives_any _).mono ?_
    rintro e w3 ⟨rfl, hb3⟩
    go_wp2_with fail
    go_ret
    exact ⟨rfl, HB2.out.trans (hb3.mono HB2.out.size)⟩
  | false =>
  go_wp2_with fail
  refine (long_any a c l _ (HL.out.belowS HB2.out)).mono ?_
  rintro e w3 ⟨⟨lb, rfl, hlb⟩, hb⟩
  have HB3 := Lib.hid (HB2.out.trans (hb.mono HB2.out.size))
  have KB3 := Lib.hid (KB2.out.belowS hb)
  clear hb KB2 HB2
  cases lb with
  | true =>
    go_wp2_with fail
    refine (lives_any _).mono ?_
    rintro e w4 ⟨rfl, hb3⟩
    go_wp2_with fail
    go_ret
    exact ⟨rfl, HB3.out.trans (hb3.mono HB3.out.size)⟩
  | false =>
  have hlen := HL.out.len
  by_cases h40 : 40 < l.length
  · have q40 : (40 : Int) < (l.length : Int) := by omega
    go_wp2_with fail
    refine (lives_any _).mono ?_
    rintro e w4 ⟨rfl, hb3⟩
    go_wp2_with fail
    go_ret
    exact ⟨rfl, HB3.out.trans (hb3.mono HB3.out.size)⟩
  have q40 : ¬ (40 : Int) < (l.length : Int) := by omega
  have H40 := Lib.hid (Nat.not_lt.1 h40)
  clear hlb h40
  have lF := KB3.out.lt
  obtain ⟨f0, f1⟩ := frm_cells KB3.out
  go_wp2_with fail
  refine (new_any F _ (HF.out.below HB3.out)).mono ?_
  rintro e w4 ⟨hs, hb⟩
  have HB4 := Lib.hid (HB3.out.trans (hb.mono HB3.out.size))
  have kB4 := KB3.out.belowS hb
  clear f0 f1 lF hb KB3 HB3
  rcases hs with ⟨hE, rfl⟩ | ⟨hE, v, rfl, K1, K2, c1, c2, rfl, hk1, hk2⟩
  · generalize checkE F = E at *
    have q1 : (E == 0) = false := by simp [hE]
    have q2 : (E != 0) = true := by simp [hE]
    have hb5 : Below w.heap.size w (w4.alloc (.cells #[.int .i64 0, .slice none 0 0, .slice none 0 0, .slice none 0 0, .slice none 0 0, .slice none 0 0] 33)) := HB4.out.alloc HB4.out.size _
    have HB5 := Lib.hid hb5
    clear hE kB4 hb5
    go_wp2_with fail
    refine (lives_any _).mono ?_
    rintro e w6 ⟨rfl, hb3⟩
    go_wp2_with fail
    go_ret
    exact ⟨rfl, HB5.out.trans (hb3.mono HB5.out.size)⟩
  have kS := Blk.new w4 33 #[.int .i64 0, .slice K1 F.ps.length c1, .slice K2 F.ps.length c2, .slice none 0 0, .slice none 0 0, .slice none 0 0]
  have hbS : Below w4.heap.size w4 (w4.alloc (.cells #[.int .i64 0, .slice K1 F.ps.length c1, .slice K2 F.ps.length c2, .slice none 0 0, .slice none 0 0, .slice none 0 0] 33)) := (Below.refl _ w4).alloc (Nat.le_refl _) _
  have kB5 := kB4.belowS hbS
  have hk15 := hk1.belowS hbS
  have hk25 := hk2.belowS hbS
  have HB5 := Lib.hid (HB4.out.trans (hbS.mono HB4.out.size))
  have HE := Lib.hid hE
  clear hE
  go_upto_region 6 with fail
  generalize w4.alloc (.cells #[.int .i64 0, .slice K1 F.ps.length c1, .slice K2 F.ps.length c2, .slice none 0 0, .slice none 0 0, .slice none 0 0] 33) = w5 at *
  have lF := kB5.lt
  have lS := kS.lt
  obtain ⟨f0, f1⟩ := frm_cells kB5
  obtain ⟨s0, s1, s2, s3, s4, s5⟩ := (show w5.cell? ⟨w4.heap.size, 0, none⟩ = some (.int .i64 0) ∧ w5.cell? ⟨w4.heap.size, 1, none⟩ = some (.slice K1 F.ps.length c1) ∧ w5.cell? ⟨w4.heap.size, 2, none⟩ = some (.slice K2 F.ps.length c2) ∧ w5.cell? ⟨w4.heap.size, 3, none⟩ = some (.slice none 0 0) ∧ w5.cell? ⟨w4.heap.size, 4, none⟩ = some (.slice none 0 0) ∧ w5.cell? ⟨w4.heap.size, 5, none⟩ = some (.slice none 0 0) from ⟨kS.cell 0, kS.cell 1, kS.cell 2, kS.cell 3, kS.cell 4, kS.cell 5⟩)
  have HK1 := Lib.hid hk15
  have HK2 := Lib.hid hk25
  have KB5 := Lib.hid kB5
  have KS5 := Lib.hid kS
  clear hk1 hk2 hk15 hk25 kB4 kB5 kS hbS HB4
  obtain ⟨Y, n, ev, hall, hn, hev, hdone, hpart⟩ := parts_math (first_ok HE.out K1 K2 c1 c2) (first_tot F K1 K2 c1 c2) H40.out
  have HALL := Lib.hid hall
  have HN := Lib.hid hn
  have HEV := Lib.hid hev
  have HDONE := Lib.hid hdone
  have HPART := Lib.hid hpart
  clear hall hn hev hdone hpart
  go_wp2_with fail
  refine (run_first F K1 K2 c1 c2 a c l l.length _ rfl (HF.out.below HB5.out) HK1.out HK2.out (HL.out.belowS HB5.out) HE.out H40.out HALL.out).mono ?_
  rintro e w6 ⟨⟨T1, rfl, hoT, hsT⟩, hb⟩
  have HB6 := Lib.hid (HB5.out.trans (hb.mono HB5.out.size))
  have HB56 := Lib.hid hb
  have kB6 := KB5.out.belowS hb
  have kS6 := KS5.out.belowS hb
  clear f0 f1 lF lS s0 s1 s2 s3 s4 s5
  have kC := Blk.new w6 33 (stoC T1)
  have hbC : Below w6.heap.size w6 (w6.alloc (.cells #[.int .i64 T1.year, .slice T1.la T1.last.length T1.lc, .slice T1.ga T1.given.length T1.gc, .slice T1.ha T1.heaps.length T1.hc, .slice T1.ua T1.used.length T1.uc, .slice T1.wa T1.waste.length T1.wc] 33)) := (Below.refl _ w6).alloc (Nat.le_refl _) _
  have kB7 := kB6.belowS hbC
  have kS7 := kS6.belowS hbC
  have HB7 := Lib.hid (HB6.out.trans (hbC.mono HB6.out.size))
  have HB57 := Lib.hid (HB56.out.trans (hbC.mono HB56.out.size))
  have hoC := hoT.below hbC
  have HS1 := Lib.hid hsT
  clear hb hsT hoT kB6 kS6
  go_upto_region 7 with fail
  generalize w6.alloc (.cells #[.int .i64 T1.year, .slice T1.la T1.last.length T1.lc, .slice T1.ga T1.given.length T1.gc, .slice T1.ha T1.heaps.length T1.hc, .slice T1.ua T1.used.length T1.uc, .slice T1.wa T1.waste.length T1.wc] 33) = w7 at *
  have lF := kB7.lt
  have lS := kS7.lt
  have lC := kC.lt
  have HO1 := Lib.hid hoC.store
  have KB7 := Lib.hid kB7
  have KS7 := Lib.hid kS7
  have KC7 := Lib.hid kC
  have HK17 := Lib.hid (HK1.out.belowS HB57.out)
  have HK27 := Lib.hid (HK2.out.belowS HB57.out)
  clear hbC hoC kB7 kS7 kC HB6 HB56 KB5 KS5 HK1 HK2 HB5 HB57
  have p1 : ¬ ((n : Int) < 0) := by omega
  have p2 : ¬ ((l.length : Int) < (n : Int)) := by have := HN.out; omega
  obtain ⟨b, p3, p4⟩ : ∃ b : Bool, (ev == 0) = b ∧ ((n : Int) == (l.length : Int)) = b := by
    by_cases h : ev = 0
    · exact ⟨true, by simp [h], by have := HEV.out.1 h; simp [this]⟩
    · exact ⟨false, by simp [h], by
        have : ¬ n = l.length := fun e => h (HEV.out.2 e)
        simp; omega⟩
  go_upto_region 9 with fail
  clear p1 p2 p3 p4
  have hst : ∀ w', Below w7.heap.size w7 w' → (fun w' : World => Below w7.heap.size w7 w' ∧ (w'.cell? ⟨w.heap.size, 0, none⟩ = some (.slice F.pa F.ps.length F.pc) ∧ w'.cell? ⟨w.heap.size, 1, none⟩ = some (.int .i64 F.dry) ∧ w'.cell? ⟨w4.heap.size, 0, none⟩ = some (.int .i64 0) ∧ w'.cell? ⟨w4.heap.size, 1, none⟩ = some (.slice K1 F.ps.length c1) ∧ w'.cell? ⟨w4.heap.size, 2, none⟩ = some (.slice K2 F.ps.length c2) ∧ w'.cell? ⟨w4.heap.size, 3, none⟩ = some (.slice none 0 0) ∧ w'.cell? ⟨w4.heap.size, 4, none⟩ = some (.slice none 0 0) ∧ w'.cell? ⟨w4.heap.size, 5, none⟩ = some (.slice none 0 0))) w' := fun w' hb => by
    have k0 := KB7.out.belowS hb
    have k1 := KS7.out.belowS hb
    exact ⟨hb, k0.cell 0, k0.cell 1, k1.cell 0, k1.cell 1, k1.cell 2, k1.cell 3, k1.cell 4, k1.cell 5⟩
  have HST := Lib.hid hst
  clear hst
  obtain ⟨a2, hsl, hl2⟩ := chrs_pre HL.out HN.out
  have HRUN := Lib.hid (fun (w' : World) (hb : Below w7.heap.size w7 w') => run_first F K1 K2 c1 c2 a2 c (l.take n) n w' (by rw [List.length_take]; exact Nat.min_eq_left HN.out) (HF.out.below (HB7.out.trans (hb.mono HB7.out.size))) (HK17.out.belowS hb) (HK27.out.belowS hb) (hl2.belowS (HB7.out.trans (hb.mono HB7.out.size))) HE.out (by have := H40.out; rw [List.length_take]; omega) HDONE.out)
  clear hl2 lC lF lS
  go_cut [11, 12, 13] from 62 to 71 (fun b n' e' wx => ∃ (D : Nat) (T : Sto), b = .pointer (some ⟨D, 0, none⟩) ∧ n' = .int .i64 (n) ∧ e' = .int .i64 (0) ∧ Blk wx D (stoC T) 33 ∧ OwnSto w7.heap.size wx T ∧ SameSto T Y ∧ w7.heap.size ≤ D ∧ Below w7.heap.size w7 wx)
  case first =>
    have hx := HST.out w7.drew ((Below.refl _ w7).drew)
    refine wp_region_E 14 (fun w' : World => Below w7.heap.size w7 w' ∧ (w'.cell? ⟨w.heap.size, 0, none⟩ = some (.slice F.pa F.ps.length F.pc) ∧ w'.cell? ⟨w.heap.size, 1, none⟩ = some (.int .i64 F.dry) ∧ w'.cell? ⟨w4.heap.size, 0, none⟩ = some (.int .i64 0) ∧ w'.cell? ⟨w4.heap.size, 1, none⟩ = some (.slice K1 F.ps.length c1) ∧ w'.cell? ⟨w4.heap.size, 2, none⟩ = some (.slice K2 F.ps.length c2) ∧ w'.cell? ⟨w4.heap.size, 3, none⟩ = some (.slice none 0 0) ∧ w'.cell? ⟨w4.heap.size, 4, none⟩ = some (.slice none 0 0) ∧ w'.cell? ⟨w4.heap.size, 5, none⟩ = some (.slice none 0 0))) (by kernel_rfl) ?_
    refine E_takeR (i := 0) (oi := _) (v := ?v1) rfl (by kernel_rfl) (by kernel_rfl) (by kernel_rfl) (by decide) (fun _ _ _ h => h) hx (Or.inl ⟨by rfl, ?y1⟩) ?r1
    case y1 => (intro w' hSw; (try dsimp only at hSw); go_simp; try with_reducible rfl)
    try simp only [Act.put, List.getElem_toArray, List.getElem_cons_zero, List.getElem_cons_succ, List.setIfInBounds_toArray, List.set_cons_zero, List.set_cons_succ]
    refine E_takeR (i := 1) (oi := _) (v := ?v2) rfl (by kernel_rfl) (by kernel_rfl) (by kernel_rfl) (by decide) (fun _ _ _ h => h) hx (Or.inl ⟨by rfl, ?y2⟩) ?r2
    case y2 => (intro w' hSw; (try dsimp only at hSw); go_simp; try with_reducible rfl)
    try simp only [Act.put, List.getElem_toArray, List.getElem_cons_zero, List.getElem_cons_succ, List.setIfInBounds_toArray, List.set_cons_zero, List.set_cons_succ]
    refine E_takeR (i := 2) (oi := _) (v := ?v3) rfl (by kernel_rfl) (by kernel_rfl) (by kernel_rfl) (by decide) (fun _ _ _ h => h) hx (Or.inl ⟨by rfl, ?y3⟩) ?r3
    case y3 => (intro w' hSw; (try dsimp only at hSw); go_simp; try with_reducible rfl)
    try simp only [Act.put, List.getElem_toArray, List.getElem_cons_zero, List.getElem_cons_succ, List.setIfInBounds_toArray, List.set_cons_zero, List.set_cons_succ]
    refine E_takeR (i := 3) (oi := _) (v := ?v4) rfl (by kernel_rfl) (by kernel_rfl) (by kernel_rfl) (by decide) (fun _ _ _ h => h) hx (Or.inl ⟨by rfl, ?y4⟩) ?r4
    case y4 => (intro w' hSw; (try dsimp only at hSw); go_simp; try with_reducible rfl)
    try simp only [Act.put, List.getElem_toArray, List.getElem_cons_zero, List.getElem_cons_succ, List.setIfInBounds_toArray, List.set_cons_zero, List.set_cons_succ]
    refine E_takeR (i := 4) (oi := _) (v := ?v5) rfl (by kernel_rfl) (by kernel_rfl) (by kernel_rfl) (by decide) (fun _ _ _ h => h) hx (Or.inl ⟨by rfl, ?y5⟩) ?r5
    case y5 => (intro w' hSw; (try dsimp only at hSw); go_simp; try with_reducible rfl)
    try simp only [Act.put, List.getElem_toArray, List.getElem_cons_zero, List.getElem_cons_succ, List.setIfInBounds_toArray, List.set_cons_zero, List.set_cons_succ]
    refine E_step2 (i := 5) (i' := 10) (o := _) (o' := _) (by kernel_rfl) rfl rfl (fun K hK => ?_) (fun K hK => ?_)
    · go_simp
      refine (HRUN.out _ hx.1).mono ?_
      rintro r w5 ⟨⟨T, rfl, hoT, hsT⟩, hb5⟩
      dsimp only
      have hb5' : Below w7.heap.size w7 w5 := hx.1.trans (hb5.mono hx.1.size)
      have hx5 := HST.out w5 hb5'
      refine hK.out _ _ (fun _ => hx5) ?_
      clear hK K
      try simp only [Act.put, List.getElem_toArray, List.getElem_cons_zero, List.getElem_cons_succ, List.setIfInBounds_toArray, List.set_cons_zero, List.set_cons_succ]
      refine E_takeR (i := 6) (oi := _) (v := ?v6) rfl (by kernel_rfl) (by kernel_rfl) (by kernel_rfl) (by decide) (fun _ _ _ h => h) hx5 (Or.inl ⟨by rfl, ?y6⟩) ?r6
      case y6 => (intro w' hSw; (try dsimp only at hSw); go_simp; try with_reducible rfl)
      try simp only [Act.put, List.getElem_toArray, List.getElem_cons_zero, List.getElem_cons_succ, List.setIfInBounds_toArray, List.set_cons_zero, List.set_cons_succ]
      refine E_takeR (i := 7) (oi := _) (v := ?v7) rfl (by kernel_rfl) (by kernel_rfl) (by kernel_rfl) (by decide) (fun _ _ _ h => h) hx5 (Or.inl ⟨by rfl, ?y7⟩) ?r7
      case y7 => (intro w' hSw; (try dsimp only at hSw); go_simp; try with_reducible rfl)
      try simp only [Act.put, List.getElem_toArray, List.getElem_cons_zero, List.getElem_cons_succ, List.setIfInBounds_toArray, List.set_cons_zero, List.set_cons_succ]
      refine E_takeR (i := 8) (oi := _) (v := ?v8) rfl (by kernel_rfl) (by kernel_rfl) (by kernel_rfl) (by decide) (fun _ _ _ h => h) hx5 (Or.inl ⟨by rfl, ?y8⟩) ?r8
      case y8 => (intro w' hSw; (try dsimp only at hSw); go_simp; try with_reducible rfl)
      try simp only [Act.put, List.getElem_toArray, List.getElem_cons_zero, List.getElem_cons_succ, List.setIfInBounds_toArray, List.set_cons_zero, List.set_cons_succ]
      refine E_takeR (i := 9) (oi := _) (v := ?v9) rfl (by kernel_rfl) (by kernel_rfl) (by kernel_rfl) (by decide) (fun _ _ _ h => h) hx5 (Or.inl ⟨by rfl, ?y9⟩) ?r9
      case y9 => (intro w' hSw; (try dsimp only at hSw); go_simp; try with_reducible rfl)
      try simp only [Act.put, List.getElem_toArray, List.getElem_cons_zero, List.getElem_cons_succ, List.setIfInBounds_toArray, List.set_cons_zero, List.set_cons_succ]
      refine E_step (i := 10) (o := _) (by kernel_rfl) rfl (fun K hK => ?_)
      go_simp
      have hbB : Below w7.heap.size w7 (w5.alloc (.cells #[.int .i64 0, .slice none 0 0, .slice none 0 0, .slice none 0 0, .slice none 0 0, .slice none 0 0] 33)) := hb5'.alloc hb5'.size _
      refine hK.out _ _ (fun _ => HST.out _ hbB) ?_
      clear hK K
      try simp only [Act.put, List.getElem_toArray, List.getElem_cons_zero, List.getElem_cons_succ, List.setIfInBounds_toArray, List.set_cons_zero, List.set_cons_succ]
      have hbF : Below w7.heap.size w7 (w5.alloc (.cells #[.int .i64 T.year, .slice T.la T.last.length T.lc, .slice T.ga T.given.length T.gc, .slice T.ha T.heaps.length T.hc, .slice T.ua T.used.length T.uc, .slice T.wa T.waste.length T.wc] 33)) := hb5'.alloc hb5'.size _
      refine E_step (i := 11) (o := _) (by kernel_rfl) rfl (fun K hK => ?_)
      go_simp
      refine hK.out _ _ (fun _ => HST.out _ hbF) ?_
      clear hK K
      try simp only [Act.put, List.getElem_toArray, List.getElem_cons_zero, List.getElem_cons_succ, List.setIfInBounds_toArray, List.set_cons_zero, List.set_cons_succ]
      refine E_takeR (i := 12) (oi := _) (v := ?v10) rfl (by kernel_rfl) (by kernel_rfl) (by kernel_rfl) (by decide) (fun _ _ _ h => h) (HST.out _ hbF) (Or.inl ⟨by rfl, ?y10⟩) ?r10
      case y10 => (intro w' hSw; (try dsimp only at hSw); go_simp; try with_reducible rfl)
      try simp only [Act.put, List.getElem_toArray, List.getElem_cons_zero, List.getElem_cons_succ, List.setIfInBounds_toArray, List.set_cons_zero, List.set_cons_succ]
      refine E_takeR (i := 13) (oi := _) (v := ?v11) rfl (by kernel_rfl) (by kernel_rfl) (by kernel_rfl) (by decide) (fun _ _ _ h => h) (HST.out _ hbF) (Or.inl ⟨by rfl, ?y11⟩) ?r11
      case y11 => (intro w' hSw; (try dsimp only at hSw); go_simp; try with_reducible rfl)
      try simp only [Act.put, List.getElem_toArray, List.getElem_cons_zero, List.getElem_cons_succ, List.setIfInBounds_toArray, List.set_cons_zero, List.set_cons_succ]
      refine E_done (by kernel_rfl) ?_ _
      have kB := Blk.new w5 33 (stoC T)
      have hoF := (hoT.mono hx.1.size).below ((Below.refl _ w5).alloc (Nat.le_refl _) (.cells (stoC T) 33))
      have HOX := Lib.hid hoF
      have HBX := Lib.hid hbF
      have HSX := Lib.hid hsT
      have HKX := Lib.hid kB
      have HLX := Lib.hid hb5'.size
      clear hx hx5 hb5 hb5' hbB hoT hsT kB hbF hoF
      go_wp2_with fail
      go_meet
      exact ⟨_, T, rfl, rfl, rfl, HKX.out, HOX.out, HSX.out, HLX.out, HBX.out⟩
    · go_simp
      have hbB : Below w7.heap.size w7 (w7.drew.alloc (.cells #[.int .i64 0, .slice none 0 0, .slice none 0 0, .slice none 0 0, .slice none 0 0, .slice none 0 0] 33)) := hx.1.alloc hx.1.size _
      have kB := Blk.new w7.drew 33 #[.int .i64 0, .slice none 0 0, .slice none 0 0, .slice none 0 0, .slice none 0 0, .slice none 0 0]
      refine hK.out _ _ (fun _ => HST.out _ hbB) ?_
      clear hK K
      try simp only [Act.put, List.getElem_toArray, List.getElem_cons_zero, List.getElem_cons_succ, List.setIfInBounds_toArray, List.set_cons_zero, List.set_cons_succ]
      refine E_step (i := 5) (o := _) (by kernel_rfl) rfl (fun K hK => ?_)
      go_simp
      refine (HRUN.out _ hbB).mono ?_
      rintro r w5 ⟨⟨T, rfl, hoT, hsT⟩, hb5⟩
      dsimp only
      have hb5' : Below w7.heap.size w7 w5 := hbB.trans (hb5.mono hbB.size)
      have kB5 := kB.belowS hb5
      have hx5 := HST.out w5 hb5'
      refine hK.out _ _ (fun _ => hx5) ?_
      clear hK K
      try simp only [Act.put, List.getElem_toArray, List.getElem_cons_zero, List.getElem_cons_succ, List.setIfInBounds_toArray, List.set_cons_zero, List.set_cons_succ]
      refine E_takeR (i := 6) (oi := _) (v := ?v12) rfl (by kernel_rfl) (by kernel_rfl) (by kernel_rfl) (by decide) (fun _ _ _ h => h) hx5 (Or.inl ⟨by rfl, ?y12⟩) ?r12
      case y12 => (intro w' hSw; (try dsimp only at hSw); go_simp; try with_reducible rfl)
      try simp only [Act.put, List.getElem_toArray, List.getElem_cons_zero, List.getElem_cons_succ, List.setIfInBounds_toArray, List.set_cons_zero, List.set_cons_succ]
      refine E_takeR (i := 7) (oi := _) (v := ?v13) rfl (by kernel_rfl) (by kernel_rfl) (by kernel_rfl) (by decide) (fun _ _ _ h => h) hx5 (Or.inl ⟨by rfl, ?y13⟩) ?r13
      case y13 => (intro w' hSw; (try dsimp only at hSw); go_simp; try with_reducible rfl)
      try simp only [Act.put, List.getElem_toArray, List.getElem_cons_zero, List.getElem_cons_succ, List.setIfInBounds_toArray, List.set_cons_zero, List.set_cons_succ]
      refine E_takeR (i := 8) (oi := _) (v := ?v14) rfl (by kernel_rfl) (by kernel_rfl) (by kernel_rfl) (by decide) (fun _ _ _ h => h) hx5 (Or.inl ⟨by rfl, ?y14⟩) ?r14
      case y14 => (intro w' hSw; (try dsimp only at hSw); go_simp; try with_reducible rfl)
      try simp only [Act.put, List.getElem_toArray, List.getElem_cons_zero, List.getElem_cons_succ, List.setIfInBounds_toArray, List.set_cons_zero, List.set_cons_succ]
      refine E_takeR (i := 9) (oi := _) (v := ?v15) rfl (by kernel_rfl) (by kernel_rfl) (by kernel_rfl) (by decide) (fun _ _ _ h => h) hx5 (Or.inl ⟨by rfl, ?y15⟩) ?r15
      case y15 => (intro w' hSw; (try dsimp only at hSw); go_simp; try with_reducible rfl)
      try simp only [Act.put, List.getElem_toArray, List.getElem_cons_zero, List.getElem_cons_succ, List.setIfInBounds_toArray, List.set_cons_zero, List.set_cons_succ]
      have lD : w7.heap.size < w5.heap.size := kB5.lt
      obtain ⟨q0, q1, q2, q3, q4, q5⟩ := (show w5.cell? ⟨w7.heap.size, 0, none⟩ = some (.int .i64 0) ∧ w5.cell? ⟨w7.heap.size, 1, none⟩ = some (.slice none 0 0) ∧ w5.cell? ⟨w7.heap.size, 2, none⟩ = some (.slice none 0 0) ∧ w5.cell? ⟨w7.heap.size, 3, none⟩ = some (.slice none 0 0) ∧ w5.cell? ⟨w7.heap.size, 4, none⟩ = some (.slice none 0 0) ∧ w5.cell? ⟨w7.heap.size, 5, none⟩ = some (.slice none 0 0) from ⟨kB5.cell 0, kB5.cell 1, kB5.cell 2, kB5.cell 3, kB5.cell 4, kB5.cell 5⟩)
      obtain ⟨r0, r1, r2, r3, r4, r5⟩ := (show w5.frozen? ⟨w7.heap.size, 0, none⟩ = false ∧ w5.frozen? ⟨w7.heap.size, 1, none⟩ = false ∧ w5.frozen? ⟨w7.heap.size, 2, none⟩ = false ∧ w5.frozen? ⟨w7.heap.size, 3, none⟩ = false ∧ w5.frozen? ⟨w7.heap.size, 4, none⟩ = false ∧ w5.frozen? ⟨w7.heap.size, 5, none⟩ = false from ⟨kB5.frozen 0, kB5.frozen 1, kB5.frozen 2, kB5.frozen 3, kB5.frozen 4, kB5.frozen 5⟩)
      have kF9 : Blk ((((((w5.setCell ⟨w7.heap.size, 0, none⟩ (.int .i64 T.year)).setCell ⟨w7.heap.size, 1, none⟩ (.slice T.la T.last.length T.lc)).setCell ⟨w7.heap.size, 2, none⟩ (.slice T.ga T.given.length T.gc)).setCell ⟨w7.heap.size, 3, none⟩ (.slice T.ha T.heaps.length T.hc)).setCell ⟨w7.heap.size, 4, none⟩ (.slice T.ua T.used.length T.uc)).setCell ⟨w7.heap.size, 5, none⟩ (.slice T.wa T.waste.length T.wc)) w7.heap.size (stoC T) 33 := ((((((kB5.set 0 (.int .i64 T.year)).set 1 (.slice T.la T.last.length T.lc)).set 2 (.slice T.ga T.given.length T.gc)).set 3 (.slice T.ha T.heaps.length T.hc)).set 4 (.slice T.ua T.used.length T.uc)).set 5 (.slice T.wa T.waste.length T.wc))
      have hbF : Below w7.heap.size w7 ((((((w5.setCell ⟨w7.heap.size, 0, none⟩ (.int .i64 T.year)).setCell ⟨w7.heap.size, 1, none⟩ (.slice T.la T.last.length T.lc)).setCell ⟨w7.heap.size, 2, none⟩ (.slice T.ga T.given.length T.gc)).setCell ⟨w7.heap.size, 3, none⟩ (.slice T.ha T.heaps.length T.hc)).setCell ⟨w7.heap.size, 4, none⟩ (.slice T.ua T.used.length T.uc)).setCell ⟨w7.heap.size, 5, none⟩ (.slice T.wa T.waste.length T.wc)) := ((((((hb5'.setCell (p := ⟨w7.heap.size, 0, none⟩) (Nat.le_refl _) (.int .i64 T.year)).setCell (p := ⟨w7.heap.size, 1, none⟩) (Nat.le_refl _) (.slice T.la T.last.length T.lc)).setCell (p := ⟨w7.heap.size, 2, none⟩) (Nat.le_refl _) (.slice T.ga T.given.length T.gc)).setCell (p := ⟨w7.heap.size, 3, none⟩) (Nat.le_refl _) (.slice T.ha T.heaps.length T.hc)).setCell (p := ⟨w7.heap.size, 4, none⟩) (Nat.le_refl _) (.slice T.ua T.used.length T.uc)).setCell (p := ⟨w7.heap.size, 5, none⟩) (Nat.le_refl _) (.slice T.wa T.waste.length T.wc))
      have hT9 : Turn (fun k => k = w7.heap.size) w5 ((((((w5.setCell ⟨w7.heap.size, 0, none⟩ (.int .i64 T.year)).setCell ⟨w7.heap.size, 1, none⟩ (.slice T.la T.last.length T.lc)).setCell ⟨w7.heap.size, 2, none⟩ (.slice T.ga T.given.length T.gc)).setCell ⟨w7.heap.size, 3, none⟩ (.slice T.ha T.heaps.length T.hc)).setCell ⟨w7.heap.size, 4, none⟩ (.slice T.ua T.used.length T.uc)).setCell ⟨w7.heap.size, 5, none⟩ (.slice T.wa T.waste.length T.wc)) := (((((((Turn.of_below (X := fun k => k = w7.heap.size) (Below.refl _ w5)).setCell (B := w7.heap.size) rfl 0 (.int .i64 T.year)).setCell (B := w7.heap.size) rfl 1 (.slice T.la T.last.length T.lc)).setCell (B := w7.heap.size) rfl 2 (.slice T.ga T.given.length T.gc)).setCell (B := w7.heap.size) rfl 3 (.slice T.ha T.heaps.length T.hc)).setCell (B := w7.heap.size) rfl 4 (.slice T.ua T.used.length T.uc)).setCell (B := w7.heap.size) rfl 5 (.slice T.wa T.waste.length T.wc))
      refine E_step (i := 11) (o := _) (by kernel_rfl) rfl (fun K hK => ?_)
      go_simp
      refine hK.out _ _ (fun _ => HST.out _ hbF) ?_
      clear hK K
      try simp only [Act.put, List.getElem_toArray, List.getElem_cons_zero, List.getElem_cons_succ, List.setIfInBounds_toArray, List.set_cons_zero, List.set_cons_succ]
      refine E_takeR (i := 12) (oi := _) (v := ?v16) rfl (by kernel_rfl) (by kernel_rfl) (by kernel_rfl) (by decide) (fun _ _ _ h => h) (HST.out _ hbF) (Or.inl ⟨by rfl, ?y16⟩) ?r16
      case y16 => (intro w' hSw; (try dsimp only at hSw); go_simp; try with_reducible rfl)
      try simp only [Act.put, List.getElem_toArray, List.getElem_cons_zero, List.getElem_cons_succ, List.setIfInBounds_toArray, List.set_cons_zero, List.set_cons_succ]
      refine E_takeR (i := 13) (oi := _) (v := ?v17) rfl (by kernel_rfl) (by kernel_rfl) (by kernel_rfl) (by decide) (fun _ _ _ h => h) (HST.out _ hbF) (Or.inl ⟨by rfl, ?y17⟩) ?r17
      case y17 => (intro w' hSw; (try dsimp only at hSw); go_simp; try with_reducible rfl)
      try simp only [Act.put, List.getElem_toArray, List.getElem_cons_zero, List.getElem_cons_succ, List.setIfInBounds_toArray, List.set_cons_zero, List.set_cons_succ]
      refine E_done (by kernel_rfl) ?_ _
      have hoF := (hoT.mono hbB.size).turn hT9 (fun k e hk => by have := (hoT.ge k hk).1; rw [World.size_alloc] at this; have := (show k = w7.heap.size from e); have : w7.drew.heap.size = w7.heap.size := rfl; omega)
      generalize ((((((w5.setCell ⟨w7.heap.size, 0, none⟩ (.int .i64 T.year)).setCell ⟨w7.heap.size, 1, none⟩ (.slice T.la T.last.length T.lc)).setCell ⟨w7.heap.size, 2, none⟩ (.slice T.ga T.given.length T.gc)).setCell ⟨w7.heap.size, 3, none⟩ (.slice T.ha T.heaps.length T.hc)).setCell ⟨w7.heap.size, 4, none⟩ (.slice T.ua T.used.length T.uc)).setCell ⟨w7.heap.size, 5, none⟩ (.slice T.wa T.waste.length T.wc)) = w9 at *
      have HOX := Lib.hid hoF
      have HBX := Lib.hid hbF
      have HSX := Lib.hid hsT
      have HKX := Lib.hid kF9
      clear hx hx5 hb5 hb5' hbB hoT hsT kB kB5 hbF hoF kF9 hT9 q0 q1 q2 q3 q4 q5 r0 r1 r2 r3 r4 r5
      go_wp2_with fail
      go_meet
      exact ⟨_, T, rfl, rfl, rfl, HKX.out, HOX.out, HSX.out, Nat.le_refl _, HBX.out⟩
  case rest =>
  obtain ⟨D2, T2, rfl, rfl, rfl, kD, hoD, hsD, hD2, hbx⟩ := hcut
  obtain ⟨w8, rfl⟩ : ∃ w8 : World, w8 = wc := ⟨_, rfl⟩
  have HB8 := Lib.hid (HB7.out.trans (hbx.mono HB7.out.size))
  have kC8 := KC7.out.belowS hbx
  have hss := sameStore_any T1 T2 w8 (HO1.out.below hbx) hoD.store (HS1.out.trans hsD.symm)
  unfold stoV at hss
  have HSS := Lib.hid hss
  have HB78 := Lib.hid hbx
  have HNSIZE := Lib.hid (Nat.lt_of_lt_of_le (show n < n + 1 by omega) (Nat.le_refl _))
  obtain ⟨c0, c1', c2', c3, c4, c5⟩ := sto_cells kC8
  obtain ⟨d0, d1, d2, d3, d4, d5⟩ := sto_cells kD
  have lC := kC8.lt
  have lD := kD.lt
  have HX := Lib.hid HST
  clear hss hbx hoD hsD kC8 kD HRUN HST hsl hD2
  go_wp2_with fail
  refine HSS.out.mono ?_
  rintro e w9 ⟨rfl, hb9⟩
  have HB79 := Lib.hid (HB78.out.trans (hb9.mono HB78.out.size))
  have HB9 := Lib.hid (HB7.out.trans (HB79.out.mono HB7.out.size))
  clear c0 c1' c2' c3 c4 c5 d0 d1 d2 d3 d4 d5 lC lD hb9 HSS HB8 HB78 HX
  have KB9 := Lib.hid (KB7.out.belowS HB79.out)
  have KS9 := Lib.hid (KS7.out.belowS HB79.out)
  have KC9 := Lib.hid (KC7.out.belowS HB79.out)
  have HK19 := Lib.hid (HK17.out.belowS HB79.out)
  have HK29 := Lib.hid (HK27.out.belowS HB79.out)
  have HO9 := Lib.hid (HO1.out.below HB79.out)
  clear KB7 KS7 KC7 HK17 HK27 HO1 HB79 HB7
  have h81 : 0 ≤ n8 ∧ n8 ≤ 255 := by
    have := H8.out
    simp only [Lit.wf, Bool.and_eq_true, decide_eq_true_eq] at this
    exact this
  have hnl := HN.out
  have h40' := H40.out
  obtain ⟨k, hkn, hcv, hmod⟩ : ∃ k : Nat, k ≤ n ∧ IntKind.i64.wrap n8 = n8 ∧ n8.tmod ((n : Int) + 1) = k := by
    have h1 : 0 ≤ n8 % ((n : Int) + 1) := Int.emod_nonneg _ (by omega)
    have h2 : n8 % ((n : Int) + 1) < (n : Int) + 1 := Int.emod_lt_of_pos _ (by omega)
    refine ⟨(n8 % ((n : Int) + 1)).toNat, by omega, by rw [IntKind.wrap_i64]; omega, ?_⟩
    rw [Int.tmod_eq_emod_of_nonneg h81.1]
    omega
  have hadd : IntKind.i64.wrap ((n : Int) + 1) = (n : Int) + 1 := by rw [IntKind.wrap_i64]; omega
  have hnz : ¬ ((n : Int) + 1 = 0) := by omega
  have hnz2 : (((n : Int) + 1) == 0) = false := by simp; omega
  clear hnl h40' h81
  go_upto_region 13 with fail
  have HKN := Lib.hid hkn
  clear hcv hmod hadd hnz hnz2
  obtain ⟨T0, hT01, hT02, hT03, hT04⟩ := HPART.out k hkn
  have HT02 := Lib.hid hT02
  have HT03 := Lib.hid hT03
  have HT04 := Lib.hid hT04
  have HT01 := Lib.hid hT01
  clear hkn hT01 hT02 hT03 hT04
  have hkl := Nat.le_trans HKN.out HN.out
  obtain ⟨a3, hsl3, hl3⟩ := chrs_pre HL.out hkl
  have hst : ∀ w', Below w9.heap.size w9 w' → (fun w' : World => Below w9.heap.size w9 w' ∧ (w'.cell? ⟨w.heap.size, 0, none⟩ = some (.slice F.pa F.ps.length F.pc) ∧ w'.cell? ⟨w.heap.size, 1, none⟩ = some (.int .i64 F.dry) ∧ w'.cell? ⟨w4.heap.size, 0, none⟩ = some (.int .i64 0) ∧ w'.cell? ⟨w4.heap.size, 1, none⟩ = some (.slice K1 F.ps.length c1) ∧ w'.cell? ⟨w4.heap.size, 2, none⟩ = some (.slice K2 F.ps.length c2) ∧ w'.cell? ⟨w4.heap.size, 3, none⟩ = some (.slice none 0 0) ∧ w'.cell? ⟨w4.heap.size, 4, none⟩ = some (.slice none 0 0) ∧ w'.cell? ⟨w4.heap.size, 5, none⟩ = some (.slice none 0 0))) w' := fun w' hb => by
    have k0 := KB9.out.belowS hb
    have k1 := KS9.out.belowS hb
    exact ⟨hb, k0.cell 0, k0.cell 1, k1.cell 0, k1.cell 1, k1.cell 2, k1.cell 3, k1.cell 4, k1.cell 5⟩
  have HST := Lib.hid hst
  clear hst
  have HRUN := Lib.hid (fun (w' : World) (hb : Below w9.heap.size w9 w') => run_first F K1 K2 c1 c2 a3 c (l.take k) k w' (by rw [List.length_take]; exact Nat.min_eq_left hkl) (HF.out.below (HB9.out.trans (hb.mono HB9.out.size))) (HK19.out.belowS hb) (HK29.out.belowS hb) (hl3.belowS (HB9.out.trans (hb.mono HB9.out.size))) HE.out (by have := H40.out; rw [List.length_take]; omega) HT01.out)
  clear hl3 hkl
  go_cut [15, 12, 13] from 90 to 99 (fun b n' e' wx => ∃ (D : Nat) (T : Sto), b = .pointer (some ⟨D, 0, none⟩) ∧ n' = .int .i64 (k) ∧ e' = .int .i64 (0) ∧ Blk wx D (stoC T) 33 ∧ OwnSto w9.heap.size wx T ∧ SameSto T T0 ∧ w9.heap.size ≤ D ∧ Below w9.heap.size w9 wx)
  case first =>
    have hx := HST.out w9.drew ((Below.refl _ w9).drew)
    refine wp_region_E 14 (fun w' : World => Below w9.heap.size w9 w' ∧ (w'.cell? ⟨w.heap.size, 0, none⟩ = some (.slice F.pa F.ps.length F.pc) ∧ w'.cell? ⟨w.heap.size, 1, none⟩ = some (.int .i64 F.dry) ∧ w'.cell? ⟨w4.heap.size, 0, none⟩ = some (.int .i64 0) ∧ w'.cell? ⟨w4.heap.size, 1, none⟩ = some (.slice K1 F.ps.length c1) ∧ w'.cell? ⟨w4.heap.size, 2, none⟩ = some (.slice K2 F.ps.length c2) ∧ w'.cell? ⟨w4.heap.size, 3, none⟩ = some (.slice none 0 0) ∧ w'.cell? ⟨w4.heap.size, 4, none⟩ = some (.slice none 0 0) ∧ w'.cell? ⟨w4.heap.size, 5, none⟩ = some (.slice none 0 0))) (by kernel_rfl) ?_
    refine E_takeR (i := 0) (oi := _) (v := ?v18) rfl (by kernel_rfl) (by kernel_rfl) (by kernel_rfl) (by decide) (fun _ _ _ h => h) hx (Or.inl ⟨by rfl, ?y18⟩) ?r18
    case y18 => (intro w' hSw; (try dsimp only at hSw); go_simp; try with_reducible rfl)
    try simp only [Act.put, List.getElem_toArray, List.getElem_cons_zero, List.getElem_cons_succ, List.setIfInBounds_toArray, List.set_cons_zero, List.set_cons_succ]
    refine E_takeR (i := 1) (oi := _) (v := ?v19) rfl (by kernel_rfl) (by kernel_rfl) (by kernel_rfl) (by decide) (fun _ _ _ h => h) hx (Or.inl ⟨by rfl, ?y19⟩) ?r19
    case y19 => (intro w' hSw; (try dsimp only at hSw); go_simp; try with_reducible rfl)
    try simp only [Act.put, List.getElem_toArray, List.getElem_cons_zero, List.getElem_cons_succ, List.setIfInBounds_toArray, List.set_cons_zero, List.set_cons_succ]
    refine E_takeR (i := 2) (oi := _) (v := ?v20) rfl (by kernel_rfl) (by kernel_rfl) (by kernel_rfl) (by decide) (fun _ _ _ h => h) hx (Or.inl ⟨by rfl, ?y20⟩) ?r20
    case y20 => (intro w' hSw; (try dsimp only at hSw); go_simp; try with_reducible rfl)
    try simp only [Act.put, List.getElem_toArray, List.getElem_cons_zero, List.getElem_cons_succ, List.setIfInBounds_toArray, List.set_cons_zero, List.set_cons_succ]
    refine E_takeR (i := 3) (oi := _) (v := ?v21) rfl (by kernel_rfl) (by kernel_rfl) (by kernel_rfl) (by decide) (fun _ _ _ h => h) hx (Or.inl ⟨by rfl, ?y21⟩) ?r21
    case y21 => (intro w' hSw; (try dsimp only at hSw); go_simp; try with_reducible rfl)
    try simp only [Act.put, List.getElem_toArray, List.getElem_cons_zero, List.getElem_cons_succ, List.setIfInBounds_toArray, List.set_cons_zero, List.set_cons_succ]
    refine E_takeR (i := 4) (oi := _) (v := ?v22) rfl (by kernel_rfl) (by kernel_rfl) (by kernel_rfl) (by decide) (fun _ _ _ h => h) hx (Or.inl ⟨by rfl, ?y22⟩) ?r22
    case y22 => (intro w' hSw; (try dsimp only at hSw); go_simp; try with_reducible rfl)
    try simp only [Act.put, List.getElem_toArray, List.getElem_cons_zero, List.getElem_cons_succ, List.setIfInBounds_toArray, List.set_cons_zero, List.set_cons_succ]
    refine E_step2 (i := 5) (i' := 10) (o := _) (o' := _) (by kernel_rfl) rfl rfl (fun K hK => ?_) (fun K hK => ?_)
    · go_simp
      refine (HRUN.out _ hx.1).mono ?_
      rintro r w5 ⟨⟨T, rfl, hoT, hsT⟩, hb5⟩
      dsimp only
      have hb5' : Below w9.heap.size w9 w5 := hx.1.trans (hb5.mono hx.1.size)
      have hx5 := HST.out w5 hb5'
      refine hK.out _ _ (fun _ => hx5) ?_
      clear hK K
      try simp only [Act.put, List.getElem_toArray, List.getElem_cons_zero, List.getElem_cons_succ, List.setIfInBounds_toArray, List.set_cons_zero, List.set_cons_succ]
      refine E_takeR (i := 6) (oi := _) (v := ?v23) rfl (by kernel_rfl) (by kernel_rfl) (by kernel_rfl) (by decide) (fun _ _ _ h => h) hx5 (Or.inl ⟨by rfl, ?y23⟩) ?r23
      case y23 => (intro w' hSw; (try dsimp only at hSw); go_simp; try with_reducible rfl)
      try simp only [Act.put, List.getElem_toArray, List.getElem_cons_zero, List.getElem_cons_succ, List.setIfInBounds_toArray, List.set_cons_zero, List.set_cons_succ]
      refine E_takeR (i := 7) (oi := _) (v := ?v24) rfl (by kernel_rfl) (by kernel_rfl) (by kernel_rfl) (by decide) (fun _ _ _ h => h) hx5 (Or.inl ⟨by rfl, ?y24⟩) ?r24
      case y24 => (intro w' hSw; (try dsimp only at hSw); go_simp; try with_reducible rfl)
      try simp only [Act.put, List.getElem_toArray, List.getElem_cons_zero, List.getElem_cons_succ, List.setIfInBounds_toArray, List.set_cons_zero, List.set_cons_succ]
      refine E_takeR (i := 8) (oi := _) (v := ?v25) rfl (by kernel_rfl) (by kernel_rfl) (by kernel_rfl) (by decide) (fun _ _ _ h => h) hx5 (Or.inl ⟨by rfl, ?y25⟩) ?r25
      case y25 => (intro w' hSw; (try dsimp only at hSw); go_simp; try with_reducible rfl)
      try simp only [Act.put, List.getElem_toArray, List.getElem_cons_zero, List.getElem_cons_succ, List.setIfInBounds_toArray, List.set_cons_zero, List.set_cons_succ]
      refine E_takeR (i := 9) (oi := _) (v := ?v26) rfl (by kernel_rfl) (by kernel_rfl) (by kernel_rfl) (by decide) (fun _ _ _ h => h) hx5 (Or.inl ⟨by rfl, ?y26⟩) ?r26
      case y26 => (intro w' hSw; (try dsimp only at hSw); go_simp; try with_reducible rfl)
      try simp only [Act.put, List.getElem_toArray, List.getElem_cons_zero, List.getElem_cons_succ, List.setIfInBounds_toArray, List.set_cons_zero, List.set_cons_succ]
      refine E_step (i := 10) (o := _) (by kernel_rfl) rfl (fun K hK => ?_)
      go_simp
      have hbB : Below w9.heap.size w9 (w5.alloc (.cells #[.int .i64 0, .slice none 0 0, .slice none 0 0, .slice none 0 0, .slice none 0 0, .slice none 0 0] 33)) := hb5'.alloc hb5'.size _
      refine hK.out _ _ (fun _ => HST.out _ hbB) ?_
      clear hK K
      try simp only [Act.put, List.getElem_toArray, List.getElem_cons_zero, List.getElem_cons_succ, List.setIfInBounds_toArray, List.set_cons_zero, List.set_cons_succ]
      have hbF : Below w9.heap.size w9 (w5.alloc (.cells #[.int .i64 T.year, .slice T.la T.last.length T.lc, .slice T.ga T.given.length T.gc, .slice T.ha T.heaps.length T.hc, .slice T.ua T.used.length T.uc, .slice T.wa T.waste.length T.wc] 33)) := hb5'.alloc hb5'.size _
      refine E_step (i := 11) (o := _) (by kernel_rfl) rfl (fun K hK => ?_)
      go_simp
      refine hK.out _ _ (fun _ => HST.out _ hbF) ?_
      clear hK K
      try simp only [Act.put, List.getElem_toArray, List.getElem_cons_zero, List.getElem_cons_succ, List.setIfInBounds_toArray, List.set_cons_zero, List.set_cons_succ]
      refine E_takeR (i := 12) (oi := _) (v := ?v27) rfl (by kernel_rfl) (by kernel_rfl) (by kernel_rfl) (by decide) (fun _ _ _ h => h) (HST.out _ hbF) (Or.inl ⟨by rfl, ?y27⟩) ?r27
      case y27 => (intro w' hSw; (try dsimp only at hSw); go_simp; try with_reducible rfl)
      try simp only [Act.put, List.getElem_toArray, List.getElem_cons_zero, List.getElem_cons_succ, List.setIfInBounds_toArray, List.set_cons_zero, List.set_cons_succ]
      refine E_takeR (i := 13) (oi := _) (v := ?v28) rfl (by kernel_rfl) (by kernel_rfl) (by kernel_rfl) (by decide) (fun _ _ _ h => h) (HST.out _ hbF) (Or.inl ⟨by rfl, ?y28⟩) ?r28
      case y28 => (intro w' hSw; (try dsimp only at hSw); go_simp; try with_reducible rfl)
      try simp only [Act.put, List.getElem_toArray, List.getElem_cons_zero, List.getElem_cons_succ, List.setIfInBounds_toArray, List.set_cons_zero, List.set_cons_succ]
      refine E_done (by kernel_rfl) ?_ _
      have kB := Blk.new w5 33 (stoC T)
      have hoF := (hoT.mono hx.1.size).below ((Below.refl _ w5).alloc (Nat.le_refl _) (.cells (stoC T) 33))
      have HOX := Lib.hid hoF
      have HBX := Lib.hid hbF
      have HSX := Lib.hid hsT
      have HKX := Lib.hid kB
      have HLX := Lib.hid hb5'.size
      clear hx hx5 hb5 hb5' hbB hoT hsT kB hbF hoF
      go_wp2_with fail
      go_meet
      exact ⟨_, T, rfl, rfl, rfl, HKX.out, HOX.out, HSX.out, HLX.out, HBX.out⟩
    · go_simp
      have hbB : Below w9.heap.size w9 (w9.drew.alloc (.cells #[.int .i64 0, .slice none 0 0, .slice none 0 0, .slice none 0 0, .slice none 0 0, .slice none 0 0] 33)) := hx.1.alloc hx.1.size _
      have kB := Blk.new w9.drew 33 #[.int .i64 0, .slice none 0 0, .slice none 0 0, .slice none 0 0, .slice none 0 0, .slice none 0 0]
      refine hK.out _ _ (fun _ => HST.out _ hbB) ?_
      clear hK K
      try simp only [Act.put, List.getElem_toArray, List.getElem_cons_zero, List.getElem_cons_succ, List.setIfInBounds_toArray, List.set_cons_zero, List.set_cons_succ]
      refine E_step (i := 5) (o := _) (by kernel_rfl) rfl (fun K hK => ?_)
      go_simp
      refine (HRUN.out _ hbB).mono ?_
      rintro r w5 ⟨⟨T, rfl, hoT, hsT⟩, hb5⟩
      dsimp only
      have hb5' : Below w9.heap.size w9 w5 := hbB.trans (hb5.mono hbB.size)
      have kB5 := kB.belowS hb5
      have hx5 := HST.out w5 hb5'
      refine hK.out _ _ (fun _ => hx5) ?_
      clear hK K
      try simp only [Act.put, List.getElem_toArray, List.getElem_cons_zero, List.getElem_cons_succ, List.setIfInBounds_toArray, List.set_cons_zero, List.set_cons_succ]
      refine E_takeR (i := 6) (oi := _) (v := ?v29) rfl (by kernel_rfl) (by kernel_rfl) (by kernel_rfl) (by decide) (fun _ _ _ h => h) hx5 (Or.inl ⟨by rfl, ?y29⟩) ?r29
      case y29 => (intro w' hSw; (try dsimp only at hSw); go_simp; try with_reducible rfl)
      try simp only [Act.put, List.getElem_toArray, List.getElem_cons_zero, List.getElem_cons_succ, List.setIfInBounds_toArray, List.set_cons_zero, List.set_cons_succ]
      refine E_takeR (i := 7) (oi := _) (v := ?v30) rfl (by kernel_rfl) (by kernel_rfl) (by kernel_rfl) (by decide) (fun _ _ _ h => h) hx5 (Or.inl ⟨by rfl, ?y30⟩) ?r30
      case y30 => (intro w' hSw; (try dsimp only at hSw); go_simp; try with_reducible rfl)
      try simp only [Act.put, List.getElem_toArray, List.getElem_cons_zero, List.getElem_cons_succ, List.setIfInBounds_toArray, List.set_cons_zero, List.set_cons_succ]
      refine E_takeR (i := 8) (oi := _) (v := ?v31) rfl (by kernel_rfl) (by kernel_rfl) (by kernel_rfl) (by decide) (fun _ _ _ h => h) hx5 (Or.inl ⟨by rfl, ?y31⟩) ?r31
      case y31 => (intro w' hSw; (try dsimp only at hSw); go_simp; try with_reducible rfl)
      try simp only [Act.put, List.getElem_toArray, List.getElem_cons_zero, List.getElem_cons_succ, List.setIfInBounds_toArray, List.set_cons_zero, List.set_cons_succ]
      refine E_takeR (i := 9) (oi := _) (v := ?v32) rfl (by kernel_rfl) (by kernel_rfl) (by kernel_rfl) (by decide) (fun _ _ _ h => h) hx5 (Or.inl ⟨by rfl, ?y32⟩) ?r32
      case y32 => (intro w' hSw; (try dsimp only at hSw); go_simp; try with_reducible rfl)
      try simp only [Act.put, List.getElem_toArray, List.getElem_cons_zero, List.getElem_cons_succ, List.setIfInBounds_toArray, List.set_cons_zero, List.set_cons_succ]
      have lD : w9.heap.size < w5.heap.size := kB5.lt
      obtain ⟨q0, q1, q2, q3, q4, q5⟩ := (show w5.cell? ⟨w9.heap.size, 0, none⟩ = some (.int .i64 0) ∧ w5.cell? ⟨w9.heap.size, 1, none⟩ = some (.slice none 0 0) ∧ w5.cell? ⟨w9.heap.size, 2, none⟩ = some (.slice none 0 0) ∧ w5.cell? ⟨w9.heap.size, 3, none⟩ = some (.slice none 0 0) ∧ w5.cell? ⟨w9.heap.size, 4, none⟩ = some (.slice none 0 0) ∧ w5.cell? ⟨w9.heap.size, 5, none⟩ = some (.slice none 0 0) from ⟨kB5.cell 0, kB5.cell 1, kB5.cell 2, kB5.cell 3, kB5.cell 4, kB5.cell 5⟩)
      obtain ⟨r0, r1, r2, r3, r4, r5⟩ := (show w5.frozen? ⟨w9.heap.size, 0, none⟩ = false ∧ w5.frozen? ⟨w9.heap.size, 1, none⟩ = false ∧ w5.frozen? ⟨w9.heap.size, 2, none⟩ = false ∧ w5.frozen? ⟨w9.heap.size, 3, none⟩ = false ∧ w5.frozen? ⟨w9.heap.size, 4, none⟩ = false ∧ w5.frozen? ⟨w9.heap.size, 5, none⟩ = false from ⟨kB5.frozen 0, kB5.frozen 1, kB5.frozen 2, kB5.frozen 3, kB5.frozen 4, kB5.frozen 5⟩)
      have kF9 : Blk ((((((w5.setCell ⟨w9.heap.size, 0, none⟩ (.int .i64 T.year)).setCell ⟨w9.heap.size, 1, none⟩ (.slice T.la T.last.length T.lc)).setCell ⟨w9.heap.size, 2, none⟩ (.slice T.ga T.given.length T.gc)).setCell ⟨w9.heap.size, 3, none⟩ (.slice T.ha T.heaps.length T.hc)).setCell ⟨w9.heap.size, 4, none⟩ (.slice T.ua T.used.length T.uc)).setCell ⟨w9.heap.size, 5, none⟩ (.slice T.wa T.waste.length T.wc)) w9.heap.size (stoC T) 33 := ((((((kB5.set 0 (.int .i64 T.year)).set 1 (.slice T.la T.last.length T.lc)).set 2 (.slice T.ga T.given.length T.gc)).set 3 (.slice T.ha T.heaps.length T.hc)).set 4 (.slice T.ua T.used.length T.uc)).set 5 (.slice T.wa T.waste.length T.wc))
      have hbF : Below w9.heap.size w9 ((((((w5.setCell ⟨w9.heap.size, 0, none⟩ (.int .i64 T.year)).setCell ⟨w9.heap.size, 1, none⟩ (.slice T.la T.last.length T.lc)).setCell ⟨w9.heap.size, 2, none⟩ (.slice T.ga T.given.length T.gc)).setCell ⟨w9.heap.size, 3, none⟩ (.slice T.ha T.heaps.length T.hc)).setCell ⟨w9.heap.size, 4, none⟩ (.slice T.ua T.used.length T.uc)).setCell ⟨w9.heap.size, 5, none⟩ (.slice T.wa T.waste.length T.wc)) := ((((((hb5'.setCell (p := ⟨w9.heap.size, 0, none⟩) (Nat.le_refl _) (.int .i64 T.year)).setCell (p := ⟨w9.heap.size, 1, none⟩) (Nat.le_refl _) (.slice T.la T.last.length T.lc)).setCell (p := ⟨w9.heap.size, 2, none⟩) (Nat.le_refl _) (.slice T.ga T.given.length T.gc)).setCell (p := ⟨w9.heap.size, 3, none⟩) (Nat.le_refl _) (.slice T.ha T.heaps.length T.hc)).setCell (p := ⟨w9.heap.size, 4, none⟩) (Nat.le_refl _) (.slice T.ua T.used.length T.uc)).setCell (p := ⟨w9.heap.size, 5, none⟩) (Nat.le_refl _) (.slice T.wa T.waste.length T.wc))
      have hT9 : Turn (fun k => k = w9.heap.size) w5 ((((((w5.setCell ⟨w9.heap.size, 0, none⟩ (.int .i64 T.year)).setCell ⟨w9.heap.size, 1, none⟩ (.slice T.la T.last.length T.lc)).setCell ⟨w9.heap.size, 2, none⟩ (.slice T.ga T.given.length T.gc)).setCell ⟨w9.heap.size, 3, none⟩ (.slice T.ha T.heaps.length T.hc)).setCell ⟨w9.heap.size, 4, none⟩ (.slice T.ua T.used.length T.uc)).setCell ⟨w9.heap.size, 5, none⟩ (.slice T.wa T.waste.length T.wc)) := (((((((Turn.of_below (X := fun k => k = w9.heap.size) (Below.refl _ w5)).setCell (B := w9.heap.size) rfl 0 (.int .i64 T.year)).setCell (B := w9.heap.size) rfl 1 (.slice T.la T.last.length T.lc)).setCell (B := w9.heap.size) rfl 2 (.slice T.ga T.given.length T.gc)).setCell (B := w9.heap.size) rfl 3 (.slice T.ha T.heaps.length T.hc)).setCell (B := w9.heap.size) rfl 4 (.slice T.ua T.used.length T.uc)).setCell (B := w9.heap.size) rfl 5 (.slice T.wa T.waste.length T.wc))
      refine E_step (i := 11) (o := _) (by kernel_rfl) rfl (fun K hK => ?_)
      go_simp
      refine hK.out _ _ (fun _ => HST.out _ hbF) ?_
      clear hK K
      try simp only [Act.put, List.getElem_toArray, List.getElem_cons_zero, List.getElem_cons_succ, List.setIfInBounds_toArray, List.set_cons_zero, List.set_cons_succ]
      refine E_takeR (i := 12) (oi := _) (v := ?v33) rfl (by kernel_rfl) (by kernel_rfl) (by kernel_rfl) (by decide) (fun _ _ _ h => h) (HST.out _ hbF) (Or.inl ⟨by rfl, ?y33⟩) ?r33
      case y33 => (intro w' hSw; (try dsimp only at hSw); go_simp; try with_reducible rfl)
      try simp only [Act.put, List.getElem_toArray, List.getElem_cons_zero, List.getElem_cons_succ, List.setIfInBounds_toArray, List.set_cons_zero, List.set_cons_succ]
      refine E_takeR (i := 13) (oi := _) (v := ?v34) rfl (by kernel_rfl) (by kernel_rfl) (by kernel_rfl) (by decide) (fun _ _ _ h => h) (HST.out _ hbF) (Or.inl ⟨by rfl, ?y34⟩) ?r34
      case y34 => (intro w' hSw; (try dsimp only at hSw); go_simp; try with_reducible rfl)
      try simp only [Act.put, List.getElem_toArray, List.getElem_cons_zero, List.getElem_cons_succ, List.setIfInBounds_toArray, List.set_cons_zero, List.set_cons_succ]
      refine E_done (by kernel_rfl) ?_ _
      have hoF := (hoT.mono hbB.size).turn hT9 (fun k e hk => by have := (hoT.ge k hk).1; rw [World.size_alloc] at this; have := (show k = w9.heap.size from e); have : w9.drew.heap.size = w9.heap.size := rfl; omega)
      generalize ((((((w5.setCell ⟨w9.heap.size, 0, none⟩ (.int .i64 T.year)).setCell ⟨w9.heap.size, 1, none⟩ (.slice T.la T.last.length T.lc)).setCell ⟨w9.heap.size, 2, none⟩ (.slice T.ga T.given.length T.gc)).setCell ⟨w9.heap.size, 3, none⟩ (.slice T.ha T.heaps.length T.hc)).setCell ⟨w9.heap.size, 4, none⟩ (.slice T.ua T.used.length T.uc)).setCell ⟨w9.heap.size, 5, none⟩ (.slice T.wa T.waste.length T.wc)) = w9 at *
      have HOX := Lib.hid hoF
      have HBX := Lib.hid hbF
      have HSX := Lib.hid hsT
      have HKX := Lib.hid kF9
      clear hx hx5 hb5 hb5' hbB hoT hsT kB kB5 hbF hoF kF9 hT9 q0 q1 q2 q3 q4 q5 r0 r1 r2 r3 r4 r5
      go_wp2_with fail
      go_meet
      exact ⟨_, T, rfl, rfl, rfl, HKX.out, HOX.out, HSX.out, Nat.le_refl _, HBX.out⟩
  case rest =>
  obtain ⟨D3, T3, rfl, rfl, rfl, kD, hoD, hsD, hD3, hbx⟩ := hcut
  obtain ⟨w10, rfl⟩ : ∃ w10 : World, w10 = wc := ⟨_, rfl⟩
  have HB10 := Lib.hid (HB9.out.trans (hbx.mono HB9.out.size))
  have KB10 := Lib.hid (KB9.out.belowS hbx)
  have KC10 := Lib.hid (KC9.out.belowS hbx)
  have HO10 := Lib.hid (HO9.out.below hbx)
  have KD10 := Lib.hid kD
  have HOD := Lib.hid hoD.store
  have HSD := Lib.hid hsD
  clear hbx kD hoD hsD hD3 HRUN HST hsl3 KB9 KS9 KC9 HK19 HK29 HO9 HT01
  go_upto_region 16 with fail
  have hkl := Nat.le_trans HKN.out HN.out
  obtain ⟨a4, c4, hsl4, hl4⟩ := chrs_drop HL.out hkl
  have hE3 : storeE F T3 = 0 := by rw [same_storeE HSD.out]; exact HT03.out
  have ht3 : tot T3 ≤ 120 := by rw [same_tot HSD.out]; exact HT04.out
  obtain ⟨Y3, hY3, hsY⟩ : ∃ Y3, runL F T3 (l.drop k) = (Y3, n - k, ev) ∧ SameSto Y3 Y := by
    obtain ⟨h1, h2⟩ := same_run (F := F) (l := l.drop k) HSD.out
    rw [HT02.out] at h1 h2
    exact ⟨_, Prod.ext rfl h2, h1⟩
  have HSY := Lib.hid hsY
  have hst : ∀ w', Below w10.heap.size w10 w' → (fun w' : World => Below w10.heap.size w10 w' ∧ (w'.cell? ⟨w.heap.size, 0, none⟩ = some (.slice F.pa F.ps.length F.pc) ∧ w'.cell? ⟨w.heap.size, 1, none⟩ = some (.int .i64 F.dry) ∧ w'.cell? ⟨D3, 0, none⟩ = some (.int .i64 T3.year) ∧ w'.cell? ⟨D3, 1, none⟩ = some (.slice T3.la T3.last.length T3.lc) ∧ w'.cell? ⟨D3, 2, none⟩ = some (.slice T3.ga T3.given.length T3.gc) ∧ w'.cell? ⟨D3, 3, none⟩ = some (.slice T3.ha T3.heaps.length T3.hc) ∧ w'.cell? ⟨D3, 4, none⟩ = some (.slice T3.ua T3.used.length T3.uc) ∧ w'.cell? ⟨D3, 5, none⟩ = some (.slice T3.wa T3.waste.length T3.wc))) w' := fun w' hb => by
    have k0 := KB10.out.belowS hb
    have k1 := KD10.out.belowS hb
    exact ⟨hb, k0.cell 0, k0.cell 1, k1.cell 0, k1.cell 1, k1.cell 2, k1.cell 3, k1.cell 4, k1.cell 5⟩
  have HST := Lib.hid hst
  clear hst
  have HRUN := Lib.hid (fun (w' : World) (hb : Below w10.heap.size w10 w') => run_at F T3 a4 c4 (l.drop k) (l.length - k) w' (List.length_drop ..) (HF.out.below (HB10.out.trans (hb.mono HB10.out.size))) (HOD.out.below hb) (hl4.belowS (HB10.out.trans (hb.mono HB10.out.size))) hE3 ht3 (by have := H40.out; rw [List.length_drop]; omega) hY3)
  clear hl4 hE3 ht3 hY3 hsY
  obtain ⟨m, hm⟩ : ∃ m, n - k = m := ⟨_, rfl⟩
  obtain ⟨j, hj⟩ : ∃ j, l.length - k = j := ⟨_, rfl⟩
  have hsub : IntKind.i64.wrap ((n : Int) - (k : Int)) = (m : Int) := by
    have := HKN.out; have := HN.out; have := H40.out
    rw [IntKind.wrap_i64]
    omega
  rw [hj] at hsl4
  rw [hm, hj] at HRUN
  have HSUB := Lib.hid hsub
  clear hsub hm hj
  go_cut [16, 12, 13] from 107 to 116 (fun b n' e' wx => ∃ (D : Nat) (T : Sto), b = .pointer (some ⟨D, 0, none⟩) ∧ n' = .int .i64 (m) ∧ e' = .int .i64 (ev) ∧ Blk wx D (stoC T) 33 ∧ OwnSto w10.heap.size wx T ∧ SameSto T Y ∧ w10.heap.size ≤ D ∧ Below w10.heap.size w10 wx)
  case first =>
    have hx := HST.out w10.drew ((Below.refl _ w10).drew)
    refine wp_region_E 14 (fun w' : World => Below w10.heap.size w10 w' ∧ (w'.cell? ⟨w.heap.size, 0, none⟩ = some (.slice F.pa F.ps.length F.pc) ∧ w'.cell? ⟨w.heap.size, 1, none⟩ = some (.int .i64 F.dry) ∧ w'.cell? ⟨D3, 0, none⟩ = some (.int .i64 T3.year) ∧ w'.cell? ⟨D3, 1, none⟩ = some (.slice T3.la T3.last.length T3.lc) ∧ w'.cell? ⟨D3, 2, none⟩ = some (.slice T3.ga T3.given.length T3.gc) ∧ w'.cell? ⟨D3, 3, none⟩ = some (.slice T3.ha T3.heaps.length T3.hc) ∧ w'.cell? ⟨D3, 4, none⟩ = some (.slice T3.ua T3.used.length T3.uc) ∧ w'.cell? ⟨D3, 5, none⟩ = some (.slice T3.wa T3.waste.length T3.wc))) (by kernel_rfl) ?_
    refine E_takeR (i := 0) (oi := _) (v := ?v35) rfl (by kernel_rfl) (by kernel_rfl) (by kernel_rfl) (by decide) (fun _ _ _ h => h) hx (Or.inl ⟨by rfl, ?y35⟩) ?r35
    case y35 => (intro w' hSw; (try dsimp only at hSw); go_simp; try with_reducible rfl)
    try simp only [Act.put, List.getElem_toArray, List.getElem_cons_zero, List.getElem_cons_succ, List.setIfInBounds_toArray, List.set_cons_zero, List.set_cons_succ]
    refine E_takeR (i := 1) (oi := _) (v := ?v36) rfl (by kernel_rfl) (by kernel_rfl) (by kernel_rfl) (by decide) (fun _ _ _ h => h) hx (Or.inl ⟨by rfl, ?y36⟩) ?r36
    case y36 => (intro w' hSw; (try dsimp only at hSw); go_simp; try with_reducible rfl)
    try simp only [Act.put, List.getElem_toArray, List.getElem_cons_zero, List.getElem_cons_succ, List.setIfInBounds_toArray, List.set_cons_zero, List.set_cons_succ]
    refine E_takeR (i := 2) (oi := _) (v := ?v37) rfl (by kernel_rfl) (by kernel_rfl) (by kernel_rfl) (by decide) (fun _ _ _ h => h) hx (Or.inl ⟨by rfl, ?y37⟩) ?r37
    case y37 => (intro w' hSw; (try dsimp only at hSw); go_simp; try with_reducible rfl)
    try simp only [Act.put, List.getElem_toArray, List.getElem_cons_zero, List.getElem_cons_succ, List.setIfInBounds_toArray, List.set_cons_zero, List.set_cons_succ]
    refine E_takeR (i := 3) (oi := _) (v := ?v38) rfl (by kernel_rfl) (by kernel_rfl) (by kernel_rfl) (by decide) (fun _ _ _ h => h) hx (Or.inl ⟨by rfl, ?y38⟩) ?r38
    case y38 => (intro w' hSw; (try dsimp only at hSw); go_simp; try with_reducible rfl)
    try simp only [Act.put, List.getElem_toArray, List.getElem_cons_zero, List.getElem_cons_succ, List.setIfInBounds_toArray, List.set_cons_zero, List.set_cons_succ]
    refine E_takeR (i := 4) (oi := _) (v := ?v39) rfl (by kernel_rfl) (by kernel_rfl) (by kernel_rfl) (by decide) (fun _ _ _ h => h) hx (Or.inl ⟨by rfl, ?y39⟩) ?r39
    case y39 => (intro w' hSw; (try dsimp only at hSw); go_simp; try with_reducible rfl)
    try simp only [Act.put, List.getElem_toArray, List.getElem_cons_zero, List.getElem_cons_succ, List.setIfInBounds_toArray, List.set_cons_zero, List.set_cons_succ]
    refine E_step2 (i := 5) (i' := 10) (o := _) (o' := _) (by kernel_rfl) rfl rfl (fun K hK => ?_) (fun K hK => ?_)
    · go_simp
      refine (HRUN.out _ hx.1).mono ?_
      rintro r w5 ⟨⟨T, rfl, hoT, hsT⟩, hb5⟩
      dsimp only
      have hb5' : Below w10.heap.size w10 w5 := hx.1.trans (hb5.mono hx.1.size)
      have hx5 := HST.out w5 hb5'
      refine hK.out _ _ (fun _ => hx5) ?_
      clear hK K
      try simp only [Act.put, List.getElem_toArray, List.getElem_cons_zero, List.getElem_cons_succ, List.setIfInBounds_toArray, List.set_cons_zero, List.set_cons_succ]
      refine E_takeR (i := 6) (oi := _) (v := ?v40) rfl (by kernel_rfl) (by kernel_rfl) (by kernel_rfl) (by decide) (fun _ _ _ h => h) hx5 (Or.inl ⟨by rfl, ?y40⟩) ?r40
      case y40 => (intro w' hSw; (try dsimp only at hSw); go_simp; try with_reducible rfl)
      try simp only [Act.put, List.getElem_toArray, List.getElem_cons_zero, List.getElem_cons_succ, List.setIfInBounds_toArray, List.set_cons_zero, List.set_cons_succ]
      refine E_takeR (i := 7) (oi := _) (v := ?v41) rfl (by kernel_rfl) (by kernel_rfl) (by kernel_rfl) (by decide) (fun _ _ _ h => h) hx5 (Or.inl ⟨by rfl, ?y41⟩) ?r41
      case y41 => (intro w' hSw; (try dsimp only at hSw); go_simp; try with_reducible rfl)
      try simp only [Act.put, List.getElem_toArray, List.getElem_cons_zero, List.getElem_cons_succ, List.setIfInBounds_toArray, List.set_cons_zero, List.set_cons_succ]
      refine E_takeR (i := 8) (oi := _) (v := ?v42) rfl (by kernel_rfl) (by kernel_rfl) (by kernel_rfl) (by decide) (fun _ _ _ h => h) hx5 (Or.inl ⟨by rfl, ?y42⟩) ?r42
      case y42 => (intro w' hSw; (try dsimp only at hSw); go_simp; try with_reducible rfl)
      try simp only [Act.put, List.getElem_toArray, List.getElem_cons_zero, List.getElem_cons_succ, List.setIfInBounds_toArray, List.set_cons_zero, List.set_cons_succ]
      refine E_takeR (i := 9) (oi := _) (v := ?v43) rfl (by kernel_rfl) (by kernel_rfl) (by kernel_rfl) (by decide) (fun _ _ _ h => h) hx5 (Or.inl ⟨by rfl, ?y43⟩) ?r43
      case y43 => (intro w' hSw; (try dsimp only at hSw); go_simp; try with_reducible rfl)
      try simp only [Act.put, List.getElem_toArray, List.getElem_cons_zero, List.getElem_cons_succ, List.setIfInBounds_toArray, List.set_cons_zero, List.set_cons_succ]
      refine E_step (i := 10) (o := _) (by kernel_rfl) rfl (fun K hK => ?_)
      go_simp
      have hbB : Below w10.heap.size w10 (w5.alloc (.cells #[.int .i64 0, .slice none 0 0, .slice none 0 0, .slice none 0 0, .slice none 0 0, .slice none 0 0] 33)) := hb5'.alloc hb5'.size _
      refine hK.out _ _ (fun _ => HST.out _ hbB) ?_
      clear hK K
      try simp only [Act.put, List.getElem_toArray, List.getElem_cons_zero, List.getElem_cons_succ, List.setIfInBounds_toArray, List.set_cons_zero, List.set_cons_succ]
      have hbF : Below w10.heap.size w10 (w5.alloc (.cells #[.int .i64 T.year, .slice T.la T.last.length T.lc, .slice T.ga T.given.length T.gc, .slice T.ha T.heaps.length T.hc, .slice T.ua T.used.length T.uc, .slice T.wa T.waste.length T.wc] 33)) := hb5'.alloc hb5'.size _
      refine E_step (i := 11) (o := _) (by kernel_rfl) rfl (fun K hK => ?_)
      go_simp
      refine hK.out _ _ (fun _ => HST.out _ hbF) ?_
      clear hK K
      try simp only [Act.put, List.getElem_toArray, List.getElem_cons_zero, List.getElem_cons_succ, List.setIfInBounds_toArray, List.set_cons_zero, List.set_cons_succ]
      refine E_takeR (i := 12) (oi := _) (v := ?v44) rfl (by kernel_rfl) (by kernel_rfl) (by kernel_rfl) (by decide) (fun _ _ _ h => h) (HST.out _ hbF) (Or.inl ⟨by rfl, ?y44⟩) ?r44
      case y44 => (intro w' hSw; (try dsimp only at hSw); go_simp; try with_reducible rfl)
      try simp only [Act.put, List.getElem_toArray, List.getElem_cons_zero, List.getElem_cons_succ, List.setIfInBounds_toArray, List.set_cons_zero, List.set_cons_succ]
      refine E_takeR (i := 13) (oi := _) (v := ?v45) rfl (by kernel_rfl) (by kernel_rfl) (by kernel_rfl) (by decide) (fun _ _ _ h => h) (HST.out _ hbF) (Or.inl ⟨by rfl, ?y45⟩) ?r45
      case y45 => (intro w' hSw; (try dsimp only at hSw); go_simp; try with_reducible rfl)
      try simp only [Act.put, List.getElem_toArray, List.getElem_cons_zero, List.getElem_cons_succ, List.setIfInBounds_toArray, List.set_cons_zero, List.set_cons_succ]
      refine E_done (by kernel_rfl) ?_ _
      have kB := Blk.new w5 33 (stoC T)
      have hoF := (hoT.mono hx.1.size).below ((Below.refl _ w5).alloc (Nat.le_refl _) (.cells (stoC T) 33))
      have HOX := Lib.hid hoF
      have HBX := Lib.hid hbF
      have HSX := Lib.hid hsT
      have HKX := Lib.hid kB
      have HLX := Lib.hid hb5'.size
      clear hx hx5 hb5 hb5' hbB hoT hsT kB hbF hoF
      go_wp2_with fail
      go_meet
      exact ⟨_, T, rfl, rfl, rfl, HKX.out, HOX.out, HSX.out.trans HSY.out, HLX.out, HBX.out⟩
    · go_simp
      have hbB : Below w10.heap.size w10 (w10.drew.alloc (.cells #[.int .i64 0, .slice none 0 0, .slice none 0 0, .slice none 0 0, .slice none 0 0, .slice none 0 0] 33)) := hx.1.alloc hx.1.size _
      have kB := Blk.new w10.drew 33 #[.int .i64 0, .slice none 0 0, .slice none 0 0, .slice none 0 0, .slice none 0 0, .slice none 0 0]
      refine hK.out _ _ (fun _ => HST.out _ hbB) ?_
      clear hK K
      try simp only [Act.put, List.getElem_toArray, List.getElem_cons_zero, List.getElem_cons_succ, List.setIfInBounds_toArray, List.set_cons_zero, List.set_cons_succ]
      refine E_step (i := 5) (o := _) (by kernel_rfl) rfl (fun K hK => ?_)
      go_simp
      refine (HRUN.out _ hbB).mono ?_
      rintro r w5 ⟨⟨T, rfl, hoT, hsT⟩, hb5⟩
      dsimp only
      have hb5' : Below w10.heap.size w10 w5 := hbB.trans (hb5.mono hbB.size)
      have kB5 := kB.belowS hb5
      have hx5 := HST.out w5 hb5'
      refine hK.out _ _ (fun _ => hx5) ?_
      clear hK K
      try simp only [Act.put, List.getElem_toArray, List.getElem_cons_zero, List.getElem_cons_succ, List.setIfInBounds_toArray, List.set_cons_zero, List.set_cons_succ]
      refine E_takeR (i := 6) (oi := _) (v := ?v46) rfl (by kernel_rfl) (by kernel_rfl) (by kernel_rfl) (by decide) (fun _ _ _ h => h) hx5 (Or.inl ⟨by rfl, ?y46⟩) ?r46
      case y46 => (intro w' hSw; (try dsimp only at hSw); go_simp; try with_reducible rfl)
      try simp only [Act.put, List.getElem_toArray, List.getElem_cons_zero, List.getElem_cons_succ, List.setIfInBounds_toArray, List.set_cons_zero, List.set_cons_succ]
      refine E_takeR (i := 7) (oi := _) (v := ?v47) rfl (by kernel_rfl) (by kernel_rfl) (by kernel_rfl) (by decide) (fun _ _ _ h => h) hx5 (Or.inl ⟨by rfl, ?y47⟩) ?r47
      case y47 => (intro w' hSw; (try dsimp only at hSw); go_simp; try with_reducible rfl)
      try simp only [Act.put, List.getElem_toArray, List.getElem_cons_zero, List.getElem_cons_succ, List.setIfInBounds_toArray, List.set_cons_zero, List.set_cons_succ]
      refine E_takeR (i := 8) (oi := _) (v := ?v48) rfl (by kernel_rfl) (by kernel_rfl) (by kernel_rfl) (by decide) (fun _ _ _ h => h) hx5 (Or.inl ⟨by rfl, ?y48⟩) ?r48
      case y48 => (intro w' hSw; (try dsimp only at hSw); go_simp; try with_reducible rfl)
      try simp only [Act.put, List.getElem_toArray, List.getElem_cons_zero, List.getElem_cons_succ, List.setIfInBounds_toArray, List.set_cons_zero, List.set_cons_succ]
      refine E_takeR (i := 9) (oi := _) (v := ?v49) rfl (by kernel_rfl) (by kernel_rfl) (by kernel_rfl) (by decide) (fun _ _ _ h => h) hx5 (Or.inl ⟨by rfl, ?y49⟩) ?r49
      case y49 => (intro w' hSw; (try dsimp only at hSw); go_simp; try with_reducible rfl)
      try simp only [Act.put, List.getElem_toArray, List.getElem_cons_zero, List.getElem_cons_succ, List.setIfInBounds_toArray, List.set_cons_zero, List.set_cons_succ]
      have lD : w10.heap.size < w5.heap.size := kB5.lt
      obtain ⟨q0, q1, q2, q3, q4, q5⟩ := (show w5.cell? ⟨w10.heap.size, 0, none⟩ = some (.int .i64 0) ∧ w5.cell? ⟨w10.heap.size, 1, none⟩ = some (.slice none 0 0) ∧ w5.cell? ⟨w10.heap.size, 2, none⟩ = some (.slice none 0 0) ∧ w5.cell? ⟨w10.heap.size, 3, none⟩ = some (.slice none 0 0) ∧ w5.cell? ⟨w10.heap.size, 4, none⟩ = some (.slice none 0 0) ∧ w5.cell? ⟨w10.heap.size, 5, none⟩ = some (.slice none 0 0) from ⟨kB5.cell 0, kB5.cell 1, kB5.cell 2, kB5.cell 3, kB5.cell 4, kB5.cell 5⟩)
      obtain ⟨r0, r1, r2, r3, r4, r5⟩ := (show w5.frozen? ⟨w10.heap.size, 0, none⟩ = false ∧ w5.frozen? ⟨w10.heap.size, 1, none⟩ = false ∧ w5.frozen? ⟨w10.heap.size, 2, none⟩ = false ∧ w5.frozen? ⟨w10.heap.size, 3, none⟩ = false ∧ w5.frozen? ⟨w10.heap.size, 4, none⟩ = false ∧ w5.frozen? ⟨w10.heap.size, 5, none⟩ = false from ⟨kB5.frozen 0, kB5.frozen 1, kB5.frozen 2, kB5.frozen 3, kB5.frozen 4, kB5.frozen 5⟩)
      have kF9 : Blk ((((((w5.setCell ⟨w10.heap.size, 0, none⟩ (.int .i64 T.year)).setCell ⟨w10.heap.size, 1, none⟩ (.slice T.la T.last.length T.lc)).setCell ⟨w10.heap.size, 2, none⟩ (.slice T.ga T.given.length T.gc)).setCell ⟨w10.heap.size, 3, none⟩ (.slice T.ha T.heaps.length T.hc)).setCell ⟨w10.heap.size, 4, none⟩ (.slice T.ua T.used.length T.uc)).setCell ⟨w10.heap.size, 5, none⟩ (.slice T.wa T.waste.length T.wc)) w10.heap.size (stoC T) 33 := ((((((kB5.set 0 (.int .i64 T.year)).set 1 (.slice T.la T.last.length T.lc)).set 2 (.slice T.ga T.given.length T.gc)).set 3 (.slice T.ha T.heaps.length T.hc)).set 4 (.slice T.ua T.used.length T.uc)).set 5 (.slice T.wa T.waste.length T.wc))
      have hbF : Below w10.heap.size w10 ((((((w5.setCell ⟨w10.heap.size, 0, none⟩ (.int .i64 T.year)).setCell ⟨w10.heap.size, 1, none⟩ (.slice T.la T.last.length T.lc)).setCell ⟨w10.heap.size, 2, none⟩ (.slice T.ga T.given.length T.gc)).setCell ⟨w10.heap.size, 3, none⟩ (.slice T.ha T.heaps.length T.hc)).setCell ⟨w10.heap.size, 4, none⟩ (.slice T.ua T.used.length T.uc)).setCell ⟨w10.heap.size, 5, none⟩ (.slice T.wa T.waste.length T.wc)) := ((((((hb5'.setCell (p := ⟨w10.heap.size, 0, none⟩) (Nat.le_refl _) (.int .i64 T.year)).setCell (p := ⟨w10.heap.size, 1, none⟩) (Nat.le_refl _) (.slice T.la T.last.length T.lc)).setCell (p := ⟨w10.heap.size, 2, none⟩) (Nat.le_refl _) (.slice T.ga T.given.length T.gc)).setCell (p := ⟨w10.heap.size, 3, none⟩) (Nat.le_refl _) (.slice T.ha T.heaps.length T.hc)).setCell (p := ⟨w10.heap.size, 4, none⟩) (Nat.le_refl _) (.slice T.ua T.used.length T.uc)).setCell (p := ⟨w10.heap.size, 5, none⟩) (Nat.le_refl _) (.slice T.wa T.waste.length T.wc))
      have hT9 : Turn (fun k => k = w10.heap.size) w5 ((((((w5.setCell ⟨w10.heap.size, 0, none⟩ (.int .i64 T.year)).setCell ⟨w10.heap.size, 1, none⟩ (.slice T.la T.last.length T.lc)).setCell ⟨w10.heap.size, 2, none⟩ (.slice T.ga T.given.length T.gc)).setCell ⟨w10.heap.size, 3, none⟩ (.slice T.ha T.heaps.length T.hc)).setCell ⟨w10.heap.size, 4, none⟩ (.slice T.ua T.used.length T.uc)).setCell ⟨w10.heap.size, 5, none⟩ (.slice T.wa T.waste.length T.wc)) := (((((((Turn.of_below (X := fun k => k = w10.heap.size) (Below.refl _ w5)).setCell (B := w10.heap.size) rfl 0 (.int .i64 T.year)).setCell (B := w10.heap.size) rfl 1 (.slice T.la T.last.length T.lc)).setCell (B := w10.heap.size) rfl 2 (.slice T.ga T.given.length T.gc)).setCell (B := w10.heap.size) rfl 3 (.slice T.ha T.heaps.length T.hc)).setCell (B := w10.heap.size) rfl 4 (.slice T.ua T.used.length T.uc)).setCell (B := w10.heap.size) rfl 5 (.slice T.wa T.waste.length T.wc))
      refine E_step (i := 11) (o := _) (by kernel_rfl) rfl (fun K hK => ?_)
      go_simp
      refine hK.out _ _ (fun _ => HST.out _ hbF) ?_
      clear hK K
      try simp only [Act.put, List.getElem_toArray, List.getElem_cons_zero, List.getElem_cons_succ, List.setIfInBounds_toArray, List.set_cons_zero, List.set_cons_succ]
      refine E_takeR (i := 12) (oi := _) (v := ?v50) rfl (by kernel_rfl) (by kernel_rfl) (by kernel_rfl) (by decide) (fun _ _ _ h => h) (HST.out _ hbF) (Or.inl ⟨by rfl, ?y50⟩) ?r50
      case y50 => (intro w' hSw; (try dsimp only at hSw); go_simp; try with_reducible rfl)
      try simp only [Act.put, List.getElem_toArray, List.getElem_cons_zero, List.getElem_cons_succ, List.setIfInBounds_toArray, List.set_cons_zero, List.set_cons_succ]
      refine E_takeR (i := 13) (oi := _) (v := ?v51) rfl (by kernel_rfl) (by kernel_rfl) (by kernel_rfl) (by decide) (fun _ _ _ h => h) (HST.out _ hbF) (Or.inl ⟨by rfl, ?y51⟩) ?r51
      case y51 => (intro w' hSw; (try dsimp only at hSw); go_simp; try with_reducible rfl)
      try simp only [Act.put, List.getElem_toArray, List.getElem_cons_zero, List.getElem_cons_succ, List.setIfInBounds_toArray, List.set_cons_zero, List.set_cons_succ]
      refine E_done (by kernel_rfl) ?_ _
      have hoF := (hoT.mono hbB.size).turn hT9 (fun k e hk => by have := (hoT.ge k hk).1; rw [World.size_alloc] at this; have := (show k = w10.heap.size from e); have : w10.drew.heap.size = w10.heap.size := rfl; omega)
      generalize ((((((w5.setCell ⟨w10.heap.size, 0, none⟩ (.int .i64 T.year)).setCell ⟨w10.heap.size, 1, none⟩ (.slice T.la T.last.length T.lc)).setCell ⟨w10.heap.size, 2, none⟩ (.slice T.ga T.given.length T.gc)).setCell ⟨w10.heap.size, 3, none⟩ (.slice T.ha T.heaps.length T.hc)).setCell ⟨w10.heap.size, 4, none⟩ (.slice T.ua T.used.length T.uc)).setCell ⟨w10.heap.size, 5, none⟩ (.slice T.wa T.waste.length T.wc)) = w9 at *
      have HOX := Lib.hid hoF
      have HBX := Lib.hid hbF
      have HSX := Lib.hid hsT
      have HKX := Lib.hid kF9
      clear hx hx5 hb5 hb5' hbB hoT hsT kB kB5 hbF hoF kF9 hT9 q0 q1 q2 q3 q4 q5 r0 r1 r2 r3 r4 r5
      go_wp2_with fail
      go_meet
      exact ⟨_, T, rfl, rfl, rfl, HKX.out, HOX.out, HSX.out.trans HSY.out, Nat.le_refl _, HBX.out⟩
  case rest =>
  obtain ⟨D4, T4, rfl, rfl, rfl, kD, hoD, hsD, hD4, hbx⟩ := hcut
  obtain ⟨w11, rfl⟩ : ∃ w11 : World, w11 = wc := ⟨_, rfl⟩
  have HB11 := Lib.hid (HB10.out.trans (hbx.mono HB10.out.size))
  have kC8 := KC10.out.belowS hbx
  have hss := sameStore_any T4 T1 w11 hoD.store (HO10.out.below hbx) (hsD.trans HS1.out.symm)
  unfold stoV at hss
  have HSS := Lib.hid hss
  obtain ⟨c0, c1', c2', c3, c4', c5⟩ := sto_cells kC8
  obtain ⟨d0, d1, d2, d3, d4, d5⟩ := sto_cells kD
  have lC := kC8.lt
  have lD := kD.lt
  have hsub := HSUB.out
  clear hss hbx hoD hsD kC8 kD HRUN HST hsl4 hD4 HSUB
  go_wp2_with fail
  refine HSS.out.mono ?_
  rintro e w12 ⟨rfl, hb9⟩
  have HB12 := Lib.hid (HB11.out.trans (hb9.mono HB11.out.size))
  clear hb9 c0 c1' c2' c3 c4' c5 d0 d1 d2 d3 d4 d5 lC lD
  go_wp2_with fail
  refine (lives_any _).mono ?_
  rintro e w13 ⟨rfl, hb3⟩
  go_wp2_with fail
  go_ret
  exact ⟨rfl, HB12.out.trans (hb3.mono HB12.out.size)⟩
end Go.Proofs.Ytkohmgmoeffgnaa
