/- Which sets of single cuts fit a rod, and the bound of weights, by the specification (patterns, bound). No condition but that the rods and the weights may be. -/
import Derived.Test.YtmcmhgjlpffcnaaRO
import Derived.Laws.BitsLemmas
set_option linter.unusedSimpArgs false
namespace Go.Proofs.Ytmcmhgjlpffcnaa
open Go.RowKit Go.Shelf

/-! ### Bits -/
theorem bit_test (s i : Nat) (hs : s < 2 ^ 62) : bits .and .i64 ((s : Int) / (2 : Int) ^ i) 1 = if s.testBit i = true then 1 else 0 := by
  have e1 : (s : Int) / (2 : Int) ^ i = ((s / 2 ^ i : Nat) : Int) := by simp
  have h1 : s / 2 ^ i < 2 ^ 62 := Nat.lt_of_le_of_lt (Nat.div_le_self _ _) hs
  have h2 := bits_mask .i64 62 (by decide) (fun n h0 h1 => by rw [IntKind.wrap_i64]; omega) 1 (by decide) ((s / 2 ^ i : Nat) : Int) (Int.natCast_nonneg _) (by exact_mod_cast h1)
  rw [e1, show (1 : Int) = 2 ^ 1 - 1 by rfl, h2, Nat.testBit_eq_decide_div_mod_eq]
  by_cases h : s / 2 ^ i % 2 = 1
  · rw [if_pos (by simp [h])]; omega
  · rw [if_neg (by simp [h])]; omega
theorem bits_bd {f : Nat → Int} {M : Int} (h : ∀ c, 0 ≤ f c ∧ f c ≤ M) (l : List Nat) (s : Nat) : ∀ n : Nat, 0 ≤ bitsN f l s n ∧ bitsN f l s n ≤ M * n
  | 0 => by simp [bitsN]
  | n + 1 => by
    have h1 := bits_bd h l s n
    have h2 := h (l.getD n 0)
    rw [bitsN, Int.natCast_add, Int.mul_add]
    split <;> omega
theorem size_bd {r : Rds} (hr : r.ok) (c : Nat) : 0 ≤ sizeF r c ∧ sizeF r c ≤ 200000 := by
  have hk := hr.kerf
  have hs := hr.stock
  unfold sizeF
  split
  · rename_i x hx
    have := (hr.cuts x (List.mem_of_getElem? hx)).1
    omega
  · omega
theorem sglI_at {l : List Nat} {i : Nat} (h : i < l.length) : (sglI l)[i]? = some ((l.getD i 0 : Nat) : Int) := by
  rw [sglI, List.getElem?_map, List.getElem?_eq_getElem h, List.getD_eq_getElem?_getD, List.getElem?_eq_getElem h]
  rfl

/-! ### Which sets fit -/
def fitArr (r : Rds) (l : List Nat) (N j : Nat) : Array Value := ((List.range N).map fun s => Value.bool (if s < j then setB r l s else false)).toArray
theorem fitArr_get {r : Rds} {l : List Nat} {N j i : Nat} (h : i < N) : (fitArr r l N j)[i]? = some (.bool (if i < j then setB r l i else false)) := by
  simp [fitArr, List.getElem?_range h]
theorem fitArr_none {r : Rds} {l : List Nat} {N j i : Nat} (h : N ≤ i) : (fitArr r l N j)[i]? = none := by
  simp [fitArr, h]
theorem fitArr_zero (r : Rds) (l : List Nat) (N : Nat) : madeCells #[.bool false] N = fitArr r l N 0 := by
  apply Array.ext_getElem?
  intro i
  by_cases h : i < N
  · rw [fitArr_get h]
    simp [madeCells, h, Nat.mod_one]
  · rw [fitArr_none (by omega)]
    simp [madeCells]
    omega
theorem fitArr_succ {r : Rds} {l : List Nat} {N j : Nat} (h : j < N) : (fitArr r l N j).setIfInBounds j (.bool (setB r l j)) = fitArr r l N (j + 1) := by
  have hs : (fitArr r l N j).size = N := by simp [fitArr]
  apply Array.ext_getElem?
  intro i
  rw [Array.getElem?_setIfInBounds]
  by_cases hi : i < N
  · rw [fitArr_get hi, fitArr_get hi]
    by_cases e : j = i
    · subst e
      simp [hs, h]
    · rw [if_neg e]
      by_cases h2 : i < j
      · rw [if_pos h2, if_pos (by omega)]
      · rw [if_neg h2, if_neg (by omega)]
  · rw [fitArr_none (by omega), fitArr_none (by omega)]
    by_cases e : j = i
    · omega
    · rw [if_neg e]

set_option maxRecDepth 100000 in
set_option maxHeartbeats 16000000 in
theorem refPats_any (r : Rds) (sa : Option Addr) (c : Nat) (w : World) (hr : r.ok) (hrow : IsCts w r.ca r.cc r.cs) (hns : IsInts w sa c (sglI (sgl r.cs))) :
    Calls Try.prog 95 #[.agg #[.int .i64 r.stock, .int .i64 r.kerf, .slice r.ca r.cs.length r.cc], .slice sa (sglI (sgl r.cs)).length c] w fun e w' => ∃ B, e = .returned (.slice (some ⟨B, 0, none⟩) (2 ^ (sgl r.cs).length) (2 ^ (sgl r.cs).length)) ∧ w.heap.size ≤ B ∧ Blk w' B (fitArr r (sgl r.cs) (2 ^ (sgl r.cs).length) (2 ^ (sgl r.cs).length)) 4 ∧ Below w.heap.size w w' := by
  have hm12 := (sgl_ok hr).1
  have hgd : ∀ i, i < (sgl r.cs).length → (sgl r.cs).getD i 0 < r.cs.length := fun i hi => getD_sgl i hi
  have HR := Lib.hid hr
  have HROW := Lib.hid hrow
  have hSZ := size_bd hr
  have hst := hr.stock
  have hkf := hr.kerf
  obtain ⟨l, hl⟩ : ∃ l, sgl r.cs = l := ⟨_, rfl⟩
  rw [hl] at hm12 hgd hns ⊢
  rw [sglI_len]
  obtain ⟨m, hm⟩ : ∃ m, l.length = m := ⟨_, rfl⟩
  have HM := Lib.hid hm
  rw [hm] at hm12 hgd ⊢
  have hN : 2 ^ m ≤ 2 ^ 12 := Nat.pow_le_pow_right (by omega) hm12
  obtain ⟨N, hNN⟩ : ∃ N, 2 ^ m = N := ⟨_, rfl⟩
  rw [hNN] at hN ⊢
  have hN2 : N ≤ 4096 := by simpa using hN
  have HNS := Lib.hid hns
  have hmk := run_make_row' (P := Try.prog) 111 4 (.bool false) 1 (by kernel_rfl) (by kernel_rfl) rfl .i64 .i64 N (by omega) (by omega)
  have k1 := (Blk.new w 43 #[.int .i64 r.stock, .int .i64 r.kerf, .slice r.ca r.cs.length r.cc]).alloc (.cells (madeCells #[.bool false] N) 4)
  have k2 := Blk.new (w.alloc (.cells #[.int .i64 r.stock, .int .i64 r.kerf, .slice r.ca r.cs.length r.cc] 43)) 4 (madeCells #[.bool false] N)
  have hb1 : Below w.heap.size w ((w.alloc (.cells #[.int .i64 r.stock, .int .i64 r.kerf, .slice r.ca r.cs.length r.cc] 43)).alloc (.cells (madeCells #[.bool false] N) 4)) := ((Below.refl _ w).alloc (Nat.le_refl _) _).alloc (by simp) _
  rw [World.size_alloc] at k2
  have hmi : (m : Int).toNat = m := by omega
  have hm0 : (0 : Int) ≤ (m : Int) := by omega
  have hm0' : ¬ (m : Int) < 0 := by omega
  have hmin : min m 64 = m := by omega
  have hpw : IntKind.i64.wrap ((2 : Int) ^ m) = (N : Int) := by
    rw [show (2 : Int) ^ m = ((2 ^ m : Nat) : Int) by simp, hNN, IntKind.wrap_i64]
    omega
  clear hr hrow hns hl hm hN
  go_enter Try.func95, Try.ntmps95
  go_upto_region 2 with fail
  clear hmk hpw
  generalize ((w.alloc (.cells #[.int .i64 r.stock, .int .i64 r.kerf, .slice r.ca r.cs.length r.cc] 43)).alloc (.cells (madeCells #[.bool false] N) 4)) = w1 at *
  rw [fitArr_zero r l N] at k2
  have K1 := Lib.hid k1
  have K2 := Lib.hid k2
  have HB1 := Lib.hid hb1
  clear k1 k2 hb1
  go_wp2_with fail
  go_loopw [6, 7, 8] (fun s6 _ _ wr => ∃ s : Nat, s ≤ N ∧ s6 = .int .i64 s ∧ Blk wr (w.heap.size + 1) (fitArr r l N s) 4 ∧ Blk wr w.heap.size #[.int .i64 r.stock, .int .i64 r.kerf, .slice r.ca r.cs.length r.cc] 43 ∧ Below w.heap.size w wr) (fun s6 _ _ _ => N - (intOf s6).toNat)
  case atStart => exact ⟨0, Nat.zero_le _, rfl, K2.out, K1.out, HB1.out⟩
  case round =>
    obtain ⟨s, hs, rfl, hk, hkr, hb⟩ := hrel
    have HK := Lib.hid hk
    have HKR := Lib.hid hkr
    have HB := Lib.hid hb
    obtain ⟨wo, rfl⟩ : ∃ wo : World, wo = wr := ⟨_, rfl⟩
    have hs0 : (0 : Int) ≤ (s : Int) := Int.natCast_nonneg _
    by_cases hsN : s < N
    rotate_left
    · obtain rfl : s = N := by omega
      have hjj : ¬ (s : Int) < (s : Int) := by omega
      clear hk hkr hb hsN hs
      go_wp2_with fail
      go_ret
      exact ⟨_, rfl, by omega, HK.out, HB.out⟩
    have hs1 : (s : Int) < (N : Int) := by omega
    clear hk hkr hb
    go_wp2_with fail
    go_loopw [7, 8] (fun s7 s8 wv => ∃ i : Nat, i ≤ m ∧ s8 = .int .i64 i ∧ s7 = .int .i64 (bitsN (sizeF r) l s i) ∧ Below wo.heap.size wo wv) (fun _ s8 _ => m - (intOf s8).toNat)
    case atStart => exact ⟨0, Nat.zero_le _, rfl, rfl, Below.refl _ _⟩
    case round =>
      obtain ⟨i, hi, rfl, rfl, hbi⟩ := hrel
      have HBI := Lib.hid hbi
      obtain ⟨wi, rfl⟩ : ∃ wi : World, wi = wr := ⟨_, rfl⟩
      have hi0 : (0 : Int) ≤ (i : Int) := Int.natCast_nonneg _
      have hbd := bits_bd hSZ l s i
      by_cases him : i < m
      rotate_left
      · obtain rfl : i = m := by omega
        have hjj : ¬ (i : Int) < (i : Int) := by omega
        have HSB := Lib.hid (show decide (bitsN (sizeF r) l s i ≤ r.stock + r.kerf) = setB r l s by unfold setB setZ; rw [HM.out])
        obtain ⟨V, hV⟩ : ∃ V, bitsN (sizeF r) l s i = V := ⟨_, rfl⟩
        rw [hV] at HSB hbd ⊢
        have es : IntKind.i64.wrap (r.stock + r.kerf) = r.stock + r.kerf := by rw [IntKind.wrap_i64]; omega
        obtain ⟨r0, r1, r2⟩ := rds_cells (r := r) (HKR.out.belowS hbi)
        have hlr := (HKR.out.belowS hbi).lt
        have hki := HK.out.belowS hbi
        have hkc := hki.cell s
        rw [fitArr_get hsN, if_neg (by omega)] at hkc
        have hkz := hki.frozen s
        have hkl := hki.lt
        have HKI := Lib.hid hki
        have HKRI := Lib.hid (HKR.out.belowS hbi)
        have HBW := Lib.hid (HB.out.trans (hbi.mono HB.out.size))
        have HSU := Lib.hid (fitArr_succ (r := r) (l := l) hsN)
        clear him hi hbi hV hki
        go_wp2_with fail
        have kf := HKI.out.set s (.bool (setB r l s))
        rw [HSU.out] at kf
        rw [HSB.out]
        have kr := HKRI.out.other (B' := w.heap.size + 1) (i := s) (by omega) (.bool (setB r l s))
        have hbf : Below w.heap.size w (wi.setCell ⟨w.heap.size + 1, s, none⟩ (.bool (setB r l s))) := HBW.out.setCell (by show w.heap.size ≤ w.heap.size + 1; omega) _
        generalize wi.setCell ⟨w.heap.size + 1, s, none⟩ (.bool (setB r l s)) = wq at *
        exact ⟨⟨s + 1, by omega, by simp, kf, kr, hbf⟩, by simp [intOf]; omega⟩
      have hi1 : (i : Int) < (m : Int) := by omega
      have hmin2 : min i 64 = i := by omega
      have hit : (i : Int).toNat = i := by omega
      have hin : ¬ (i : Int) < 0 := by omega
      have hp62 : s < 2 ^ 62 := by
        have : (4096 : Nat) < 2 ^ 62 := by decide
        omega
      have ebit : (bits .and .i64 ((s : Int) / 2 ^ i) 1 == 1) = s.testBit i := by
        rw [bit_test s i hp62]
        by_cases h : s.testBit i = true
        · rw [if_pos h, h]; rfl
        · rw [if_neg h, Bool.eq_false_iff.2 h]; rfl
      have HBS := Lib.hid (show bitsN (sizeF r) l s (i + 1) = bitsN (sizeF r) l s i + if s.testBit i = true then sizeF r (l.getD i 0) else 0 from rfl)
      have hgi := hgd i him
      have hns := sglI_at (l := l) (i := i) (by rw [HM.out]; exact him)
      obtain ⟨x, hx⟩ : ∃ x, l.getD i 0 = x := ⟨_, rfl⟩
      rw [hx] at HBS hgi hns
      obtain ⟨U, hU⟩ : ∃ U, bitsN (sizeF r) l s i = U := ⟨_, rfl⟩
      rw [hU] at HBS hbd ⊢
      have ei : IntKind.i64.wrap ((i : Int) + 1) = ((i + 1 : Nat) : Int) := by rw [IntKind.wrap_i64]; omega
      cases htb : s.testBit i with
      | false =>
        rw [htb] at ebit HBS
        have HF := Lib.hid (show bitsN (sizeF r) l s (i + 1) = U by rw [HBS.out]; simp)
        clear hns hx hU htb hbi
        go_wp2_with fail
        exact ⟨⟨i + 1, by omega, by simp, by rw [HF.out], HBI.out⟩, by simp [intOf]; omega⟩
      | true =>
        rw [htb] at ebit HBS
        obtain ⟨b1, off1, e1, hb1, h11, h12, hp1⟩ := (HNS.out.belowS (HB.out.trans (hbi.mono HB.out.size))).at hns
        have c1 : wi.cell? ⟨b1, off1 + i * 1, none⟩ = some (.int .i64 (x : Int)) := hp1
        rw [Nat.mul_one] at c1
        have hq : r.cs[x]? = some r.cs[x] := List.getElem?_eq_getElem hgi
        obtain ⟨b2, off2, e2, hb2, h21, h22, hp2⟩ := (HROW.out.belowS (HB.out.trans (hbi.mono HB.out.size))).at hq
        have hsz : sizeF r x = r.cs[x].ln + r.kerf := by unfold sizeF; rw [hq]
        have hsx := hSZ x
        have hxo := (HR.out.cuts _ (List.mem_of_getElem? hq)).1
        generalize r.cs[x] = y at *
        obtain ⟨p0, p1⟩ := hp2
        rw [hsz] at HBS hsx
        have HF := Lib.hid (show bitsN (sizeF r) l s (i + 1) = U + y.ln + r.kerf by rw [HBS.out, if_pos rfl]; omega)
        have ea : IntKind.i64.wrap (U + y.ln) = U + y.ln := by rw [IntKind.wrap_i64]; omega
        have eb : IntKind.i64.wrap (U + y.ln + r.kerf) = U + y.ln + r.kerf := by rw [IntKind.wrap_i64]; omega
        obtain ⟨r0, r1, r2⟩ := rds_cells (r := r) (HKR.out.belowS hbi)
        have hlr := (HKR.out.belowS hbi).lt
        have hx0 : (0 : Int) ≤ (x : Int) := Int.natCast_nonneg _
        have hx1 : (x : Int) < (r.cs.length : Int) := by omega
        have hic : (i : Int) < (c : Int) := by rw [sglI_len, HM.out] at h11; omega
        have HE2 := Lib.hid e2
        rw [e2] at r2
        subst e1
        clear hns hx hU htb hbi hp1 hq hsz hsx hxo e2 h11 h12 h21 h22
        go_upto_region 10 with fail
        go_region
        all_goals (go_wp2_with fail)
        all_goals exact ⟨⟨i + 1, by omega, by simp, by rw [HF.out], HBI.out.drew⟩, by simp [intOf]; omega⟩

/-! ### The bound -/
theorem setN_bd {ws : List Int} (hw : heftB ws) (l : List Nat) (s : Nat) : 0 ≤ setN ws l s ∧ setN ws l s ≤ 1000000 * l.length := bits_bd hw l s l.length
theorem most_bd {r : Rds} {ws : List Int} (hw : heftB ws) (l : List Nat) (n : Nat) : 0 ≤ mostTo r ws l n ∧ mostTo r ws l n ≤ 1000000 * l.length :=
  ⟨most_nn _ _ _ _, most_le (by omega) n (fun s _ _ => (setN_bd hw l s).2)⟩
def lastN (ws : List Int) (l : List Nat) (s : Nat) : Int := if s = 0 then 0 else setN ws l (s - 1)
theorem ent_at {ws : List Int} {i : Nat} (h : i < ws.length) : ws[i]? = some (ent ws i) := by
  unfold ent
  rw [List.getD_eq_getElem?_getD, List.getElem?_eq_getElem h]
  rfl

set_option maxRecDepth 100000 in
set_option maxHeartbeats 16000000 in
theorem refBound_any (r : Rds) (ws : List Int) (sa : Option Addr) (c : Nat) (w : World) (hr : r.ok) (hrow : IsCts w r.ca r.cc r.cs) (hws : IsInts w sa c ws) (hwl : ws.length = r.cs.length) (hh : heftB ws) :
    Calls Try.prog 67 #[.agg #[.int .i64 r.stock, .int .i64 r.kerf, .slice r.ca r.cs.length r.cc], .slice sa ws.length c] w fun e w' => e = .returned (.int .i64 (boundV r ws)) ∧ Below w.heap.size w w' := by
  have k1 := Blk.new w 43 #[.int .i64 r.stock, .int .i64 r.kerf, .slice r.ca r.cs.length r.cc]
  have hb1 : Below w.heap.size w (w.alloc (.cells #[.int .i64 r.stock, .int .i64 r.kerf, .slice r.ca r.cs.length r.cc] 43)) := (Below.refl _ w).alloc (Nat.le_refl _) _
  have hm12 := (sgl_ok hr).1
  have HR := Lib.hid hr
  have HROW := Lib.hid hrow
  have HWS := Lib.hid hws
  have HMH := Lib.hid (most_held hr hh hwl)
  have HFW := Lib.hid (full_weigh hr hwl)
  have HPOS := Lib.hid (held_pos hr hh (by rw [hwl]; exact hr.len))
  have HWL := Lib.hid hwl
  have hgd : ∀ i, i < (sgl r.cs).length → (sgl r.cs).getD i 0 < r.cs.length := fun i hi => getD_sgl i hi
  have HP := Lib.hid (fun W a c' (hb : Below w.heap.size w W) (hi : IsInts W a c' (sglI (sgl r.cs))) => refPats_any r a c' W HR.out (HROW.out.belowS hb) hi)
  have HS := Lib.hid (fun W (hb : Below w.heap.size w W) => refSingle_any r W HR.out (HROW.out.belowS hb))
  clear hr hrow hws hwl
  simp only [sglI_len] at HP HS
  obtain ⟨l, hl⟩ : ∃ l, sgl r.cs = l := ⟨_, rfl⟩
  rw [hl] at hm12 hgd HMH HFW
  simp only [hl] at HP HS
  obtain ⟨m, hm⟩ : ∃ m, l.length = m := ⟨_, rfl⟩
  have HM := Lib.hid hm
  rw [hm] at hm12 hgd HMH HFW
  simp only [hm] at HP HS
  have hN : 2 ^ m ≤ 2 ^ 12 := Nat.pow_le_pow_right (by omega) hm12
  have hN0 : 1 ≤ 2 ^ m := Nat.one_le_two_pow
  obtain ⟨N, hNN⟩ : ∃ N, 2 ^ m = N := ⟨_, rfl⟩
  rw [hNN] at hN hN0 HMH HFW
  simp only [hNN] at HP
  have hN2 : N ≤ 4096 := by simpa using hN
  have hSB := fun s => setN_bd hh l s
  have hMB := fun n => most_bd (r := r) hh l n
  rw [hm] at hSB hMB
  have HSB := Lib.hid hSB
  have HMB := Lib.hid hMB
  have HH := Lib.hid hh
  clear hl hm hN hNN hSB hMB hh
  go_enter Try.func67, Try.ntmps67
  go_upto_region 1 with fail
  generalize w.alloc (.cells #[.int .i64 r.stock, .int .i64 r.kerf, .slice r.ca r.cs.length r.cc] 43) = w1 at *
  have K1 := Lib.hid k1
  have HB1 := Lib.hid hb1
  obtain ⟨r0, r1, r2⟩ := rds_cells (r := r) k1
  have hlr := k1.lt
  clear k1 hb1
  go_wp2_with fail
  refine (HS.out w1 HB1.out).mono ?_
  rintro e w2 ⟨a2, c2, rfl, hi2, hb2⟩
  have K2 := Lib.hid (K1.out.belowS hb2)
  have HB2 := Lib.hid (HB1.out.trans (hb2.mono HB1.out.size))
  have HI2 := Lib.hid hi2
  clear r0 r1 r2 hlr hb2 hi2 HS
  obtain ⟨r0, r1, r2⟩ := rds_cells (r := r) K2.out
  have hlr := K2.out.lt
  go_wp2_with fail
  refine (HP.out w2 a2 c2 HB2.out HI2.out).mono ?_
  rintro e w3 ⟨B, rfl, hB, hk3, hb3⟩
  have HK3 := Lib.hid hk3
  have HB3 := Lib.hid (HB2.out.trans (hb3.mono HB2.out.size))
  have HI3 := Lib.hid (HI2.out.belowS hb3)
  clear r0 r1 r2 hlr hb3 hB hk3 HP
  go_wp2_with fail
  go_loopw [7, 8, 9, 10, 11] (fun s7 s8 s9 _ _ wv => ∃ s : Nat, s ≤ N ∧ s9 = .int .i64 s ∧ s7 = .int .i64 (mostTo r ws l s) ∧ s8 = .int .i64 (lastN ws l s) ∧ Below w3.heap.size w3 wv) (fun _ _ s9 _ _ _ => N - (intOf s9).toNat)
  case atStart => exact ⟨0, Nat.zero_le _, rfl, rfl, rfl, Below.refl _ _⟩
  case round =>
    obtain ⟨s, hs, rfl, rfl, rfl, hb⟩ := hrel
    have HB := Lib.hid hb
    obtain ⟨wo, rfl⟩ : ∃ wo : World, wo = wr := ⟨_, rfl⟩
    have hs0 : (0 : Int) ≤ (s : Int) := Int.natCast_nonneg _
    by_cases hsN : s < N
    rotate_left
    · obtain rfl : s = N := by omega
      have hjj : ¬ (s : Int) < (s : Int) := by omega
      have HLW := Lib.hid (show lastN ws l s = weighM ws (wantL r.cs) by unfold lastN; rw [if_neg (by omega), HFW.out])
      have hls : 0 ≤ lastN ws l s ∧ lastN ws l s ≤ 1000000 * m := by
        unfold lastN
        split
        · omega
        · exact HSB.out _
      have hmb := HMB.out s
      rw [HMH.out] at hmb ⊢
      rw [HLW.out] at hls ⊢
      have HBW := Lib.hid (HB3.out.trans (hb.mono HB3.out.size))
      have HBV := Lib.hid (show boundV r ws = if weighM ws (wantL r.cs) = 0 then 0 else (weighM ws (wantL r.cs) + heldM ws (lvAll r (wantL r.cs)) - 1) / heldM ws (lvAll r (wantL r.cs)) from rfl)
      obtain ⟨V, hV⟩ : ∃ V, weighM ws (wantL r.cs) = V := ⟨_, rfl⟩
      obtain ⟨H, hH⟩ : ∃ H, heldM ws (lvAll r (wantL r.cs)) = H := ⟨_, rfl⟩
      rw [hV, hH] at HBV
      rw [hV] at hls HPOS ⊢
      rw [hH] at hmb HPOS ⊢
      by_cases hV0 : V = 0
      · have z : (V == 0) = true := by simpa using hV0
        have HF := Lib.hid (show boundV r ws = 0 by rw [HBV.out, if_pos hV0])
        clear hV hH hV0 hb hsN hs
        go_wp2_with fail
        go_ret
        exact ⟨by rw [HF.out]; rfl, HBW.out⟩
      · have z : (V == 0) = false := by simpa using hV0
        have hH1 : 1 ≤ H := HPOS.out hV0
        have HF := Lib.hid (show boundV r ws = (V + H - 1) / H by rw [HBV.out, if_neg hV0])
        have ea : IntKind.i64.wrap (V + H) = V + H := by rw [IntKind.wrap_i64]; omega
        have eb : IntKind.i64.wrap (V + H - 1) = V + H - 1 := by rw [IntKind.wrap_i64]; omega
        have hq0 : 0 ≤ (V + H - 1) / H := Int.ediv_nonneg (by omega) (by omega)
        have hq1 : (V + H - 1) / H ≤ V + H - 1 := Int.ediv_le_self _ (by omega)
        have ec : (V + H - 1).tdiv H = (V + H - 1) / H := Int.tdiv_eq_ediv_of_nonneg (by omega)
        obtain ⟨Q, hQ⟩ : ∃ Q, (V + H - 1) / H = Q := ⟨_, rfl⟩
        rw [hQ] at HF hq0 hq1 ec
        have ed : IntKind.i64.wrap Q = Q := by rw [IntKind.wrap_i64]; omega
        have hHz : ¬ H = 0 := by omega
        clear hV hH hV0 hb hsN hs hQ hq0 hq1
        go_wp2_with fail
        go_ret
        exact ⟨by rw [HF.out]; rfl, HBW.out⟩
    have hs1 : (s : Int) < (N : Int) := by omega
    have hsb := HSB.out s
    have hmb := HMB.out s
    have HSN := Lib.hid (show setN ws l s = bitsN (ent ws) l s m by unfold setN; rw [HM.out])
    have HMO := Lib.hid (show mostTo r ws l (s + 1) = if setB r l s = true then (if mostTo r ws l s < setN ws l s then setN ws l s else mostTo r ws l s) else mostTo r ws l s from rfl)
    have HLA := Lib.hid (show lastN ws l (s + 1) = setN ws l s from rfl)
    obtain ⟨M, hM⟩ : ∃ M, mostTo r ws l s = M := ⟨_, rfl⟩
    rw [hM] at HMO hmb ⊢
    generalize lastN ws l s = z0 at *
    clear hb hM
    go_wp2_with fail
    go_loopw [10, 11] (fun s10 s11 wv => ∃ i : Nat, i ≤ m ∧ s11 = .int .i64 i ∧ s10 = .int .i64 (bitsN (ent ws) l s i) ∧ Below wo.heap.size wo wv) (fun _ s11 _ => m - (intOf s11).toNat)
    case atStart => exact ⟨0, Nat.zero_le _, rfl, rfl, Below.refl _ _⟩
    case round =>
      obtain ⟨i, hi, rfl, rfl, hbi⟩ := hrel
      have HBI := Lib.hid hbi
      obtain ⟨wi, rfl⟩ : ∃ wi : World, wi = wr := ⟨_, rfl⟩
      have hi0 : (0 : Int) ≤ (i : Int) := Int.natCast_nonneg _
      have hbd := bits_bd HH.out l s i
      have HBX := Lib.hid (HB.out.trans (hbi.mono HB.out.size))
      by_cases him : i < m
      rotate_left
      · obtain rfl : i = m := by omega
        have hjj : ¬ (i : Int) < (i : Int) := by omega
        rw [← HSN.out]
        obtain ⟨V, hV⟩ : ∃ V, setN ws l s = V := ⟨_, rfl⟩
        rw [hV] at HMO HLA hsb ⊢
        have hk := HK3.out.belowS HBX.out
        have hkc := hk.cell s
        rw [fitArr_get hsN, if_pos hsN] at hkc
        have hkl := hk.lt
        have es : IntKind.i64.wrap ((s : Int) + 1) = ((s + 1 : Nat) : Int) := by rw [IntKind.wrap_i64]; omega
        have HLB := Lib.hid HLA.out
        clear him hi hbi hV hk
        cases hb2 : setB r l s with
        | false =>
          rw [hb2] at hkc HMO
          have HF := Lib.hid (show mostTo r ws l (s + 1) = M by rw [HMO.out]; simp)
          clear hb2
          go_wp2_with fail
          exact ⟨⟨s + 1, by omega, by simp, by rw [HF.out], by rw [HLB.out], HBX.out⟩, by simp [intOf]; omega⟩
        | true =>
          rw [hb2] at hkc HMO
          have HF := Lib.hid (show mostTo r ws l (s + 1) = if M < V then V else M by rw [HMO.out, if_pos rfl])
          clear hb2
          by_cases hlt : M < V
          · rw [if_pos hlt] at HF
            go_wp2_with fail
            exact ⟨⟨s + 1, by omega, by simp, by rw [HF.out], by rw [HLB.out], HBX.out⟩, by simp [intOf]; omega⟩
          · rw [if_neg hlt] at HF
            go_wp2_with fail
            exact ⟨⟨s + 1, by omega, by simp, by rw [HF.out], by rw [HLB.out], HBX.out⟩, by simp [intOf]; omega⟩
      have hi1 : (i : Int) < (m : Int) := by omega
      have hmin2 : min i 64 = i := by omega
      have hit : (i : Int).toNat = i := by omega
      have hin : ¬ (i : Int) < 0 := by omega
      have hp62 : s < 2 ^ 62 := by
        have : (4096 : Nat) < 2 ^ 62 := by decide
        omega
      have ebit : (bits .and .i64 ((s : Int) / 2 ^ i) 1 == 1) = s.testBit i := by
        rw [bit_test s i hp62]
        by_cases h : s.testBit i = true
        · rw [if_pos h, h]; rfl
        · rw [if_neg h, Bool.eq_false_iff.2 h]; rfl
      have HBS := Lib.hid (show bitsN (ent ws) l s (i + 1) = bitsN (ent ws) l s i + if s.testBit i = true then ent ws (l.getD i 0) else 0 from rfl)
      have hgi := hgd i him
      have hns := sglI_at (l := l) (i := i) (by rw [HM.out]; exact him)
      obtain ⟨x, hx⟩ : ∃ x, l.getD i 0 = x := ⟨_, rfl⟩
      rw [hx] at HBS hgi hns
      obtain ⟨U, hU⟩ : ∃ U, bitsN (ent ws) l s i = U := ⟨_, rfl⟩
      rw [hU] at HBS hbd ⊢
      have ei : IntKind.i64.wrap ((i : Int) + 1) = ((i + 1 : Nat) : Int) := by rw [IntKind.wrap_i64]; omega
      cases htb : s.testBit i with
      | false =>
        rw [htb] at ebit HBS
        have HF := Lib.hid (show bitsN (ent ws) l s (i + 1) = U by rw [HBS.out]; simp)
        clear hns hx hU htb hbi
        go_wp2_with fail
        exact ⟨⟨i + 1, by omega, by simp, by rw [HF.out], HBI.out⟩, by simp [intOf]; omega⟩
      | true =>
        rw [htb] at ebit HBS
        obtain ⟨b1, off1, e1, hb1, h11, h12, hp1⟩ := (HI3.out.belowS HBX.out).at hns
        have c1 : wi.cell? ⟨b1, off1 + i * 1, none⟩ = some (.int .i64 (x : Int)) := hp1
        rw [Nat.mul_one] at c1
        have hq : ws[x]? = some (ent ws x) := ent_at (by rw [HWL.out]; exact hgi)
        obtain ⟨b2, off2, e2, hb2, h21, h22, hp2⟩ := (HWS.out.belowS (HB3.out.trans (HBX.out.mono HB3.out.size))).at hq
        have p0 : wi.cell? ⟨b2, off2 + x * 1, none⟩ = some (.int .i64 (ent ws x)) := hp2
        rw [Nat.mul_one] at p0
        have hxo := HH.out x
        obtain ⟨y, hy⟩ : ∃ y, ent ws x = y := ⟨_, rfl⟩
        rw [hy] at HBS p0 hxo
        have HF := Lib.hid (show bitsN (ent ws) l s (i + 1) = U + y by rw [HBS.out, if_pos rfl])
        have ea : IntKind.i64.wrap (U + y) = U + y := by rw [IntKind.wrap_i64]; omega
        have hx0 : (0 : Int) ≤ (x : Int) := Int.natCast_nonneg _
        have hx1 : (x : Int) < (ws.length : Int) := by rw [HWL.out]; omega
        have hxc : (x : Int) < (c : Int) := by omega
        have hic : (i : Int) < (c2 : Int) := by rw [sglI_len, HM.out] at h11; omega
        subst e1
        subst e2
        clear hns hx hU htb hbi hp1 hq hp2 hy hxo h11 h12 h21 h22
        go_wp2_with fail
        exact ⟨⟨i + 1, by omega, by simp, by rw [HF.out], HBI.out⟩, by simp [intOf]; omega⟩
end Go.Proofs.Ytmcmhgjlpffcnaa
