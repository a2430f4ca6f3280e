/- Whether weights may be (areWeights); Bound and Lower of the program, with the errors of the rods and the weights. No condition but the bounds of what is given. -/
import Derived.Test.YtmcmhgjlpffcnaaRN
set_option linter.unusedSimpArgs false
namespace Go.Proofs.Ytmcmhgjlpffcnaa
open Go.RowKit

theorem badWeight_any (n : Int) (w : World) : Calls Try.prog 90 #[.int .i64 n] w fun e w' => e = .returned (.bool (!isFromB n 0 1000000)) ∧ w' = w := by
  go_enter Try.func90, Try.ntmps90
  go_wp2_with fail
  refine (isFrom_any _ _ _ _).mono ?_
  rintro e w' ⟨rfl, rfl⟩
  go_wp2_with fail
  go_ret
  exact ⟨rfl, rfl⟩
def idxW (l : List Int) : Int := match l.findIdx? (fun n => !isFromB n 0 1000000) with | some k => k | none => -1
theorem idxW_pos (l : List Int) : decide (0 ≤ idxW l) = (l.any fun n => !isFromB n 0 1000000) := by
  unfold idxW
  cases h : l.findIdx? (fun n => !isFromB n 0 1000000) with
  | none =>
    have : (l.any fun n => !isFromB n 0 1000000) = false := by
      rw [List.any_eq_false]
      intro x hx
      have := List.findIdx?_eq_none_iff.1 h x hx
      simpa using this
    rw [this]
    decide
  | some k =>
    have : (l.any fun n => !isFromB n 0 1000000) = true := by
      rw [List.findIdx?_eq_some_iff_getElem] at h
      obtain ⟨hk, h1, _⟩ := h
      rw [List.any_eq_true]
      exact ⟨_, List.getElem_mem hk, h1⟩
    rw [this]
    simp

set_option maxRecDepth 100000 in
set_option maxHeartbeats 1000000 in
theorem indexW_any (sa : Option Addr) (cap : Nat) (l : List Int) (w : World) (hs : IsInts w sa cap l) :
    Calls Try.prog 104 #[.slice sa l.length cap, .func (.func 90) #[] #[]] w fun e w' => e = .returned (.int .i64 (idxW l)) ∧ Below w.heap.size w w' := by
  have hll := ints_le hs
  have HR := Lib.hid hs
  clear hs
  go_enter Try.func104, Try.ntmps104
  go_wp2_with fail
  go_loopw [8, 5] (fun i _ wr => ∃ j : Nat, j ≤ l.length ∧ i = .int .i64 j ∧ (∀ f ∈ l.take j, (!isFromB f 0 1000000) = false) ∧ Below w.heap.size w wr) (fun i _ _ => l.length - (intOf i).toNat)
  case atStart => exact ⟨0, Nat.zero_le _, rfl, by simp, Below.refl _ _⟩
  case round =>
    obtain ⟨j, hj, rfl, hno, g2⟩ := hrel
    have hj0 : (0 : Int) ≤ (j : Int) := Int.natCast_nonneg _
    by_cases hlj : j < l.length
    · have hq : l[j]? = some l[j] := List.getElem?_eq_getElem hlj
      obtain ⟨b, off, e, hbl, hc1, hc2, hp⟩ := (HR.out.belowS g2).at hq
      subst e
      have c0 : wr.cell? ⟨b, off + j * 1, none⟩ = some (.int .i64 l[j]) := hp
      rw [Nat.mul_one] at c0
      have htk : l.take (j + 1) = l.take j ++ [l[j]] := by rw [List.take_add_one, hq]; rfl
      generalize l[j] = q at *
      have HQ := Lib.hid hq
      have HT := Lib.hid htk
      have HN := Lib.hid hno
      have HG := Lib.hid g2
      have hj1 : (j : Int) < (l.length : Int) := by omega
      clear hq htk hno hp g2
      go_wp2_with fail
      refine (badWeight_any q _).mono ?_
      rintro e w1 ⟨rfl, rfl⟩
      cases hst : (!isFromB q 0 1000000) with
      | true =>
        have hv : idxW l = j := by rw [idxW, findIdx_at l _ j q HQ.out hst HN.out]
        have HV := Lib.hid hv
        clear hv
        go_wp2_with fail
        go_ret
        exact ⟨by rw [HV.out]; rfl, HG.out⟩
      | false =>
        have HS := Lib.hid hst
        clear hst
        go_wp2_with fail
        refine ⟨⟨j + 1, by omega, by simp, ?_, HG.out⟩, by simp [intOf]; omega⟩
        rw [HT.out]
        intro f hf
        rcases List.mem_append.1 hf with hf | hf
        · exact HN.out f hf
        · obtain rfl := List.mem_singleton.1 hf
          exact HS.out
    · obtain rfl : j = l.length := by omega
      rw [List.take_of_length_le (Nat.le_refl _)] at hno
      have hjj : ¬ (l.length : Int) < (l.length : Int) := by omega
      have HV := Lib.hid (show idxW l = -1 by
        rw [idxW, List.findIdx?_eq_none_iff.2 (fun x hx => by rw [hno x hx])])
      have HG := Lib.hid g2
      clear hno g2 hlj hj
      go_wp2_with fail
      go_ret
      exact ⟨by rw [HV.out]; try rfl, HG.out⟩

theorem containsW_any (sa : Option Addr) (cap : Nat) (l : List Int) (w : World) (hs : IsInts w sa cap l) :
    Calls Try.prog 89 #[.slice sa l.length cap, .func (.func 90) #[] #[]] w fun e w' => e = .returned (.bool (l.any fun n => !isFromB n 0 1000000)) ∧ Below w.heap.size w w' := by
  have HX := Lib.hid (indexW_any sa cap l w hs)
  have HP := Lib.hid (idxW_pos l)
  clear hs
  go_enter Try.func89, Try.ntmps89
  go_wp2_with fail
  refine HX.out.mono ?_
  rintro e w1 ⟨rfl, hb⟩
  have HB := Lib.hid hb
  obtain ⟨k, hk⟩ : ∃ k, idxW l = k := ⟨_, rfl⟩
  rw [hk] at HP ⊢
  clear hb hk HX
  go_wp2_with fail
  go_ret
  exact ⟨by rw [← HP.out]; rfl, HB.out⟩
def weightsB (r : Rds) (ws : List Int) : Bool := decide (ws.length = r.cs.length) && !(ws.any fun n => !isFromB n 0 1000000)
theorem weightsB_heft {r : Rds} {ws : List Int} (h : weightsB r ws = true) : ws.length = r.cs.length ∧ heftB ws := by
  unfold weightsB at h
  simp only [Bool.and_eq_true, decide_eq_true_eq, Bool.not_eq_true'] at h
  obtain ⟨h1, h2⟩ := h
  refine ⟨h1, fun i => ?_⟩
  unfold ent
  rw [List.getD_eq_getElem?_getD]
  cases hq : ws[i]? with
  | none => simp
  | some x =>
    have h3 := List.any_eq_false.1 h2 x (List.mem_of_getElem? hq)
    simp only [Bool.not_eq_true', Bool.not_eq_false] at h3
    have h4 := isFromB_iff.1 h3
    simpa using h4

set_option maxRecDepth 100000 in
set_option maxHeartbeats 4000000 in
theorem areWeights_any (r : Rds) (sa : Option Addr) (c : Nat) (ws : List Int) (w : World) (hws : IsInts w sa c ws) :
    Calls Try.prog 65 #[.agg #[.int .i64 r.stock, .int .i64 r.kerf, .slice r.ca r.cs.length r.cc], .slice sa ws.length c] w fun e w' => e = .returned (.bool (weightsB r ws)) ∧ Below w.heap.size w w' := by
  have k1 := Blk.new w 43 #[.int .i64 r.stock, .int .i64 r.kerf, .slice r.ca r.cs.length r.cc]
  have hb1 : Below w.heap.size w (w.alloc (.cells #[.int .i64 r.stock, .int .i64 r.kerf, .slice r.ca r.cs.length r.cc] 43)) := (Below.refl _ w).alloc (Nat.le_refl _) _
  have hll := ints_le hws
  have HX := Lib.hid (fun W (h : Below w.heap.size w W) => containsW_any sa c ws W (hws.belowS h))
  clear hws
  go_enter Try.func65, Try.ntmps65
  go_upto_region 1 with fail
  generalize w.alloc (.cells #[.int .i64 r.stock, .int .i64 r.kerf, .slice r.ca r.cs.length r.cc] 43) = w1 at *
  have K1 := Lib.hid k1
  have HB1 := Lib.hid hb1
  obtain ⟨r0, r1, r2⟩ := rds_cells (r := r) k1
  have hlr := k1.lt
  clear k1 hb1
  obtain ⟨bad, hbad⟩ : ∃ bad, (ws.any fun n => !isFromB n 0 1000000) = bad := ⟨_, rfl⟩
  simp only [hbad] at HX
  have HBAD := Lib.hid hbad
  clear hbad
  by_cases hq : ws.length = r.cs.length
  rotate_left
  · have z : ((ws.length : Int) == (r.cs.length : Int)) = false := by
      rw [beq_eq_false_iff_ne]
      omega
    have HV := Lib.hid (show weightsB r ws = false by simp [weightsB, hq])
    clear hq HX
    go_wp2_with fail
    go_ret
    exact ⟨by rw [HV.out]; try rfl, HB1.out⟩
  have z : ((ws.length : Int) == (r.cs.length : Int)) = true := by
    rw [beq_iff_eq]
    omega
  have HV := Lib.hid (show weightsB r ws = !bad by simp only [weightsB, hq, HBAD.out]; simp)
  clear hq
  go_wp2_with fail
  refine (HX.out w1 HB1.out).mono ?_
  rintro e w2 ⟨rfl, hb2⟩
  have HB2 := Lib.hid (HB1.out.trans (hb2.mono HB1.out.size))
  clear r0 r1 r2 hlr hb2 HX
  go_wp2_with fail
  go_ret
  exact ⟨by rw [HV.out]; try rfl, HB2.out⟩

/-! ### Bound and Lower -/
def boundE (r : Rds) (ws : List Int) : Int := if rodsE r ≠ 0 then rodsE r else if weightsB r ws = false then 1 else 0
def lowV (r : Rds) : Int := endI (rodsE r) (lowerV r)
def lowW (r : Rds) : List Int := if rodsE r = 0 then lowerW r else []
def LowSaid (r : Rds) (w : World) (e : Ending) (w' : World) : Prop := ∃ a c, e = .returned (.tuple #[.int .i64 (lowV r), .slice a (lowW r).length c, .int .i64 (rodsE r)]) ∧ IsInts w' a c (lowW r) ∧ Below w.heap.size w w'

set_option maxRecDepth 100000 in
set_option maxHeartbeats 4000000 in
theorem boundPub_any (r : Rds) (sa : Option Addr) (c : Nat) (ws : List Int) (w : World) (hrow : IsCts w r.ca r.cc r.cs) (hbig : r.cs.length ≤ 1000000000) (hws : IsInts w sa c ws) :
    Calls Try.prog 31 #[.agg #[.int .i64 r.stock, .int .i64 r.kerf, .slice r.ca r.cs.length r.cc], .slice sa ws.length c] w fun e w' => e = .returned (.tuple #[.int .i64 (endI (boundE r ws) (boundV r ws)), .int .i64 (boundE r ws)]) ∧ Below w.heap.size w w' := by
  have k1 := Blk.new w 43 #[.int .i64 r.stock, .int .i64 r.kerf, .slice r.ca r.cs.length r.cc]
  have hb1 : Below w.heap.size w (w.alloc (.cells #[.int .i64 r.stock, .int .i64 r.kerf, .slice r.ca r.cs.length r.cc] 43)) := (Below.refl _ w).alloc (Nat.le_refl _) _
  have HROW := Lib.hid hrow
  have HWS := Lib.hid hws
  clear hrow hws
  go_enter Try.func31, Try.ntmps31
  go_upto_region 1 with fail
  generalize w.alloc (.cells #[.int .i64 r.stock, .int .i64 r.kerf, .slice r.ca r.cs.length r.cc] 43) = w1 at *
  have K1 := Lib.hid k1
  have HB1 := Lib.hid hb1
  obtain ⟨r0, r1, r2⟩ := rds_cells (r := r) k1
  have hlr := k1.lt
  clear k1 hb1
  go_wp2_with fail
  refine (checkRods_any r _ (HROW.out.belowS HB1.out) hbig).mono ?_
  rintro e w2 ⟨rfl, hb2⟩
  have K2 := Lib.hid (K1.out.belowS hb2)
  have HB2 := Lib.hid (HB1.out.trans (hb2.mono HB1.out.size))
  clear r0 r1 r2 hlr hb2
  obtain ⟨r0, r1, r2⟩ := rds_cells (r := r) K2.out
  have hlr := K2.out.lt
  by_cases hE : rodsE r = 0
  rotate_left
  · have q : (rodsE r != 0) = true := by simpa using hE
    have HV := Lib.hid (show boundE r ws = rodsE r by unfold boundE; rw [if_pos hE])
    have HZ := Lib.hid (show endI (rodsE r) (boundV r ws) = 0 by unfold endI; rw [if_neg hE])
    obtain ⟨eR, hR⟩ : ∃ eR, rodsE r = eR := ⟨_, rfl⟩
    rw [hR] at HV HZ q ⊢
    clear hR hE
    go_wp2_with fail
    exact bodyPost_ret (v := .tuple #[.int .i64 0, .int .i64 eR]) (by simp [results, Try.results31, go_sem]) rfl ⟨by rw [HV.out, HZ.out], HB2.out⟩
  have HR := Lib.hid (rodsE_ok hE)
  have HE := Lib.hid hE
  rw [hE]
  clear hE
  have hl8 := HR.out.len
  go_wp2_with fail
  refine (areWeights_any r sa c ws _ (HWS.out.belowS HB2.out)).mono ?_
  rintro e w3 ⟨rfl, hb3⟩
  have K3 := Lib.hid (K2.out.belowS hb3)
  have HB3 := Lib.hid (HB2.out.trans (hb3.mono HB2.out.size))
  clear r0 r1 r2 hlr hb3
  obtain ⟨r0, r1, r2⟩ := rds_cells (r := r) K3.out
  have hlr := K3.out.lt
  cases hb : weightsB r ws with
  | false =>
    have HV := Lib.hid (show boundE r ws = 1 by unfold boundE; rw [if_neg (by rw [HE.out]; simp), if_pos hb])
    clear hb
    go_wp2_with fail
    exact bodyPost_ret (v := .tuple #[.int .i64 0, .int .i64 1]) (by simp [results, Try.results31, go_sem]) rfl ⟨by rw [HV.out]; rfl, HB3.out⟩
  | true =>
    have HV := Lib.hid (show boundE r ws = 0 by unfold boundE; rw [if_neg (by rw [HE.out]; simp), if_neg (by rw [hb]; simp)])
    have HH := Lib.hid (weightsB_heft hb)
    clear hb
    go_wp2_with fail
    refine (bound_any r ws sa c _ HR.out (HROW.out.belowS HB3.out) (HWS.out.belowS HB3.out) (by rw [HH.out.1]; exact hl8) HH.out.2).mono ?_
    rintro e w4 ⟨rfl, hb4⟩
    have HB4 := Lib.hid (HB3.out.trans (hb4.mono HB3.out.size))
    obtain ⟨V, hV⟩ : ∃ V, boundV r ws = V := ⟨_, rfl⟩
    rw [hV]
    have HVV := Lib.hid hV
    clear r0 r1 r2 hlr hb4 hV
    go_wp2_with fail
    exact bodyPost_ret (v := .tuple #[.int .i64 V, .int .i64 0]) (by simp [results, Try.results31, go_sem]) rfl ⟨by rw [HV.out, ← HVV.out]; rfl, HB4.out⟩

set_option maxRecDepth 100000 in
set_option maxHeartbeats 4000000 in
theorem lowerPub_any (r : Rds) (w : World) (hrow : IsCts w r.ca r.cc r.cs) (hbig : r.cs.length ≤ 1000000000) :
    Calls Try.prog 35 #[.agg #[.int .i64 r.stock, .int .i64 r.kerf, .slice r.ca r.cs.length r.cc]] w (LowSaid r w) := by
  by_cases hE : rodsE r = 0
  · refine (lower_any r w hE hrow).mono ?_
    rintro e w' ⟨B, rfl, hB, hi, hb⟩
    refine ⟨some ⟨B, 0, none⟩, r.cs.length, ?_, ?_, hb⟩
    · unfold lowV lowW; rw [hE, if_pos rfl]; rfl
    · unfold lowW; rw [if_pos hE]; exact hi
  have k1 := Blk.new w 43 #[.int .i64 r.stock, .int .i64 r.kerf, .slice r.ca r.cs.length r.cc]
  have hb1 : Below w.heap.size w (w.alloc (.cells #[.int .i64 r.stock, .int .i64 r.kerf, .slice r.ca r.cs.length r.cc] 43)) := (Below.refl _ w).alloc (Nat.le_refl _) _
  have HROW := Lib.hid hrow
  have HE := Lib.hid hE
  have HV := Lib.hid (show lowV r = 0 ∧ lowW r = [] by unfold lowV lowW endI; rw [if_neg hE, if_neg hE]; exact ⟨rfl, rfl⟩)
  clear hrow hE
  go_enter Try.func35, Try.ntmps35
  go_upto_region 1 with fail
  generalize w.alloc (.cells #[.int .i64 r.stock, .int .i64 r.kerf, .slice r.ca r.cs.length r.cc] 43) = w1 at *
  have K1 := Lib.hid k1
  have HB1 := Lib.hid hb1
  obtain ⟨r0, r1, r2⟩ := rds_cells (r := r) k1
  have hlr := k1.lt
  clear k1 hb1
  go_wp2_with fail
  refine (checkRods_any r _ (HROW.out.belowS HB1.out) hbig).mono ?_
  rintro e w2 ⟨rfl, hb2⟩
  have HB2 := Lib.hid (HB1.out.trans (hb2.mono HB1.out.size))
  have q : (rodsE r != 0) = true := by simpa using HE.out
  obtain ⟨eR, hR⟩ : ∃ eR, rodsE r = eR := ⟨_, rfl⟩
  have HRR := Lib.hid hR
  rw [hR] at q ⊢
  clear hR r0 r1 r2 hlr hb2
  go_wp2_with fail
  refine bodyPost_ret (v := .tuple #[.int .i64 0, .slice none 0 0, .int .i64 eR]) (by simp [results, Try.results35, go_sem]) rfl ?_
  exact ⟨none, 0, by rw [HV.out.1, HV.out.2, HRR.out]; rfl, by rw [HV.out.2]; exact .inl rfl, HB2.out⟩
end Go.Proofs.Ytmcmhgjlpffcnaa
