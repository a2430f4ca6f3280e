/- Rods and their cuts in memory; what is required of rods. No condition but the bounds of what is given. -/
import Derived.Test.YtmcmhgjlpffcnaaPK
set_option linter.unusedSimpArgs false
namespace Go.Proofs.Ytmcmhgjlpffcnaa
open Go.RowKit

structure Cut where
  ln : Int
  mn : Int
def CutAt (w : World) (b o : Nat) (x : Cut) : Prop := w.cell? ⟨b, o, none⟩ = some (.int .i64 x.ln) ∧ w.cell? ⟨b, o + 1, none⟩ = some (.int .i64 x.mn)
def IsCts (w : World) (a : Option Addr) (c : Nat) (l : List Cut) : Prop := IsRow 2 CutAt w a c l
theorem CutAt.keep {w w' : World} (hb : ∀ b o, b < w.heap.size → w'.cell? ⟨b, o, none⟩ = w.cell? ⟨b, o, none⟩) (b o : Nat) (x : Cut) (hl : b < w.heap.size) (h : CutAt w b o x) : CutAt w' b o x := ⟨(hb _ _ hl).trans h.1, (hb _ _ hl).trans h.2⟩
theorem IsCts.belowS {w w' : World} {a : Option Addr} {c : Nat} {l : List Cut} (h : IsCts w a c l) (hb : Below w.heap.size w w') : IsCts w' a c l := IsRow.below h hb.size (CutAt.keep (bcell hb).1)
/-- Rods: how long they are, what a saw takes, the cuts that are wanted. -/
structure Rds where
  stock : Int
  kerf : Int
  ca : Option Addr
  cc : Nat
  cs : List Cut
theorem rds_cells {W : World} {B : Nat} {r : Rds} {t : TypeId} (h : Blk W B #[.int .i64 r.stock, .int .i64 r.kerf, .slice r.ca r.cs.length r.cc] t) :
    W.cell? ⟨B, 0, none⟩ = some (.int .i64 r.stock) ∧ W.cell? ⟨B, 1, none⟩ = some (.int .i64 r.kerf) ∧ W.cell? ⟨B, 2, none⟩ = some (.slice r.ca r.cs.length r.cc) := ⟨h.cell 0, h.cell 1, h.cell 2⟩
theorem cut_cells {W : World} {B : Nat} {x : Cut} {t : TypeId} (h : Blk W B #[.int .i64 x.ln, .int .i64 x.mn] t) : W.cell? ⟨B, 0, none⟩ = some (.int .i64 x.ln) ∧ W.cell? ⟨B, 1, none⟩ = some (.int .i64 x.mn) := ⟨h.cell 0, h.cell 1⟩
def rodB (r : Rds) : Bool := isFromB r.stock 1 100000 && isFromB r.kerf 0 100000
def cutB (x : Cut) : Bool := isFromB x.ln 1 100000 && isFromB x.mn 0 12
def manyM (l : List Cut) : Int := (l.map (fun x => x.mn)).sum
/-- The first error of rods, or 0. -/
def rodsE (r : Rds) : Int := if rodB r = false then 1 else if ¬ r.cs.length ≤ 8 then 3 else if r.cs.all cutB = false then 1 else if ¬ manyM r.cs ≤ 12 then 3 else if (r.cs.all fun x => decide (x.ln ≤ r.stock)) = false then 9 else 0
structure Rds.ok (r : Rds) : Prop where
  stock : 1 ≤ r.stock ∧ r.stock ≤ 100000
  kerf : 0 ≤ r.kerf ∧ r.kerf ≤ 100000
  len : r.cs.length ≤ 8
  cuts : ∀ x ∈ r.cs, (1 ≤ x.ln ∧ x.ln ≤ r.stock) ∧ 0 ≤ x.mn ∧ x.mn ≤ 12
  many : manyM r.cs ≤ 12
theorem rodsE_ok {r : Rds} (h : rodsE r = 0) : r.ok := by
  unfold rodsE at h
  split at h
  · omega
  rename_i h1
  split at h
  · omega
  rename_i h2
  split at h
  · omega
  rename_i h3
  split at h
  · omega
  rename_i h4
  split at h
  · omega
  rename_i h5
  simp only [rodB, Bool.not_eq_false, Bool.and_eq_true, isFromB_iff] at h1
  refine ⟨h1.1, h1.2, by omega, fun x hx => ?_, by omega⟩
  have a := List.all_eq_true.1 (by simpa using h3) x hx
  have b := (show ∀ x ∈ r.cs, x.ln ≤ r.stock by simpa using h5) x hx
  simp only [cutB, Bool.and_eq_true, isFromB_iff] at a
  exact ⟨⟨a.1.1, b⟩, a.2⟩
theorem sum_bd {l : List Cut} (h : ∀ x ∈ l, cutB x = true) : 0 ≤ manyM l ∧ manyM l ≤ 12 * l.length := by
  induction l with
  | nil => simp [manyM]
  | cons x l ih =>
    have h1 := ih (fun y hy => h y (by simp [hy]))
    have h2 := h x (by simp)
    simp only [cutB, Bool.and_eq_true, isFromB_iff] at h2
    simp only [manyM, List.map_cons, List.sum_cons, List.length_cons] at h1 ⊢
    omega
theorem many_snoc (l : List Cut) (x : Cut) : manyM (l ++ [x]) = manyM l + x.mn := by simp [manyM]

set_option maxRecDepth 100000 in
set_option maxHeartbeats 16000000 in
theorem requireRods_any (r : Rds) (w : World) (hrow : IsCts w r.ca r.cc r.cs) (hbig : r.cs.length ≤ 1000000000) :
    Calls Try.prog 69 #[.agg #[.int .i64 r.stock, .int .i64 r.kerf, .slice r.ca r.cs.length r.cc]] w (ReqSaid (rodsE r) w) := by
  have k1 := Blk.new w 43 #[.int .i64 r.stock, .int .i64 r.kerf, .slice r.ca r.cs.length r.cc]
  have hb1 : Below w.heap.size w (w.alloc (.cells #[.int .i64 r.stock, .int .i64 r.kerf, .slice r.ca r.cs.length r.cc] 43)) := (Below.refl _ w).alloc (Nat.le_refl _) _
  have hrow1 := hrow.belowS hb1
  clear hrow
  go_enter Try.func69, Try.ntmps69
  go_upto_region 1 with fail
  generalize w.alloc (.cells #[.int .i64 r.stock, .int .i64 r.kerf, .slice r.ca r.cs.length r.cc] 43) = w1 at *
  have K1 := Lib.hid k1
  have HB1 := Lib.hid hb1
  have HROW := Lib.hid hrow1
  obtain ⟨r0, r1, r2⟩ := rds_cells (r := r) k1
  have hlr := k1.lt
  clear k1 hb1 hrow1
  go_wp2_with fail
  refine (isFrom_any _ _ _ _).mono ?_
  rintro e w' ⟨rfl, rfl⟩
  cases h1 : isFromB r.stock 1 100000 with
  | false =>
    have HV := Lib.hid (show rodsE r = 1 by simp [rodsE, rodB, h1])
    clear h1
    go_wp2_with fail
    refine (require_no 1 _).mono ?_
    rintro e w' ⟨rfl, rfl⟩
    exact ⟨rfl, ReqSaid.no HV.out (by decide) HB1.out⟩
  | true =>
  have H1 := Lib.hid h1
  clear h1
  go_wp2_with fail
  refine (isFrom_any _ _ _ _).mono ?_
  rintro e w' ⟨rfl, rfl⟩
  cases h2 : isFromB r.kerf 0 100000 with
  | false =>
    have HV := Lib.hid (show rodsE r = 1 by simp [rodsE, rodB, h2])
    clear h2
    go_wp2_with fail
    refine (require_no 1 _).mono ?_
    rintro e w' ⟨rfl, rfl⟩
    exact ⟨rfl, ReqSaid.no HV.out (by decide) HB1.out⟩
  | true =>
  have HRB := Lib.hid (show rodB r = true by simp [rodB, H1.out, h2])
  clear h2
  go_wp2_with fail
  refine (require_yes 1 _).mono ?_
  rintro e w' ⟨rfl, rfl⟩
  by_cases hl8 : r.cs.length ≤ 8
  rotate_left
  · have HV := Lib.hid (show rodsE r = 3 by simp [rodsE, HRB.out, hl8])
    have hd : decide ((r.cs.length : Int) ≤ 8) = false := by simp; omega
    clear hl8
    go_wp2_with fail
    refine (require_no 3 _).mono ?_
    rintro e w' ⟨rfl, rfl⟩
    exact ⟨rfl, ReqSaid.no HV.out (by decide) HB1.out⟩
  have hd : decide ((r.cs.length : Int) ≤ 8) = true := by simp; omega
  have HL := Lib.hid hl8
  clear hl8 hbig
  go_wp2_with fail
  refine (require_yes 3 _).mono ?_
  rintro e w' ⟨rfl, rfl⟩
  go_wp2_with fail
  clear hd
  go_loopw [24, 2, 4] (fun i s _ wr => ∃ j : Nat, j ≤ r.cs.length ∧ i = .int .i64 j ∧ s = .int .i64 (manyM (r.cs.take j)) ∧ (∀ x ∈ r.cs.take j, cutB x = true) ∧ Below w'.heap.size w' wr) (fun i _ _ _ => r.cs.length - (intOf i).toNat)
  case atStart => exact ⟨0, Nat.zero_le _, rfl, by simp [manyM], by simp, Below.refl _ _⟩
  case round =>
    obtain ⟨j, hj, rfl, rfl, hno, g2⟩ := hrel
    have KW := Lib.hid (K1.out.belowS g2)
    have HBW := Lib.hid (HB1.out.trans (g2.mono HB1.out.size))
    have HNO := Lib.hid hno
    have G2 := Lib.hid g2
    clear hno r0 r1 r2 hlr
    by_cases hlj : j < r.cs.length
    · have hq : r.cs[j]? = some r.cs[j] := List.getElem?_eq_getElem hlj
      have hmem := List.getElem_mem hlj
      have htk : r.cs.take (j + 1) = r.cs.take j ++ [r.cs[j]] := by rw [List.take_add_one, hq]; rfl
      obtain ⟨b, off, e, hbl, hc1, hc2, hp⟩ := (HROW.out.belowS g2).at hq
      have hbd := sum_bd HNO.out
      rw [List.length_take] at hbd
      generalize r.cs[j] = x at *
      obtain ⟨c0, c1⟩ := hp
      have HQ := Lib.hid (And.intro hq hmem)
      have HT := Lib.hid htk
      rw [e]
      have hj0 : (0 : Int) ≤ (j : Int) := Int.natCast_nonneg _
      have hj1 : (j : Int) < (r.cs.length : Int) := by omega
      generalize hmm : manyM (r.cs.take j) = M at *
      have HMM := Lib.hid hmm
      have hM0 : 0 ≤ M := by omega
      have hM1 : M ≤ 96 := by have := HL.out; omega
      clear hq hmem htk g2 e hmm hbd
      go_wp2_with fail
      have kX := Blk.new wr 81 #[.int .i64 x.ln, .int .i64 x.mn]
      have hbx : Below wr.heap.size wr (wr.alloc (.cells #[.int .i64 x.ln, .int .i64 x.mn] 81)) := (Below.refl _ wr).alloc (Nat.le_refl _) _
      have hbw := HBW.out.trans (hbx.mono HBW.out.size)
      generalize wr.alloc (.cells #[.int .i64 x.ln, .int .i64 x.mn] 81) = wx at *
      have HBX := Lib.hid (G2.out.trans (hbx.mono G2.out.size))
      have HB2 := Lib.hid hbw
      obtain ⟨x0, x1⟩ := cut_cells (x := x) kX
      have lX := kX.lt
      clear kX hbx hbw c0 c1
      refine (isFrom_any _ _ _ _).mono ?_
      rintro e wy ⟨rfl, rfl⟩
      have hall : cutB x = false → rodsE r = 1 := fun h => by
        have : r.cs.all cutB = false := by
          rw [List.all_eq_false]
          exact ⟨x, HQ.out.2, by simp [h]⟩
        simp [rodsE, HRB.out, HL.out, this]
      have HALL := Lib.hid hall
      clear hall
      cases h1 : isFromB x.ln 1 100000 with
      | false =>
        have HV := Lib.hid (HALL.out (by simp [cutB, h1]))
        clear h1
        go_wp2_with fail
        refine (require_no 1 _).mono ?_
        rintro e wy ⟨rfl, rfl⟩
        exact ⟨rfl, ReqSaid.no HV.out (by decide) HB2.out⟩
      | true =>
      have H1 := Lib.hid h1
      clear h1
      go_wp2_with fail
      refine (isFrom_any _ _ _ _).mono ?_
      rintro e wy ⟨rfl, rfl⟩
      cases h2 : isFromB x.mn 0 12 with
      | false =>
        have HV := Lib.hid (HALL.out (by simp [cutB, h2]))
        clear h2
        go_wp2_with fail
        refine (require_no 1 _).mono ?_
        rintro e wy ⟨rfl, rfl⟩
        exact ⟨rfl, ReqSaid.no HV.out (by decide) HB2.out⟩
      | true =>
      have HCB := Lib.hid (show cutB x = true by simp [cutB, H1.out, h2])
      obtain ⟨n0, n1⟩ := isFromB_iff.1 h2
      clear h2
      go_wp2_with fail
      refine (require_yes 1 _).mono ?_
      rintro e wy ⟨rfl, rfl⟩
      go_wp2_with fail
      refine ⟨⟨j + 1, by omega, by simp, ?_, ?_, HBX.out⟩, by simp [intOf]; omega⟩
      · rw [HT.out, many_snoc, HMM.out]
      · rw [HT.out]
        intro y hy
        rcases List.mem_append.1 hy with hy | hy
        · exact HNO.out y hy
        · obtain rfl := List.mem_singleton.1 hy
          exact HCB.out
    · obtain rfl : j = r.cs.length := by omega
      have hno := HNO.out
      rw [List.take_length] at hno
      have HCB := Lib.hid (show r.cs.all cutB = true from List.all_eq_true.2 hno)
      rw [List.take_length]
      obtain ⟨r0, r1, r2⟩ := rds_cells (r := r) KW.out
      have lR := KW.out.lt
      obtain ⟨M, hmm⟩ : ∃ M, manyM r.cs = M := ⟨_, rfl⟩
      rw [hmm]
      obtain ⟨bt, hbt⟩ : ∃ bt, decide (M ≤ 12) = bt := ⟨_, rfl⟩
      have HMM := Lib.hid (And.intro hmm hbt)
      clear hno hmm g2
      go_wp2_with fail
      refine (require_any bt 3 _).mono ?_
      rintro e wy ⟨h, rfl⟩
      clear hbt
      rcases h with ⟨rfl, rfl⟩ | ⟨rfl, rfl⟩
      rotate_left
      · have hv : rodsE r = 3 := by
          have h1 := HMM.out.1
          have h2 := of_decide_eq_false HMM.out.2
          simp [rodsE, HRB.out, HL.out, HCB.out, h1]
          omega
        exact ⟨rfl, ReqSaid.no hv (by decide) HBW.out⟩
      have HM := Lib.hid (show manyM r.cs ≤ 12 by rw [HMM.out.1]; exact of_decide_eq_true HMM.out.2)
      go_wp2_with fail
      clear r0 r1 r2 lR
      obtain ⟨wo, rfl⟩ : ∃ wo : World, wo = wy := ⟨_, rfl⟩
      go_loopw [48, 6] (fun i _ wv => ∃ j : Nat, j ≤ r.cs.length ∧ i = .int .i64 j ∧ (∀ x ∈ r.cs.take j, decide (x.ln ≤ r.stock) = true) ∧ Below wo.heap.size wo wv) (fun i _ _ => r.cs.length - (intOf i).toNat)
      case atStart => exact ⟨0, Nat.zero_le _, rfl, by simp, Below.refl _ _⟩
      case round =>
        obtain ⟨j, hj, rfl, hno, g3⟩ := hrel
        have HNO := Lib.hid hno
        have G3 := Lib.hid g3
        have KV := Lib.hid (KW.out.belowS g3)
        have HBV := Lib.hid (HBW.out.trans (g3.mono HBW.out.size))
        have hrv := HROW.out.belowS (G2.out.trans (g3.mono G2.out.size))
        clear hno g3
        by_cases hlj : j < r.cs.length
        · have hq : r.cs[j]? = some r.cs[j] := List.getElem?_eq_getElem hlj
          have hmem := List.getElem_mem hlj
          have htk : r.cs.take (j + 1) = r.cs.take j ++ [r.cs[j]] := by rw [List.take_add_one, hq]; rfl
          generalize r.cs[j] = x at *
          obtain ⟨b, off, e, hbl, hc1, hc2, hp⟩ := hrv.at hq
          obtain ⟨c0, c1⟩ := hp
          obtain ⟨r0, r1, r2⟩ := rds_cells (r := r) KV.out
          have lR := KV.out.lt
          have HQ := Lib.hid hmem
          have HT := Lib.hid htk
          rw [e]
          rw [e] at r2
          have hj0 : (0 : Int) ≤ (j : Int) := Int.natCast_nonneg _
          have hj1 : (j : Int) < (r.cs.length : Int) := by omega
          obtain ⟨bt, hbt⟩ : ∃ bt, decide (x.ln ≤ r.stock) = bt := ⟨_, rfl⟩
          have HBT := Lib.hid hbt
          have HBX := Lib.hid (G3.out.trans (((Below.refl _ wr).alloc (o := .cells #[.int .i64 x.ln, .int .i64 x.mn] 81) (Nat.le_refl _)).mono G3.out.size))
          have HB2 := Lib.hid (HBV.out.trans (((Below.refl _ wr).alloc (o := .cells #[.int .i64 x.ln, .int .i64 x.mn] 81) (Nat.le_refl _)).mono HBV.out.size))
          clear hq hmem hrv e htk
          go_wp2_with fail
          refine (require_any bt 9 _).mono ?_
          rintro e wz ⟨h, rfl⟩
          clear hbt
          rcases h with ⟨rfl, rfl⟩ | ⟨rfl, rfl⟩
          rotate_left
          · have hv : rodsE r = 9 := by
              have : (r.cs.all fun x => decide (x.ln ≤ r.stock)) = false := by
                rw [List.all_eq_false]
                exact ⟨x, HQ.out, by rw [HBT.out]; decide⟩
              simp [rodsE, HRB.out, HL.out, HCB.out, HM.out, this]
            exact ⟨rfl, ReqSaid.no hv (by decide) HB2.out⟩
          clear r0 r1 r2 lR
          go_wp2_with fail
          refine ⟨⟨j + 1, by omega, by simp, ?_, HBX.out⟩, by simp [intOf]; omega⟩
          rw [HT.out]
          intro y hy
          rcases List.mem_append.1 hy with hy | hy
          · exact HNO.out y hy
          · obtain rfl := List.mem_singleton.1 hy
            exact HBT.out
        · obtain rfl : j = r.cs.length := by omega
          have hno := HNO.out
          rw [List.take_length] at hno
          have HV := Lib.hid (show rodsE r = 0 by simp [rodsE, HRB.out, HL.out, HCB.out, HM.out, show (r.cs.all fun x => decide (x.ln ≤ r.stock)) = true from List.all_eq_true.2 hno])
          clear hno
          go_wp2_with fail
          go_end0
          exact ⟨.inl ⟨HV.out, rfl⟩, HBV.out⟩

set_option maxHeartbeats 4000000 in
theorem checkRodsIn_any (P : Nat) (r : Rds) (w : World) (k : Blk w P #[.int .i64 r.stock, .int .i64 r.kerf, .slice r.ca r.cs.length r.cc] 43) (hrow : IsCts w r.ca r.cc r.cs) (hbig : r.cs.length ≤ 1000000000) :
    Calls Try.prog 68 #[.pointer (some ⟨P, 0, none⟩)] w (Tried (rodsE r) (fun _ => False) (fun _ => True) w) := by
  have HRO := Lib.hid (requireRods_any r w hrow hbig)
  obtain ⟨r0, r1, r2⟩ := rds_cells (r := r) k
  have hlr := k.lt
  clear k hrow hbig
  go_enter Try.func68, Try.ntmps68
  go_wp2_with fail
  refine HRO.out.mono ?_
  rintro e w1 ⟨⟨hE, rfl⟩ | ⟨hE, rfl⟩, hb⟩
  · have HE := Lib.hid hE
    have HB := Lib.hid hb
    clear hE hb r0 r1 r2 hlr
    go_wp2_with fail
    go_end0
    exact ⟨.inl ⟨HE.out, rfl⟩, trivial, Turn.of_below HB.out⟩
  · exact ⟨rfl, .inr ⟨hE, rfl⟩, trivial, Turn.of_below hb⟩
set_option maxHeartbeats 4000000 in
theorem checkRods_any (r : Rds) (w : World) (hrow : IsCts w r.ca r.cc r.cs) (hbig : r.cs.length ≤ 1000000000) :
    Calls Try.prog 33 #[.agg #[.int .i64 r.stock, .int .i64 r.kerf, .slice r.ca r.cs.length r.cc]] w fun e w' => e = .returned (.int .i64 (rodsE r)) ∧ Below w.heap.size w w' := by
  have hmf : ∀ (fn : Fn) (first cap : Array Value) (w : World), (Instr.makeFunc fn first cap).run Try.prog w = .ok (.func fn first cap) w := fun _ _ _ _ => rfl
  have k1 := Blk.new w 43 #[.int .i64 r.stock, .int .i64 r.kerf, .slice r.ca r.cs.length r.cc]
  have hb1 : Below w.heap.size w (w.alloc (.cells #[.int .i64 r.stock, .int .i64 r.kerf, .slice r.ca r.cs.length r.cc] 43)) := (Below.refl _ w).alloc (Nat.le_refl _) _
  have HA := Lib.hid (of_any 68 #[.pointer (some ⟨w.heap.size, 0, none⟩)] (rodsE r) (fun _ => False) (fun _ => True) (w.alloc (.cells #[.int .i64 r.stock, .int .i64 r.kerf, .slice r.ca r.cs.length r.cc] 43)) (run_enter Try.func68 (by kernel_rfl) rfl) (fun _ h => h.elim)
    (fun w1 h _ => checkRodsIn_any _ r w1 (k1.belowS h) (hrow.belowS (hb1.trans (h.mono hb1.size))) hbig))
  have HB1 := Lib.hid hb1
  clear k1 hb1 hrow hbig
  go_enter Try.func33, Try.ntmps33
  go_wp2_with fail
  refine HA.out.mono ?_
  rintro e w2 ⟨rfl, _, ht⟩
  have HB2 := Lib.hid (HB1.out.trans (ht.below (base := w.heap.size) HB1.out.size (fun k e => e.elim)))
  clear ht HA
  go_wp2_with fail
  go_ret
  exact ⟨rfl, HB2.out⟩
end Go.Proofs.Ytmcmhgjlpffcnaa
