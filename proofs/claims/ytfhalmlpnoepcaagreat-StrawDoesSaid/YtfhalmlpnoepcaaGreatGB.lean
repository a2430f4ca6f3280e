/- Parts: areParts, loadsOf; the specification's ordered, loads, of. -/
import Derived.Test.YtfhalmlpnoepcaaGreatGA
import Derived.Test.YtfhalmlpnoepcaaGreatFO
import Derived.Deep.DeepCutAuto
import Derived.Deep.CutRange
namespace Go.Proofs.YtfhalmlpnoepcaaGreat
open Go.RowKit

theorem below_drewN' (B : Nat) (w : World) (n : Nat) : Below B w (w.drewN n) := ⟨rfl, rfl, rfl, Nat.le_refl _, fun _ _ => rfl⟩
theorem take_snoc' {α : Type} {l : List α} {j : Nat} {x : α} (h : l[j]? = some x) : l.take (j + 1) = l.take j ++ [x] := by rw [List.take_add_one, h]; rfl
def partAt (n : Nat) (l : List Prt) (i : Nat) : Bool := match l[i]? with
  | some p => partB n p && (decide (i = 0) || (match l[i - 1]? with | some q => !(q.plot == p.plot) | none => true))
  | none => true
theorem partsB_no {n : Nat} {l : List Prt} {i : Nat} (hi : i < l.length) (h : partAt n l i = false) : partsB n l = false := by
  rw [Bool.eq_false_iff]
  intro k
  have := List.all_eq_true.1 k i (by simpa using hi)
  have this' : partAt n l i = true := this
  rw [h] at this'
  cases this'
theorem partsB_yes {n : Nat} {l : List Prt} (h : ∀ i, i < l.length → partAt n l i = true) : partsB n l = true :=
  List.all_eq_true.2 fun i hi => h i (by simpa using hi)

set_option maxRecDepth 100000 in
set_option maxHeartbeats 4000000 in
theorem areParts_any (F : Frm) (a : Option Addr) (c : Nat) (l : List Prt) (w : World) (hn : F.ps.length ≤ 12) (hl : IsPrts w a c l) :
    Calls Tryz.prog 58 #[.agg #[.slice F.pa F.ps.length F.pc, .int .i64 F.dry], .slice a l.length c] w fun e w' => e = .returned (.bool (partsB F.ps.length l)) ∧ Below w.heap.size w w' := by
  have hlen := hl.len
  have k0 := Blk.new w 24 #[.slice F.pa F.ps.length F.pc, .int .i64 F.dry]
  have hB : Below w.heap.size w (w.alloc (.cells #[.slice F.pa F.ps.length F.pc, .int .i64 F.dry] 24)) := (Below.refl _ _).alloc (Nat.le_refl _) _
  have HL := Lib.hid hl
  clear hl
  go_enter Tryz.func58, Tryz.ntmps58
  go_wp2_with fail
  go_loopw [9, 5, 6] (fun i _ _ wr => ∃ j : Nat, j ≤ l.length ∧ i = .int .i64 j ∧ (∀ k, k < j → partAt F.ps.length l k = true) ∧ Blk wr w.heap.size #[.slice F.pa F.ps.length F.pc, .int .i64 F.dry] 24 ∧ Below w.heap.size w wr) (fun i _ _ _ => l.length - (intOf i).toNat)
  case atStart => exact ⟨0, Nat.zero_le _, rfl, fun k h => by omega, k0, hB⟩
  case round =>
    obtain ⟨j, hj, rfl, hall, g1, g2⟩ := hrel
    have HA := Lib.hid hall
    have G1 := Lib.hid g1
    have hLr := HL.out.belowS g2
    have HLr := Lib.hid hLr
    clear hall k0 hB
    by_cases hlj : j < l.length
    · have hq : l[j]? = some l[j] := List.getElem?_eq_getElem hlj
      have hprev : ∀ k, k + 1 = j → ∃ q, l[k]? = some q ∧ partAt F.ps.length l j = (partB F.ps.length l[j] && !(q.plot == l[j].plot)) := fun k hk => by
        have hk2 : k < l.length := by omega
        refine ⟨l[k], List.getElem?_eq_getElem hk2, ?_⟩
        subst hk
        rw [partAt, hq]
        simp only [Nat.add_sub_cancel, List.getElem?_eq_getElem hk2]
        simp
      have hfirst : j = 0 → partAt F.ps.length l j = partB F.ps.length l[j] := fun h0 => by
        rw [partAt, hq]
        simp [h0]
      obtain ⟨b, off, hea, hblt, hcap, hcx, p0, p1⟩ := hLr.at hq
      subst hea
      generalize l[j] = p at *
      have hj0 : (0 : Int) ≤ (j : Int) := Int.natCast_nonneg _
      have hj1 : (j : Int) < (l.length : Int) := by omega
      have HPV := Lib.hid hprev
      have HFI := Lib.hid hfirst
      have kP := Blk.new wr 79 #[.int .i64 p.plot, .int .i64 p.loads]
      have kF := g1.alloc (.cells #[.int .i64 p.plot, .int .i64 p.loads] 79)
      have hb1 : Below wr.heap.size wr (wr.alloc (.cells #[.int .i64 p.plot, .int .i64 p.loads] 79)) := (Below.refl _ _).alloc (Nat.le_refl _) _
      clear hprev hfirst hq hLr
      go_upto_region 4 with fail
      generalize wr.alloc (.cells #[.int .i64 p.plot, .int .i64 p.loads] 79) = w1 at kP kF hb1 ⊢
      have e0 := kP.cell 0
      have e1 := kP.cell 1
      have f0 := kF.cell 0
      simp only [List.getElem?_toArray, List.getElem?_cons_zero, List.getElem?_cons_succ] at e0 e1 f0
      have hb2 := g2.trans (hb1.mono g2.size)
      have HB2 := Lib.hid hb2
      have HB1 := Lib.hid hb1
      have lP := kP.lt
      have lF := kF.lt
      have hb1s := hb1.size
      have HLw := Lib.hid (HLr.out.belowS hb1)
      clear p0 p1 kP g1 g2 hb2
      go_wp2_with fail
      refine (isFrom_any p.plot 0 ((F.ps.length : Int) - 1) _).mono ?_
      rintro e w' ⟨rfl, rfl⟩
      cases h1 : isFromB p.plot 0 ((F.ps.length : Int) - 1) with
      | false =>
        have hno : partAt F.ps.length l j = false := by
          rcases Nat.eq_zero_or_pos j with hz | hz
          · rw [HFI.out hz, partB, h1]; rfl
          · obtain ⟨q, _, e⟩ := HPV.out (j - 1) (by omega)
            rw [e, partB, h1]; rfl
        have hv := partsB_no hlj hno
        have HV := Lib.hid hv
        clear hv hno h1
        go_wp2_with fail
        go_ret
        exact ⟨by rw [HV.out]; rfl, HB2.out⟩
      | true =>
      have H1 := Lib.hid h1
      clear h1
      go_wp2_with fail
      refine (isFrom_any p.loads 1 100000 _).mono ?_
      rintro e w' ⟨rfl, rfl⟩
      cases h2 : isFromB p.loads 1 100000 with
      | false =>
        have hno : partAt F.ps.length l j = false := by
          rcases Nat.eq_zero_or_pos j with hz | hz
          · rw [HFI.out hz, partB, h2, Bool.and_false]
          · obtain ⟨q, _, e⟩ := HPV.out (j - 1) (by omega)
            rw [e, partB, h2, Bool.and_false]; rfl
        have hv := partsB_no hlj hno
        have HV := Lib.hid hv
        clear hv hno h2
        go_wp2_with fail
        go_ret
        exact ⟨by rw [HV.out]; rfl, HB2.out⟩
      | true =>
      have H2 := Lib.hid h2
      clear h2
      go_upto_region 6 with fail
      go_cut [40] from 10 to 41 (fun s40 wx => s40 = .bool (!partAt F.ps.length l j) ∧ Below w1.heap.size w1 wx)
      case first =>
        rcases Nat.eq_zero_or_pos j with hz | hz
        · have hp : partAt F.ps.length l j = true := by rw [HFI.out hz, partB, H1.out, H2.out]; rfl
          have HP := Lib.hid hp
          have q3 : decide ((0 : Int) < (j : Int)) = false := decide_eq_false (by omega)
          have n3 : decide (0 < j) = false := decide_eq_false (by omega)
          clear hz hp
          go_quiet (fail)
          go_wp2_with fail
          go_meet
          exact ⟨by rw [HP.out]; rfl, below_drewN' _ _ _⟩
        · obtain ⟨k, rfl⟩ : ∃ k, j = k + 1 := ⟨j - 1, by omega⟩
          obtain ⟨q, hqk, hpe⟩ := HPV.out k rfl
          have q3 : decide ((0 : Int) < ((k + 1 : Nat) : Int)) = true := decide_eq_true (by omega)
          have n3 : decide (0 < k + 1) = true := decide_eq_true (by omega)
          have hpe2 : partAt F.ps.length l (k + 1) = !(q.plot == p.plot) := by rw [hpe, partB, H1.out, H2.out]; rfl
          have HP := Lib.hid hpe2
          obtain ⟨b', off', hea', _, _, _, z0, _⟩ := HLw.out.at hqk
          obtain ⟨rfl, rfl, _⟩ : b = b' ∧ off = off' ∧ True := by injection hea' with h; injection h with h1 h2; exact ⟨h1, h2, trivial⟩
          have hk0 : (0 : Int) ≤ (k : Int) := Int.natCast_nonneg _
          have hk1 : (k : Int) < (l.length : Int) := by omega
          clear hpe hpe2 hqk hz hea'
          have z0' : w1.cell? ⟨b, off + k * 2, none⟩ = some (.int .i64 q.plot) := z0
          go_quiet (fail)
          go_wp2_with fail
          go_meet
          refine ⟨?_, below_drewN' _ _ _⟩
          rw [HP.out]
          simp
      case rest =>
        obtain ⟨rfl, hcx2⟩ := hcut
        obtain ⟨w4, rfl⟩ : ∃ w4 : World, w4 = wc := ⟨_, rfl⟩
        have HB4 := Lib.hid (HB2.out.trans (hcx2.mono HB2.out.size))
        have kF4 := kF.belowS hcx2
        cases hpa : partAt F.ps.length l j with
        | false =>
          have hv := partsB_no hlj hpa
          have HV := Lib.hid hv
          clear hv hpa
          go_wp2_with fail
          go_ret
          exact ⟨by rw [HV.out]; rfl, HB4.out⟩
        | true =>
          have HPA := Lib.hid hpa
          clear hpa
          go_wp2_with fail
          refine ⟨⟨j + 1, by omega, by simp, fun k hk => ?_, kF4, HB4.out⟩, by simp [intOf]; omega⟩
          by_cases hkj : k = j
          · subst hkj; exact HPA.out
          · exact HA.out k (by omega)
    · obtain rfl : j = l.length := by omega
      have hv := partsB_yes HA.out
      have HV := Lib.hid hv
      clear hv hLr
      go_wp2_with fail
      go_ret
      exact ⟨by rw [HV.out]; rfl, g2⟩

/-- A sum over parts, round by round. -/
theorem take_len_of {α : Type} {l : List α} {j : Nat} (h : j ≤ l.length) : (l.take j).length = j := by rw [List.length_take, Nat.min_eq_left h]
theorem ok_take {n : Nat} {l : List Prt} (h : ∀ p ∈ l, p.ok n) (j : Nat) : ∀ p ∈ l.take j, p.ok n := fun p hp => h p (List.mem_of_mem_take hp)

set_option maxRecDepth 100000 in
set_option maxHeartbeats 4000000 in
theorem loadsOf_any (n : Nat) (a : Option Addr) (c : Nat) (l : List Prt) (w : World) (hl : IsPrts w a c l) (hok : ∀ p ∈ l, p.ok n) (hlen : l.length ≤ 1000) :
    Calls Tryz.prog 89 #[.slice a l.length c] w fun e w' => e = .returned (.int .i64 (loadsM l)) ∧ Below w.heap.size w w' := by
  have HL := Lib.hid hl
  have HOK := Lib.hid hok
  clear hl hok
  go_enter Tryz.func89, Tryz.ntmps89
  go_wp2_with fail
  go_loopw [8, 3, 5] (fun i s _ wr => ∃ (j : Nat) (v : Int), j ≤ l.length ∧ i = .int .i64 j ∧ s = .int .i64 v ∧ loadsM (l.take j) = v ∧ Below w.heap.size w wr) (fun i _ _ _ => l.length - (intOf i).toNat)
  case atStart => exact ⟨0, 0, Nat.zero_le _, rfl, rfl, by simp [loadsM], Below.refl _ _⟩
  case round =>
    obtain ⟨j, v, hj, rfl, rfl, hv, hb⟩ := hrel
    have HV := Lib.hid hv
    by_cases hlj : j < l.length
    · have hq : l[j]? = some l[j] := List.getElem?_eq_getElem hlj
      have hp := HOK.out _ (List.getElem_mem hlj)
      have hbd := loadsM_bd (ok_take HOK.out j)
      rw [take_len_of hj, hv] at hbd
      have hsn : loadsM (l.take (j + 1)) = v + l[j].loads := by rw [take_snoc' hq, loadsM_append, hv]; simp [loadsM]
      obtain ⟨b, off, hea, hblt, hcap, hcx, p0, p1⟩ := (HL.out.belowS hb).at hq
      subst hea
      generalize l[j] = p at *
      obtain ⟨_, y1, y2⟩ := hp
      obtain ⟨y3, y4⟩ := hbd
      have HSN := Lib.hid hsn
      have hj0 : (0 : Int) ≤ (j : Int) := Int.natCast_nonneg _
      have hj1 : (j : Int) < (l.length : Int) := by omega
      have hb1 : Below wr.heap.size wr (wr.alloc (.cells #[.int .i64 p.plot, .int .i64 p.loads] 79)) := (Below.refl _ _).alloc (Nat.le_refl _) _
      clear hq hsn hv
      go_wp2_with fail
      exact ⟨⟨j + 1, v + p.loads, by omega, by simp, rfl, HSN.out, hb.trans (hb1.mono hb.size)⟩, by simp [intOf]; omega⟩
    · obtain rfl : j = l.length := by omega
      rw [List.take_length] at hv
      go_wp2_with fail
      go_ret
      exact ⟨by rw [hv]; rfl, hb⟩

set_option maxRecDepth 100000 in
set_option maxHeartbeats 4000000 in
theorem refLoads_any (n : Nat) (a : Option Addr) (c : Nat) (l : List Prt) (w : World) (hl : IsPrts w a c l) (hok : ∀ p ∈ l, p.ok n) (hlen : l.length ≤ 1000) :
    Calls Tryz.prog 46 #[.slice a l.length c] w fun e w' => e = .returned (.int .i64 (loadsM l)) ∧ w = w' := by
  have HL := Lib.hid hl
  have HOK := Lib.hid hok
  clear hl hok
  go_enter Tryz.func46, Tryz.ntmps46
  go_wp2_with fail
  go_loop [4, 3] (fun i s => ∃ (j : Nat) (v : Int), j ≤ l.length ∧ i = .int .i64 j ∧ s = .int .i64 v ∧ loadsM (l.take j) = v) (fun i _ => l.length - (intOf i).toNat)
  case atStart => exact ⟨0, 0, Nat.zero_le _, rfl, rfl, by simp [loadsM]⟩
  case round =>
    obtain ⟨j, v, hj, rfl, rfl, hv⟩ := hrel
    by_cases hlj : j < l.length
    · have hq : l[j]? = some l[j] := List.getElem?_eq_getElem hlj
      have hp := HOK.out _ (List.getElem_mem hlj)
      have hbd := loadsM_bd (ok_take HOK.out j)
      rw [take_len_of hj, hv] at hbd
      have hsn : loadsM (l.take (j + 1)) = v + l[j].loads := by rw [take_snoc' hq, loadsM_append, hv]; simp [loadsM]
      obtain ⟨b, off, hea, hblt, hcap, hcx, p0, p1⟩ := HL.out.at hq
      subst hea
      generalize l[j] = p at *
      obtain ⟨_, y1, y2⟩ := hp
      obtain ⟨y3, y4⟩ := hbd
      have HSN := Lib.hid hsn
      have hj0 : (0 : Int) ≤ (j : Int) := Int.natCast_nonneg _
      have hj1 : (j : Int) < (l.length : Int) := by omega
      clear hq hsn hv
      go_wp2_with fail
      exact ⟨⟨j + 1, v + p.loads, by omega, by simp, rfl, HSN.out⟩, by simp [intOf]; omega⟩
    · obtain rfl : j = l.length := by omega
      rw [List.take_length] at hv
      go_wp2_with fail
      go_ret
      exact ⟨rfl, rfl⟩

set_option maxRecDepth 100000 in
set_option maxHeartbeats 4000000 in
theorem refOf_any (n : Nat) (a : Option Addr) (c : Nat) (l : List Prt) (i : Nat) (w : World) (hl : IsPrts w a c l) (hok : ∀ p ∈ l, p.ok n) (hlen : l.length ≤ 1000) (_ : i ≤ 1000) :
    Calls Tryz.prog 75 #[.slice a l.length c, .int .i64 i] w fun e w' => e = .returned (.int .i64 (ofM i l)) ∧ w = w' := by
  have HL := Lib.hid hl
  have HOK := Lib.hid hok
  clear hl hok
  go_enter Tryz.func75, Tryz.ntmps75
  go_wp2_with fail
  go_loop [6, 5] (fun k s => ∃ (j : Nat) (v : Int), j ≤ l.length ∧ k = .int .i64 j ∧ s = .int .i64 v ∧ ofM i (l.take j) = v) (fun k _ => l.length - (intOf k).toNat)
  case atStart => exact ⟨0, 0, Nat.zero_le _, rfl, rfl, by simp [ofM]⟩
  case round =>
    obtain ⟨j, v, hj, rfl, rfl, hv⟩ := hrel
    by_cases hlj : j < l.length
    · have hq : l[j]? = some l[j] := List.getElem?_eq_getElem hlj
      have hp := HOK.out _ (List.getElem_mem hlj)
      have hbd := ofM_bd i (ok_take HOK.out j)
      rw [take_len_of hj, hv] at hbd
      have hsn : ofM i (l.take (j + 1)) = v + if l[j].plot = (i : Int) then l[j].loads else 0 := by rw [take_snoc' hq, ofM_append, hv]; simp [ofM]
      obtain ⟨b, off, hea, hblt, hcap, hcx, p0, p1⟩ := HL.out.at hq
      subst hea
      generalize l[j] = p at *
      obtain ⟨_, y1, y2⟩ := hp
      obtain ⟨y3, y4⟩ := hbd
      have HSN := Lib.hid hsn
      have hj0 : (0 : Int) ≤ (j : Int) := Int.natCast_nonneg _
      have hj1 : (j : Int) < (l.length : Int) := by omega
      clear hq hsn hv
      by_cases hpi : p.plot = (i : Int)
      · have z1 : (p.plot == (i : Int)) = true := by simp [hpi]
        have hs2 := HSN.out
        rw [if_pos hpi] at hs2
        have HS2 := Lib.hid hs2
        clear hpi hs2
        go_wp2_with fail
        exact ⟨⟨j + 1, v + p.loads, by omega, by simp, rfl, HS2.out⟩, by simp [intOf]; omega⟩
      · have z1 : (p.plot == (i : Int)) = false := by simp [hpi]
        have hs2 := HSN.out
        rw [if_neg hpi, Int.add_zero] at hs2
        have HS2 := Lib.hid hs2
        clear hs2
        go_wp2_with fail
        exact ⟨⟨j + 1, v, by omega, by simp, rfl, HS2.out⟩, by simp [intOf]; omega⟩
    · obtain rfl : j = l.length := by omega
      rw [List.take_length] at hv
      go_wp2_with fail
      go_ret
      exact ⟨rfl, rfl⟩
end Go.Proofs.YtfhalmlpnoepcaaGreat
