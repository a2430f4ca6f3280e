/- The specification's ordered. -/
import Derived.Test.YtfhalmlpnoepcaaGreatGB
namespace Go.Proofs.YtfhalmlpnoepcaaGreat
open Go.RowKit

theorem refIn_is {n lo hi : Int} {b : Bool} (h : isFromB n lo hi = b) (w : World) : Calls Tryz.prog 43 #[.int .i64 n, .int .i64 lo, .int .i64 hi] w fun e w' => e = .returned (.bool b) ∧ w' = w :=
  (refIn_any n lo hi w).mono fun _ _ ⟨h1, h2⟩ => ⟨by rw [h1, h], h2.symm⟩
set_option maxRecDepth 100000 in
set_option maxHeartbeats 4000000 in
theorem refOrdered_any (F : Frm) (a : Option Addr) (c : Nat) (l : List Prt) (w : World) (hn : F.ps.length ≤ 12) (hl : IsPrts w a c l) :
    Calls Tryz.prog 71 #[.agg #[.slice F.pa F.ps.length F.pc, .int .i64 F.dry], .slice a l.length c] w fun e w' => e = .returned (.bool (partsB F.ps.length l)) ∧ Below w.heap.size w w' := by
  have hlen := hl.len
  have k0 := Blk.new w 24 #[.slice F.pa F.ps.length F.pc, .int .i64 F.dry]
  have hB : Below w.heap.size w (w.alloc (.cells #[.slice F.pa F.ps.length F.pc, .int .i64 F.dry] 24)) := (Below.refl _ _).alloc (Nat.le_refl _) _
  have HL := Lib.hid hl
  clear hl
  go_enter Tryz.func71, Tryz.ntmps71
  go_wp2_with fail
  go_loopw [5] (fun i wr => ∃ j : Nat, j ≤ l.length ∧ i = .int .i64 j ∧ (∀ k, k < j → partAt F.ps.length l k = true) ∧ Blk wr w.heap.size #[.slice F.pa F.ps.length F.pc, .int .i64 F.dry] 24 ∧ Below w.heap.size w wr) (fun i _ => l.length - (intOf i).toNat)
  case atStart => exact ⟨0, Nat.zero_le _, rfl, fun k h => by omega, k0, hB⟩
  case round =>
    obtain ⟨j, hj, rfl, hall, g1, g2⟩ := hrel
    have HA := Lib.hid hall
    have G1 := Lib.hid g1
    have hLr := HL.out.belowS g2
    have HLr := Lib.hid hLr
    clear hall k0 hB
    by_cases hlj : j < l.length
    · have hq : l[j]? = some l[j] := List.getElem?_eq_getElem hlj
      have hprev : ∀ k, k + 1 = j → ∃ q, l[k]? = some q ∧ partAt F.ps.length l j = (partB F.ps.length l[j] && !(q.plot == l[j].plot)) := fun k hk => by
        have hk2 : k < l.length := by omega
        refine ⟨l[k], List.getElem?_eq_getElem hk2, ?_⟩
        subst hk
        rw [partAt, hq]
        simp only [Nat.add_sub_cancel, List.getElem?_eq_getElem hk2]
        simp
      have hfirst : j = 0 → partAt F.ps.length l j = partB F.ps.length l[j] := fun h0 => by
        rw [partAt, hq]
        simp [h0]
      obtain ⟨b, off, hea, hblt, hcap, hcx, p0, p1⟩ := hLr.at hq
      subst hea
      generalize l[j] = p at *
      have hj0 : (0 : Int) ≤ (j : Int) := Int.natCast_nonneg _
      have hj1 : (j : Int) < (l.length : Int) := by omega
      have HPV := Lib.hid hprev
      have HFI := Lib.hid hfirst
      have f0 := g1.cell 0
      have lF := g1.lt
      simp only [List.getElem?_toArray, List.getElem?_cons_zero] at f0
      have p0' : wr.cell? ⟨b, off + j * 2, none⟩ = some (.int .i64 p.plot) := p0
      have p1' : wr.cell? ⟨b, off + j * 2 + 1, none⟩ = some (.int .i64 p.loads) := p1
      clear hprev hfirst hq hLr p0 p1
      go_upto_region 4 with fail
      go_cut [49] from 6 to 49 (fun s49 wx => s49 = .bool (!partAt F.ps.length l j) ∧ Below wr.heap.size wr wx)
      case first =>
        cases h1 : isFromB p.plot 0 ((F.ps.length : Int) - 1) with
        | false =>
          have hno : partAt F.ps.length l j = false := by
            rcases Nat.eq_zero_or_pos j with hz | hz
            · rw [HFI.out hz, partB, h1]; first | rfl | exact Bool.and_false _
            · obtain ⟨q, _, e⟩ := HPV.out (j - 1) (by omega)
              rw [e, partB, h1]; first | rfl | (rw [Bool.and_false]; rfl)
          have HP := Lib.hid hno
          have H1 := Lib.hid h1
          clear hno h1
          go_quiet (first | (go_at_call 43; with_reducible refine Calls.quiet_of_same (refIn_is H1.out _)))
          go_wp2_with fail
          go_meet
          exact ⟨by rw [HP.out]; rfl, below_drewN' _ _ _⟩
        | true =>
        have H1 := Lib.hid h1
        clear h1
        cases h2 : isFromB p.loads 1 100000 with
        | false =>
          have hno : partAt F.ps.length l j = false := by
            rcases Nat.eq_zero_or_pos j with hz | hz
            · rw [HFI.out hz, partB, h2]; first | rfl | exact Bool.and_false _
            · obtain ⟨q, _, e⟩ := HPV.out (j - 1) (by omega)
              rw [e, partB, h2]; first | rfl | (rw [Bool.and_false]; rfl)
          have HP := Lib.hid hno
          have H2 := Lib.hid h2
          clear hno h2
          go_quiet (first | (go_at_call 43; with_reducible refine Calls.quiet_of_same (refIn_is H1.out _)) | (go_at_call 43; with_reducible refine Calls.quiet_of_same (refIn_is H2.out _)))
          go_wp2_with fail
          go_meet
          exact ⟨by rw [HP.out]; rfl, below_drewN' _ _ _⟩
        | true =>
        have H2 := Lib.hid h2
        clear h2
        rcases Nat.eq_zero_or_pos j with hz | hz
        · have hp : partAt F.ps.length l j = true := by rw [HFI.out hz, partB, H1.out, H2.out]; rfl
          have HP := Lib.hid hp
          have q3 : decide ((0 : Int) < (j : Int)) = false := decide_eq_false (by omega)
          have n3 : decide (0 < j) = false := decide_eq_false (by omega)
          clear hz hp
          go_quiet (first | (go_at_call 43; with_reducible refine Calls.quiet_of_same (refIn_is H1.out _)) | (go_at_call 43; with_reducible refine Calls.quiet_of_same (refIn_is H2.out _)))
          go_wp2_with fail
          go_meet
          exact ⟨by rw [HP.out]; rfl, below_drewN' _ _ _⟩
        · obtain ⟨k, rfl⟩ : ∃ k, j = k + 1 := ⟨j - 1, by omega⟩
          obtain ⟨q, hqk, hpe⟩ := HPV.out k rfl
          have q3 : decide ((0 : Int) < ((k + 1 : Nat) : Int)) = true := decide_eq_true (by omega)
          have n3 : decide (0 < k + 1) = true := decide_eq_true (by omega)
          have hpe2 : partAt F.ps.length l (k + 1) = !(q.plot == p.plot) := by rw [hpe, partB, H1.out, H2.out]; rfl
          have HP := Lib.hid hpe2
          obtain ⟨b', off', hea', _, _, _, z0, _⟩ := HLr.out.at hqk
          obtain ⟨rfl, rfl, _⟩ : b = b' ∧ off = off' ∧ True := by injection hea' with h; injection h with h1 h2; exact ⟨h1, h2, trivial⟩
          have hk0 : (0 : Int) ≤ (k : Int) := Int.natCast_nonneg _
          have hk1 : (k : Int) < (l.length : Int) := by omega
          clear hpe hpe2 hqk hz hea'
          have z0' : wr.cell? ⟨b, off + k * 2, none⟩ = some (.int .i64 q.plot) := z0
          go_quiet (first | (go_at_call 43; with_reducible refine Calls.quiet_of_same (refIn_is H1.out _)) | (go_at_call 43; with_reducible refine Calls.quiet_of_same (refIn_is H2.out _)))
          go_wp2_with fail
          go_meet
          refine ⟨?_, below_drewN' _ _ _⟩
          rw [HP.out]
          simp
      case rest =>
        obtain ⟨rfl, hcx2⟩ := hcut
        obtain ⟨w4, rfl⟩ : ∃ w4 : World, w4 = wc := ⟨_, rfl⟩
        have HB4 := Lib.hid (g2.trans (hcx2.mono g2.size))
        have kF4 := g1.belowS hcx2
        cases hpa : partAt F.ps.length l j with
        | false =>
          have hv := partsB_no hlj hpa
          have HV := Lib.hid hv
          clear hv hpa
          go_wp2_with fail
          go_ret
          exact ⟨by rw [HV.out]; rfl, HB4.out⟩
        | true =>
          have HPA := Lib.hid hpa
          clear hpa
          go_wp2_with fail
          refine ⟨⟨j + 1, by omega, by simp, fun k hk => ?_, kF4, HB4.out⟩, by simp [intOf]; omega⟩
          by_cases hkj : k = j
          · subst hkj; exact HPA.out
          · exact HA.out k (by omega)
    · obtain rfl : j = l.length := by omega
      have hv := partsB_yes HA.out
      have HV := Lib.hid hv
      clear hv hLr
      go_wp2_with fail
      go_ret
      exact ⟨by rw [HV.out]; rfl, g2⟩
end Go.Proofs.YtfhalmlpnoepcaaGreat
