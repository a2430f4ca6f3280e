/- The specification's sameInts, SameParts: of equal lists. -/
import Derived.Test.YtfhalmlpnoepcaaGreatGG
namespace Go.Proofs.YtfhalmlpnoepcaaGreat
open Go.RowKit

set_option maxRecDepth 100000 in
set_option maxHeartbeats 4000000 in
theorem refSameInts_any (a1 a2 : Option Addr) (c1 c2 : Nat) (l : List Int) (w : World) (h1 : IsNums w a1 c1 l) (h2 : IsNums w a2 c2 l) :
    Calls Tryz.prog 25 #[.slice a1 l.length c1, .slice a2 l.length c2] w fun e w' => e = .returned (.bool true) ∧ Below w.heap.size w w' := by
  have hll := h1.len
  have H1 := Lib.hid h1
  have H2 := Lib.hid h2
  have q0 : ((l.length : Int) == (l.length : Int)) = true := by simp
  have q0' : ((l.length : Int) != (l.length : Int)) = false := by simp
  clear h1 h2
  go_enter Tryz.func25, Tryz.ntmps25
  go_wp2_with fail
  go_loopw [5] (fun i wr => ∃ j : Nat, j ≤ l.length ∧ i = .int .i64 j ∧ Below w.heap.size w wr) (fun i _ => l.length - (intOf i).toNat)
  case atStart => exact ⟨0, Nat.zero_le _, rfl, Below.refl _ _⟩
  case round =>
    obtain ⟨j, hj, rfl, hb⟩ := hrel
    by_cases hlj : j < l.length
    · have hq : l[j]? = some l[j] := List.getElem?_eq_getElem hlj
      obtain ⟨b, off, hea, hblt, hcap, hcx, p0⟩ := (H1.out.belowS hb).at hq
      obtain ⟨b', off', hea', hblt', hcap', hcx', s0⟩ := (H2.out.belowS hb).at hq
      subst hea hea'
      generalize l[j] = q at *
      have hj0 : (0 : Int) ≤ (j : Int) := Int.natCast_nonneg _
      have hj1 : (j : Int) < (l.length : Int) := by omega
      have p0' : wr.cell? ⟨b, off + j * 1, none⟩ = some (.int .i64 q) := p0
      have s0' : wr.cell? ⟨b', off' + j * 1, none⟩ = some (.int .i64 q) := s0
      rw [Nat.mul_one] at p0' s0'
      have q1 : (q == q) = true := by simp
      clear p0 s0
      clear hq
      go_upto_region 6 with fail
      go_cut [25] from 17 to 25 (fun s25 wx => s25 = .bool false ∧ Below wr.heap.size wr wx)
      case first =>
        go_quiet (fail)
        go_wp2_with fail
        go_meet
        exact ⟨by simp, below_drewN' _ _ _⟩
      case rest =>
        obtain ⟨rfl, hcx2⟩ := hcut
        go_wp2_with fail
        exact ⟨⟨j + 1, by omega, by simp, hb.trans (hcx2.mono hb.size)⟩, by simp [intOf]; omega⟩
    · obtain rfl : j = l.length := by omega
      go_wp2_with fail
      go_ret
      exact ⟨rfl, hb⟩

set_option maxRecDepth 100000 in
set_option maxHeartbeats 4000000 in
theorem refSameParts_any (a1 a2 : Option Addr) (c1 c2 : Nat) (l : List Prt) (w : World) (h1 : IsPrts w a1 c1 l) (h2 : IsPrts w a2 c2 l) :
    Calls Tryz.prog 26 #[.slice a1 l.length c1, .slice a2 l.length c2] w fun e w' => e = .returned (.bool true) ∧ Below w.heap.size w w' := by
  have hll := h1.len
  have H1 := Lib.hid h1
  have H2 := Lib.hid h2
  have q0 : ((l.length : Int) == (l.length : Int)) = true := by simp
  have q0' : ((l.length : Int) != (l.length : Int)) = false := by simp
  clear h1 h2
  go_enter Tryz.func26, Tryz.ntmps26
  go_wp2_with fail
  go_loopw [5] (fun i wr => ∃ j : Nat, j ≤ l.length ∧ i = .int .i64 j ∧ Below w.heap.size w wr) (fun i _ => l.length - (intOf i).toNat)
  case atStart => exact ⟨0, Nat.zero_le _, rfl, Below.refl _ _⟩
  case round =>
    obtain ⟨j, hj, rfl, hb⟩ := hrel
    by_cases hlj : j < l.length
    · have hq : l[j]? = some l[j] := List.getElem?_eq_getElem hlj
      obtain ⟨b, off, hea, hblt, hcap, hcx, p0, p1⟩ := (H1.out.belowS hb).at hq
      obtain ⟨b', off', hea', hblt', hcap', hcx', s0, s1⟩ := (H2.out.belowS hb).at hq
      subst hea hea'
      generalize l[j] = q at *
      have hj0 : (0 : Int) ≤ (j : Int) := Int.natCast_nonneg _
      have hj1 : (j : Int) < (l.length : Int) := by omega
      clear hq
      go_upto_region 6 with fail
      go_cut [25] from 17 to 25 (fun s25 wx => s25 = .bool false ∧ Below wr.heap.size wr wx)
      case first =>
        go_quiet (fail)
        go_wp2_with fail
        go_meet
        exact ⟨by simp, below_drewN' _ _ _⟩
      case rest =>
        obtain ⟨rfl, hcx2⟩ := hcut
        go_wp2_with fail
        exact ⟨⟨j + 1, by omega, by simp, hb.trans (hcx2.mono hb.size)⟩, by simp [intOf]; omega⟩
    · obtain rfl : j = l.length := by omega
      go_wp2_with fail
      go_ret
      exact ⟨rfl, hb⟩

end Go.Proofs.YtfhalmlpnoepcaaGreat
