/- The specification's ahead; SameInts. -/
import Derived.Test.YtdmhmiamhobikaaFQ
namespace Go.Proofs.Ytdmhmiamhobikaa
open Go.RowKit

theorem lexB_diff {a b : List Nat} {j x y : Nat} (h : a.take j = b.take j) (ha : a[j]? = some x) (hb : b[j]? = some y) (hne : x ≠ y) : lexB a b = decide (x < y) := by
  obtain ⟨ha1, ha2⟩ := List.getElem?_eq_some_iff.1 ha
  obtain ⟨hb1, hb2⟩ := List.getElem?_eq_some_iff.1 hb
  have ea : a = a.take j ++ x :: a.drop (j + 1) := by rw [← ha2, ← List.drop_eq_getElem_cons ha1, List.take_append_drop]
  have eb : b = b.take j ++ y :: b.drop (j + 1) := by rw [← hb2, ← List.drop_eq_getElem_cons hb1, List.take_append_drop]
  rw [ea, eb, h, lexB_pre]
  simp only [lexB]
  rw [if_neg hne]

set_option maxRecDepth 100000 in
set_option maxHeartbeats 4000000 in
theorem refAhead_any (a1 a2 : Option Addr) (c1 c2 : Nat) (l1 l2 : List Nat) (x y : Int) (w : World) (h1 : IsNats w a1 c1 l1) (h2 : IsNats w a2 c2 l2) (hl1 : l1.length ≤ 12) :
    Calls Try.prog 18 #[.slice a1 l1.length c1, .int .i64 x, .slice a2 l2.length c2, .int .i64 y] w fun e w' => e = .returned (.bool (ahB l1 x l2 y)) ∧ Below w.heap.size w w' := by
  have H1 := Lib.hid h1
  have H2 := Lib.hid h2
  clear h1 h2
  by_cases hxy : x = y
  · by_cases hll : l1.length = l2.length
    · have hv : ahB l1 x l2 y = lexB l1 l2 := by rw [ahB, if_pos hxy, if_pos hll]
      have HV := Lib.hid hv
      have q1 : (x != y) = false := by simp [hxy]
      have q2 : (l1.length != l2.length) = false := by simp [hll]
      have q3 : ((l1.length : Int) != (l2.length : Int)) = false := by simp [hll]
      have HLL := Lib.hid hll
      clear hv hxy hll
      go_enter Try.func18, Try.ntmps18
      go_wp2_with fail
      go_loopw [9] (fun i wr => ∃ j : Nat, j ≤ l1.length ∧ i = .int .i64 j ∧ l1.take j = l2.take j ∧ Below w.heap.size w wr) (fun i _ => l1.length - (intOf i).toNat)
      case atStart => exact ⟨0, Nat.zero_le _, rfl, by simp, Below.refl _ _⟩
      case round =>
        obtain ⟨j, hj, rfl, htk, hb⟩ := hrel
        have HT := Lib.hid htk
        clear htk
        by_cases hlj : j < l1.length
        · have hlj2 : j < l2.length := by rw [← HLL.out]; exact hlj
          have e1 : l1[j]? = some l1[j] := List.getElem?_eq_getElem hlj
          have e2 : l2[j]? = some l2[j] := List.getElem?_eq_getElem hlj2
          generalize l1[j] = u at *
          generalize l2[j] = v at *
          obtain ⟨g1, rfl, r1, r2, r3⟩ := nat_at (H1.out.belowS hb) e1
          obtain ⟨g2, rfl, s1, s2, s3⟩ := nat_at (H2.out.belowS hb) e2
          have E1 := Lib.hid e1
          have E2 := Lib.hid e2
          have hj0 : (0 : Int) ≤ (j : Int) := Int.natCast_nonneg _
          have hj1 : (j : Int) < (l1.length : Int) := by omega
          have hj2 : (j : Int) < (l2.length : Int) := by omega
          clear e1 e2
          go_upto_region 8 with fail
          go_region
          generalize hwd : wr.drew = w4 at *
          have hb4 : Below w.heap.size w w4 := hwd ▸ hb.drew
          have r1' : w4.cell? ⟨g1, j, none⟩ = some (.int .i64 (u : Int)) := hwd ▸ r1
          have s1' : w4.cell? ⟨g2, j, none⟩ = some (.int .i64 (v : Int)) := hwd ▸ s1
          clear hwd
          by_cases huv : u = v
          · have p1 : ((u : Int) != (v : Int)) = false := by simp [huv]
            have p2 : (u != v) = false := by simp [huv]
            have htk2 : l1.take (j + 1) = l2.take (j + 1) := by rw [take_snoc E1.out, take_snoc E2.out, HT.out, huv]
            have HT2 := Lib.hid htk2
            clear huv htk2
            go_wp2_with fail
            exact ⟨⟨j + 1, by omega, by simp, HT2.out, hb4⟩, by simp [intOf]; omega⟩
          · have p1 : ((u : Int) != (v : Int)) = true := by simp; omega
            have p2 : (u != v) = true := by simp; omega
            have hlx := lexB_diff HT.out E1.out E2.out huv
            have HLX := Lib.hid hlx
            have hw4 : g1 < w4.heap.size := World.block_lt_of_cell? _ _ r1'
            clear huv hlx
            go_upto_region 9 with fail
            go_region
            go_wp2_with fail
            go_ret
            refine ⟨?_, hb4.drew⟩
            rw [HV.out, HLX.out]
            simp
        · obtain rfl : j = l1.length := by omega
          have he : l1 = l2 := by
            have := HT.out
            rw [List.take_length, HLL.out, List.take_length] at this
            exact this
          have hlx : lexB l1 l2 = false := by rw [← he]; exact lexB_self _
          have HLX := Lib.hid hlx
          clear he hlx
          go_wp2_with fail
          go_ret
          exact ⟨by rw [HV.out, HLX.out]; rfl, hb⟩
    · have hv : ahB l1 x l2 y = decide (l1.length < l2.length) := by rw [ahB, if_pos hxy, if_neg hll]
      have HV := Lib.hid hv
      have q1 : (x != y) = false := by simp [hxy]
      have q2 : (l1.length != l2.length) = true := by simp [hll]
      have q3 : ((l1.length : Int) != (l2.length : Int)) = true := by simp; omega
      clear hv hxy hll
      go_enter Try.func18, Try.ntmps18
      go_wp2_with fail
      go_ret
      refine ⟨?_, Below.refl _ _⟩
      rw [HV.out]
      simp
  · have hv : ahB l1 x l2 y = decide (x < y) := by rw [ahB, if_neg hxy]
    have HV := Lib.hid hv
    have q1 : (x != y) = true := by simp; exact hxy
    clear hv hxy
    go_enter Try.func18, Try.ntmps18
    go_wp2_with fail
    go_ret
    exact ⟨by rw [HV.out]; rfl, Below.refl _ _⟩

set_option maxRecDepth 100000 in
set_option maxHeartbeats 4000000 in
theorem sameInts_any (a1 a2 : Option Addr) (c1 c2 : Nat) (l : List Nat) (w : World) (h1 : IsNats w a1 c1 l) (h2 : IsNats w a2 c2 l) (hl : l.length ≤ 12) :
    Calls Try.prog 10 #[.slice a1 l.length c1, .slice a2 l.length c2] w fun e w' => e = .returned (.bool true) ∧ Below w.heap.size w w' := by
  have H1 := Lib.hid h1
  have H2 := Lib.hid h2
  have q3 : ((l.length : Int) != (l.length : Int)) = false := by simp
  clear h1 h2
  go_enter Try.func10, Try.ntmps10
  go_wp2_with fail
  go_loopw [5] (fun i wr => ∃ j : Nat, j ≤ l.length ∧ i = .int .i64 j ∧ Below w.heap.size w wr) (fun i _ => l.length - (intOf i).toNat)
  case atStart => exact ⟨0, Nat.zero_le _, rfl, Below.refl _ _⟩
  case round =>
    obtain ⟨j, hj, rfl, hb⟩ := hrel
    by_cases hlj : j < l.length
    · have e1 : l[j]? = some l[j] := List.getElem?_eq_getElem hlj
      generalize l[j] = u at *
      obtain ⟨g1, rfl, r1, r2, r3⟩ := nat_at (H1.out.belowS hb) e1
      obtain ⟨g2, rfl, s1, s2, s3⟩ := nat_at (H2.out.belowS hb) e1
      have hj0 : (0 : Int) ≤ (j : Int) := Int.natCast_nonneg _
      have hj1 : (j : Int) < (l.length : Int) := by omega
      have p1 : ((u : Int) != (u : Int)) = false := by simp
      clear e1
      go_upto_region 6 with fail
      go_region
      go_wp2_with fail
      exact ⟨⟨j + 1, by omega, by simp, hb.drew⟩, by simp [intOf]; omega⟩
    · obtain rfl : j = l.length := by omega
      go_wp2_with fail
      go_ret
      exact ⟨rfl, hb⟩
end Go.Proofs.Ytdmhmiamhobikaa
