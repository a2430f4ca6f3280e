/- Wide: whether a store is more than statements look at. -/
import Derived.Test.YtmaehiomljnkgaaGH
namespace Go.Proofs.Ytmaehiomljnkgaa
open Go.RowKit

def WideSaid (S : Sto) (e : Ending) : Prop := ∃ b, e = .returned (.bool b) ∧ (b = false → S.fit)

set_option maxRecDepth 100000 in
set_option maxHeartbeats 8000000 in
theorem wide_any (S : Sto) (w : World) (hS : IsStore w S) :
    Calls Try.prog 6 #[stoV S] w fun e w' => WideSaid S e ∧ Below w.heap.size w w' := by
  have h1 := hS.last.len
  have h2 := hS.given.len
  have h3 := hS.heaps.len
  have h4 := hS.used.len
  have h5 := hS.waste.len
  unfold stoV
  have hsh := hS.heaps
  generalize hga : S.ha = sha at *
  have HSH := Lib.hid hsh
  clear hsh hga hS
  have kB := Blk.new w 29 #[.int .i64 S.year, .slice S.la S.last.length S.lc, .slice S.ga S.given.length S.gc, .slice sha S.heaps.length S.hc, .slice S.ua S.used.length S.uc, .slice S.wa S.waste.length S.wc]
  have hB : Below w.heap.size w (w.alloc (.cells #[.int .i64 S.year, .slice S.la S.last.length S.lc, .slice S.ga S.given.length S.gc, .slice sha S.heaps.length S.hc, .slice S.ua S.used.length S.uc, .slice S.wa S.waste.length S.wc] 29)) := (Below.refl _ w).alloc (by simp) _
  go_enter Try.func6, Try.ntmps6
  go_upto_region 1 with fail
  generalize (w.alloc (.cells #[.int .i64 S.year, .slice S.la S.last.length S.lc, .slice S.ga S.given.length S.gc, .slice sha S.heaps.length S.hc, .slice S.ua S.used.length S.uc, .slice S.wa S.waste.length S.wc] 29)) = w1 at *
  have lB := kB.lt
  have d0 := kB.cell 0
  have d1 := kB.cell 1
  have d2 := kB.cell 2
  have d3 := kB.cell 3
  have d4 := kB.cell 4
  have d5 := kB.cell 5
  simp only [List.getElem?_toArray, List.getElem?_cons_zero, List.getElem?_cons_succ] at d0 d1 d2 d3 d4 d5
  by_cases q0 : 30 < S.heaps.length
  · have q : (30 : Int) < (S.heaps.length : Int) := by omega
    go_wp2_with fail
    go_ret
    exact ⟨⟨true, rfl, fun h => by cases h⟩, hB⟩
  have p0 : ¬ (30 : Int) < (S.heaps.length : Int) := by omega
  by_cases q1 : 200 < S.used.length
  · have q : (200 : Int) < (S.used.length : Int) := by omega
    go_wp2_with fail
    go_ret
    exact ⟨⟨true, rfl, fun h => by cases h⟩, hB⟩
  have p1 : ¬ (200 : Int) < (S.used.length : Int) := by omega
  by_cases q2 : 200 < S.waste.length
  · have q : (200 : Int) < (S.waste.length : Int) := by omega
    go_wp2_with fail
    go_ret
    exact ⟨⟨true, rfl, fun h => by cases h⟩, hB⟩
  have p2 : ¬ (200 : Int) < (S.waste.length : Int) := by omega
  by_cases q3 : 30 < S.last.length
  · have q : (30 : Int) < (S.last.length : Int) := by omega
    go_wp2_with fail
    go_ret
    exact ⟨⟨true, rfl, fun h => by cases h⟩, hB⟩
  have p3 : ¬ (30 : Int) < (S.last.length : Int) := by omega
  by_cases q4 : 30 < S.given.length
  · have q : (30 : Int) < (S.given.length : Int) := by omega
    go_wp2_with fail
    go_ret
    exact ⟨⟨true, rfl, fun h => by cases h⟩, hB⟩
  have p4 : ¬ (30 : Int) < (S.given.length : Int) := by omega
  go_wp2_with fail
  go_loopw [3, 4] (fun s i wr => ∃ (j : Nat) (n : Int), j ≤ S.heaps.length ∧ i = .int .i64 j ∧ s = .int .i64 n ∧ (∀ k, k < j → ∀ h, S.heaps[k]? = some h → h.parts.length ≤ 200) ∧ wr = w1) (fun _ i _ => S.heaps.length - (intOf i).toNat)
  case atStart => exact ⟨0, 0, Nat.zero_le _, rfl, rfl, fun k h => by omega, rfl⟩
  case round =>
    obtain ⟨j, n, hj, rfl, rfl, hall, rfl⟩ := hrel
    have HA := Lib.hid hall
    clear hall
    by_cases hlj : j < S.heaps.length
    · have hq : S.heaps[j]? = some S.heaps[j] := List.getElem?_eq_getElem hlj
      obtain ⟨b, off, hea, hblt, hcap, hcx, ⟨c0, c1, c2, c3, c4, c5, c6⟩, hpp, hnm⟩ := (HSH.out.belowS hB).at hq
      subst hea
      generalize S.heaps[j] = h at *
      have hpl := hpp.len
      have HQ := Lib.hid hq
      unfold maxLen at hnm
      have hj0 : (0 : Int) ≤ (j : Int) := Int.natCast_nonneg _
      have hj1 : (j : Int) < (S.heaps.length : Int) := by omega
      clear hq hpp
      by_cases hw : 200 < h.parts.length
      · have q : (200 : Int) < (h.parts.length : Int) := by omega
        go_wp2_with fail
        go_ret
        exact ⟨⟨true, rfl, fun h => by cases h⟩, hB⟩
      · have q : ¬ (200 : Int) < (h.parts.length : Int) := by omega
        go_wp2_with fail
        refine ⟨⟨j + 1, _, by omega, by simp, rfl, fun k hk g hg => ?_, trivial⟩, by simp [intOf]; omega⟩
        by_cases hkj : k = j
        · subst hkj
          rw [HQ.out] at hg
          cases hg
          omega
        · exact HA.out k (by omega) g hg
    · obtain rfl : j = S.heaps.length := by omega
      have hfit : S.fit := ⟨by omega, by omega, by omega, fun h hh => by
        obtain ⟨i, hi, rfl⟩ := List.getElem_of_mem hh
        have := HA.out i hi _ (List.getElem?_eq_getElem hi)
        omega⟩
      have HFI := Lib.hid hfit
      clear hfit
      go_wp2_with fail
      all_goals go_ret
      all_goals exact ⟨⟨_, rfl, fun _ => HFI.out⟩, hB⟩
end Go.Proofs.Ytmaehiomljnkgaa
