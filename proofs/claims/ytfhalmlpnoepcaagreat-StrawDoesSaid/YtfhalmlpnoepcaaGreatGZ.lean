/- A heap by its name (thatchref02), the ledger (straw). -/
import Derived.Test.YtfhalmlpnoepcaaGreatGG
import Derived.Test.YtfhalmlpnoepcaaGreatGH
import Derived.Test.YtfhalmlpnoepcaaGreatGN
namespace Go.Proofs.YtfhalmlpnoepcaaGreat
open Go.RowKit

set_option maxRecDepth 100000 in
set_option maxHeartbeats 4000000 in
theorem refAt_any (S : Sto) (nm : ByteArray) (w : World) (hS : IsHeps w S.ha S.hc S.heaps) :
    Calls Tryz.prog 41 #[stoV S, .string nm] w fun e w' => e = .returned (.int .i64 (idxH S.heaps nm)) ∧ Below w.heap.size w w' := by
  have hll := hS.len
  unfold stoV
  generalize hga : S.ha = sha at *
  have HS := Lib.hid hS
  clear hS
  have kB := Blk.new w 29 #[.int .i64 S.year, .slice S.la S.last.length S.lc, .slice S.ga S.given.length S.gc, .slice sha S.heaps.length S.hc, .slice S.ua S.used.length S.uc, .slice S.wa S.waste.length S.wc]
  have hB : Below w.heap.size w (w.alloc (.cells #[.int .i64 S.year, .slice S.la S.last.length S.lc, .slice S.ga S.given.length S.gc, .slice sha S.heaps.length S.hc, .slice S.ua S.used.length S.uc, .slice S.wa S.waste.length S.wc] 29)) := (Below.refl _ w).alloc (by simp) _
  go_enter Tryz.func41, Tryz.ntmps41
  go_upto_region 1 with fail
  generalize (w.alloc (.cells #[.int .i64 S.year, .slice S.la S.last.length S.lc, .slice S.ga S.given.length S.gc, .slice sha S.heaps.length S.hc, .slice S.ua S.used.length S.uc, .slice S.wa S.waste.length S.wc] 29)) = w1 at *
  go_wp2_with fail
  go_loopw [5] (fun k wr => ∃ j : Nat, j ≤ S.heaps.length ∧ k = .int .i64 j ∧ (∀ f ∈ S.heaps.take j, strB f.name nm = false) ∧ wr = w1) (fun k _ => S.heaps.length - (intOf k).toNat)
  case atStart => exact ⟨0, Nat.zero_le _, rfl, by simp, rfl⟩
  case round =>
    obtain ⟨j, hj, rfl, hno, rfl⟩ := hrel
    have d3 := kB.cell 3
    have lB := kB.lt
    simp only [List.getElem?_toArray, List.getElem?_cons_zero, List.getElem?_cons_succ] at d3
    by_cases hlj : j < S.heaps.length
    · have hq : S.heaps[j]? = some S.heaps[j] := List.getElem?_eq_getElem hlj
      have htk : S.heaps.take (j + 1) = S.heaps.take j ++ [S.heaps[j]] := by rw [List.take_add_one, hq]; rfl
      obtain ⟨b, off, hea, hblt, hcap, hcx, ⟨c0, c1, c2, c3, c4, c5, c6⟩, _, _⟩ := (HS.out.belowS hB).at hq
      subst hea
      generalize S.heaps[j] = q at *
      have HQ := Lib.hid hq
      have HT := Lib.hid htk
      have HN := Lib.hid hno
      clear hq htk hno
      have hj0 : (0 : Int) ≤ (j : Int) := Int.natCast_nonneg _
      have hj1 : (j : Int) < (S.heaps.length : Int) := by omega
      cases hst : strB q.name nm with
      | true =>
        have hv : idxH S.heaps nm = j := by rw [idxH, findIdx_at S.heaps _ j q HQ.out hst HN.out]
        have HV := Lib.hid hv
        unfold strB at hst
        clear hv
        go_wp2_with fail
        go_ret
        exact ⟨by rw [HV.out]; rfl, hB⟩
      | false =>
        have HSt := Lib.hid hst
        unfold strB at hst
        go_wp2_with fail
        refine ⟨⟨j + 1, by omega, by simp, ?_, trivial⟩, by simp [intOf]; omega⟩
        intro x hx
        rw [HT.out] at hx
        rcases List.mem_append.1 hx with hx | hx
        · exact HN.out x hx
        · obtain rfl := List.mem_singleton.1 hx
          exact HSt.out
    · obtain rfl : j = S.heaps.length := by omega
      rw [List.take_length] at hno
      have hv : idxH S.heaps nm = -1 := by rw [idxH, findIdx_none_take S.heaps _ hno]
      have HV := Lib.hid hv
      clear hv hno
      go_wp2_with fail
      go_ret
      exact ⟨by rw [HV.out]; rfl, hB⟩

theorem store_ok {F : Frm} {S : Sto} (h : storeE F S = 0) : F.ps.length ≤ 12 ∧ S.given.length = F.ps.length ∧ partsB F.ps.length S.used = true ∧ partsB F.ps.length S.waste = true ∧ ∀ x ∈ S.heaps, heapB F.ps x = true := by
  obtain ⟨h1, h2⟩ := storeE_zero h
  simp only [mayB, balB, Bool.and_eq_true, decide_eq_true_eq] at h2
  exact ⟨(checkE_ok h1).1, h2.2.2.2.2.1, h2.2.2.1, h2.2.2.2.1, heapsB_heap h2.2.1⟩

/-- What a ledger is: the counts of each field, or an error. -/
def CntSaid (F : Frm) (S : Sto) (w : World) (e : Ending) (w' : World) : Prop :=
  ∃ (a : Option Addr) (n c : Nat), e = .returned (.tuple #[.slice a n c, .int .i64 (storeE F S)]) ∧ (if storeE F S = 0 then n = F.ps.length ∧ (n = 0 ∨ ∃ K, a = some ⟨K, 0, none⟩ ∧ n ≤ c ∧ c ≤ 9223372036854775807 ∧ K < w'.heap.size ∧ ∀ i, i < n * 4 → w'.cell? ⟨K, i, none⟩ = some (.int .i64 (cntF (givenAt S.given) (fun k => ofM k S.used) (fun k => leftM k S.heaps) (fun k => ofM k S.waste) i))) else n = 0) ∧ Below w.heap.size w w'

end Go.Proofs.YtfhalmlpnoepcaaGreat
