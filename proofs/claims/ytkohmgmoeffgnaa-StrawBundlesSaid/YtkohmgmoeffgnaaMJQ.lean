/- sum: how many loads parts have, of a field or all. -/
import Derived.Test.YtkohmgmoeffgnaaQJR
namespace Go.Proofs.Ytkohmgmoeffgnaa
open Go.RowKit

def sumM (plot : Int) (l : List Prt) : Int := if plot < 0 then loadsM l else ofM plot l
theorem sumM_snoc (plot : Int) {l : List Prt} {j : Nat} {p : Prt} (h : l[j]? = some p) : sumM plot (l.take (j + 1)) = sumM plot (l.take j) + (if plot < 0 ∨ p.plot = plot then p.loads else 0) := by
  rw [take_snoc' h]
  unfold sumM
  by_cases h0 : plot < 0
  · rw [if_pos h0, if_pos h0, loadsM_append, if_pos (.inl h0)]
    simp [loadsM]
  · rw [if_neg h0, if_neg h0, ofM_append]
    simp [ofM, h0]
theorem sumM_bd (plot : Int) {n : Nat} {l : List Prt} (h : ∀ p ∈ l, p.ok n) : 0 ≤ sumM plot l ∧ sumM plot l ≤ 100000 * l.length := by
  unfold sumM
  split
  · exact loadsM_bd h
  · exact ofM_bd plot h

set_option maxRecDepth 100000 in
set_option maxHeartbeats 4000000 in
theorem sum_any (n : Nat) (a : Option Addr) (c : Nat) (l : List Prt) (plot : Int) (w : World) (hl : IsPrts w a c l) (hok : ∀ p ∈ l, p.ok n) (hlen : l.length ≤ 1000) :
    Calls Try.prog 20 #[.slice a l.length c, .int .i64 plot] w fun e w' => e = .returned (.int .i64 (sumM plot l)) ∧ w' = w := by
  have HL := Lib.hid hl
  have HOK := Lib.hid hok
  clear hl hok
  go_enter Try.func20, Try.ntmps20
  go_wp2_with fail
  go_loopw [5, 6] (fun s i wr => ∃ (j : Nat) (v : Int), j ≤ l.length ∧ i = .int .i64 j ∧ s = .int .i64 v ∧ sumM plot (l.take j) = v ∧ wr = w) (fun _ i _ => l.length - (intOf i).toNat)
  case atStart => exact ⟨0, 0, Nat.zero_le _, rfl, rfl, by unfold sumM; simp [loadsM, ofM], rfl⟩
  case round =>
    obtain ⟨j, v, hj, rfl, rfl, hv, rfl⟩ := hrel
    have HV := Lib.hid hv
    by_cases hlj : j < l.length
    · have hq : l[j]? = some l[j] := List.getElem?_eq_getElem hlj
      have hp := HOK.out _ (List.getElem_mem hlj)
      have hbd := sumM_bd plot (ok_take HOK.out j)
      rw [take_len_of hj, hv] at hbd
      have hsn := sumM_snoc plot hq
      rw [hv] at hsn
      obtain ⟨b, off, hea, hblt, hcap, hcx, p0, p1⟩ := HL.out.at hq
      subst hea
      generalize l[j] = p at *
      obtain ⟨_, y1, y2⟩ := hp
      obtain ⟨y3, y4⟩ := hbd
      have HSN := Lib.hid hsn
      have hj0 : (0 : Int) ≤ (j : Int) := Int.natCast_nonneg _
      have hj1 : (j : Int) < (l.length : Int) := by omega
      have hw1 : IntKind.i64.wrap (v + p.loads) = v + p.loads := by rw [IntKind.wrap_i64]; omega
      have hw2 : IntKind.i64.wrap ((j : Int) + 1) = ((j + 1 : Nat) : Int) := by rw [IntKind.wrap_i64]; omega
      clear hq hsn hv
      by_cases h0 : plot < 0
      · go_wp2_with fail
        exact ⟨⟨j + 1, v + p.loads, by omega, rfl, rfl, by rw [HSN.out, if_pos (.inl h0)], trivial⟩, by simp [intOf]; omega⟩
      · by_cases h1 : p.plot = plot
        · have q1 : (p.plot == plot) = true := by simp [h1]
          have HH1 := Lib.hid h1
          clear h1
          go_wp2_with fail
          exact ⟨⟨j + 1, v + p.loads, by omega, rfl, rfl, by rw [HSN.out, if_pos (.inr HH1.out)], trivial⟩, by simp [intOf]; omega⟩
        · have q1 : (p.plot == plot) = false := by simp [h1]
          have HH1 := Lib.hid h1
          clear h1
          go_wp2_with fail
          exact ⟨⟨j + 1, v, by omega, rfl, rfl, by rw [HSN.out, if_neg (by rintro (h | h); exact h0 h; exact HH1.out h)]; omega, trivial⟩, by simp [intOf]; omega⟩
    · obtain rfl : j = l.length := by omega
      rw [List.take_length] at hv
      go_wp2_with fail
      go_ret
      exact ⟨by rw [hv]; rfl, rfl⟩
end Go.Proofs.Ytkohmgmoeffgnaa
