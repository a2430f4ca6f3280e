/- Great: whether a ridge is more than statements look at. No condition but that lengths are below 2^63. -/
import Derived.Test.YtmcmhgjlpffcnaaPU
set_option linter.unusedSimpArgs false
namespace Go.Proofs.Ytmcmhgjlpffcnaa
open Go.RowKit

/-- A ridge as it is read: its pieces' row, names that fit in memory. -/
structure IsRdg (w : World) (R : Rdg) : Prop where
  row : IsPcs w R.pa R.pc R.ps
  names : ∀ x ∈ R.ps, x.name.size ≤ maxLen
theorem IsRdg.belowS {w w' : World} {R : Rdg} (h : IsRdg w R) (hb : Below w.heap.size w w') : IsRdg w' R := ⟨h.row.belowS hb, h.names⟩
theorem pcs_le {w : World} {a : Option Addr} {c : Nat} {l : List Pce} (h : IsPcs w a c l) : l.length ≤ 9223372036854775807 := by
  rcases h with h | ⟨b, off, e, hl, hc, hc', hp⟩
  · rw [h]; simp
  · omega
/-- What Great answers: no says that the ridge is short, and that its pieces are few. -/
def GreatSaid (R : Rdg) (w : World) (e : Ending) (w' : World) : Prop := ∃ b, e = .returned (.bool b) ∧ (b = false → R.ps.length ≤ 30 ∧ (R.len ≤ 300 ∨ 2000 < R.len)) ∧ Below w.heap.size w w'
set_option maxRecDepth 100000 in
set_option maxHeartbeats 8000000 in
theorem great_any (R : Rdg) (w : World) (hR : IsRdg w R) :
    Calls Try.prog 13 #[.agg #[.int .i64 R.len, .int .i64 R.st, .int .i64 R.en, .slice R.pa R.ps.length R.pc]] w (GreatSaid R w) := by
  have hlen := pcs_le hR.row
  have k1 := Blk.new w 24 #[.int .i64 R.len, .int .i64 R.st, .int .i64 R.en, .slice R.pa R.ps.length R.pc]
  have hb1 : Below w.heap.size w (w.alloc (.cells #[.int .i64 R.len, .int .i64 R.st, .int .i64 R.en, .slice R.pa R.ps.length R.pc] 24)) := (Below.refl _ w).alloc (Nat.le_refl _) _
  have HROW := Lib.hid (hR.belowS hb1)
  have HNM := Lib.hid hR.names
  clear hR
  go_enter Try.func13, Try.ntmps13
  go_upto_region 1 with fail
  generalize w.alloc (.cells #[.int .i64 R.len, .int .i64 R.st, .int .i64 R.en, .slice R.pa R.ps.length R.pc] 24) = w1 at *
  have HB1 := Lib.hid hb1
  obtain ⟨r0, r1, r2, r3⟩ := rdg_cells (R := R) k1
  have hlr := k1.lt
  clear k1 hb1
  go_wp2_with fail
  go_loopw [3, 4] (fun s i wr => ∃ (j : Nat) (t : Int), j ≤ 31 ∧ j ≤ R.ps.length ∧ i = .int .i64 j ∧ s = .int .i64 t ∧ wr = w1) (fun _ i _ => 32 - (intOf i).toNat)
  case atStart => exact ⟨0, 0, by omega, Nat.zero_le _, rfl, rfl, rfl⟩
  case round =>
    obtain ⟨j, t, hj1, hj2, rfl, rfl, rfl⟩ := hrel
    have hj0 : (0 : Int) ≤ (j : Int) := Int.natCast_nonneg _
    by_cases hlt : j < R.ps.length ∧ j ≤ 30
    · have hj3 : (j : Int) < (R.ps.length : Int) := by omega
      have hj4 : (j : Int) ≤ 30 := by omega
      have hq : R.ps[j]? = some R.ps[j] := List.getElem?_eq_getElem hlt.1
      obtain ⟨b, off, e, hbl, hc1, hc2, hp⟩ := HROW.out.row.at hq
      have hn := HNM.out _ (List.mem_of_getElem? hq)
      generalize R.ps[j] = x at *
      obtain ⟨c0, c1, c2, c3, c4⟩ := hp
      rw [e] at r3
      go_wp2_with fail
      exact ⟨⟨j + 1, _, by omega, by omega, by simp, rfl, trivial⟩, by simp [intOf]; omega⟩
    · have hlz : (0 : Int) ≤ (R.ps.length : Int) := Int.natCast_nonneg _
      by_cases hj3 : (j : Int) < (R.ps.length : Int)
      · have hj4 : ¬ (j : Int) ≤ 30 := by omega
        have hj5 : (30 : Int) < (R.ps.length : Int) := by omega
        by_cases h1 : 300 < R.len
        · by_cases h2 : R.len ≤ 2000
          · go_wp2_with fail
            exact bodyPost_ret (v := .bool true) (by simp [results, Try.results13, go_sem]) rfl ⟨true, rfl, by simp, HB1.out⟩
          · go_wp2_with fail
            exact bodyPost_ret (v := .bool true) (by simp [results, Try.results13, go_sem]) rfl ⟨true, rfl, by simp, HB1.out⟩
        · go_wp2_with fail
          exact bodyPost_ret (v := .bool true) (by simp [results, Try.results13, go_sem]) rfl ⟨true, rfl, by simp, HB1.out⟩
      · by_cases hj5 : (30 : Int) < (R.ps.length : Int)
        · by_cases h1 : 300 < R.len
          · by_cases h2 : R.len ≤ 2000
            · go_wp2_with fail
              exact bodyPost_ret (v := .bool true) (by simp [results, Try.results13, go_sem]) rfl ⟨true, rfl, by simp, HB1.out⟩
            · go_wp2_with fail
              exact bodyPost_ret (v := .bool true) (by simp [results, Try.results13, go_sem]) rfl ⟨true, rfl, by simp, HB1.out⟩
          · go_wp2_with fail
            exact bodyPost_ret (v := .bool true) (by simp [results, Try.results13, go_sem]) rfl ⟨true, rfl, by simp, HB1.out⟩
        · by_cases h1 : 300 < R.len
          · by_cases h2 : R.len ≤ 2000
            · go_wp2_with fail
              exact bodyPost_ret (v := .bool true) (by simp [results, Try.results13, go_sem]) rfl ⟨true, rfl, by simp, HB1.out⟩
            · go_wp2_with fail
              exact bodyPost_ret (v := .bool (decide (2000 < t))) (by simp [results, Try.results13, go_sem]) rfl ⟨_, rfl, fun _ => ⟨by omega, by omega⟩, HB1.out⟩
          · go_wp2_with fail
            exact bodyPost_ret (v := .bool (decide (2000 < t))) (by simp [results, Try.results13, go_sem]) rfl ⟨_, rfl, fun _ => ⟨by omega, by omega⟩, HB1.out⟩
end Go.Proofs.Ytmcmhgjlpffcnaa
