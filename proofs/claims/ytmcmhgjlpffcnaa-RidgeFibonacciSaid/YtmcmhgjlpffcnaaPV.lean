/- RidgeFibonacci's walk. No condition. -/
import Derived.Test.YtmcmhgjlpffcnaaPU
set_option linter.unusedSimpArgs false
namespace Go.Proofs.Ytmcmhgjlpffcnaa
open Go.RowKit

theorem u8_rem {n : Int} (h : (Lit.int .u8 n).wf = true) {m : Nat} (hm : 0 < m) : ∃ k : Nat, k < m ∧ IntKind.i64.wrap n = n ∧ n.tmod (m : Int) = k := by
  have h2 : 0 ≤ n ∧ n ≤ 255 := by
    simp only [Lit.wf, Bool.and_eq_true, decide_eq_true_eq] at h
    exact h
  refine ⟨(n % m).toNat, ?_, by rw [IntKind.wrap_i64]; omega, ?_⟩
  · have := Int.emod_lt_of_pos n (show (0 : Int) < m by omega)
    have := Int.emod_nonneg n (show (m : Int) ≠ 0 by omega)
    omega
  · rw [Int.tmod_eq_emod_of_nonneg h2.1]
    have := Int.emod_nonneg n (show (m : Int) ≠ 0 by omega)
    omega
/-- Fibonacci's numbers, from 1, 1 on. -/
def fibN : Nat → Nat
  | 0 => 1
  | 1 => 1
  | n + 2 => fibN n + fibN (n + 1)
theorem fib_pos : ∀ n, 1 ≤ fibN n
  | 0 => Nat.le_refl _
  | 1 => Nat.le_refl _
  | n + 2 => by
    have := fib_pos n
    simp only [fibN]
    omega
theorem fib_step (n : Nat) : fibN n ≤ fibN (n + 1) := by
  match n with
  | 0 => exact Nat.le_refl _
  | n + 1 =>
    have := fib_pos n
    simp only [fibN]
    omega
theorem fib_mono {i j : Nat} (h : i ≤ j) : fibN i ≤ fibN j := by
  induction j with
  | zero => rw [show i = 0 by omega]; exact Nat.le_refl _
  | succ j ih =>
    rcases Nat.lt_or_ge j i with h2 | h2
    · rw [show i = j + 1 by omega]; exact Nat.le_refl _
    · exact Nat.le_trans (ih h2) (fib_step j)
def fibAux : Nat → Nat → Nat → Nat
  | 0, a, _ => a
  | k + 1, a, b => fibAux k b (a + b)
theorem fibAux_eq : ∀ k j, fibAux k (fibN j) (fibN (j + 1)) = fibN (j + k)
  | 0, j => rfl
  | k + 1, j => by
    show fibAux k (fibN (j + 1)) (fibN j + fibN (j + 1)) = _
    rw [show fibN j + fibN (j + 1) = fibN (j + 1 + 1) from rfl, fibAux_eq k (j + 1)]
    congr 1
    omega
theorem fib_bd {j : Nat} (h : j ≤ 90) : fibN j ≤ 5000000000000000000 := by
  have h1 : fibN 90 = fibAux 90 1 1 := by
    have := fibAux_eq 90 0
    rw [Nat.zero_add] at this
    exact this.symm
  have h2 : fibAux 90 1 1 ≤ 5000000000000000000 := by decide +kernel
  have := fib_mono h
  omega
def fibPs : List Pce := [⟨⟨#[97]⟩, 1, 0, 0, 0⟩, ⟨⟨#[98]⟩, 2, 0, 0, 1⟩]
theorem fibPs_ok : ∀ x ∈ fibPs, x.ok := by
  intro x hx
  simp only [fibPs, List.mem_cons, List.not_mem_nil, or_false] at hx
  rcases hx with rfl | rfl <;> exact ⟨⟨by decide, by decide⟩, ⟨by decide, by decide⟩, by decide, by decide⟩
theorem wy_fib : ∀ n : Nat, wy fibPs 0 ⟨n, 0⟩ = fibN n
  | 0 => by
    rw [wy_step fibPs_ok]
    simp [baseW, fibPs, takB, fibN]
  | 1 => by
    rw [wy_step fibPs_ok]
    have h := wy_fib 0
    simp [baseW, fibPs, takB, fibN, behG] at h ⊢
    exact h
  | n + 2 => by
    rw [wy_step fibPs_ok]
    have h := wy_fib n
    have h1 := wy_fib (n + 1)
    simp [baseW, fibPs, takB, fibN, behG] at h h1 ⊢
    rw [h, h1, if_pos (by omega), if_pos (by omega)]
    omega
theorem fib_E (n : Nat) (h : n < 91) (a : Option Addr) : rdgE ⟨(n : Int), 0, 0, a, 2, fibPs⟩ = 0 := by
  have h1 : ∀ n : Nat, n < 91 → rdgE ⟨(n : Int), 0, 0, none, 2, fibPs⟩ = 0 := by decide +kernel
  exact h1 n h
theorem fib_ways (n : Nat) (h : n < 91) (a : Option Addr) : waysN ⟨(n : Int), 0, 0, a, 2, fibPs⟩ = fibN n ∧ waysE ⟨(n : Int), 0, 0, a, 2, fibPs⟩ = if MW < fibN n then 3 else 0 := by
  have h1 : waysN ⟨(n : Int), 0, 0, a, 2, fibPs⟩ = fibN n := wy_fib n
  refine ⟨h1, ?_⟩
  unfold waysE
  rw [fib_E n h a, h1]
  simp

set_option maxRecDepth 100000 in
set_option maxHeartbeats 8000000 in
theorem fibLaw_any (L : Int) (w : World) (h8 : (Lit.int .u8 L).wf = true) : Calls Try.prog 11 #[.int .u8 L] w fun e w' => e = .returned (.bool true) ∧ Below w.heap.size w w' := by
  obtain ⟨n, hn, hwr, htm⟩ := u8_rem h8 (m := 91) (by omega)
  rw [show ((91 : Nat) : Int) = 91 from rfl] at htm
  clear h8
  have kp := (Blk.new w 54 #[.string ⟨#[97]⟩, .int .i64 1, .int .i64 0, .int .i64 0, .int .i64 0, .string ⟨#[98]⟩, .int .i64 2, .int .i64 0, .int .i64 0, .int .i64 1]).alloc (.cells #[.int .i64 n, .int .i64 0, .int .i64 0, .slice (some ⟨w.heap.size, 0, none⟩) 2 2] 24)
  have kr := Blk.new (w.alloc (.cells #[.string ⟨#[97]⟩, .int .i64 1, .int .i64 0, .int .i64 0, .int .i64 0, .string ⟨#[98]⟩, .int .i64 2, .int .i64 0, .int .i64 0, .int .i64 1] 54)) 24 #[.int .i64 n, .int .i64 0, .int .i64 0, .slice (some ⟨w.heap.size, 0, none⟩) 2 2]
  have hb := ((Below.refl w.heap.size w).alloc (Nat.le_refl _) (.cells #[.string ⟨#[97]⟩, .int .i64 1, .int .i64 0, .int .i64 0, .int .i64 0, .string ⟨#[98]⟩, .int .i64 2, .int .i64 0, .int .i64 0, .int .i64 1] 54)).alloc (by simp) (.cells #[.int .i64 n, .int .i64 0, .int .i64 0, .slice (some ⟨w.heap.size, 0, none⟩) 2 2] 24)
  rw [World.size_alloc] at kr
  go_enter Try.func11, Try.ntmps11
  go_upto_region 3 with fail
  generalize ((w.alloc (.cells #[.string ⟨#[97]⟩, .int .i64 1, .int .i64 0, .int .i64 0, .int .i64 0, .string ⟨#[98]⟩, .int .i64 2, .int .i64 0, .int .i64 0, .int .i64 1] 54)).alloc (.cells #[.int .i64 n, .int .i64 0, .int .i64 0, .slice (some ⟨w.heap.size, 0, none⟩) 2 2] 24)) = w1 at *
  have hrow : IsPcs w1 (some ⟨w.heap.size, 0, none⟩) 2 fibPs := .inr ⟨_, 0, rfl, kp.lt, by decide, by decide, fun j x hj => by
    match j, hj with
    | 0, hj => cases hj; exact ⟨kp.cell 0, kp.cell 1, kp.cell 2, kp.cell 3, kp.cell 4⟩
    | 1, hj => cases hj; exact ⟨kp.cell 5, kp.cell 6, kp.cell 7, kp.cell 8, kp.cell 9⟩
    | j + 2, hj => cases hj⟩
  have HROW := Lib.hid hrow
  have KR := Lib.hid kr
  have HB := Lib.hid hb
  clear hrow kp kr hb hwr htm
  go_wp2_with fail
  go_loopw [5, 6, 7] (fun a b i wr => ∃ j : Nat, (j + 1 ≤ n ∨ j = 0) ∧ a = .int .i64 (fibN j : Nat) ∧ b = .int .i64 (fibN (j + 1) : Nat) ∧ i = .int .i64 ((j : Int) + 1) ∧ wr = w1) (fun _ _ i _ => 92 - (intOf i).toNat)
  case atStart => exact ⟨0, .inr rfl, rfl, rfl, rfl, rfl⟩
  case round =>
    obtain ⟨j, hj, rfl, rfl, rfl, rfl⟩ := hrel
    by_cases hjn : j + 1 < n
    · have hji : (j : Int) + 1 < (n : Int) := by omega
      have b1 := fib_bd (j := j) (by omega)
      have b2 := fib_bd (j := j + 1) (by omega)
      have b3 := fib_bd (j := j + 2) (by omega)
      have hst : fibN (j + 1 + 1) = fibN j + fibN (j + 1) := rfl
      have hs2 : fibN (j + 2) = fibN j + fibN (j + 1) := rfl
      have e1 : IntKind.i64.wrap ((fibN j : Int) + (fibN (j + 1) : Int)) = (fibN j : Int) + (fibN (j + 1) : Int) := by rw [IntKind.wrap_i64]; omega
      have HST := Lib.hid hst
      obtain ⟨y, hy⟩ : ∃ y, fibN (j + 1) = y := ⟨_, rfl⟩
      obtain ⟨x, hx⟩ : ∃ x, fibN j = x := ⟨_, rfl⟩
      rw [hy, hx] at e1
      rw [hx] at b1
      rw [hy] at b2
      rw [hx, hy]
      have HY := Lib.hid (show fibN (j + 1) = y ∧ fibN (j + 1 + 1) = x + y from ⟨hy, by rw [hst, hx, hy]⟩)
      clear hst hs2 b3 hx hy HST
      go_wp2_with fail
      exact ⟨⟨j + 1, .inl (by omega), by rw [HY.out.1], by rw [HY.out.2]; simp, by simp, trivial⟩, by simp [intOf]; omega⟩
    · have hji : ¬ ((j : Int) + 1 < (n : Int)) := by omega
      have hfn : fibN (j + 1) = fibN n := by
        rcases hj with hj | hj
        · rw [show j + 1 = n by omega]
        · subst hj
          rcases (show n = 0 ∨ n = 1 by omega) with h | h <;> subst h <;> rfl
      rw [hfn]
      clear hfn
      obtain ⟨c0, c1, c2, c3⟩ := rdg_cells (R := ⟨(n : Int), 0, 0, some ⟨w.heap.size, 0, none⟩, 2, fibPs⟩) KR.out
      have hl := KR.out.lt
      rw [show fibPs.length = 2 from rfl] at c3
      have hw := ways_any ⟨(n : Int), 0, 0, some ⟨w.heap.size, 0, none⟩, 2, fibPs⟩ wr HROW.out (by show fibPs.length ≤ _; decide) (by intro x hx; simp only [fibPs, List.mem_cons, List.not_mem_nil, or_false] at hx; rcases hx with rfl | rfl <;> decide)
      obtain ⟨hv1, hv2⟩ := fib_ways n hn (some ⟨w.heap.size, 0, none⟩)
      rw [hv1, hv2] at hw
      dsimp only at hw
      rw [show fibPs.length = 2 from rfl] at hw
      have hbn := fib_bd (j := n) (by omega)
      by_cases hM : MW < fibN n
      · rw [if_pos hM, show endI 3 ((fibN n : Nat) : Int) = 0 from rfl] at hw
        have hMi : (1000000000000000 : Int) < (fibN n : Int) := by unfold MW at hM; omega
        have HW := Lib.hid hw
        clear hw hM hv1 hv2
        generalize fibN n = F at *
        go_wp2_with fail
        refine HW.out.mono ?_
        rintro e w2 ⟨rfl, hb2⟩
        have HB2 := Lib.hid (HB.out.trans (hb2.mono HB.out.size))
        clear hb2 c0 c1 c2 c3 hl HW
        go_wp2_with fail
        refine (lives_any _).mono ?_
        rintro e w3 ⟨rfl, hb3⟩
        have HB3 := Lib.hid (HB2.out.trans (hb3.mono HB2.out.size))
        clear hb3
        go_wp2_with fail
        go_ret
        exact ⟨rfl, HB3.out⟩
      · rw [if_neg hM, show endI 0 ((fibN n : Nat) : Int) = (fibN n : Nat) from rfl] at hw
        have hMi : ¬ (1000000000000000 : Int) < (fibN n : Int) := by unfold MW at hM; omega
        have HW := Lib.hid hw
        clear hw hM hv1 hv2
        generalize fibN n = F at *
        go_wp2_with fail
        refine HW.out.mono ?_
        rintro e w2 ⟨rfl, hb2⟩
        have HB2 := Lib.hid (HB.out.trans (hb2.mono HB.out.size))
        clear hb2 c0 c1 c2 c3 hl HW
        go_wp2_with fail
        refine (lives_any _).mono ?_
        rintro e w3 ⟨rfl, hb3⟩
        have HB3 := Lib.hid (HB2.out.trans (hb3.mono HB2.out.size))
        clear hb3
        go_wp2_with fail
        go_ret
        exact ⟨rfl, HB3.out⟩
end Go.Proofs.Ytmcmhgjlpffcnaa
