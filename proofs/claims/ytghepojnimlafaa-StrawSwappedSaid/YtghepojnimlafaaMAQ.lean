/- StrawParts' walk. No condition. -/
import Derived.Test.YtghepojnimlafaaKLQ
import Derived.Test.YtghepojnimlafaaKZQ
import Derived.Test.YtghepojnimlafaaKYQ
import Derived.Test.YtghepojnimlafaaQJQ
import Derived.Test.YtghepojnimlafaaQFC
import Derived.Test.YtghepojnimlafaaQFH
import Derived.Deep.DeepCutAuto
set_option linter.unusedSimpArgs false
namespace Go.Proofs.Ytghepojnimlafaa
open Go.RowKit

/-- Chores from the first store on: all, those that are done, and parted anywhere. -/
theorem parts_math {F : Frm} {S : Sto} (hE : storeE F S = 0) (hS : tot S = 0) {l : List Chr} (hl : l.length ≤ 40) :
    ∃ (Y : Sto) (n : Nat) (ev : Int), runL F S l = (Y, n, ev) ∧ n ≤ l.length ∧ (ev = 0 ↔ n = l.length) ∧ runL F S (l.take n) = (Y, n, 0) ∧
      ∀ k, k ≤ n → ∃ T, runL F S (l.take k) = (T, k, 0) ∧ runL F T (l.drop k) = (Y, n - k, ev) ∧ storeE F T = 0 ∧ tot T ≤ 120 := by
  have h1 := runL_le (F := F) (l := l) (S := S)
  have h2 := runL_done_alone (F := F) (l := l) (S := S)
  have h3 := fun k h => runL_part (F := F) (l := l) (S := S) (k := k) h
  refine ⟨(runL F S l).1, (runL F S l).2.1, (runL F S l).2.2, rfl, h1.1, h1.2, ?_, fun k hk => ?_⟩
  · unfold allD at h2
    rw [h2, List.length_take, Nat.min_eq_left h1.1]
  · obtain ⟨T, h4, h5⟩ := h3 k hk
    have h6 := tot_run h4
    have h7 : storeE F T = 0 := by
      have := runL_keep (F := F) (l := l.take k) hE
      unfold allD at h4
      rwa [h4] at this
    unfold allD at h4
    rw [List.length_take, Nat.min_eq_left (Nat.le_trans hk h1.1)] at h4
    refine ⟨T, h4, h5, h7, ?_⟩
    rw [List.length_take] at h6
    omega
/-- Run from any store that may be. -/
theorem run_at (F : Frm) (S : Sto) (a : Option Addr) (c : Nat) (l : List Chr) (n : Nat) (w : World) (hn : l.length = n) (hF : IsFarm w F) (hS : IsStore w S) (hl : IsChrs w a c l) (hE : storeE F S = 0) (hT : tot S ≤ 120) (h40 : l.length ≤ 40) {Y : Sto} {m : Nat} {ev : Int} (hY : runL F S l = (Y, m, ev)) :
    Calls Try.prog 9 #[.agg #[.slice F.pa F.ps.length F.pc, .int .i64 F.dry], .agg #[.int .i64 S.year, .slice S.la S.last.length S.lc, .slice S.ga S.given.length S.gc, .slice S.ha S.heaps.length S.hc, .slice S.ua S.used.length S.uc, .slice S.wa S.waste.length S.wc], .slice a n c] w fun e w' =>
      (∃ T, e = .returned (.tuple #[.agg #[.int .i64 T.year, .slice T.la T.last.length T.lc, .slice T.ga T.given.length T.gc, .slice T.ha T.heaps.length T.hc, .slice T.ua T.used.length T.uc, .slice T.wa T.waste.length T.wc], .int .i64 m, .int .i64 ev]) ∧ OwnSto w.heap.size w' T ∧ SameSto T Y) ∧ Below w.heap.size w w' := by
  have h := run_any F S a c l w hF hS hl (by omega)
  unfold RunSaid at h
  rw [run_of hE (by omega), hY, hn] at h
  exact h
theorem run_first (F : Frm) (K1 K2 : Option Addr) (c1 c2 : Nat) (a : Option Addr) (c : Nat) (l : List Chr) (n : Nat) (w : World) (hn : l.length = n) (hF : IsFarm w F) (h1 : IsNums w K1 c1 (List.replicate F.ps.length (-1))) (h2 : IsNums w K2 c2 (List.replicate F.ps.length 0)) (hl : IsChrs w a c l) (hE : checkE F = 0) (h40 : l.length ≤ 40) {Y : Sto} {m : Nat} {ev : Int} (hY : runL F (firstOf F K1 K2 c1 c2) l = (Y, m, ev)) :
    Calls Try.prog 9 #[.agg #[.slice F.pa F.ps.length F.pc, .int .i64 F.dry], .agg #[.int .i64 0, .slice K1 F.ps.length c1, .slice K2 F.ps.length c2, .slice none 0 0, .slice none 0 0, .slice none 0 0], .slice a n c] w fun e w' =>
      (∃ T, e = .returned (.tuple #[.agg #[.int .i64 T.year, .slice T.la T.last.length T.lc, .slice T.ga T.given.length T.gc, .slice T.ha T.heaps.length T.hc, .slice T.ua T.used.length T.uc, .slice T.wa T.waste.length T.wc], .int .i64 m, .int .i64 ev]) ∧ OwnSto w.heap.size w' T ∧ SameSto T Y) ∧ Below w.heap.size w w' := by
  have h := run_at F (firstOf F K1 K2 c1 c2) a c l n w hn hF ⟨h1, h2, .inl rfl, .inl rfl, .inl rfl⟩ hl (first_ok hE K1 K2 c1 c2) (by rw [first_tot]; omega) h40 hY
  simpa only [firstOf, List.length_replicate, List.length_nil] using h
end Go.Proofs.Ytghepojnimlafaa
