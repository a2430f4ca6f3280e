/- StrawUsed's walk. No condition. -/
import Derived.Test.YtghepojnimlafaaMCQ
import Derived.Test.YtghepojnimlafaaMDQ
set_option linter.unusedSimpArgs false
namespace Go.Proofs.Ytghepojnimlafaa
open Go.RowKit

theorem u8_bd {n : Int} (h : (Lit.int .u8 n).wf = true) : 0 ≤ n ∧ n ≤ 255 := by
  simp only [Lit.wf, Bool.and_eq_true, decide_eq_true_eq] at h
  exact h
theorem u8_mod {n : Int} (h : (Lit.int .u8 n).wf = true) {m : Nat} (hm : 0 < m) : ∃ k : Nat, k < m ∧ IntKind.i64.wrap n = n ∧ n.tmod (m : Int) = k := by
  obtain ⟨h0, h1⟩ := u8_bd h
  have h2 : 0 ≤ n % (m : Int) := Int.emod_nonneg _ (by omega)
  have h3 : n % (m : Int) < (m : Int) := Int.emod_lt_of_pos _ (by omega)
  refine ⟨(n % (m : Int)).toNat, by omega, by rw [IntKind.wrap_i64]; omega, ?_⟩
  rw [Int.tmod_eq_emod_of_nonneg h0]
  omega
/-- Do of a store and a chore that uses bundles. -/
theorem doUse_any (F : Frm) (S : Sto) (nm : ByteArray) (n : Int) (w : World) (hF : IsFarm w F) (hS : IsStore w S) (ht : tot S ≤ 1000) (hnm : nm.size ≤ maxLen) :
    Calls Try.prog 17 #[.agg #[.slice F.pa F.ps.length F.pc, .int .i64 F.dry], .agg #[.int .i64 S.year, .slice S.la S.last.length S.lc, .slice S.ga S.given.length S.gc, .slice S.ha S.heaps.length S.hc, .slice S.ua S.used.length S.uc, .slice S.wa S.waste.length S.wc], .agg #[.int .i64 7, .int .i64 0, .int .i64 (n), .string nm, .string ⟨#[]⟩, .int .i64 0, .int .i64 0, .int .i64 0, .int .i64 0]] w fun e w' => (∃ T, e = .returned (.tuple #[.agg #[.int .i64 T.year, .slice T.la T.last.length T.lc, .slice T.ga T.given.length T.gc, .slice T.ha T.heaps.length T.hc, .slice T.ua T.used.length T.uc, .slice T.wa T.waste.length T.wc], .int .i64 (doD F S (useC nm n)).1]) ∧ OwnSto w.heap.size w' T ∧ SameSto T (endS (doD F S (useC nm n)).1 (doD F S (useC nm n)).2)) ∧ Below w.heap.size w w' :=
  strawDo_any F S (useC nm n) w hF hS (ptot_fit ht) hnm (show (0 : Nat) ≤ maxLen from Nat.zero_le _)
end Go.Proofs.Ytghepojnimlafaa
