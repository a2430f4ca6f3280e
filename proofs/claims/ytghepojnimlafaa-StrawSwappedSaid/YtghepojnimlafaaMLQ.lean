/- StrawBalances' walk. No condition. -/
import Derived.Test.YtghepojnimlafaaMEQ
import Derived.Test.YtghepojnimlafaaMJQ
import Derived.Test.YtghepojnimlafaaMKQ
set_option linter.unusedSimpArgs false
namespace Go.Proofs.Ytghepojnimlafaa
open Go.RowKit

/-- Counts in memory, a field behind the other. -/
def CntRow (w : World) (a : Option Addr) (c n : Nat) (f : Nat → Int) : Prop := n = 0 ∨ ∃ K, a = some ⟨K, 0, none⟩ ∧ n ≤ c ∧ c ≤ 9223372036854775807 ∧ K < w.heap.size ∧ ∀ i, i < n * 4 → w.cell? ⟨K, i, none⟩ = some (.int .i64 (f i))
abbrev cntS (S : Sto) : Nat → Int := cntF (givenAt S.given) (fun k => ofM k S.used) (fun k => leftM k S.heaps) (fun k => ofM k S.waste)
theorem CntRow.below {w w' : World} {a : Option Addr} {c n : Nat} {f : Nat → Int} (h : CntRow w a c n f) (hb : Below w.heap.size w w') : CntRow w' a c n f := by
  rcases h with h | ⟨K, rfl, h1, h2, h3, h4⟩
  · exact .inl h
  · exact .inr ⟨K, rfl, h1, h2, Nat.lt_of_lt_of_le h3 hb.size, fun i hi => (hb.cell (p := ⟨K, i, none⟩) h3).trans (h4 i hi)⟩
theorem CntRow.set {w w' : World} {a : Option Addr} {c n A : Nat} {f : Nat → Int} {S : Sto} {t : TypeId} (h : CntRow w a c n f) (kA : Blk w A (stoC S) t) (ht : Turn (fun k => k = A) w w') : CntRow w' a c n f := by
  rcases h with h | ⟨K, rfl, h1, h2, h3, h4⟩
  · exact .inl h
  · by_cases h0 : n = 0
    · exact .inl h0
    · have hne : K ≠ A := fun e => by
        have e1 := h4 1 (by omega)
        rw [e] at e1
        have e2 : w.cell? ⟨A, 1, none⟩ = some (.slice S.la S.last.length S.lc) := kA.cell 1
        rw [e1] at e2
        cases e2
      refine .inr ⟨K, rfl, h1, h2, Nat.lt_of_lt_of_le h3 ht.size, fun i hi => ?_⟩
      have hb := ht.block K h3 hne
      have : w'.cell? ⟨K, i, none⟩ = w.cell? ⟨K, i, none⟩ := by simp only [World.cell?, hb]
      exact this.trans (h4 i hi)
theorem CntRow.at {w : World} {a : Option Addr} {c n k : Nat} {S : Sto} (h : CntRow w a c n (cntS S)) (hk : k < n) : ∃ K, a = some ⟨K, 0, none⟩ ∧ n ≤ c ∧ c ≤ 9223372036854775807 ∧ K < w.heap.size ∧
    w.cell? ⟨K, k * 4, none⟩ = some (.int .i64 (givenAt S.given k)) ∧ w.cell? ⟨K, k * 4 + 1, none⟩ = some (.int .i64 (ofM k S.used)) ∧ w.cell? ⟨K, k * 4 + 2, none⟩ = some (.int .i64 (leftM k S.heaps)) ∧ w.cell? ⟨K, k * 4 + 3, none⟩ = some (.int .i64 (ofM k S.waste)) := by
  rcases h with h | ⟨K, rfl, h1, h2, h3, h4⟩
  · omega
  · refine ⟨K, rfl, h1, h2, h3, ?_, ?_, ?_, ?_⟩
    · exact (h4 _ (by omega)).trans (congrArg (fun z => some (Value.int .i64 z)) (cntF_0 _ _ _ _ k))
    · exact (h4 _ (by omega)).trans (congrArg (fun z => some (Value.int .i64 z)) (cntF_1 _ _ _ _ k))
    · exact (h4 _ (by omega)).trans (congrArg (fun z => some (Value.int .i64 z)) (cntF_2 _ _ _ _ k))
    · exact (h4 _ (by omega)).trans (congrArg (fun z => some (Value.int .i64 z)) (cntF_3 _ _ _ _ k))
theorem cnt_first (F : Frm) (K1 K2 : Option Addr) (c1 c2 : Nat) (i : Nat) : cntS (firstOf F K1 K2 c1 c2) i = 0 := by
  unfold cntS cntF
  simp only [firstOf, given_zero, ofM, leftM]
  repeat' split
  all_goals rfl
theorem ledger_row (F : Frm) (S : Sto) (w : World) (hF : IsFarm w F) (hS : IsStore w S) (hT : tot S ≤ 1000) (hE : storeE F S = 0) :
    Calls Try.prog 10 #[.agg #[.slice F.pa F.ps.length F.pc, .int .i64 F.dry], .agg #[.int .i64 S.year, .slice S.la S.last.length S.lc, .slice S.ga S.given.length S.gc, .slice S.ha S.heaps.length S.hc, .slice S.ua S.used.length S.uc, .slice S.wa S.waste.length S.wc]] w fun e w' => ∃ a c, e = .returned (.tuple #[.slice a F.ps.length c, .int .i64 0]) ∧ CntRow w' a c F.ps.length (cntS S) ∧ Below w.heap.size w w' := by
  refine (ledger_any F S w hF hS (ptot_fit hT)).mono ?_
  rintro e w' ⟨a, n, c, rfl, hif, hb⟩
  rw [hE, if_pos rfl] at hif
  obtain ⟨rfl, h⟩ := hif
  refine ⟨a, c, by rw [hE], ?_, hb⟩
  rcases h with h | ⟨K, rfl, h1, h2, h3, h4⟩
  · exact .inl h
  · exact .inr ⟨K, rfl, h1, h2, h3, h4⟩
theorem check_zero (F : Frm) (S : Sto) (w : World) (hF : IsFarm w F) (hS : IsStore w S) (hT : tot S ≤ 1000) (hE : storeE F S = 0) :
    Calls Try.prog 15 #[.agg #[.slice F.pa F.ps.length F.pc, .int .i64 F.dry], .agg #[.int .i64 S.year, .slice S.la S.last.length S.lc, .slice S.ga S.given.length S.gc, .slice S.ha S.heaps.length S.hc, .slice S.ua S.used.length S.uc, .slice S.wa S.waste.length S.wc]] w fun e w' => e = .returned (.int .i64 0) ∧ Below w.heap.size w w' := by
  refine (checkStore_any F S w hF hS (ptot_fit hT)).mono ?_
  rintro e w' ⟨rfl, hb⟩
  exact ⟨by rw [hE], hb⟩
theorem strawDo_end (F : Frm) (S : Sto) (x : Chr) (w : World) (hF : IsFarm w F) (hS : IsStore w S) (hT : tot S ≤ 1000) (hn1 : x.name.size ≤ maxLen) (hn2 : x.other.size ≤ maxLen) :
    Calls Try.prog 17 #[.agg #[.slice F.pa F.ps.length F.pc, .int .i64 F.dry], .agg #[.int .i64 S.year, .slice S.la S.last.length S.lc, .slice S.ga S.given.length S.gc, .slice S.ha S.heaps.length S.hc, .slice S.ua S.used.length S.uc, .slice S.wa S.waste.length S.wc], .agg #[.int .i64 x.kind, .int .i64 x.plot, .int .i64 x.loads, .string x.name, .string x.other, .int .i64 x.days, .int .i64 x.per, .int .i64 x.rlo, .int .i64 x.rhi]] w fun e w' => (∃ T, e = .returned (.tuple #[.agg #[.int .i64 T.year, .slice T.la T.last.length T.lc, .slice T.ga T.given.length T.gc, .slice T.ha T.heaps.length T.hc, .slice T.ua T.used.length T.uc, .slice T.wa T.waste.length T.wc], .int .i64 (doD F S x).1]) ∧ OwnSto w.heap.size w' T ∧ SameSto T (endS (doD F S x).1 (doD F S x).2)) ∧ Below w.heap.size w w' :=
  strawDo_any F S x w hF hS (ptot_fit hT) hn1 hn2
/-- What a field's ledger is behind a chore. -/
theorem field_math {F : Frm} {S V T : Sto} {x : Chr} (hE : storeE F S = 0) (hV : (doD F S x).1 = 0) (hVe : (doD F S x).2 = V) (hs : SameSto T V) {k : Nat} (hk : k < F.ps.length) :
    givenAt T.given k = ofM k T.used + leftM k T.heaps + ofM k T.waste ∧ givenAt T.given k = givenAt S.given k + (if x.kind = 2 ∧ x.plot = (k : Int) then x.loads else 0) ∧ ofM k S.used ≤ ofM k T.used ∧ ofM k S.waste ≤ ofM k T.waste ∧
      (ofM k T.used + leftM k T.heaps + ofM k T.waste ≤ 100000 ∧ 0 ≤ ofM k T.used ∧ 0 ≤ leftM k T.heaps ∧ 0 ≤ ofM k T.waste) ∧ (0 ≤ givenAt S.given k ∧ givenAt S.given k ≤ 100000) := by
  have hm := moves_do hE hV
  rw [hVe] at hm
  have hET : storeE F T = 0 := by rw [same_storeE hs, ← hVe]; exact keep_do hV
  have gT := goodS_of hET
  have gS := goodS_of hE
  have hb := gT.bal k hk
  have hbS := gS.bal k hk
  have hcS := gS.cap k
  simp only [thereM] at hb hbS
  refine ⟨hb, ?_, ?_, ?_, gT.cap k, ?_⟩
  · rw [hs.given]; exact hm.given k
  · rw [hs.used]; exact hm.used k
  · rw [hs.waste]; exact hm.waste k
  · omega
end Go.Proofs.Ytghepojnimlafaa
