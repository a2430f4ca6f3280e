/- The first store may be; how many parts there are behind chores; parts of a list of chores in memory. -/
import Derived.Test.YtghepojnimlafaaKWQ
import Derived.Test.YtghepojnimlafaaQKR
import Derived.Test.YtghepojnimlafaaQFC
namespace Go.Proofs.Ytghepojnimlafaa
open Go.RowKit

/-- The store that New returns. -/
def firstOf (F : Frm) (K1 K2 : Option Addr) (c1 c2 : Nat) : Sto := ⟨0, K1, c1, List.replicate F.ps.length (-1), K2, c2, List.replicate F.ps.length 0, none, 0, [], none, 0, [], none, 0, []⟩
theorem given_zero (n i : Nat) : givenAt (List.replicate n 0) i = 0 := by
  unfold givenAt
  rw [List.getElem?_replicate]
  split <;> simp_all
theorem sum_zero (n : Nat) : sumN (thereM [] [] []) n = 0 := by
  induction n with
  | zero => rfl
  | succ n ih => rw [sumN, ih]; rfl
theorem first_ok {F : Frm} (h : checkE F = 0) (K1 K2 : Option Addr) (c1 c2 : Nat) : storeE F (firstOf F K1 K2 c1 c2) = 0 := by
  refine GoodS.is ⟨?_, goodH_of (by rfl), by rfl, by rfl, ?_, fun i _ => ?_, ?_⟩ h
  · simp [yearsB, firstOf, isFromB, List.all_replicate]
  · simp [firstOf]
  · simp only [firstOf]; rw [given_zero]; rfl
  · simp only [firstOf]; rw [sum_zero]; decide
theorem first_tot (F : Frm) (K1 K2 : Option Addr) (c1 c2 : Nat) : tot (firstOf F K1 K2 c1 c2) = 0 := rfl
theorem tot_run {F : Frm} : ∀ {l : List Chr} {S T : Sto}, allD F S l T → tot T ≤ tot S + 3 * l.length
  | [], S, T, h => by cases h; exact Nat.le_add_right _ _
  | a :: l, S, T, h => by
    unfold allD at h
    simp only [runL] at h
    split at h
    · next h1 =>
      simp only [Prod.mk.injEq, List.length_cons, Nat.add_right_cancel_iff] at h
      have h2 : allD F (doD F S a).2 l T := by unfold allD; rw [← h.1, ← h.2.1, ← h.2.2]
      have h3 := tot_run h2
      have h4 := few_do F S a h1
      simp only [List.length_cons]
      omega
    · simp at h
theorem run_of {F : Frm} {S : Sto} (hE : storeE F S = 0) {l : List Chr} (hl : l.length ≤ 200) : runD F S l = runL F S l := by
  unfold runD
  rw [if_neg (by simp [hE]), if_neg (by omega)]

theorem add_zero_addr (b off k : Nat) : (⟨b, off, none⟩ : Addr).add k = ⟨b, off + k, none⟩ := by simp [Addr.add]
theorem size_chore (w : World) : (sizeOf (Try.prog.elem 25)).run Try.prog w = .ok 9 w := by kernel_rfl
/-- The first chores of a list in memory. -/
theorem chrs_pre {w : World} {a : Option Addr} {c : Nat} {l : List Chr} (h : IsChrs w a c l) {k : Nat} (hk : k ≤ l.length) :
    ∃ a', (∀ w', (Instr.slice 25 (.slice a l.length c) none (some (.int .i64 k)) none).run Try.prog w' = .ok (.slice a' k c) w') ∧ IsChrs w a' c (l.take k) := by
  by_cases hl : l = []
  · subst hl
    obtain rfl : k = 0 := by simpa using hk
    refine ⟨if c = 0 then a else a.map (·.add (0 * 9)), fun w' => ?_, .inl rfl⟩
    have := run_slice_h (P := Try.prog) w' 25 a 0 c (by kernel_rfl) .i64 0 (by omega) (by omega)
    rw [size_chore] at this
    exact this
  · obtain ⟨b, off, rfl, hb, hc, hc', hx⟩ := h.resolve_left hl
    have hl0 : 0 < l.length := List.length_pos_iff.2 hl
    refine ⟨some ⟨b, off, none⟩, fun w' => ?_, IsRow.pre (.inr ⟨b, off, rfl, hb, hc, hc', hx⟩) k⟩
    rw [run_slice_h (P := Try.prog) w' 25 (some ⟨b, off, none⟩) l.length c (by kernel_rfl) .i64 k (by omega) (by omega)]
    rw [size_chore]
    simp only [Result.andThen, sliced]
    rw [if_neg (by omega)]
    simp [Addr.add]
/-- The chores of a list in memory behind the first ones. -/
theorem chrs_drop {w : World} {a : Option Addr} {c : Nat} {l : List Chr} (h : IsChrs w a c l) {k : Nat} (hk : k ≤ l.length) :
    ∃ a' c', (∀ w', (Instr.slice 25 (.slice a l.length c) (some (.int .i64 k)) none none).run Try.prog w' = .ok (.slice a' (l.length - k) c') w') ∧ IsChrs w a' c' (l.drop k) := by
  have e : ∀ w', ∃ a', (Instr.slice 25 (.slice a l.length c) (some (.int .i64 k)) none none).run Try.prog w' = .ok (.slice a' (l.length - k) (c - k)) w' ∧ a' = (if c = k then a else a.map (·.add (k * 9))) := fun w' => by
    refine ⟨_, ?_, rfl⟩
    rw [run_slice_l (P := Try.prog) w' 25 a l.length c (by kernel_rfl) .i64 k (by omega) (by omega), size_chore]
    rfl
  refine ⟨if c = k then a else a.map (·.add (k * 9)), c - k, fun w' => ?_, ?_⟩
  · obtain ⟨a', h1, rfl⟩ := e w'
    exact h1
  · by_cases hkl : k = l.length
    · exact .inl (by rw [hkl]; simp)
    · obtain ⟨b, off, rfl, hb, hc, hc', hx⟩ := h.resolve_left (fun e => by subst e; simp at hk; exact hkl (by simpa using hk))
      refine .inr ⟨b, off + k * 9, ?_, hb, by rw [List.length_drop]; omega, by omega, fun j x hj => ?_⟩
      · rw [if_neg (by omega)]
        simp [Addr.add]
      · rw [List.getElem?_drop] at hj
        have := hx (k + j) x hj
        rwa [Nat.add_mul, ← Nat.add_assoc] at this
end Go.Proofs.Ytghepojnimlafaa
