/- The chapter's ridge and rods, SameInts, and lives: the examples of the chapter come out. No condition. -/
import Derived.Test.YtmcmhgjlpffcnaaPS
set_option linter.unusedSimpArgs false
namespace Go.Proofs.Ytmcmhgjlpffcnaa
open Go.RowKit

theorem ints_le {w : World} {a : Option Addr} {c : Nat} {l : List Int} (h : IsInts w a c l) : l.length ≤ 9223372036854775807 := by
  rcases h with h | ⟨b, off, e, hl, hc, hc', hp⟩
  · rw [h]; simp
  · omega

set_option maxRecDepth 100000 in
set_option maxHeartbeats 4000000 in
theorem sameInts_any (la lb : List Int) (a b : Option Addr) (ca cb : Nat) (w : World) (ha : IsInts w a ca la) (hb : IsInts w b cb lb) :
    Calls Try.prog 21 #[.slice a la.length ca, .slice b lb.length cb] w fun e w' => e = .returned (.bool (decide (la = lb))) ∧ Below w.heap.size w w' := by
  have hla := ints_le ha
  have hlb := ints_le hb
  have HA := Lib.hid ha
  have HB := Lib.hid hb
  clear ha hb
  go_enter Try.func21, Try.ntmps21
  by_cases hl : la.length = lb.length
  rotate_left
  · have hne : la ≠ lb := fun e => hl (by rw [e])
    have hli : ¬ (la.length : Int) = (lb.length : Int) := by omega
    have HN := Lib.hid hne
    clear hne
    go_wp2_with fail
    go_ret
    exact ⟨by rw [decide_eq_false HN.out]; rfl, Below.refl _ _⟩
  have HL := Lib.hid hl
  rw [← hl]
  clear hl
  go_wp2_with fail
  go_loopw [5] (fun i wr => ∃ j : Nat, j ≤ la.length ∧ i = .int .i64 j ∧ la.take j = lb.take j ∧ Below w.heap.size w wr) (fun i _ => la.length - (intOf i).toNat)
  case atStart => exact ⟨0, Nat.zero_le _, rfl, by simp, Below.refl _ _⟩
  case round =>
    obtain ⟨j, hj, rfl, ht, g2⟩ := hrel
    have HT := Lib.hid ht
    have HG := Lib.hid g2
    by_cases hlj : j < la.length
    · have hqa : la[j]? = some la[j] := List.getElem?_eq_getElem hlj
      have hlj2 : j < lb.length := by have := HL.out; omega
      have hqb : lb[j]? = some lb[j] := List.getElem?_eq_getElem hlj2
      obtain ⟨b1, off1, e1, hb1, h11, h12, hp1⟩ := (HA.out.belowS g2).at hqa
      obtain ⟨b2, off2, e2, hb2, h21, h22, hp2⟩ := (HB.out.belowS g2).at hqb
      have c1 : wr.cell? ⟨b1, off1 + j * 1, none⟩ = some (.int .i64 la[j]) := hp1
      have c2 : wr.cell? ⟨b2, off2 + j * 1, none⟩ = some (.int .i64 lb[j]) := hp2
      rw [Nat.mul_one] at c1 c2
      have hta : la.take (j + 1) = la.take j ++ [la[j]] := by rw [List.take_add_one, hqa]; rfl
      have htb : lb.take (j + 1) = lb.take j ++ [lb[j]] := by rw [List.take_add_one, hqb]; rfl
      have hall : la = lb → la[j] = lb[j] := fun e => by subst e; rfl
      generalize la[j] = x at *
      generalize lb[j] = y at *
      subst e1
      subst e2
      have hj0 : (0 : Int) ≤ (j : Int) := Int.natCast_nonneg _
      have hj1 : (j : Int) < (la.length : Int) := by omega
      have HH := Lib.hid (And.intro hta (And.intro htb hall))
      clear ht g2 hp1 hp2 hta htb hall hqa hqb
      by_cases hxy : x = y
      · subst hxy
        have HTS := Lib.hid (show la.take (j + 1) = lb.take (j + 1) by rw [HH.out.1, HH.out.2.1, HT.out])
        go_wp2_with fail
        go_region
        all_goals (go_wp2_with fail)
        all_goals exact ⟨⟨j + 1, by omega, by simp, HTS.out, HG.out.drew⟩, by simp [intOf]; omega⟩
      · have HN := Lib.hid (show la ≠ lb from fun e => hxy (HH.out.2.2 e))
        go_wp2_with fail
        go_region
        all_goals (go_wp2_with fail)
        all_goals go_ret
        all_goals exact ⟨by rw [decide_eq_false HN.out]; rfl, HG.out.drew⟩
    · obtain rfl : j = la.length := by omega
      have he : la = lb := by
        have h1 := HT.out
        rwa [List.take_length, HL.out, List.take_length] at h1
      have HE := Lib.hid he
      clear ht g2 he
      go_wp2_with fail
      go_ret
      exact ⟨by rw [decide_eq_true HE.out]; rfl, HG.out⟩

/-! ### The chapter's ridge and rods -/
def exPcs : List Pce := [⟨⟨#[111, 110, 101]⟩, 1, 0, 0, 0⟩, ⟨⟨#[116, 119, 111]⟩, 2, 0, 0, 1⟩, ⟨⟨#[117, 112]⟩, 1, 0, 1, 3⟩, ⟨⟨#[100, 111, 119, 110]⟩, 1, 1, 0, 2⟩]
def exCts : List Cut := [⟨5, 2⟩, ⟨3, 2⟩, ⟨2, 1⟩]
set_option maxRecDepth 100000 in
set_option maxHeartbeats 4000000 in
theorem example_any (w : World) : Calls Try.prog 40 #[] w fun e w' => ∃ B, e = .returned (.agg #[.int .i64 5, .int .i64 0, .int .i64 0, .slice (some ⟨B, 0, none⟩) 4 4]) ∧ IsPcs w' (some ⟨B, 0, none⟩) 4 exPcs ∧ Below w.heap.size w w' := by
  go_enter Try.func40, Try.ntmps40
  go_wp2
  have k1 := (Blk.new w 24 #[.int .i64 5, .int .i64 0, .int .i64 0, .slice (some ⟨w.heap.size + 1, 0, none⟩) 4 4]).alloc (.cells #[.string ⟨#[111, 110, 101]⟩, .int .i64 1, .int .i64 0, .int .i64 0, .int .i64 0, .string ⟨#[116, 119, 111]⟩, .int .i64 2, .int .i64 0, .int .i64 0, .int .i64 1, .string ⟨#[117, 112]⟩, .int .i64 1, .int .i64 0, .int .i64 1, .int .i64 3, .string ⟨#[100, 111, 119, 110]⟩, .int .i64 1, .int .i64 1, .int .i64 0, .int .i64 2] 54)
  have k2 := Blk.new (w.alloc (.cells #[.int .i64 5, .int .i64 0, .int .i64 0, .slice (some ⟨w.heap.size + 1, 0, none⟩) 4 4] 24)) 54 #[.string ⟨#[111, 110, 101]⟩, .int .i64 1, .int .i64 0, .int .i64 0, .int .i64 0, .string ⟨#[116, 119, 111]⟩, .int .i64 2, .int .i64 0, .int .i64 0, .int .i64 1, .string ⟨#[117, 112]⟩, .int .i64 1, .int .i64 0, .int .i64 1, .int .i64 3, .string ⟨#[100, 111, 119, 110]⟩, .int .i64 1, .int .i64 1, .int .i64 0, .int .i64 2]
  have hb := ((Below.refl w.heap.size w).alloc (Nat.le_refl _) (.cells #[.int .i64 5, .int .i64 0, .int .i64 0, .slice (some ⟨w.heap.size + 1, 0, none⟩) 4 4] 24)).alloc (by simp) (.cells #[.string ⟨#[111, 110, 101]⟩, .int .i64 1, .int .i64 0, .int .i64 0, .int .i64 0, .string ⟨#[116, 119, 111]⟩, .int .i64 2, .int .i64 0, .int .i64 0, .int .i64 1, .string ⟨#[117, 112]⟩, .int .i64 1, .int .i64 0, .int .i64 1, .int .i64 3, .string ⟨#[100, 111, 119, 110]⟩, .int .i64 1, .int .i64 1, .int .i64 0, .int .i64 2] 54)
  rw [World.size_alloc] at k2
  generalize ((w.alloc (.cells #[.int .i64 5, .int .i64 0, .int .i64 0, .slice (some ⟨w.heap.size + 1, 0, none⟩) 4 4] 24)).alloc (.cells #[.string ⟨#[111, 110, 101]⟩, .int .i64 1, .int .i64 0, .int .i64 0, .int .i64 0, .string ⟨#[116, 119, 111]⟩, .int .i64 2, .int .i64 0, .int .i64 0, .int .i64 1, .string ⟨#[117, 112]⟩, .int .i64 1, .int .i64 0, .int .i64 1, .int .i64 3, .string ⟨#[100, 111, 119, 110]⟩, .int .i64 1, .int .i64 1, .int .i64 0, .int .i64 2] 54)) = W at *
  obtain ⟨c0, c1, c2, c3⟩ := rdg_cells (R := ⟨5, 0, 0, some ⟨w.heap.size + 1, 0, none⟩, 4, exPcs⟩) k1
  refine bodyPost_ret (v := .agg #[.int .i64 5, .int .i64 0, .int .i64 0, .slice (some ⟨w.heap.size + 1, 0, none⟩) 4 4]) (by simp only [exPcs, List.length_cons, List.length_nil] at c0 c1 c2 c3; simp [results, Try.results40, go_sem, c0, c1, c2, c3]) rfl ⟨_, rfl, .inr ⟨_, 0, rfl, k2.lt, by decide, by decide, fun j x hj => ?_⟩, hb⟩
  match j, hj with
  | 0, hj => cases hj; exact ⟨k2.cell 0, k2.cell 1, k2.cell 2, k2.cell 3, k2.cell 4⟩
  | 1, hj => cases hj; exact ⟨k2.cell 5, k2.cell 6, k2.cell 7, k2.cell 8, k2.cell 9⟩
  | 2, hj => cases hj; exact ⟨k2.cell 10, k2.cell 11, k2.cell 12, k2.cell 13, k2.cell 14⟩
  | 3, hj => cases hj; exact ⟨k2.cell 15, k2.cell 16, k2.cell 17, k2.cell 18, k2.cell 19⟩
  | j + 4, hj => cases hj
set_option maxRecDepth 100000 in
set_option maxHeartbeats 4000000 in
theorem rods_any (w : World) : Calls Try.prog 41 #[] w fun e w' => ∃ B, e = .returned (.agg #[.int .i64 10, .int .i64 1, .slice (some ⟨B, 0, none⟩) 3 3]) ∧ IsCts w' (some ⟨B, 0, none⟩) 3 exCts ∧ Below w.heap.size w w' := by
  go_enter Try.func41, Try.ntmps41
  go_wp2
  have k1 := (Blk.new w 43 #[.int .i64 10, .int .i64 1, .slice (some ⟨w.heap.size + 1, 0, none⟩) 3 3]).alloc (.cells #[.int .i64 5, .int .i64 2, .int .i64 3, .int .i64 2, .int .i64 2, .int .i64 1] 81)
  have k2 := Blk.new (w.alloc (.cells #[.int .i64 10, .int .i64 1, .slice (some ⟨w.heap.size + 1, 0, none⟩) 3 3] 43)) 81 #[.int .i64 5, .int .i64 2, .int .i64 3, .int .i64 2, .int .i64 2, .int .i64 1]
  have hb := ((Below.refl w.heap.size w).alloc (Nat.le_refl _) (.cells #[.int .i64 10, .int .i64 1, .slice (some ⟨w.heap.size + 1, 0, none⟩) 3 3] 43)).alloc (by simp) (.cells #[.int .i64 5, .int .i64 2, .int .i64 3, .int .i64 2, .int .i64 2, .int .i64 1] 81)
  rw [World.size_alloc] at k2
  generalize ((w.alloc (.cells #[.int .i64 10, .int .i64 1, .slice (some ⟨w.heap.size + 1, 0, none⟩) 3 3] 43)).alloc (.cells #[.int .i64 5, .int .i64 2, .int .i64 3, .int .i64 2, .int .i64 2, .int .i64 1] 81)) = W at *
  obtain ⟨c0, c1, c2⟩ := rds_cells (r := ⟨10, 1, some ⟨w.heap.size + 1, 0, none⟩, 3, exCts⟩) k1
  refine bodyPost_ret (v := .agg #[.int .i64 10, .int .i64 1, .slice (some ⟨w.heap.size + 1, 0, none⟩) 3 3]) (by simp only [exCts, List.length_cons, List.length_nil] at c0 c1 c2; simp [results, Try.results41, go_sem, c0, c1, c2]) rfl ⟨_, rfl, .inr ⟨_, 0, rfl, k2.lt, by decide, by decide, fun j x hj => ?_⟩, hb⟩
  match j, hj with
  | 0, hj => cases hj; exact ⟨k2.cell 0, k2.cell 1⟩
  | 1, hj => cases hj; exact ⟨k2.cell 2, k2.cell 3⟩
  | 2, hj => cases hj; exact ⟨k2.cell 4, k2.cell 5⟩
  | j + 3, hj => cases hj

theorem ex_ways (a : Option Addr) : waysE ⟨5, 0, 0, a, 4, exPcs⟩ = 0 ∧ waysN ⟨5, 0, 0, a, 4, exPcs⟩ = 21 := ⟨by kernel_rfl, by kernel_rfl⟩
theorem ex_lower (a : Option Addr) : rodsE ⟨10, 1, a, 3, exCts⟩ = 0 ∧ lowerV ⟨10, 1, a, 3, exCts⟩ = 3 ∧ lowerW ⟨10, 1, a, 3, exCts⟩ = [2, 1, 1] := ⟨by kernel_rfl, by kernel_rfl, by kernel_rfl⟩
end Go.Proofs.Ytmcmhgjlpffcnaa
