/- StrawKnown's walk: the chores of the chapter's examples, run by the kernel; what the ledger of the store is that they come to; the law. No condition. -/
import Derived.Test.YtkohmgmoeffgnaaKLQ
import Derived.Test.YtkohmgmoeffgnaaQFC
import Derived.Test.YtkohmgmoeffgnaaQJR
set_option linter.unusedSimpArgs false
namespace Go.Proofs.Ytkohmgmoeffgnaa
open Go.RowKit

/-! ### The chores of the chapter's examples: what they come to. -/
def nmA : ByteArray := ⟨#[97]⟩
def nmR : ByteArray := ⟨#[114]⟩
def nmE : ByteArray := ⟨#[]⟩
def knownL : List Chr := [⟨2, 0, 44, nmA, nmE, 0, 0, 0, 0⟩, ⟨3, 0, 0, nmA, nmE, 20, 0, 0, 4⟩, ⟨3, 0, 0, nmA, nmE, 2, 0, 0, 0⟩, ⟨4, 0, 4, nmA, nmE, 0, 0, 0, 0⟩, ⟨6, 0, 0, nmA, nmR, 0, 3, 0, 0⟩, ⟨7, 0, 5, nmR, nmE, 0, 0, 0, 0⟩]
def firstS (K1 K2 : Option Addr) (c1 c2 : Nat) : Sto := ⟨0, K1, c1, [-1, -1], K2, c2, [0, 0], none, 0, [], none, 0, [], none, 0, []⟩
example : strB nmA nmR = false := by kernel_rfl
example : strB nmA nmA = true := by kernel_rfl
example : nameB nmA = true := by kernel_rfl
example (n : Nat) : checkE (farmF n) = 0 := by kernel_rfl
example (n : Nat) (K1 K2 : Option Addr) (c1 c2 : Nat) : storeE (farmF n) (firstS K1 K2 c1 c2) = 0 := by kernel_rfl
theorem known_run (n : Nat) (K1 K2 : Option Addr) (c1 c2 : Nat) : (runD (farmF n) (firstS K1 K2 c1 c2) knownL).2 = (6, 0) := by kernel_rfl

abbrev listC : Array Value := #[.int .i64 2, .int .i64 0, .int .i64 44, .string ⟨#[97]⟩, .string ⟨#[]⟩, .int .i64 0, .int .i64 0, .int .i64 0, .int .i64 0,
  .int .i64 3, .int .i64 0, .int .i64 0, .string ⟨#[97]⟩, .string ⟨#[]⟩, .int .i64 20, .int .i64 0, .int .i64 0, .int .i64 4,
  .int .i64 3, .int .i64 0, .int .i64 0, .string ⟨#[97]⟩, .string ⟨#[]⟩, .int .i64 2, .int .i64 0, .int .i64 0, .int .i64 0,
  .int .i64 4, .int .i64 0, .int .i64 4, .string ⟨#[97]⟩, .string ⟨#[]⟩, .int .i64 0, .int .i64 0, .int .i64 0, .int .i64 0,
  .int .i64 6, .int .i64 0, .int .i64 0, .string ⟨#[97]⟩, .string ⟨#[114]⟩, .int .i64 0, .int .i64 3, .int .i64 0, .int .i64 0,
  .int .i64 7, .int .i64 0, .int .i64 5, .string ⟨#[114]⟩, .string ⟨#[]⟩, .int .i64 0, .int .i64 0, .int .i64 0, .int .i64 0]
theorem list_chrs {w : World} {B : Nat} (k : Blk w B listC 46) : IsChrs w (some ⟨B, 0, none⟩) 6 knownL := by
  refine .inr ⟨B, 0, rfl, k.lt, Nat.le_refl _, by decide, fun j x hj => ?_⟩
  have hs : ∀ b : ByteArray, b.size ≤ 1 → b.size ≤ maxLen := fun b h => by unfold maxLen; omega
  match j, hj with
  | 0, hj => cases hj; exact ⟨⟨k.cell 0, k.cell 1, k.cell 2, k.cell 3, k.cell 4, k.cell 5, k.cell 6, k.cell 7, k.cell 8⟩, hs _ (by decide), hs _ (by decide)⟩
  | 1, hj => cases hj; exact ⟨⟨k.cell 9, k.cell 10, k.cell 11, k.cell 12, k.cell 13, k.cell 14, k.cell 15, k.cell 16, k.cell 17⟩, hs _ (by decide), hs _ (by decide)⟩
  | 2, hj => cases hj; exact ⟨⟨k.cell 18, k.cell 19, k.cell 20, k.cell 21, k.cell 22, k.cell 23, k.cell 24, k.cell 25, k.cell 26⟩, hs _ (by decide), hs _ (by decide)⟩
  | 3, hj => cases hj; exact ⟨⟨k.cell 27, k.cell 28, k.cell 29, k.cell 30, k.cell 31, k.cell 32, k.cell 33, k.cell 34, k.cell 35⟩, hs _ (by decide), hs _ (by decide)⟩
  | 4, hj => cases hj; exact ⟨⟨k.cell 36, k.cell 37, k.cell 38, k.cell 39, k.cell 40, k.cell 41, k.cell 42, k.cell 43, k.cell 44⟩, hs _ (by decide), hs _ (by decide)⟩
  | 5, hj => cases hj; exact ⟨⟨k.cell 45, k.cell 46, k.cell 47, k.cell 48, k.cell 49, k.cell 50, k.cell 51, k.cell 52, k.cell 53⟩, hs _ (by decide), hs _ (by decide)⟩
  | j + 6, hj => exact absurd hj (by simp [knownL])
/-- The store that the examples come to, and its ledger. -/
def knownT (n : Nat) (K1 K2 : Option Addr) (c1 c2 : Nat) : Sto := (runD (farmF n) (firstS K1 K2 c1 c2) knownL).1
theorem known_store (n : Nat) (K1 K2 : Option Addr) (c1 c2 : Nat) : storeE (farmF n) (knownT n K1 K2 c1 c2) = 0 := by kernel_rfl
theorem known_tot (n : Nat) (K1 K2 : Option Addr) (c1 c2 : Nat) : tot (knownT n K1 K2 c1 c2) ≤ 1000 := by
  have h : Nat.ble (tot (knownT n K1 K2 c1 c2)) 1000 = true := by kernel_rfl
  exact Nat.le_of_ble_eq_true h
theorem known_cnt0 (n : Nat) (K1 K2 : Option Addr) (c1 c2 : Nat) :
    (List.range 8).map (cntF (givenAt (knownT n K1 K2 c1 c2).given) (fun k : Nat => ofM k (knownT n K1 K2 c1 c2).used) (fun k : Nat => leftM k (knownT n K1 K2 c1 c2).heaps) (fun k : Nat => ofM k (knownT n K1 K2 c1 c2).waste)) = [44, 15, 25, 4, 0, 0, 0, 0] := by kernel_rfl
theorem known_cnt (n : Nat) (K1 K2 : Option Addr) (c1 c2 : Nat) (T : Sto) (h : SameSto T (knownT n K1 K2 c1 c2)) :
    (List.range 8).map (cntF (givenAt T.given) (fun k : Nat => ofM k T.used) (fun k : Nat => leftM k T.heaps) (fun k : Nat => ofM k T.waste)) = [44, 15, 25, 4, 0, 0, 0, 0] := by
  have e1 : (fun k : Nat => leftM k T.heaps) = fun k : Nat => leftM k (knownT n K1 K2 c1 c2).heaps := funext fun k => same_left h.sameH k
  rw [h.given, h.used, h.waste, e1]
  exact known_cnt0 n K1 K2 c1 c2

theorem run_known (n B : Nat) (K1 K2 : Option Addr) (c1 c2 : Nat) (w : World) (hF : IsFarm w (farmF n)) (hS : IsStore w (firstS K1 K2 c1 c2)) (hl : IsChrs w (some ⟨B, 0, none⟩) 6 knownL) :
    Calls Try.prog 14 #[.agg #[.slice (some ⟨n + 1, 0, none⟩) 2 2, .int .i64 150], .agg #[.int .i64 0, .slice K1 2 c1, .slice K2 2 c2, .slice none 0 0, .slice none 0 0, .slice none 0 0], .slice (some ⟨B, 0, none⟩) 6 6] w
      fun e w' => (∃ T, e = .returned (.tuple #[stoV T, .int .i64 6, .int .i64 0]) ∧ OwnSto w.heap.size w' T ∧ SameSto T (knownT n K1 K2 c1 c2)) ∧ Below w.heap.size w w' := by
  have h := run_any (farmF n) (firstS K1 K2 c1 c2) (some ⟨B, 0, none⟩) 6 knownL w hF hS hl (Nat.le_of_ble_eq_true (show Nat.ble (tot (firstS K1 K2 c1 c2) + 3 * knownL.length) 1000 = true from rfl))
  refine h.mono ?_
  rintro e w' ⟨⟨T, rfl, h1, h2⟩, hb⟩
  rw [known_run]
  exact ⟨⟨T, rfl, h1, h2⟩, hb⟩

theorem of_map8 {f : Nat → Int} {a0 a1 a2 a3 a4 a5 a6 a7 : Int} (h : (List.range 8).map f = [a0, a1, a2, a3, a4, a5, a6, a7]) :
    f 0 = a0 ∧ f 1 = a1 ∧ f 2 = a2 ∧ f 3 = a3 ∧ f 4 = a4 ∧ f 5 = a5 ∧ f 6 = a6 ∧ f 7 = a7 := by
  have h' : [f 0, f 1, f 2, f 3, f 4, f 5, f 6, f 7] = [a0, a1, a2, a3, a4, a5, a6, a7] := h
  simpa using h'
theorem ledger_known (n : Nat) (K1 K2 : Option Addr) (c1 c2 : Nat) (T : Sto) (w : World) (hF : IsFarm w (farmF n)) (hS : IsStore w T) (hs : SameSto T (knownT n K1 K2 c1 c2)) :
    Calls Try.prog 17 #[.agg #[.slice (some ⟨n + 1, 0, none⟩) 2 2, .int .i64 150], .agg #[.int .i64 T.year, .slice T.la T.last.length T.lc, .slice T.ga T.given.length T.gc, .slice T.ha T.heaps.length T.hc, .slice T.ua T.used.length T.uc, .slice T.wa T.waste.length T.wc]] w
      fun e w' => ∃ K c : Nat, e = .returned (.tuple #[.slice (some ⟨K, 0, none⟩) 2 c, .int .i64 0]) ∧ 2 ≤ c ∧ K < w'.heap.size ∧ w'.cell? ⟨K, 0, none⟩ = some (.int .i64 44) ∧ w'.cell? ⟨K, 1, none⟩ = some (.int .i64 15) ∧ w'.cell? ⟨K, 2, none⟩ = some (.int .i64 25) ∧ w'.cell? ⟨K, 3, none⟩ = some (.int .i64 4) ∧ w'.cell? ⟨K, 4, none⟩ = some (.int .i64 0) ∧ w'.cell? ⟨K, 5, none⟩ = some (.int .i64 0) ∧ w'.cell? ⟨K, 6, none⟩ = some (.int .i64 0) ∧ w'.cell? ⟨K, 7, none⟩ = some (.int .i64 0) ∧ Below w.heap.size w w' := by
  have h0 : storeE (farmF n) T = 0 := (same_storeE hs).trans (known_store n K1 K2 c1 c2)
  have hfit : T.fit := ptot_fit (by rw [same_tot hs]; exact known_tot n K1 K2 c1 c2)
  refine (ledger_any (farmF n) T w hF hS hfit).mono ?_
  rintro e w' ⟨a, m, c, rfl, hif, hb⟩
  rw [h0, if_pos rfl] at hif
  obtain ⟨hm, h⟩ := hif
  have hm2 : m = 2 := hm
  subst hm2
  rcases h with h | ⟨K, rfl, hc, _, hK, hcell⟩
  · cases h
  obtain ⟨v0, v1, v2, v3, v4, v5, v6, v7⟩ := of_map8 (known_cnt n K1 K2 c1 c2 T hs)
  exact ⟨K, c, by rw [h0], hc, hK, (hcell 0 (by decide)).trans (by rw [v0]), (hcell 1 (by decide)).trans (by rw [v1]), (hcell 2 (by decide)).trans (by rw [v2]), (hcell 3 (by decide)).trans (by rw [v3]), (hcell 4 (by decide)).trans (by rw [v4]), (hcell 5 (by decide)).trans (by rw [v5]), (hcell 6 (by decide)).trans (by rw [v6]), (hcell 7 (by decide)).trans (by rw [v7]), hb⟩

theorem run_equalIn_cnt (d : Nat) (w : World) :
    ((Op.equalIn (d + 2) 51 (.agg #[.int .i64 44, .int .i64 15, .int .i64 25, .int .i64 4]) (.agg #[.int .i64 44, .int .i64 15, .int .i64 25, .int .i64 4])).run Try.prog w = .ok true w) ∧
    (Op.equalIn (d + 2) 51 (.agg #[.int .i64 0, .int .i64 0, .int .i64 0, .int .i64 0]) (.agg #[.int .i64 0, .int .i64 0, .int .i64 0, .int .i64 0])).run Try.prog w = .ok true w := by
  constructor
  all_goals
    rw [run_equalIn_struct w (d + 1) 51 _ _ (by kernel_rfl) (by kernel_rfl)]
    simp [Program.fieldsOf, Try.underlying51, Op.eqFields, go_sem]

set_option maxRecDepth 100000 in
set_option maxHeartbeats 8000000 in
theorem knownLaw_any (w : World) : Calls Try.prog 4 #[] w fun e w' => e = .returned (.bool true) ∧ Below w.heap.size w w' := by
  have hnew : ∀ n w', IsFarm w' (farmF n) → Calls Try.prog 13 #[.agg #[.slice (some ⟨n + 1, 0, none⟩) 2 2, .int .i64 150]] w' fun e w'' => NewSaid (farmF n) e w'' ∧ Below w'.heap.size w' w'' := fun n w' h => new_any (farmF n) w' h
  have hch : ∀ n, checkE (farmF n) = 0 := fun n => by kernel_rfl
  go_enter Try.func4, Try.ntmps4
  go_wp2_with fail
  refine (farm_any w).mono ?_
  rintro e w1 ⟨rfl, hF, hb1⟩
  have hnw := hb1.size
  obtain ⟨n, hn⟩ : ∃ n, n = w.heap.size := ⟨_, rfl⟩
  rw [← hn] at hF hnw ⊢
  have HN := Lib.hid hn
  clear hn
  have HB1 := Lib.hid hb1
  clear hb1
  have kB := Blk.new w1 24 #[.slice (some ⟨n + 1, 0, none⟩) 2 2, .int .i64 150]
  have hbB : Below w1.heap.size w1 (w1.alloc (.cells #[.slice (some ⟨n + 1, 0, none⟩) 2 2, .int .i64 150] 24)) := (Below.refl _ w1).alloc (Nat.le_refl _) _
  have hF2 := hF.below hbB
  go_upto_region 2 with fail
  generalize w1.alloc (.cells #[.slice (some ⟨n + 1, 0, none⟩) 2 2, .int .i64 150] 24) = w2 at *
  have p0 : w2.cell? ⟨w1.heap.size, 0, none⟩ = some (.slice (some ⟨n + 1, 0, none⟩) 2 2) := kB.cell 0
  have p1 : w2.cell? ⟨w1.heap.size, 1, none⟩ = some (.int .i64 150) := kB.cell 1
  have lB := kB.lt
  have HF2 := Lib.hid hF2
  have KB := Lib.hid kB
  have HBB := Lib.hid hbB
  have HNEW := Lib.hid hnew
  clear hF hF2 kB hbB hnew
  go_wp2_with fail
  refine (HNEW.out n _ HF2.out).mono ?_
  rintro e w3 ⟨hs, hb3⟩
  rcases hs with ⟨hx, _⟩ | ⟨_, v, rfl, K1, K2, c1, c2, rfl, hk1, hk2⟩
  · exact absurd (hch n) hx
  have HB3 := Lib.hid (HB1.out.trans ((HBB.out.trans (hb3.mono HBB.out.size)).mono (by rw [← HN.out]; exact hnw)))
  have kB3 := KB.out.belowS hb3
  have hF3 := HF2.out.below hb3
  have hSt : IsStore w3 (firstS K1 K2 c1 c2) := ⟨hk1, hk2, .inl rfl, .inl rfl, .inl rfl⟩
  have kS := Blk.new w3 33 #[.int .i64 0, .slice K1 2 c1, .slice K2 2 c2, .slice none 0 0, .slice none 0 0, .slice none 0 0]
  have hbS : Below w3.heap.size w3 (w3.alloc (.cells #[.int .i64 0, .slice K1 2 c1, .slice K2 2 c2, .slice none 0 0, .slice none 0 0, .slice none 0 0] 33)) := (Below.refl _ w3).alloc (Nat.le_refl _) _
  have HF3 := Lib.hid hF3
  have HW3 := Lib.hid hbS
  have HGE := Lib.hid HB3.out.size
  have kB4 := kB3.belowS hbS
  have hF4 := hF3.below hbS
  have hS4 := hSt.below hbS
  have HB4 := Lib.hid (HB3.out.trans (hbS.mono HB3.out.size))
  have HGE2 := Lib.hid (show w1.heap.size < w3.heap.size from Nat.lt_of_lt_of_le KB.out.lt hb3.size)
  clear p0 p1 lB hb3 kB3 hF3 hSt hk1 hk2 hbS hch
  simp only [farmF, List.length_cons, List.length_nil, Nat.zero_add, Nat.reduceAdd]
  go_upto_region 6 with fail
  have kL := Blk.new (w3.alloc (.cells #[.int .i64 0, .slice K1 2 c1, .slice K2 2 c2, .slice none 0 0, .slice none 0 0, .slice none 0 0] 33)) 46 listC
  have hbL : Below (w3.alloc (.cells #[.int .i64 0, .slice K1 2 c1, .slice K2 2 c2, .slice none 0 0, .slice none 0 0, .slice none 0 0] 33)).heap.size (w3.alloc (.cells #[.int .i64 0, .slice K1 2 c1, .slice K2 2 c2, .slice none 0 0, .slice none 0 0, .slice none 0 0] 33)) ((w3.alloc (.cells #[.int .i64 0, .slice K1 2 c1, .slice K2 2 c2, .slice none 0 0, .slice none 0 0, .slice none 0 0] 33)).alloc (.cells listC 46)) := (Below.refl _ _).alloc (Nat.le_refl _) _
  have kB5 := kB4.belowS hbL
  have kS5 := kS.belowS hbL
  have HF5 := Lib.hid (hF4.below hbL)
  have HS5 := Lib.hid (hS4.below hbL)
  have HB5 := Lib.hid (HB4.out.trans (hbL.mono HB4.out.size))
  have HW5 := Lib.hid (HW3.out.trans (hbL.mono HW3.out.size))
  clear kB4 kS hF4 hS4 HB4 hbL HB3 HBB KB HF2 HW3
  generalize (w3.alloc (.cells #[.int .i64 0, .slice K1 2 c1, .slice K2 2 c2, .slice none 0 0, .slice none 0 0, .slice none 0 0] 33)).alloc (.cells listC 46) = w5 at *
  simp only [World.size_alloc] at kL
  have f0 : w5.cell? ⟨w1.heap.size, 0, none⟩ = some (.slice (some ⟨n + 1, 0, none⟩) 2 2) := kB5.cell 0
  have f1 : w5.cell? ⟨w1.heap.size, 1, none⟩ = some (.int .i64 150) := kB5.cell 1
  have d0 : w5.cell? ⟨w3.heap.size, 0, none⟩ = some (.int .i64 0) := kS5.cell 0
  have d1 : w5.cell? ⟨w3.heap.size, 1, none⟩ = some (.slice K1 2 c1) := kS5.cell 1
  have d2 : w5.cell? ⟨w3.heap.size, 2, none⟩ = some (.slice K2 2 c2) := kS5.cell 2
  have d3 : w5.cell? ⟨w3.heap.size, 3, none⟩ = some (.slice none 0 0) := kS5.cell 3
  have d4 : w5.cell? ⟨w3.heap.size, 4, none⟩ = some (.slice none 0 0) := kS5.cell 4
  have d5 : w5.cell? ⟨w3.heap.size, 5, none⟩ = some (.slice none 0 0) := kS5.cell 5
  have lF := kB5.lt
  have lS := kS5.lt
  have HL5 := Lib.hid (list_chrs kL)
  have KB5 := Lib.hid kB5
  have KS5 := Lib.hid kS5
  clear kL kB5 kS5
  go_wp2_with fail
  refine (run_known n _ K1 K2 c1 c2 w5 HF5.out HS5.out HL5.out).mono ?_
  rintro e w6 ⟨⟨T, rfl, hT, hsame⟩, hb6⟩
  have HF6 := Lib.hid (HF5.out.below hb6)
  have kB6 := KB5.out.belowS hb6
  have kS6 := KS5.out.belowS hb6
  have HB6 := Lib.hid (HB5.out.trans (hb6.mono HB5.out.size))
  have HW6 := Lib.hid (HW5.out.trans (hb6.mono HW5.out.size))
  have HS56 := Lib.hid hb6.size
  have HLT := Lib.hid (show w3.heap.size < w5.heap.size from lS)
  have HT := Lib.hid hT
  have HSA := Lib.hid hsame
  clear f0 f1 d0 d1 d2 d3 d4 d5 lF lS hb6 hT hsame HF5 HF6 HW5 HS5 HL5 KB5 KS5 HB5
  have d0 : w6.cell? ⟨w3.heap.size, 0, none⟩ = some (.int .i64 0) := kS6.cell 0
  have z0 := kS6.frozen 0
  have d1 : w6.cell? ⟨w3.heap.size, 1, none⟩ = some (.slice K1 2 c1) := kS6.cell 1
  have z1 := kS6.frozen 1
  have d2 : w6.cell? ⟨w3.heap.size, 2, none⟩ = some (.slice K2 2 c2) := kS6.cell 2
  have z2 := kS6.frozen 2
  have d3 : w6.cell? ⟨w3.heap.size, 3, none⟩ = some (.slice none 0 0) := kS6.cell 3
  have z3 := kS6.frozen 3
  have d4 : w6.cell? ⟨w3.heap.size, 4, none⟩ = some (.slice none 0 0) := kS6.cell 4
  have z4 := kS6.frozen 4
  have d5 : w6.cell? ⟨w3.heap.size, 5, none⟩ = some (.slice none 0 0) := kS6.cell 5
  have z5 := kS6.frozen 5
  have lS := kS6.lt
  unfold stoV
  go_upto_region 7 with fail
  have kS7 : Blk ((((((w6.setCell ⟨w3.heap.size, 0, none⟩ (.int .i64 T.year)).setCell ⟨w3.heap.size, 1, none⟩ (.slice T.la T.last.length T.lc)).setCell ⟨w3.heap.size, 2, none⟩ (.slice T.ga T.given.length T.gc)).setCell ⟨w3.heap.size, 3, none⟩ (.slice T.ha T.heaps.length T.hc)).setCell ⟨w3.heap.size, 4, none⟩ (.slice T.ua T.used.length T.uc)).setCell ⟨w3.heap.size, 5, none⟩ (.slice T.wa T.waste.length T.wc)) w3.heap.size (stoC T) 33 := ((((((kS6.set 0 (.int .i64 T.year)).set 1 (.slice T.la T.last.length T.lc)).set 2 (.slice T.ga T.given.length T.gc)).set 3 (.slice T.ha T.heaps.length T.hc)).set 4 (.slice T.ua T.used.length T.uc)).set 5 (.slice T.wa T.waste.length T.wc))
  have hTf : Turn (fun k => k = w3.heap.size) w6 ((((((w6.setCell ⟨w3.heap.size, 0, none⟩ (.int .i64 T.year)).setCell ⟨w3.heap.size, 1, none⟩ (.slice T.la T.last.length T.lc)).setCell ⟨w3.heap.size, 2, none⟩ (.slice T.ga T.given.length T.gc)).setCell ⟨w3.heap.size, 3, none⟩ (.slice T.ha T.heaps.length T.hc)).setCell ⟨w3.heap.size, 4, none⟩ (.slice T.ua T.used.length T.uc)).setCell ⟨w3.heap.size, 5, none⟩ (.slice T.wa T.waste.length T.wc)) := (((((((Turn.of_below (X := fun k => k = w3.heap.size) (Below.refl _ w6)).setCell (B := w3.heap.size) rfl 0 (.int .i64 T.year)).setCell (B := w3.heap.size) rfl 1 (.slice T.la T.last.length T.lc)).setCell (B := w3.heap.size) rfl 2 (.slice T.ga T.given.length T.gc)).setCell (B := w3.heap.size) rfl 3 (.slice T.ha T.heaps.length T.hc)).setCell (B := w3.heap.size) rfl 4 (.slice T.ua T.used.length T.uc)).setCell (B := w3.heap.size) rfl 5 (.slice T.wa T.waste.length T.wc))
  have kB7 := hTf.blk kB6 (fun e => absurd (show w1.heap.size = w3.heap.size from e) (by have := HGE2.out; omega))
  generalize ((((((w6.setCell ⟨w3.heap.size, 0, none⟩ (.int .i64 T.year)).setCell ⟨w3.heap.size, 1, none⟩ (.slice T.la T.last.length T.lc)).setCell ⟨w3.heap.size, 2, none⟩ (.slice T.ga T.given.length T.gc)).setCell ⟨w3.heap.size, 3, none⟩ (.slice T.ha T.heaps.length T.hc)).setCell ⟨w3.heap.size, 4, none⟩ (.slice T.ua T.used.length T.uc)).setCell ⟨w3.heap.size, 5, none⟩ (.slice T.wa T.waste.length T.wc)) = w7 at *
  clear d0 d1 d2 d3 d4 d5 z0 z1 z2 z3 z4 z5 lS kS6 kB6
  have hT7 := (HT.out.turn hTf (fun k e hk => by have h1 := (HT.out.ge k hk).1; have h2 := HLT.out; rw [show k = w3.heap.size from e] at h1; omega)).store
  have hW7 := hTf.below (base := w3.heap.size) (Nat.le_of_lt (Nat.lt_of_lt_of_le HLT.out HS56.out)) (fun k e => Nat.le_of_eq (show w3.heap.size = k from e.symm))
  have HF7 := Lib.hid (HF3.out.below (HW6.out.trans hW7))
  have HB7 := Lib.hid (HB6.out.trans (hW7.mono HGE.out))
  have HT7 := Lib.hid hT7
  clear hT7 hW7 hTf
  obtain ⟨g0, g1, g2, g3, g4, g5⟩ := sto_cells (S := T) kS7
  have f0 : w7.cell? ⟨w1.heap.size, 0, none⟩ = some (.slice (some ⟨n + 1, 0, none⟩) 2 2) := kB7.cell 0
  have f1 : w7.cell? ⟨w1.heap.size, 1, none⟩ = some (.int .i64 150) := kB7.cell 1
  have lF := kB7.lt
  have lS := kS7.lt
  clear kB7 kS7
  go_wp2_with fail
  refine (ledger_known n K1 K2 c1 c2 T w7 HF7.out HT7.out HSA.out).mono ?_
  rintro e w8 ⟨K, c, rfl, hc, hK, q0, q1, q2, q3, q4, q5, q6, q7, hb8⟩
  have HB8 := Lib.hid (HB7.out.trans (hb8.mono HB7.out.size))
  clear f0 f1 g0 g1 g2 g3 g4 g5 lF lS hb8 HB7 HF7 HT7 HW6 HLT
  have he0 : ∀ w, (Op.equalIn 10000 51 (.agg #[.int .i64 44, .int .i64 15, .int .i64 25, .int .i64 4]) (.agg #[.int .i64 44, .int .i64 15, .int .i64 25, .int .i64 4])).run Try.prog w = .ok true w := fun w => (run_equalIn_cnt 9998 w).1
  have he1 : ∀ w, (Op.equalIn 10000 51 (.agg #[.int .i64 0, .int .i64 0, .int .i64 0, .int .i64 0]) (.agg #[.int .i64 0, .int .i64 0, .int .i64 0, .int .i64 0])).run Try.prog w = .ok true w := fun w => (run_equalIn_cnt 9998 w).2
  go_wp2_with fail
  go_ret
  exact ⟨rfl, HB8.out⟩
end Go.Proofs.Ytkohmgmoeffgnaa
