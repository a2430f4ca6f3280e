/- Mathematics of sets of single cuts: what they hold at most is what the patterns hold at most. No condition but that the rods may be. -/
import Derived.Test.YtmcmhgjlpffcnaaPW
set_option linter.unusedSimpArgs false
namespace Go.Proofs.Ytmcmhgjlpffcnaa
open Go.RowKit

/-! ### Which patterns there are -/
def costL (kerf : Int) (q : List Int) : List Cut → Nat → Int
  | [], _ => 0
  | x :: xs, c => ent q c * (x.ln + kerf) + costL kerf q xs (c + 1)
theorem pat_ext {p q : List Int} (hp : p.length = 8) (hq : q.length = 8) (h : ∀ i, ent p i = ent q i) : p = q := by
  refine List.ext_getElem (by omega) fun i h1 h2 => ?_
  have h3 := h i
  unfold ent at h3
  rwa [List.getD_eq_getElem?_getD, List.getD_eq_getElem?_getD, List.getElem?_eq_getElem h1, List.getElem?_eq_getElem h2] at h3
theorem cost_nn {kerf : Int} (hk : 0 ≤ kerf) {q : List Int} : ∀ (l : List Cut) (c : Nat), (∀ x ∈ l, 1 ≤ x.ln) → (∀ i, c ≤ i → i < c + l.length → 0 ≤ ent q i) → 0 ≤ costL kerf q l c
  | [], _, _, _ => Int.le_refl _
  | x :: xs, c, hx, hq => by
    have h1 := cost_nn hk xs (c + 1) (fun y hy => hx y (List.mem_cons_of_mem _ hy)) (fun i h1 h2 => hq i (by omega) (by simp only [List.length_cons]; omega))
    have h2 := hx x List.mem_cons_self
    have h3 := Int.mul_nonneg (hq c (Nat.le_refl _) (by simp)) (show 0 ≤ x.ln + kerf by omega)
    simp only [costL]
    omega
theorem lv_iff {kerf : Int} {most : List Int} (hm : patB most) (hk : 0 ≤ kerf) {q : List Int} : ∀ (l : List Cut) (c : Nat) (p : List Int) (room : Int), (∀ x ∈ l, 1 ≤ x.ln) → p.length = 8 → c + l.length ≤ 8 → 0 ≤ room →
    (q ∈ lv kerf most l c p room ↔ q.length = 8 ∧ (∀ i, (i < c ∨ c + l.length ≤ i) → ent q i = ent p i) ∧ (∀ i, c ≤ i → i < c + l.length → 0 ≤ ent q i ∧ ent q i ≤ ent most i) ∧ costL kerf q l c ≤ room) := by
  intro l
  induction l with
  | nil =>
    intro c p room _ hp _ hr
    simp only [lv, List.mem_singleton]
    constructor
    · rintro rfl
      exact ⟨hp, fun _ _ => rfl, fun i h1 h2 => by simp only [List.length_nil] at h2; omega, hr⟩
    · rintro ⟨h1, h2, -, -⟩
      exact pat_ext h1 hp (fun i => h2 i (by simp only [List.length_nil]; omega))
  | cons x xs ih =>
    intro c p room hx hp hc hr
    simp only [List.length_cons] at hc ⊢
    have hx1 := hx x List.mem_cons_self
    have hu := hm c
    have hsz : 0 < x.ln + kerf := by omega
    obtain ⟨t1, t2, t3⟩ := topN_bd hu.1 hr hsz
    simp only [lv]
    rw [mem_down]
    have key : ∀ j : Nat, j < (topN (ent most c) room (x.ln + kerf)).toNat + 1 → (q ∈ lv kerf most xs (c + 1) (p.set c (j : Int)) (room - (j : Int) * (x.ln + kerf)) ↔ q.length = 8 ∧ (∀ i, (i < c + 1 ∨ c + 1 + xs.length ≤ i) → ent q i = ent (p.set c (j : Int)) i) ∧ (∀ i, c + 1 ≤ i → i < c + 1 + xs.length → 0 ≤ ent q i ∧ ent q i ≤ ent most i) ∧ costL kerf q xs (c + 1) ≤ room - (j : Int) * (x.ln + kerf)) := by
      intro j hj
      have h1 : (j : Int) ≤ topN (ent most c) room (x.ln + kerf) := by omega
      have h2 : (j : Int) * (x.ln + kerf) ≤ topN (ent most c) room (x.ln + kerf) * (x.ln + kerf) := Int.mul_le_mul_of_nonneg_right h1 (by omega)
      exact ih (c + 1) (p.set c (j : Int)) _ (fun y hy => hx y (List.mem_cons_of_mem _ hy)) (by simp [hp]) (by omega) (by omega)
    have hset : ∀ (j : Int) (i : Nat), ent (p.set c j) i = if i = c then j else ent p i := fun j i => ent_set (by omega)
    constructor
    · rintro ⟨j, hj, hq⟩
      obtain ⟨h1, h2, h3, h4⟩ := (key j hj).1 hq
      have hqc : ent q c = (j : Int) := by rw [h2 c (by omega), hset, if_pos rfl]
      refine ⟨h1, fun i hi => ?_, fun i hi1 hi2 => ?_, ?_⟩
      · rw [h2 i (by omega), hset, if_neg (by omega)]
      · by_cases e : i = c
        · subst e
          rw [hqc]
          omega
        · exact h3 i (by omega) (by omega)
      · simp only [costL]
        rw [hqc]
        omega
    · rintro ⟨h1, h2, h3, h4⟩
      obtain ⟨a1, a2⟩ := h3 c (Nat.le_refl _) (by omega)
      simp only [costL] at h4
      have h5 := cost_nn (q := q) hk xs (c + 1) (fun y hy => hx y (List.mem_cons_of_mem _ hy)) (fun i b1 b2 => (h3 i (by omega) (by omega)).1)
      obtain ⟨j, hj⟩ : ∃ j : Nat, ent q c = (j : Int) := ⟨(ent q c).toNat, by omega⟩
      rw [hj] at h4 a1 a2
      have hjt : (j : Int) ≤ topN (ent most c) room (x.ln + kerf) := by
        have : (j : Int) ≤ room / (x.ln + kerf) := Int.le_ediv_of_mul_le hsz (by omega)
        unfold topN
        split <;> omega
      refine ⟨j, by omega, (key j (by omega)).2 ⟨h1, fun i hi => ?_, fun i b1 b2 => h3 i (by omega) (by omega), by omega⟩⟩
      rw [hset]
      by_cases e : i = c
      · rw [if_pos e, e, hj]
      · rw [if_neg e]
        exact h2 i (by omega)

/-! ### Sums -/
def sumI (g : Nat → Int) : Nat → Int
  | 0 => 0
  | k + 1 => sumI g k + g k
theorem sumI_congr {f g : Nat → Int} : ∀ {k : Nat}, (∀ i, i < k → f i = g i) → sumI f k = sumI g k
  | 0, _ => rfl
  | k + 1, h => by rw [sumI, sumI, sumI_congr (fun i hi => h i (by omega)), h k (by omega)]
theorem sumI_add (f g : Nat → Int) : ∀ k, sumI (fun i => f i + g i) k = sumI f k + sumI g k
  | 0 => rfl
  | k + 1 => by simp only [sumI, sumI_add f g k]; omega
theorem sumI_one (a : Nat) (v : Int) : ∀ k, sumI (fun i => if a = i then v else 0) k = if a < k then v else 0
  | 0 => by simp [sumI]
  | k + 1 => by
    rw [sumI, sumI_one a v k]
    by_cases h : a = k
    · rw [if_neg (by omega), if_pos h, if_pos (by omega)]; omega
    · by_cases h2 : a < k
      · rw [if_pos h2, if_neg h, if_pos (by omega)]; omega
      · rw [if_neg h2, if_neg h, if_neg (by omega)]; rfl
def sizeF (r : Rds) (c : Nat) : Int := (match r.cs[c]? with | some x => x.ln | none => 0) + r.kerf
theorem cost_sum (r : Rds) (q : List Int) : ∀ (l : List Cut) (c : Nat), r.cs.drop c = l → costL r.kerf q l c + sumI (fun i => ent q i * sizeF r i) c = sumI (fun i => ent q i * sizeF r i) (c + l.length)
  | [], c, _ => by simp [costL]
  | x :: xs, c, h => by
    have h1 : r.cs.drop (c + 1) = xs := by rw [← List.tail_drop, h]; rfl
    have h2 : r.cs[c]? = some x := by
      have := congrArg (fun l => l[0]?) h
      simpa using this
    have h3 := cost_sum r q xs (c + 1) h1
    rw [sumI] at h3
    have h4 : sizeF r c = x.ln + r.kerf := by unfold sizeF; rw [h2]
    rw [h4] at h3
    rw [costL, List.length_cons, show c + (xs.length + 1) = c + 1 + xs.length by omega, ← h3]
    omega
theorem lvAll_iff {r : Rds} (hr : r.ok) {most q : List Int} (hm : patB most) : q ∈ lvAll r most ↔ q.length = 8 ∧ (∀ i, r.cs.length ≤ i → ent q i = 0) ∧ (∀ i, i < r.cs.length → 0 ≤ ent q i ∧ ent q i ≤ ent most i) ∧ sumI (fun i => ent q i * sizeF r i) r.cs.length ≤ r.stock + r.kerf := by
  have hs := hr.stock
  have hk := hr.kerf
  have hl := hr.len
  have hc := cost_sum r q r.cs 0 rfl
  rw [Nat.zero_add] at hc
  have hc' : costL r.kerf q r.cs 0 = sumI (fun i => ent q i * sizeF r i) r.cs.length := by
    rw [← hc]
    simp [sumI]
  unfold lvAll
  rw [lv_iff hm hk.1 r.cs 0 _ _ (fun x hx => (hr.cuts x hx).1.1) rfl (by omega) (by omega), hc']
  constructor
  · rintro ⟨h1, h2, h3, h4⟩
    exact ⟨h1, fun i hi => by rw [h2 i (by omega), ent_zero], fun i hi => h3 i (by omega) (by omega), h4⟩
  · rintro ⟨h1, h2, h3, h4⟩
    exact ⟨h1, fun i hi => by rw [h2 i (by omega), ent_zero], fun i _ hi => h3 i (by omega), h4⟩

/-! ### Sets of single cuts -/
def bitsN (f : Nat → Int) (l : List Nat) (set : Nat) : Nat → Int
  | 0 => 0
  | i + 1 => bitsN f l set i + if set.testBit i = true then f (l.getD i 0) else 0
def cntN (l : List Nat) (set n c : Nat) : Int := bitsN (fun x => if x = c then 1 else 0) l set n
theorem bits_congr (f : Nat → Int) (l : List Nat) {s t : Nat} : ∀ {n : Nat}, (∀ i, i < n → s.testBit i = t.testBit i) → bitsN f l s n = bitsN f l t n
  | 0, _ => rfl
  | n + 1, h => by rw [bitsN, bitsN, bits_congr f l (fun i hi => h i (by omega)), h n (by omega)]
theorem bits_cnt (f : Nat → Int) (l : List Nat) (K : Nat) (hl : ∀ i, l.getD i 0 < K) (set : Nat) : ∀ n, bitsN f l set n = sumI (fun c => cntN l set n c * f c) K
  | 0 => by
    have : sumI (fun c => cntN l set 0 c * f c) K = sumI (fun i => if K = i then 0 else 0) K := sumI_congr fun i _ => by simp [cntN, bitsN]
    rw [this, sumI_one]
    simp [bitsN]
  | n + 1 => by
    rw [bitsN, bits_cnt f l K hl set n]
    by_cases h : set.testBit n = true
    · rw [if_pos h]
      have e : sumI (fun c => cntN l set (n + 1) c * f c) K = sumI (fun c => cntN l set n c * f c + if l.getD n 0 = c then f (l.getD n 0) else 0) K := sumI_congr fun c _ => by
        simp only [cntN, bitsN, if_pos h]
        rw [Int.add_mul]
        by_cases e : l.getD n 0 = c
        · rw [if_pos e, if_pos e, e, Int.one_mul]
        · rw [if_neg e, if_neg e, Int.zero_mul]
      rw [e, sumI_add, sumI_one, if_pos (hl n)]
    · rw [if_neg h, Int.add_zero]
      exact sumI_congr fun c _ => by simp only [cntN, bitsN, if_neg h, Int.add_zero]
def cntA (l : List Nat) (c : Nat) : Nat → Int
  | 0 => 0
  | n + 1 => cntA l c n + if l.getD n 0 = c then 1 else 0
theorem cntA_count (l : List Nat) (c : Nat) : ∀ n, n ≤ l.length → cntA l c n = ((l.take n).count c : Int)
  | 0, _ => by simp [cntA]
  | n + 1, h => by
    have hq : l[n]? = some l[n] := List.getElem?_eq_getElem (by omega)
    rw [cntA, cntA_count l c n (by omega), List.take_add_one, hq, List.count_append, List.getD_eq_getElem?_getD, hq]
    simp only [Option.getD_some, Option.toList_some, List.count_singleton]
    by_cases e : l[n] = c
    · simp [e]
    · simp [e]
theorem cnt_bd (l : List Nat) (set c : Nat) : ∀ n, 0 ≤ cntN l set n c ∧ cntN l set n c ≤ cntA l c n
  | 0 => by simp [cntN, bitsN, cntA]
  | n + 1 => by
    have h := cnt_bd l set c n
    unfold cntN at h ⊢
    rw [bitsN, cntA]
    split <;> split <;> omega
theorem cnt_full (l : List Nat) (c m : Nat) : ∀ n, n ≤ m → cntN l (2 ^ m - 1) n c = cntA l c n
  | 0, _ => rfl
  | n + 1, h => by
    have h1 := cnt_full l c m n (by omega)
    unfold cntN at h1 ⊢
    rw [bitsN, cntA, h1, Nat.testBit_two_pow_sub_one, if_pos (by simp; omega)]
theorem set_ex (l : List Nat) : ∀ (n : Nat) (q : Nat → Int), (∀ c, 0 ≤ q c ∧ q c ≤ cntA l c n) → ∃ set, set < 2 ^ n ∧ ∀ c, cntN l set n c = q c
  | 0, q, h => ⟨0, by simp, fun c => by
    have := h c
    simp only [cntA] at this
    show 0 = q c
    omega⟩
  | n + 1, q, h => by
    have hx := h (l.getD n 0)
    rw [cntA, if_pos rfl] at hx
    have hp : 2 ^ (n + 1) = 2 ^ n + 2 ^ n := by rw [Nat.pow_succ]; omega
    by_cases hq : q (l.getD n 0) ≤ cntA l (l.getD n 0) n
    · obtain ⟨s, hs, hc⟩ := set_ex l n q (fun c => by
        have h1 := h c
        rw [cntA] at h1
        by_cases e : l.getD n 0 = c
        · rw [e] at hq; exact ⟨h1.1, hq⟩
        · rw [if_neg e] at h1; omega)
      refine ⟨s, by omega, fun c => ?_⟩
      have h1 := hc c
      unfold cntN at h1 ⊢
      rw [bitsN, Nat.testBit_lt_two_pow hs, h1]
      simp
    · obtain ⟨s, hs, hc⟩ := set_ex l n (fun c => if c = l.getD n 0 then q c - 1 else q c) (fun c => by
        have h1 := h c
        have h0 := (cnt_bd l 0 (l.getD n 0) n)
        rw [cntA] at h1
        by_cases e : c = l.getD n 0
        · rw [if_pos e]
          rw [if_pos e.symm] at h1
          subst e
          omega
        · rw [if_neg e]
          rw [if_neg (fun h => e h.symm)] at h1
          omega)
      refine ⟨2 ^ n + s, by omega, fun c => ?_⟩
      have h1 := hc c
      unfold cntN at h1 ⊢
      rw [bitsN, Nat.testBit_two_pow_add_eq, Nat.testBit_lt_two_pow hs, bits_congr _ l (t := s) (fun i hi => Nat.testBit_two_pow_add_gt hi s), h1]
      by_cases e : c = l.getD n 0
      · rw [if_pos e, if_pos e.symm]; simp
      · rw [if_neg e, if_neg (show ¬ l.getD n 0 = c from fun h => e h.symm)]; simp

/-! ### The single cuts of rods -/
def mnAt (cs : List Cut) (i : Nat) : Int := match cs[i]? with | some x => x.mn | none => 0
def sglTo (cs : List Cut) : Nat → List Nat
  | 0 => []
  | i + 1 => sglTo cs i ++ List.replicate (mnAt cs i).toNat i
def sgl (cs : List Cut) : List Nat := sglTo cs cs.length
theorem sgl_mem (cs : List Cut) : ∀ (k c : Nat), c ∈ sglTo cs k → c < k
  | 0, c, h => by simp [sglTo] at h
  | k + 1, c, h => by
    rw [sglTo] at h
    rcases List.mem_append.1 h with h | h
    · have := sgl_mem cs k c h; omega
    · have := List.eq_of_mem_replicate h; omega
theorem sgl_count (cs : List Cut) (c : Nat) : ∀ k, (sglTo cs k).count c = if c < k then (mnAt cs c).toNat else 0
  | 0 => by simp [sglTo]
  | k + 1 => by
    rw [sglTo, List.count_append, sgl_count cs c k, List.count_replicate]
    by_cases e : k = c
    · subst e
      simp
    · by_cases h : c < k
      · have h2 : c < k + 1 := by omega
        simp [h, h2, e]
      · have h2 : ¬ c < k + 1 := by omega
        simp [h, h2, e]
theorem many_take (cs : List Cut) : ∀ k, k < cs.length → manyM (cs.take (k + 1)) = manyM (cs.take k) + mnAt cs k := by
  intro k hk
  have hq : cs[k]? = some cs[k] := List.getElem?_eq_getElem hk
  unfold manyM mnAt
  rw [List.take_add_one, hq, List.map_append, List.sum_append]
  simp only [Option.toList_some, List.map_cons, List.map_nil, List.sum_cons, List.sum_nil, Int.add_zero]
theorem sgl_len {cs : List Cut} (h0 : ∀ x ∈ cs, 0 ≤ x.mn) : ∀ k, k ≤ cs.length → ((sglTo cs k).length : Int) = manyM (cs.take k)
  | 0, _ => by simp [sglTo, manyM]
  | k + 1, h => by
    have h1 := sgl_len h0 k (by omega)
    have hq : cs[k]? = some cs[k] := List.getElem?_eq_getElem (by omega)
    have h2 := h0 _ (List.mem_of_getElem? hq)
    have h3 : mnAt cs k = cs[k].mn := by unfold mnAt; rw [hq]
    rw [many_take cs k (by omega), sglTo, List.length_append, List.length_replicate]
    omega
theorem many_mono {cs : List Cut} (h0 : ∀ x ∈ cs, 0 ≤ x.mn) (k d : Nat) (h : k + d ≤ cs.length) : manyM (cs.take k) ≤ manyM (cs.take (k + d)) := by
  have h1 := sgl_len h0 k (by omega)
  have h2 := sgl_len h0 (k + d) h
  have h3 : ∀ d, (sglTo cs k).length ≤ (sglTo cs (k + d)).length := by
    intro d
    induction d with
    | zero => exact Nat.le_refl _
    | succ d ih =>
      rw [← Nat.add_assoc, sglTo, List.length_append]
      omega
  have := h3 d
  omega
theorem sgl_ok {r : Rds} (hr : r.ok) : (sgl r.cs).length ≤ 12 ∧ ∀ k, k ≤ r.cs.length → (sglTo r.cs k).length ≤ 12 := by
  have h0 : ∀ x ∈ r.cs, 0 ≤ x.mn := fun x hx => (hr.cuts x hx).2.1
  have hm := hr.many
  have key : ∀ k, k ≤ r.cs.length → (sglTo r.cs k).length ≤ 12 := fun k hk => by
    have h1 := sgl_len h0 k hk
    have h2 := many_mono h0 k (r.cs.length - k) (by omega)
    rw [show k + (r.cs.length - k) = r.cs.length by omega, List.take_of_length_le (Nat.le_refl _)] at h2
    omega
  exact ⟨key _ (Nat.le_refl _), key⟩
theorem getD_sgl {r : Rds} (i : Nat) (hi : i < (sgl r.cs).length) : (sgl r.cs).getD i 0 < r.cs.length := by
  rw [List.getD_eq_getElem?_getD, List.getElem?_eq_getElem hi]
  exact sgl_mem _ _ _ (List.getElem_mem hi)
theorem cntA_sgl {r : Rds} (hr : r.ok) (c : Nat) : cntA (sgl r.cs) c (sgl r.cs).length = mnAt r.cs c := by
  rw [cntA_count _ _ _ (Nat.le_refl _), List.take_of_length_le (Nat.le_refl _), sgl, sgl_count]
  unfold mnAt
  by_cases h : c < r.cs.length
  · rw [if_pos h, List.getElem?_eq_getElem h]
    have := (hr.cuts _ (List.getElem_mem h)).2.1
    simp only
    omega
  · rw [if_neg h, List.getElem?_eq_none (by omega)]
    rfl

/-! ### What a rod holds of sets -/
def setN (ws : List Int) (l : List Nat) (s : Nat) : Int := bitsN (ent ws) l s l.length
def setZ (r : Rds) (l : List Nat) (s : Nat) : Int := bitsN (sizeF r) l s l.length
def setB (r : Rds) (l : List Nat) (s : Nat) : Bool := decide (setZ r l s ≤ r.stock + r.kerf)
def mostTo (r : Rds) (ws : List Int) (l : List Nat) : Nat → Int
  | 0 => 0
  | s + 1 => if setB r l s = true then (if mostTo r ws l s < setN ws l s then setN ws l s else mostTo r ws l s) else mostTo r ws l s
theorem most_nn (r : Rds) (ws : List Int) (l : List Nat) : ∀ n, 0 ≤ mostTo r ws l n
  | 0 => Int.le_refl _
  | n + 1 => by
    have := most_nn r ws l n
    rw [mostTo]
    split
    · split <;> omega
    · exact this
theorem most_ge (r : Rds) (ws : List Int) (l : List Nat) : ∀ n s, s < n → setB r l s = true → setN ws l s ≤ mostTo r ws l n
  | 0, s, h, _ => by omega
  | n + 1, s, h, hb => by
    rw [mostTo]
    by_cases e : s = n
    · subst e
      rw [if_pos hb]
      split <;> omega
    · have := most_ge r ws l n s (by omega) hb
      split
      · split <;> omega
      · exact this
theorem most_le {r : Rds} {ws : List Int} {l : List Nat} {M : Int} (h0 : 0 ≤ M) : ∀ n, (∀ s, s < n → setB r l s = true → setN ws l s ≤ M) → mostTo r ws l n ≤ M
  | 0, _ => h0
  | n + 1, h => by
    have h1 := most_le h0 n (fun s hs => h s (by omega))
    rw [mostTo]
    split
    · rename_i hb
      have := h n (by omega) hb
      split <;> omega
    · exact h1
theorem held_att (ws : List Int) : ∀ l : List (List Int), heldM ws l = 0 ∨ ∃ q ∈ l, heldM ws l = weighM ws q := by
  have key : ∀ (n : Nat) (l : List (List Int)), l.length = n → (heldM ws l = 0 ∨ ∃ q ∈ l, heldM ws l = weighM ws q) := by
    intro n
    induction n with
    | zero =>
      intro l h
      obtain rfl := List.length_eq_zero_iff.1 h
      exact .inl rfl
    | succ n ih =>
      intro l h
      rcases List.eq_nil_or_concat l with rfl | ⟨l', q, rfl⟩
      · simp at h
      · rw [List.concat_eq_append] at h ⊢
        rw [held_snoc]
        split
        · exact .inr ⟨q, by simp, rfl⟩
        · rcases ih l' (by simpa using h) with h1 | ⟨q', h1, h2⟩
          · exact .inl h1
          · exact .inr ⟨q', by simp [h1], h2⟩
  exact fun l => key _ l rfl
theorem weigh_sum (ws q : List Int) : ∀ k, weighTo ws q k = sumI (fun c => ent ws c * ent q c) k
  | 0 => rfl
  | k + 1 => by rw [weighTo, sumI, weigh_sum ws q k]
theorem want_mn {r : Rds} (hr : r.ok) (c : Nat) : ent (wantL r.cs) c = mnAt r.cs c := by rw [ent_want hr.len]; rfl
/-- What a set weighs is what its counts do. -/
theorem set_weigh {r : Rds} {f : Nat → Int} {s : Nat} {q : List Int} (hq : ∀ c, c < r.cs.length → cntN (sgl r.cs) s (sgl r.cs).length c = ent q c) : bitsN f (sgl r.cs) s (sgl r.cs).length = sumI (fun c => ent q c * f c) r.cs.length := by
  by_cases h0 : (sgl r.cs).length = 0
  · have e : sumI (fun c => ent q c * f c) r.cs.length = sumI (fun i => if r.cs.length = i then 0 else 0) r.cs.length := sumI_congr fun c hc => by
      rw [← hq c hc, h0]
      simp [cntN, bitsN]
    rw [e, sumI_one, h0]
    simp [bitsN]
  · have hK : ∀ i, (sgl r.cs).getD i 0 < r.cs.length := fun i => by
      by_cases hi : i < (sgl r.cs).length
      · exact getD_sgl i hi
      · rw [List.getD_eq_getElem?_getD, List.getElem?_eq_none (by omega)]
        have := getD_sgl (r := r) 0 (by omega)
        simp only [Option.getD_none]
        omega
    rw [bits_cnt f _ _ hK]
    exact sumI_congr fun c hc => by rw [hq c hc]
theorem most_held {r : Rds} (hr : r.ok) {ws : List Int} (hw : heftB ws) (hl : ws.length = r.cs.length) : mostTo r ws (sgl r.cs) (2 ^ (sgl r.cs).length) = heldM ws (lvAll r (wantL r.cs)) := by
  have hP := patB_want hr
  have hl8 := hr.len
  have hall := held_bd hw (by omega) _ (lvAll r (wantL r.cs)) rfl (fun q hq => (lvAll_mem hP hq).1)
  have hwq : ∀ (s : Nat) (q : List Int), (∀ c, c < r.cs.length → cntN (sgl r.cs) s (sgl r.cs).length c = ent q c) → setN ws (sgl r.cs) s = weighM ws q := fun s q h => by
    unfold setN weighM
    rw [set_weigh h, weigh_sum, hl]
    exact sumI_congr fun c _ => Int.mul_comm _ _
  apply Int.le_antisymm
  · refine most_le hall.1 _ (fun s hs hb => ?_)
    have hcell : ∀ c, c < 8 → ent ((List.range 8).map fun c => cntN (sgl r.cs) s (sgl r.cs).length c) c = cntN (sgl r.cs) s (sgl r.cs).length c := fun c hc => by
      unfold ent
      rw [List.getD_eq_getElem?_getD, List.getElem?_map, List.getElem?_range hc]
      rfl
    obtain ⟨q, hqd⟩ : ∃ q, ((List.range 8).map fun c => cntN (sgl r.cs) s (sgl r.cs).length c) = q := ⟨_, rfl⟩
    have hq8 : q.length = 8 := by rw [← hqd]; simp
    rw [hqd] at hcell
    have hcn : ∀ c, 0 ≤ cntN (sgl r.cs) s (sgl r.cs).length c ∧ cntN (sgl r.cs) s (sgl r.cs).length c ≤ mnAt r.cs c := fun c => by
      have := cnt_bd (sgl r.cs) s c (sgl r.cs).length
      rwa [cntA_sgl hr] at this
    have hout : ∀ c, r.cs.length ≤ c → mnAt r.cs c = 0 := fun c hc => by unfold mnAt; rw [List.getElem?_eq_none hc]
    have hmem : q ∈ lvAll r (wantL r.cs) := by
      refine (lvAll_iff hr hP).2 ⟨hq8, fun c hc => ?_, fun c hc => ?_, ?_⟩
      · by_cases h8 : c < 8
        · rw [hcell c h8]
          have h1 := hcn c
          rw [hout c hc] at h1
          omega
        · unfold ent
          rw [List.getD_eq_getElem?_getD, List.getElem?_eq_none (by omega)]
          rfl
      · rw [hcell c (by omega), want_mn hr]
        exact hcn c
      · rw [← set_weigh (s := s) (fun c hc => (hcell c (by omega)).symm)]
        exact of_decide_eq_true hb
    rw [hwq s q (fun c hc => (hcell c (by omega)).symm)]
    exact hall.2.2 q hmem
  · rcases held_att ws (lvAll r (wantL r.cs)) with h | ⟨q, hq, h⟩
    · rw [h]; exact most_nn _ _ _ _
    · obtain ⟨h1, h2, h3, h4⟩ := (lvAll_iff hr hP).1 hq
      obtain ⟨s, hs, hc⟩ := set_ex (sgl r.cs) (sgl r.cs).length (fun c => ent q c) (fun c => by
        rw [cntA_sgl hr]
        by_cases hc : c < r.cs.length
        · have := h3 c hc
          rwa [want_mn hr] at this
        · rw [h2 c (by omega)]
          unfold mnAt
          rw [List.getElem?_eq_none (by omega)]
          exact ⟨Int.le_refl _, Int.le_refl _⟩)
      rw [h, ← hwq s q (fun c _ => hc c)]
      refine most_ge r ws _ _ s hs (decide_eq_true ?_)
      unfold setZ
      rw [set_weigh (fun c _ => hc c)]
      exact h4
theorem full_weigh {r : Rds} (hr : r.ok) {ws : List Int} (hl : ws.length = r.cs.length) : setN ws (sgl r.cs) (2 ^ (sgl r.cs).length - 1) = weighM ws (wantL r.cs) := by
  unfold setN weighM
  rw [set_weigh (r := r) (q := wantL r.cs) (fun c _ => by rw [cnt_full _ _ _ _ (Nat.le_refl _), cntA_sgl hr, want_mn hr]), weigh_sum, hl]
  exact sumI_congr fun c _ => Int.mul_comm _ _
end Go.Proofs.Ytmcmhgjlpffcnaa
