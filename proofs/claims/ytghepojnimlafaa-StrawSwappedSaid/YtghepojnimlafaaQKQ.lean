/- copyStore: a store with rows of its own. Mathematics of parts that are cut and put: what there is of each field, how many loads, that neighbours stay apart. -/
import Derived.Test.YtghepojnimlafaaQJN
import Derived.Test.YtghepojnimlafaaKBQ
import Derived.Test.YtghepojnimlafaaQJR
namespace Go.Proofs.Ytghepojnimlafaa
section
set_option linter.unusedSimpArgs false
open Go.RowKit

/-- A store without rows. -/
def Sto.bare (S : Sto) : Sto := { S with la := none, lc := 0, last := [], ga := none, gc := 0, given := [], ha := none, hc := 0, heaps := [], ua := none, uc := 0, used := [], wa := none, wc := 0, waste := [] }
theorem bare_own (base : Nat) (w : World) (S : Sto) : OwnSto base w S.bare :=
  ⟨World.ownsRow_nil _ _ _ _, World.ownsRow_nil _ _ _ _, World.ownsRow_nil _ _ _ _, fun h hh => (by cases hh), World.ownsRow_nil _ _ _ _, World.ownsRow_nil _ _ _ _, fun h hh => (by cases hh), (by simp [rowsOf, Sto.bare])⟩
/-- Where a new row lies. -/
theorem own_ge {w : World} {base n c m sz : Nat} {t : TypeId} {a : Option Addr} {xs : List Value} (h : w.ownsRow base t sz (.slice a n c) m xs) {k : Nat} (hk : a.map (·.block) = some k) : base ≤ k ∧ k < w.heap.size := h.lt k (by rw [rowOf_own']; exact hk)

/-- Between two rounds: the first heaps have parts of their own. -/
structure CopyI (base n0 j : Nat) (S : Sto) (a : Option Addr) (c : Nat) (hs : List Hep) (w : World) : Prop where
  same : sameH hs S.heaps
  row : w.ownsRow base 77 7 (.slice a hs.length c) hs.length (hs.flatMap cellsHep)
  rowlt : ∀ k, a.map (·.block) = some k → k < n0
  parts : ∀ (i : Nat) (x : Hep), i < j → hs[i]? = some x → w.ownsRow n0 80 2 (.slice x.pa x.parts.length x.pc) x.parts.length (x.parts.flatMap cellsPrt)
  apart : (((hs.take j).map (·.pa)).filterMap (·.map (·.block))).Nodup
  rest : ∀ i, j ≤ i → hs[i]? = S.heaps[i]?
theorem CopyI.start {base n0 : Nat} {S : Sto} {a : Option Addr} {c : Nat} {w : World} (h : w.ownsRow base 77 7 (.slice a S.heaps.length c) S.heaps.length (S.heaps.flatMap cellsHep)) (hn : w.heap.size ≤ n0) : CopyI base n0 0 S a c S.heaps w :=
  ⟨sameH.refl _, h, fun k hk => Nat.lt_of_lt_of_le (own_ge h hk).2 hn, fun i x hi => by omega, by simp, fun _ _ => rfl⟩
theorem CopyI.below {base n0 j : Nat} {S : Sto} {a : Option Addr} {c : Nat} {hs : List Hep} {w w' : World} (h : CopyI base n0 j S a c hs w) (hb : Below w.heap.size w w') : CopyI base n0 j S a c hs w' :=
  ⟨h.same, own_below h.row hb, h.rowlt, fun i x hi hx => own_below (h.parts i x hi hx) hb, h.apart, h.rest⟩
/-- One more heap. -/
theorem CopyI.next {base n0 j g : Nat} {S : Sto} {c : Nat} {hs : List Hep} {w w' : World} {x : Hep} {a2 : Option Addr} {c2 : Nat} (h : CopyI base n0 j S (some ⟨g, 0, none⟩) c hs w) (hb : Below w.heap.size w w') (hx : hs[j]? = some x) (hn : n0 ≤ w.heap.size)
    (hrow : w'.ownsRow w.heap.size 80 2 (.slice a2 x.parts.length c2) x.parts.length (x.parts.flatMap cellsPrt)) :
    CopyI base n0 (j + 1) S (some ⟨g, 0, none⟩) c (hs.set j { x with pa := a2, pc := c2 }) (w'.setCell ⟨g, j * 7 + 3, none⟩ (.slice a2 x.parts.length c2)) := by
  have hjl := (List.getElem?_eq_some_iff.1 hx).1
  have hg : g < n0 := h.rowlt g rfl
  have hT : Turn (fun k => k = g) w (w'.setCell ⟨g, j * 7 + 3, none⟩ (.slice a2 x.parts.length c2)) := (Turn.of_below (X := fun k => k = g) hb).setCell (B := g) rfl _ _
  have hT' : Turn (fun k => k = g) w' (w'.setCell ⟨g, j * 7 + 3, none⟩ (.slice a2 x.parts.length c2)) := (Turn.of_below (X := fun k => k = g) (Below.refl _ w')).setCell (B := g) rfl _ _
  have hnew : (w'.setCell ⟨g, j * 7 + 3, none⟩ (.slice a2 x.parts.length c2)).ownsRow w.heap.size 80 2 (.slice a2 x.parts.length c2) x.parts.length (x.parts.flatMap cellsPrt) :=
    hT'.row hrow fun k hk e => by have := (own_ge hrow e).1; have := (show k = g from hk); omega
  have hlen : (hs.set j { x with pa := a2, pc := c2 }).length = hs.length := List.length_set ..
  refine ⟨?_, ?_, h.rowlt, fun i y hi hy => ?_, ?_, fun i hi => ?_⟩
  · refine sameH.trans ?_ h.same
    have h1 : sameH (hs.set j { x with pa := a2, pc := c2 }) (hs.set j x) := (sameH.refl hs).set j ⟨rfl, rfl, rfl, rfl, rfl, rfl, rfl⟩
    rwa [show hs.set j x = hs by rw [← (List.getElem?_eq_some_iff.1 hx).2]; exact List.set_getElem_self _] at h1
  · have hr := ownsRow_setOwn (own_below h.row hb) (i := j * 7 + 3) (by omega) (.slice a2 x.parts.length c2)
    rw [flat_set cellsHep 7 (fun _ => rfl) hs j 3 x { x with pa := a2, pc := c2 } _ hx (by omega) rfl] at hr
    rw [hlen]
    exact hr
  · rw [List.getElem?_set] at hy
    split at hy
    · next e =>
      subst e
      first | (rw [if_pos hjl] at hy; cases hy) | cases hy
      exact hnew.mono hn
    · next e =>
      have h0 := h.parts i y (by omega) hy
      exact hT.row h0 fun k hk e2 => by have := (own_ge h0 e2).1; have := (show k = g from hk); omega
  · have e1 : (hs.set j { x with pa := a2, pc := c2 }).take (j + 1) = hs.take j ++ [{ x with pa := a2, pc := c2 }] := by
      rw [List.take_add_one, List.take_set_of_le (Nat.le_refl _)]
      simp [hjl]
    rw [e1, List.map_append]
    refine nodup_put (l2 := []) (by simpa using h.apart) (fun k hk hk2 => ?_)
    simp only [List.append_nil, List.mem_filterMap, List.mem_map] at hk2
    obtain ⟨_, ⟨y, hy, rfl⟩, e⟩ := hk2
    obtain ⟨i, hi, hyi⟩ := List.getElem_of_mem hy
    rw [List.length_take] at hi
    have hyi2 : hs[i]? = some y := by
      rw [← hyi, List.getElem_take]
      exact List.getElem?_eq_getElem (by omega)
    have := (own_ge (h.parts i y (by omega) hyi2) e).2
    have := (own_ge hrow hk).1
    omega
  · rw [List.getElem?_set, if_neg (by omega)]
    exact h.rest i (by omega)
/-- All heaps copied: the store that has them. -/
theorem CopyI.done {base n0 : Nat} {S T : Sto} {a : Option Addr} {c : Nat} {hs : List Hep} {w : World} (h : CopyI base n0 hs.length S a c hs w) (hT : OwnSto base w T) (hb : base ≤ n0) (hth : T.heaps = []) (htl : ∀ k ∈ rowsOf { T with ha := none }, k < n0 ∧ a.map (·.block) ≠ some k)
    (hnm : ∀ x ∈ hs, x.name.size ≤ maxLen) : OwnSto base w { T with ha := a, hc := c, heaps := hs } := by
  refine OwnSto.setHeaps hT (fun _ _ => rfl) h.row (fun x hx => ?_) hnm ?_
  · obtain ⟨i, hi, rfl⟩ := List.getElem_of_mem hx
    exact (h.parts i _ hi (List.getElem?_eq_getElem hi)).mono hb
  · have hap := h.apart
    rw [List.take_length] at hap
    have key : ∀ k, k ∈ (hs.map (·.pa)).filterMap (·.map (·.block)) → n0 ≤ k := fun k hk => by
      simp only [List.mem_filterMap, List.mem_map] at hk
      obtain ⟨_, ⟨y, hy, rfl⟩, e⟩ := hk
      obtain ⟨i, hi, rfl⟩ := List.getElem_of_mem hy
      exact (own_ge (h.parts i _ hi (List.getElem?_eq_getElem hi)) e).1
    have h0 := hT.apart
    have h1 : (rowsOf { T with ha := none }).Nodup := apart_ha h0 (fun j e => by cases e)
    simp only [rowsOf, hth, List.map_nil, List.append_nil] at h1 htl
    unfold rowsOf
    rw [List.filterMap_append]
    refine List.nodup_append.2 ⟨?_, hap, fun k hk k2 hk2 e => ?_⟩
    · exact nodup_put (l1 := [T.la, T.ga]) (l2 := [T.ua, T.wa]) (a := a) (nodup_out (l1 := [T.la, T.ga]) h1).1 (fun j e hj => by
        have : j ∈ ([T.la, T.ga, none, T.ua, T.wa] : List (Option Addr)).filterMap (·.map (·.block)) := by
          simp only [List.mem_filterMap] at hj ⊢
          obtain ⟨z, hz, e2⟩ := hj
          refine ⟨z, ?_, e2⟩
          simp only [List.cons_append, List.nil_append, List.mem_cons, List.not_mem_nil, or_false] at hz ⊢
          rcases hz with h | h | h | h
          · exact .inl h
          · exact .inr (.inl h)
          · exact .inr (.inr (.inr (.inl h)))
          · exact .inr (.inr (.inr (.inr h)))
        exact (htl j this).2 e)
    · subst e
      have h3 := key k hk2
      by_cases ha : a.map (·.block) = some k
      · have := h.rowlt k ha; omega
      · have : k ∈ ([T.la, T.ga, none, T.ua, T.wa] : List (Option Addr)).filterMap (·.map (·.block)) := by
          simp only [List.mem_filterMap, List.mem_cons, List.not_mem_nil, or_false] at hk ⊢
          obtain ⟨z, hz, e2⟩ := hk
          refine ⟨z, ?_, e2⟩
          rcases hz with h | h | h | h | h
          · exact .inl h
          · exact .inr (.inl h)
          · subst h; exact absurd e2 ha
          · exact .inr (.inr (.inr (.inl h)))
          · exact .inr (.inr (.inr (.inr h)))
        have := (htl k this).1
        omega

set_option maxRecDepth 100000 in
set_option maxHeartbeats 8000000 in
theorem copyStore_any (S : Sto) (w : World) (hS : IsStore w S) (hfit : S.fit) (hll : S.last.length ≤ 1000) (hgl : S.given.length ≤ 1000) :
    Calls Try.prog 16 #[stoV S] w fun e w' => (∃ T, e = .returned (stoV T) ∧ OwnSto w.heap.size w' T ∧ SameSto T S) ∧ Below w.heap.size w w' := by
  obtain ⟨hf1, hf2, hf3, hf4⟩ := hfit
  have hb1 : Below w.heap.size w ((w.alloc (.cells #[.int .i64 S.year, .slice S.la S.last.length S.lc, .slice S.ga S.given.length S.gc, .slice S.ha S.heaps.length S.hc, .slice S.ua S.used.length S.uc, .slice S.wa S.waste.length S.wc] 45)).alloc (.cells #[.int .i64 0, .slice none 0 0, .slice none 0 0, .slice none 0 0, .slice none 0 0, .slice none 0 0] 45)) := ((Below.refl _ w).alloc (Nat.le_refl _) _).alloc (by simp) _
  have kD1 : Blk ((w.alloc (.cells #[.int .i64 S.year, .slice S.la S.last.length S.lc, .slice S.ga S.given.length S.gc, .slice S.ha S.heaps.length S.hc, .slice S.ua S.used.length S.uc, .slice S.wa S.waste.length S.wc] 45)).alloc (.cells #[.int .i64 0, .slice none 0 0, .slice none 0 0, .slice none 0 0, .slice none 0 0, .slice none 0 0] 45)) w.heap.size #[.int .i64 S.year, .slice S.la S.last.length S.lc, .slice S.ga S.given.length S.gc, .slice S.ha S.heaps.length S.hc, .slice S.ua S.used.length S.uc, .slice S.wa S.waste.length S.wc] 45 := (Blk.new w 45 #[.int .i64 S.year, .slice S.la S.last.length S.lc, .slice S.ga S.given.length S.gc, .slice S.ha S.heaps.length S.hc, .slice S.ua S.used.length S.uc, .slice S.wa S.waste.length S.wc]).alloc _
  have kE1 : Blk ((w.alloc (.cells #[.int .i64 S.year, .slice S.la S.last.length S.lc, .slice S.ga S.given.length S.gc, .slice S.ha S.heaps.length S.hc, .slice S.ua S.used.length S.uc, .slice S.wa S.waste.length S.wc] 45)).alloc (.cells #[.int .i64 0, .slice none 0 0, .slice none 0 0, .slice none 0 0, .slice none 0 0, .slice none 0 0] 45)) (w.heap.size + 1) #[.int .i64 0, .slice none 0 0, .slice none 0 0, .slice none 0 0, .slice none 0 0, .slice none 0 0] 45 := by
    have := Blk.new (w.alloc (.cells #[.int .i64 S.year, .slice S.la S.last.length S.lc, .slice S.ga S.given.length S.gc, .slice S.ha S.heaps.length S.hc, .slice S.ua S.used.length S.uc, .slice S.wa S.waste.length S.wc] 45)) 45 #[.int .i64 0, .slice none 0 0, .slice none 0 0, .slice none 0 0, .slice none 0 0, .slice none 0 0]
    rwa [World.size_alloc] at this
  have HS := Lib.hid hS
  have HF4 := Lib.hid hf4
  clear hS hf4
  go_enter Try.func16, Try.ntmps16
  go_upto_region 1 with fail
  generalize (w.alloc (.cells #[.int .i64 S.year, .slice S.la S.last.length S.lc, .slice S.ga S.given.length S.gc, .slice S.ha S.heaps.length S.hc, .slice S.ua S.used.length S.uc, .slice S.wa S.waste.length S.wc] 45)).alloc (.cells #[.int .i64 0, .slice none 0 0, .slice none 0 0, .slice none 0 0, .slice none 0 0, .slice none 0 0] 45) = w1 at *
  have d1 : w1.cell? ⟨w.heap.size, 1, none⟩ = some (.slice S.la S.last.length S.lc) := kD1.cell 1
  have lD1 := kD1.lt
  have lE1 := kE1.lt
  go_wp2_with fail
  refine (cloneInts_any S.la S.lc S.last _ ((HS.out.below hb1).last) (by omega)).mono ?_
  rintro e w2 ⟨⟨a1, c1, rfl, r1⟩, hb2⟩
  have kD2 := kD1.belowS hb2
  have kE2 := kE1.belowS hb2
  have lD2 := kD2.lt
  have lE2 := kE2.lt
  have d2 : w2.cell? ⟨w.heap.size, 2, none⟩ = some (.slice S.ga S.given.length S.gc) := kD2.cell 2
  have e2 : w2.cell? ⟨w.heap.size, 1, none⟩ = some (.slice S.la S.last.length S.lc) := kD2.cell 1
  have z2 := kD2.frozen 1
  have hs1 := hb1.size
  have hs2 := hb2.size
  have o3 : OwnSto w.heap.size (w2.setCell ⟨w.heap.size, 1, none⟩ (.slice a1 S.last.length c1)) { S.bare with la := a1, lc := c1, last := S.last } :=
    OwnSto.setLast (a := a1) (c := c1) (l := S.last) (bare_own _ (w2.setCell ⟨w.heap.size, 1, none⟩ (.slice a1 S.last.length c1)) S) (fun _ _ => rfl) ((ownsRow_setCell_below r1 (a := ⟨w.heap.size, 1, none⟩) (by show w.heap.size < w1.heap.size; omega) _).mono (by omega)) (fun j e hj => by simp [rowsOf, Sto.bare] at hj)
  have b3 : Below w.heap.size w (w2.setCell ⟨w.heap.size, 1, none⟩ (.slice a1 S.last.length c1)) := (hb1.trans (hb2.mono hs1)).setCell (p := ⟨w.heap.size, 1, none⟩) (Nat.le_refl _) _
  have kD3 : Blk (w2.setCell ⟨w.heap.size, 1, none⟩ (.slice a1 S.last.length c1)) w.heap.size #[.int .i64 S.year, .slice a1 S.last.length c1, .slice S.ga S.given.length S.gc, .slice S.ha S.heaps.length S.hc, .slice S.ua S.used.length S.uc, .slice S.wa S.waste.length S.wc] 45 := kD2.set 1 _
  have kE3 := kE2.other (show w.heap.size + 1 ≠ w.heap.size by omega) (i := 1) (.slice a1 S.last.length c1)
  have s3 : (w2.setCell ⟨w.heap.size, 1, none⟩ (.slice a1 S.last.length c1)).heap.size = w2.heap.size := by simp [World.setCell]
  have lt3 : ∀ k ∈ rowsOf { S.bare with la := a1, lc := c1, last := S.last }, k < w2.heap.size ∧ w1.heap.size ≤ k := fun k hk => by
    simp only [rowsOf, Sto.bare, List.mem_filterMap, List.map_nil, List.append_nil, List.mem_cons, List.not_mem_nil, or_false] at hk
    obtain ⟨z, hz, e⟩ := hk
    rcases hz with rfl | rfl | rfl | rfl | rfl
    · have := own_ge r1 e; omega
    all_goals cases e
  have O3 := Lib.hid o3
  have B3 := Lib.hid b3
  have KD3 := Lib.hid kD3
  have KE3 := Lib.hid kE3
  have LT3 := Lib.hid lt3
  clear kD1 kE1 d1 kD2 kE2 r1 o3 b3 kD3 kE3 lt3 hb1 hb2
  go_upto_region 2 with fail
  generalize w2.setCell ⟨w.heap.size, 1, none⟩ (.slice a1 S.last.length c1) = w3 at *
  clear d2 e2 z2 lD2 lE2
  have kD3 := KD3.out
  have d2 : w3.cell? ⟨w.heap.size, 2, none⟩ = some (.slice S.ga S.given.length S.gc) := kD3.cell 2
  have lD3 := kD3.lt
  clear kD3
  go_wp2_with fail
  refine (cloneInts_any S.ga S.gc S.given _ ((HS.out.below B3.out).given) (by omega)).mono ?_
  rintro e w4 ⟨⟨a2, c2, rfl, r2⟩, hb4⟩
  have kD4 := KD3.out.belowS hb4
  have kE4 := KE3.out.belowS hb4
  have lD4 := kD4.lt
  have d4 : w4.cell? ⟨w.heap.size, 2, none⟩ = some (.slice S.ga S.given.length S.gc) := kD4.cell 2
  have z4 := kD4.frozen 2
  have hs4 := hb4.size
  have o5 : OwnSto w.heap.size (w4.setCell ⟨w.heap.size, 2, none⟩ (.slice a2 S.given.length c2)) { S.bare with la := a1, lc := c1, last := S.last, ga := a2, gc := c2, given := S.given } := by
    have hT : Turn (fun k => k = w.heap.size) w3 (w4.setCell ⟨w.heap.size, 2, none⟩ (.slice a2 S.given.length c2)) := (Turn.of_below (X := fun k => k = w.heap.size) hb4).setCell (B := w.heap.size) rfl _ _
    exact OwnSto.setGiven (a := a2) (c := c2) (l := S.given) (O3.out.turn hT (fun k e hk => by have := (LT3.out k hk).2; have := (show k = w.heap.size from e); omega)) (fun _ _ => rfl) ((ownsRow_setCell_below r2 (a := ⟨w.heap.size, 2, none⟩) (by show w.heap.size < w3.heap.size; omega) _).mono (by omega)) (fun j e hj => by
      have := own_ge r2 e
      have := LT3.out j (rows_noga (S := { S.bare with la := a1, lc := c1, last := S.last }) j hj)
      omega)
  have b5 : Below w.heap.size w (w4.setCell ⟨w.heap.size, 2, none⟩ (.slice a2 S.given.length c2)) := (B3.out.trans (hb4.mono B3.out.size)).setCell (p := ⟨w.heap.size, 2, none⟩) (Nat.le_refl _) _
  have kD5 : Blk (w4.setCell ⟨w.heap.size, 2, none⟩ (.slice a2 S.given.length c2)) w.heap.size #[.int .i64 S.year, .slice a1 S.last.length c1, .slice a2 S.given.length c2, .slice S.ha S.heaps.length S.hc, .slice S.ua S.used.length S.uc, .slice S.wa S.waste.length S.wc] 45 := kD4.set 2 _
  have kE5 := kE4.other (show w.heap.size + 1 ≠ w.heap.size by omega) (i := 2) (.slice a2 S.given.length c2)
  have s5 : (w4.setCell ⟨w.heap.size, 2, none⟩ (.slice a2 S.given.length c2)).heap.size = w4.heap.size := by simp [World.setCell]
  have lt5 : ∀ k ∈ rowsOf { S.bare with la := a1, lc := c1, last := S.last, ga := a2, gc := c2, given := S.given }, k < w4.heap.size ∧ w1.heap.size ≤ k := fun k hk => by
    have hk0 := hk
    simp only [rowsOf, Sto.bare, List.mem_filterMap, List.map_nil, List.append_nil, List.mem_cons, List.not_mem_nil, or_false] at hk
    obtain ⟨z, hz, e⟩ := hk
    rcases hz with rfl | rfl | rfl | rfl | rfl
    · have := LT3.out k (rows_la (S := { S.bare with la := z, lc := c1, last := S.last }) e); omega
    · have := own_ge r2 e; omega
    all_goals cases e
  have O5 := Lib.hid o5
  have B5 := Lib.hid b5
  have KD5 := Lib.hid kD5
  have KE5 := Lib.hid kE5
  have LT5 := Lib.hid lt5
  clear kD4 kE4 r2 o5 b5 kD5 kE5 lt5 hb4 lD3 d2
  go_upto_region 3 with fail
  generalize w4.setCell ⟨w.heap.size, 2, none⟩ (.slice a2 S.given.length c2) = w5 at *
  clear d4 z4 lD4
  have kD5 := KD5.out
  have d3 : w5.cell? ⟨w.heap.size, 3, none⟩ = some (.slice S.ha S.heaps.length S.hc) := kD5.cell 3
  have lD5 := kD5.lt
  clear kD5
  go_wp2_with fail
  refine (cloneHeps_any S.ha S.hc S.heaps _ ((HS.out.below B5.out).heaps) (by omega)).mono ?_
  rintro e w6 ⟨⟨a3, c3, rfl, r3⟩, hb6⟩
  have kD6 := KD5.out.belowS hb6
  have kE6 := KE5.out.belowS hb6
  have lD6 := kD6.lt
  have d6 : w6.cell? ⟨w.heap.size, 3, none⟩ = some (.slice S.ha S.heaps.length S.hc) := kD6.cell 3
  have z6 := kD6.frozen 3
  have hs6 := hb6.size
  have hT7 : Turn (fun k => k = w.heap.size) w5 (w6.setCell ⟨w.heap.size, 3, none⟩ (.slice a3 S.heaps.length c3)) := (Turn.of_below (X := fun k => k = w.heap.size) hb6).setCell (B := w.heap.size) rfl _ _
  have o7 := O5.out.turn hT7 (fun k e hk => by have := (LT5.out k hk).2; have := (show k = w.heap.size from e); omega)
  have r7 := ownsRow_setCell_below r3 (a := ⟨w.heap.size, 3, none⟩) (by show w.heap.size < w5.heap.size; omega) (.slice a3 S.heaps.length c3)
  have b7 : Below w.heap.size w (w6.setCell ⟨w.heap.size, 3, none⟩ (.slice a3 S.heaps.length c3)) := (B5.out.trans (hb6.mono B5.out.size)).setCell (p := ⟨w.heap.size, 3, none⟩) (Nat.le_refl _) _
  have kD7 : Blk (w6.setCell ⟨w.heap.size, 3, none⟩ (.slice a3 S.heaps.length c3)) w.heap.size #[.int .i64 S.year, .slice a1 S.last.length c1, .slice a2 S.given.length c2, .slice a3 S.heaps.length c3, .slice S.ua S.used.length S.uc, .slice S.wa S.waste.length S.wc] 45 := kD6.set 3 _
  have kE7 := kE6.other (show w.heap.size + 1 ≠ w.heap.size by omega) (i := 3) (.slice a3 S.heaps.length c3)
  have s7 : (w6.setCell ⟨w.heap.size, 3, none⟩ (.slice a3 S.heaps.length c3)).heap.size = w6.heap.size := by simp [World.setCell]
  have i7 : CopyI w.heap.size w6.heap.size 0 S a3 c3 S.heaps (w6.setCell ⟨w.heap.size, 3, none⟩ (.slice a3 S.heaps.length c3)) := CopyI.start (r7.mono (by omega)) (by omega)
  have na3 : ∀ k, a3.map (·.block) = some k → w5.heap.size ≤ k := fun k e => (own_ge r3 e).1
  have O7 := Lib.hid o7
  have B7 := Lib.hid b7
  have KD7 := Lib.hid kD7
  have KE7 := Lib.hid kE7
  have I7 := Lib.hid i7
  have NA3 := Lib.hid na3
  clear kD6 kE6 r3 r7 o7 b7 kD7 kE7 i7 hb6 hT7 lD5 d3 na3
  go_upto_region 4 with fail
  generalize w6.setCell ⟨w.heap.size, 3, none⟩ (.slice a3 S.heaps.length c3) = w7 at *
  clear d6 z6 lD6
  have kD7 := KD7.out
  have d3 : w7.cell? ⟨w.heap.size, 3, none⟩ = some (.slice a3 S.heaps.length c3) := kD7.cell 3
  have lD7 := kD7.lt
  clear kD7
  go_wp2_with fail
  clear d3 lD7
  go_loopw [20, 3, 4] (fun k i3 b4 wr => ∃ (j : Nat) (hs : List Hep), j ≤ S.heaps.length ∧ k = .int .i64 j ∧ CopyI w.heap.size w6.heap.size j S a3 c3 hs wr ∧ OwnSto w.heap.size wr { S.bare with la := a1, lc := c1, last := S.last, ga := a2, gc := c2, given := S.given } ∧
      Blk wr w.heap.size #[.int .i64 S.year, .slice a1 S.last.length c1, .slice a2 S.given.length c2, .slice a3 S.heaps.length c3, .slice S.ua S.used.length S.uc, .slice S.wa S.waste.length S.wc] 45 ∧ Blk wr (w.heap.size + 1) #[.int .i64 0, .slice none 0 0, .slice none 0 0, .slice none 0 0, .slice none 0 0, .slice none 0 0] 45 ∧ Below w.heap.size w wr ∧ w6.heap.size ≤ wr.heap.size) (fun k _ _ _ => S.heaps.length - (intOf k).toNat)
  case atStart => exact ⟨0, S.heaps, Nat.zero_le _, rfl, I7.out, O7.out, KD7.out, KE7.out, B7.out, by omega⟩
  case round =>
    obtain ⟨j, hs, hj, rfl, hC, hO, kD, kE, hB, hn⟩ := hrel
    by_cases hlj : j < S.heaps.length
    · have hq : S.heaps[j]? = some S.heaps[j] := List.getElem?_eq_getElem hlj
      obtain ⟨hb0, hoff, hea0, hbl0, hcap0, hcx0, _, hpp, hnm⟩ := ((HS.out.below hB).heaps).at hq
      have hqh : hs[j]? = some S.heaps[j] := by rw [hC.rest j (Nat.le_refl _)]; exact hq
      have hpl := HF4.out _ (List.mem_of_getElem? hq)
      generalize S.heaps[j] = h at *
      have hhl : hs.length = S.heaps.length := hC.same.1
      obtain ⟨g, gcap, gv, hgb, hgl9⟩ := hC.row.form (by omega)
      obtain ⟨rfl, _, rfl⟩ := slice_inj gv
      have hcapr : S.heaps.length ≤ c3 ∧ c3 ≤ 9223372036854775807 := by
        rcases hC.row.2 with ⟨e, _⟩ | ⟨_, _, _, e, _, _, h1, h2, _⟩
        · cases e
        · obtain ⟨_, _, rfl⟩ := slice_inj e
          unfold maxLen at h2
          omega
      obtain ⟨hcap, hcx⟩ := hcapr
      have hcell : ∀ i, i < 7 → wr.cell? ⟨g, j * 7 + i, none⟩ = (cellsHep h)[i]? := fun i hi => by
        rw [hC.row.cellAt _ (by omega)]
        exact flat_at cellsHep 7 (fun _ => rfl) hs j i h hqh hi
      have c0 : wr.cell? ⟨g, j * 7, none⟩ = some (.string h.name) := hcell 0 (by omega)
      have x1 : wr.cell? ⟨g, j * 7 + 1, none⟩ = some (.int .i64 h.crop) := hcell 1 (by omega)
      have x2 : wr.cell? ⟨g, j * 7 + 2, none⟩ = some (.int .i64 h.stage) := hcell 2 (by omega)
      have x3 : wr.cell? ⟨g, j * 7 + 3, none⟩ = some (.slice h.pa h.parts.length h.pc) := hcell 3 (by omega)
      have x4 : wr.cell? ⟨g, j * 7 + 4, none⟩ = some (.int .i64 h.per) := hcell 4 (by omega)
      have x5 : wr.cell? ⟨g, j * 7 + 5, none⟩ = some (.int .i64 h.wlo) := hcell 5 (by omega)
      have x6 : wr.cell? ⟨g, j * 7 + 6, none⟩ = some (.int .i64 h.whi) := hcell 6 (by omega)
      have hj0 : (0 : Int) ≤ (j : Int) := Int.natCast_nonneg _
      have hj1 : (j : Int) < (S.heaps.length : Int) := by omega
      have hbH : Below wr.heap.size wr (wr.alloc (.cells #[.string h.name, .int .i64 h.crop, .int .i64 h.stage, .slice h.pa h.parts.length h.pc, .int .i64 h.per, .int .i64 h.wlo, .int .i64 h.whi] 77)) := (Below.refl _ wr).alloc (Nat.le_refl _) _
      have kH := Blk.new wr 77 #[.string h.name, .int .i64 h.crop, .int .i64 h.stage, .slice h.pa h.parts.length h.pc, .int .i64 h.per, .int .i64 h.wlo, .int .i64 h.whi]
      have HC := Lib.hid hC
      have HO := Lib.hid hO
      have KD := Lib.hid kD
      have KE := Lib.hid kE
      have HB := Lib.hid hB
      have HPP := Lib.hid hpp
      have HQH := Lib.hid hqh
      have HHL := Lib.hid hhl
      have hgD : w.heap.size < g := by have := NA3.out g rfl; omega
      have hgD2 : w.heap.size + 1 < g := by have := NA3.out g rfl; omega
      clear hq hqh hhl hC hO kD kE hB hpp gv hcell hbl0 hcap0 hcx0 hea0
      go_upto_region 7 with fail
      generalize wr.alloc (.cells #[.string h.name, .int .i64 h.crop, .int .i64 h.stage, .slice h.pa h.parts.length h.pc, .int .i64 h.per, .int .i64 h.wlo, .int .i64 h.whi] 77) = wa at *
      clear c0 x1 x2 x3 x4 x5 x6
      have kDa := KD.out.belowS hbH
      have y3 : wa.cell? ⟨w.heap.size, 3, none⟩ = some (.slice (some ⟨g, 0, none⟩) S.heaps.length c3) := kDa.cell 3
      have h3 : wa.cell? ⟨wr.heap.size, 3, none⟩ = some (.slice h.pa h.parts.length h.pc) := kH.cell 3
      have lDa := kDa.lt
      have lHa := kH.lt
      have hga := Nat.lt_of_lt_of_le hgl9 hbH.size
      have hstep : ∀ w', Below wa.heap.size wa w' → Below wa.heap.size wa w' ∧ (w'.cell? ⟨w.heap.size, 3, none⟩ = some (.slice (some ⟨g, 0, none⟩) S.heaps.length c3) ∧ w'.cell? ⟨wr.heap.size, 3, none⟩ = some (.slice h.pa h.parts.length h.pc)) :=
        fun w' hb => ⟨hb, (hb.cell (p := ⟨w.heap.size, 3, none⟩) lDa).trans y3, (hb.cell (p := ⟨wr.heap.size, 3, none⟩) lHa).trans h3⟩
      have hx := hstep wa.drew ((Below.refl _ wa).drew)
      have HST := Lib.hid hstep
      have KDA := Lib.hid kDa
      have HBH := Lib.hid hbH
      clear hstep kDa kH y3 h3 hbH
      refine wp_region_E 8 (fun w' : World => Below wa.heap.size wa w' ∧ (w'.cell? ⟨w.heap.size, 3, none⟩ = some (.slice (some ⟨g, 0, none⟩) S.heaps.length c3) ∧ w'.cell? ⟨wr.heap.size, 3, none⟩ = some (.slice h.pa h.parts.length h.pc))) (by kernel_rfl) ?_
      refine E_take (i := 0) (oi := _) (v := ?v62) rfl (by kernel_rfl) (by kernel_rfl) (by kernel_rfl) (by kernel_rfl) (fun _ _ _ h => h) hx (Or.inl ⟨by rfl, ?y62⟩) ?r62
      case y62 => (intro w' hSw; (try dsimp only at hSw); go_simp; try with_reducible rfl)
      try simp only [Act.put, List.getElem_toArray, List.getElem_cons_zero, List.getElem_cons_succ, List.setIfInBounds_toArray, List.set_cons_zero, List.set_cons_succ]
      refine E_take (i := 1) (oi := _) (v := ?v63) rfl (by kernel_rfl) (by kernel_rfl) (by kernel_rfl) (by kernel_rfl) (fun _ _ _ h => h) hx (Or.inl ⟨by rfl, ?y63⟩) ?r63
      case y63 => (intro w' hSw; (try dsimp only at hSw); go_simp; try with_reducible rfl)
      try simp only [Act.put, List.getElem_toArray, List.getElem_cons_zero, List.getElem_cons_succ, List.setIfInBounds_toArray, List.set_cons_zero, List.set_cons_succ]
      refine E_take (i := 2) (oi := _) (v := ?v64) rfl (by kernel_rfl) (by kernel_rfl) (by kernel_rfl) (by kernel_rfl) (fun _ _ _ h => h) hx (Or.inl ⟨by rfl, ?y64⟩) ?r64
      case y64 => (intro w' hSw; (try dsimp only at hSw); go_simp; try with_reducible rfl)
      try simp only [Act.put, List.getElem_toArray, List.getElem_cons_zero, List.getElem_cons_succ, List.setIfInBounds_toArray, List.set_cons_zero, List.set_cons_succ]
      refine E_take (i := 3) (oi := _) (v := ?v65) rfl (by kernel_rfl) (by kernel_rfl) (by kernel_rfl) (by kernel_rfl) (fun _ _ _ h => h) hx (Or.inl ⟨by rfl, ?y65⟩) ?r65
      case y65 => (intro w' hSw; (try dsimp only at hSw); go_simp; try with_reducible rfl)
      try simp only [Act.put, List.getElem_toArray, List.getElem_cons_zero, List.getElem_cons_succ, List.setIfInBounds_toArray, List.set_cons_zero, List.set_cons_succ]
      refine E_take (i := 4) (oi := _) (v := ?v66) rfl (by kernel_rfl) (by kernel_rfl) (by kernel_rfl) (by kernel_rfl) (fun _ _ _ h => h) hx (Or.inl ⟨by rfl, ?y66⟩) ?r66
      case y66 => (intro w' hSw; (try dsimp only at hSw); go_simp; try with_reducible rfl)
      try simp only [Act.put, List.getElem_toArray, List.getElem_cons_zero, List.getElem_cons_succ, List.setIfInBounds_toArray, List.set_cons_zero, List.set_cons_succ]
      refine E_step (i := 5) (o := _) (by kernel_rfl) rfl (fun K hK => ?_)
      go_simp
      refine (clonePrts_any h.pa h.pc h.parts _ ((HPP.out.belowS HBH.out).belowS hx.1) (by omega)).mono ?_
      rintro r wb ⟨⟨a9, c9, rfl, r9⟩, hb9⟩
      dsimp only
      have hb9' : Below wa.heap.size wa wb := hx.1.trans hb9
      have hx9 := HST.out wb hb9'
      refine hK.out _ _ (fun _ => hx9) ?_
      clear hK K
      try simp only [Act.put, List.getElem_toArray, List.getElem_cons_zero, List.getElem_cons_succ, List.setIfInBounds_toArray, List.set_cons_zero, List.set_cons_succ]
      refine E_step (i := 6) (o := _) (by kernel_rfl) rfl (fun K hK => ?_)
      go_simp
      refine hK.out _ _ (fun _ => hx9) ?_
      clear hK K
      try simp only [Act.put, List.getElem_toArray, List.getElem_cons_zero, List.getElem_cons_succ, List.setIfInBounds_toArray, List.set_cons_zero, List.set_cons_succ]
      refine E_step (i := 7) (o := _) (by kernel_rfl) rfl (fun K hK => ?_)
      go_simp
      refine hK.out _ _ (fun _ => hx9) ?_
      clear hK K
      try simp only [Act.put, List.getElem_toArray, List.getElem_cons_zero, List.getElem_cons_succ, List.setIfInBounds_toArray, List.set_cons_zero, List.set_cons_succ]
      have hCa := HC.out.below HBH.out
      have hrz : wb.frozen? ⟨g, j * 7 + 3, none⟩ = false := (own_below hCa.row hb9').frozenAt _
      have hrc : wb.cell? ⟨g, j * 7 + 3, none⟩ = some (.slice h.pa h.parts.length h.pc) := by
        rw [(own_below hCa.row hb9').cellAt _ (by have := HHL.out; omega)]
        exact flat_at cellsHep 7 (fun _ => rfl) hs j 3 h HQH.out (by omega)
      have hgb9 := Nat.lt_of_lt_of_le hga hb9'.size
      have hNX := hCa.next hb9' HQH.out (Nat.le_trans hn HBH.out.size) r9
      have hTa : Turn (fun k => k = g) wr (wb.setCell ⟨g, j * 7 + 3, none⟩ (.slice a9 h.parts.length c9)) := ((Turn.of_below (X := fun k => k = g) HBH.out).trans (Turn.of_below hb9')).setCell (B := g) rfl _ _
      have hOn := HO.out.turn hTa (fun k e hk => by
        rw [show k = g from e] at hk
        have h1 := NA3.out g rfl
        have h2 := (LT5.out g hk).1
        omega)
      have kDn := hTa.blk KD.out (fun e => by have : w.heap.size = g := e; omega)
      have kEn := hTa.blk KE.out (fun e => by have : w.heap.size + 1 = g := e; omega)
      have hBn : Below w.heap.size w (wb.setCell ⟨g, j * 7 + 3, none⟩ (.slice a9 h.parts.length c9)) := HB.out.trans (hTa.below HB.out.size (fun k e => by rw [show k = g from e]; omega))
      have hNX2 := Lib.hid hNX
      have hTs := hTa.size
      have HON := Lib.hid hOn
      have KDN := Lib.hid kDn
      have KEN := Lib.hid kEn
      have HBN := Lib.hid hBn
      clear hx hx9 hb9 hb9' hCa hNX hTa hOn kDn kEn hBn r9
      refine E_step (i := 8) (o := _) (by kernel_rfl) rfl (fun K hK => ?_)
      go_simp
      refine hK.out _ _ (fun h => absurd rfl h) ?_
      clear hK K
      try simp only [Act.put, List.getElem_toArray, List.getElem_cons_zero, List.getElem_cons_succ, List.setIfInBounds_toArray, List.set_cons_zero, List.set_cons_succ]
      refine E_done (by kernel_rfl) ?_ _
      go_wp2_with fail
      have hbs : w6.heap.size ≤ wb.heap.size := by
        rw [show (wb.setCell ⟨g, j * 7 + 3, none⟩ (.slice a9 h.parts.length c9)).heap.size = wb.heap.size by simp [World.setCell]] at hTs
        omega
      have hbs2 : w6.heap.size ≤ (wb.setCell ⟨g, j * 7 + 3, none⟩ (.slice a9 h.parts.length c9)).heap.size := by simp [World.setCell]; omega
      refine ⟨?_, by simp [intOf]; omega⟩
      first
        | exact ⟨_, _, _, ⟨j + 1, _, by omega, rfl, hNX2.out, HON.out, KDN.out, KEN.out, HBN.out, by first | exact hbs | exact hbs2⟩, rfl, rfl, by simp⟩
        | exact ⟨j + 1, _, by omega, by simp, hNX2.out, HON.out, KDN.out, KEN.out, HBN.out, by first | exact hbs | exact hbs2⟩
        | exact ⟨_, _, _, ⟨j + 1, by omega, rfl, ⟨_, hNX2.out⟩, HON.out, KDN.out, KEN.out, HBN.out, by first | exact hbs | exact hbs2⟩, rfl, rfl, by simp⟩
        | trace_state
    · obtain rfl : j = S.heaps.length := by omega
      have hnm : ∀ x ∈ hs, x.name.size ≤ maxLen := fun x hx => by
        obtain ⟨i, hi, rfl⟩ := List.getElem_of_mem hx
        obtain ⟨y, hy, hxy⟩ := hC.same.get (List.getElem?_eq_getElem hi)
        obtain ⟨_, _, _, _, _, _, _, _, hny⟩ := ((HS.out.below hB).heaps).at hy
        rw [hxy.name]; exact hny
      have hC' : CopyI w.heap.size w6.heap.size hs.length S a3 c3 hs wr := by rw [hC.same.1]; exact hC
      have hod := hC'.done hO (by omega) rfl (fun k hk => by
        have h1 := LT5.out k (rows_noha (S := { S.bare with la := a1, lc := c1, last := S.last, ga := a2, gc := c2, given := S.given }) k hk)
        exact ⟨by omega, fun e => by have := NA3.out k e; omega⟩) hnm
      have hrows : ∀ k ∈ rowsOf { S.bare with la := a1, lc := c1, last := S.last, ga := a2, gc := c2, given := S.given, ha := a3, hc := c3, heaps := hs }, k < wr.heap.size ∧ w1.heap.size ≤ k := fun k hk => by
        refine ⟨(hod.ge k hk).2, ?_⟩
        have hk0 := hk
        simp only [rowsOf, List.mem_filterMap, List.mem_append, List.mem_cons, List.mem_map, List.not_mem_nil, or_false] at hk
        obtain ⟨z, hz, e⟩ := hk
        rcases hz with (rfl | rfl | rfl | h | h) | ⟨x, hx, rfl⟩
        · exact (LT5.out k (rows_la (S := { S.bare with la := z, lc := c1, last := S.last, ga := a2, gc := c2, given := S.given }) e)).2
        · exact (LT5.out k (rows_ga (S := { S.bare with la := a1, lc := c1, last := S.last, ga := z, gc := c2, given := S.given }) e)).2
        · have := NA3.out k e; omega
        · rw [h] at e; cases e
        · rw [h] at e; cases e
        · obtain ⟨i, hi, rfl⟩ := List.getElem_of_mem hx
          have := (own_ge (hC'.parts i _ hi (List.getElem?_eq_getElem hi)) e).1
          omega
      have hsame := hC.same
      have HSA := Lib.hid hsame
      have hhl : hs.length = S.heaps.length := hsame.1
      rw [← hhl] at kD
      have HOD := Lib.hid hod
      have HRW := Lib.hid hrows
      have HB := Lib.hid hB
      have KE := Lib.hid kE
      have KD := Lib.hid kD
      have d4 : wr.cell? ⟨w.heap.size, 4, none⟩ = some (.slice S.ua S.used.length S.uc) := kD.cell 4
      have lDr := kD.lt
      clear hC hC' hO hod hrows hsame hhl hnm kD kE hB hlj hj
      generalize hN : S.heaps.length = NN at *
      clear hN
      go_wp2_with fail
      refine (clonePrts_any S.ua S.uc S.used _ ((HS.out.below HB.out).used) (by omega)).mono ?_
      rintro e w8 ⟨⟨a4, c4, rfl, r4⟩, hb8⟩
      have kD8 := KD.out.belowS hb8
      have kE8 := KE.out.belowS hb8
      have lD8 := kD8.lt
      have d8 : w8.cell? ⟨w.heap.size, 4, none⟩ = some (.slice S.ua S.used.length S.uc) := kD8.cell 4
      have z8 := kD8.frozen 4
      have hs8 := hb8.size
      have hT9 : Turn (fun k => k = w.heap.size) wr (w8.setCell ⟨w.heap.size, 4, none⟩ (.slice a4 S.used.length c4)) := (Turn.of_below (X := fun k => k = w.heap.size) hb8).setCell (B := w.heap.size) rfl _ _
      have o9 := OwnSto.setUsed (a := a4) (c := c4) (l := S.used) (HOD.out.turn hT9 (fun k e hk => by have := (HRW.out k hk).2; have := (show k = w.heap.size from e); omega)) (fun _ _ => rfl) ((ownsRow_setCell_below r4 (a := ⟨w.heap.size, 4, none⟩) (by show w.heap.size < wr.heap.size; omega) (.slice a4 S.used.length c4)).mono (by omega)) (fun j e hj => by
        have h1 := own_ge r4 e
        have h2 := HRW.out j (rows_noua (S := { S.bare with la := a1, lc := c1, last := S.last, ga := a2, gc := c2, given := S.given, ha := a3, hc := c3, heaps := hs }) j hj)
        omega)
      have b9 : Below w.heap.size w (w8.setCell ⟨w.heap.size, 4, none⟩ (.slice a4 S.used.length c4)) := (HB.out.trans (hb8.mono HB.out.size)).setCell (p := ⟨w.heap.size, 4, none⟩) (Nat.le_refl _) _
      have kD9 : Blk (w8.setCell ⟨w.heap.size, 4, none⟩ (.slice a4 S.used.length c4)) w.heap.size #[.int .i64 S.year, .slice a1 S.last.length c1, .slice a2 S.given.length c2, .slice a3 hs.length c3, .slice a4 S.used.length c4, .slice S.wa S.waste.length S.wc] 45 := kD8.set 4 _
      have kE9 := kE8.other (show w.heap.size + 1 ≠ w.heap.size by omega) (i := 4) (.slice a4 S.used.length c4)
      have s9 : (w8.setCell ⟨w.heap.size, 4, none⟩ (.slice a4 S.used.length c4)).heap.size = w8.heap.size := by simp [World.setCell]
      have rw9 : ∀ k ∈ rowsOf { S.bare with la := a1, lc := c1, last := S.last, ga := a2, gc := c2, given := S.given, ha := a3, hc := c3, heaps := hs, ua := a4, uc := c4, used := S.used }, k < w8.heap.size ∧ w1.heap.size ≤ k := fun k hk => by
        have h1 := (o9.ge k hk).2
        refine ⟨by omega, ?_⟩
        by_cases h2 : a4.map (·.block) = some k
        · have := own_ge r4 h2; omega
        · simp only [rowsOf, List.mem_filterMap, List.mem_append, List.mem_cons] at hk
          obtain ⟨z, hz, e⟩ := hk
          by_cases hza : z = a4
          · subst hza; exact absurd e h2
          · refine (HRW.out k (List.mem_filterMap.2 ⟨z, ?_, e⟩)).2
            simp only [List.mem_append, List.mem_cons]
            rcases hz with (h | h | h | h | h | h) | h
            · exact .inl (.inl h)
            · exact .inl (.inr (.inl h))
            · exact .inl (.inr (.inr (.inl h)))
            · exact absurd h hza
            · exact .inl (.inr (.inr (.inr (.inr (.inl h)))))
            · exact .inl (.inr (.inr (.inr (.inr (.inr h)))))
            · exact .inr h
      have O9 := Lib.hid o9
      have B9 := Lib.hid b9
      have KD9 := Lib.hid kD9
      have KE9 := Lib.hid kE9
      have RW9 := Lib.hid rw9
      clear kD8 kE8 r4 o9 b9 kD9 kE9 rw9 hb8 hT9 d4 lDr
      go_upto_region 10 with fail
      generalize w8.setCell ⟨w.heap.size, 4, none⟩ (.slice a4 S.used.length c4) = w9 at *
      clear d8 z8 lD8
      have kD9 := KD9.out
      have d5 : w9.cell? ⟨w.heap.size, 5, none⟩ = some (.slice S.wa S.waste.length S.wc) := kD9.cell 5
      have lD9 := kD9.lt
      clear kD9
      go_wp2_with fail
      refine (clonePrts_any S.wa S.wc S.waste _ ((HS.out.below B9.out).waste) (by omega)).mono ?_
      rintro e w10 ⟨⟨a5, c5, rfl, r5⟩, hb10⟩
      have kD10 := KD9.out.belowS hb10
      have kE10 := KE9.out.belowS hb10
      have lD10 := kD10.lt
      have d10 : w10.cell? ⟨w.heap.size, 5, none⟩ = some (.slice S.wa S.waste.length S.wc) := kD10.cell 5
      have z10 := kD10.frozen 5
      have hs10 := hb10.size
      have hT11 : Turn (fun k => k = w.heap.size) w9 (w10.setCell ⟨w.heap.size, 5, none⟩ (.slice a5 S.waste.length c5)) := (Turn.of_below (X := fun k => k = w.heap.size) hb10).setCell (B := w.heap.size) rfl _ _
      have o11 := OwnSto.setWaste (a := a5) (c := c5) (l := S.waste) (O9.out.turn hT11 (fun k e hk => by have := (RW9.out k hk).2; have := (show k = w.heap.size from e); omega)) (fun _ _ => rfl) ((ownsRow_setCell_below r5 (a := ⟨w.heap.size, 5, none⟩) (by show w.heap.size < w9.heap.size; omega) (.slice a5 S.waste.length c5)).mono (by omega)) (fun j e hj => by
        have h1 := own_ge r5 e
        have h2 := RW9.out j (rows_nowa (S := { S.bare with la := a1, lc := c1, last := S.last, ga := a2, gc := c2, given := S.given, ha := a3, hc := c3, heaps := hs, ua := a4, uc := c4, used := S.used }) j hj)
        omega)
      have b11 : Below w.heap.size w (w10.setCell ⟨w.heap.size, 5, none⟩ (.slice a5 S.waste.length c5)) := (B9.out.trans (hb10.mono B9.out.size)).setCell (p := ⟨w.heap.size, 5, none⟩) (Nat.le_refl _) _
      have kD11 : Blk (w10.setCell ⟨w.heap.size, 5, none⟩ (.slice a5 S.waste.length c5)) w.heap.size #[.int .i64 S.year, .slice a1 S.last.length c1, .slice a2 S.given.length c2, .slice a3 hs.length c3, .slice a4 S.used.length c4, .slice a5 S.waste.length c5] 45 := kD10.set 5 _
      have kE11 := kE10.other (show w.heap.size + 1 ≠ w.heap.size by omega) (i := 5) (.slice a5 S.waste.length c5)
      have rg11 : ∀ k ∈ rowsOf { S.bare with la := a1, lc := c1, last := S.last, ga := a2, gc := c2, given := S.given, ha := a3, hc := c3, heaps := hs, ua := a4, uc := c4, used := S.used, wa := a5, wc := c5, waste := S.waste }, w1.heap.size ≤ k := fun k hk => by
        by_cases h2 : a5.map (·.block) = some k
        · have := own_ge r5 h2; omega
        · simp only [rowsOf, List.mem_filterMap, List.mem_append, List.mem_cons] at hk
          obtain ⟨z, hz, e⟩ := hk
          by_cases hza : z = a5
          · subst hza; exact absurd e h2
          · refine (RW9.out k (List.mem_filterMap.2 ⟨z, ?_, e⟩)).2
            simp only [List.mem_append, List.mem_cons]
            rcases hz with (h | h | h | h | h | h) | h
            · exact .inl (.inl h)
            · exact .inl (.inr (.inl h))
            · exact .inl (.inr (.inr (.inl h)))
            · exact .inl (.inr (.inr (.inr (.inl h))))
            · exact absurd h hza
            · exact .inl (.inr (.inr (.inr (.inr (.inr h)))))
            · exact .inr h
      have O11 := Lib.hid o11
      have B11 := Lib.hid b11
      have KD11 := Lib.hid kD11
      have KE11 := Lib.hid kE11
      have RG11 := Lib.hid rg11
      clear kD10 kE10 r5 o11 b11 kD11 kE11 rg11 hb10 hT11 d5 lD9
      go_upto_region 11 with fail
      generalize w10.setCell ⟨w.heap.size, 5, none⟩ (.slice a5 S.waste.length c5) = w11 at *
      clear d10 z10 lD10
      have kD11 := KD11.out
      have kE11 := KE11.out
      have lD11 := kD11.lt
      have lE11 := kE11.lt
      obtain ⟨m0, m1, m2, m3, m4, m5⟩ := (show w11.cell? ⟨w.heap.size, 0, none⟩ = some (.int .i64 S.year) ∧ w11.cell? ⟨w.heap.size, 1, none⟩ = some (.slice a1 S.last.length c1) ∧ w11.cell? ⟨w.heap.size, 2, none⟩ = some (.slice a2 S.given.length c2) ∧ w11.cell? ⟨w.heap.size, 3, none⟩ = some (.slice a3 hs.length c3) ∧ w11.cell? ⟨w.heap.size, 4, none⟩ = some (.slice a4 S.used.length c4) ∧ w11.cell? ⟨w.heap.size, 5, none⟩ = some (.slice a5 S.waste.length c5) from ⟨kD11.cell 0, kD11.cell 1, kD11.cell 2, kD11.cell 3, kD11.cell 4, kD11.cell 5⟩)
      obtain ⟨f0, f1, f2, f3, f4, f5⟩ := (show w11.cell? ⟨w.heap.size + 1, 0, none⟩ = some (.int .i64 0) ∧ w11.cell? ⟨w.heap.size + 1, 1, none⟩ = some (.slice none 0 0) ∧ w11.cell? ⟨w.heap.size + 1, 2, none⟩ = some (.slice none 0 0) ∧ w11.cell? ⟨w.heap.size + 1, 3, none⟩ = some (.slice none 0 0) ∧ w11.cell? ⟨w.heap.size + 1, 4, none⟩ = some (.slice none 0 0) ∧ w11.cell? ⟨w.heap.size + 1, 5, none⟩ = some (.slice none 0 0) from ⟨kE11.cell 0, kE11.cell 1, kE11.cell 2, kE11.cell 3, kE11.cell 4, kE11.cell 5⟩)
      have y0 := kE11.frozen 0
      have y1 := kE11.frozen 1
      have y2 := kE11.frozen 2
      have y3 := kE11.frozen 3
      have y4 := kE11.frozen 4
      have y5 := kE11.frozen 5
      clear kD11 kE11
      go_wp2_with fail
      have kf := (((((KE11.out.set 0 (.int .i64 S.year)).set 1 (.slice a1 S.last.length c1)).set 2 (.slice a2 S.given.length c2)).set 3 (.slice a3 hs.length c3)).set 4 (.slice a4 S.used.length c4)).set 5 (.slice a5 S.waste.length c5)
      have hTf : Turn (fun k => k = w.heap.size + 1) w11 ((((((w11.setCell ⟨w.heap.size + 1, 0, none⟩ (.int .i64 S.year)).setCell ⟨w.heap.size + 1, 1, none⟩ (.slice a1 S.last.length c1)).setCell ⟨w.heap.size + 1, 2, none⟩ (.slice a2 S.given.length c2)).setCell ⟨w.heap.size + 1, 3, none⟩ (.slice a3 hs.length c3)).setCell ⟨w.heap.size + 1, 4, none⟩ (.slice a4 S.used.length c4)).setCell ⟨w.heap.size + 1, 5, none⟩ (.slice a5 S.waste.length c5)) :=
        ((((((Turn.of_below (X := fun k => k = w.heap.size + 1) (Below.refl _ w11)).setCell (B := w.heap.size + 1) rfl _ _).setCell (B := w.heap.size + 1) rfl _ _).setCell (B := w.heap.size + 1) rfl _ _).setCell (B := w.heap.size + 1) rfl _ _).setCell (B := w.heap.size + 1) rfl _ _).setCell (B := w.heap.size + 1) rfl _ _
      generalize ((((((w11.setCell ⟨w.heap.size + 1, 0, none⟩ (.int .i64 S.year)).setCell ⟨w.heap.size + 1, 1, none⟩ (.slice a1 S.last.length c1)).setCell ⟨w.heap.size + 1, 2, none⟩ (.slice a2 S.given.length c2)).setCell ⟨w.heap.size + 1, 3, none⟩ (.slice a3 hs.length c3)).setCell ⟨w.heap.size + 1, 4, none⟩ (.slice a4 S.used.length c4)).setCell ⟨w.heap.size + 1, 5, none⟩ (.slice a5 S.waste.length c5)) = wf at *
      have kf2 : Blk wf (w.heap.size + 1) #[.int .i64 S.year, .slice a1 S.last.length c1, .slice a2 S.given.length c2, .slice a3 hs.length c3, .slice a4 S.used.length c4, .slice a5 S.waste.length c5] 45 := kf
      clear kf f0 f1 f2 f3 f4 f5 y0 y1 y2 y3 y4 y5 m0 m1 m2 m3 m4 m5
      have f0 := kf2.cell 0
      have f1 := kf2.cell 1
      have f2 := kf2.cell 2
      have f3 := kf2.cell 3
      have f4 := kf2.cell 4
      have f5 := kf2.cell 5
      simp only [List.getElem?_toArray, List.getElem?_cons_zero, List.getElem?_cons_succ] at f0 f1 f2 f3 f4 f5
      refine bodyPost_ret (v := .agg #[.int .i64 S.year, .slice a1 S.last.length c1, .slice a2 S.given.length c2, .slice a3 hs.length c3, .slice a4 S.used.length c4, .slice a5 S.waste.length c5]) ?_ rfl ⟨⟨{ S.bare with la := a1, lc := c1, last := S.last, ga := a2, gc := c2, given := S.given, ha := a3, hc := c3, heaps := hs, ua := a4, uc := c4, used := S.used, wa := a5, wc := c5, waste := S.waste }, rfl, O11.out.turn hTf (fun k e hk => by have := RG11.out k hk; have := (show k = w.heap.size + 1 from e); omega), ⟨rfl, rfl, rfl, rfl, rfl, HSA.out.1, HSA.out.2⟩⟩, B11.out.trans (hTf.below B11.out.size (fun k e => by rw [show k = w.heap.size + 1 from e]; omega))⟩
      simp [results, Try.results16, go_sem, f0, f1, f2, f3, f4, f5]
end
end Go.Proofs.Ytghepojnimlafaa
namespace Go.Proofs.Ytghepojnimlafaa
section
open Go.RowKit

theorem ofM_cut (i : Int) {l : List Prt} (h : ∀ p ∈ l, 1 ≤ p.loads) : ∀ {n : Int}, 0 ≤ n → ofM i (cutT n l) + ofM i (cutR n l) = ofM i l := by
  induction l with
  | nil => intro n _; rfl
  | cons p l ih =>
    intro n hn
    have hp := h p (by simp)
    have ih := @ih (fun q hq => h q (by simp [hq])) (n - min n p.loads) (by omega)
    simp only [cutT, cutR, ofM_append]
    by_cases h1 : 0 < min n p.loads
    · by_cases h2 : min n p.loads < p.loads
      · rw [if_pos h1, if_pos h2]
        simp only [ofM]
        split <;> omega
      · rw [if_pos h1, if_neg h2]
        simp only [ofM]
        split <;> omega
    · by_cases h2 : min n p.loads < p.loads
      · rw [if_neg h1, if_pos h2]
        simp only [ofM]
        split <;> omega
      · omega
theorem loadsM_cut {l : List Prt} (h : ∀ p ∈ l, 1 ≤ p.loads) : ∀ {n : Int}, 0 ≤ n → loadsM (cutT n l) = min n (loadsM l) ∧ loadsM (cutR n l) = loadsM l - min n (loadsM l) ∧ 0 ≤ loadsM l := by
  induction l with
  | nil => intro n hn; simp only [cutT, cutR, loadsM]; omega
  | cons p l ih =>
    intro n hn
    have hp := h p (by simp)
    obtain ⟨i1, i2, i3⟩ := @ih (fun q hq => h q (by simp [hq])) (n - min n p.loads) (by omega)
    simp only [cutT, cutR, loadsM_append]
    by_cases h1 : 0 < min n p.loads
    · by_cases h2 : min n p.loads < p.loads
      · rw [if_pos h1, if_pos h2]
        simp only [loadsM]
        omega
      · rw [if_pos h1, if_neg h2]
        simp only [loadsM]
        omega
    · by_cases h2 : min n p.loads < p.loads
      · rw [if_neg h1, if_pos h2]
        simp only [loadsM]
        omega
      · omega
theorem last_split {l : List Prt} {q : Prt} (h : l.getLast? = some q) : l = l.dropLast ++ [q] := by
  obtain ⟨ys, rfl⟩ := List.getLast?_eq_some_iff.1 h
  simp
theorem ofM_push (i : Int) (l : List Prt) (p : Prt) : ofM i (pushL l p) = ofM i l + (if p.plot = i then p.loads else 0) := by
  unfold pushL
  cases hl : l.getLast? with
  | none =>
    have : l = [] := by simpa using hl
    subst this
    simp [ofM]
  | some q =>
    have hs := last_split hl
    simp only
    split
    · next e =>
      rw [ofM_append]
      have h2 : ofM i l = ofM i l.dropLast + ofM i [q] := by rw [← ofM_append, ← hs]
      rw [h2]
      simp only [ofM, e]
      split <;> omega
    · rw [ofM_append]
      simp [ofM]
theorem ofM_put (i : Int) (ps : List Prt) : ∀ l : List Prt, ofM i (putL l ps) = ofM i l + ofM i ps := by
  induction ps with
  | nil => intro l; simp [putL, ofM]
  | cons p ps ih =>
    intro l
    have := ih (pushL l p)
    rw [ofM_push] at this
    show ofM i (putL (pushL l p) ps) = _
    rw [this]
    simp only [ofM]
    omega
/-- Neighbours stay apart. -/
theorem ap_congr : ∀ {l m : List Prt} {o : Option Int}, l.map (·.plot) = m.map (·.plot) → ap o l → ap o m
  | [], [], _, _, h => h
  | [], _ :: _, _, e, _ => by simp at e
  | _ :: _, [], _, e, _ => by simp at e
  | p :: l, q :: m, o, e, h => by
    simp only [List.map_cons, List.cons.injEq] at e
    refine ⟨by rw [← e.1]; exact h.1, ?_⟩
    have := ap_congr e.2 h.2
    rw [e.1] at this
    exact this
theorem ap_snoc : ∀ {l : List Prt} {o : Option Int} {p : Prt}, ap o l → lastP l ≠ some p.plot → (l = [] → o ≠ some p.plot) → ap o (l ++ [p])
  | [], _, _, _, _, h0 => ⟨h0 rfl, trivial⟩
  | [q], o, p, h, hl, _ => ⟨h.1, by simpa [lastP] using hl, trivial⟩
  | q :: r :: l, o, p, h, hl, _ => ⟨h.1, ap_snoc (l := r :: l) h.2 (by simpa [lastP] using hl) (by simp)⟩
theorem ap_push {l : List Prt} (h : ap none l) (p : Prt) : ap none (pushL l p) := by
  unfold pushL
  cases hl : l.getLast? with
  | none => exact ⟨by simp, trivial⟩
  | some q =>
    have hs := last_split hl
    simp only
    split
    · refine ap_congr (l := l) ?_ h
      conv => lhs; rw [hs]
      simp
    · next e =>
      refine ap_snoc h ?_ (fun _ => by simp)
      unfold lastP
      rw [hl]
      simpa using e
theorem ap_put (ps : List Prt) : ∀ {l : List Prt}, ap none l → ap none (putL l ps) := by
  induction ps with
  | nil => intro l h; exact h
  | cons p ps ih => intro l h; exact ih (ap_push h p)
theorem cutT_zero {l : List Prt} (h : ∀ p ∈ l, 1 ≤ p.loads) : cutT 0 l = [] := by
  induction l with
  | nil => rfl
  | cons p l ih =>
    have hp := h p (by simp)
    have e : min (0 : Int) p.loads = 0 := by omega
    simp only [cutT]
    rw [e, if_neg (by omega), Int.sub_zero, ih (fun q hq => h q (by simp [hq]))]
    rfl
theorem cutR_nil0 {l : List Prt} (h : ∀ p ∈ l, 1 ≤ p.loads) : cutR 0 l = l := by
  induction l with
  | nil => rfl
  | cons p l ih =>
    have hp := h p (by simp)
    have e : min (0 : Int) p.loads = 0 := by omega
    simp only [cutR]
    rw [e, if_pos (by omega), Int.sub_zero, Int.sub_zero, ih (fun q hq => h q (by simp [hq]))]
    rfl
theorem ap_cutT {l : List Prt} (h : ∀ p ∈ l, 1 ≤ p.loads) : ∀ {o : Option Int} {n : Int}, 0 ≤ n → ap o l → ap o (cutT n l) := by
  induction l with
  | nil => intro o n _ ha; exact ha
  | cons p l ih =>
    intro o n hn ha
    have hp := h p (by simp)
    have hq : ∀ q ∈ l, 1 ≤ q.loads := fun q hq => h q (by simp [hq])
    simp only [cutT]
    by_cases h1 : 0 < min n p.loads
    · rw [if_pos h1]
      exact ⟨ha.1, ih hq (by omega) ha.2⟩
    · have e : n - min n p.loads = 0 := by omega
      rw [if_neg h1, e, cutT_zero hq]
      trivial
theorem ap_cutR {l : List Prt} (h : ∀ p ∈ l, 1 ≤ p.loads) : ∀ {n : Int}, 0 ≤ n → ap none l → ap none (cutR n l) := by
  induction l with
  | nil => intro n _ ha; exact ha
  | cons p l ih =>
    intro n hn ha
    have hp := h p (by simp)
    have hq : ∀ q ∈ l, 1 ≤ q.loads := fun q hq => h q (by simp [hq])
    simp only [cutR]
    by_cases h2 : min n p.loads < p.loads
    · have e : n - min n p.loads = 0 := by omega
      rw [if_pos h2, e, cutR_nil0 hq]
      exact ⟨by simp, ha.2⟩
    · rw [if_neg h2]
      exact ih hq (by omega) (ap_none ha.2)
/-- Each part that is left or taken, or put, is of a field that was there. -/
theorem cutT_from {l : List Prt} : ∀ {n : Int}, ∀ p ∈ cutT n l, 1 ≤ p.loads ∧ ∃ q ∈ l, q.plot = p.plot := by
  induction l with
  | nil => intro n p hp; simp [cutT] at hp
  | cons q l ih =>
    intro n p hp
    simp only [cutT] at hp
    rcases List.mem_append.1 hp with hp | hp
    · split at hp
      · next e =>
        obtain rfl := List.mem_singleton.1 hp
        exact ⟨e, q, by simp, rfl⟩
      · simp at hp
    · obtain ⟨h1, r, hr, e⟩ := ih p hp
      exact ⟨h1, r, by simp [hr], e⟩
theorem cutR_from {l : List Prt} : ∀ {n : Int}, ∀ p ∈ cutR n l, 1 ≤ p.loads ∧ ∃ q ∈ l, q.plot = p.plot := by
  induction l with
  | nil => intro n p hp; simp [cutR] at hp
  | cons q l ih =>
    intro n p hp
    simp only [cutR] at hp
    rcases List.mem_append.1 hp with hp | hp
    · split at hp
      · next e =>
        obtain rfl := List.mem_singleton.1 hp
        exact ⟨by show 1 ≤ q.loads - min n q.loads; omega, q, by simp, rfl⟩
      · simp at hp
    · obtain ⟨h1, r, hr, e⟩ := ih p hp
      exact ⟨h1, r, by simp [hr], e⟩
theorem push_from {l : List Prt} {p : Prt} (hp : 1 ≤ p.loads) (h : ∀ q ∈ l, 1 ≤ q.loads) : ∀ r ∈ pushL l p, 1 ≤ r.loads ∧ (r.plot = p.plot ∨ ∃ q ∈ l, q.plot = r.plot) := by
  intro r hr
  unfold pushL at hr
  cases hl : l.getLast? with
  | none =>
    rw [hl] at hr
    obtain rfl := List.mem_singleton.1 hr
    exact ⟨hp, .inl rfl⟩
  | some q =>
    have hq : q ∈ l := List.mem_of_getLast? hl
    rw [hl] at hr
    simp only at hr
    split at hr
    · rcases List.mem_append.1 hr with hr | hr
      · have : r ∈ l := by rw [last_split hl]; exact List.mem_append_left _ hr
        exact ⟨h r this, .inr ⟨r, this, rfl⟩⟩
      · obtain rfl := List.mem_singleton.1 hr
        exact ⟨by have := h q hq; show 1 ≤ q.loads + p.loads; omega, .inr ⟨q, hq, rfl⟩⟩
    · rcases List.mem_append.1 hr with hr | hr
      · exact ⟨h r hr, .inr ⟨r, hr, rfl⟩⟩
      · obtain rfl := List.mem_singleton.1 hr
        exact ⟨hp, .inl rfl⟩
theorem put_from {ps : List Prt} (hp : ∀ p ∈ ps, 1 ≤ p.loads) : ∀ {l : List Prt}, (∀ q ∈ l, 1 ≤ q.loads) → ∀ r ∈ putL l ps, 1 ≤ r.loads ∧ ((∃ q ∈ l, q.plot = r.plot) ∨ ∃ q ∈ ps, q.plot = r.plot) := by
  induction ps with
  | nil => intro l h r hr; exact ⟨h r hr, .inl ⟨r, hr, rfl⟩⟩
  | cons p ps ih =>
    intro l h r hr
    have h0 := hp p (by simp)
    have hpf := push_from h0 h
    obtain ⟨h1, h2⟩ := ih (fun q hq => hp q (by simp [hq])) (l := pushL l p) (fun q hq => (hpf q hq).1) r hr
    refine ⟨h1, ?_⟩
    rcases h2 with ⟨q, hq, e⟩ | ⟨q, hq, e⟩
    · rcases (hpf q hq).2 with e2 | ⟨s, hs, e2⟩
      · exact .inr ⟨p, by simp, by rw [← e, e2]⟩
      · exact .inl ⟨s, hs, by rw [e2, e]⟩
    · exact .inr ⟨q, by simp [hq], e⟩
/-- A part is no more than what there is of its field. -/
theorem le_of {l : List Prt} (h : ∀ p ∈ l, 1 ≤ p.loads) : ∀ p ∈ l, p.loads ≤ ofM p.plot l ∧ ∀ i, 0 ≤ ofM i l := by
  induction l with
  | nil => intro p hp; simp at hp
  | cons q l ih =>
    have hq := h q (by simp)
    have hl : ∀ p ∈ l, 1 ≤ p.loads := fun p hp => h p (by simp [hp])
    have h0 : ∀ i, 0 ≤ ofM i l := fun i => by
      cases l with
      | nil => simp [ofM]
      | cons r l => exact (ih hl r (by simp)).2 i
    intro p hp
    refine ⟨?_, fun i => by simp only [ofM]; have := h0 i; split <;> omega⟩
    rcases List.mem_cons.1 hp with rfl | hp
    · simp only [ofM, if_true]
      have := h0 p.plot
      omega
    · have := (ih hl p hp).1
      simp only [ofM]
      split <;> omega
theorem partsB_of {n : Nat} {l : List Prt} (h : ∀ p ∈ l, p.ok n) (ha : ap none l) : partsB n l = true := by
  have key : ∀ (m : List Prt) (o : Option Int), ap o m → ∀ (i : Nat) (q p : Prt), m[i]? = some q → m[i + 1]? = some p → q.plot ≠ p.plot := by
    intro m
    induction m with
    | nil => intro o _ i q p hq; simp at hq
    | cons x m ih =>
      intro o hm i q p hq hp
      cases i with
      | zero =>
        simp only [List.getElem?_cons_zero, Option.some.injEq] at hq
        subst hq
        cases m with
        | nil => simp at hp
        | cons y m =>
          simp only [Nat.zero_add, List.getElem?_cons_succ, List.getElem?_cons_zero, Option.some.injEq] at hp
          subst hp
          have := hm.2.1
          simpa using this
      | succ i => exact ih _ hm.2 i q p (by simpa using hq) (by simpa using hp)
  refine List.all_eq_true.2 fun i hi => ?_
  have hi : i < l.length := by simpa using hi
  rw [List.getElem?_eq_getElem hi]
  obtain ⟨⟨h1, h2⟩, h3, h4⟩ := h _ (List.getElem_mem hi)
  simp only [Bool.and_eq_true, Bool.or_eq_true]
  refine ⟨by simp only [partB, isFromB, Bool.and_eq_true, decide_eq_true_eq]; omega, ?_⟩
  cases i with
  | zero => exact .inl (by simp)
  | succ i =>
    refine .inr ?_
    rw [Nat.add_sub_cancel, List.getElem?_eq_getElem (by omega)]
    have := key l none ha i _ _ (List.getElem?_eq_getElem (by omega)) (List.getElem?_eq_getElem hi)
    simpa using this
end
end Go.Proofs.Ytghepojnimlafaa
