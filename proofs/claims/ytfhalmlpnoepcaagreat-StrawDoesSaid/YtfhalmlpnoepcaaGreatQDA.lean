/- The store of the specification's chores: the rows that are written in their place, and those that are only read. No condition. A store without a heap (thatchref02.without): its heaps' row is a new one. No condition but the sizes. The heaps' row written in its place; a store with a heap's parts changed (thatchref02.with). No condition but the sizes. Parts behind others (thatchref02.joined): a new row with what putL says. No condition but the sizes. A store with rows of its own (thatchref02.Twin). No condition but the sizes. A field is cut (thatchref02.mown); what a chore of the specification makes of a store. No condition but that the store may be. -/
import Derived.Test.YtfhalmlpnoepcaaGreatJU
import Derived.Test.YtfhalmlpnoepcaaGreatGY
import Derived.Test.YtfhalmlpnoepcaaGreatJF
import Derived.Deep.AppendLies
import Derived.Test.YtfhalmlpnoepcaaGreatJO
import Derived.StillTailTactics
import Derived.Test.YtfhalmlpnoepcaaGreatKB
namespace Go.Proofs.YtfhalmlpnoepcaaGreat
section
set_option linter.unusedSimpArgs false
open Go.RowKit

/-- A row that lies from a block on. -/
def FromN (n : Nat) (a : Option Addr) : Prop := ∀ k, a.map (·.block) = some k → n ≤ k
theorem Turn.far {X Y : Nat → Prop} {a b c : World} (h : Turn X a b) (k : Turn Y b c) (hY : ∀ i, Y i → a.heap.size ≤ i) : Turn X a c :=
  ⟨k.os.trans h.os, k.tape.trans h.tape, k.output.trans h.output, Nat.le_trans h.size k.size, fun i hi hn => (k.block i (Nat.lt_of_lt_of_le hi h.size) (fun e => by have := hY i e; omega)).trans (h.block i hi hn)⟩
theorem Turn.trans2 {X Y : Nat → Prop} {a b c : World} (h : Turn X a b) (k : Turn Y b c) (hY : ∀ i, Y i → X i ∨ a.heap.size ≤ i) : Turn X a c :=
  ⟨k.os.trans h.os, k.tape.trans h.tape, k.output.trans h.output, Nat.le_trans h.size k.size, fun i hi hn => (k.block i (Nat.lt_of_lt_of_le hi h.size) (fun e => by
    rcases hY i e with h1 | h1
    · exact hn h1
    · omega)).trans (h.block i hi hn)⟩
theorem IsPrts.turn {X : Nat → Prop} {w w' : World} {a : Option Addr} {c : Nat} {l : List Prt} (h : IsPrts w a c l) (ht : Turn X w w') (hx : ∀ k, a.map (·.block) = some k → ¬ X k) : IsPrts w' a c l := by
  rcases h with h | ⟨b, off, e, hl, h1, h2, h3⟩
  · exact .inl h
  · subst e
    have hb := ht.block b hl (hx b rfl)
    have hc : ∀ o, w'.cell? ⟨b, o, none⟩ = w.cell? ⟨b, o, none⟩ := fun o => World.cell?_of_block (w := w) (a := ⟨b, o, none⟩) hb
    exact .inr ⟨b, off, rfl, Nat.lt_of_lt_of_le hl ht.size, h1, h2, fun j x hj => ⟨(hc _).trans (h3 j x hj).1, (hc _).trans (h3 j x hj).2⟩⟩
/-- An address that is none of a store's rows that are written, and lies in memory. -/
def Cool (base : Nat) (w : World) (S : Sto) (a : Option Addr) : Prop := ∀ k, a.map (·.block) = some k → (base ≤ k ∧ k < w.heap.size) ∧ S.la.map (·.block) ≠ some k ∧ S.ga.map (·.block) ≠ some k ∧ S.ha.map (·.block) ≠ some k
structure Rst (base : Nat) (w : World) (S : Sto) : Prop where
  last : w.ownsRow base 3 1 (.slice S.la S.last.length S.lc) S.last.length (S.last.flatMap cellsI)
  given : w.ownsRow base 3 1 (.slice S.ga S.given.length S.gc) S.given.length (S.given.flatMap cellsI)
  heaps : w.ownsRow base 53 7 (.slice S.ha S.heaps.length S.hc) S.heaps.length (S.heaps.flatMap cellsHep)
  parts : ∀ h ∈ S.heaps, (IsPrts w h.pa h.pc h.parts ∧ h.name.size ≤ maxLen) ∧ Cool base w S h.pa
  used : IsPrts w S.ua S.uc S.used ∧ Cool base w S S.ua
  waste : IsPrts w S.wa S.wc S.waste ∧ Cool base w S S.wa
  lg : ∀ k, S.la.map (·.block) = some k → S.ga.map (·.block) ≠ some k
  lh : ∀ k, S.la.map (·.block) = some k → S.ha.map (·.block) ≠ some k
  gh : ∀ k, S.ga.map (·.block) = some k → S.ha.map (·.block) ≠ some k
theorem own_geq {w : World} {base n c m sz : Nat} {t : TypeId} {a : Option Addr} {xs : List Value} (h : w.ownsRow base t sz (.slice a n c) m xs) {k : Nat} (hk : a.map (·.block) = some k) : base ≤ k ∧ k < w.heap.size := h.lt k (by rw [rowOf_own']; exact hk)
theorem Rst.store {base : Nat} {w : World} {S : Sto} (h : Rst base w S) : IsStore w S :=
  ⟨isNums_own h.last, isNums_own h.given, isHeps_own h.heaps fun x hx => (h.parts x hx).1, h.used.1, h.waste.1⟩
theorem Cool.mono {base : Nat} {w w' : World} {S : Sto} {a : Option Addr} (h : Cool base w S a) (hs : w.heap.size ≤ w'.heap.size) : Cool base w' S a := fun k hk => ⟨⟨(h k hk).1.1, Nat.lt_of_lt_of_le (h k hk).1.2 hs⟩, (h k hk).2⟩
theorem Cool.down {base base' : Nat} {w : World} {S : Sto} {a : Option Addr} (h : Cool base w S a) (hb : base' ≤ base) : Cool base' w S a := fun k hk => ⟨⟨Nat.le_trans hb (h k hk).1.1, (h k hk).1.2⟩, (h k hk).2⟩
theorem Rst.below {base : Nat} {w w' : World} {S : Sto} (h : Rst base w S) (hb : Below w.heap.size w w') : Rst base w' S :=
  ⟨own_below h.last hb, own_below h.given hb, own_below h.heaps hb, fun x hx => ⟨⟨(h.parts x hx).1.1.belowS hb, (h.parts x hx).1.2⟩, (h.parts x hx).2.mono hb.size⟩, ⟨h.used.1.belowS hb, h.used.2.mono hb.size⟩, ⟨h.waste.1.belowS hb, h.waste.2.mono hb.size⟩, h.lg, h.lh, h.gh⟩
theorem Rst.mono {base base' : Nat} {w : World} {S : Sto} (h : Rst base w S) (hb : base' ≤ base) : Rst base' w S :=
  ⟨h.last.mono hb, h.given.mono hb, h.heaps.mono hb, fun x hx => ⟨(h.parts x hx).1, (h.parts x hx).2.down hb⟩, ⟨h.used.1, h.used.2.down hb⟩, ⟨h.waste.1, h.waste.2.down hb⟩, h.lg, h.lh, h.gh⟩
/-- Only blocks that are none of the store's have turned. -/
theorem Rst.turn {X : Nat → Prop} {base : Nat} {w w' : World} {S : Sto} (h : Rst base w S) (ht : Turn X w w') (hx : ∀ k, X k → S.la.map (·.block) ≠ some k ∧ S.ga.map (·.block) ≠ some k ∧ S.ha.map (·.block) ≠ some k ∧ S.ua.map (·.block) ≠ some k ∧ S.wa.map (·.block) ≠ some k ∧ ∀ x ∈ S.heaps, x.pa.map (·.block) ≠ some k) : Rst base w' S :=
  ⟨ht.row h.last fun k e => (hx k e).1, ht.row h.given fun k e => (hx k e).2.1, ht.row h.heaps fun k e => (hx k e).2.2.1, fun x hm => ⟨⟨(h.parts x hm).1.1.turn ht fun k e hX => (hx k hX).2.2.2.2.2 x hm e, (h.parts x hm).1.2⟩, (h.parts x hm).2.mono ht.size⟩,
    ⟨h.used.1.turn ht fun k e hX => (hx k hX).2.2.2.1 e, h.used.2.mono ht.size⟩, ⟨h.waste.1.turn ht fun k e hX => (hx k hX).2.2.2.2.1 e, h.waste.2.mono ht.size⟩, h.lg, h.lh, h.gh⟩
theorem Rst.setYear {base : Nat} {w : World} {S : Sto} (h : Rst base w S) (y : Int) : Rst base w { S with year := y } := ⟨h.last, h.given, h.heaps, h.parts, h.used, h.waste, h.lg, h.lh, h.gh⟩
theorem Rst.setUsed {base : Nat} {w : World} {S : Sto} {a : Option Addr} {c : Nat} {l : List Prt} (h : Rst base w S) (hl : IsPrts w a c l) (hc : Cool base w S a) : Rst base w { S with ua := a, uc := c, used := l } := ⟨h.last, h.given, h.heaps, h.parts, ⟨hl, hc⟩, h.waste, h.lg, h.lh, h.gh⟩
theorem Rst.setWaste {base : Nat} {w : World} {S : Sto} {a : Option Addr} {c : Nat} {l : List Prt} (h : Rst base w S) (hl : IsPrts w a c l) (hc : Cool base w S a) : Rst base w { S with wa := a, wc := c, waste := l } := ⟨h.last, h.given, h.heaps, h.parts, h.used, ⟨hl, hc⟩, h.lg, h.lh, h.gh⟩
/-- A new row lies apart. -/
theorem Rst.cool {base : Nat} {w w' : World} {S : Sto} {a : Option Addr} (h : Rst base w S) (hbase : base ≤ w.heap.size) (hs : ∀ k, a.map (·.block) = some k → w.heap.size ≤ k ∧ k < w'.heap.size) : Cool base w' S a := fun k hk => by
  have h1 := hs k hk
  refine ⟨⟨by omega, h1.2⟩, fun e => ?_, fun e => ?_, fun e => ?_⟩
  · have := (own_geq h.last e).2; omega
  · have := (own_geq h.given e).2; omega
  · have := (own_geq h.heaps e).2; omega
/-- The heaps' row is written in its place. -/
theorem Rst.setHeap {base : Nat} {w w' : World} {S : Sto} {i : Nat} {x y : Hep} (h : Rst base w S) (_ : S.heaps[i]? = some x) (ht : Turn (fun k => S.ha.map (·.block) = some k) w w')
    (hrow : w'.ownsRow base 53 7 (.slice S.ha S.heaps.length S.hc) S.heaps.length ((S.heaps.set i y).flatMap cellsHep)) (hy : IsPrts w y.pa y.pc y.parts ∧ y.name.size ≤ maxLen) (hc : Cool base w S y.pa) : Rst base w' { S with heaps := S.heaps.set i y } := by
  refine ⟨ht.row h.last fun k e e2 => h.lh k e2 e, ht.row h.given fun k e e2 => h.gh k e2 e, ?_, fun z hz => ?_, ⟨h.used.1.turn ht fun k e e2 => (h.used.2 k e).2.2.2 e2, h.used.2.mono ht.size⟩, ⟨h.waste.1.turn ht fun k e e2 => (h.waste.2 k e).2.2.2 e2, h.waste.2.mono ht.size⟩, h.lg, h.lh, h.gh⟩
  · simp only [List.length_set]
    exact hrow
  · rcases List.mem_or_eq_of_mem_set hz with hz | rfl
    · exact ⟨⟨(h.parts z hz).1.1.turn ht fun k e e2 => ((h.parts z hz).2 k e).2.2.2 e2, (h.parts z hz).1.2⟩, (h.parts z hz).2.mono ht.size⟩
    · exact ⟨⟨hy.1.turn ht fun k e e2 => (hc k e).2.2.2 e2, hy.2⟩, hc.mono ht.size⟩
theorem Rst.setLast {base : Nat} {w w' : World} {S : Sto} {l : List Int} (h : Rst base w S) (hl : l.length = S.last.length) (ht : Turn (fun k => S.la.map (·.block) = some k) w w') (hrow : w'.ownsRow base 3 1 (.slice S.la S.last.length S.lc) S.last.length (l.flatMap cellsI)) : Rst base w' { S with last := l } := by
  refine ⟨?_, ht.row h.given fun k e e2 => h.lg k e e2, ht.row h.heaps fun k e e2 => h.lh k e e2, fun z hz => ⟨⟨(h.parts z hz).1.1.turn ht fun k e e2 => ((h.parts z hz).2 k e).2.1 e2, (h.parts z hz).1.2⟩, (h.parts z hz).2.mono ht.size⟩,
    ⟨h.used.1.turn ht fun k e e2 => (h.used.2 k e).2.1 e2, h.used.2.mono ht.size⟩, ⟨h.waste.1.turn ht fun k e e2 => (h.waste.2 k e).2.1 e2, h.waste.2.mono ht.size⟩, h.lg, h.lh, h.gh⟩
  simp only [hl]
  exact hrow
theorem Rst.setGiven {base : Nat} {w w' : World} {S : Sto} {l : List Int} (h : Rst base w S) (hl : l.length = S.given.length) (ht : Turn (fun k => S.ga.map (·.block) = some k) w w') (hrow : w'.ownsRow base 3 1 (.slice S.ga S.given.length S.gc) S.given.length (l.flatMap cellsI)) : Rst base w' { S with given := l } := by
  refine ⟨ht.row h.last fun k e e2 => h.lg k e2 e, ?_, ht.row h.heaps fun k e e2 => h.gh k e e2, fun z hz => ⟨⟨(h.parts z hz).1.1.turn ht fun k e e2 => ((h.parts z hz).2 k e).2.2.1 e2, (h.parts z hz).1.2⟩, (h.parts z hz).2.mono ht.size⟩,
    ⟨h.used.1.turn ht fun k e e2 => (h.used.2 k e).2.2.1 e2, h.used.2.mono ht.size⟩, ⟨h.waste.1.turn ht fun k e e2 => (h.waste.2 k e).2.2.1 e2, h.waste.2.mono ht.size⟩, h.lg, h.lh, h.gh⟩
  simp only [hl]
  exact hrow
/-- The heaps' row is a new one: a list of some of the heaps. -/
theorem Rst.newHeaps {base : Nat} {w w' : World} {S : Sto} {a : Option Addr} {c : Nat} {H : List Hep} (h : Rst base w S) (hb : Below w.heap.size w w') (hbase : base ≤ w.heap.size) (hrow : w'.ownsRow w.heap.size 53 7 (.slice a H.length c) H.length (H.flatMap cellsHep)) (hH : ∀ x ∈ H, x ∈ S.heaps) : Rst base w' { S with ha := a, hc := c, heaps := H } := by
  have ha : ∀ k, a.map (·.block) = some k → w.heap.size ≤ k := fun k e => (own_geq hrow e).1
  have key : ∀ b, Cool base w S b → Cool base w' { S with ha := a, hc := c, heaps := H } b := fun b hc k e => ⟨⟨(hc k e).1.1, Nat.lt_of_lt_of_le (hc k e).1.2 hb.size⟩, (hc k e).2.1, (hc k e).2.2.1, fun e2 => by have := ha k e2; have := (hc k e).1.2; omega⟩
  exact ⟨own_below h.last hb, own_below h.given hb, hrow.mono hbase, fun x hx => ⟨⟨(h.parts x (hH x hx)).1.1.belowS hb, (h.parts x (hH x hx)).1.2⟩, key _ (h.parts x (hH x hx)).2⟩, ⟨h.used.1.belowS hb, key _ h.used.2⟩, ⟨h.waste.1.belowS hb, key _ h.waste.2⟩, h.lg, fun k e e2 => by have := ha k e2; have := (own_geq h.last e).2; omega, fun k e e2 => by have := ha k e2; have := (own_geq h.given e).2; omega⟩
/-- A heap more, behind the others: the row has room, or lies elsewhere. -/
theorem Rst.pushHeap {base : Nat} {w w' : World} {S : Sto} {g cap : Nat} {y : Hep} (h : Rst base w S) (ht : Turn (fun k => S.ha.map (·.block) = some k) w w') (hat : S.ha.map (·.block) = some g ∨ w.heap.size ≤ g)
    (hrow : w'.ownsRow base 53 7 (.slice (some ⟨g, 0, none⟩) (S.heaps.length + 1) cap) (S.heaps.length + 1) (S.heaps.flatMap cellsHep ++ cellsHep y)) (hy : IsPrts w y.pa y.pc y.parts ∧ y.name.size ≤ maxLen) (hc : Cool base w S y.pa) : Rst base w' { S with ha := some ⟨g, 0, none⟩, hc := cap, heaps := S.heaps ++ [y] } := by
  have key : ∀ b, Cool base w S b → Cool base w' { S with ha := some ⟨g, 0, none⟩, hc := cap, heaps := S.heaps ++ [y] } b := fun b hc k e => ⟨⟨(hc k e).1.1, Nat.lt_of_lt_of_le (hc k e).1.2 ht.size⟩, (hc k e).2.1, (hc k e).2.2.1, fun e2 => by
    have e3 : g = k := Option.some.inj e2
    subst e3
    rcases hat with e4 | e4
    · exact (hc g e).2.2.2 e4
    · have := (hc g e).1.2; omega⟩
  refine ⟨ht.row h.last fun k e e2 => h.lh k e2 e, ht.row h.given fun k e e2 => h.gh k e2 e, ?_, fun z hz => ?_, ⟨h.used.1.turn ht fun k e e2 => (h.used.2 k e).2.2.2 e2, key _ h.used.2⟩, ⟨h.waste.1.turn ht fun k e e2 => (h.waste.2 k e).2.2.2 e2, key _ h.waste.2⟩, h.lg, fun k e e2 => ?_, fun k e e2 => ?_⟩
  · simpa [List.flatMap_append] using hrow
  · rcases List.mem_append.1 hz with hz | hz
    · exact ⟨⟨(h.parts z hz).1.1.turn ht fun k e e2 => ((h.parts z hz).2 k e).2.2.2 e2, (h.parts z hz).1.2⟩, key _ (h.parts z hz).2⟩
    · obtain rfl := List.mem_singleton.1 hz
      exact ⟨⟨hy.1.turn ht fun k e e2 => (hc k e).2.2.2 e2, hy.2⟩, key _ hc⟩
  · have e3 : g = k := Option.some.inj e2
    subst e3
    rcases hat with e4 | e4
    · exact h.lh g e e4
    · have := (own_geq h.last e).2; omega
  · have e3 : g = k := Option.some.inj e2
    subst e3
    rcases hat with e4 | e4
    · exact h.gh g e e4
    · have := (own_geq h.given e).2; omega
/-- None of a store's rows lies in a block. -/
structure Off (B : Nat) (S : Sto) : Prop where
  la : S.la.map (·.block) ≠ some B
  ga : S.ga.map (·.block) ≠ some B
  ha : S.ha.map (·.block) ≠ some B
  ua : S.ua.map (·.block) ≠ some B
  wa : S.wa.map (·.block) ≠ some B
  pa : ∀ x ∈ S.heaps, x.pa.map (·.block) ≠ some B
theorem Rst.off {base : Nat} {w : World} {S : Sto} (h : Rst base w S) {B : Nat} (hB : w.heap.size ≤ B ∨ B < base) : Off B S :=
  ⟨fun e => by have := own_geq h.last e; omega, fun e => by have := own_geq h.given e; omega, fun e => by have := own_geq h.heaps e; omega, fun e => by have := (h.used.2 B e).1; omega, fun e => by have := (h.waste.2 B e).1; omega, fun x hx e => by have := ((h.parts x hx).2 B e).1; omega⟩
theorem Rst.turnAt {B base : Nat} {w w' : World} {S : Sto} (h : Rst base w S) (ht : Turn (fun k => k = B) w w') (ho : Off B S) : Rst base w' S :=
  h.turn ht fun k e => by
    rw [show k = B from e]
    exact ⟨ho.la, ho.ga, ho.ha, ho.ua, ho.wa, ho.pa⟩
theorem Off.setUsed {B : Nat} {S : Sto} {a : Option Addr} {c : Nat} {l : List Prt} (h : Off B S) (ha : a.map (·.block) ≠ some B) : Off B { S with ua := a, uc := c, used := l } := ⟨h.la, h.ga, h.ha, ha, h.wa, h.pa⟩
theorem Off.setWaste {B : Nat} {S : Sto} {a : Option Addr} {c : Nat} {l : List Prt} (h : Off B S) (ha : a.map (·.block) ≠ some B) : Off B { S with wa := a, wc := c, waste := l } := ⟨h.la, h.ga, h.ha, h.ua, ha, h.pa⟩
theorem Off.setHeap {B : Nat} {S : Sto} {i : Nat} {y : Hep} (h : Off B S) (hy : y.pa.map (·.block) ≠ some B) : Off B { S with heaps := S.heaps.set i y } := ⟨h.la, h.ga, h.ha, h.ua, h.wa, fun x hx => by
  rcases List.mem_or_eq_of_mem_set hx with hx | rfl
  · exact h.pa x hx
  · exact hy⟩
theorem Off.newHeaps {B : Nat} {S : Sto} {a : Option Addr} {c : Nat} {H : List Hep} (h : Off B S) (ha : a.map (·.block) ≠ some B) (hH : ∀ x ∈ H, x ∈ S.heaps) : Off B { S with ha := a, hc := c, heaps := H } := ⟨h.la, h.ga, ha, h.ua, h.wa, fun x hx => h.pa x (hH x hx)⟩
theorem Off.pushHeap {B : Nat} {S : Sto} {a : Option Addr} {c : Nat} {y : Hep} (h : Off B S) (ha : a.map (·.block) ≠ some B) (hy : y.pa.map (·.block) ≠ some B) : Off B { S with ha := a, hc := c, heaps := S.heaps ++ [y] } := ⟨h.la, h.ga, ha, h.ua, h.wa, fun x hx => by
  rcases List.mem_append.1 hx with hx | hx
  · exact h.pa x hx
  · obtain rfl := List.mem_singleton.1 hx
    exact hy⟩
theorem hepB_cells {W : World} {B : Nat} {x : Hep} {t : TypeId} (k : Blk W B #[.string x.name, .int .i64 x.crop, .int .i64 x.stage, .slice x.pa x.parts.length x.pc, .int .i64 x.per, .int .i64 x.wlo, .int .i64 x.whi] t) : W.cell? ⟨B, 0, none⟩ = some (.string x.name) ∧ W.cell? ⟨B, 1, none⟩ = some (.int .i64 x.crop) ∧ W.cell? ⟨B, 2, none⟩ = some (.int .i64 x.stage) ∧ W.cell? ⟨B, 3, none⟩ = some (.slice x.pa x.parts.length x.pc) ∧ W.cell? ⟨B, 4, none⟩ = some (.int .i64 x.per) ∧ W.cell? ⟨B, 5, none⟩ = some (.int .i64 x.wlo) ∧ W.cell? ⟨B, 6, none⟩ = some (.int .i64 x.whi) := ⟨k.cell 0, k.cell 1, k.cell 2, k.cell 3, k.cell 4, k.cell 5, k.cell 6⟩
theorem chr_cells {W : World} {B : Nat} {kd pl ld : Int} {nm ot : ByteArray} {dy pr rl rh : Int} {t : TypeId} (k : Blk W B #[.int .i64 kd, .int .i64 pl, .int .i64 ld, .string nm, .string ot, .int .i64 dy, .int .i64 pr, .int .i64 rl, .int .i64 rh] t) : W.cell? ⟨B, 0, none⟩ = some (.int .i64 kd) ∧ W.cell? ⟨B, 1, none⟩ = some (.int .i64 pl) ∧ W.cell? ⟨B, 2, none⟩ = some (.int .i64 ld) ∧ W.cell? ⟨B, 3, none⟩ = some (.string nm) ∧ W.cell? ⟨B, 4, none⟩ = some (.string ot) ∧ W.cell? ⟨B, 5, none⟩ = some (.int .i64 dy) ∧ W.cell? ⟨B, 6, none⟩ = some (.int .i64 pr) ∧ W.cell? ⟨B, 7, none⟩ = some (.int .i64 rl) ∧ W.cell? ⟨B, 8, none⟩ = some (.int .i64 rh) := ⟨k.cell 0, k.cell 1, k.cell 2, k.cell 3, k.cell 4, k.cell 5, k.cell 6, k.cell 7, k.cell 8⟩
theorem zero_cells {W : World} {B : Nat} {t : TypeId} (k : Blk W B #[.int .i64 0, .slice none 0 0, .slice none 0 0, .slice none 0 0, .slice none 0 0, .slice none 0 0] t) : W.cell? ⟨B, 0, none⟩ = some (.int .i64 0) ∧ W.cell? ⟨B, 1, none⟩ = some (.slice none 0 0) ∧ W.cell? ⟨B, 2, none⟩ = some (.slice none 0 0) ∧ W.cell? ⟨B, 3, none⟩ = some (.slice none 0 0) ∧ W.cell? ⟨B, 4, none⟩ = some (.slice none 0 0) ∧ W.cell? ⟨B, 5, none⟩ = some (.slice none 0 0) := ⟨k.cell 0, k.cell 1, k.cell 2, k.cell 3, k.cell 4, k.cell 5⟩
/-- A store is written into a box that holds none: the world behind it, by what is known of it. -/
theorem put_end {Φ : World → Prop} {w : World} {B : Nat} {t : TypeId} (S : Sto) (k : Blk w B #[.int .i64 0, .slice none 0 0, .slice none 0 0, .slice none 0 0, .slice none 0 0, .slice none 0 0] t) (h : ∀ wf, Turn (fun k => k = B) w wf → Blk wf B #[.int .i64 S.year, .slice S.la S.last.length S.lc, .slice S.ga S.given.length S.gc, .slice S.ha S.heaps.length S.hc, .slice S.ua S.used.length S.uc, .slice S.wa S.waste.length S.wc] t → Φ wf) : Φ ((((((w.setCell ⟨B, 0, none⟩ (.int .i64 S.year)).setCell ⟨B, 1, none⟩ (.slice S.la S.last.length S.lc)).setCell ⟨B, 2, none⟩ (.slice S.ga S.given.length S.gc)).setCell ⟨B, 3, none⟩ (.slice S.ha S.heaps.length S.hc)).setCell ⟨B, 4, none⟩ (.slice S.ua S.used.length S.uc)).setCell ⟨B, 5, none⟩ (.slice S.wa S.waste.length S.wc)) :=
  h _ (((((((Turn.of_below (X := fun k => k = B) (Below.refl _ w)).setCell (B := B) rfl 0 (.int .i64 S.year)).setCell (B := B) rfl 1 (.slice S.la S.last.length S.lc)).setCell (B := B) rfl 2 (.slice S.ga S.given.length S.gc)).setCell (B := B) rfl 3 (.slice S.ha S.heaps.length S.hc)).setCell (B := B) rfl 4 (.slice S.ua S.used.length S.uc)).setCell (B := B) rfl 5 (.slice S.wa S.waste.length S.wc)) (show Blk ((((((w.setCell ⟨B, 0, none⟩ (.int .i64 S.year)).setCell ⟨B, 1, none⟩ (.slice S.la S.last.length S.lc)).setCell ⟨B, 2, none⟩ (.slice S.ga S.given.length S.gc)).setCell ⟨B, 3, none⟩ (.slice S.ha S.heaps.length S.hc)).setCell ⟨B, 4, none⟩ (.slice S.ua S.used.length S.uc)).setCell ⟨B, 5, none⟩ (.slice S.wa S.waste.length S.wc)) B #[.int .i64 S.year, .slice S.la S.last.length S.lc, .slice S.ga S.given.length S.gc, .slice S.ha S.heaps.length S.hc, .slice S.ua S.used.length S.uc, .slice S.wa S.waste.length S.wc] t from ((((((k.set 0 (.int .i64 S.year)).set 1 (.slice S.la S.last.length S.lc)).set 2 (.slice S.ga S.given.length S.gc)).set 3 (.slice S.ha S.heaps.length S.hc)).set 4 (.slice S.ua S.used.length S.uc)).set 5 (.slice S.wa S.waste.length S.wc)))
/-- Four boxes: a farm, a store, a chore, and one for what is returned. -/
theorem four_boxes (w : World) (F : Frm) (S : Sto) (kd pl ld : Int) (nm ot : ByteArray) (dy pr rl rh : Int) (tf ts tc : TypeId) :
    ∀ w1, w1 = ((((w.alloc (.cells #[.slice F.pa F.ps.length F.pc, .int .i64 F.dry] tf)).alloc (.cells #[.int .i64 S.year, .slice S.la S.last.length S.lc, .slice S.ga S.given.length S.gc, .slice S.ha S.heaps.length S.hc, .slice S.ua S.used.length S.uc, .slice S.wa S.waste.length S.wc] ts)).alloc (.cells #[.int .i64 kd, .int .i64 pl, .int .i64 ld, .string nm, .string ot, .int .i64 dy, .int .i64 pr, .int .i64 rl, .int .i64 rh] tc)).alloc (.cells #[.int .i64 0, .slice none 0 0, .slice none 0 0, .slice none 0 0, .slice none 0 0, .slice none 0 0] ts)) →
      Blk w1 w.heap.size #[.slice F.pa F.ps.length F.pc, .int .i64 F.dry] tf ∧ Blk w1 (w.heap.size + 1) #[.int .i64 S.year, .slice S.la S.last.length S.lc, .slice S.ga S.given.length S.gc, .slice S.ha S.heaps.length S.hc, .slice S.ua S.used.length S.uc, .slice S.wa S.waste.length S.wc] ts ∧ Blk w1 (w.heap.size + 1 + 1) #[.int .i64 kd, .int .i64 pl, .int .i64 ld, .string nm, .string ot, .int .i64 dy, .int .i64 pr, .int .i64 rl, .int .i64 rh] tc ∧ Blk w1 (w.heap.size + 1 + 1 + 1) #[.int .i64 0, .slice none 0 0, .slice none 0 0, .slice none 0 0, .slice none 0 0, .slice none 0 0] ts ∧ Below w.heap.size w w1 := by
  rintro w1 rfl
  have k1 := (((Blk.new w tf #[.slice F.pa F.ps.length F.pc, .int .i64 F.dry]).alloc (.cells #[.int .i64 S.year, .slice S.la S.last.length S.lc, .slice S.ga S.given.length S.gc, .slice S.ha S.heaps.length S.hc, .slice S.ua S.used.length S.uc, .slice S.wa S.waste.length S.wc] ts)).alloc (.cells #[.int .i64 kd, .int .i64 pl, .int .i64 ld, .string nm, .string ot, .int .i64 dy, .int .i64 pr, .int .i64 rl, .int .i64 rh] tc)).alloc (.cells #[.int .i64 0, .slice none 0 0, .slice none 0 0, .slice none 0 0, .slice none 0 0, .slice none 0 0] ts)
  have k2 := ((Blk.new (w.alloc (.cells #[.slice F.pa F.ps.length F.pc, .int .i64 F.dry] tf)) ts #[.int .i64 S.year, .slice S.la S.last.length S.lc, .slice S.ga S.given.length S.gc, .slice S.ha S.heaps.length S.hc, .slice S.ua S.used.length S.uc, .slice S.wa S.waste.length S.wc]).alloc (.cells #[.int .i64 kd, .int .i64 pl, .int .i64 ld, .string nm, .string ot, .int .i64 dy, .int .i64 pr, .int .i64 rl, .int .i64 rh] tc)).alloc (.cells #[.int .i64 0, .slice none 0 0, .slice none 0 0, .slice none 0 0, .slice none 0 0, .slice none 0 0] ts)
  have k3 := (Blk.new ((w.alloc (.cells #[.slice F.pa F.ps.length F.pc, .int .i64 F.dry] tf)).alloc (.cells #[.int .i64 S.year, .slice S.la S.last.length S.lc, .slice S.ga S.given.length S.gc, .slice S.ha S.heaps.length S.hc, .slice S.ua S.used.length S.uc, .slice S.wa S.waste.length S.wc] ts)) tc #[.int .i64 kd, .int .i64 pl, .int .i64 ld, .string nm, .string ot, .int .i64 dy, .int .i64 pr, .int .i64 rl, .int .i64 rh]).alloc (.cells #[.int .i64 0, .slice none 0 0, .slice none 0 0, .slice none 0 0, .slice none 0 0, .slice none 0 0] ts)
  have k4 := Blk.new (((w.alloc (.cells #[.slice F.pa F.ps.length F.pc, .int .i64 F.dry] tf)).alloc (.cells #[.int .i64 S.year, .slice S.la S.last.length S.lc, .slice S.ga S.given.length S.gc, .slice S.ha S.heaps.length S.hc, .slice S.ua S.used.length S.uc, .slice S.wa S.waste.length S.wc] ts)).alloc (.cells #[.int .i64 kd, .int .i64 pl, .int .i64 ld, .string nm, .string ot, .int .i64 dy, .int .i64 pr, .int .i64 rl, .int .i64 rh] tc)) ts #[.int .i64 0, .slice none 0 0, .slice none 0 0, .slice none 0 0, .slice none 0 0, .slice none 0 0]
  rw [World.size_alloc] at k2
  rw [World.size_alloc, World.size_alloc] at k3
  rw [World.size_alloc, World.size_alloc, World.size_alloc] at k4
  exact ⟨k1, k2, k3, k4, ((((Below.refl _ w).alloc (Nat.le_refl _) _).alloc (by simp) _).alloc (by simp; omega) _).alloc (by simp; omega) _⟩
end
end Go.Proofs.YtfhalmlpnoepcaaGreat
namespace Go.Proofs.YtfhalmlpnoepcaaGreat
section
set_option linter.unusedSimpArgs false
open Go.RowKit

theorem erase_take {α : Type} {l : List α} {j : Nat} {x : α} (h : l[j]? = some x) (i : Nat) : (l.take (j + 1)).eraseIdx i = if j = i then (l.take j).eraseIdx i else (l.take j).eraseIdx i ++ [x] := by
  have hl : (l.take j).length = j := by
    have := (List.getElem?_eq_some_iff.1 h).1
    simp; omega
  rw [take_snoc' h, List.eraseIdx_append, hl]
  by_cases h1 : i < j
  · rw [if_pos h1, if_neg (by omega)]
  · by_cases h2 : j = i
    · subst h2
      rw [if_neg h1, if_pos rfl, Nat.sub_self, List.eraseIdx_of_length_le (l := List.take j l) (by omega)]
      simp
    · obtain ⟨m, hm⟩ : ∃ m, i - j = m + 1 := ⟨i - j - 1, by omega⟩
      rw [if_neg h1, if_neg h2, List.eraseIdx_of_length_le (l := List.take j l) (by omega), hm]
      rfl
theorem heps_at {w : World} {a : Option Addr} {c : Nat} {l : List Hep} (h : IsHeps w a c l) {j : Nat} {x : Hep} (hj : l[j]? = some x) : ∃ b off, a = some ⟨b, off, none⟩ ∧ b < w.heap.size ∧ l.length ≤ c ∧ c ≤ 9223372036854775807 ∧ HepAt w b (off + j * 7) x := IsRow.at h hj

set_option maxRecDepth 100000 in
set_option maxHeartbeats 16000000 in
theorem refWithout_any (base : Nat) (S : Sto) (i : Nat) (w : World) (hS : Rst base w S) (hbase : base ≤ w.heap.size) (hi1 : i < S.heaps.length) (hlen : S.heaps.length ≤ 1000) :
    Calls Tryz.prog 52 #[.agg #[.int .i64 S.year, .slice S.la S.last.length S.lc, .slice S.ga S.given.length S.gc, .slice S.ha S.heaps.length S.hc, .slice S.ua S.used.length S.uc, .slice S.wa S.waste.length S.wc], .int .i64 (i : Int)] w fun e w' => (∃ a c, e = .returned (stoV { S with ha := a, hc := c, heaps := S.heaps.eraseIdx i }) ∧ Rst base w' { S with ha := a, hc := c, heaps := S.heaps.eraseIdx i } ∧ FromN w.heap.size a) ∧ Below w.heap.size w w' := by
  obtain ⟨i0, hi, hz0, hz1, hz2⟩ := info_parts info_heap
  have k1 := (Blk.new w 29 #[.int .i64 S.year, .slice S.la S.last.length S.lc, .slice S.ga S.given.length S.gc, .slice S.ha S.heaps.length S.hc, .slice S.ua S.used.length S.uc, .slice S.wa S.waste.length S.wc]).alloc (.cells #[.int .i64 0, .slice none 0 0, .slice none 0 0, .slice none 0 0, .slice none 0 0, .slice none 0 0] 29)
  have k2 := Blk.new (w.alloc (.cells #[.int .i64 S.year, .slice S.la S.last.length S.lc, .slice S.ga S.given.length S.gc, .slice S.ha S.heaps.length S.hc, .slice S.ua S.used.length S.uc, .slice S.wa S.waste.length S.wc] 29)) 29 #[.int .i64 0, .slice none 0 0, .slice none 0 0, .slice none 0 0, .slice none 0 0, .slice none 0 0]
  rw [World.size_alloc] at k2
  have hb1 : Below w.heap.size w ((w.alloc (.cells #[.int .i64 S.year, .slice S.la S.last.length S.lc, .slice S.ga S.given.length S.gc, .slice S.ha S.heaps.length S.hc, .slice S.ua S.used.length S.uc, .slice S.wa S.waste.length S.wc] 29)).alloc (.cells #[.int .i64 0, .slice none 0 0, .slice none 0 0, .slice none 0 0, .slice none 0 0, .slice none 0 0] 29)) := ((Below.refl _ w).alloc (Nat.le_refl _) _).alloc (by simp) _
  have HS := Lib.hid hS
  have HLEN := Lib.hid hlen
  have HI1 := Lib.hid hi1
  have HBASE := Lib.hid hbase
  clear hS hlen hi1 hbase
  go_enter Tryz.func52, Tryz.ntmps52
  go_upto_region 1 with fail
  generalize ((w.alloc (.cells #[.int .i64 S.year, .slice S.la S.last.length S.lc, .slice S.ga S.given.length S.gc, .slice S.ha S.heaps.length S.hc, .slice S.ua S.used.length S.uc, .slice S.wa S.waste.length S.wc] 29)).alloc (.cells #[.int .i64 0, .slice none 0 0, .slice none 0 0, .slice none 0 0, .slice none 0 0, .slice none 0 0] 29)) = w1 at *
  have HB1 := Lib.hid hb1
  have K11 := Lib.hid k1
  have K21 := Lib.hid k2
  clear k1 k2 hb1
  have d3 : w1.cell? ⟨w.heap.size, 3, none⟩ = some (.slice S.ha S.heaps.length S.hc) := K11.out.cell 3
  have z3 := K11.out.frozen 3
  have l1 := K11.out.lt
  go_upto_region 3 with fail
  have kf : Blk (w1.setCell ⟨w.heap.size, 3, none⟩ (.slice none 0 0)) (w.heap.size) #[.int .i64 S.year, .slice S.la S.last.length S.lc, .slice S.ga S.given.length S.gc, .slice none 0 0, .slice S.ua S.used.length S.uc, .slice S.wa S.waste.length S.wc] 29 := K11.out.set 3 _
  have ht : Turn (fun k => k = w.heap.size) w1 (w1.setCell ⟨w.heap.size, 3, none⟩ (.slice none 0 0)) := (Turn.of_below (X := fun k => k = w.heap.size) (Below.refl _ w1)).setCell (B := w.heap.size) rfl 3 _
  generalize w1.setCell ⟨w.heap.size, 3, none⟩ (.slice none 0 0) = w1b at *
  have KF := Lib.hid kf
  have HT0 := Lib.hid ht
  clear d3 z3 l1 kf ht
  go_wp2_with fail
  go_loopw [6] (fun s6 wr => ∃ (j : Nat) (H : List Hep) (a : Option Addr) (c : Nat), j ≤ S.heaps.length ∧ H = (S.heaps.take j).eraseIdx i ∧ s6 = .int .i64 j ∧ Blk wr w.heap.size #[.int .i64 S.year, .slice S.la S.last.length S.lc, .slice S.ga S.given.length S.gc, .slice a H.length c, .slice S.ua S.used.length S.uc, .slice S.wa S.waste.length S.wc] 29 ∧ wr.ownsRow w1.heap.size 53 7 (.slice a H.length c) H.length (H.flatMap cellsHep) ∧ Turn (fun k => k = w.heap.size) w1 wr) (fun i _ => S.heaps.length - (intOf i).toNat)
  case atStart => exact ⟨0, [], none, 0, Nat.zero_le _, by simp, rfl, KF.out, World.ownsRow_nil _ _ _ _, HT0.out⟩
  case round =>
  obtain ⟨j, H, a, c, hj, hH, rfl, hk, hown, ht⟩ := hrel
  obtain ⟨w2, rfl⟩ : ∃ w2 : World, w2 = wr := ⟨_, rfl⟩
  have HT := Lib.hid ht
  have HOW := Lib.hid hown
  have KB1 := Lib.hid hk
  have HH := Lib.hid hH
  have HLB := Lib.hid (show w.heap.size < w1.heap.size from K11.out.lt)
  have HB2 := Lib.hid (HB1.out.trans (HT.out.below HB1.out.size (fun k e => by rw [show k = w.heap.size from e]; exact Nat.le_refl _)))
  have K22 := Lib.hid (HT.out.blk K21.out (fun e => by have := (show w.heap.size + 1 = w.heap.size from e); omega))
  have HLH := Lib.hid (show H.length ≤ 1000 by
    have h1 : H.length ≤ (S.heaps.take j).length := by rw [hH]; exact List.length_eraseIdx_le ..
    have h2 : (S.heaps.take j).length ≤ S.heaps.length := by simp; omega
    have := HLEN.out
    omega)
  clear ht hown hk hH
  by_cases hlj : j < S.heaps.length
  rotate_left
  · obtain rfl : j = S.heaps.length := by omega
    have hlj' : ¬ (S.heaps.length : Int) < (S.heaps.length : Int) := by omega
    have hE : H = S.heaps.eraseIdx i := by rw [HH.out, List.take_of_length_le (Nat.le_refl _)]
    have HHE := Lib.hid hE
    clear hlj hj hE
    obtain ⟨d0, d1, d2, d3, d4, d5⟩ := (show w2.cell? ⟨w.heap.size, 0, none⟩ = some (.int .i64 S.year) ∧ w2.cell? ⟨w.heap.size, 1, none⟩ = some (.slice S.la S.last.length S.lc) ∧ w2.cell? ⟨w.heap.size, 2, none⟩ = some (.slice S.ga S.given.length S.gc) ∧ w2.cell? ⟨w.heap.size, 3, none⟩ = some (.slice a H.length c) ∧ w2.cell? ⟨w.heap.size, 4, none⟩ = some (.slice S.ua S.used.length S.uc) ∧ w2.cell? ⟨w.heap.size, 5, none⟩ = some (.slice S.wa S.waste.length S.wc) from ⟨KB1.out.cell 0, KB1.out.cell 1, KB1.out.cell 2, KB1.out.cell 3, KB1.out.cell 4, KB1.out.cell 5⟩)
    obtain ⟨r0, r1, r2, r3, r4, r5⟩ := (show w2.cell? ⟨w.heap.size + 1, 0, none⟩ = some (.int .i64 0) ∧ w2.cell? ⟨w.heap.size + 1, 1, none⟩ = some (.slice none 0 0) ∧ w2.cell? ⟨w.heap.size + 1, 2, none⟩ = some (.slice none 0 0) ∧ w2.cell? ⟨w.heap.size + 1, 3, none⟩ = some (.slice none 0 0) ∧ w2.cell? ⟨w.heap.size + 1, 4, none⟩ = some (.slice none 0 0) ∧ w2.cell? ⟨w.heap.size + 1, 5, none⟩ = some (.slice none 0 0) from ⟨K22.out.cell 0, K22.out.cell 1, K22.out.cell 2, K22.out.cell 3, K22.out.cell 4, K22.out.cell 5⟩)
    have l1 := KB1.out.lt
    have l2 := K22.out.lt
    have z0 := K22.out.frozen 0
    have z1 := K22.out.frozen 1
    have z2 := K22.out.frozen 2
    have z3 := K22.out.frozen 3
    have z4 := K22.out.frozen 4
    have z5 := K22.out.frozen 5
    go_wp2_with fail
    have kf : Blk ((((((w2.setCell ⟨w.heap.size + 1, 0, none⟩ (.int .i64 S.year)).setCell ⟨w.heap.size + 1, 1, none⟩ (.slice S.la S.last.length S.lc)).setCell ⟨w.heap.size + 1, 2, none⟩ (.slice S.ga S.given.length S.gc)).setCell ⟨w.heap.size + 1, 3, none⟩ (.slice a H.length c)).setCell ⟨w.heap.size + 1, 4, none⟩ (.slice S.ua S.used.length S.uc)).setCell ⟨w.heap.size + 1, 5, none⟩ (.slice S.wa S.waste.length S.wc)) (w.heap.size + 1) #[.int .i64 S.year, .slice S.la S.last.length S.lc, .slice S.ga S.given.length S.gc, .slice a H.length c, .slice S.ua S.used.length S.uc, .slice S.wa S.waste.length S.wc] 29 := ((((((K22.out.set 0 (.int .i64 S.year)).set 1 (.slice S.la S.last.length S.lc)).set 2 (.slice S.ga S.given.length S.gc)).set 3 (.slice a H.length c)).set 4 (.slice S.ua S.used.length S.uc)).set 5 (.slice S.wa S.waste.length S.wc))
    have ht : Turn (fun k => k = w.heap.size + 1) w2 ((((((w2.setCell ⟨w.heap.size + 1, 0, none⟩ (.int .i64 S.year)).setCell ⟨w.heap.size + 1, 1, none⟩ (.slice S.la S.last.length S.lc)).setCell ⟨w.heap.size + 1, 2, none⟩ (.slice S.ga S.given.length S.gc)).setCell ⟨w.heap.size + 1, 3, none⟩ (.slice a H.length c)).setCell ⟨w.heap.size + 1, 4, none⟩ (.slice S.ua S.used.length S.uc)).setCell ⟨w.heap.size + 1, 5, none⟩ (.slice S.wa S.waste.length S.wc)) := (((((((Turn.of_below (X := fun k => k = w.heap.size + 1) (Below.refl _ w2)).setCell (B := w.heap.size + 1) rfl 0 (.int .i64 S.year)).setCell (B := w.heap.size + 1) rfl 1 (.slice S.la S.last.length S.lc)).setCell (B := w.heap.size + 1) rfl 2 (.slice S.ga S.given.length S.gc)).setCell (B := w.heap.size + 1) rfl 3 (.slice a H.length c)).setCell (B := w.heap.size + 1) rfl 4 (.slice S.ua S.used.length S.uc)).setCell (B := w.heap.size + 1) rfl 5 (.slice S.wa S.waste.length S.wc))
    generalize ((((((w2.setCell ⟨w.heap.size + 1, 0, none⟩ (.int .i64 S.year)).setCell ⟨w.heap.size + 1, 1, none⟩ (.slice S.la S.last.length S.lc)).setCell ⟨w.heap.size + 1, 2, none⟩ (.slice S.ga S.given.length S.gc)).setCell ⟨w.heap.size + 1, 3, none⟩ (.slice a H.length c)).setCell ⟨w.heap.size + 1, 4, none⟩ (.slice S.ua S.used.length S.uc)).setCell ⟨w.heap.size + 1, 5, none⟩ (.slice S.wa S.waste.length S.wc)) = wf at *
    clear d0 d1 d2 d3 d4 d5 r0 r1 r2 r3 r4 r5 l1 l2 z0 z1 z2 z3 z4 z5
    obtain ⟨g0, g1, g2, g3, g4, g5⟩ := (show wf.cell? ⟨w.heap.size + 1, 0, none⟩ = some (.int .i64 S.year) ∧ wf.cell? ⟨w.heap.size + 1, 1, none⟩ = some (.slice S.la S.last.length S.lc) ∧ wf.cell? ⟨w.heap.size + 1, 2, none⟩ = some (.slice S.ga S.given.length S.gc) ∧ wf.cell? ⟨w.heap.size + 1, 3, none⟩ = some (.slice a H.length c) ∧ wf.cell? ⟨w.heap.size + 1, 4, none⟩ = some (.slice S.ua S.used.length S.uc) ∧ wf.cell? ⟨w.heap.size + 1, 5, none⟩ = some (.slice S.wa S.waste.length S.wc) from ⟨kf.cell 0, kf.cell 1, kf.cell 2, kf.cell 3, kf.cell 4, kf.cell 5⟩)
    have hbf : Below w.heap.size w wf := HB2.out.trans (ht.below HB2.out.size (fun k e => by rw [show k = w.heap.size + 1 from e]; omega))
    have hrow : wf.ownsRow w.heap.size 53 7 (.slice a H.length c) H.length (H.flatMap cellsHep) := (ht.row HOW.out (fun k e e2 => by have := (own_geq HOW.out e2).1; have := (show k = w.heap.size + 1 from e); have := K21.out.lt; omega)).mono (by have := HLB.out; omega)
    refine bodyPost_ret (v := .agg #[.int .i64 S.year, .slice S.la S.last.length S.lc, .slice S.ga S.given.length S.gc, .slice a H.length c, .slice S.ua S.used.length S.uc, .slice S.wa S.waste.length S.wc]) (by simp [results, Tryz.results52, go_sem, g0, g1, g2, g3, g4, g5]) rfl ⟨⟨a, c, ?_, ?_, fun k e => (own_geq hrow e).1⟩, hbf⟩
    · rw [← HHE.out]
    · have := HS.out.newHeaps hbf HBASE.out hrow (fun x hx => by rw [HHE.out] at hx; exact List.mem_of_mem_eraseIdx hx)
      rw [HHE.out] at this
      exact this
  have hlj' : (j : Int) < (S.heaps.length : Int) := by omega
  have hj0 : (0 : Int) ≤ (j : Int) := Int.natCast_nonneg _
  have hjs : IntKind.i64.wrap ((j : Int) + 1) = ((j + 1 : Nat) : Int) := by have := HLEN.out; rw [IntKind.wrap_i64]; omega
  have hq : S.heaps[j]? = some S.heaps[j] := List.getElem?_eq_getElem hlj
  have HTK := Lib.hid (erase_take hq i)
  obtain ⟨b, off, hea, hbl, hcap, hcx, ⟨e0, e1, e2, e3, e4, e5, e6⟩, _, _⟩ := heps_at (HS.out.store.heaps.belowS HB2.out) hq
  have HBW := Lib.hid (show b < w.heap.size by obtain ⟨b', off', e, h, _⟩ := heps_at HS.out.store.heaps hq; rw [hea] at e; injection e with e; injection e with e1 e2; omega)
  generalize S.heaps[j] = h at *
  have HLJ := Lib.hid hlj
  have HEA := Lib.hid hea
  have d3 : w2.cell? ⟨w.heap.size, 3, none⟩ = some (.slice a H.length c) := KB1.out.cell 3
  have l1 := KB1.out.lt
  clear hq hlj hj
  by_cases hji : j = i
  · have hb : ((j : Int) != (i : Int)) = false := by simp [hji]
    have hb' : ((j : Int) == (i : Int)) = true := by simp [hji]
    have HTE := Lib.hid (HTK.out.trans (if_pos hji))
    clear hji hea e0 e1 e2 e3 e4 e5 e6
    go_wp2_with fail
    exact ⟨⟨j + 1, H, a, c, by have := HLJ.out; omega, by rw [HTE.out, HH.out], rfl, KB1.out, HOW.out, HT.out⟩, by have := HLJ.out; simp [intOf]; omega⟩
  · have hb : ((j : Int) != (i : Int)) = true := by simp; omega
    have hb' : ((j : Int) == (i : Int)) = false := by simp; omega
    have HTE := Lib.hid (HTK.out.trans (if_neg hji))
    clear hji
    rw [HEA.out]
    clear hea
    go_upto_region 7 with fail
    have HE0 := Lib.hid e0
    have HE1 := Lib.hid e1
    have HE2 := Lib.hid e2
    have HE3 := Lib.hid e3
    have HE4 := Lib.hid e4
    have HE5 := Lib.hid e5
    have HE6 := Lib.hid e6
    have HBL := Lib.hid hbl
    have HNO := Lib.hid (show ∀ k, (Value.slice a H.length c).ownBlock = some k → w1.heap.size ≤ k ∧ k < w2.heap.size from fun k e => by
      rw [rowOf_own'] at e
      exact own_geq HOW.out e)
    have hst : ∀ w', Below w2.heap.size w2 w' → (fun w' : World => w'.cell? ⟨w.heap.size, 3, none⟩ = some (.slice a H.length c) ∧ (w'.cell? ⟨b, off + j * 7, none⟩ = some (.string h.name) ∧ w'.cell? ⟨b, off + j * 7 + 1, none⟩ = some (.int .i64 h.crop) ∧ w'.cell? ⟨b, off + j * 7 + 2, none⟩ = some (.int .i64 h.stage) ∧ w'.cell? ⟨b, off + j * 7 + 3, none⟩ = some (.slice h.pa h.parts.length h.pc) ∧ w'.cell? ⟨b, off + j * 7 + 4, none⟩ = some (.int .i64 h.per) ∧ w'.cell? ⟨b, off + j * 7 + 5, none⟩ = some (.int .i64 h.wlo) ∧ w'.cell? ⟨b, off + j * 7 + 6, none⟩ = some (.int .i64 h.whi))) w' := fun w' hb => by
      have x1 := KB1.out.belowS hb
      have hc : ∀ o, w'.cell? ⟨b, o, none⟩ = w2.cell? ⟨b, o, none⟩ := fun o => hb.cell (p := ⟨b, o, none⟩) HBL.out
      exact ⟨x1.cell 3, (hc _).trans HE0.out, (hc _).trans HE1.out, (hc _).trans HE2.out, (hc _).trans HE3.out, (hc _).trans HE4.out, (hc _).trans HE5.out, (hc _).trans HE6.out⟩
    have HST := Lib.hid hst
    clear hst e0 e1 e2 e3 e4 e5 e6 d3 l1 hbl
    have hx := HST.out w2.drew ((Below.refl _ w2).drew)
    refine wp_region_E 9 (fun w' : World => w'.cell? ⟨w.heap.size, 3, none⟩ = some (.slice a H.length c) ∧ (w'.cell? ⟨b, off + j * 7, none⟩ = some (.string h.name) ∧ w'.cell? ⟨b, off + j * 7 + 1, none⟩ = some (.int .i64 h.crop) ∧ w'.cell? ⟨b, off + j * 7 + 2, none⟩ = some (.int .i64 h.stage) ∧ w'.cell? ⟨b, off + j * 7 + 3, none⟩ = some (.slice h.pa h.parts.length h.pc) ∧ w'.cell? ⟨b, off + j * 7 + 4, none⟩ = some (.int .i64 h.per) ∧ w'.cell? ⟨b, off + j * 7 + 5, none⟩ = some (.int .i64 h.wlo) ∧ w'.cell? ⟨b, off + j * 7 + 6, none⟩ = some (.int .i64 h.whi))) (by kernel_rfl) ?_
    refine tk 0 rfl hx (v := ?v1) (.inl ⟨by rfl, ?y1⟩) ?r1
    case y1 => intro w' h; (try dsimp only at h); go_simp; try with_reducible rfl
    refine tk 1 rfl hx (v := ?v2) (.inl ⟨by rfl, ?y2⟩) ?r2
    case y2 => intro w' h; (try dsimp only at h); go_simp; try with_reducible rfl
    refine tk 2 rfl hx (v := ?v3) (.inl ⟨by rfl, ?y3⟩) ?r3
    case y3 => intro w' h; (try dsimp only at h); go_simp; try with_reducible rfl
    try simp only [Act.put, List.getElem_toArray, List.getElem_cons_zero, List.getElem_cons_succ, List.setIfInBounds_toArray, List.set_cons_zero, List.set_cons_succ]
    refine tk 3 rfl hx (v := ?v4) (.inl ⟨by rfl, ?y4⟩) ?r4
    case y4 => intro w' h; (try dsimp only at h); go_simp; try with_reducible rfl
    refine tk 4 rfl hx (v := ?v5) (.inl ⟨by rfl, ?y5⟩) ?r5
    case y5 => intro w' h; (try dsimp only at h); go_simp; try with_reducible rfl
    refine tk 5 rfl hx (v := ?v6) (.inl ⟨by rfl, ?y6⟩) ?r6
    case y6 => intro w' h; (try dsimp only at h); go_simp; try with_reducible rfl
    try simp only [Act.put, List.getElem_toArray, List.getElem_cons_zero, List.getElem_cons_succ, List.setIfInBounds_toArray, List.set_cons_zero, List.set_cons_succ]
    refine E_step (i := 6) (o := _) (by kernel_rfl) rfl (fun K hK => ?_)
    go_simp
    refine hK.out _ _ (fun _ => HST.out _ ((Below.refl _ w2).drew.alloc (by simp) _)) ?_
    clear hK K
    try simp only [Act.put, List.getElem_toArray, List.getElem_cons_zero, List.getElem_cons_succ, List.setIfInBounds_toArray, List.set_cons_zero, List.set_cons_succ]
    have hbE : Below w2.heap.size w2 (w2.drew.alloc (.cells #[.string h.name, .int .i64 h.crop, .int .i64 h.stage, .slice h.pa h.parts.length h.pc, .int .i64 h.per, .int .i64 h.wlo, .int .i64 h.whi] 53)) := (Below.refl _ w2).drew.alloc (by simp) _
    have HOE := Lib.hid (own_below HOW.out hbE)
    have HBE := Lib.hid hbE
    refine E_step (i := 7) (o := _) (by kernel_rfl) rfl (fun K hK => ?_)
    refine step_append_lies _ (by rfl) _ _ _ (by rfl) w1.heap.size 53 i0 _ 7 80 Tryz.underlying26 hi hz0 hz1 hz2 rfl (by omega) _ H.length (H.flatMap cellsHep) (by rfl) HOE.out
      ⟨w2.heap.size, 0, none⟩ 1 1 [.string h.name, .int .i64 h.crop, .int .i64 h.stage, .slice h.pa h.parts.length h.pc, .int .i64 h.per, .int .i64 h.wlo, .int .i64 h.whi] (by rfl) (by rfl) (World.news_of_block (cs := #[.string h.name, .int .i64 h.crop, .int .i64 h.stage, .slice h.pa h.parts.length h.pc, .int .i64 h.per, .int .i64 h.wlo, .int .i64 h.whi]) (t := 53) (fr := (0, 0)) (heap_alloc_new w2.drew _)) (by simp [Value.oneCell'])
      (by omega) (by have := HLH.out; unfold maxLen; omega) (by have := HLH.out; omega) (Nat.le_trans HT.out.size HBE.out.size) (w2.heap.size + 1) (by simp) ?_
    intro gg cap w9 hown9 hgrow hat hlt9
    have HOO := Lib.hid hown9
    have HTG := Lib.hid (Turn.of_grown hgrow)
    have HAT := Lib.hid hat
    have KB9 := Lib.hid (HTG.out.blk (KB1.out.belowS HBE.out) (fun e => by have := HNO.out _ e; have := HLB.out; omega))
    have hc : ∀ o, w9.cell? ⟨b, o, none⟩ = w2.cell? ⟨b, o, none⟩ := fun o => (World.cell?_of_block (a := ⟨b, o, none⟩) (HTG.out.block b (Nat.lt_of_lt_of_le HBL.out HBE.out.size) (fun e => by have := HNO.out _ e; have := HBW.out; have := HLB.out; omega))).trans (HBE.out.cell (p := ⟨b, o, none⟩) HBL.out)
    have hx9 : (fun w' : World => w'.cell? ⟨w.heap.size, 3, none⟩ = some (.slice a H.length c) ∧ (w'.cell? ⟨b, off + j * 7, none⟩ = some (.string h.name) ∧ w'.cell? ⟨b, off + j * 7 + 1, none⟩ = some (.int .i64 h.crop) ∧ w'.cell? ⟨b, off + j * 7 + 2, none⟩ = some (.int .i64 h.stage) ∧ w'.cell? ⟨b, off + j * 7 + 3, none⟩ = some (.slice h.pa h.parts.length h.pc) ∧ w'.cell? ⟨b, off + j * 7 + 4, none⟩ = some (.int .i64 h.per) ∧ w'.cell? ⟨b, off + j * 7 + 5, none⟩ = some (.int .i64 h.wlo) ∧ w'.cell? ⟨b, off + j * 7 + 6, none⟩ = some (.int .i64 h.whi))) w9 := ⟨KB9.out.cell 3, (hc _).trans HE0.out, (hc _).trans HE1.out, (hc _).trans HE2.out, (hc _).trans HE3.out, (hc _).trans HE4.out, (hc _).trans HE5.out, (hc _).trans HE6.out⟩
    clear hc hown9 hgrow hat hlt9
    refine hK.out _ _ (fun _ => hx9) ?_
    clear hK K
    try simp only [Act.put, List.getElem_toArray, List.getElem_cons_zero, List.getElem_cons_succ, List.setIfInBounds_toArray, List.set_cons_zero, List.set_cons_succ]
    refine tk 8 rfl hx9 (v := ?v7) (.inl ⟨by rfl, ?y7⟩) ?r7
    case y7 => intro w' h; (try dsimp only at h); go_simp; try with_reducible rfl
    try simp only [Act.put, List.getElem_toArray, List.getElem_cons_zero, List.getElem_cons_succ, List.setIfInBounds_toArray, List.set_cons_zero, List.set_cons_succ]
    have z3 := KB9.out.frozen 3
    have l9 := KB9.out.lt
    have c9 : w9.cell? ⟨w.heap.size, 3, none⟩ = some (.slice a H.length c) := KB9.out.cell 3
    clear hx hx9
    refine E_step (i := 9) (o := _) (by kernel_rfl) rfl (fun K hK => ?_)
    go_simp
    refine hK.out _ _ (fun h => absurd rfl h) ?_
    clear hK K
    try simp only [Act.put, List.getElem_toArray, List.getElem_cons_zero, List.getElem_cons_succ, List.setIfInBounds_toArray, List.set_cons_zero, List.set_cons_succ]
    refine E_done (by kernel_rfl) ?_ _
    have kf : Blk (w9.setCell ⟨w.heap.size, 3, none⟩ (.slice (some ⟨gg, 0, none⟩) (H.length + 1) cap)) (w.heap.size) #[.int .i64 S.year, .slice S.la S.last.length S.lc, .slice S.ga S.given.length S.gc, .slice (some ⟨gg, 0, none⟩) (H ++ [h]).length cap, .slice S.ua S.used.length S.uc, .slice S.wa S.waste.length S.wc] 29 := by
      have := KB9.out.set 3 (.slice (some ⟨gg, 0, none⟩) (H.length + 1) cap)
      simpa using this
    have ht : Turn (fun k => k = w.heap.size) w9 (w9.setCell ⟨w.heap.size, 3, none⟩ (.slice (some ⟨gg, 0, none⟩) (H.length + 1) cap)) := (Turn.of_below (X := fun k => k = w.heap.size) (Below.refl _ w9)).setCell (B := w.heap.size) rfl 3 _
    have hT1 : Turn (fun k => k = w.heap.size) w1 w9 := (HT.out.trans (Turn.of_below HBE.out)).far HTG.out (fun k e => (HNO.out k e).1)
    have HTF := Lib.hid (hT1.trans ht)
    have HRF := Lib.hid (show ((w9.setCell ⟨w.heap.size, 3, none⟩ (.slice (some ⟨gg, 0, none⟩) (H.length + 1) cap))).ownsRow w1.heap.size 53 7 (.slice (some ⟨gg, 0, none⟩) (H ++ [h]).length cap) (H ++ [h]).length ((H ++ [h]).flatMap cellsHep) by
      have h1 := ht.row (a := some ⟨gg, 0, none⟩) HOO.out (fun k e e2 => by have := (own_geq (a := some ⟨gg, 0, none⟩) HOO.out e2).1; have := (show k = w.heap.size from e); have := HLB.out; omega)
      simpa [List.flatMap_append, cellsHep] using h1)
    generalize (w9.setCell ⟨w.heap.size, 3, none⟩ (.slice (some ⟨gg, 0, none⟩) (H.length + 1) cap)) = w10 at *
    have KF2 := Lib.hid kf
    clear z3 l9 c9 kf ht hT1
    go_wp2_with fail
    exact ⟨⟨j + 1, H ++ [h], some ⟨gg, 0, none⟩, cap, by have := HLJ.out; omega, by rw [HTE.out, HH.out], rfl, KF2.out, HRF.out, HTF.out⟩, by have := HLJ.out; simp [intOf]; omega⟩
end
end Go.Proofs.YtfhalmlpnoepcaaGreat
namespace Go.Proofs.YtfhalmlpnoepcaaGreat
section
set_option linter.unusedSimpArgs false
open Go.RowKit

theorem Rst.heapAt {base : Nat} {w : World} {S : Sto} {i : Nat} {x : Hep} (h : Rst base w S) (hx : S.heaps[i]? = some x) : ∃ g, S.ha = some ⟨g, 0, none⟩ ∧ (base ≤ g ∧ g < w.heap.size) ∧ S.heaps.length ≤ S.hc ∧ S.hc ≤ 9223372036854775807 ∧ (∀ j v, (cellsHep x)[j]? = some v → w.cell? ⟨g, i * 7 + j, none⟩ = some v) ∧ (∀ o, w.frozen? ⟨g, o, none⟩ = false) := by
  have hne : S.heaps ≠ [] := fun e => by rw [e] at hx; simp at hx
  rcases row_at cellsHep 7 (fun _ => rfl) h.heaps with ⟨_, h0⟩ | ⟨g, cap, hv, hbg, hg, hcap, hcap2, key⟩
  · exact absurd h0 hne
  obtain ⟨e1, _, e2⟩ := slice_inj hv
  subst e2
  refine ⟨g, e1, ⟨hbg, hg⟩, hcap, hcap2, fun j v hj => ?_, fun o => ?_⟩
  · have hj7 : j < 7 := by
      have := (List.getElem?_eq_some_iff.1 hj).1
      exact this
    rw [key i x hx j hj7, ← hj]
  · rcases h.heaps.2 with ⟨e, h0⟩ | ⟨g', cap', cur, e, _, hgg, _⟩
    · rw [e1] at e; cases e
    · obtain ⟨e3, _, _⟩ := slice_inj e
      rw [e1] at e3
      obtain rfl : g = g' := by injection e3 with e3; injection e3
      exact Blk.frozen (show Blk w g cur _ from hgg) _
theorem Rst.write {base : Nat} {w : World} {S : Sto} {i g j : Nat} {x y : Hep} {v : Value} (h : Rst base w S) (hx : S.heaps[i]? = some x) (hg : S.ha = some ⟨g, 0, none⟩) (hj : j < 7) (hy : cellsHep y = (cellsHep x).set j v) (hp : IsPrts w y.pa y.pc y.parts ∧ y.name.size ≤ maxLen) (hc : Cool base w S y.pa) : Rst base (w.setCell ⟨g, i * 7 + j, none⟩ v) { S with heaps := S.heaps.set i y } := by
  have hil := (List.getElem?_eq_some_iff.1 hx).1
  have hga : S.ha.map (·.block) = some g := by rw [hg]; rfl
  refine h.setHeap hx ((Turn.of_below (X := fun k => S.ha.map (·.block) = some k) (Below.refl _ w)).setCell (B := g) hga _ _) ?_ hp hc
  have hr := h.heaps
  rw [hg] at hr ⊢
  have := ownsRow_setOwn hr (i := i * 7 + j) (by omega) v
  rwa [flat_set cellsHep 7 (fun _ => rfl) S.heaps i j x y v hx hj hy] at this
theorem Rst.writeTurn {base : Nat} {w : World} {S : Sto} {g : Nat} (h : Rst base w S) (hg : S.ha = some ⟨g, 0, none⟩) (o : Nat) (v : Value) : Below base w (w.setCell ⟨g, o, none⟩ v) :=
  ((Turn.of_below (X := fun k => k = g) (Below.refl _ w)).setCell (B := g) rfl o v).below (Nat.le_trans (own_geq h.heaps (k := g) (by rw [hg]; rfl)).1 (Nat.le_of_lt (own_geq h.heaps (k := g) (by rw [hg]; rfl)).2)) (fun k e => by rw [show k = g from e]; exact (own_geq h.heaps (k := g) (by rw [hg]; rfl)).1)
/-- A list of heaps where one has other parts, or is gone if they are none. -/
def withH (hs : List Hep) (i : Nat) (l : List Prt) : List Hep := match hs[i]? with
  | some h => if l = [] then hs.eraseIdx i else hs.set i { h with parts := l }
  | none => hs
theorem with_move (hs : List Hep) (i : Nat) (x : Hep) (n : Int) (hx : hs[i]? = some x) : withH hs i (cutR n x.parts) = moveH hs i n := by
  unfold withH moveH
  rw [hx]
/-- What is made of a store: it is the same as D, its rows are S's or new. -/
def Made (base : Nat) (S D : Sto) (a : Option Addr) (w w' : World) (T : Sto) : Prop := Rst base w' T ∧ SameSto T D ∧ (∀ B, B < w.heap.size → Off B S → a.map (·.block) ≠ some B → Off B T) ∧ T.la = S.la ∧ T.ga = S.ga ∧ (T.ha = S.ha ∨ FromN w.heap.size T.ha)

set_option maxRecDepth 100000 in
set_option maxHeartbeats 16000000 in
theorem refWith_any (base : Nat) (S : Sto) (i : Nat) (x : Hep) (a : Option Addr) (c : Nat) (l : List Prt) (w : World) (hS : Rst base w S) (hbase : base ≤ w.heap.size) (hx : S.heaps[i]? = some x) (hl : IsPrts w a c l) (hc : Cool base w S a) (hll : l.length ≤ 100000) (hlen : S.heaps.length ≤ 1000) :
    Calls Tryz.prog 51 #[.agg #[.int .i64 S.year, .slice S.la S.last.length S.lc, .slice S.ga S.given.length S.gc, .slice S.ha S.heaps.length S.hc, .slice S.ua S.used.length S.uc, .slice S.wa S.waste.length S.wc], .int .i64 (i : Int), .slice a l.length c] w fun e w' => (∃ T, e = .returned (stoV T) ∧ Made base S { S with heaps := withH S.heaps i l } a w w' T) ∧ Turn (fun k => S.ha.map (·.block) = some k) w w' := by
  have hil := (List.getElem?_eq_some_iff.1 hx).1
  have k1 := (Blk.new w 29 #[.int .i64 S.year, .slice S.la S.last.length S.lc, .slice S.ga S.given.length S.gc, .slice S.ha S.heaps.length S.hc, .slice S.ua S.used.length S.uc, .slice S.wa S.waste.length S.wc]).alloc (.cells #[.int .i64 0, .slice none 0 0, .slice none 0 0, .slice none 0 0, .slice none 0 0, .slice none 0 0] 29)
  have k2 := Blk.new (w.alloc (.cells #[.int .i64 S.year, .slice S.la S.last.length S.lc, .slice S.ga S.given.length S.gc, .slice S.ha S.heaps.length S.hc, .slice S.ua S.used.length S.uc, .slice S.wa S.waste.length S.wc] 29)) 29 #[.int .i64 0, .slice none 0 0, .slice none 0 0, .slice none 0 0, .slice none 0 0, .slice none 0 0]
  rw [World.size_alloc] at k2
  have hb1 : Below w.heap.size w ((w.alloc (.cells #[.int .i64 S.year, .slice S.la S.last.length S.lc, .slice S.ga S.given.length S.gc, .slice S.ha S.heaps.length S.hc, .slice S.ua S.used.length S.uc, .slice S.wa S.waste.length S.wc] 29)).alloc (.cells #[.int .i64 0, .slice none 0 0, .slice none 0 0, .slice none 0 0, .slice none 0 0, .slice none 0 0] 29)) := ((Below.refl _ w).alloc (Nat.le_refl _) _).alloc (by simp) _
  have HS := Lib.hid hS
  have HX := Lib.hid hx
  have HL := Lib.hid (And.intro hl hc)
  have HLEN := Lib.hid hlen
  have HBASE := Lib.hid hbase
  have HIL := Lib.hid hil
  clear hS hx hl hc hlen hbase hil
  go_enter Tryz.func51, Tryz.ntmps51
  go_upto_region 1 with fail
  generalize ((w.alloc (.cells #[.int .i64 S.year, .slice S.la S.last.length S.lc, .slice S.ga S.given.length S.gc, .slice S.ha S.heaps.length S.hc, .slice S.ua S.used.length S.uc, .slice S.wa S.waste.length S.wc] 29)).alloc (.cells #[.int .i64 0, .slice none 0 0, .slice none 0 0, .slice none 0 0, .slice none 0 0, .slice none 0 0] 29)) = w1 at *
  have HB1 := Lib.hid hb1
  have K11 := Lib.hid k1
  have K21 := Lib.hid k2
  clear k1 k2 hb1
  have HSZ1 := Lib.hid (show w.heap.size + 1 < w1.heap.size from K21.out.lt)
  obtain ⟨d0, d1, d2, d3, d4, d5⟩ := sto_cells (S := S) K11.out
  have dl := K11.out.lt
  obtain ⟨r0, r1, r2, r3, r4, r5⟩ := zero_cells K21.out
  have rl := K21.out.lt
  have rz0 := K21.out.frozen 0
  have rz1 := K21.out.frozen 1
  have rz2 := K21.out.frozen 2
  have rz3 := K21.out.frozen 3
  have rz4 := K21.out.frozen 4
  have rz5 := K21.out.frozen 5
  by_cases h0 : l = []
  · subst h0
    have HE := Lib.hid (show withH S.heaps i [] = S.heaps.eraseIdx i by unfold withH; rw [HX.out]; exact if_pos rfl)
    clear hll
    go_wp2_with fail
    refine (refWithout_any base S i _ (HS.out.below HB1.out) (Nat.le_trans HBASE.out HB1.out.size) HIL.out HLEN.out).mono ?_
    rintro e w2 ⟨⟨a', c', rfl, hT, hfr⟩, hb⟩
    clear d0 d1 d2 d3 d4 d5 dl r0 r1 r2 r3 r4 r5 rl rz0 rz1 rz2 rz3 rz4 rz5
    have HT := Lib.hid hT
    have HFR := Lib.hid hfr
    have HB2 := Lib.hid (HB1.out.trans (hb.mono HB1.out.size))
    have K22 := Lib.hid (K21.out.belowS hb)
    have HSZ2 := Lib.hid hb.size
    clear hT hfr hb
    unfold stoV
    have HLE := Lib.hid (show (S.heaps.eraseIdx i).length = (S.heaps.eraseIdx i).length from rfl)
    generalize hH : S.heaps.eraseIdx i = H at *
    dsimp only
    obtain ⟨r0, r1, r2, r3, r4, r5⟩ := zero_cells K22.out
    have rl := K22.out.lt
    have rz0 := K22.out.frozen 0
    have rz1 := K22.out.frozen 1
    have rz2 := K22.out.frozen 2
    have rz3 := K22.out.frozen 3
    have rz4 := K22.out.frozen 4
    have rz5 := K22.out.frozen 5
    go_wp2_with fail
    have kf : Blk ((((((w2.setCell ⟨w.heap.size + 1, 0, none⟩ (.int .i64 S.year)).setCell ⟨w.heap.size + 1, 1, none⟩ (.slice S.la S.last.length S.lc)).setCell ⟨w.heap.size + 1, 2, none⟩ (.slice S.ga S.given.length S.gc)).setCell ⟨w.heap.size + 1, 3, none⟩ (.slice a' H.length c')).setCell ⟨w.heap.size + 1, 4, none⟩ (.slice S.ua S.used.length S.uc)).setCell ⟨w.heap.size + 1, 5, none⟩ (.slice S.wa S.waste.length S.wc)) (w.heap.size + 1) #[.int .i64 S.year, .slice S.la S.last.length S.lc, .slice S.ga S.given.length S.gc, .slice a' H.length c', .slice S.ua S.used.length S.uc, .slice S.wa S.waste.length S.wc] 29 := ((((((K22.out.set 0 (.int .i64 S.year)).set 1 (.slice S.la S.last.length S.lc)).set 2 (.slice S.ga S.given.length S.gc)).set 3 (.slice a' H.length c')).set 4 (.slice S.ua S.used.length S.uc)).set 5 (.slice S.wa S.waste.length S.wc))
    have ht : Turn (fun k => k = w.heap.size + 1) w2 ((((((w2.setCell ⟨w.heap.size + 1, 0, none⟩ (.int .i64 S.year)).setCell ⟨w.heap.size + 1, 1, none⟩ (.slice S.la S.last.length S.lc)).setCell ⟨w.heap.size + 1, 2, none⟩ (.slice S.ga S.given.length S.gc)).setCell ⟨w.heap.size + 1, 3, none⟩ (.slice a' H.length c')).setCell ⟨w.heap.size + 1, 4, none⟩ (.slice S.ua S.used.length S.uc)).setCell ⟨w.heap.size + 1, 5, none⟩ (.slice S.wa S.waste.length S.wc)) := (((((((Turn.of_below (X := fun k => k = w.heap.size + 1) (Below.refl _ w2)).setCell (B := w.heap.size + 1) rfl 0 (.int .i64 S.year)).setCell (B := w.heap.size + 1) rfl 1 (.slice S.la S.last.length S.lc)).setCell (B := w.heap.size + 1) rfl 2 (.slice S.ga S.given.length S.gc)).setCell (B := w.heap.size + 1) rfl 3 (.slice a' H.length c')).setCell (B := w.heap.size + 1) rfl 4 (.slice S.ua S.used.length S.uc)).setCell (B := w.heap.size + 1) rfl 5 (.slice S.wa S.waste.length S.wc))
    generalize ((((((w2.setCell ⟨w.heap.size + 1, 0, none⟩ (.int .i64 S.year)).setCell ⟨w.heap.size + 1, 1, none⟩ (.slice S.la S.last.length S.lc)).setCell ⟨w.heap.size + 1, 2, none⟩ (.slice S.ga S.given.length S.gc)).setCell ⟨w.heap.size + 1, 3, none⟩ (.slice a' H.length c')).setCell ⟨w.heap.size + 1, 4, none⟩ (.slice S.ua S.used.length S.uc)).setCell ⟨w.heap.size + 1, 5, none⟩ (.slice S.wa S.waste.length S.wc)) = wf at *
    obtain ⟨g0, g1, g2, g3, g4, g5⟩ := (show wf.cell? ⟨w.heap.size + 1, 0, none⟩ = some (.int .i64 S.year) ∧ wf.cell? ⟨w.heap.size + 1, 1, none⟩ = some (.slice S.la S.last.length S.lc) ∧ wf.cell? ⟨w.heap.size + 1, 2, none⟩ = some (.slice S.ga S.given.length S.gc) ∧ wf.cell? ⟨w.heap.size + 1, 3, none⟩ = some (.slice a' H.length c') ∧ wf.cell? ⟨w.heap.size + 1, 4, none⟩ = some (.slice S.ua S.used.length S.uc) ∧ wf.cell? ⟨w.heap.size + 1, 5, none⟩ = some (.slice S.wa S.waste.length S.wc) from ⟨kf.cell 0, kf.cell 1, kf.cell 2, kf.cell 3, kf.cell 4, kf.cell 5⟩)
    have hoff : Off (w.heap.size + 1) { S with ha := a', hc := c', heaps := H } := ((HS.out.off (B := w.heap.size + 1) (.inl (by omega))).newHeaps (fun e => by have := HFR.out _ e; have := HSZ1.out; omega) (fun y hy => by rw [← hH] at hy; exact List.mem_of_mem_eraseIdx hy))
    refine bodyPost_ret (v := .agg #[.int .i64 S.year, .slice S.la S.last.length S.lc, .slice S.ga S.given.length S.gc, .slice a' H.length c', .slice S.ua S.used.length S.uc, .slice S.wa S.waste.length S.wc]) (by simp [results, Tryz.results51, go_sem, g0, g1, g2, g3, g4, g5]) rfl ⟨⟨{ S with ha := a', hc := c', heaps := H }, ?_, HT.out.turnAt ht hoff, ?_, ?_, rfl, rfl, .inr (fun k e => by have := HFR.out k e; have := HSZ1.out; omega)⟩, (Turn.of_below HB2.out).far ht (fun k e => by have := (show k = w.heap.size + 1 from e); omega)⟩
    · rfl
    · rw [HE.out]
      exact ⟨rfl, rfl, rfl, rfl, rfl, rfl, (sameH.refl H).2⟩
    · intro B hB ho _
      exact ho.newHeaps (fun e => by have := HFR.out _ e; have := HSZ1.out; omega) (fun y hy => by rw [← hH] at hy; exact List.mem_of_mem_eraseIdx hy)
  · have HE := Lib.hid (show withH S.heaps i l = S.heaps.set i { x with parts := l } by unfold withH; rw [HX.out]; exact if_neg h0)
    have hlp : 0 < l.length := List.length_pos_iff.2 h0
    have hne : ((l.length : Int) == 0) = false := by rw [beq_eq_false_iff_ne]; omega
    have hne' : ¬ ((l.length : Int) = 0) := by omega
    clear h0
    obtain ⟨g, hg, hgb, hcap, hcx, hcs, hfz⟩ := (HS.out.below HB1.out).heapAt HX.out
    have HGB := Lib.hid hgb
    have HG := Lib.hid hg
    have c3 : w1.cell? ⟨g, i * 7 + 3, none⟩ = some (.slice x.pa x.parts.length x.pc) := hcs 3 _ rfl
    have z3 := hfz (i * 7 + 3)
    have lg := hgb.2
    have hi0 : (0 : Int) ≤ (i : Int) := Int.natCast_nonneg _
    have hi1 : (i : Int) < (S.heaps.length : Int) := by have := HIL.out; omega
    rw [hg] at d3
    clear hg hgb hcs hfz
    go_upto_region 4 with fail
    have hT := (HS.out.below HB1.out).write (j := 3) (y := { x with pa := a, pc := c, parts := l }) (v := .slice a l.length c) HX.out HG.out (by omega) rfl ⟨HL.out.1.belowS HB1.out, ((HS.out.parts x (List.mem_of_getElem? HX.out)).1.2)⟩ (HL.out.2.mono HB1.out.size)
    have hbw := (HS.out.below HB1.out).writeTurn HG.out (i * 7 + 3) (.slice a l.length c)
    have htw : Turn (fun k => k = g) w1 (w1.setCell ⟨g, i * 7 + 3, none⟩ (.slice a l.length c)) := (Turn.of_below (X := fun k => k = g) (Below.refl _ w1)).setCell (B := g) rfl _ _
    generalize w1.setCell ⟨g, i * 7 + 3, none⟩ (.slice a l.length c) = w2 at *
    have HGN := Lib.hid (show g < w.heap.size from (own_geq HS.out.heaps (k := g) (by rw [HG.out]; rfl)).2)
    have K12 := Lib.hid (htw.blk K11.out (fun e => by have := HGN.out; have := (show w.heap.size = g from e); omega))
    have K22 := Lib.hid (htw.blk K21.out (fun e => by have := HGN.out; have := (show w.heap.size + 1 = g from e); omega))
    have HT := Lib.hid hT
    have HSZ2 := Lib.hid (show base ≤ w2.heap.size from Nat.le_trans HBASE.out (Nat.le_trans HB1.out.size htw.size))
    have HB2 := Lib.hid (show Turn (fun k => S.ha.map (·.block) = some k) w w2 from (Turn.of_below HB1.out).trans (htw.mono (fun k _ e => by rw [HG.out, show k = g from e]; rfl)))
    clear d0 d1 d2 d3 d4 d5 dl r0 r1 r2 r3 r4 r5 rl rz0 rz1 rz2 rz3 rz4 rz5 c3 z3 lg hT hbw htw hcap hcx hlp hne hne' hi0 hi1
    obtain ⟨d0, d1, d2, d3, d4, d5⟩ := sto_cells (S := S) K12.out
    have dl := K12.out.lt
    obtain ⟨r0, r1, r2, r3, r4, r5⟩ := zero_cells K22.out
    have rl := K22.out.lt
    have rz0 := K22.out.frozen 0
    have rz1 := K22.out.frozen 1
    have rz2 := K22.out.frozen 2
    have rz3 := K22.out.frozen 3
    have rz4 := K22.out.frozen 4
    have rz5 := K22.out.frozen 5
    go_wp2_with fail
    have kf : Blk ((((((w2.setCell ⟨w.heap.size + 1, 0, none⟩ (.int .i64 S.year)).setCell ⟨w.heap.size + 1, 1, none⟩ (.slice S.la S.last.length S.lc)).setCell ⟨w.heap.size + 1, 2, none⟩ (.slice S.ga S.given.length S.gc)).setCell ⟨w.heap.size + 1, 3, none⟩ (.slice S.ha S.heaps.length S.hc)).setCell ⟨w.heap.size + 1, 4, none⟩ (.slice S.ua S.used.length S.uc)).setCell ⟨w.heap.size + 1, 5, none⟩ (.slice S.wa S.waste.length S.wc)) (w.heap.size + 1) #[.int .i64 S.year, .slice S.la S.last.length S.lc, .slice S.ga S.given.length S.gc, .slice S.ha S.heaps.length S.hc, .slice S.ua S.used.length S.uc, .slice S.wa S.waste.length S.wc] 29 := ((((((K22.out.set 0 (.int .i64 S.year)).set 1 (.slice S.la S.last.length S.lc)).set 2 (.slice S.ga S.given.length S.gc)).set 3 (.slice S.ha S.heaps.length S.hc)).set 4 (.slice S.ua S.used.length S.uc)).set 5 (.slice S.wa S.waste.length S.wc))
    have ht : Turn (fun k => k = w.heap.size + 1) w2 ((((((w2.setCell ⟨w.heap.size + 1, 0, none⟩ (.int .i64 S.year)).setCell ⟨w.heap.size + 1, 1, none⟩ (.slice S.la S.last.length S.lc)).setCell ⟨w.heap.size + 1, 2, none⟩ (.slice S.ga S.given.length S.gc)).setCell ⟨w.heap.size + 1, 3, none⟩ (.slice S.ha S.heaps.length S.hc)).setCell ⟨w.heap.size + 1, 4, none⟩ (.slice S.ua S.used.length S.uc)).setCell ⟨w.heap.size + 1, 5, none⟩ (.slice S.wa S.waste.length S.wc)) := (((((((Turn.of_below (X := fun k => k = w.heap.size + 1) (Below.refl _ w2)).setCell (B := w.heap.size + 1) rfl 0 (.int .i64 S.year)).setCell (B := w.heap.size + 1) rfl 1 (.slice S.la S.last.length S.lc)).setCell (B := w.heap.size + 1) rfl 2 (.slice S.ga S.given.length S.gc)).setCell (B := w.heap.size + 1) rfl 3 (.slice S.ha S.heaps.length S.hc)).setCell (B := w.heap.size + 1) rfl 4 (.slice S.ua S.used.length S.uc)).setCell (B := w.heap.size + 1) rfl 5 (.slice S.wa S.waste.length S.wc))
    generalize ((((((w2.setCell ⟨w.heap.size + 1, 0, none⟩ (.int .i64 S.year)).setCell ⟨w.heap.size + 1, 1, none⟩ (.slice S.la S.last.length S.lc)).setCell ⟨w.heap.size + 1, 2, none⟩ (.slice S.ga S.given.length S.gc)).setCell ⟨w.heap.size + 1, 3, none⟩ (.slice S.ha S.heaps.length S.hc)).setCell ⟨w.heap.size + 1, 4, none⟩ (.slice S.ua S.used.length S.uc)).setCell ⟨w.heap.size + 1, 5, none⟩ (.slice S.wa S.waste.length S.wc)) = wf at *
    obtain ⟨g0, g1, g2, g3, g4, g5⟩ := (show wf.cell? ⟨w.heap.size + 1, 0, none⟩ = some (.int .i64 S.year) ∧ wf.cell? ⟨w.heap.size + 1, 1, none⟩ = some (.slice S.la S.last.length S.lc) ∧ wf.cell? ⟨w.heap.size + 1, 2, none⟩ = some (.slice S.ga S.given.length S.gc) ∧ wf.cell? ⟨w.heap.size + 1, 3, none⟩ = some (.slice S.ha S.heaps.length S.hc) ∧ wf.cell? ⟨w.heap.size + 1, 4, none⟩ = some (.slice S.ua S.used.length S.uc) ∧ wf.cell? ⟨w.heap.size + 1, 5, none⟩ = some (.slice S.wa S.waste.length S.wc) from ⟨kf.cell 0, kf.cell 1, kf.cell 2, kf.cell 3, kf.cell 4, kf.cell 5⟩)
    have hoff : Off (w.heap.size + 1) { S with heaps := S.heaps.set i { x with pa := a, pc := c, parts := l } } := (HS.out.off (B := w.heap.size + 1) (.inl (by omega))).setHeap (fun e => by have := (HL.out.2 _ e).1; omega)
    refine bodyPost_ret (v := .agg #[.int .i64 S.year, .slice S.la S.last.length S.lc, .slice S.ga S.given.length S.gc, .slice S.ha S.heaps.length S.hc, .slice S.ua S.used.length S.uc, .slice S.wa S.waste.length S.wc]) (by simp [results, Tryz.results51, go_sem, g0, g1, g2, g3, g4, g5]) rfl ⟨⟨{ S with heaps := S.heaps.set i { x with pa := a, pc := c, parts := l } }, ?_, HT.out.turnAt ht hoff, ?_, ?_, rfl, rfl, .inl rfl⟩, HB2.out.far ht (fun k e => by have := (show k = w.heap.size + 1 from e); omega)⟩
    · simp only [stoV, List.length_set]
    · rw [HE.out]
      refine ⟨rfl, rfl, rfl, rfl, rfl, ?_, ?_⟩
      · simp
      · exact ((sameH.refl S.heaps).set i (x := { x with pa := a, pc := c, parts := l }) (y := { x with parts := l }) ⟨rfl, rfl, rfl, rfl, rfl, rfl, rfl⟩).2
    · intro B hB ho ha
      exact ho.setHeap ha
end
end Go.Proofs.YtfhalmlpnoepcaaGreat
namespace Go.Proofs.YtfhalmlpnoepcaaGreat
section
set_option linter.unusedSimpArgs false
open Go.RowKit

theorem push_bd {O : List Prt} {p : Prt} {m : Int} (hO : ∀ q ∈ O, 0 ≤ q.loads ∧ q.loads ≤ m) (hp : 1 ≤ p.loads ∧ p.loads ≤ 100000) (hm : 0 ≤ m) : ∀ q ∈ pushL O p, 0 ≤ q.loads ∧ q.loads ≤ m + 100000 := by
  intro q hq
  rcases List.eq_nil_or_concat O with rfl | ⟨C, r, hC⟩
  · obtain rfl : q = p := by simpa [pushL] using hq
    omega
  · rw [List.concat_eq_append] at hC
    subst hC
    have hr := hO r (by simp)
    by_cases he : r.plot = p.plot
    · rw [pushL_same C r p he] at hq
      rcases List.mem_append.1 hq with hq | hq
      · have := hO q (by simp [hq]); omega
      · obtain rfl := List.mem_singleton.1 hq
        dsimp only
        omega
    · rw [pushL_other C r p he] at hq
      rcases List.mem_append.1 hq with hq | hq
      · have := hO q hq; omega
      · obtain rfl := List.mem_singleton.1 hq
        omega
/-- A row that is new: it is read so, and lies behind what was there. -/
def NewP (w w' : World) (a : Option Addr) (c : Nat) (l : List Prt) : Prop := IsPrts w' a c l ∧ ∀ k, a.map (·.block) = some k → w.heap.size ≤ k ∧ k < w'.heap.size

set_option maxRecDepth 100000 in
set_option maxHeartbeats 16000000 in
theorem refJoined_any (a1 b1 : Option Addr) (c1 d1 : Nat) (A B : List Prt) (w : World) (hA : IsPrts w a1 c1 A) (hB : IsPrts w b1 d1 B) (hA1 : ∀ p ∈ A, 0 ≤ p.loads ∧ p.loads ≤ 100000000) (hB1 : ∀ p ∈ B, 1 ≤ p.loads ∧ p.loads ≤ 100000) (hAl : A.length ≤ 100000) (hBl : B.length ≤ 100000) :
    Calls Tryz.prog 48 #[.slice a1 A.length c1, .slice b1 B.length d1] w fun e w' => (∃ a c, e = .returned (.slice a (putL A B).length c) ∧ NewP w w' a c (putL A B)) ∧ Below w.heap.size w w' := by
  obtain ⟨i0, hi, hz0, hz1, hz2⟩ := info_parts info_portion
  have HA := Lib.hid hA
  have HB := Lib.hid hB
  have HA1 := Lib.hid hA1
  have HB1 := Lib.hid hB1
  have HAL := Lib.hid hAl
  have HBL := Lib.hid hBl
  have HSR := Lib.hid (prts_src hA)
  clear hA hB hA1 hB1 hAl hBl
  go_enter Tryz.func48, Tryz.ntmps48
  go_upto_region 2 with (at_builtin; refine wpList_append_fresh rfl _ _ 27 rfl 79 i0 (.agg #[.int .i64 0, .int .i64 0]) 2 16 Tryz.underlying27 hi hz0 hz1 hz2 rfl (by decide) rfl a1 A.length c1 (A.flatMap cellsPrt) rfl HSR.out.2.2.2 HSR.out.1 HSR.out.2.1 HSR.out.2.2.1 (by have := HAL.out; unfold maxLen; omega) (by have := HAL.out; omega) ?_; intro a0 c0 w1 ho1 hb1; have HO1 := Lib.hid ho1; have HBJ1 := Lib.hid hb1; clear ho1 hb1)
  go_wp2_with fail
  go_loopw [5, 6] (fun s5 s6 wr => ∃ (j : Nat) (O : List Prt) (a : Option Addr) (c : Nat), j ≤ B.length ∧ O = putL A (B.take j) ∧ s6 = .int .i64 j ∧ s5 = .slice a O.length c ∧ wr.ownsRow w.heap.size 79 2 (.slice a O.length c) O.length (O.flatMap cellsPrt) ∧ (∀ q ∈ O, 0 ≤ q.loads ∧ q.loads ≤ 100000000 + 100000 * j) ∧ O.length ≤ A.length + j ∧ Below w.heap.size w wr) (fun _ i _ => B.length - (intOf i).toNat)
  case atStart => exact ⟨0, A, a0, c0, Nat.zero_le _, by simp [putL], rfl, rfl, HO1.out, fun q hq => by have := HA1.out q hq; omega, by omega, HBJ1.out⟩
  case round =>
  obtain ⟨j, O, a, c, hj, hO, rfl, rfl, hown, hbd, hlen, hb⟩ := hrel
  obtain ⟨w2, rfl⟩ : ∃ w2 : World, w2 = wr := ⟨_, rfl⟩
  have HB2 := Lib.hid hb
  have HOW := Lib.hid hown
  have HO := Lib.hid hO
  have HBD := Lib.hid hbd
  have HLN := Lib.hid hlen
  have HBL' := HBL.out
  have HAL' := HAL.out
  clear hb hown hO hbd hlen
  by_cases hlj : j < B.length
  rotate_left
  · obtain rfl : j = B.length := by omega
    have hlj' : ¬ (B.length : Int) < (B.length : Int) := by omega
    clear hlj hj
    go_wp2_with fail
    have hE : O = putL A B := by rw [HO.out, List.take_of_length_le (Nat.le_refl _)]
    subst hE
    exact bodyPost_ret (v := .slice a (putL A B).length c) (by simp [results, Tryz.results48, go_sem]) rfl ⟨⟨a, c, rfl, isPrts_own HOW.out, fun k hk => own_geq HOW.out hk⟩, HB2.out⟩
  have hlj' : (j : Int) < (B.length : Int) := by omega
  have hj0 : (0 : Int) ≤ (j : Int) := Int.natCast_nonneg _
  have hjs : IntKind.i64.wrap ((j : Int) + 1) = ((j + 1 : Nat) : Int) := by rw [IntKind.wrap_i64]; omega
  have hq : B[j]? = some B[j] := List.getElem?_eq_getElem hlj
  have HP1 := Lib.hid (HB1.out _ (List.getElem_mem hlj))
  have HST := Lib.hid (show putL A (B.take (j + 1)) = pushL (putL A (B.take j)) B[j] by rw [List.take_add_one, hq]; exact putL_snoc _ _ _)
  obtain ⟨pb, po, hea, hpbl, hcap, hcx, x0, x1⟩ := (HB.out.belowS HB2.out).at hq
  generalize B[j] = p at *
  obtain ⟨pl, ld⟩ := p
  dsimp only at x0 x1
  have HJ := Lib.hid hlj
  have HPL := Lib.hid (show 1 ≤ ld ∧ ld ≤ 100000 from HP1.out)
  have hld : (0 : Int) < ld := by have := HPL.out; omega
  have HPBW := Lib.hid (show pb < w.heap.size by obtain ⟨b', off', e, h, _⟩ := HB.out.at hq; rw [hea] at e; injection e with e; injection e with e1 e2; omega)
  subst hea
  clear hq hlj hj
  have HPUT := Lib.hid (show putL A (B.take (j + 1)) = pushL O ⟨pl, ld⟩ by rw [HST.out, HO.out])
  have HBD2 := Lib.hid (show ∀ q ∈ pushL O ⟨pl, ld⟩, 0 ≤ q.loads ∧ q.loads ≤ 100000000 + 100000 * ((j + 1 : Nat) : Int) from fun q hq => by
    have := push_bd (m := 100000000 + 100000 * (j : Int)) HBD.out HPL.out (by omega) q hq
    omega)
  rcases List.eq_nil_or_concat O with h0 | ⟨C, q1, hC⟩
  · subst h0
    have HPN := Lib.hid (show pushL [] ⟨pl, ld⟩ = [⟨pl, ld⟩] from rfl)
    have hmx : 0 + 1 ≤ maxLen := by unfold maxLen; omega
    go_wp2_with fail
    go_quiet (fail)
    generalize hw14 : w2.drewN _ = w14
    have hb14 : Below w2.heap.size w2 w14 := by rw [← hw14]; exact below_drewN' _ _ _
    clear hw14
    have HOW14 := Lib.hid (own_below HOW.out hb14)
    have HB14 := Lib.hid (HB2.out.trans (hb14.mono HB2.out.size))
    have x0 : w14.cell? ⟨pb, po + j * 2, none⟩ = some (.int .i64 pl) := (hb14.cell (p := ⟨pb, po + j * 2, none⟩) hpbl).trans x0
    have x1 : w14.cell? ⟨pb, po + j * 2 + 1, none⟩ = some (.int .i64 ld) := (hb14.cell (p := ⟨pb, po + j * 2 + 1, none⟩) hpbl).trans x1
    have hpbl : pb < w14.heap.size := Nat.lt_of_lt_of_le hpbl hb14.size
    have kE := Blk.new w14 79 #[.int .i64 pl, .int .i64 ld]
    have hs14 := HB14.out.size
    have HOA := Lib.hid (show w14.ownsRow w.heap.size 79 2 (.slice a 0 c) 0 [] from HOW14.out)
    go_wp2_with (at_builtin; refine wpList_append_lies _ rfl _ _ 27 rfl w.heap.size 79 i0 (.agg #[.int .i64 0, .int .i64 0]) 2 16 Tryz.underlying27 hi hz0 hz1 hz2 rfl (by decide) (.slice a 0 c) (0) [] rfl (HOA.out.alloc _) ⟨w14.heap.size, 0, none⟩ 1 1 [.int .i64 pl, .int .i64 ld] rfl rfl (World.news_of_block kE) (by simp [Value.oneCell']) (by decide) hmx (by omega) (by simp; omega) _ rfl ?_; intro g' cap' w15 hown15 hgrow hat hlt; have HO15 := Lib.hid hown15; have HGR := Lib.hid hgrow; clear hown15 hgrow hat hlt)
    refine ⟨⟨j + 1, [⟨pl, ld⟩], some ⟨g', 0, none⟩, cap', by have := HJ.out; omega, by rw [HPUT.out, HPN.out], rfl, ?_, ?_, fun q hq => HBD2.out q (by rw [HPN.out]; exact hq), ?_, ((HB14.out.alloc HB14.out.size _).grown HGR.out (by simp; omega) (fun k e => ?_))⟩, ?_⟩
    · rfl
    · exact HO15.out
    · simp; omega
    · rw [rowOf_own'] at e
      exact (own_geq HOW14.out e).1
    · have := HJ.out; simp [intOf]; omega
  rw [List.concat_eq_append] at hC
  have hl : O.length = C.length + 1 := by rw [hC]; simp
  have HQB := Lib.hid (HBD.out q1 (by rw [hC]; simp))
  rcases row_at cellsPrt 2 (fun _ => rfl) HOW.out with ⟨_, h0⟩ | ⟨g, cap, hv, hbg, hg, hcap', hcap2, key⟩
  · rw [h0] at hl; simp at hl
  obtain ⟨rfl, _, rfl⟩ := slice_inj hv
  have hqC : O[C.length]? = some q1 := by rw [hC]; simp
  have e0 : w2.cell? ⟨g, C.length * 2, none⟩ = some (.int .i64 q1.plot) := key C.length q1 hqC 0 (by omega)
  have e1 : w2.cell? ⟨g, C.length * 2 + 1, none⟩ = some (.int .i64 q1.loads) := key C.length q1 hqC 1 (by omega)
  have HCL := Lib.hid (show C.length + 1 ≤ 200000 by have := HLN.out; have := HJ.out; omega)
  have hCL := HCL.out
  have hsub : IntKind.i64.wrap (((C.length + 1 : Nat) : Int) - 1) = (C.length : Int) := by rw [IntKind.wrap_i64]; omega
  have hgt : decide ((0 : Int) < ((C.length + 1 : Nat) : Int)) = true := decide_eq_true (by omega)
  have hsub2 : IntKind.i64.wrap (C.length : Int) = (C.length : Int) := by rw [IntKind.wrap_i64]; omega
  have hsub3 : IntKind.i64.wrap ((C.length : Int) + 1 - 1) = (C.length : Int) := by rw [IntKind.wrap_i64]; omega
  have hCl2 : (C.length : Int) < (C.length : Int) + 1 := by omega
  have hC0 : (0 : Int) ≤ (C.length : Int) := by omega
  have hCl : (C.length : Int) < ((C.length + 1 : Nat) : Int) := by omega
  have HCC := Lib.hid hC
  have HL1 := Lib.hid hl
  rw [hl]
  rw [hl] at hcap'
  clear key hv hqC hC hl hCL
  by_cases hpq : q1.plot = pl
  · have hqq1 : (q1.plot == pl) = true := by simp [hpq]
    have HPUSH := Lib.hid (show pushL O ⟨pl, ld⟩ = C ++ [Prt.mk q1.plot (q1.loads + ld)] by rw [HCC.out]; exact pushL_same C q1 ⟨pl, ld⟩ hpq)
    clear hpq
    go_upto_region 5 with fail
    go_quiet (fail)
    generalize hw14 : w2.drewN _ = w14
    have hb14 : Below w2.heap.size w2 w14 := by rw [← hw14]; exact below_drewN' _ _ _
    clear hw14
    have HOW14 := Lib.hid (own_below HOW.out hb14)
    have HB14 := Lib.hid (HB2.out.trans (hb14.mono HB2.out.size))
    have x0 : w14.cell? ⟨pb, po + j * 2, none⟩ = some (.int .i64 pl) := (hb14.cell (p := ⟨pb, po + j * 2, none⟩) hpbl).trans x0
    have x1 : w14.cell? ⟨pb, po + j * 2 + 1, none⟩ = some (.int .i64 ld) := (hb14.cell (p := ⟨pb, po + j * 2 + 1, none⟩) hpbl).trans x1
    have hpbl : pb < w14.heap.size := Nat.lt_of_lt_of_le hpbl hb14.size
    have e1' : w14.cell? ⟨g, C.length * 2 + 1, none⟩ = some (.int .i64 q1.loads) := (hb14.cell (p := ⟨g, C.length * 2 + 1, none⟩) hg).trans e1
    have lg : g < w14.heap.size := Nat.lt_of_lt_of_le hg hb14.size
    have hwl : IntKind.i64.wrap (q1.loads + ld) = q1.loads + ld := by have := HQB.out; have := HPL.out; have := HJ.out; rw [IntKind.wrap_i64]; omega
    clear e0 e1 hb14
    go_upto_region 6 with fail
    go_still_tail 19, (by kernel_rfl)
    change wpList _ _ _ _ _ w14.drew
    have HOW15 := Lib.hid (own_below HOW14.out ((Below.refl _ w14).drew))
    have HB15 := Lib.hid (HB14.out.trans (((Below.refl w14.heap.size w14).drew).mono HB14.out.size))
    have e1'' : w14.drew.cell? ⟨g, C.length * 2 + 1, none⟩ = some (.int .i64 q1.loads) := (((Below.refl _ w14).drew).cell (p := ⟨g, C.length * 2 + 1, none⟩) lg).trans e1'
    have lg' : g < w14.drew.heap.size := lg
    clear e1' lg x0 x1 hpbl
    generalize w14.drew = w15 at *
    have hfz : w15.frozen? ⟨g, C.length * 2 + 1, none⟩ = false := by
      rcases HOW15.out.2 with ⟨e, _⟩ | ⟨g', cap', cur, e, _, hgg, _⟩
      · cases e
      · obtain ⟨e2, _, _⟩ := slice_inj e
        obtain rfl : g = g' := by injection e2 with e2; injection e2
        exact Blk.frozen (show Blk w15 g cur _ from hgg) _
    go_wp2_with fail
    have ht : Turn (fun k => k = g) w15 (w15.setCell ⟨g, C.length * 2 + 1, none⟩ (.int .i64 (q1.loads + ld))) := (Turn.of_below (X := fun k => k = g) (Below.refl _ w15)).setCell (B := g) rfl _ _
    have hl2 : (C ++ [Prt.mk q1.plot (q1.loads + ld)]).length = C.length + 1 := by simp
    refine ⟨⟨j + 1, C ++ [Prt.mk q1.plot (q1.loads + ld)], some ⟨g, 0, none⟩, c, by have := HJ.out; omega, by rw [HPUT.out, HPUSH.out], rfl, by rw [hl2], ?_, fun q hq => HBD2.out q (by rw [HPUSH.out]; exact hq), ?_, HB15.out.trans (ht.below HB15.out.size (fun k e => by rw [show k = g from e]; exact hbg))⟩, ?_⟩
    · have o := HOW15.out
      rw [HL1.out] at o
      rw [hl2, ← set_flat]
      rw [HCC.out] at o
      exact ownsRow_setOwn o (by omega) _
    · have := HLN.out; have := HL1.out; omega
    · have := HJ.out; simp [intOf]; omega
  · have hqq1 : (q1.plot == pl) = false := by simp [hpq]
    have HPUSH := Lib.hid (show pushL O ⟨pl, ld⟩ = O ++ [⟨pl, ld⟩] by rw [HCC.out]; exact pushL_other C q1 ⟨pl, ld⟩ hpq)
    have hmx : (C.length + 1) + 1 ≤ maxLen := by have := HCL.out; unfold maxLen; omega
    clear hpq
    go_upto_region 5 with fail
    go_quiet (fail)
    generalize hw14 : w2.drewN _ = w14
    have hb14 : Below w2.heap.size w2 w14 := by rw [← hw14]; exact below_drewN' _ _ _
    clear hw14
    have HOW14 := Lib.hid (own_below HOW.out hb14)
    have HB14 := Lib.hid (HB2.out.trans (hb14.mono HB2.out.size))
    have x0 : w14.cell? ⟨pb, po + j * 2, none⟩ = some (.int .i64 pl) := (hb14.cell (p := ⟨pb, po + j * 2, none⟩) hpbl).trans x0
    have x1 : w14.cell? ⟨pb, po + j * 2 + 1, none⟩ = some (.int .i64 ld) := (hb14.cell (p := ⟨pb, po + j * 2 + 1, none⟩) hpbl).trans x1
    have hpbl : pb < w14.heap.size := Nat.lt_of_lt_of_le hpbl hb14.size
    have HCL' := HCL.out
    clear e0 e1
    have kE := Blk.new w14 79 #[.int .i64 pl, .int .i64 ld]
    have hs14 := HB14.out.size
    have HOA := Lib.hid (show w14.ownsRow w.heap.size 79 2 (.slice (some ⟨g, 0, none⟩) (C.length + 1) c) (C.length + 1) (O.flatMap cellsPrt) by have := HOW14.out; rwa [HL1.out] at this)
    go_wp2_with (at_builtin; refine wpList_append_lies _ rfl _ _ 27 rfl w.heap.size 79 i0 (.agg #[.int .i64 0, .int .i64 0]) 2 16 Tryz.underlying27 hi hz0 hz1 hz2 rfl (by decide) (.slice (some ⟨g, 0, none⟩) (C.length + 1) c) (C.length + 1) (O.flatMap cellsPrt) rfl (HOA.out.alloc _) ⟨w14.heap.size, 0, none⟩ 1 1 [.int .i64 pl, .int .i64 ld] rfl rfl (World.news_of_block kE) (by simp [Value.oneCell']) (by decide) hmx (by omega) (by simp; omega) _ rfl ?_; intro g' cap' w15 hown15 hgrow hat hlt; have HO15 := Lib.hid hown15; have HGR := Lib.hid hgrow; clear hown15 hgrow hat hlt)
    refine ⟨⟨j + 1, O ++ [⟨pl, ld⟩], some ⟨g', 0, none⟩, cap', by have := HJ.out; omega, by rw [HPUT.out, HPUSH.out], rfl, ?_, ?_, fun q hq => HBD2.out q (by rw [HPUSH.out]; exact hq), ?_, ((HB14.out.alloc HB14.out.size _).grown HGR.out (by simp; omega) (fun k e => ?_))⟩, ?_⟩
    · rw [List.length_append, HL1.out]; rfl
    · have h := HO15.out
      rw [List.length_append, HL1.out]
      simpa [cellsPrt] using h
    · have := HLN.out; have := HL1.out; simp; omega
    · rw [rowOf_own'] at e
      exact (own_geq HOW14.out e).1
    · have := HJ.out; simp [intOf]; omega
end
end Go.Proofs.YtfhalmlpnoepcaaGreat
namespace Go.Proofs.YtfhalmlpnoepcaaGreat
section
set_option linter.unusedSimpArgs false
open Go.RowKit

theorem sameH_snoc {H l : List Hep} {j : Nat} {x y : Hep} (h : sameH H (l.take j)) (hx : l[j]? = some x) (hy : SameHep y x) : sameH (H ++ [y]) (l.take (j + 1)) := by
  rw [take_snoc' hx]
  exact h.append hy

set_option maxRecDepth 100000 in
set_option maxHeartbeats 16000000 in
theorem refTwinS_any (S : Sto) (w : World) (hS : IsStore w S) (hfit : S.fit) (hll : S.last.length ≤ 1000) (hgl : S.given.length ≤ 1000) :
    Calls Tryz.prog 24 #[.agg #[.int .i64 S.year, .slice S.la S.last.length S.lc, .slice S.ga S.given.length S.gc, .slice S.ha S.heaps.length S.hc, .slice S.ua S.used.length S.uc, .slice S.wa S.waste.length S.wc]] w fun e w' => (∃ T, e = .returned (stoV T) ∧ Rst w.heap.size w' T ∧ SameSto T S) ∧ Below w.heap.size w w' := by
  have k1 := ((Blk.new w 29 #[.int .i64 S.year, .slice S.la S.last.length S.lc, .slice S.ga S.given.length S.gc, .slice S.ha S.heaps.length S.hc, .slice S.ua S.used.length S.uc, .slice S.wa S.waste.length S.wc]).alloc (.cells #[.int .i64 0, .slice none 0 0, .slice none 0 0, .slice none 0 0, .slice none 0 0, .slice none 0 0] 29)).alloc (.cells #[.int .i64 S.year, .slice S.la S.last.length S.lc, .slice S.ga S.given.length S.gc, .slice S.ha S.heaps.length S.hc, .slice S.ua S.used.length S.uc, .slice S.wa S.waste.length S.wc] 29)
  have k2 := (Blk.new (w.alloc (.cells #[.int .i64 S.year, .slice S.la S.last.length S.lc, .slice S.ga S.given.length S.gc, .slice S.ha S.heaps.length S.hc, .slice S.ua S.used.length S.uc, .slice S.wa S.waste.length S.wc] 29)) 29 #[.int .i64 0, .slice none 0 0, .slice none 0 0, .slice none 0 0, .slice none 0 0, .slice none 0 0]).alloc (.cells #[.int .i64 S.year, .slice S.la S.last.length S.lc, .slice S.ga S.given.length S.gc, .slice S.ha S.heaps.length S.hc, .slice S.ua S.used.length S.uc, .slice S.wa S.waste.length S.wc] 29)
  have k3 := Blk.new ((w.alloc (.cells #[.int .i64 S.year, .slice S.la S.last.length S.lc, .slice S.ga S.given.length S.gc, .slice S.ha S.heaps.length S.hc, .slice S.ua S.used.length S.uc, .slice S.wa S.waste.length S.wc] 29)).alloc (.cells #[.int .i64 0, .slice none 0 0, .slice none 0 0, .slice none 0 0, .slice none 0 0, .slice none 0 0] 29)) 29 #[.int .i64 S.year, .slice S.la S.last.length S.lc, .slice S.ga S.given.length S.gc, .slice S.ha S.heaps.length S.hc, .slice S.ua S.used.length S.uc, .slice S.wa S.waste.length S.wc]
  rw [World.size_alloc] at k2
  rw [World.size_alloc, World.size_alloc] at k3
  have hb1 : Below w.heap.size w (((w.alloc (.cells #[.int .i64 S.year, .slice S.la S.last.length S.lc, .slice S.ga S.given.length S.gc, .slice S.ha S.heaps.length S.hc, .slice S.ua S.used.length S.uc, .slice S.wa S.waste.length S.wc] 29)).alloc (.cells #[.int .i64 0, .slice none 0 0, .slice none 0 0, .slice none 0 0, .slice none 0 0, .slice none 0 0] 29)).alloc (.cells #[.int .i64 S.year, .slice S.la S.last.length S.lc, .slice S.ga S.given.length S.gc, .slice S.ha S.heaps.length S.hc, .slice S.ua S.used.length S.uc, .slice S.wa S.waste.length S.wc] 29)) := (((Below.refl _ w).alloc (Nat.le_refl _) _).alloc (by simp) _).alloc (by simp; omega) _
  have HS := Lib.hid hS
  have HLN := Lib.hid (show S.last.length ≤ 1000 ∧ S.given.length ≤ 1000 ∧ S.used.length ≤ 1000 ∧ S.waste.length ≤ 1000 ∧ S.heaps.length ≤ 1000 from ⟨hll, hgl, hfit.used, hfit.waste, hfit.heaps⟩)
  have HPL := Lib.hid hfit.parts
  obtain ⟨i1, n0, n1, n2, n3⟩ := info_parts info_int'
  obtain ⟨i2, p0, p1, p2, p3⟩ := info_parts info_portion
  obtain ⟨i3, q0, q1, q2, q3⟩ := info_parts info_heap
  clear hS hfit hll hgl
  go_enter Tryz.func24, Tryz.ntmps24
  go_upto_region 2 with fail
  generalize (((w.alloc (.cells #[.int .i64 S.year, .slice S.la S.last.length S.lc, .slice S.ga S.given.length S.gc, .slice S.ha S.heaps.length S.hc, .slice S.ua S.used.length S.uc, .slice S.wa S.waste.length S.wc] 29)).alloc (.cells #[.int .i64 0, .slice none 0 0, .slice none 0 0, .slice none 0 0, .slice none 0 0, .slice none 0 0] 29)).alloc (.cells #[.int .i64 S.year, .slice S.la S.last.length S.lc, .slice S.ga S.given.length S.gc, .slice S.ha S.heaps.length S.hc, .slice S.ua S.used.length S.uc, .slice S.wa S.waste.length S.wc] 29)) = w1 at *
  have HB1 := Lib.hid hb1
  have K11 := Lib.hid k1
  have K21 := Lib.hid k2
  have K31 := Lib.hid k3
  have HSZ := Lib.hid (show w.heap.size + 1 + 1 < w1.heap.size from k3.lt)
  have K11b := Lib.hid k1
  have K21b := Lib.hid k2
  have HT1 := Lib.hid (show Turn (fun k => k = w.heap.size + 1 + 1) w1 w1 from Turn.of_below (Below.refl _ w1))
  clear k1 k2 k3 hb1
  have HN := Lib.hid (HS.out.below HB1.out)
  have HSR := Lib.hid (nums_src HN.out.last)
  obtain ⟨d0, d1, d2, d3, d4, d5⟩ := sto_cells (S := S) K11.out
  have dl := K11.out.lt
  obtain ⟨o0, o1, o2, o3, o4, o5⟩ := sto_cells (S := S) K31.out
  have ol := K31.out.lt
  go_upto_region 3 with (at_builtin; refine wpList_append_fresh rfl _ _ 25 rfl 3 i1 (.int .i64 0) 1 8 Tryz.underlying25 n0 n1 n2 n3 rfl (by decide) rfl S.la S.last.length S.lc (S.last.flatMap cellsI) rfl HSR.out.2.2.2 HSR.out.1 HSR.out.2.1 HSR.out.2.2.1 (by have := HLN.out; unfold maxLen; omega) (by have := HLN.out; omega) ?_; intro la lc v0 ho hbj; have KJ := Lib.hid (K31.out.belowS hbj); have zc := KJ.out.cell 1; have zf := KJ.out.frozen 1; have zl := KJ.out.lt; have HO0 := Lib.hid ho; have HBJ := Lib.hid hbj; clear ho hbj)
  have kf : Blk (v0.setCell ⟨w.heap.size + 1 + 1, 1, none⟩ (.slice la S.last.length lc)) (w.heap.size + 1 + 1) #[.int .i64 S.year, .slice la S.last.length lc, .slice S.ga S.given.length S.gc, .slice S.ha S.heaps.length S.hc, .slice S.ua S.used.length S.uc, .slice S.wa S.waste.length S.wc] 29 := KJ.out.set 1 _
  have ht : Turn (fun k => k = w.heap.size + 1 + 1) v0 (v0.setCell ⟨w.heap.size + 1 + 1, 1, none⟩ (.slice la S.last.length lc)) := (Turn.of_below (X := fun k => k = w.heap.size + 1 + 1) (Below.refl _ v0)).setCell (B := w.heap.size + 1 + 1) rfl 1 _
  generalize v0.setCell ⟨w.heap.size + 1 + 1, 1, none⟩ (.slice la S.last.length lc) = w3 at *
  have K33 := Lib.hid kf
  have K13 := Lib.hid (ht.blk (K11.out.belowS HBJ.out) (fun e => by have := (show w.heap.size = w.heap.size + 1 + 1 from e); omega))
  have K23 := Lib.hid (ht.blk (K21.out.belowS HBJ.out) (fun e => by have := (show w.heap.size + 1 = w.heap.size + 1 + 1 from e); omega))
  have HT3 := Lib.hid ((HT1.out.trans (Turn.of_below HBJ.out)).trans ht)
  have HX0 := Lib.hid ht
  have HY0 := Lib.hid HBJ.out
  have HB3 := Lib.hid (HB1.out.trans (HT3.out.below HB1.out.size (fun k e => by rw [show k = w.heap.size + 1 + 1 from e]; omega)))
  clear d0 d1 d2 d3 d4 d5 dl o0 o1 o2 o3 o4 o5 ol zc zf zl kf ht HN HSR HBJ KJ K11 K21 K31
  have HN := Lib.hid (HS.out.below HB3.out)
  have HSR := Lib.hid (nums_src HN.out.given)
  obtain ⟨d0, d1, d2, d3, d4, d5⟩ := sto_cells (S := S) K13.out
  have dl := K13.out.lt
  obtain ⟨o0, o1, o2, o3, o4, o5⟩ := (show w3.cell? ⟨w.heap.size + 1 + 1, 0, none⟩ = some (.int .i64 S.year) ∧ w3.cell? ⟨w.heap.size + 1 + 1, 1, none⟩ = some (.slice la S.last.length lc) ∧ w3.cell? ⟨w.heap.size + 1 + 1, 2, none⟩ = some (.slice S.ga S.given.length S.gc) ∧ w3.cell? ⟨w.heap.size + 1 + 1, 3, none⟩ = some (.slice S.ha S.heaps.length S.hc) ∧ w3.cell? ⟨w.heap.size + 1 + 1, 4, none⟩ = some (.slice S.ua S.used.length S.uc) ∧ w3.cell? ⟨w.heap.size + 1 + 1, 5, none⟩ = some (.slice S.wa S.waste.length S.wc) from ⟨K33.out.cell 0, K33.out.cell 1, K33.out.cell 2, K33.out.cell 3, K33.out.cell 4, K33.out.cell 5⟩)
  have ol := K33.out.lt
  go_upto_region 4 with (at_builtin; refine wpList_append_fresh rfl _ _ 25 rfl 3 i1 (.int .i64 0) 1 8 Tryz.underlying25 n0 n1 n2 n3 rfl (by decide) rfl S.ga S.given.length S.gc (S.given.flatMap cellsI) rfl HSR.out.2.2.2 HSR.out.1 HSR.out.2.1 HSR.out.2.2.1 (by have := HLN.out; unfold maxLen; omega) (by have := HLN.out; omega) ?_; intro ga gc v1 ho hbj; have KJ := Lib.hid (K33.out.belowS hbj); have zc := KJ.out.cell 2; have zf := KJ.out.frozen 2; have zl := KJ.out.lt; have HO1 := Lib.hid ho; have HBJ := Lib.hid hbj; clear ho hbj)
  have kf : Blk (v1.setCell ⟨w.heap.size + 1 + 1, 2, none⟩ (.slice ga S.given.length gc)) (w.heap.size + 1 + 1) #[.int .i64 S.year, .slice la S.last.length lc, .slice ga S.given.length gc, .slice S.ha S.heaps.length S.hc, .slice S.ua S.used.length S.uc, .slice S.wa S.waste.length S.wc] 29 := KJ.out.set 2 _
  have ht : Turn (fun k => k = w.heap.size + 1 + 1) v1 (v1.setCell ⟨w.heap.size + 1 + 1, 2, none⟩ (.slice ga S.given.length gc)) := (Turn.of_below (X := fun k => k = w.heap.size + 1 + 1) (Below.refl _ v1)).setCell (B := w.heap.size + 1 + 1) rfl 2 _
  generalize v1.setCell ⟨w.heap.size + 1 + 1, 2, none⟩ (.slice ga S.given.length gc) = w5 at *
  have K35 := Lib.hid kf
  have K15 := Lib.hid (ht.blk (K13.out.belowS HBJ.out) (fun e => by have := (show w.heap.size = w.heap.size + 1 + 1 from e); omega))
  have K25 := Lib.hid (ht.blk (K23.out.belowS HBJ.out) (fun e => by have := (show w.heap.size + 1 = w.heap.size + 1 + 1 from e); omega))
  have HT5 := Lib.hid ((HT3.out.trans (Turn.of_below HBJ.out)).trans ht)
  have HX1 := Lib.hid ht
  have HY1 := Lib.hid HBJ.out
  have HB5 := Lib.hid (HB1.out.trans (HT5.out.below HB1.out.size (fun k e => by rw [show k = w.heap.size + 1 + 1 from e]; omega)))
  clear d0 d1 d2 d3 d4 d5 dl o0 o1 o2 o3 o4 o5 ol zc zf zl kf ht HN HSR HBJ KJ K13 K23 K33
  have HN := Lib.hid (HS.out.below HB5.out)
  have HSR := Lib.hid (prts_src HN.out.used)
  obtain ⟨d0, d1, d2, d3, d4, d5⟩ := sto_cells (S := S) K15.out
  have dl := K15.out.lt
  obtain ⟨o0, o1, o2, o3, o4, o5⟩ := (show w5.cell? ⟨w.heap.size + 1 + 1, 0, none⟩ = some (.int .i64 S.year) ∧ w5.cell? ⟨w.heap.size + 1 + 1, 1, none⟩ = some (.slice la S.last.length lc) ∧ w5.cell? ⟨w.heap.size + 1 + 1, 2, none⟩ = some (.slice ga S.given.length gc) ∧ w5.cell? ⟨w.heap.size + 1 + 1, 3, none⟩ = some (.slice S.ha S.heaps.length S.hc) ∧ w5.cell? ⟨w.heap.size + 1 + 1, 4, none⟩ = some (.slice S.ua S.used.length S.uc) ∧ w5.cell? ⟨w.heap.size + 1 + 1, 5, none⟩ = some (.slice S.wa S.waste.length S.wc) from ⟨K35.out.cell 0, K35.out.cell 1, K35.out.cell 2, K35.out.cell 3, K35.out.cell 4, K35.out.cell 5⟩)
  have ol := K35.out.lt
  go_upto_region 5 with (at_builtin; refine wpList_append_fresh rfl _ _ 27 rfl 79 i2 (.agg #[.int .i64 0, .int .i64 0]) 2 16 Tryz.underlying27 p0 p1 p2 p3 rfl (by decide) rfl S.ua S.used.length S.uc (S.used.flatMap cellsPrt) rfl HSR.out.2.2.2 HSR.out.1 HSR.out.2.1 HSR.out.2.2.1 (by have := HLN.out; unfold maxLen; omega) (by have := HLN.out; omega) ?_; intro ua uc v2 ho hbj; have KJ := Lib.hid (K35.out.belowS hbj); have zc := KJ.out.cell 4; have zf := KJ.out.frozen 4; have zl := KJ.out.lt; have HO2 := Lib.hid ho; have HBJ := Lib.hid hbj; clear ho hbj)
  have kf : Blk (v2.setCell ⟨w.heap.size + 1 + 1, 4, none⟩ (.slice ua S.used.length uc)) (w.heap.size + 1 + 1) #[.int .i64 S.year, .slice la S.last.length lc, .slice ga S.given.length gc, .slice S.ha S.heaps.length S.hc, .slice ua S.used.length uc, .slice S.wa S.waste.length S.wc] 29 := KJ.out.set 4 _
  have ht : Turn (fun k => k = w.heap.size + 1 + 1) v2 (v2.setCell ⟨w.heap.size + 1 + 1, 4, none⟩ (.slice ua S.used.length uc)) := (Turn.of_below (X := fun k => k = w.heap.size + 1 + 1) (Below.refl _ v2)).setCell (B := w.heap.size + 1 + 1) rfl 4 _
  generalize v2.setCell ⟨w.heap.size + 1 + 1, 4, none⟩ (.slice ua S.used.length uc) = w7 at *
  have K37 := Lib.hid kf
  have K17 := Lib.hid (ht.blk (K15.out.belowS HBJ.out) (fun e => by have := (show w.heap.size = w.heap.size + 1 + 1 from e); omega))
  have K27 := Lib.hid (ht.blk (K25.out.belowS HBJ.out) (fun e => by have := (show w.heap.size + 1 = w.heap.size + 1 + 1 from e); omega))
  have HT7 := Lib.hid ((HT5.out.trans (Turn.of_below HBJ.out)).trans ht)
  have HX2 := Lib.hid ht
  have HY2 := Lib.hid HBJ.out
  have HB7 := Lib.hid (HB1.out.trans (HT7.out.below HB1.out.size (fun k e => by rw [show k = w.heap.size + 1 + 1 from e]; omega)))
  clear d0 d1 d2 d3 d4 d5 dl o0 o1 o2 o3 o4 o5 ol zc zf zl kf ht HN HSR HBJ KJ K15 K25 K35
  have HN := Lib.hid (HS.out.below HB7.out)
  have HSR := Lib.hid (prts_src HN.out.waste)
  obtain ⟨d0, d1, d2, d3, d4, d5⟩ := sto_cells (S := S) K17.out
  have dl := K17.out.lt
  obtain ⟨o0, o1, o2, o3, o4, o5⟩ := (show w7.cell? ⟨w.heap.size + 1 + 1, 0, none⟩ = some (.int .i64 S.year) ∧ w7.cell? ⟨w.heap.size + 1 + 1, 1, none⟩ = some (.slice la S.last.length lc) ∧ w7.cell? ⟨w.heap.size + 1 + 1, 2, none⟩ = some (.slice ga S.given.length gc) ∧ w7.cell? ⟨w.heap.size + 1 + 1, 3, none⟩ = some (.slice S.ha S.heaps.length S.hc) ∧ w7.cell? ⟨w.heap.size + 1 + 1, 4, none⟩ = some (.slice ua S.used.length uc) ∧ w7.cell? ⟨w.heap.size + 1 + 1, 5, none⟩ = some (.slice S.wa S.waste.length S.wc) from ⟨K37.out.cell 0, K37.out.cell 1, K37.out.cell 2, K37.out.cell 3, K37.out.cell 4, K37.out.cell 5⟩)
  have ol := K37.out.lt
  go_upto_region 6 with (at_builtin; refine wpList_append_fresh rfl _ _ 27 rfl 79 i2 (.agg #[.int .i64 0, .int .i64 0]) 2 16 Tryz.underlying27 p0 p1 p2 p3 rfl (by decide) rfl S.wa S.waste.length S.wc (S.waste.flatMap cellsPrt) rfl HSR.out.2.2.2 HSR.out.1 HSR.out.2.1 HSR.out.2.2.1 (by have := HLN.out; unfold maxLen; omega) (by have := HLN.out; omega) ?_; intro wa wc v3 ho hbj; have KJ := Lib.hid (K37.out.belowS hbj); have zc := KJ.out.cell 5; have zf := KJ.out.frozen 5; have zl := KJ.out.lt; have HO3 := Lib.hid ho; have HBJ := Lib.hid hbj; clear ho hbj)
  have kf : Blk (v3.setCell ⟨w.heap.size + 1 + 1, 5, none⟩ (.slice wa S.waste.length wc)) (w.heap.size + 1 + 1) #[.int .i64 S.year, .slice la S.last.length lc, .slice ga S.given.length gc, .slice S.ha S.heaps.length S.hc, .slice ua S.used.length uc, .slice wa S.waste.length wc] 29 := KJ.out.set 5 _
  have ht : Turn (fun k => k = w.heap.size + 1 + 1) v3 (v3.setCell ⟨w.heap.size + 1 + 1, 5, none⟩ (.slice wa S.waste.length wc)) := (Turn.of_below (X := fun k => k = w.heap.size + 1 + 1) (Below.refl _ v3)).setCell (B := w.heap.size + 1 + 1) rfl 5 _
  generalize v3.setCell ⟨w.heap.size + 1 + 1, 5, none⟩ (.slice wa S.waste.length wc) = w9 at *
  have K39 := Lib.hid kf
  have K19 := Lib.hid (ht.blk (K17.out.belowS HBJ.out) (fun e => by have := (show w.heap.size = w.heap.size + 1 + 1 from e); omega))
  have K29 := Lib.hid (ht.blk (K27.out.belowS HBJ.out) (fun e => by have := (show w.heap.size + 1 = w.heap.size + 1 + 1 from e); omega))
  have HT9 := Lib.hid ((HT7.out.trans (Turn.of_below HBJ.out)).trans ht)
  have HX3 := Lib.hid ht
  have HY3 := Lib.hid HBJ.out
  have HB9 := Lib.hid (HB1.out.trans (HT9.out.below HB1.out.size (fun k e => by rw [show k = w.heap.size + 1 + 1 from e]; omega)))
  clear d0 d1 d2 d3 d4 d5 dl o0 o1 o2 o3 o4 o5 ol zc zf zl kf ht HN HSR HBJ KJ K17 K27 K37
  obtain ⟨o0, o1, o2, o3, o4, o5⟩ := (show w9.cell? ⟨w.heap.size + 1 + 1, 0, none⟩ = some (.int .i64 S.year) ∧ w9.cell? ⟨w.heap.size + 1 + 1, 1, none⟩ = some (.slice la S.last.length lc) ∧ w9.cell? ⟨w.heap.size + 1 + 1, 2, none⟩ = some (.slice ga S.given.length gc) ∧ w9.cell? ⟨w.heap.size + 1 + 1, 3, none⟩ = some (.slice S.ha S.heaps.length S.hc) ∧ w9.cell? ⟨w.heap.size + 1 + 1, 4, none⟩ = some (.slice ua S.used.length uc) ∧ w9.cell? ⟨w.heap.size + 1 + 1, 5, none⟩ = some (.slice wa S.waste.length wc) from ⟨K39.out.cell 0, K39.out.cell 1, K39.out.cell 2, K39.out.cell 3, K39.out.cell 4, K39.out.cell 5⟩)
  have ol := K39.out.lt
  have oz3 := K39.out.frozen 3
  go_upto_region 7 with fail
  have kf : Blk (w9.setCell ⟨w.heap.size + 1 + 1, 3, none⟩ (.slice none 0 0)) (w.heap.size + 1 + 1) #[.int .i64 S.year, .slice la S.last.length lc, .slice ga S.given.length gc, .slice none 0 0, .slice ua S.used.length uc, .slice wa S.waste.length wc] 29 := K39.out.set 3 _
  have ht : Turn (fun k => k = w.heap.size + 1 + 1) w9 (w9.setCell ⟨w.heap.size + 1 + 1, 3, none⟩ (.slice none 0 0)) := (Turn.of_below (X := fun k => k = w.heap.size + 1 + 1) (Below.refl _ w9)).setCell (B := w.heap.size + 1 + 1) rfl 3 _
  generalize w9.setCell ⟨w.heap.size + 1 + 1, 3, none⟩ (.slice none 0 0) = wa0 at *
  have K3a := Lib.hid kf
  have K1a := Lib.hid (ht.blk K19.out (fun e => by have := (show w.heap.size = w.heap.size + 1 + 1 from e); omega))
  have K2a := Lib.hid (ht.blk K29.out (fun e => by have := (show w.heap.size + 1 = w.heap.size + 1 + 1 from e); omega))
  have HTa := Lib.hid (HT9.out.trans ht)
  -- the store without heaps
  have hRa : Rst w1.heap.size wa0 { S with la := la, lc := lc, ga := ga, gc := gc, ha := none, hc := 0, heaps := [], ua := ua, uc := uc, wa := wa, wc := wc } := by
    have s1 := HY0.out.size
    have s1' := HX0.out.size
    have s2 := HY1.out.size
    have s2' := HX1.out.size
    have s3 := HY2.out.size
    have s3' := HX2.out.size
    have s4 := HY3.out.size
    have s4' := HX3.out.size
    have s5 := ht.size
    have sz := HSZ.out
    have T0 : Turn (fun k => k = w.heap.size + 1 + 1) v0 wa0 := (((((HX0.out.trans (Turn.of_below HY1.out)).trans HX1.out).trans (Turn.of_below HY2.out)).trans HX2.out).trans (Turn.of_below HY3.out)).trans (HX3.out.trans ht)
    have T1 : Turn (fun k => k = w.heap.size + 1 + 1) v1 wa0 := (((HX1.out.trans (Turn.of_below HY2.out)).trans HX2.out).trans (Turn.of_below HY3.out)).trans (HX3.out.trans ht)
    have T2 : Turn (fun k => k = w.heap.size + 1 + 1) v2 wa0 := (HX2.out.trans (Turn.of_below HY3.out)).trans (HX3.out.trans ht)
    have T3 : Turn (fun k => k = w.heap.size + 1 + 1) v3 wa0 := HX3.out.trans ht
    have R0 : ∀ k, la.map (·.block) = some k → w1.heap.size ≤ k ∧ k < v0.heap.size := fun k e => own_geq HO0.out e
    have R1 : ∀ k, ga.map (·.block) = some k → w3.heap.size ≤ k ∧ k < v1.heap.size := fun k e => own_geq HO1.out e
    have R2 : ∀ k, ua.map (·.block) = some k → w5.heap.size ≤ k ∧ k < v2.heap.size := fun k e => own_geq HO2.out e
    have R3 : ∀ k, wa.map (·.block) = some k → w7.heap.size ≤ k ∧ k < v3.heap.size := fun k e => own_geq HO3.out e
    have z0 := T0.size
    have z1 := T1.size
    have z2 := T2.size
    have z3 := T3.size
    refine ⟨(T0.row HO0.out fun k e e2 => ?_), (T1.row HO1.out fun k e e2 => ?_).mono (by omega), World.ownsRow_nil _ _ _ _, fun h hh => (by cases hh), ⟨isPrts_own (T2.row HO2.out fun k e e2 => ?_), fun k e => ?_⟩, ⟨isPrts_own (T3.row HO3.out fun k e e2 => ?_), fun k e => ?_⟩, fun k e e2 => ?_, fun k e e2 => (by cases e2), fun k e e2 => (by cases e2)⟩
    · have := R0 k e2; have := (show k = w.heap.size + 1 + 1 from e); omega
    · have := R1 k e2; have := (show k = w.heap.size + 1 + 1 from e); omega
    · have := R2 k e2; have := (show k = w.heap.size + 1 + 1 from e); omega
    · have r := R2 k e
      exact ⟨⟨by omega, by omega⟩, fun e2 => (by have := R0 k e2; omega), fun e2 => (by have := R1 k e2; omega), fun e2 => (by cases e2)⟩
    · have := R3 k e2; have := (show k = w.heap.size + 1 + 1 from e); omega
    · have r := R3 k e
      exact ⟨⟨by omega, by omega⟩, fun e2 => (by have := R0 k e2; omega), fun e2 => (by have := R1 k e2; omega), fun e2 => (by cases e2)⟩
    · have := R0 k e; have := R1 k e2; omega
  have HRA := Lib.hid hRa
  clear o0 o1 o2 o3 o4 o5 ol oz3 kf ht hRa K19 K29 K39
  go_wp2_with fail
  go_loopw [4, 5] (fun s4 s5 wr => ∃ (j : Nat) (H : List Hep) (a : Option Addr) (c : Nat), j ≤ S.heaps.length ∧ s4 = .int .i64 j ∧ H.length = j ∧ sameH H (S.heaps.take j) ∧ Rst w1.heap.size wr { S with la := la, lc := lc, ga := ga, gc := gc, ha := a, hc := c, heaps := H, ua := ua, uc := uc, wa := wa, wc := wc } ∧ Blk wr (w.heap.size + 1 + 1) #[.int .i64 S.year, .slice la S.last.length lc, .slice ga S.given.length gc, .slice a H.length c, .slice ua S.used.length uc, .slice wa S.waste.length wc] 29 ∧ Turn (fun k => k = w.heap.size + 1 + 1) w1 wr) (fun i _ _ => S.heaps.length - (intOf i).toNat)
  case atStart => exact ⟨0, [], none, 0, Nat.zero_le _, rfl, rfl, by rw [List.take_zero]; exact sameH.refl [], HRA.out, K3a.out, HTa.out⟩
  case round =>
  obtain ⟨j, H, a, c, hj, rfl, hHl, hsame, hR, hk, ht⟩ := hrel
  obtain ⟨w2, rfl⟩ : ∃ w2 : World, w2 = wr := ⟨_, rfl⟩
  have HT := Lib.hid ht
  have HR := Lib.hid hR
  have K32 := Lib.hid hk
  have HSM := Lib.hid hsame
  have HHL := Lib.hid hHl
  have K12 := Lib.hid (ht.blk K11b.out (fun e => by have := (show w.heap.size = w.heap.size + 1 + 1 from e); omega))
  have K22 := Lib.hid (ht.blk K21b.out (fun e => by have := (show w.heap.size + 1 = w.heap.size + 1 + 1 from e); omega))
  have HB2 := Lib.hid (HB1.out.trans (ht.below HB1.out.size (fun k e => by rw [show k = w.heap.size + 1 + 1 from e]; omega)))
  clear ht hR hk hsame hHl
  obtain ⟨d0, d1, d2, d3, d4, d5⟩ := sto_cells (S := S) K12.out
  have dl := K12.out.lt
  by_cases hlj : j < S.heaps.length
  rotate_left
  · obtain rfl : j = S.heaps.length := by omega
    have hlj' : ¬ (S.heaps.length : Int) < (S.heaps.length : Int) := by omega
    clear hlj hj
    obtain ⟨o0, o1, o2, o3, o4, o5⟩ := (show w2.cell? ⟨w.heap.size + 1 + 1, 0, none⟩ = some (.int .i64 S.year) ∧ w2.cell? ⟨w.heap.size + 1 + 1, 1, none⟩ = some (.slice la S.last.length lc) ∧ w2.cell? ⟨w.heap.size + 1 + 1, 2, none⟩ = some (.slice ga S.given.length gc) ∧ w2.cell? ⟨w.heap.size + 1 + 1, 3, none⟩ = some (.slice a H.length c) ∧ w2.cell? ⟨w.heap.size + 1 + 1, 4, none⟩ = some (.slice ua S.used.length uc) ∧ w2.cell? ⟨w.heap.size + 1 + 1, 5, none⟩ = some (.slice wa S.waste.length wc) from ⟨K32.out.cell 0, K32.out.cell 1, K32.out.cell 2, K32.out.cell 3, K32.out.cell 4, K32.out.cell 5⟩)
    have ol := K32.out.lt
    obtain ⟨r0, r1, r2, r3, r4, r5⟩ := zero_cells K22.out
    have rl := K22.out.lt
    have rz0 := K22.out.frozen 0
    have rz1 := K22.out.frozen 1
    have rz2 := K22.out.frozen 2
    have rz3 := K22.out.frozen 3
    have rz4 := K22.out.frozen 4
    have rz5 := K22.out.frozen 5
    go_wp2_with fail
    have kf : Blk ((((((w2.setCell ⟨w.heap.size + 1, 0, none⟩ (.int .i64 S.year)).setCell ⟨w.heap.size + 1, 1, none⟩ (.slice la S.last.length lc)).setCell ⟨w.heap.size + 1, 2, none⟩ (.slice ga S.given.length gc)).setCell ⟨w.heap.size + 1, 3, none⟩ (.slice a H.length c)).setCell ⟨w.heap.size + 1, 4, none⟩ (.slice ua S.used.length uc)).setCell ⟨w.heap.size + 1, 5, none⟩ (.slice wa S.waste.length wc)) (w.heap.size + 1) #[.int .i64 S.year, .slice la S.last.length lc, .slice ga S.given.length gc, .slice a H.length c, .slice ua S.used.length uc, .slice wa S.waste.length wc] 29 := ((((((K22.out.set 0 (.int .i64 S.year)).set 1 (.slice la S.last.length lc)).set 2 (.slice ga S.given.length gc)).set 3 (.slice a H.length c)).set 4 (.slice ua S.used.length uc)).set 5 (.slice wa S.waste.length wc))
    have ht : Turn (fun k => k = w.heap.size + 1) w2 ((((((w2.setCell ⟨w.heap.size + 1, 0, none⟩ (.int .i64 S.year)).setCell ⟨w.heap.size + 1, 1, none⟩ (.slice la S.last.length lc)).setCell ⟨w.heap.size + 1, 2, none⟩ (.slice ga S.given.length gc)).setCell ⟨w.heap.size + 1, 3, none⟩ (.slice a H.length c)).setCell ⟨w.heap.size + 1, 4, none⟩ (.slice ua S.used.length uc)).setCell ⟨w.heap.size + 1, 5, none⟩ (.slice wa S.waste.length wc)) := (((((((Turn.of_below (X := fun k => k = w.heap.size + 1) (Below.refl _ w2)).setCell (B := w.heap.size + 1) rfl 0 (.int .i64 S.year)).setCell (B := w.heap.size + 1) rfl 1 (.slice la S.last.length lc)).setCell (B := w.heap.size + 1) rfl 2 (.slice ga S.given.length gc)).setCell (B := w.heap.size + 1) rfl 3 (.slice a H.length c)).setCell (B := w.heap.size + 1) rfl 4 (.slice ua S.used.length uc)).setCell (B := w.heap.size + 1) rfl 5 (.slice wa S.waste.length wc))
    generalize ((((((w2.setCell ⟨w.heap.size + 1, 0, none⟩ (.int .i64 S.year)).setCell ⟨w.heap.size + 1, 1, none⟩ (.slice la S.last.length lc)).setCell ⟨w.heap.size + 1, 2, none⟩ (.slice ga S.given.length gc)).setCell ⟨w.heap.size + 1, 3, none⟩ (.slice a H.length c)).setCell ⟨w.heap.size + 1, 4, none⟩ (.slice ua S.used.length uc)).setCell ⟨w.heap.size + 1, 5, none⟩ (.slice wa S.waste.length wc)) = wf at *
    obtain ⟨g0, g1, g2, g3, g4, g5⟩ := (show wf.cell? ⟨w.heap.size + 1, 0, none⟩ = some (.int .i64 S.year) ∧ wf.cell? ⟨w.heap.size + 1, 1, none⟩ = some (.slice la S.last.length lc) ∧ wf.cell? ⟨w.heap.size + 1, 2, none⟩ = some (.slice ga S.given.length gc) ∧ wf.cell? ⟨w.heap.size + 1, 3, none⟩ = some (.slice a H.length c) ∧ wf.cell? ⟨w.heap.size + 1, 4, none⟩ = some (.slice ua S.used.length uc) ∧ wf.cell? ⟨w.heap.size + 1, 5, none⟩ = some (.slice wa S.waste.length wc) from ⟨kf.cell 0, kf.cell 1, kf.cell 2, kf.cell 3, kf.cell 4, kf.cell 5⟩)
    refine bodyPost_ret (v := .agg #[.int .i64 S.year, .slice la S.last.length lc, .slice ga S.given.length gc, .slice a H.length c, .slice ua S.used.length uc, .slice wa S.waste.length wc]) (by simp [results, Tryz.results24, go_sem, g0, g1, g2, g3, g4, g5]) rfl ⟨⟨{ S with la := la, lc := lc, ga := ga, gc := gc, ha := a, hc := c, heaps := H, ua := ua, uc := uc, wa := wa, wc := wc }, rfl, (HR.out.turnAt ht (HR.out.off (.inr (by have := HSZ.out; omega)))).mono (by have := HSZ.out; omega), rfl, rfl, rfl, rfl, rfl, HHL.out, ?_⟩, HB2.out.trans (ht.below HB2.out.size (fun k e => by rw [show k = w.heap.size + 1 from e]; omega))⟩
    have hs := HSM.out
    rw [List.take_of_length_le (Nat.le_refl _)] at hs
    exact hs.2
  have hlj' : (j : Int) < (S.heaps.length : Int) := by omega
  have hj0 : (0 : Int) ≤ (j : Int) := Int.natCast_nonneg _
  have hjs : IntKind.i64.wrap ((j : Int) + 1) = ((j + 1 : Nat) : Int) := by have := HLN.out; rw [IntKind.wrap_i64]; omega
  have hq : S.heaps[j]? = some S.heaps[j] := List.getElem?_eq_getElem hlj
  have HPLJ := Lib.hid (HPL.out _ (List.getElem_mem hlj))
  obtain ⟨b, off, hea, hbl, hcap, hcx, ⟨e0, e1, e2, e3, e4, e5, e6⟩, hpp, hnm⟩ := heps_at (HS.out.heaps.belowS HB2.out) hq
  generalize S.heaps[j] = h at *
  have HQ := Lib.hid hq
  have HLJ := Lib.hid hlj
  have HNM := Lib.hid hnm
  rw [hea] at d3
  have kM := Blk.new w2 53 #[.string h.name, .int .i64 h.crop, .int .i64 h.stage, .slice h.pa h.parts.length h.pc, .int .i64 h.per, .int .i64 h.wlo, .int .i64 h.whi]
  have hb8 : Below w2.heap.size w2 (w2.alloc (.cells #[.string h.name, .int .i64 h.crop, .int .i64 h.stage, .slice h.pa h.parts.length h.pc, .int .i64 h.per, .int .i64 h.wlo, .int .i64 h.whi] 53)) := (Below.refl _ w2).alloc (Nat.le_refl _) _
  have HPP := Lib.hid (hpp.belowS hb8)
  clear hq hlj hj hea hpp hnm
  go_upto_region 11 with fail
  clear d0 d1 d2 d3 d4 d5 dl e0 e1 e2 e3 e4 e5 e6 hbl hcap hcx
  have K18 := Lib.hid (K12.out.belowS hb8)
  have K28 := Lib.hid (K22.out.belowS hb8)
  have K38 := Lib.hid (K32.out.belowS hb8)
  have HR8 := Lib.hid (HR.out.below hb8)
  have HT8 := Lib.hid (HT.out.trans (Turn.of_below hb8))
  have HOFF := Lib.hid (HR.out.off (B := w2.heap.size) (.inl (Nat.le_refl _)))
  have HBG := Lib.hid (show w1.heap.size ≤ w2.heap.size from HT.out.size)
  have HSZ2 := Lib.hid hb8.size
  generalize w2.alloc (.cells #[.string h.name, .int .i64 h.crop, .int .i64 h.stage, .slice h.pa h.parts.length h.pc, .int .i64 h.per, .int .i64 h.wlo, .int .i64 h.whi] 53) = w8 at *
  obtain ⟨bm, hbm⟩ : ∃ bm, bm = w2.heap.size := ⟨_, rfl⟩
  rw [← hbm] at kM HOFF HBG ⊢
  have HBL2 := Lib.hid (show bm < w8.heap.size from kM.lt)
  clear hbm hb8 K12 K22 K32
  have KM8 := Lib.hid kM
  clear kM
  have HSR := Lib.hid (prts_src HPP.out)
  obtain ⟨m0, m1, m2, m3, m4, m5, m6⟩ := hepB_cells KM8.out
  have ml := KM8.out.lt
  go_upto_region 12 with (at_builtin; refine wpList_append_fresh rfl _ _ 27 rfl 79 i2 (.agg #[.int .i64 0, .int .i64 0]) 2 16 Tryz.underlying27 p0 p1 p2 p3 rfl (by decide) rfl h.pa h.parts.length h.pc (h.parts.flatMap cellsPrt) rfl HSR.out.2.2.2 HSR.out.1 HSR.out.2.1 HSR.out.2.2.1 (by have := HPLJ.out; unfold maxLen; omega) (by have := HPLJ.out; omega) ?_; intro pa pc w9 ho hbj; have KJ := Lib.hid (KM8.out.belowS hbj); have zc := KJ.out.cell 3; have zf := KJ.out.frozen 3; have zl := KJ.out.lt; have HOP := Lib.hid ho; have HBJ := Lib.hid hbj; clear ho hbj)
  have kf : Blk (w9.setCell ⟨bm, 3, none⟩ (.slice pa h.parts.length pc)) bm #[.string h.name, .int .i64 h.crop, .int .i64 h.stage, .slice pa h.parts.length pc, .int .i64 h.per, .int .i64 h.wlo, .int .i64 h.whi] 53 := KJ.out.set 3 _
  have ht : Turn (fun k => k = bm) w9 (w9.setCell ⟨bm, 3, none⟩ (.slice pa h.parts.length pc)) := (Turn.of_below (X := fun k => k = bm) (Below.refl _ w9)).setCell (B := bm) rfl 3 _
  generalize w9.setCell ⟨bm, 3, none⟩ (.slice pa h.parts.length pc) = w10 at *
  have KM10 := Lib.hid kf
  have HR10 := Lib.hid ((HR8.out.below HBJ.out).turnAt ht HOFF.out)
  have HT10 := Lib.hid ((HT8.out.trans (Turn.of_below HBJ.out)).far ht (fun i e => by rw [show i = bm from e]; exact HBG.out))
  have HC10 := Lib.hid (show Cool w1.heap.size w10 { S with la := la, lc := lc, ga := ga, gc := gc, ha := a, hc := c, heaps := H, ua := ua, uc := uc, wa := wa, wc := wc } pa from (HR8.out.cool (w' := w9) (by have := HSZ2.out; have := HBG.out; have := HBL2.out; omega) (fun k e => own_geq HOP.out e)).mono ht.size)
  have HP10 := Lib.hid (show IsPrts w10 pa pc h.parts from (isPrts_own HOP.out).turn ht (fun k e e2 => by have := (own_geq HOP.out e).1; have := HBL2.out; have := (show k = bm from e2); omega))
  have K110 := Lib.hid (ht.blk (K18.out.belowS HBJ.out) (fun e => by have := (show w.heap.size = bm from e); have := HBG.out; have := HSZ.out; omega))
  have K210 := Lib.hid (ht.blk (K28.out.belowS HBJ.out) (fun e => by have := (show w.heap.size + 1 = bm from e); have := HBG.out; have := HSZ.out; omega))
  have K310 := Lib.hid (ht.blk (K38.out.belowS HBJ.out) (fun e => by have := (show w.heap.size + 1 + 1 = bm from e); have := HBG.out; have := HSZ.out; omega))
  clear m0 m1 m2 m3 m4 m5 m6 ml zc zf zl kf ht HSR KJ KM8 K18 K28 K38 HR8 HT8
  obtain ⟨m0, m1, m2, m3, m4, m5, m6⟩ := (show w10.cell? ⟨bm, 0, none⟩ = some (.string h.name) ∧ w10.cell? ⟨bm, 1, none⟩ = some (.int .i64 h.crop) ∧ w10.cell? ⟨bm, 2, none⟩ = some (.int .i64 h.stage) ∧ w10.cell? ⟨bm, 3, none⟩ = some (.slice pa h.parts.length pc) ∧ w10.cell? ⟨bm, 4, none⟩ = some (.int .i64 h.per) ∧ w10.cell? ⟨bm, 5, none⟩ = some (.int .i64 h.wlo) ∧ w10.cell? ⟨bm, 6, none⟩ = some (.int .i64 h.whi) from ⟨KM10.out.cell 0, KM10.out.cell 1, KM10.out.cell 2, KM10.out.cell 3, KM10.out.cell 4, KM10.out.cell 5, KM10.out.cell 6⟩)
  have ml := KM10.out.lt
  have o3 : w10.cell? ⟨w.heap.size + 1 + 1, 3, none⟩ = some (.slice a H.length c) := K310.out.cell 3
  have lo3 := K310.out.lt
  have hbE : Below w10.heap.size w10 (w10.alloc (.cells #[.string h.name, .int .i64 h.crop, .int .i64 h.stage, .slice pa h.parts.length pc, .int .i64 h.per, .int .i64 h.wlo, .int .i64 h.whi] 53)) := (Below.refl _ w10).alloc (Nat.le_refl _) _
  have HBE := Lib.hid hbE
  have HOE := Lib.hid (own_below HR10.out.heaps hbE)
  have HNE := Lib.hid (show ∀ jj u, ([.string h.name, .int .i64 h.crop, .int .i64 h.stage, .slice pa h.parts.length pc, .int .i64 h.per, .int .i64 h.wlo, .int .i64 h.whi] : List Value)[jj]? = some u → (w10.alloc (.cells #[.string h.name, .int .i64 h.crop, .int .i64 h.stage, .slice pa h.parts.length pc, .int .i64 h.per, .int .i64 h.wlo, .int .i64 h.whi] 53)).cell? ((⟨w10.heap.size, 0, none⟩ : Addr).add jj) = some u from World.news_of_block (Blk.new w10 53 #[.string h.name, .int .i64 h.crop, .int .i64 h.stage, .slice pa h.parts.length pc, .int .i64 h.per, .int .i64 h.wlo, .int .i64 h.whi]))
  have HONE := Lib.hid (show ∀ u ∈ ([.string h.name, .int .i64 h.crop, .int .i64 h.stage, .slice pa h.parts.length pc, .int .i64 h.per, .int .i64 h.wlo, .int .i64 h.whi] : List Value), u.oneCell' = true by simp [Value.oneCell'])
  have HBS := Lib.hid (show w1.heap.size ≤ (w10.alloc (.cells #[.string h.name, .int .i64 h.crop, .int .i64 h.stage, .slice pa h.parts.length pc, .int .i64 h.per, .int .i64 h.wlo, .int .i64 h.whi] 53)).heap.size from Nat.le_trans HT10.out.size hbE.size)
  clear hbE
  have HHLEN := Lib.hid (show H.length ≤ 1000 by have := HHL.out; have := HLJ.out; have := HLN.out; omega)
  go_upto_region 9 with (at_builtin; refine wpList_append_lies _ rfl _ _ 26 rfl w1.heap.size 53 i3 (.agg #[.string ⟨#[]⟩, .int .i64 0, .int .i64 0, .slice none 0 0, .int .i64 0, .int .i64 0, .int .i64 0]) 7 80 Tryz.underlying26 q0 q1 q2 q3 rfl (by decide) (.slice a H.length c) H.length (H.flatMap cellsHep) rfl HOE.out ⟨w10.heap.size, 0, none⟩ 1 1 [.string h.name, .int .i64 h.crop, .int .i64 h.stage, .slice pa h.parts.length pc, .int .i64 h.per, .int .i64 h.wlo, .int .i64 h.whi] rfl rfl HNE.out HONE.out (by decide) (by have := HHLEN.out; unfold maxLen; omega) (by have := HHLEN.out; omega) HBS.out _ rfl ?_; intro g cap w11 howo hgrow hat hlto; have HOO := Lib.hid howo; have HGO := Lib.hid hgrow; have HAT := Lib.hid hat; have KX := Lib.hid ((Turn.of_grown hgrow).blk (K310.out.belowS HBE.out) (fun e => by rw [rowOf_own'] at e; have := (own_geq HR10.out.heaps e).1; have := HSZ.out; omega)); have xc := KX.out.cell 3; have xf := KX.out.frozen 3; have xl := KX.out.lt; clear howo hgrow hat hlto)
  have kf : Blk (w11.setCell ⟨w.heap.size + 1 + 1, 3, none⟩ (.slice (some ⟨g, 0, none⟩) (H.length + 1) cap)) (w.heap.size + 1 + 1) #[.int .i64 S.year, .slice la S.last.length lc, .slice ga S.given.length gc, .slice (some ⟨g, 0, none⟩) (H.length + 1) cap, .slice ua S.used.length uc, .slice wa S.waste.length wc] 29 := KX.out.set 3 _
  have ht : Turn (fun k => k = w.heap.size + 1 + 1) w11 (w11.setCell ⟨w.heap.size + 1 + 1, 3, none⟩ (.slice (some ⟨g, 0, none⟩) (H.length + 1) cap)) := (Turn.of_below (X := fun k => k = w.heap.size + 1 + 1) (Below.refl _ w11)).setCell (B := w.heap.size + 1 + 1) rfl 3 _
  generalize w11.setCell ⟨w.heap.size + 1 + 1, 3, none⟩ (.slice (some ⟨g, 0, none⟩) (H.length + 1) cap) = w12 at *
  have HTU := Lib.hid (show Turn (fun k => a.map (·.block) = some k) (w10.alloc (.cells #[.string h.name, .int .i64 h.crop, .int .i64 h.stage, .slice pa h.parts.length pc, .int .i64 h.per, .int .i64 h.wlo, .int .i64 h.whi] 53)) w11 by
    have := Turn.of_grown HGO.out
    simpa only [rowOf_own'] using this)
  have hRn := (HR10.out.below HBE.out).pushHeap (y := { h with pa := pa, pc := pc }) HTU.out (by
    rcases HAT.out with h1 | h1
    · rw [rowOf_own'] at h1; exact .inl h1
    · exact .inr (by omega)) HOO.out ⟨HP10.out.belowS HBE.out, HNM.out⟩ (HC10.out.mono HBE.out.size)
  have hRf := hRn.turnAt ht (hRn.off (.inr (by have := HSZ.out; omega)))
  have HTF := Lib.hid ((HT10.out.trans (Turn.of_below HBE.out)).far (Turn.of_grown HGO.out) (fun i e => by rw [rowOf_own'] at e; exact (own_geq HR10.out.heaps e).1) |>.trans ht)
  have HRF := Lib.hid hRf
  have HSN := Lib.hid (sameH_snoc HSM.out HQ.out (y := { h with pa := pa, pc := pc }) ⟨rfl, rfl, rfl, rfl, rfl, rfl, rfl⟩)
  have KF := Lib.hid kf
  clear m0 m1 m2 m3 m4 m5 m6 ml o3 lo3 xc xf xl kf ht hRn hRf
  go_wp2_with fail
  refine ⟨⟨j + 1, H ++ [{ h with pa := pa, pc := pc }], some ⟨g, 0, none⟩, cap, by have := HLJ.out; omega, rfl, by rw [List.length_append, HHL.out]; rfl, HSN.out, HRF.out, ?_, HTF.out⟩, by have := HLJ.out; simp [intOf]; omega⟩
  have := KF.out
  simpa using this
end
end Go.Proofs.YtfhalmlpnoepcaaGreat
namespace Go.Proofs.YtfhalmlpnoepcaaGreat
section
set_option linter.unusedSimpArgs false
open Go.RowKit

/-- The rows that are written in their place. -/
def Hot (S : Sto) (k : Nat) : Prop := S.la.map (·.block) = some k ∨ S.ga.map (·.block) = some k ∨ S.ha.map (·.block) = some k
theorem Rst.hot {base : Nat} {w : World} {S : Sto} (h : Rst base w S) {k : Nat} (hk : Hot S k) : base ≤ k ∧ k < w.heap.size := by
  rcases hk with hk | hk | hk
  · exact own_geq h.last hk
  · exact own_geq h.given hk
  · exact own_geq h.heaps hk
/-- What a chore makes of a store: its error, and without one a store that is the same as what it should be, whose rows are S's or new. -/
def ChMade (base : Nat) (S : Sto) (D : Int × Sto) (w : World) (e : Ending) (w' : World) : Prop := (∃ T, e = .returned (.tuple #[stoV T, .int .i64 D.1]) ∧ (D.1 = 0 → Rst base w' T ∧ SameSto T D.2 ∧ ∀ B, B < w.heap.size → Off B S → Off B T)) ∧ Turn (Hot S) w w'
theorem ChMade.err {base : Nat} (S : Sto) {S' : Sto} {D : Int × Sto} {x : Int} {w w' : World} (h : D.1 = x) (hx : x ≠ 0) (hb : Turn (Hot S') w w') : ChMade base S' D w (.returned (.tuple #[stoV S, .int .i64 x])) w' := ⟨⟨S, by rw [h], fun h0 => absurd (h.symm.trans h0) hx⟩, hb⟩
theorem Rst.numAt {w : World} {base i : Nat} {a : Option Addr} {c : Nat} {l : List Int} {x : Int} (h : w.ownsRow base 3 1 (.slice a l.length c) l.length (l.flatMap cellsI)) (hx : l[i]? = some x) : ∃ g, a = some ⟨g, 0, none⟩ ∧ (base ≤ g ∧ g < w.heap.size) ∧ l.length ≤ c ∧ c ≤ 9223372036854775807 ∧ w.cell? ⟨g, i, none⟩ = some (.int .i64 x) ∧ w.frozen? ⟨g, i, none⟩ = false := by
  have hne : l ≠ [] := fun e => by rw [e] at hx; simp at hx
  rcases row_at cellsI 1 (fun _ => rfl) h with ⟨_, h0⟩ | ⟨g, cap, hv, hbg, hg, hcap, hcap2, key⟩
  · exact absurd h0 hne
  obtain ⟨e1, _, e2⟩ := slice_inj hv
  subst e2
  refine ⟨g, e1, ⟨hbg, hg⟩, hcap, hcap2, ?_, ?_⟩
  · have := key i x hx 0 (by omega)
    simpa [cellsI] using this
  · rcases h.2 with ⟨e, h0⟩ | ⟨g', cap', cur, e, _, hgg, _⟩
    · rw [e1] at e; cases e
    · obtain ⟨e3, _, _⟩ := slice_inj e
      rw [e1] at e3
      obtain rfl : g = g' := by injection e3 with e3; injection e3
      exact Blk.frozen (show Blk w g cur _ from hgg) _
theorem num_write {w : World} {base i g : Nat} {a : Option Addr} {c : Nat} {l : List Int} {x : Int} (y : Int) (h : w.ownsRow base 3 1 (.slice a l.length c) l.length (l.flatMap cellsI)) (hx : l[i]? = some x) (hg : a = some ⟨g, 0, none⟩) : (w.setCell ⟨g, i, none⟩ (.int .i64 y)).ownsRow base 3 1 (.slice a l.length c) l.length ((l.set i y).flatMap cellsI) := by
  have hil := (List.getElem?_eq_some_iff.1 hx).1
  rw [hg] at h ⊢
  have := ownsRow_setOwn h (i := i) (by omega) (.int .i64 y)
  have e := flat_set cellsI 1 (fun _ => rfl) l i 0 x y (.int .i64 y) hx (by omega) rfl
  rw [Nat.mul_one, Nat.add_zero] at e
  rwa [e] at this
theorem same_push {l : List Hep} {x y : Hep} (h : SameHep x y) : ∀ (i : Nat) (g k : Hep), (l ++ [x])[i]? = some g → (l ++ [y])[i]? = some k → SameHep g k := ((sameH.refl l).append h).2
theorem in_max {n m M : Int} (hm : 0 ≤ m) : isFromB n (max 1 m) M = true ↔ (n ≠ 0 ∧ isFromB n m M = true) := by
  simp only [isFromB_iff]
  omega

set_option maxRecDepth 100000 in
set_option maxHeartbeats 32000000 in
theorem refMown_any (base : Nat) (F : Frm) (S : Sto) (a : Chr) (w : World) (hF : ∀ w', Below base w w' → IsFarm w' F) (hS : Rst base w S) (hbase : base ≤ w.heap.size) (hE : storeE F S = 0) (hfit : S.fit) (hnm : a.name.size ≤ maxLen) :
    Calls Tryz.prog 42 #[.agg #[.slice F.pa F.ps.length F.pc, .int .i64 F.dry], .agg #[.int .i64 S.year, .slice S.la S.last.length S.lc, .slice S.ga S.given.length S.gc, .slice S.ha S.heaps.length S.hc, .slice S.ua S.used.length S.uc, .slice S.wa S.waste.length S.wc], .agg (chrC a)] w (ChMade base S (cutD F S a) w) := by
  obtain ⟨kd, pl, ld, nm, ot, dy, pr, rl, rh⟩ := a
  unfold chrC
  dsimp only at hnm ⊢
  have HF := Lib.hid hF
  have HS := Lib.hid hS
  have HBASE := Lib.hid hbase
  have HE := Lib.hid hE
  have HFIT := Lib.hid hfit
  have HNM := Lib.hid hnm
  have HST := Lib.hid (store_ok hE)
  have HYR := Lib.hid (years_ok hE)
  have HPLT := Lib.hid (plots_ok hE)
  have HGV := Lib.hid (given_bd hE hfit)
  have HH16 := Lib.hid (show (S.heaps.length : Int) ≤ 16 by
    obtain ⟨_, h2⟩ := storeE_zero hE
    simp only [mayB, heapsB, Bool.and_eq_true, decide_eq_true_eq] at h2
    have := h2.2.1.1
    omega)
  clear hF hS hbase hE hfit hnm
  go_enter Tryz.func42, Tryz.ntmps42
  go_upto_region 1 with fail
  generalize hw1 : ((((w.alloc (.cells #[.slice F.pa F.ps.length F.pc, .int .i64 F.dry] 24)).alloc (.cells #[.int .i64 S.year, .slice S.la S.last.length S.lc, .slice S.ga S.given.length S.gc, .slice S.ha S.heaps.length S.hc, .slice S.ua S.used.length S.uc, .slice S.wa S.waste.length S.wc] 29)).alloc (.cells #[.int .i64 kd, .int .i64 pl, .int .i64 ld, .string nm, .string ot, .int .i64 dy, .int .i64 pr, .int .i64 rl, .int .i64 rh] 34)).alloc (.cells #[.int .i64 0, .slice none 0 0, .slice none 0 0, .slice none 0 0, .slice none 0 0, .slice none 0 0] 29)) = w1
  obtain ⟨k1, k2, k3, k4, hb1⟩ := four_boxes w F S _ _ _ _ _ _ _ _ _ _ _ _ w1 hw1.symm
  clear hw1
  have HB1 := Lib.hid (show Turn (Hot S) w w1 from Turn.of_below hb1)
  have HBW1 := Lib.hid hb1
  have HSZ1 := Lib.hid (Nat.le_trans HBASE.out hb1.size)
  have KF1 := Lib.hid k1
  have KS1 := Lib.hid k2
  have KA1 := Lib.hid k3
  have KR1 := Lib.hid k4
  have HS1 := Lib.hid (HS.out.below hb1)
  have HSZR := Lib.hid (show w.heap.size + 1 + 1 + 1 < w1.heap.size from k4.lt)
  clear k1 k2 k3 k4 hb1
  obtain ⟨f0, f1⟩ := frm_cells KF1.out
  have fl := KF1.out.lt
  obtain ⟨d0, d1, d2, d3, d4, d5⟩ := sto_cells (S := S) KS1.out
  have dl := KS1.out.lt
  obtain ⟨c0, c1, c2, c3, c4, c5, c6, c7, c8⟩ := chr_cells KA1.out
  have cl := KA1.out.lt
  have hln : F.ps.length ≤ 12 := HST.out.1
  have hwl : IntKind.i64.wrap ((F.ps.length : Int) - 1) = (F.ps.length : Int) - 1 := by rw [IntKind.wrap_i64]; omega
  go_wp2_with fail
  refine (refIn_any _ _ _ _).mono ?_
  rintro e w2 ⟨rfl, rfl⟩
  obtain ⟨b1, hb1⟩ : ∃ b1, isFromB pl 0 ((F.ps.length : Int) - 1) = b1 := ⟨_, rfl⟩
  have H1 := Lib.hid hb1
  rw [hb1]
  clear hb1
  cases b1 with
  | false =>
    have HV := Lib.hid (show (cutD F S ⟨kd, pl, ld, nm, ot, dy, pr, rl, rh⟩).1 = 7 by unfold cutD; dsimp only; rw [if_pos H1.out])
    obtain ⟨rr0, rr1, rr2, rr3, rr4, rr5⟩ := zero_cells KR1.out
    have rrl := KR1.out.lt
    have rrz0 := KR1.out.frozen 0
    have rrz1 := KR1.out.frozen 1
    have rrz2 := KR1.out.frozen 2
    have rrz3 := KR1.out.frozen 3
    have rrz4 := KR1.out.frozen 4
    have rrz5 := KR1.out.frozen 5
    go_wp2_with fail
    refine put_end S KR1.out (Φ := bodyPost _ _ _ _ _) (fun wf ht kf => ?_)
    obtain ⟨g0, g1, g2, g3, g4, g5⟩ := sto_cells (S := S) kf
    exact bodyPost_ret (v := .tuple #[.agg #[.int .i64 S.year, .slice S.la S.last.length S.lc, .slice S.ga S.given.length S.gc, .slice S.ha S.heaps.length S.hc, .slice S.ua S.used.length S.uc, .slice S.wa S.waste.length S.wc], .int .i64 7]) (by simp [results, Tryz.results42, go_sem, g0, g1, g2, g3, g4, g5]) rfl (ChMade.err S HV.out (by decide) (HB1.out.far ht (fun k e => by rw [show k = w.heap.size + 1 + 1 + 1 from e]; omega)))
  | true =>
  have hpl := isFromB_iff.1 H1.out
  obtain ⟨pi, rfl⟩ : ∃ pi : Nat, pl = (pi : Int) := ⟨pl.toNat, by omega⟩
  have HPI := Lib.hid (show pi < F.ps.length by omega)
  clear hpl hln hwl
  go_wp2_with fail
  refine (refName_any nm _ HNM.out).mono ?_
  rintro e w2 ⟨rfl, rfl⟩
  obtain ⟨b2, hb2⟩ : ∃ b2, nameB nm = b2 := ⟨_, rfl⟩
  have H2 := Lib.hid hb2
  rw [hb2]
  clear hb2
  cases b2 with
  | false =>
    have HV := Lib.hid (show (cutD F S ⟨kd, (pi : Int), ld, nm, ot, dy, pr, rl, rh⟩).1 = 5 by unfold cutD; dsimp only; rw [if_neg (by rw [H1.out]; decide), if_pos H2.out])
    obtain ⟨rr0, rr1, rr2, rr3, rr4, rr5⟩ := zero_cells KR1.out
    have rrl := KR1.out.lt
    have rrz0 := KR1.out.frozen 0
    have rrz1 := KR1.out.frozen 1
    have rrz2 := KR1.out.frozen 2
    have rrz3 := KR1.out.frozen 3
    have rrz4 := KR1.out.frozen 4
    have rrz5 := KR1.out.frozen 5
    go_wp2_with fail
    refine put_end S KR1.out (Φ := bodyPost _ _ _ _ _) (fun wf ht kf => ?_)
    obtain ⟨g0, g1, g2, g3, g4, g5⟩ := sto_cells (S := S) kf
    exact bodyPost_ret (v := .tuple #[.agg #[.int .i64 S.year, .slice S.la S.last.length S.lc, .slice S.ga S.given.length S.gc, .slice S.ha S.heaps.length S.hc, .slice S.ua S.used.length S.uc, .slice S.wa S.waste.length S.wc], .int .i64 5]) (by simp [results, Tryz.results42, go_sem, g0, g1, g2, g3, g4, g5]) rfl (ChMade.err S HV.out (by decide) (HB1.out.far ht (fun k e => by rw [show k = w.heap.size + 1 + 1 + 1 from e]; omega)))
  | true =>
  go_wp2_with fail
  refine (refAt_any S nm _ (HS1.out.store.heaps)).mono ?_
  rintro e w2 ⟨rfl, hb⟩
  clear f0 f1 fl d0 d1 d2 d3 d4 d5 dl c0 c1 c2 c3 c4 c5 c6 c7 c8 cl
  have KF2 := Lib.hid (KF1.out.belowS hb)
  have KS2 := Lib.hid (KS1.out.belowS hb)
  have KA2 := Lib.hid (KA1.out.belowS hb)
  have KR2 := Lib.hid (KR1.out.belowS hb)
  have HB2 := Lib.hid (HB1.out.trans (Turn.of_below hb))
  have HSZ2 := Lib.hid (Nat.le_trans HSZ1.out hb.size)
  have HS2 := Lib.hid (HS1.out.below hb)
  clear hb KF1 KS1 KA1 KR1
  obtain ⟨ix, hix⟩ : ∃ ix, idxH S.heaps nm = ix := ⟨_, rfl⟩
  have HIX := Lib.hid hix
  rw [hix]
  clear hix
  obtain ⟨f0, f1⟩ := frm_cells KF2.out
  have fl := KF2.out.lt
  obtain ⟨d0, d1, d2, d3, d4, d5⟩ := sto_cells (S := S) KS2.out
  have dl := KS2.out.lt
  obtain ⟨c0, c1, c2, c3, c4, c5, c6, c7, c8⟩ := (show w2.cell? ⟨w.heap.size + 1 + 1, 0, none⟩ = some (.int .i64 kd) ∧ w2.cell? ⟨w.heap.size + 1 + 1, 1, none⟩ = some (.int .i64 (pi : Int)) ∧ w2.cell? ⟨w.heap.size + 1 + 1, 2, none⟩ = some (.int .i64 ld) ∧ w2.cell? ⟨w.heap.size + 1 + 1, 3, none⟩ = some (.string nm) ∧ w2.cell? ⟨w.heap.size + 1 + 1, 4, none⟩ = some (.string ot) ∧ w2.cell? ⟨w.heap.size + 1 + 1, 5, none⟩ = some (.int .i64 dy) ∧ w2.cell? ⟨w.heap.size + 1 + 1, 6, none⟩ = some (.int .i64 pr) ∧ w2.cell? ⟨w.heap.size + 1 + 1, 7, none⟩ = some (.int .i64 rl) ∧ w2.cell? ⟨w.heap.size + 1 + 1, 8, none⟩ = some (.int .i64 rh) from ⟨KA2.out.cell 0, KA2.out.cell 1, KA2.out.cell 2, KA2.out.cell 3, KA2.out.cell 4, KA2.out.cell 5, KA2.out.cell 6, KA2.out.cell 7, KA2.out.cell 8⟩)
  have cl := KA2.out.lt
  by_cases h3 : 0 ≤ ix
  · have HV := Lib.hid (show (cutD F S ⟨kd, (pi : Int), ld, nm, ot, dy, pr, rl, rh⟩).1 = 6 by unfold cutD; dsimp only; rw [if_neg (by rw [H1.out]; decide), if_neg (by rw [H2.out]; decide), if_pos (by rw [HIX.out]; exact h3)])
    obtain ⟨rr0, rr1, rr2, rr3, rr4, rr5⟩ := zero_cells KR2.out
    have rrl := KR2.out.lt
    have rrz0 := KR2.out.frozen 0
    have rrz1 := KR2.out.frozen 1
    have rrz2 := KR2.out.frozen 2
    have rrz3 := KR2.out.frozen 3
    have rrz4 := KR2.out.frozen 4
    have rrz5 := KR2.out.frozen 5
    go_wp2_with fail
    refine put_end S KR2.out (Φ := bodyPost _ _ _ _ _) (fun wf ht kf => ?_)
    obtain ⟨g0, g1, g2, g3, g4, g5⟩ := sto_cells (S := S) kf
    exact bodyPost_ret (v := .tuple #[.agg #[.int .i64 S.year, .slice S.la S.last.length S.lc, .slice S.ga S.given.length S.gc, .slice S.ha S.heaps.length S.hc, .slice S.ua S.used.length S.uc, .slice S.wa S.waste.length S.wc], .int .i64 6]) (by simp [results, Tryz.results42, go_sem, g0, g1, g2, g3, g4, g5]) rfl (ChMade.err S HV.out (by decide) (HB2.out.far ht (fun k e => by rw [show k = w.heap.size + 1 + 1 + 1 from e]; omega)))
  have H3 := Lib.hid (show ¬ 0 ≤ idxH S.heaps nm by rw [HIX.out]; exact h3)
  have h3' : ¬ 0 ≤ ix := h3
  clear h3
  have hxq : F.ps[pi]? = some F.ps[pi] := List.getElem?_eq_getElem HPI.out
  have HXB := Lib.hid (HPLT.out _ (List.getElem_mem HPI.out))
  obtain ⟨fb, fo, hfa, hfl, hfc, hfx, v0, v1, v2, v3, v4, v5, v6, v7, v8⟩ := IsPlts.at (show IsPlts w2 (.slice F.pa F.ps.length F.pc) F.ps from HF.out w2 (HB2.out.below HBASE.out (fun k e => (HS.out.hot e).1))) hxq
  have HPX := Lib.hid (show pltAt F.ps (pi : Int).toNat = F.ps[pi] by unfold pltAt; rw [Int.toNat_natCast, hxq]; rfl)
  generalize F.ps[pi] = x at *
  have hpi0 : (0 : Int) ≤ (pi : Int) := Int.natCast_nonneg _
  have hpi1 : (pi : Int) < (F.ps.length : Int) := by have := HPI.out; omega
  rw [hfa] at f0
  have kX := Blk.new w2 50 #[.string x.name, .int .i64 x.crop, .int .i64 x.size, .int .i64 x.ylo, .int .i64 x.yhi, .int .i64 x.rest, .int .i64 x.wlo, .int .i64 x.whi, .int .i64 x.cost]
  have hb3 : Below w2.heap.size w2 (w2.alloc (.cells #[.string x.name, .int .i64 x.crop, .int .i64 x.size, .int .i64 x.ylo, .int .i64 x.yhi, .int .i64 x.rest, .int .i64 x.wlo, .int .i64 x.whi, .int .i64 x.cost] 50)) := (Below.refl _ w2).alloc (Nat.le_refl _) _
  clear hxq hfa
  go_upto_region 8 with fail
  clear v0 v1 v2 v3 v4 v5 v6 v7 v8 hfl hfc hfx h3'
  clear f0 f1 fl d0 d1 d2 d3 d4 d5 dl c0 c1 c2 c3 c4 c5 c6 c7 c8 cl
  have KF3 := Lib.hid (KF2.out.belowS hb3)
  have KS3 := Lib.hid (KS2.out.belowS hb3)
  have KA3 := Lib.hid (KA2.out.belowS hb3)
  have KR3 := Lib.hid (KR2.out.belowS hb3)
  have HB3 := Lib.hid (HB2.out.trans (Turn.of_below hb3))
  have HSZ3 := Lib.hid (Nat.le_trans HSZ2.out hb3.size)
  have HS3 := Lib.hid (HS2.out.below hb3)
  generalize w2.alloc (.cells #[.string x.name, .int .i64 x.crop, .int .i64 x.size, .int .i64 x.ylo, .int .i64 x.yhi, .int .i64 x.rest, .int .i64 x.wlo, .int .i64 x.whi, .int .i64 x.cost] 50) = w3 at *
  have HW23 := Lib.hid (show w.heap.size + 1 + 1 + 1 < w2.heap.size from KR2.out.lt)
  obtain ⟨bx, hbx⟩ : ∃ bx, bx = w2.heap.size := ⟨_, rfl⟩
  rw [← hbx] at kX HW23 ⊢
  clear hbx hb3 KF2 KS2 KA2 KR2
  have KX3 := Lib.hid kX
  clear kX
  -- whether the field has rested
  have hlpi : pi < S.last.length := by have := HYR.out.2.1; have := HPI.out; omega
  have hlq : S.last[pi]? = some S.last[pi] := List.getElem?_eq_getElem hlpi
  have HLB := Lib.hid (HYR.out.2.2 _ (List.mem_of_getElem? hlq))
  have HLV := Lib.hid (show intAt S.last (pi : Int).toNat = S.last[pi] by unfold intAt; rw [Int.toNat_natCast, hlq]; rfl)
  have HLQ := Lib.hid hlq
  generalize S.last[pi] = lv at *
  obtain ⟨gl, hla, hgl, hcap, hcx, l0, _⟩ := Rst.numAt HS3.out.last HLQ.out
  have hyr := HYR.out.1
  have hxb := HXB.out
  have hlb := HLB.out
  have hws : IntKind.i64.wrap (S.year - x.rest) = S.year - x.rest := by rw [IntKind.wrap_i64]; omega
  have hpi2 : (pi : Int) < (S.last.length : Int) := by have := HYR.out.2.1; omega
  have hgl2 := hgl.2
  have HLA := Lib.hid hla
  obtain ⟨f0, f1⟩ := frm_cells KF3.out
  have fl := KF3.out.lt
  obtain ⟨d0, d1, d2, d3, d4, d5⟩ := sto_cells (S := S) KS3.out
  have dl := KS3.out.lt
  obtain ⟨c0, c1, c2, c3, c4, c5, c6, c7, c8⟩ := (show w3.cell? ⟨w.heap.size + 1 + 1, 0, none⟩ = some (.int .i64 kd) ∧ w3.cell? ⟨w.heap.size + 1 + 1, 1, none⟩ = some (.int .i64 (pi : Int)) ∧ w3.cell? ⟨w.heap.size + 1 + 1, 2, none⟩ = some (.int .i64 ld) ∧ w3.cell? ⟨w.heap.size + 1 + 1, 3, none⟩ = some (.string nm) ∧ w3.cell? ⟨w.heap.size + 1 + 1, 4, none⟩ = some (.string ot) ∧ w3.cell? ⟨w.heap.size + 1 + 1, 5, none⟩ = some (.int .i64 dy) ∧ w3.cell? ⟨w.heap.size + 1 + 1, 6, none⟩ = some (.int .i64 pr) ∧ w3.cell? ⟨w.heap.size + 1 + 1, 7, none⟩ = some (.int .i64 rl) ∧ w3.cell? ⟨w.heap.size + 1 + 1, 8, none⟩ = some (.int .i64 rh) from ⟨KA3.out.cell 0, KA3.out.cell 1, KA3.out.cell 2, KA3.out.cell 3, KA3.out.cell 4, KA3.out.cell 5, KA3.out.cell 6, KA3.out.cell 7, KA3.out.cell 8⟩)
  have cl := KA3.out.lt
  obtain ⟨x0, x1, x2, x3, x4, x5, x6, x7, x8⟩ := (show w3.cell? ⟨bx, 0, none⟩ = some (.string x.name) ∧ w3.cell? ⟨bx, 1, none⟩ = some (.int .i64 x.crop) ∧ w3.cell? ⟨bx, 2, none⟩ = some (.int .i64 x.size) ∧ w3.cell? ⟨bx, 3, none⟩ = some (.int .i64 x.ylo) ∧ w3.cell? ⟨bx, 4, none⟩ = some (.int .i64 x.yhi) ∧ w3.cell? ⟨bx, 5, none⟩ = some (.int .i64 x.rest) ∧ w3.cell? ⟨bx, 6, none⟩ = some (.int .i64 x.wlo) ∧ w3.cell? ⟨bx, 7, none⟩ = some (.int .i64 x.whi) ∧ w3.cell? ⟨bx, 8, none⟩ = some (.int .i64 x.cost) from ⟨KX3.out.cell 0, KX3.out.cell 1, KX3.out.cell 2, KX3.out.cell 3, KX3.out.cell 4, KX3.out.cell 5, KX3.out.cell 6, KX3.out.cell 7, KX3.out.cell 8⟩)
  have xl := KX3.out.lt
  rw [hla] at d1
  clear hlq hla hgl hyr hxb hlb hlpi
  by_cases hr : lv < 0 ∨ lv ≤ S.year - x.rest
  rotate_left
  · have hr1 : decide ((0 : Int) ≤ lv) = true := decide_eq_true (by omega)
    have hr2 : decide (S.year - x.rest < lv) = true := decide_eq_true (by omega)
    have HV := Lib.hid (show (cutD F S ⟨kd, (pi : Int), ld, nm, ot, dy, pr, rl, rh⟩).1 = 8 by unfold cutD; dsimp only; rw [if_neg (by rw [H1.out]; decide), if_neg (by rw [H2.out]; decide), if_neg (by have := H3.out; omega), HPX.out, HLV.out, if_pos hr])
    clear hr
    go_quiet (fail)
    generalize hw4 : w3.drewN _ = w4
    have hb4 : Below w3.heap.size w3 w4 := by rw [← hw4]; exact below_drewN' _ _ _
    clear hw4
    clear l0 hcap hcx hws hpi2 hgl2
    clear f0 f1 fl d0 d1 d2 d3 d4 d5 dl c0 c1 c2 c3 c4 c5 c6 c7 c8 cl
    clear x0 x1 x2 x3 x4 x5 x6 x7 x8 xl
    have KF4 := Lib.hid (KF3.out.belowS hb4)
    have KS4 := Lib.hid (KS3.out.belowS hb4)
    have KA4 := Lib.hid (KA3.out.belowS hb4)
    have KR4 := Lib.hid (KR3.out.belowS hb4)
    have HB4 := Lib.hid (HB3.out.trans (Turn.of_below hb4))
    have HSZ4 := Lib.hid (Nat.le_trans HSZ3.out hb4.size)
    obtain ⟨f0, f1⟩ := frm_cells KF4.out
    have fl := KF4.out.lt
    obtain ⟨d0, d1, d2, d3, d4, d5⟩ := sto_cells (S := S) KS4.out
    have dl := KS4.out.lt
    obtain ⟨c0, c1, c2, c3, c4, c5, c6, c7, c8⟩ := (show w4.cell? ⟨w.heap.size + 1 + 1, 0, none⟩ = some (.int .i64 kd) ∧ w4.cell? ⟨w.heap.size + 1 + 1, 1, none⟩ = some (.int .i64 (pi : Int)) ∧ w4.cell? ⟨w.heap.size + 1 + 1, 2, none⟩ = some (.int .i64 ld) ∧ w4.cell? ⟨w.heap.size + 1 + 1, 3, none⟩ = some (.string nm) ∧ w4.cell? ⟨w.heap.size + 1 + 1, 4, none⟩ = some (.string ot) ∧ w4.cell? ⟨w.heap.size + 1 + 1, 5, none⟩ = some (.int .i64 dy) ∧ w4.cell? ⟨w.heap.size + 1 + 1, 6, none⟩ = some (.int .i64 pr) ∧ w4.cell? ⟨w.heap.size + 1 + 1, 7, none⟩ = some (.int .i64 rl) ∧ w4.cell? ⟨w.heap.size + 1 + 1, 8, none⟩ = some (.int .i64 rh) from ⟨KA4.out.cell 0, KA4.out.cell 1, KA4.out.cell 2, KA4.out.cell 3, KA4.out.cell 4, KA4.out.cell 5, KA4.out.cell 6, KA4.out.cell 7, KA4.out.cell 8⟩)
    have cl := KA4.out.lt
    obtain ⟨rr0, rr1, rr2, rr3, rr4, rr5⟩ := zero_cells KR4.out
    have rrl := KR4.out.lt
    have rrz0 := KR4.out.frozen 0
    have rrz1 := KR4.out.frozen 1
    have rrz2 := KR4.out.frozen 2
    have rrz3 := KR4.out.frozen 3
    have rrz4 := KR4.out.frozen 4
    have rrz5 := KR4.out.frozen 5
    go_wp2_with fail
    refine put_end S KR4.out (Φ := bodyPost _ _ _ _ _) (fun wf ht kf => ?_)
    obtain ⟨g0, g1, g2, g3, g4, g5⟩ := sto_cells (S := S) kf
    exact bodyPost_ret (v := .tuple #[.agg #[.int .i64 S.year, .slice S.la S.last.length S.lc, .slice S.ga S.given.length S.gc, .slice S.ha S.heaps.length S.hc, .slice S.ua S.used.length S.uc, .slice S.wa S.waste.length S.wc], .int .i64 8]) (by simp [results, Tryz.results42, go_sem, g0, g1, g2, g3, g4, g5]) rfl (ChMade.err S HV.out (by decide) (HB4.out.far ht (fun k e => by rw [show k = w.heap.size + 1 + 1 + 1 from e]; omega)))
  have HR := Lib.hid (show lv < 0 ∨ lv ≤ S.year - x.rest from hr)
  go_cut [55] from 35 to 55 (fun s55 wc => s55 = .bool false ∧ Below w3.heap.size w3 wc)
  case first =>
    by_cases hr0 : 0 ≤ lv
    · have hr1 : decide ((0 : Int) ≤ lv) = true := decide_eq_true hr0
      have hr2 : decide (S.year - x.rest < lv) = false := decide_eq_false (by omega)
      clear hr hr0
      go_quiet (fail)
      go_wp2_with fail
      go_meet
      exact ⟨rfl, below_drewN' _ _ _⟩
    · have hr1 : decide ((0 : Int) ≤ lv) = false := decide_eq_false hr0
      clear hr hr0
      go_quiet (fail)
      go_wp2_with fail
      go_meet
      exact ⟨rfl, below_drewN' _ _ _⟩
  obtain ⟨rfl, hb4⟩ := hcut
  obtain ⟨w4, rfl⟩ : ∃ w4 : World, w4 = wc := ⟨_, rfl⟩
  clear l0 hcap hcx hws hpi2 hgl2 hr
  clear f0 f1 fl d0 d1 d2 d3 d4 d5 dl c0 c1 c2 c3 c4 c5 c6 c7 c8 cl
  clear x0 x1 x2 x3 x4 x5 x6 x7 x8 xl
  have KF4 := Lib.hid (KF3.out.belowS hb4)
  have KS4 := Lib.hid (KS3.out.belowS hb4)
  have KA4 := Lib.hid (KA3.out.belowS hb4)
  have KR4 := Lib.hid (KR3.out.belowS hb4)
  have KX4 := Lib.hid (KX3.out.belowS hb4)
  have HB4 := Lib.hid (HB3.out.trans (Turn.of_below hb4))
  have HSZ4 := Lib.hid (Nat.le_trans HSZ3.out hb4.size)
  have HS4 := Lib.hid (HS3.out.below hb4)
  clear hb4 KF3 KS3 KA3 KR3 KX3
  have hxb := HXB.out
  have hm1 : IntKind.i64.wrap (x.size * x.ylo) = x.size * x.ylo := by
    have h1 : x.size * x.ylo ≤ 100 * 1000 := Int.mul_le_mul (by omega) (by omega) (by omega) (by omega)
    have h2 : 0 ≤ x.size * x.ylo := Int.mul_nonneg (by omega) (by omega)
    rw [IntKind.wrap_i64]; omega
  have hm2 : IntKind.i64.wrap (x.size * x.yhi) = x.size * x.yhi := by
    have h1 : x.size * x.yhi ≤ 100 * 1000 := Int.mul_le_mul (by omega) (by omega) (by omega) (by omega)
    have h2 : 0 ≤ x.size * x.yhi := Int.mul_nonneg (by omega) (by omega)
    rw [IntKind.wrap_i64]; omega
  have HMX := Lib.hid (in_max (n := ld) (M := x.size * x.yhi) (show 0 ≤ x.size * x.ylo from Int.mul_nonneg (by omega) (by omega)))
  have HMB := Lib.hid (show x.size * x.yhi ≤ 100 * 1000 from Int.mul_le_mul (by omega) (by omega) (by omega) (by omega))
  clear hxb
  obtain ⟨b5, hb5⟩ : ∃ b5, isFromB ld (max 1 (x.size * x.ylo)) (x.size * x.yhi) = b5 := ⟨_, rfl⟩
  have H5 := Lib.hid hb5
  clear hb5
  obtain ⟨f0, f1⟩ := frm_cells KF4.out
  have fl := KF4.out.lt
  obtain ⟨d0, d1, d2, d3, d4, d5⟩ := sto_cells (S := S) KS4.out
  have dl := KS4.out.lt
  obtain ⟨c0, c1, c2, c3, c4, c5, c6, c7, c8⟩ := (show w4.cell? ⟨w.heap.size + 1 + 1, 0, none⟩ = some (.int .i64 kd) ∧ w4.cell? ⟨w.heap.size + 1 + 1, 1, none⟩ = some (.int .i64 (pi : Int)) ∧ w4.cell? ⟨w.heap.size + 1 + 1, 2, none⟩ = some (.int .i64 ld) ∧ w4.cell? ⟨w.heap.size + 1 + 1, 3, none⟩ = some (.string nm) ∧ w4.cell? ⟨w.heap.size + 1 + 1, 4, none⟩ = some (.string ot) ∧ w4.cell? ⟨w.heap.size + 1 + 1, 5, none⟩ = some (.int .i64 dy) ∧ w4.cell? ⟨w.heap.size + 1 + 1, 6, none⟩ = some (.int .i64 pr) ∧ w4.cell? ⟨w.heap.size + 1 + 1, 7, none⟩ = some (.int .i64 rl) ∧ w4.cell? ⟨w.heap.size + 1 + 1, 8, none⟩ = some (.int .i64 rh) from ⟨KA4.out.cell 0, KA4.out.cell 1, KA4.out.cell 2, KA4.out.cell 3, KA4.out.cell 4, KA4.out.cell 5, KA4.out.cell 6, KA4.out.cell 7, KA4.out.cell 8⟩)
  have cl := KA4.out.lt
  obtain ⟨x0, x1, x2, x3, x4, x5, x6, x7, x8⟩ := (show w4.cell? ⟨bx, 0, none⟩ = some (.string x.name) ∧ w4.cell? ⟨bx, 1, none⟩ = some (.int .i64 x.crop) ∧ w4.cell? ⟨bx, 2, none⟩ = some (.int .i64 x.size) ∧ w4.cell? ⟨bx, 3, none⟩ = some (.int .i64 x.ylo) ∧ w4.cell? ⟨bx, 4, none⟩ = some (.int .i64 x.yhi) ∧ w4.cell? ⟨bx, 5, none⟩ = some (.int .i64 x.rest) ∧ w4.cell? ⟨bx, 6, none⟩ = some (.int .i64 x.wlo) ∧ w4.cell? ⟨bx, 7, none⟩ = some (.int .i64 x.whi) ∧ w4.cell? ⟨bx, 8, none⟩ = some (.int .i64 x.cost) from ⟨KX4.out.cell 0, KX4.out.cell 1, KX4.out.cell 2, KX4.out.cell 3, KX4.out.cell 4, KX4.out.cell 5, KX4.out.cell 6, KX4.out.cell 7, KX4.out.cell 8⟩)
  have xl := KX4.out.lt
  go_upto_region 10 with fail
  go_cut [73] from 57 to 73 (fun s73 wx => s73 = .bool (!b5) ∧ wx = w4)
  case first =>
    go_wp2_with fail
    all_goals
      refine (refIn_any _ _ _ _).mono ?_
      rintro e w5 ⟨rfl, rfl⟩
      go_wp2_with fail
      go_meet
      refine ⟨?_, rfl⟩
      rw [← H5.out]
      first | (rw [show max 1 (x.size * x.ylo) = x.size * x.ylo by omega]; done) | (rw [show max 1 (x.size * x.ylo) = 1 by omega]; done)
  obtain ⟨rfl, hw5⟩ := hcut
  subst hw5
  obtain ⟨w4, rfl⟩ : ∃ w4 : World, w4 = wc := ⟨_, rfl⟩
  clear hm1 hm2
  cases b5 with
  | false =>
    have HV := Lib.hid (show (cutD F S ⟨kd, (pi : Int), ld, nm, ot, dy, pr, rl, rh⟩).1 = 1 by
      have h5 := H5.out
      unfold cutD; dsimp only; rw [if_neg (by rw [H1.out]; decide), if_neg (by rw [H2.out]; decide), if_neg (by have := H3.out; omega), HPX.out, HLV.out, if_neg (fun h => by have := HR.out; omega), if_pos (fun h => by rw [HMX.out.2 h] at h5; cases h5)])
    obtain ⟨rr0, rr1, rr2, rr3, rr4, rr5⟩ := zero_cells KR4.out
    have rrl := KR4.out.lt
    have rrz0 := KR4.out.frozen 0
    have rrz1 := KR4.out.frozen 1
    have rrz2 := KR4.out.frozen 2
    have rrz3 := KR4.out.frozen 3
    have rrz4 := KR4.out.frozen 4
    have rrz5 := KR4.out.frozen 5
    go_wp2_with fail
    refine put_end S KR4.out (Φ := bodyPost _ _ _ _ _) (fun wf ht kf => ?_)
    obtain ⟨g0, g1, g2, g3, g4, g5⟩ := sto_cells (S := S) kf
    exact bodyPost_ret (v := .tuple #[.agg #[.int .i64 S.year, .slice S.la S.last.length S.lc, .slice S.ga S.given.length S.gc, .slice S.ha S.heaps.length S.hc, .slice S.ua S.used.length S.uc, .slice S.wa S.waste.length S.wc], .int .i64 1]) (by simp [results, Tryz.results42, go_sem, g0, g1, g2, g3, g4, g5]) rfl (ChMade.err S HV.out (by decide) (HB4.out.far ht (fun k e => by rw [show k = w.heap.size + 1 + 1 + 1 from e]; omega)))
  | true =>
  have HLD := Lib.hid (HMX.out.1 H5.out)
  have HLDB := Lib.hid (show 1 ≤ ld ∧ ld ≤ 100000 by have := isFromB_iff.1 H5.out; have := HMB.out; omega)
  have hTB := Lib.hid (show 0 ≤ allM S ∧ allM S ≤ 1000000000000 by
    have h1 := loadsM_bd (partsB_ok HST.out.2.2.1)
    have h2 := loadsM_bd (partsB_ok HST.out.2.2.2.1)
    have h3 := heapsM_bd (n := F.ps.length) (l := S.heaps) (fun y hy => heapB_parts (HST.out.2.2.2.2 y hy)) HFIT.out.parts
    have h4 := HFIT.out.used
    have h5 := HFIT.out.waste
    have h6 := HH16.out
    unfold allM
    omega)
  clear x0 x1 x2 x3 x4 x5 x6 x7 x8 xl
  have hst : ∀ w', Below w4.heap.size w4 w' → (fun w' : World => Below w4.heap.size w4 w' ∧ ((w'.cell? ⟨w.heap.size + 1, 0, none⟩ = some (.int .i64 S.year) ∧ w'.cell? ⟨w.heap.size + 1, 1, none⟩ = some (.slice S.la S.last.length S.lc) ∧ w'.cell? ⟨w.heap.size + 1, 2, none⟩ = some (.slice S.ga S.given.length S.gc) ∧ w'.cell? ⟨w.heap.size + 1, 3, none⟩ = some (.slice S.ha S.heaps.length S.hc) ∧ w'.cell? ⟨w.heap.size + 1, 4, none⟩ = some (.slice S.ua S.used.length S.uc) ∧ w'.cell? ⟨w.heap.size + 1, 5, none⟩ = some (.slice S.wa S.waste.length S.wc)) ∧ w'.cell? ⟨w.heap.size + 1 + 1, 2, none⟩ = some (.int .i64 ld))) w' := fun w' hb => by
    have y1 := KS4.out.belowS hb
    have y2 := KA4.out.belowS hb
    exact ⟨hb, ⟨y1.cell 0, y1.cell 1, y1.cell 2, y1.cell 3, y1.cell 4, y1.cell 5⟩, y2.cell 2⟩
  have HSTW := Lib.hid hst
  clear hst
  have hx := HSTW.out w4.drew ((Below.refl _ w4).drew)
  go_upto_region 12 with fail
  clear f0 f1 fl d0 d1 d2 d3 d4 d5 dl c0 c1 c2 c3 c4 c5 c6 c7 c8 cl
  by_cases h16 : (S.heaps.length : Int) = 16
  · have hh : ((S.heaps.length : Int) == 16) = true := by simp [h16]
    have HV := Lib.hid (show (cutD F S ⟨kd, (pi : Int), ld, nm, ot, dy, pr, rl, rh⟩).1 = 3 by unfold cutD; dsimp only; rw [if_neg (by rw [H1.out]; decide), if_neg (by rw [H2.out]; decide), if_neg (by have := H3.out; omega), HPX.out, HLV.out, if_neg (fun h => by have := HR.out; omega), if_neg (not_not_intro HLD.out), if_pos (fun h => by omega)])
    refine wp_region_E 12 (fun w' : World => Below w4.heap.size w4 w' ∧ ((w'.cell? ⟨w.heap.size + 1, 0, none⟩ = some (.int .i64 S.year) ∧ w'.cell? ⟨w.heap.size + 1, 1, none⟩ = some (.slice S.la S.last.length S.lc) ∧ w'.cell? ⟨w.heap.size + 1, 2, none⟩ = some (.slice S.ga S.given.length S.gc) ∧ w'.cell? ⟨w.heap.size + 1, 3, none⟩ = some (.slice S.ha S.heaps.length S.hc) ∧ w'.cell? ⟨w.heap.size + 1, 4, none⟩ = some (.slice S.ua S.used.length S.uc) ∧ w'.cell? ⟨w.heap.size + 1, 5, none⟩ = some (.slice S.wa S.waste.length S.wc)) ∧ w'.cell? ⟨w.heap.size + 1 + 1, 2, none⟩ = some (.int .i64 ld))) (by kernel_rfl) ?_
    refine tR 0 rfl hx (v := ?v1) (.inl ⟨by rfl, ?y1⟩) ?r1
    case y1 => intro w' h; (try dsimp only at h); go_simp; try with_reducible rfl
    refine tR 1 rfl hx (v := ?v2) (.inl ⟨by rfl, ?y2⟩) ?r2
    case y2 => intro w' h; (try dsimp only at h); go_simp; try with_reducible rfl
    refine tR 2 rfl hx (v := ?v3) (.inl ⟨by rfl, ?y3⟩) ?r3
    case y3 => intro w' h; (try dsimp only at h); go_simp; try with_reducible rfl
    try simp only [Act.put, List.getElem_toArray, List.getElem_cons_zero, List.getElem_cons_succ, List.setIfInBounds_toArray, List.set_cons_zero, List.set_cons_succ]
    refine tR 3 rfl hx (v := ?v4) (.inl ⟨by rfl, ?y4⟩) ?r4
    case y4 => intro w' h; (try dsimp only at h); go_simp; try with_reducible rfl
    refine tR 4 rfl hx (v := ?v5) (.inl ⟨by rfl, ?y5⟩) ?r5
    case y5 => intro w' h; (try dsimp only at h); go_simp; try with_reducible rfl
    refine tR 5 rfl hx (v := undef) (.inr ⟨by rfl, rfl⟩) ?r6
    try simp only [Act.put, List.getElem_toArray, List.getElem_cons_zero, List.getElem_cons_succ, List.setIfInBounds_toArray, List.set_cons_zero, List.set_cons_succ]
    refine tR 6 rfl hx (v := undef) (.inr ⟨by rfl, rfl⟩) ?r7
    refine tR 7 rfl hx (v := undef) (.inr ⟨by rfl, rfl⟩) ?r8
    refine tR 8 rfl hx (v := undef) (.inr ⟨by rfl, rfl⟩) ?r9
    try simp only [Act.put, List.getElem_toArray, List.getElem_cons_zero, List.getElem_cons_succ, List.setIfInBounds_toArray, List.set_cons_zero, List.set_cons_succ]
    refine tR 9 rfl hx (v := undef) (.inr ⟨by rfl, rfl⟩) ?r10
    refine tR 10 rfl hx (v := undef) (.inr ⟨by rfl, rfl⟩) ?r11
    refine tR 11 rfl hx (v := ?v12) (.inl ⟨by rfl, ?y12⟩) ?r12
    case y12 => intro w' h; (try dsimp only at h); go_simp; try with_reducible rfl
    try simp only [Act.put, List.getElem_toArray, List.getElem_cons_zero, List.getElem_cons_succ, List.setIfInBounds_toArray, List.set_cons_zero, List.set_cons_succ]
    refine E_done (by kernel_rfl) ?_ _
    have hb5 : Below w4.heap.size w4 w4.drew := (Below.refl _ w4).drew
    generalize w4.drew = w5 at *
    clear hx hh h16
    have KF5 := Lib.hid (KF4.out.belowS hb5)
    have KS5 := Lib.hid (KS4.out.belowS hb5)
    have KA5 := Lib.hid (KA4.out.belowS hb5)
    have KR5 := Lib.hid (KR4.out.belowS hb5)
    have HB5 := Lib.hid (HB4.out.trans (Turn.of_below hb5))
    have HSZ5 := Lib.hid (Nat.le_trans HSZ4.out hb5.size)
    clear hb5
    obtain ⟨f0, f1⟩ := frm_cells KF5.out
    have fl := KF5.out.lt
    obtain ⟨d0, d1, d2, d3, d4, d5⟩ := sto_cells (S := S) KS5.out
    have dl := KS5.out.lt
    obtain ⟨c0, c1, c2, c3, c4, c5, c6, c7, c8⟩ := (show w5.cell? ⟨w.heap.size + 1 + 1, 0, none⟩ = some (.int .i64 kd) ∧ w5.cell? ⟨w.heap.size + 1 + 1, 1, none⟩ = some (.int .i64 (pi : Int)) ∧ w5.cell? ⟨w.heap.size + 1 + 1, 2, none⟩ = some (.int .i64 ld) ∧ w5.cell? ⟨w.heap.size + 1 + 1, 3, none⟩ = some (.string nm) ∧ w5.cell? ⟨w.heap.size + 1 + 1, 4, none⟩ = some (.string ot) ∧ w5.cell? ⟨w.heap.size + 1 + 1, 5, none⟩ = some (.int .i64 dy) ∧ w5.cell? ⟨w.heap.size + 1 + 1, 6, none⟩ = some (.int .i64 pr) ∧ w5.cell? ⟨w.heap.size + 1 + 1, 7, none⟩ = some (.int .i64 rl) ∧ w5.cell? ⟨w.heap.size + 1 + 1, 8, none⟩ = some (.int .i64 rh) from ⟨KA5.out.cell 0, KA5.out.cell 1, KA5.out.cell 2, KA5.out.cell 3, KA5.out.cell 4, KA5.out.cell 5, KA5.out.cell 6, KA5.out.cell 7, KA5.out.cell 8⟩)
    have cl := KA5.out.lt
    obtain ⟨rr0, rr1, rr2, rr3, rr4, rr5⟩ := zero_cells KR5.out
    have rrl := KR5.out.lt
    have rrz0 := KR5.out.frozen 0
    have rrz1 := KR5.out.frozen 1
    have rrz2 := KR5.out.frozen 2
    have rrz3 := KR5.out.frozen 3
    have rrz4 := KR5.out.frozen 4
    have rrz5 := KR5.out.frozen 5
    go_wp2_with fail
    refine put_end S KR5.out (Φ := bodyPost _ _ _ _ _) (fun wf ht kf => ?_)
    obtain ⟨g0, g1, g2, g3, g4, g5⟩ := sto_cells (S := S) kf
    exact bodyPost_ret (v := .tuple #[.agg #[.int .i64 S.year, .slice S.la S.last.length S.lc, .slice S.ga S.given.length S.gc, .slice S.ha S.heaps.length S.hc, .slice S.ua S.used.length S.uc, .slice S.wa S.waste.length S.wc], .int .i64 3]) (by simp [results, Tryz.results42, go_sem, g0, g1, g2, g3, g4, g5]) rfl (ChMade.err S HV.out (by decide) (HB5.out.far ht (fun k e => by rw [show k = w.heap.size + 1 + 1 + 1 from e]; omega)))
  have hh : ((S.heaps.length : Int) == 16) = false := by simp [h16]
  have H16 := Lib.hid (show (S.heaps.length : Int) < 16 by have := HH16.out; omega)
  have hws : IntKind.i64.wrap (allM S + ld) = allM S + ld := by have := hTB.out; have := HLDB.out; rw [IntKind.wrap_i64]; omega
  have HTO := Lib.hid (show ∀ (w' : World), IsStore w' S → Calls Tryz.prog 73 #[.agg #[.int .i64 S.year, .slice S.la S.last.length S.lc, .slice S.ga S.given.length S.gc, .slice S.ha S.heaps.length S.hc, .slice S.ua S.used.length S.uc, .slice S.wa S.waste.length S.wc]] w' (fun e w'' => e = .returned (.int .i64 (allM S)) ∧ Below w'.heap.size w' w'') from fun w' h => refTotal_any F.ps.length S w' h (fun y hy => heapB_parts (HST.out.2.2.2.2 y hy)) (partsB_ok HST.out.2.2.1) (partsB_ok HST.out.2.2.2.1) HFIT.out)
  clear h16
  by_cases h100 : (100000 : Int) < allM S + ld
  · have h100' : decide ((100000 : Int) < allM S + ld) = true := decide_eq_true h100
    have HV := Lib.hid (show (cutD F S ⟨kd, (pi : Int), ld, nm, ot, dy, pr, rl, rh⟩).1 = 3 by unfold cutD; dsimp only; rw [if_neg (by rw [H1.out]; decide), if_neg (by rw [H2.out]; decide), if_neg (by have := H3.out; omega), HPX.out, HLV.out, if_neg (fun h => by have := HR.out; omega), if_neg (not_not_intro HLD.out), if_pos (fun h => by omega)])
    refine wp_region_E 12 (fun w' : World => Below w4.heap.size w4 w' ∧ ((w'.cell? ⟨w.heap.size + 1, 0, none⟩ = some (.int .i64 S.year) ∧ w'.cell? ⟨w.heap.size + 1, 1, none⟩ = some (.slice S.la S.last.length S.lc) ∧ w'.cell? ⟨w.heap.size + 1, 2, none⟩ = some (.slice S.ga S.given.length S.gc) ∧ w'.cell? ⟨w.heap.size + 1, 3, none⟩ = some (.slice S.ha S.heaps.length S.hc) ∧ w'.cell? ⟨w.heap.size + 1, 4, none⟩ = some (.slice S.ua S.used.length S.uc) ∧ w'.cell? ⟨w.heap.size + 1, 5, none⟩ = some (.slice S.wa S.waste.length S.wc)) ∧ w'.cell? ⟨w.heap.size + 1 + 1, 2, none⟩ = some (.int .i64 ld))) (by kernel_rfl) ?_
    refine tR 0 rfl hx (v := ?v13) (.inl ⟨by rfl, ?y13⟩) ?r13
    case y13 => intro w' h; (try dsimp only at h); go_simp; try with_reducible rfl
    refine tR 1 rfl hx (v := ?v14) (.inl ⟨by rfl, ?y14⟩) ?r14
    case y14 => intro w' h; (try dsimp only at h); go_simp; try with_reducible rfl
    refine tR 2 rfl hx (v := ?v15) (.inl ⟨by rfl, ?y15⟩) ?r15
    case y15 => intro w' h; (try dsimp only at h); go_simp; try with_reducible rfl
    try simp only [Act.put, List.getElem_toArray, List.getElem_cons_zero, List.getElem_cons_succ, List.setIfInBounds_toArray, List.set_cons_zero, List.set_cons_succ]
    refine tR 3 rfl hx (v := ?v16) (.inl ⟨by rfl, ?y16⟩) ?r16
    case y16 => intro w' h; (try dsimp only at h); go_simp; try with_reducible rfl
    refine tR 4 rfl hx (v := ?v17) (.inl ⟨by rfl, ?y17⟩) ?r17
    case y17 => intro w' h; (try dsimp only at h); go_simp; try with_reducible rfl
    refine tR 5 rfl hx (v := ?v18) (.inl ⟨by rfl, ?y18⟩) ?r18
    case y18 => intro w' h; (try dsimp only at h); go_simp; try with_reducible rfl
    try simp only [Act.put, List.getElem_toArray, List.getElem_cons_zero, List.getElem_cons_succ, List.setIfInBounds_toArray, List.set_cons_zero, List.set_cons_succ]
    refine tR 7 rfl hx (v := ?v19) (.inl ⟨by rfl, ?y19⟩) ?r19
    case y19 => intro w' h; (try dsimp only at h); go_simp; try with_reducible rfl
    refine tR 8 rfl hx (v := ?v20) (.inl ⟨by rfl, ?y20⟩) ?r20
    case y20 => intro w' h; (try dsimp only at h); go_simp; try with_reducible rfl
    try simp only [Act.put, List.getElem_toArray, List.getElem_cons_zero, List.getElem_cons_succ, List.setIfInBounds_toArray, List.set_cons_zero, List.set_cons_succ]
    refine E_step (i := 6) (o := _) (by kernel_rfl) rfl (fun K hK => ?_)
    go_simp
    refine (HTO.out _ (HS4.out.below hx.1).store).mono ?_
    rintro e w6 ⟨rfl, hb6⟩
    (try dsimp only)
    have hb46 : Below w4.heap.size w4 w6 := hx.1.trans (hb6.mono hx.1.size)
    refine hK.out _ _ (fun _ => HSTW.out w6 hb46) ?_
    clear hK K
    try simp only [Act.put, List.getElem_toArray, List.getElem_cons_zero, List.getElem_cons_succ, List.setIfInBounds_toArray, List.set_cons_zero, List.set_cons_succ]
    have hx6 := HSTW.out w6 hb46
    refine tR 9 rfl hx6 (v := ?v21) (.inl ⟨by rfl, ?y21⟩) ?r21
    case y21 => intro w' h; (try dsimp only at h); go_simp; try with_reducible rfl
    refine tR 10 rfl hx6 (v := ?v22) (.inl ⟨by rfl, ?y22⟩) ?r22
    case y22 => intro w' h; (try dsimp only at h); go_simp; try with_reducible rfl
    refine tR 11 rfl hx6 (v := ?v23) (.inl ⟨by rfl, ?y23⟩) ?r23
    case y23 => intro w' h; (try dsimp only at h); go_simp; try with_reducible rfl
    try simp only [Act.put, List.getElem_toArray, List.getElem_cons_zero, List.getElem_cons_succ, List.setIfInBounds_toArray, List.set_cons_zero, List.set_cons_succ]
    refine E_done (by kernel_rfl) ?_ _
    clear hx hx6 hh h100 hws
    have KF6 := Lib.hid (KF4.out.belowS hb46)
    have KS6 := Lib.hid (KS4.out.belowS hb46)
    have KA6 := Lib.hid (KA4.out.belowS hb46)
    have KR6 := Lib.hid (KR4.out.belowS hb46)
    have HB6 := Lib.hid (HB4.out.trans (Turn.of_below hb46))
    have HSZ6 := Lib.hid (Nat.le_trans HSZ4.out hb46.size)
    clear hb46 hb6
    obtain ⟨f0, f1⟩ := frm_cells KF6.out
    have fl := KF6.out.lt
    obtain ⟨d0, d1, d2, d3, d4, d5⟩ := sto_cells (S := S) KS6.out
    have dl := KS6.out.lt
    obtain ⟨c0, c1, c2, c3, c4, c5, c6, c7, c8⟩ := (show w6.cell? ⟨w.heap.size + 1 + 1, 0, none⟩ = some (.int .i64 kd) ∧ w6.cell? ⟨w.heap.size + 1 + 1, 1, none⟩ = some (.int .i64 (pi : Int)) ∧ w6.cell? ⟨w.heap.size + 1 + 1, 2, none⟩ = some (.int .i64 ld) ∧ w6.cell? ⟨w.heap.size + 1 + 1, 3, none⟩ = some (.string nm) ∧ w6.cell? ⟨w.heap.size + 1 + 1, 4, none⟩ = some (.string ot) ∧ w6.cell? ⟨w.heap.size + 1 + 1, 5, none⟩ = some (.int .i64 dy) ∧ w6.cell? ⟨w.heap.size + 1 + 1, 6, none⟩ = some (.int .i64 pr) ∧ w6.cell? ⟨w.heap.size + 1 + 1, 7, none⟩ = some (.int .i64 rl) ∧ w6.cell? ⟨w.heap.size + 1 + 1, 8, none⟩ = some (.int .i64 rh) from ⟨KA6.out.cell 0, KA6.out.cell 1, KA6.out.cell 2, KA6.out.cell 3, KA6.out.cell 4, KA6.out.cell 5, KA6.out.cell 6, KA6.out.cell 7, KA6.out.cell 8⟩)
    have cl := KA6.out.lt
    obtain ⟨rr0, rr1, rr2, rr3, rr4, rr5⟩ := zero_cells KR6.out
    have rrl := KR6.out.lt
    have rrz0 := KR6.out.frozen 0
    have rrz1 := KR6.out.frozen 1
    have rrz2 := KR6.out.frozen 2
    have rrz3 := KR6.out.frozen 3
    have rrz4 := KR6.out.frozen 4
    have rrz5 := KR6.out.frozen 5
    go_wp2_with fail
    refine put_end S KR6.out (Φ := bodyPost _ _ _ _ _) (fun wf ht kf => ?_)
    obtain ⟨g0, g1, g2, g3, g4, g5⟩ := sto_cells (S := S) kf
    exact bodyPost_ret (v := .tuple #[.agg #[.int .i64 S.year, .slice S.la S.last.length S.lc, .slice S.ga S.given.length S.gc, .slice S.ha S.heaps.length S.hc, .slice S.ua S.used.length S.uc, .slice S.wa S.waste.length S.wc], .int .i64 3]) (by simp [results, Tryz.results42, go_sem, g0, g1, g2, g3, g4, g5]) rfl (ChMade.err S HV.out (by decide) (HB6.out.far ht (fun k e => by rw [show k = w.heap.size + 1 + 1 + 1 from e]; omega)))
  have h100' : decide ((100000 : Int) < allM S + ld) = false := decide_eq_false h100
  have H100 := Lib.hid (show allM S + ld ≤ 100000 by omega)
  refine wp_region_E 12 (fun w' : World => Below w4.heap.size w4 w' ∧ ((w'.cell? ⟨w.heap.size + 1, 0, none⟩ = some (.int .i64 S.year) ∧ w'.cell? ⟨w.heap.size + 1, 1, none⟩ = some (.slice S.la S.last.length S.lc) ∧ w'.cell? ⟨w.heap.size + 1, 2, none⟩ = some (.slice S.ga S.given.length S.gc) ∧ w'.cell? ⟨w.heap.size + 1, 3, none⟩ = some (.slice S.ha S.heaps.length S.hc) ∧ w'.cell? ⟨w.heap.size + 1, 4, none⟩ = some (.slice S.ua S.used.length S.uc) ∧ w'.cell? ⟨w.heap.size + 1, 5, none⟩ = some (.slice S.wa S.waste.length S.wc)) ∧ w'.cell? ⟨w.heap.size + 1 + 1, 2, none⟩ = some (.int .i64 ld))) (by kernel_rfl) ?_
  refine tR 0 rfl hx (v := ?v24) (.inl ⟨by rfl, ?y24⟩) ?r24
  case y24 => intro w' h; (try dsimp only at h); go_simp; try with_reducible rfl
  refine tR 1 rfl hx (v := ?v25) (.inl ⟨by rfl, ?y25⟩) ?r25
  case y25 => intro w' h; (try dsimp only at h); go_simp; try with_reducible rfl
  refine tR 2 rfl hx (v := ?v26) (.inl ⟨by rfl, ?y26⟩) ?r26
  case y26 => intro w' h; (try dsimp only at h); go_simp; try with_reducible rfl
  try simp only [Act.put, List.getElem_toArray, List.getElem_cons_zero, List.getElem_cons_succ, List.setIfInBounds_toArray, List.set_cons_zero, List.set_cons_succ]
  refine tR 3 rfl hx (v := ?v27) (.inl ⟨by rfl, ?y27⟩) ?r27
  case y27 => intro w' h; (try dsimp only at h); go_simp; try with_reducible rfl
  refine tR 4 rfl hx (v := ?v28) (.inl ⟨by rfl, ?y28⟩) ?r28
  case y28 => intro w' h; (try dsimp only at h); go_simp; try with_reducible rfl
  refine tR 5 rfl hx (v := ?v29) (.inl ⟨by rfl, ?y29⟩) ?r29
  case y29 => intro w' h; (try dsimp only at h); go_simp; try with_reducible rfl
  try simp only [Act.put, List.getElem_toArray, List.getElem_cons_zero, List.getElem_cons_succ, List.setIfInBounds_toArray, List.set_cons_zero, List.set_cons_succ]
  refine tR 7 rfl hx (v := ?v30) (.inl ⟨by rfl, ?y30⟩) ?r30
  case y30 => intro w' h; (try dsimp only at h); go_simp; try with_reducible rfl
  refine tR 8 rfl hx (v := ?v31) (.inl ⟨by rfl, ?y31⟩) ?r31
  case y31 => intro w' h; (try dsimp only at h); go_simp; try with_reducible rfl
  try simp only [Act.put, List.getElem_toArray, List.getElem_cons_zero, List.getElem_cons_succ, List.setIfInBounds_toArray, List.set_cons_zero, List.set_cons_succ]
  refine E_step (i := 6) (o := _) (by kernel_rfl) rfl (fun K hK => ?_)
  go_simp
  refine (HTO.out _ (HS4.out.below hx.1).store).mono ?_
  rintro e w6 ⟨rfl, hb6⟩
  (try dsimp only)
  have hb46 : Below w4.heap.size w4 w6 := hx.1.trans (hb6.mono hx.1.size)
  refine hK.out _ _ (fun _ => HSTW.out w6 hb46) ?_
  clear hK K
  try simp only [Act.put, List.getElem_toArray, List.getElem_cons_zero, List.getElem_cons_succ, List.setIfInBounds_toArray, List.set_cons_zero, List.set_cons_succ]
  have hx6 := HSTW.out w6 hb46
  refine tR 9 rfl hx6 (v := ?v32) (.inl ⟨by rfl, ?y32⟩) ?r32
  case y32 => intro w' h; (try dsimp only at h); go_simp; try with_reducible rfl
  refine tR 10 rfl hx6 (v := ?v33) (.inl ⟨by rfl, ?y33⟩) ?r33
  case y33 => intro w' h; (try dsimp only at h); go_simp; try with_reducible rfl
  refine tR 11 rfl hx6 (v := ?v34) (.inl ⟨by rfl, ?y34⟩) ?r34
  case y34 => intro w' h; (try dsimp only at h); go_simp; try with_reducible rfl
  try simp only [Act.put, List.getElem_toArray, List.getElem_cons_zero, List.getElem_cons_succ, List.setIfInBounds_toArray, List.set_cons_zero, List.set_cons_succ]
  refine E_done (by kernel_rfl) ?_ _
  clear hx hx6 hh h100 hws
  have KF6 := Lib.hid (KF4.out.belowS hb46)
  have KS6 := Lib.hid (KS4.out.belowS hb46)
  have KA6 := Lib.hid (KA4.out.belowS hb46)
  have KR6 := Lib.hid (KR4.out.belowS hb46)
  have KX6 := Lib.hid (KX4.out.belowS hb46)
  have HB6 := Lib.hid (HB4.out.trans (Turn.of_below hb46))
  have HSZ6 := Lib.hid (Nat.le_trans HSZ4.out hb46.size)
  have HS6 := Lib.hid (HS4.out.below hb46)
  clear hb46 hb6 KF4 KS4 KA4 KR4 KX4 HS4
  obtain ⟨gl2, hla, hgl, hcap, hcx, l0, lz⟩ := Rst.numAt HS6.out.last HLQ.out
  have e1 : gl2 = gl := by rw [HLA.out] at hla; injection hla with hla; injection hla with h1; exact h1.symm
  subst e1
  have hpi2 : (pi : Int) < (S.last.length : Int) := by have := HYR.out.2.1; have := HPI.out; omega
  have hgl2 := hgl.2
  obtain ⟨f0, f1⟩ := frm_cells KF6.out
  have fl := KF6.out.lt
  obtain ⟨d0, d1, d2, d3, d4, d5⟩ := sto_cells (S := S) KS6.out
  have dl := KS6.out.lt
  obtain ⟨c0, c1, c2, c3, c4, c5, c6, c7, c8⟩ := (show w6.cell? ⟨w.heap.size + 1 + 1, 0, none⟩ = some (.int .i64 kd) ∧ w6.cell? ⟨w.heap.size + 1 + 1, 1, none⟩ = some (.int .i64 (pi : Int)) ∧ w6.cell? ⟨w.heap.size + 1 + 1, 2, none⟩ = some (.int .i64 ld) ∧ w6.cell? ⟨w.heap.size + 1 + 1, 3, none⟩ = some (.string nm) ∧ w6.cell? ⟨w.heap.size + 1 + 1, 4, none⟩ = some (.string ot) ∧ w6.cell? ⟨w.heap.size + 1 + 1, 5, none⟩ = some (.int .i64 dy) ∧ w6.cell? ⟨w.heap.size + 1 + 1, 6, none⟩ = some (.int .i64 pr) ∧ w6.cell? ⟨w.heap.size + 1 + 1, 7, none⟩ = some (.int .i64 rl) ∧ w6.cell? ⟨w.heap.size + 1 + 1, 8, none⟩ = some (.int .i64 rh) from ⟨KA6.out.cell 0, KA6.out.cell 1, KA6.out.cell 2, KA6.out.cell 3, KA6.out.cell 4, KA6.out.cell 5, KA6.out.cell 6, KA6.out.cell 7, KA6.out.cell 8⟩)
  have cl := KA6.out.lt
  rw [hla] at d1
  clear hla
  go_upto_region 15 with fail
  have hT := HS6.out.setLast (l := S.last.set pi S.year) (by simp) ((Turn.of_below (X := fun k => S.la.map (·.block) = some k) (Below.refl _ w6)).setCell (B := gl2) (by rw [HLA.out]; rfl) pi (.int .i64 S.year)) (num_write S.year HS6.out.last HLQ.out HLA.out)
  have ht : Turn (fun k => k = gl2) w6 (w6.setCell ⟨gl2, pi, none⟩ (.int .i64 S.year)) := (Turn.of_below (X := fun k => k = gl2) (Below.refl _ w6)).setCell (B := gl2) rfl pi _
  generalize w6.setCell ⟨gl2, pi, none⟩ (.int .i64 S.year) = w7 at *
  have HGL := Lib.hid (show base ≤ gl2 ∧ gl2 < w.heap.size from own_geq HS.out.last (k := gl2) (by rw [HLA.out]; rfl))
  have KF7 := Lib.hid (ht.blk KF6.out (fun e => by have := HGL.out; have := (show w.heap.size = gl2 from e); omega))
  have KS7 := Lib.hid (ht.blk KS6.out (fun e => by have := HGL.out; have := (show w.heap.size + 1 = gl2 from e); omega))
  have KA7 := Lib.hid (ht.blk KA6.out (fun e => by have := HGL.out; have := (show w.heap.size + 1 + 1 = gl2 from e); omega))
  have KR7 := Lib.hid (ht.blk KR6.out (fun e => by have := HGL.out; have := (show w.heap.size + 1 + 1 + 1 = gl2 from e); omega))
  have KX7 := Lib.hid (ht.blk KX6.out (fun e => by have := HGL.out; have := HW23.out; have := (show bx = gl2 from e); omega))
  have HS7 := Lib.hid hT
  have HB7 := Lib.hid (HB6.out.trans (ht.mono (fun k _ e => by rw [show k = gl2 from e]; exact .inl (by rw [HLA.out]; rfl))))
  have HSZ7 := Lib.hid (Nat.le_trans HSZ6.out ht.size)
  clear l0 lz hgl hcap hcx hpi2 hgl2 hT ht KF6 KS6 KA6 KR6 KX6
  clear f0 f1 fl d0 d1 d2 d3 d4 d5 dl c0 c1 c2 c3 c4 c5 c6 c7 c8 cl
  have hgpi : pi < S.given.length := by have := HST.out.2.1; have := HPI.out; omega
  have hgq : S.given[pi]? = some S.given[pi] := List.getElem?_eq_getElem hgpi
  have HGVB := Lib.hid (HGV.out _ (List.mem_of_getElem? hgq))
  have HGVV := Lib.hid (show intAt S.given (pi : Int).toNat = S.given[pi] by unfold intAt; rw [Int.toNat_natCast, hgq]; rfl)
  have HGQ := Lib.hid hgq
  generalize S.given[pi] = gv at *
  obtain ⟨gg, hga, hgg, hcap, hcx, l0, lz⟩ := Rst.numAt (w := w7) (a := S.ga) (c := S.gc) (l := S.given) HS7.out.given HGQ.out
  have HGA := Lib.hid hga
  have hpi2 : (pi : Int) < (S.given.length : Int) := by have := HST.out.2.1; have := HPI.out; omega
  have hgg2 := hgg.2
  have hwg : IntKind.i64.wrap (gv + ld) = gv + ld := by have := HGVB.out; have := HLDB.out; rw [IntKind.wrap_i64]; omega
  obtain ⟨f0, f1⟩ := frm_cells KF7.out
  have fl := KF7.out.lt
  obtain ⟨d0, d1, d2, d3, d4, d5⟩ := sto_cells (S := S) KS7.out
  have dl := KS7.out.lt
  obtain ⟨c0, c1, c2, c3, c4, c5, c6, c7, c8⟩ := (show w7.cell? ⟨w.heap.size + 1 + 1, 0, none⟩ = some (.int .i64 kd) ∧ w7.cell? ⟨w.heap.size + 1 + 1, 1, none⟩ = some (.int .i64 (pi : Int)) ∧ w7.cell? ⟨w.heap.size + 1 + 1, 2, none⟩ = some (.int .i64 ld) ∧ w7.cell? ⟨w.heap.size + 1 + 1, 3, none⟩ = some (.string nm) ∧ w7.cell? ⟨w.heap.size + 1 + 1, 4, none⟩ = some (.string ot) ∧ w7.cell? ⟨w.heap.size + 1 + 1, 5, none⟩ = some (.int .i64 dy) ∧ w7.cell? ⟨w.heap.size + 1 + 1, 6, none⟩ = some (.int .i64 pr) ∧ w7.cell? ⟨w.heap.size + 1 + 1, 7, none⟩ = some (.int .i64 rl) ∧ w7.cell? ⟨w.heap.size + 1 + 1, 8, none⟩ = some (.int .i64 rh) from ⟨KA7.out.cell 0, KA7.out.cell 1, KA7.out.cell 2, KA7.out.cell 3, KA7.out.cell 4, KA7.out.cell 5, KA7.out.cell 6, KA7.out.cell 7, KA7.out.cell 8⟩)
  have cl := KA7.out.lt
  have HGGW := Lib.hid (show base ≤ gg ∧ gg < w.heap.size from own_geq HS.out.given (k := gg) (by rw [hga]; rfl))
  rw [hga] at d2
  clear hgq hga hgpi
  go_still_tail 14, (by kernel_rfl)
  change wpList _ _ _ _ _ w7.drew
  have hbd : Below w7.heap.size w7 w7.drew := (Below.refl _ w7).drew
  clear f0 f1 fl d0 d1 d2 d3 d4 d5 dl c0 c1 c2 c3 c4 c5 c6 c7 c8 cl
  clear l0 lz hgg2
  have KF8 := Lib.hid (KF7.out.belowS hbd)
  have KS8 := Lib.hid (KS7.out.belowS hbd)
  have KA8 := Lib.hid (KA7.out.belowS hbd)
  have KR8 := Lib.hid (KR7.out.belowS hbd)
  have KX8 := Lib.hid (KX7.out.belowS hbd)
  have HB8 := Lib.hid (HB7.out.trans (Turn.of_below hbd))
  have HSZ8 := Lib.hid (Nat.le_trans HSZ7.out hbd.size)
  have HS8 := Lib.hid (HS7.out.below hbd)
  clear hbd KF7 KS7 KA7 KR7 KX7
  generalize w7.drew = w8 at *
  obtain ⟨gg2, hga2, hgg2, _, _, l0, lz⟩ := Rst.numAt (w := w8) (a := S.ga) (c := S.gc) (l := S.given) HS8.out.given HGQ.out
  obtain rfl : gg2 = gg := by have h1 := HGA.out; rw [h1] at hga2; injection hga2 with h2; injection h2 with h3; exact h3.symm
  have lg8 := hgg2.2
  go_upto_region 16 with fail
  have hT := HS8.out.setGiven (l := S.given.set pi (gv + ld)) (by simp) ((Turn.of_below (X := fun k => S.ga.map (·.block) = some k) (Below.refl _ w8)).setCell (B := gg2) (by rw [HGA.out]; rfl) pi (.int .i64 (gv + ld))) (num_write (a := S.ga) (c := S.gc) (l := S.given) (gv + ld) HS8.out.given HGQ.out HGA.out)
  have ht : Turn (fun k => k = gg2) w8 (w8.setCell ⟨gg2, pi, none⟩ (.int .i64 (gv + ld))) := (Turn.of_below (X := fun k => k = gg2) (Below.refl _ w8)).setCell (B := gg2) rfl pi _
  generalize w8.setCell ⟨gg2, pi, none⟩ (.int .i64 (gv + ld)) = w9 at *
  have KF9 := Lib.hid (ht.blk KF8.out (fun e => by have := HGGW.out; have := (show w.heap.size = gg2 from e); omega))
  have KS9 := Lib.hid (ht.blk KS8.out (fun e => by have := HGGW.out; have := (show w.heap.size + 1 = gg2 from e); omega))
  have KA9 := Lib.hid (ht.blk KA8.out (fun e => by have := HGGW.out; have := (show w.heap.size + 1 + 1 = gg2 from e); omega))
  have KR9 := Lib.hid (ht.blk KR8.out (fun e => by have := HGGW.out; have := (show w.heap.size + 1 + 1 + 1 = gg2 from e); omega))
  have KX9 := Lib.hid (ht.blk KX8.out (fun e => by have := HGGW.out; have := HW23.out; have := (show bx = gg2 from e); omega))
  have HS9 := Lib.hid hT
  have HB9 := Lib.hid (HB8.out.trans (ht.mono (fun k _ e => by rw [show k = gg2 from e]; exact .inr (.inl (by rw [HGA.out]; rfl)))))
  have HSZ9 := Lib.hid (Nat.le_trans HSZ8.out ht.size)
  clear l0 lz hga2 hgg hgg2 lg8 hcap hcx hpi2 hwg hT ht KF8 KS8 KA8 KR8 KX8
  have kE1 := Blk.new w9 79 #[.int .i64 (pi : Int), .int .i64 ld]
  have hbE1 : Below w9.heap.size w9 (w9.alloc (.cells #[.int .i64 (pi : Int), .int .i64 ld] 79)) := (Below.refl _ w9).alloc (Nat.le_refl _) _
  have hbE2 : Below w9.heap.size w9 ((w9.alloc (.cells #[.int .i64 (pi : Int), .int .i64 ld] 79)).alloc (.cells #[.string nm, .int .i64 x.crop, .int .i64 1, .slice (some ⟨w9.heap.size, 0, none⟩) 1 1, .int .i64 0, .int .i64 x.wlo, .int .i64 x.whi] 53)) := hbE1.alloc (by simp) _
  obtain ⟨i3, q0, q1, q2, q3⟩ := info_parts info_heap
  have HBE := Lib.hid hbE2
  have HOE := Lib.hid (own_below HS9.out.heaps hbE2)
  have HNE := Lib.hid (show ∀ jj u, ([.string nm, .int .i64 x.crop, .int .i64 1, .slice (some ⟨w9.heap.size, 0, none⟩) 1 1, .int .i64 0, .int .i64 x.wlo, .int .i64 x.whi] : List Value)[jj]? = some u → ((w9.alloc (.cells #[.int .i64 (pi : Int), .int .i64 ld] 79)).alloc (.cells #[.string nm, .int .i64 x.crop, .int .i64 1, .slice (some ⟨w9.heap.size, 0, none⟩) 1 1, .int .i64 0, .int .i64 x.wlo, .int .i64 x.whi] 53)).cell? ((⟨w9.heap.size + 1, 0, none⟩ : Addr).add jj) = some u from by
    have := World.news_of_block (Blk.new (w9.alloc (.cells #[.int .i64 (pi : Int), .int .i64 ld] 79)) 53 #[.string nm, .int .i64 x.crop, .int .i64 1, .slice (some ⟨w9.heap.size, 0, none⟩) 1 1, .int .i64 0, .int .i64 x.wlo, .int .i64 x.whi])
    simpa using this)
  have HONE := Lib.hid (show ∀ u ∈ ([.string nm, .int .i64 x.crop, .int .i64 1, .slice (some ⟨w9.heap.size, 0, none⟩) 1 1, .int .i64 0, .int .i64 x.wlo, .int .i64 x.whi] : List Value), u.oneCell' = true by simp [Value.oneCell'])
  have HBS := Lib.hid (show base ≤ ((w9.alloc (.cells #[.int .i64 (pi : Int), .int .i64 ld] 79)).alloc (.cells #[.string nm, .int .i64 x.crop, .int .i64 1, .slice (some ⟨w9.heap.size, 0, none⟩) 1 1, .int .i64 0, .int .i64 x.wlo, .int .i64 x.whi] 53)).heap.size from Nat.le_trans HSZ9.out hbE2.size)
  have HPE := Lib.hid (show IsPrts ((w9.alloc (.cells #[.int .i64 (pi : Int), .int .i64 ld] 79)).alloc (.cells #[.string nm, .int .i64 x.crop, .int .i64 1, .slice (some ⟨w9.heap.size, 0, none⟩) 1 1, .int .i64 0, .int .i64 x.wlo, .int .i64 x.whi] 53)) (some ⟨w9.heap.size, 0, none⟩) 1 [⟨(pi : Int), ld⟩] from
    .inr ⟨w9.heap.size, 0, rfl, (kE1.alloc _).lt, by simp, by omega, fun j y hj => by
      cases j with
      | zero =>
        obtain rfl : (⟨(pi : Int), ld⟩ : Prt) = y := by simpa using hj
        exact ⟨(kE1.alloc _).cell 0, (kE1.alloc _).cell 1⟩
      | succ j => simp at hj⟩)
  have HSZN := Lib.hid (show w.heap.size + 1 + 1 + 1 < w9.heap.size from KR9.out.lt)
  clear kE1 hbE1 hbE2
  obtain ⟨f0, f1⟩ := frm_cells KF9.out
  have fl := KF9.out.lt
  obtain ⟨d0, d1, d2, d3, d4, d5⟩ := sto_cells (S := S) KS9.out
  have dl := KS9.out.lt
  obtain ⟨c0, c1, c2, c3, c4, c5, c6, c7, c8⟩ := (show w9.cell? ⟨w.heap.size + 1 + 1, 0, none⟩ = some (.int .i64 kd) ∧ w9.cell? ⟨w.heap.size + 1 + 1, 1, none⟩ = some (.int .i64 (pi : Int)) ∧ w9.cell? ⟨w.heap.size + 1 + 1, 2, none⟩ = some (.int .i64 ld) ∧ w9.cell? ⟨w.heap.size + 1 + 1, 3, none⟩ = some (.string nm) ∧ w9.cell? ⟨w.heap.size + 1 + 1, 4, none⟩ = some (.string ot) ∧ w9.cell? ⟨w.heap.size + 1 + 1, 5, none⟩ = some (.int .i64 dy) ∧ w9.cell? ⟨w.heap.size + 1 + 1, 6, none⟩ = some (.int .i64 pr) ∧ w9.cell? ⟨w.heap.size + 1 + 1, 7, none⟩ = some (.int .i64 rl) ∧ w9.cell? ⟨w.heap.size + 1 + 1, 8, none⟩ = some (.int .i64 rh) from ⟨KA9.out.cell 0, KA9.out.cell 1, KA9.out.cell 2, KA9.out.cell 3, KA9.out.cell 4, KA9.out.cell 5, KA9.out.cell 6, KA9.out.cell 7, KA9.out.cell 8⟩)
  have cl := KA9.out.lt
  obtain ⟨x0, x1, x2, x3, x4, x5, x6, x7, x8⟩ := (show w9.cell? ⟨bx, 0, none⟩ = some (.string x.name) ∧ w9.cell? ⟨bx, 1, none⟩ = some (.int .i64 x.crop) ∧ w9.cell? ⟨bx, 2, none⟩ = some (.int .i64 x.size) ∧ w9.cell? ⟨bx, 3, none⟩ = some (.int .i64 x.ylo) ∧ w9.cell? ⟨bx, 4, none⟩ = some (.int .i64 x.yhi) ∧ w9.cell? ⟨bx, 5, none⟩ = some (.int .i64 x.rest) ∧ w9.cell? ⟨bx, 6, none⟩ = some (.int .i64 x.wlo) ∧ w9.cell? ⟨bx, 7, none⟩ = some (.int .i64 x.whi) ∧ w9.cell? ⟨bx, 8, none⟩ = some (.int .i64 x.cost) from ⟨KX9.out.cell 0, KX9.out.cell 1, KX9.out.cell 2, KX9.out.cell 3, KX9.out.cell 4, KX9.out.cell 5, KX9.out.cell 6, KX9.out.cell 7, KX9.out.cell 8⟩)
  have xl := KX9.out.lt
  go_upto_region 17 with (at_builtin; refine wpList_append_lies _ rfl _ _ 26 rfl base 53 i3 (.agg #[.string ⟨#[]⟩, .int .i64 0, .int .i64 0, .slice none 0 0, .int .i64 0, .int .i64 0, .int .i64 0]) 7 80 Tryz.underlying26 q0 q1 q2 q3 rfl (by decide) (.slice S.ha S.heaps.length S.hc) S.heaps.length (S.heaps.flatMap cellsHep) rfl HOE.out ⟨w9.heap.size + 1, 0, none⟩ 1 1 [.string nm, .int .i64 x.crop, .int .i64 1, .slice (some ⟨w9.heap.size, 0, none⟩) 1 1, .int .i64 0, .int .i64 x.wlo, .int .i64 x.whi] rfl rfl HNE.out HONE.out (by decide) (by have := H16.out; unfold maxLen; omega) (by have := H16.out; omega) HBS.out _ rfl ?_; intro g cap w10 howo hgrow hat hlto; have HOO := Lib.hid howo; have HGO := Lib.hid hgrow; have HAT := Lib.hid hat; have KX := Lib.hid ((Turn.of_grown hgrow).blk (KS9.out.belowS HBE.out) (fun e => by rw [rowOf_own'] at e; have := (own_geq HS.out.heaps e).2; omega)); have xc := KX.out.cell 3; have xf := KX.out.frozen 3; have xxl := KX.out.lt; clear howo hgrow hat hlto)
  have kf : Blk (w10.setCell ⟨w.heap.size + 1, 3, none⟩ (.slice (some ⟨g, 0, none⟩) (S.heaps.length + 1) cap)) (w.heap.size + 1) #[.int .i64 S.year, .slice S.la S.last.length S.lc, .slice S.ga S.given.length S.gc, .slice (some ⟨g, 0, none⟩) (S.heaps.length + 1) cap, .slice S.ua S.used.length S.uc, .slice S.wa S.waste.length S.wc] 29 := KX.out.set 3 _
  have ht : Turn (fun k => k = w.heap.size + 1) w10 (w10.setCell ⟨w.heap.size + 1, 3, none⟩ (.slice (some ⟨g, 0, none⟩) (S.heaps.length + 1) cap)) := (Turn.of_below (X := fun k => k = w.heap.size + 1) (Below.refl _ w10)).setCell (B := w.heap.size + 1) rfl 3 _
  generalize w10.setCell ⟨w.heap.size + 1, 3, none⟩ (.slice (some ⟨g, 0, none⟩) (S.heaps.length + 1) cap) = w11 at *
  have HTU := Lib.hid (show Turn (fun k => S.ha.map (·.block) = some k) ((w9.alloc (.cells #[.int .i64 (pi : Int), .int .i64 ld] 79)).alloc (.cells #[.string nm, .int .i64 x.crop, .int .i64 1, .slice (some ⟨w9.heap.size, 0, none⟩) 1 1, .int .i64 0, .int .i64 x.wlo, .int .i64 x.whi] 53)) w10 by
    have := Turn.of_grown HGO.out
    simpa only [rowOf_own'] using this)
  have HATG := Lib.hid (show S.ha.map (·.block) = some g ∨ ((w9.alloc (.cells #[.int .i64 (pi : Int), .int .i64 ld] 79)).alloc (.cells #[.string nm, .int .i64 x.crop, .int .i64 1, .slice (some ⟨w9.heap.size, 0, none⟩) 1 1, .int .i64 0, .int .i64 x.wlo, .int .i64 x.whi] 53)).heap.size ≤ g by
    rcases HAT.out with h1 | h1
    · rw [rowOf_own'] at h1; exact .inl h1
    · exact .inr (by omega))
  have hRn := (HS9.out.below HBE.out).pushHeap (y := ⟨nm, x.crop, 1, some ⟨w9.heap.size, 0, none⟩, 1, [⟨(pi : Int), ld⟩], 0, x.wlo, x.whi⟩) HTU.out HATG.out HOO.out ⟨HPE.out, HNM.out⟩ (by
    refine HS9.out.cool HSZ9.out (fun k e => ?_)
    have e2 : w9.heap.size = k := Option.some.inj e
    subst e2
    exact ⟨Nat.le_refl _, by simp; omega⟩)
  have HOFF := Lib.hid (show ∀ B, B < w9.heap.size → Off B S → Off B { S with last := S.last.set pi S.year, given := S.given.set pi (gv + ld), ha := some ⟨g, 0, none⟩, hc := cap, heaps := S.heaps ++ [⟨nm, x.crop, 1, some ⟨w9.heap.size, 0, none⟩, 1, [⟨(pi : Int), ld⟩], 0, x.wlo, x.whi⟩] } from fun B hB ho => ⟨ho.la, ho.ga, fun e => by
      have e2 : g = B := Option.some.inj e
      subst e2
      rcases HATG.out with h1 | h1
      · exact ho.ha h1
      · have := HBE.out.size; omega, ho.ua, ho.wa, fun y hy => by
      rcases List.mem_append.1 hy with hy | hy
      · exact ho.pa y hy
      · obtain rfl := List.mem_singleton.1 hy
        intro e
        have e2 : w9.heap.size = B := Option.some.inj e
        omega⟩)
  have HSOFF := Lib.hid (fun B (hB : w.heap.size ≤ B) => HS.out.off (B := B) (.inl hB))
  have HRF := Lib.hid (hRn.turnAt ht (HOFF.out _ (by have := HSZN.out; omega) (HSOFF.out _ (by omega))))
  have HTB := Lib.hid (show Turn (Hot S) w w11 from (((HB9.out.trans (Turn.of_below HBE.out)).trans (HTU.out.mono (fun k _ e => .inr (.inr e)))).far ht (fun k e => by rw [show k = w.heap.size + 1 from e]; omega)))
  have KSF := Lib.hid kf
  have KRF := Lib.hid (ht.blk ((Turn.of_grown HGO.out).blk (KR9.out.belowS HBE.out) (fun e => by rw [rowOf_own'] at e; have := (own_geq HS.out.heaps e).2; omega)) (fun e => by have := (show w.heap.size + 1 + 1 + 1 = w.heap.size + 1 from e); omega))
  clear xc xf xxl kf ht hRn
  clear f0 f1 fl d0 d1 d2 d3 d4 d5 dl c0 c1 c2 c3 c4 c5 c6 c7 c8 cl
  clear x0 x1 x2 x3 x4 x5 x6 x7 x8 xl
  obtain ⟨d0, d1, d2, d3, d4, d5⟩ := (show w11.cell? ⟨w.heap.size + 1, 0, none⟩ = some (.int .i64 S.year) ∧ w11.cell? ⟨w.heap.size + 1, 1, none⟩ = some (.slice S.la S.last.length S.lc) ∧ w11.cell? ⟨w.heap.size + 1, 2, none⟩ = some (.slice S.ga S.given.length S.gc) ∧ w11.cell? ⟨w.heap.size + 1, 3, none⟩ = some (.slice (some ⟨g, 0, none⟩) (S.heaps.length + 1) cap) ∧ w11.cell? ⟨w.heap.size + 1, 4, none⟩ = some (.slice S.ua S.used.length S.uc) ∧ w11.cell? ⟨w.heap.size + 1, 5, none⟩ = some (.slice S.wa S.waste.length S.wc) from ⟨KSF.out.cell 0, KSF.out.cell 1, KSF.out.cell 2, KSF.out.cell 3, KSF.out.cell 4, KSF.out.cell 5⟩)
  have dl := KSF.out.lt
  obtain ⟨rr0, rr1, rr2, rr3, rr4, rr5⟩ := zero_cells KRF.out
  have rrl := KRF.out.lt
  have rrz0 := KRF.out.frozen 0
  have rrz1 := KRF.out.frozen 1
  have rrz2 := KRF.out.frozen 2
  have rrz3 := KRF.out.frozen 3
  have rrz4 := KRF.out.frozen 4
  have rrz5 := KRF.out.frozen 5
  go_wp2_with fail
  have kf : Blk ((((((w11.setCell ⟨w.heap.size + 1 + 1 + 1, 0, none⟩ (.int .i64 S.year)).setCell ⟨w.heap.size + 1 + 1 + 1, 1, none⟩ (.slice S.la S.last.length S.lc)).setCell ⟨w.heap.size + 1 + 1 + 1, 2, none⟩ (.slice S.ga S.given.length S.gc)).setCell ⟨w.heap.size + 1 + 1 + 1, 3, none⟩ (.slice (some ⟨g, 0, none⟩) (S.heaps.length + 1) cap)).setCell ⟨w.heap.size + 1 + 1 + 1, 4, none⟩ (.slice S.ua S.used.length S.uc)).setCell ⟨w.heap.size + 1 + 1 + 1, 5, none⟩ (.slice S.wa S.waste.length S.wc)) (w.heap.size + 1 + 1 + 1) #[.int .i64 S.year, .slice S.la S.last.length S.lc, .slice S.ga S.given.length S.gc, .slice (some ⟨g, 0, none⟩) (S.heaps.length + 1) cap, .slice S.ua S.used.length S.uc, .slice S.wa S.waste.length S.wc] 29 := ((((((KRF.out.set 0 (.int .i64 S.year)).set 1 (.slice S.la S.last.length S.lc)).set 2 (.slice S.ga S.given.length S.gc)).set 3 (.slice (some ⟨g, 0, none⟩) (S.heaps.length + 1) cap)).set 4 (.slice S.ua S.used.length S.uc)).set 5 (.slice S.wa S.waste.length S.wc))
  have ht : Turn (fun k => k = w.heap.size + 1 + 1 + 1) w11 ((((((w11.setCell ⟨w.heap.size + 1 + 1 + 1, 0, none⟩ (.int .i64 S.year)).setCell ⟨w.heap.size + 1 + 1 + 1, 1, none⟩ (.slice S.la S.last.length S.lc)).setCell ⟨w.heap.size + 1 + 1 + 1, 2, none⟩ (.slice S.ga S.given.length S.gc)).setCell ⟨w.heap.size + 1 + 1 + 1, 3, none⟩ (.slice (some ⟨g, 0, none⟩) (S.heaps.length + 1) cap)).setCell ⟨w.heap.size + 1 + 1 + 1, 4, none⟩ (.slice S.ua S.used.length S.uc)).setCell ⟨w.heap.size + 1 + 1 + 1, 5, none⟩ (.slice S.wa S.waste.length S.wc)) := (((((((Turn.of_below (X := fun k => k = w.heap.size + 1 + 1 + 1) (Below.refl _ w11)).setCell (B := w.heap.size + 1 + 1 + 1) rfl 0 (.int .i64 S.year)).setCell (B := w.heap.size + 1 + 1 + 1) rfl 1 (.slice S.la S.last.length S.lc)).setCell (B := w.heap.size + 1 + 1 + 1) rfl 2 (.slice S.ga S.given.length S.gc)).setCell (B := w.heap.size + 1 + 1 + 1) rfl 3 (.slice (some ⟨g, 0, none⟩) (S.heaps.length + 1) cap)).setCell (B := w.heap.size + 1 + 1 + 1) rfl 4 (.slice S.ua S.used.length S.uc)).setCell (B := w.heap.size + 1 + 1 + 1) rfl 5 (.slice S.wa S.waste.length S.wc))
  generalize ((((((w11.setCell ⟨w.heap.size + 1 + 1 + 1, 0, none⟩ (.int .i64 S.year)).setCell ⟨w.heap.size + 1 + 1 + 1, 1, none⟩ (.slice S.la S.last.length S.lc)).setCell ⟨w.heap.size + 1 + 1 + 1, 2, none⟩ (.slice S.ga S.given.length S.gc)).setCell ⟨w.heap.size + 1 + 1 + 1, 3, none⟩ (.slice (some ⟨g, 0, none⟩) (S.heaps.length + 1) cap)).setCell ⟨w.heap.size + 1 + 1 + 1, 4, none⟩ (.slice S.ua S.used.length S.uc)).setCell ⟨w.heap.size + 1 + 1 + 1, 5, none⟩ (.slice S.wa S.waste.length S.wc)) = wf at *
  obtain ⟨g0, g1, g2, g3, g4, g5⟩ := (show wf.cell? ⟨w.heap.size + 1 + 1 + 1, 0, none⟩ = some (.int .i64 S.year) ∧ wf.cell? ⟨w.heap.size + 1 + 1 + 1, 1, none⟩ = some (.slice S.la S.last.length S.lc) ∧ wf.cell? ⟨w.heap.size + 1 + 1 + 1, 2, none⟩ = some (.slice S.ga S.given.length S.gc) ∧ wf.cell? ⟨w.heap.size + 1 + 1 + 1, 3, none⟩ = some (.slice (some ⟨g, 0, none⟩) (S.heaps.length + 1) cap) ∧ wf.cell? ⟨w.heap.size + 1 + 1 + 1, 4, none⟩ = some (.slice S.ua S.used.length S.uc) ∧ wf.cell? ⟨w.heap.size + 1 + 1 + 1, 5, none⟩ = some (.slice S.wa S.waste.length S.wc) from ⟨kf.cell 0, kf.cell 1, kf.cell 2, kf.cell 3, kf.cell 4, kf.cell 5⟩)
  have HV := Lib.hid (show (cutD F S ⟨kd, (pi : Int), ld, nm, ot, dy, pr, rl, rh⟩) = (0, { S with last := S.last.set pi S.year, given := S.given.set pi (gv + ld), heaps := S.heaps ++ [⟨nm, x.crop, 1, none, 0, [⟨(pi : Int), ld⟩], 0, x.wlo, x.whi⟩] }) by unfold cutD; dsimp only; rw [if_neg (by rw [H1.out]; decide), if_neg (by rw [H2.out]; decide), if_neg (by have := H3.out; omega), HPX.out, HLV.out, if_neg (fun h => by have := HR.out; omega), if_neg (not_not_intro HLD.out), if_neg (not_not_intro ⟨H16.out, H100.out⟩), HGVV.out, Int.toNat_natCast])
  refine bodyPost_ret (v := .tuple #[.agg #[.int .i64 S.year, .slice S.la S.last.length S.lc, .slice S.ga S.given.length S.gc, .slice (some ⟨g, 0, none⟩) (S.heaps.length + 1) cap, .slice S.ua S.used.length S.uc, .slice S.wa S.waste.length S.wc], .int .i64 0]) (by simp [results, Tryz.results42, go_sem, g0, g1, g2, g3, g4, g5]) rfl ⟨⟨{ S with last := S.last.set pi S.year, given := S.given.set pi (gv + ld), ha := some ⟨g, 0, none⟩, hc := cap, heaps := S.heaps ++ [⟨nm, x.crop, 1, some ⟨w9.heap.size, 0, none⟩, 1, [⟨(pi : Int), ld⟩], 0, x.wlo, x.whi⟩] }, ?_, fun _ => ⟨HRF.out.turnAt ht (HOFF.out _ (by have := HSZN.out; omega) (HSOFF.out _ (by omega))), ?_, fun B hB ho => HOFF.out B (by have := HSZN.out; omega) ho⟩⟩, HTB.out.far ht (fun k e => by rw [show k = w.heap.size + 1 + 1 + 1 from e]; omega)⟩
  · rw [HV.out]
    simp
  · rw [HV.out]
    exact ⟨rfl, rfl, rfl, rfl, rfl, by simp, same_push ⟨rfl, rfl, rfl, rfl, rfl, rfl, rfl⟩⟩
end
end Go.Proofs.YtfhalmlpnoepcaaGreat
