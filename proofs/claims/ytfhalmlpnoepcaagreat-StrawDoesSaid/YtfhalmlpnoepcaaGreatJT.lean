/- What a call turns of memory; a heap is gone from a hand's store. -/
import Derived.Test.YtfhalmlpnoepcaaGreatJQ
import Derived.Test.YtfhalmlpnoepcaaGreatJS
import Derived.Test.YtfhalmlpnoepcaaGreatJI
namespace Go.Proofs.YtfhalmlpnoepcaaGreat
open Go.RowKit

/-- Of the blocks that there were, those of a set alone have turned. -/
structure Turn (X : Nat → Prop) (w w' : World) : Prop where
  os : w'.os = w.os
  tape : w'.tape = w.tape
  output : w'.output = w.output
  size : w.heap.size ≤ w'.heap.size
  block : ∀ k, k < w.heap.size → ¬ X k → w'.heap[k]? = w.heap[k]?
theorem Turn.of_grown {w w' : World} {row : Option Nat} (h : w.grownBy w' row) : Turn (fun k => row = some k) w w' := ⟨h.os, h.tape, h.output, h.size, fun k hk hne => h.block k hk (fun e => hne e.symm)⟩
theorem Turn.of_below {X : Nat → Prop} {w w' : World} (h : Below w.heap.size w w') : Turn X w w' := ⟨h.os, h.tape, h.output, h.size, fun k hk _ => h.block k hk⟩
theorem Turn.mono {X Y : Nat → Prop} {w w' : World} (h : Turn X w w') (hxy : ∀ k, k < w.heap.size → X k → Y k) : Turn Y w w' := ⟨h.os, h.tape, h.output, h.size, fun k hk hn => h.block k hk fun hx => hn (hxy k hk hx)⟩
theorem Turn.trans {X : Nat → Prop} {a b c : World} (h : Turn X a b) (k : Turn X b c) : Turn X a c :=
  ⟨k.os.trans h.os, k.tape.trans h.tape, k.output.trans h.output, Nat.le_trans h.size k.size, fun i hi hn => (k.block i (Nat.lt_of_lt_of_le hi h.size) hn).trans (h.block i hi hn)⟩
theorem Turn.setCell {X : Nat → Prop} {w w' : World} (h : Turn X w w') {B : Nat} (hB : X B) (i : Nat) (v : Value) : Turn X w (w'.setCell ⟨B, i, none⟩ v) :=
  h.trans ⟨rfl, rfl, rfl, by simp [World.setCell], fun k hk hn => Below.heap_setCell _ _ _ _ (fun e => hn (by rw [show k = B from e]; exact hB))⟩
theorem Turn.below {X : Nat → Prop} {w w' : World} {base : Nat} (h : Turn X w w') (hb : base ≤ w.heap.size) (hX : ∀ k, X k → base ≤ k) : Below base w w' :=
  ⟨h.os, h.tape, h.output, h.size, fun k hk => h.block k (Nat.lt_of_lt_of_le hk hb) fun hx => by have := hX k hx; omega⟩
theorem OwnSto.turn {X : Nat → Prop} {base : Nat} {w w' : World} {S : Sto} (h : OwnSto base w S) (ht : Turn X w w') (hx : ∀ k, X k → k ∉ rowsOf S) : OwnSto base w' S :=
  h.keep fun k hk => ht.block k (h.ge k hk).2 fun hX => hx k hX hk
theorem Turn.row {X : Nat → Prop} {w w' : World} {base sz m n c : Nat} {t : TypeId} {a : Option Addr} {xs : List Value} (ht : Turn X w w') (h : w.ownsRow base t sz (.slice a n c) m xs) (hx : ∀ k, X k → a.map (·.block) ≠ some k) : w'.ownsRow base t sz (.slice a n c) m xs :=
  own_keep h fun k hk => ht.block k (h.lt k (by rw [rowOf_own']; exact hk)).2 fun hX => hx k hX hk
theorem Turn.blk {X : Nat → Prop} {w w' : World} {B : Nat} {cs : Array Value} {t : TypeId} (ht : Turn X w w') (h : Blk w B cs t) (hx : ¬ X B) : Blk w' B cs t := by
  have := ht.block B h.lt hx
  exact this.trans h

/-- The heaps' row changed in its place: some heaps otherwise told, or fewer. -/
theorem OwnSto.heapsRow {X : Nat → Prop} {base : Nat} {w w' : World} {S : Sto} {H : List Hep} (h : OwnSto base w S) (ht : Turn X w w') (hX : ∀ k, X k → k ∉ rowsOf { S with ha := none })
    (hn : w'.ownsRow base 53 7 (.slice S.ha H.length S.hc) H.length (H.flatMap cellsHep)) (hp : ∀ x ∈ H, ∃ y ∈ S.heaps, x.pa = y.pa ∧ x.pc = y.pc ∧ x.parts = y.parts ∧ x.name = y.name)
    (ha : (rowsOf { S with heaps := H }).Nodup) : OwnSto base w' { S with heaps := H } :=
  OwnSto.setHeaps (a := S.ha) (c := S.hc) h (fun k hk => ht.block k (h.ge k (rows_noha k (rows_noheaps k hk))).2 fun hx => hX k hx (rows_noheaps k hk)) hn
    (fun x hx => by
      obtain ⟨y, hy, e1, e2, e3, _⟩ := hp x hx
      rw [e1, e2, e3]
      exact ht.row (h.parts y hy) fun k hk e => hX k hk (rows_pa (S := { S with ha := none }) hy e))
    (fun x hx => by
      obtain ⟨y, hy, _, _, _, e⟩ := hp x hx
      rw [e]
      exact h.names y hy) ha

/-- A hand's box, and the rows of a store R (that of the box, or it without a list), apart from it. -/
structure Hand (F : Frm) (base B : Nat) (w : World) (S R : Sto) : Prop where
  box : Blk w B (handC F S) 63
  own : OwnSto base w R
  out : B ∉ rowsOf R
  le : base ≤ B
  heaps : R.heaps = S.heaps
  ha : R.ha = S.ha
  hc : R.hc = S.hc
theorem Hand.below {F : Frm} {base B : Nat} {w w' : World} {S R : Sto} (h : Hand F base B w S R) (hb : Below w.heap.size w w') : Hand F base B w' S R :=
  ⟨h.box.belowS hb, h.own.below hb, h.out, h.le, h.heaps, h.ha, h.hc⟩
theorem Hand.isHeps {F : Frm} {base B : Nat} {w : World} {S R : Sto} (h : Hand F base B w S R) : IsHeps w S.ha S.hc S.heaps := by
  have := h.own.store.heaps
  rwa [h.heaps, h.ha, h.hc] at this
/-- What turns with the heaps' row. -/
abbrev TurnH (S : Sto) (B : Nat) (k : Nat) : Prop := k = B ∨ S.ha.map (·.block) = some k

set_option maxRecDepth 100000 in
set_option maxHeartbeats 4000000 in
theorem remove_any (F : Frm) (S R : Sto) (base B i : Nat) (w : World) (hH : Hand F base B w S R) (hi : i < S.heaps.length) :
    Calls Tryz.prog 93 #[.pointer (some ⟨B, 0, none⟩), .int .i64 i] w fun e w' => e = .returned (.tuple #[]) ∧
      Hand F base B w' { S with heaps := S.heaps.eraseIdx i } { R with heaps := S.heaps.eraseIdx i } ∧ Turn (TurnH S B) w w' := by
  have hown := hH.own.heaps
  rw [hH.heaps, hH.ha, hH.hc] at hown
  have lB := hH.box.lt
  have d5 : w.cell? ⟨B, 5, none⟩ = some (.slice S.ha S.heaps.length S.hc) := hH.box.cell 5
  have z5 := hH.box.frozen 5
  have hsz : (i : Int) + 1 ≤ 9223372036854775807 := by
    have h1 := hH.isHeps.len
    have h2 := hown.1
    rcases hown.2 with ⟨_, h⟩ | ⟨_, _, _, _, _, _, h3, h4, _⟩
    · omega
    · unfold maxLen at h4; omega
  have hwr : IntKind.i64.wrap ((i : Int) + 1) = ((i + 1 : Nat) : Int) := by rw [IntKind.wrap_i64]; omega
  have hne : S.ha.map (·.block) ≠ some B := fun e => hH.out (rows_ha (S := R) (by rw [hH.ha]; exact e))
  have HH := Lib.hid hH
  have HI := Lib.hid hi
  have HNE := Lib.hid hne
  have HOWN := Lib.hid hown
  clear hH hown hne hi hsz
  go_enter Tryz.func93, Tryz.ntmps93
  go_wp2_with fail
  refine (deleteHep_any base S.ha S.hc S.heaps i (i + 1) rfl _ HOWN.out HI.out).mono ?_
  rintro e w1 ⟨rfl, hrow, hg⟩
  have hT : Turn (fun k => S.ha.map (·.block) = some k) w w1 := (Turn.of_below ((Below.refl _ w).drew)).trans (Turn.of_grown hg)
  have kB : Blk w1 B (handC F S) 63 := hT.blk HH.out.box (fun e => HNE.out e)
  have HT := Lib.hid hT
  have HR := Lib.hid hrow
  clear hT hrow hg d5 z5 lB
  have lB := kB.lt
  have z5 := kB.frozen 5
  have d5 : w1.cell? ⟨B, 5, none⟩ = some (.slice S.ha S.heaps.length S.hc) := kB.cell 5
  have KB := Lib.hid kB
  clear kB
  go_wp2_with fail
  go_end0
  have hT2 : Turn (TurnH S B) w (w1.setCell ⟨B, 5, none⟩ (.slice S.ha (S.heaps.eraseIdx i).length S.hc)) := (HT.out.mono fun k _ h => .inr h).setCell (.inl rfl) 5 _
  have hrow2 : (w1.setCell ⟨B, 5, none⟩ (.slice S.ha (S.heaps.eraseIdx i).length S.hc)).ownsRow base 53 7 (.slice S.ha (S.heaps.eraseIdx i).length S.hc) (S.heaps.eraseIdx i).length ((S.heaps.eraseIdx i).flatMap cellsHep) :=
    Turn.row (X := fun k => k = B) ((Turn.of_below (X := fun k => k = B) (Below.refl _ w1)).setCell (B := B) rfl 5 _) HR.out (fun k e => by subst e; exact HNE.out)
  have hH := HH.out
  refine ⟨rfl, ⟨?_, ?_, fun hk => hH.out (rows_erase (S := R) i _ (by rw [hH.heaps]; exact hk)), hH.le, rfl, hH.ha, hH.hc⟩, hT2⟩
  · have := KB.out.set 5 (.slice S.ha (S.heaps.eraseIdx i).length S.hc)
    simpa using this
  · refine OwnSto.heapsRow (S := R) hH.own hT2 ?_ (by rw [hH.ha, hH.hc]; exact hrow2) (fun x hx => ⟨x, by rw [hH.heaps]; exact List.mem_of_mem_eraseIdx hx, rfl, rfl, rfl, rfl⟩) (by rw [← hH.heaps]; exact apart_erase i hH.own.apart)
    rintro k (rfl | hk)
    · exact fun h => hH.out (rows_noha _ h)
    · exact out_ha hH.own.apart k (by rw [hH.ha]; exact hk)

end Go.Proofs.YtfhalmlpnoepcaaGreat
