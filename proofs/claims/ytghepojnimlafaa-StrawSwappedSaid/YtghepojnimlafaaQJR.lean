/- What a call turns of memory; a heap is gone from a hand's store. Some loads of parts, behind some others: as the program takes them, as the specification cuts them. The specification's ordered. The specification's left, total. A heap by its name (thatchref02), the ledger (straw). A chore, and what its kind names; moistures. What chores do, as a function on lists. -/
import Derived.Test.YtghepojnimlafaaQJQ
import Derived.Test.YtghepojnimlafaaQJH
import Derived.Test.YtghepojnimlafaaJIQ
import Derived.Test.YtghepojnimlafaaQGC
import Derived.Test.YtghepojnimlafaaQGG
namespace Go.Proofs.Ytghepojnimlafaa
section
open Go.RowKit

/-- Of the blocks that there were, those of a set alone have turned. -/
structure Turn (X : Nat → Prop) (w w' : World) : Prop where
  os : w'.os = w.os
  tape : w'.tape = w.tape
  output : w'.output = w.output
  size : w.heap.size ≤ w'.heap.size
  block : ∀ k, k < w.heap.size → ¬ X k → w'.heap[k]? = w.heap[k]?
theorem Turn.of_grown {w w' : World} {row : Option Nat} (h : w.grownBy w' row) : Turn (fun k => row = some k) w w' := ⟨h.os, h.tape, h.output, h.size, fun k hk hne => h.block k hk (fun e => hne e.symm)⟩
theorem Turn.of_below {X : Nat → Prop} {w w' : World} (h : Below w.heap.size w w') : Turn X w w' := ⟨h.os, h.tape, h.output, h.size, fun k hk _ => h.block k hk⟩
theorem Turn.mono {X Y : Nat → Prop} {w w' : World} (h : Turn X w w') (hxy : ∀ k, k < w.heap.size → X k → Y k) : Turn Y w w' := ⟨h.os, h.tape, h.output, h.size, fun k hk hn => h.block k hk fun hx => hn (hxy k hk hx)⟩
theorem Turn.trans {X : Nat → Prop} {a b c : World} (h : Turn X a b) (k : Turn X b c) : Turn X a c :=
  ⟨k.os.trans h.os, k.tape.trans h.tape, k.output.trans h.output, Nat.le_trans h.size k.size, fun i hi hn => (k.block i (Nat.lt_of_lt_of_le hi h.size) hn).trans (h.block i hi hn)⟩
theorem Turn.setCell {X : Nat → Prop} {w w' : World} (h : Turn X w w') {B : Nat} (hB : X B) (i : Nat) (v : Value) : Turn X w (w'.setCell ⟨B, i, none⟩ v) :=
  h.trans ⟨rfl, rfl, rfl, by simp [World.setCell], fun k hk hn => Below.heap_setCell _ _ _ _ (fun e => hn (by rw [show k = B from e]; exact hB))⟩
theorem Turn.below {X : Nat → Prop} {w w' : World} {base : Nat} (h : Turn X w w') (hb : base ≤ w.heap.size) (hX : ∀ k, X k → base ≤ k) : Below base w w' :=
  ⟨h.os, h.tape, h.output, h.size, fun k hk => h.block k (Nat.lt_of_lt_of_le hk hb) fun hx => by have := hX k hx; omega⟩
theorem OwnSto.turn {X : Nat → Prop} {base : Nat} {w w' : World} {S : Sto} (h : OwnSto base w S) (ht : Turn X w w') (hx : ∀ k, X k → k ∉ rowsOf S) : OwnSto base w' S :=
  h.keep fun k hk => ht.block k (h.ge k hk).2 fun hX => hx k hX hk
theorem Turn.row {X : Nat → Prop} {w w' : World} {base sz m n c : Nat} {t : TypeId} {a : Option Addr} {xs : List Value} (ht : Turn X w w') (h : w.ownsRow base t sz (.slice a n c) m xs) (hx : ∀ k, X k → a.map (·.block) ≠ some k) : w'.ownsRow base t sz (.slice a n c) m xs :=
  own_keep h fun k hk => ht.block k (h.lt k (by rw [rowOf_own']; exact hk)).2 fun hX => hx k hX hk
theorem Turn.blk {X : Nat → Prop} {w w' : World} {B : Nat} {cs : Array Value} {t : TypeId} (ht : Turn X w w') (h : Blk w B cs t) (hx : ¬ X B) : Blk w' B cs t := by
  have := ht.block B h.lt hx
  exact this.trans h

/-- The heaps' row changed in its place: some heaps otherwise told, or fewer. -/
theorem OwnSto.heapsRow {X : Nat → Prop} {base : Nat} {w w' : World} {S : Sto} {H : List Hep} (h : OwnSto base w S) (ht : Turn X w w') (hX : ∀ k, X k → k ∉ rowsOf { S with ha := none })
    (hn : w'.ownsRow base 77 7 (.slice S.ha H.length S.hc) H.length (H.flatMap cellsHep)) (hp : ∀ x ∈ H, ∃ y ∈ S.heaps, x.pa = y.pa ∧ x.pc = y.pc ∧ x.parts = y.parts ∧ x.name = y.name)
    (ha : (rowsOf { S with heaps := H }).Nodup) : OwnSto base w' { S with heaps := H } :=
  OwnSto.setHeaps (a := S.ha) (c := S.hc) h (fun k hk => ht.block k (h.ge k (rows_noha k (rows_noheaps k hk))).2 fun hx => hX k hx (rows_noheaps k hk)) hn
    (fun x hx => by
      obtain ⟨y, hy, e1, e2, e3, _⟩ := hp x hx
      rw [e1, e2, e3]
      exact ht.row (h.parts y hy) fun k hk e => hX k hk (rows_pa (S := { S with ha := none }) hy e))
    (fun x hx => by
      obtain ⟨y, hy, _, _, _, e⟩ := hp x hx
      rw [e]
      exact h.names y hy) ha

/-- A hand's box, and the rows of a store R (that of the box, or it without a list), apart from it. -/
structure Hand (F : Frm) (base B : Nat) (w : World) (S R : Sto) : Prop where
  box : Blk w B (handC F S) 83
  own : OwnSto base w R
  out : B ∉ rowsOf R
  le : base ≤ B
  heaps : R.heaps = S.heaps
  ha : R.ha = S.ha
  hc : R.hc = S.hc
theorem Hand.below {F : Frm} {base B : Nat} {w w' : World} {S R : Sto} (h : Hand F base B w S R) (hb : Below w.heap.size w w') : Hand F base B w' S R :=
  ⟨h.box.belowS hb, h.own.below hb, h.out, h.le, h.heaps, h.ha, h.hc⟩
theorem Hand.isHeps {F : Frm} {base B : Nat} {w : World} {S R : Sto} (h : Hand F base B w S R) : IsHeps w S.ha S.hc S.heaps := by
  have := h.own.store.heaps
  rwa [h.heaps, h.ha, h.hc] at this
/-- What turns with the heaps' row. -/
abbrev TurnH (S : Sto) (B : Nat) (k : Nat) : Prop := k = B ∨ S.ha.map (·.block) = some k

set_option maxRecDepth 100000 in
set_option maxHeartbeats 4000000 in
theorem remove_any (F : Frm) (S R : Sto) (base B i : Nat) (w : World) (hH : Hand F base B w S R) (hi : i < S.heaps.length) :
    Calls Try.prog 72 #[.pointer (some ⟨B, 0, none⟩), .int .i64 i] w fun e w' => e = .returned (.tuple #[]) ∧
      Hand F base B w' { S with heaps := S.heaps.eraseIdx i } { R with heaps := S.heaps.eraseIdx i } ∧ Turn (TurnH S B) w w' := by
  have hown := hH.own.heaps
  rw [hH.heaps, hH.ha, hH.hc] at hown
  have lB := hH.box.lt
  have d5 : w.cell? ⟨B, 5, none⟩ = some (.slice S.ha S.heaps.length S.hc) := hH.box.cell 5
  have z5 := hH.box.frozen 5
  have hsz : (i : Int) + 1 ≤ 9223372036854775807 := by
    have h1 := hH.isHeps.len
    have h2 := hown.1
    rcases hown.2 with ⟨_, h⟩ | ⟨_, _, _, _, _, _, h3, h4, _⟩
    · omega
    · unfold maxLen at h4; omega
  have hwr : IntKind.i64.wrap ((i : Int) + 1) = ((i + 1 : Nat) : Int) := by rw [IntKind.wrap_i64]; omega
  have hne : S.ha.map (·.block) ≠ some B := fun e => hH.out (rows_ha (S := R) (by rw [hH.ha]; exact e))
  have HH := Lib.hid hH
  have HI := Lib.hid hi
  have HNE := Lib.hid hne
  have HOWN := Lib.hid hown
  clear hH hown hne hi hsz
  go_enter Try.func72, Try.ntmps72
  go_wp2_with fail
  refine (deleteHep_any base S.ha S.hc S.heaps i (i + 1) rfl _ HOWN.out HI.out).mono ?_
  rintro e w1 ⟨rfl, hrow, hg⟩
  have hT : Turn (fun k => S.ha.map (·.block) = some k) w w1 := (Turn.of_below ((Below.refl _ w).drew)).trans (Turn.of_grown hg)
  have kB : Blk w1 B (handC F S) 83 := hT.blk HH.out.box (fun e => HNE.out e)
  have HT := Lib.hid hT
  have HR := Lib.hid hrow
  clear hT hrow hg d5 z5 lB
  have lB := kB.lt
  have z5 := kB.frozen 5
  have d5 : w1.cell? ⟨B, 5, none⟩ = some (.slice S.ha S.heaps.length S.hc) := kB.cell 5
  have KB := Lib.hid kB
  clear kB
  go_wp2_with fail
  go_end0
  have hT2 : Turn (TurnH S B) w (w1.setCell ⟨B, 5, none⟩ (.slice S.ha (S.heaps.eraseIdx i).length S.hc)) := (HT.out.mono fun k _ h => .inr h).setCell (.inl rfl) 5 _
  have hrow2 : (w1.setCell ⟨B, 5, none⟩ (.slice S.ha (S.heaps.eraseIdx i).length S.hc)).ownsRow base 77 7 (.slice S.ha (S.heaps.eraseIdx i).length S.hc) (S.heaps.eraseIdx i).length ((S.heaps.eraseIdx i).flatMap cellsHep) :=
    Turn.row (X := fun k => k = B) ((Turn.of_below (X := fun k => k = B) (Below.refl _ w1)).setCell (B := B) rfl 5 _) HR.out (fun k e => by subst e; exact HNE.out)
  have hH := HH.out
  refine ⟨rfl, ⟨?_, ?_, fun hk => hH.out (rows_erase (S := R) i _ (by rw [hH.heaps]; exact hk)), hH.le, rfl, hH.ha, hH.hc⟩, hT2⟩
  · have := KB.out.set 5 (.slice S.ha (S.heaps.eraseIdx i).length S.hc)
    simpa using this
  · refine OwnSto.heapsRow (S := R) hH.own hT2 ?_ (by rw [hH.ha, hH.hc]; exact hrow2) (fun x hx => ⟨x, by rw [hH.heaps]; exact List.mem_of_mem_eraseIdx hx, rfl, rfl, rfl, rfl⟩) (by rw [← hH.heaps]; exact apart_erase i hH.own.apart)
    rintro k (rfl | hk)
    · exact fun h => hH.out (rows_noha _ h)
    · exact out_ha hH.own.apart k (by rw [hH.ha]; exact hk)
end
end Go.Proofs.Ytghepojnimlafaa
namespace Go.Proofs.Ytghepojnimlafaa
section
open Go.RowKit

def takenL (skip left : Int) : List Prt → List Prt
  | [] => []
  | p :: l => (if 0 < min left (p.loads - min skip p.loads) then [⟨p.plot, min left (p.loads - min skip p.loads)⟩] else []) ++ takenL (skip - min skip p.loads) (left - min left (p.loads - min skip p.loads)) l
def cutT (n : Int) : List Prt → List Prt
  | [] => []
  | p :: l => (if 0 < min n p.loads then [⟨p.plot, min n p.loads⟩] else []) ++ cutT (n - min n p.loads) l
def cutR (n : Int) : List Prt → List Prt
  | [] => []
  | p :: l => (if min n p.loads < p.loads then [⟨p.plot, p.loads - min n p.loads⟩] else []) ++ cutR (n - min n p.loads) l
def pushL (l : List Prt) (p : Prt) : List Prt := match l.getLast? with
  | some q => if q.plot = p.plot then l.dropLast ++ [⟨q.plot, q.loads + p.loads⟩] else l ++ [p]
  | none => [p]
def putL (l : List Prt) (ps : List Prt) : List Prt := ps.foldl pushL l
theorem putL_snoc (l ps : List Prt) (p : Prt) : putL l (ps ++ [p]) = pushL (putL l ps) p := by simp [putL]

theorem taken_cut {l : List Prt} (h : ∀ p ∈ l, 1 ≤ p.loads) : ∀ {skip left : Int}, 0 ≤ skip → 0 ≤ left → takenL skip left l = cutT left (cutR skip l) := by
  induction l with
  | nil => intros; rfl
  | cons p l ih =>
    intro skip left hs hl
    have hp := h p (by simp)
    have ih := @ih (fun q hq => h q (by simp [hq]))
    simp only [takenL, cutR]
    by_cases hlt : min skip p.loads < p.loads
    · rw [if_pos hlt]
      simp only [List.cons_append, List.nil_append, cutT]
      rw [ih (by omega) (by omega)]
    · rw [if_neg hlt, List.nil_append]
      have h0 : min left (p.loads - min skip p.loads) = 0 := by omega
      rw [h0, if_neg (by omega), List.nil_append, ih (by omega) (by omega), Int.sub_zero]
theorem taken_none (l : List Prt) : ∀ {skip left : Int}, left ≤ 0 → (∀ p ∈ l, 1 ≤ p.loads) → 0 ≤ skip → takenL skip left l = [] := by
  induction l with
  | nil => intros; rfl
  | cons p l ih =>
    intro skip left hl h hs
    have hp := h p (by simp)
    simp only [takenL]
    rw [if_neg (by omega), List.nil_append]
    exact ih (by omega) (fun q hq => h q (by simp [hq])) (by omega)

/-- No two neighbours are of one field; the first one is not of the field o. -/
def ap (o : Option Int) : List Prt → Prop
  | [] => True
  | p :: l => o ≠ some p.plot ∧ ap (some p.plot) l
theorem ap_none {o : Option Int} {l : List Prt} (h : ap o l) : ap none l := by
  cases l with
  | nil => trivial
  | cons p l => exact ⟨by simp, h.2⟩
def lastP (l : List Prt) : Option Int := l.getLast?.map (·.plot)
theorem lastP_snoc (l : List Prt) (p : Prt) : lastP (l ++ [p]) = some p.plot := by simp [lastP]
theorem push_apart {l : List Prt} {p : Prt} (h : lastP l ≠ some p.plot) : pushL l p = l ++ [p] := by
  unfold pushL
  unfold lastP at h
  cases hl : l.getLast? with
  | none =>
    have : l = [] := by simpa using hl
    subst this
    rfl
  | some q =>
    rw [hl] at h
    simp only [Option.map_some, ne_eq, Option.some.injEq] at h
    simp only [h, if_false]
theorem put_taken0 {l : List Prt} (h : ∀ p ∈ l, 1 ≤ p.loads) : ∀ {acc : List Prt} {left : Int}, 0 ≤ left → ap (lastP acc) l → putL acc (takenL 0 left l) = acc ++ takenL 0 left l := by
  induction l with
  | nil => intro acc left _ _; simp [takenL, putL]
  | cons p l ih =>
    intro acc left hl ha
    have hp := h p (by simp)
    have ih := @ih (fun q hq => h q (by simp [hq]))
    have e0 : min (0 : Int) p.loads = 0 := by omega
    simp only [takenL, e0, Int.sub_zero]
    by_cases hlt : 0 < min left p.loads
    · rw [if_pos hlt]
      simp only [List.cons_append, List.nil_append]
      have e1 : putL acc (⟨p.plot, min left p.loads⟩ :: takenL 0 (left - min left p.loads) l) = putL (pushL acc ⟨p.plot, min left p.loads⟩) (takenL 0 (left - min left p.loads) l) := rfl
      rw [e1, push_apart (p := ⟨p.plot, min left p.loads⟩) ha.1, ih (by omega) (by rw [lastP_snoc]; exact ha.2)]
      simp
    · rw [if_neg hlt, List.nil_append, taken_none l (by omega) (fun q hq => h q (by simp [hq])) (by omega)]
      simp [putL]
/-- What is taken of parts in order is in order. -/
theorem put_taken {l : List Prt} (h : ∀ p ∈ l, 1 ≤ p.loads) : ∀ {skip left : Int}, 0 ≤ skip → 0 ≤ left → ap none l → putL [] (takenL skip left l) = takenL skip left l := by
  induction l with
  | nil => intros; rfl
  | cons p l ih =>
    intro skip left hs hl ha
    have hp := h p (by simp)
    have ih := @ih (fun q hq => h q (by simp [hq]))
    simp only [takenL]
    by_cases hlt : skip < p.loads
    · have e0 : min skip p.loads = skip := by omega
      rw [e0, Int.sub_self]
      by_cases hn : 0 < min left (p.loads - skip)
      · rw [if_pos hn]
        simp only [List.cons_append, List.nil_append]
        have e1 : putL [] (⟨p.plot, min left (p.loads - skip)⟩ :: takenL 0 (left - min left (p.loads - skip)) l) = putL [⟨p.plot, min left (p.loads - skip)⟩] (takenL 0 (left - min left (p.loads - skip)) l) := rfl
        rw [e1, put_taken0 (fun q hq => h q (by simp [hq])) (by omega) (by exact ha.2)]
        rfl
      · rw [if_neg hn, List.nil_append, taken_none l (by omega) (fun q hq => h q (by simp [hq])) (by omega)]
        rfl
    · have e0 : min skip p.loads = p.loads := by omega
      have e1 : min left (p.loads - p.loads) = 0 := by omega
      rw [e0, e1, if_neg (by omega), List.nil_append, Int.sub_zero]
      exact ih (by omega) hl (ap_none ha.2)
theorem ap_of {l : List Prt} : ∀ {o : Option Int}, (∀ p, l[0]? = some p → o ≠ some p.plot) → (∀ (i : Nat) (q p : Prt), l[i]? = some q → l[i + 1]? = some p → q.plot ≠ p.plot) → ap o l := by
  induction l with
  | nil => intros; trivial
  | cons p l ih =>
    intro o h0 h1
    refine ⟨h0 p rfl, ih (fun q hq => ?_) (fun i q r hq hr => h1 (i + 1) q r (by simpa using hq) (by simpa using hr))⟩
    have := h1 0 p q rfl (by simpa using hq)
    simpa using this
theorem partsB_ap {n : Nat} {l : List Prt} (h : partsB n l = true) : ap none l := by
  refine ap_of (fun p _ => by simp) fun i q p hq hp => ?_
  have hlt : i + 1 < l.length := (List.getElem?_eq_some_iff.1 hp).1
  have := List.all_eq_true.1 h (i + 1) (by simpa using hlt)
  simp only [hp, Nat.add_sub_cancel, hq] at this
  simpa using (Bool.and_eq_true_iff.1 this).2
theorem cutT_len (l : List Prt) : ∀ n, (cutT n l).length ≤ l.length := by
  induction l with
  | nil => intro n; simp [cutT]
  | cons p l ih =>
    intro n
    simp only [cutT, List.length_append, List.length_cons]
    have := ih (n - min n p.loads)
    split <;> simp <;> omega
theorem cutR_len (l : List Prt) : ∀ n, (cutR n l).length ≤ l.length := by
  induction l with
  | nil => intro n; simp [cutR]
  | cons p l ih =>
    intro n
    simp only [cutR, List.length_append, List.length_cons]
    have := ih (n - min n p.loads)
    split <;> simp <;> omega
theorem cutR_ok {m : Nat} {l : List Prt} (h : ∀ p ∈ l, p.ok m) : ∀ {n : Int}, 0 ≤ n → ∀ p ∈ cutR n l, p.ok m := by
  induction l with
  | nil => intro n _ p hp; simp [cutR] at hp
  | cons q l ih =>
    intro n hn p hp
    simp only [cutR] at hp
    obtain ⟨h1, h2, h3⟩ := h q (by simp)
    rcases List.mem_append.1 hp with hp | hp
    · split at hp
      · obtain rfl := List.mem_singleton.1 hp
        exact ⟨h1, by show 1 ≤ q.loads - min n q.loads; omega, by show q.loads - min n q.loads ≤ 100000; omega⟩
      · simp at hp
    · exact ih (fun r hr => h r (by simp [hr])) (by omega) p hp
end
end Go.Proofs.Ytghepojnimlafaa
namespace Go.Proofs.Ytghepojnimlafaa
section
open Go.RowKit
end
end Go.Proofs.Ytghepojnimlafaa
namespace Go.Proofs.Ytghepojnimlafaa
section
open Go.RowKit

theorem heapsM_bd {n : Nat} {l : List Hep} (h : ∀ x ∈ l, ∀ p ∈ x.parts, p.ok n) (hl : ∀ x ∈ l, x.parts.length ≤ 1000) : 0 ≤ heapsM l ∧ heapsM l ≤ 100000000 * l.length := by
  induction l with
  | nil => simp [heapsM]
  | cons x l ih =>
    have h1 := loadsM_bd (h x (by simp))
    have h2 := hl x (by simp)
    obtain ⟨h3, h4⟩ := ih (fun q hq => h q (by simp [hq])) (fun q hq => hl q (by simp [hq]))
    simp only [heapsM, List.length_cons]
    push_cast
    omega
theorem ok_takeH {n : Nat} {l : List Hep} (h : ∀ x ∈ l, ∀ p ∈ x.parts, p.ok n) (j : Nat) : ∀ x ∈ l.take j, ∀ p ∈ x.parts, p.ok n := fun x hx => h x (List.mem_of_mem_take hx)
theorem len_takeH {l : List Hep} (h : ∀ x ∈ l, x.parts.length ≤ 1000) (j : Nat) : ∀ x ∈ l.take j, x.parts.length ≤ 1000 := fun x hx => h x (List.mem_of_mem_take hx)
end
end Go.Proofs.Ytghepojnimlafaa
namespace Go.Proofs.Ytghepojnimlafaa
section
open Go.RowKit

theorem store_ok {F : Frm} {S : Sto} (h : storeE F S = 0) : F.ps.length ≤ 12 ∧ S.given.length = F.ps.length ∧ partsB F.ps.length S.used = true ∧ partsB F.ps.length S.waste = true ∧ ∀ x ∈ S.heaps, heapB F.ps x = true := by
  obtain ⟨h1, h2⟩ := storeE_zero h
  simp only [mayB, balB, Bool.and_eq_true, decide_eq_true_eq] at h2
  exact ⟨(checkE_ok h1).1, h2.2.2.2.2.1, h2.2.2.1, h2.2.2.2.1, heapsB_heap h2.2.1⟩

/-- What a ledger is: the counts of each field, or an error. -/
def CntSaid (F : Frm) (S : Sto) (w : World) (e : Ending) (w' : World) : Prop :=
  ∃ (a : Option Addr) (n c : Nat), e = .returned (.tuple #[.slice a n c, .int .i64 (storeE F S)]) ∧ (if storeE F S = 0 then n = F.ps.length ∧ (n = 0 ∨ ∃ K, a = some ⟨K, 0, none⟩ ∧ n ≤ c ∧ c ≤ 9223372036854775807 ∧ K < w'.heap.size ∧ ∀ i, i < n * 4 → w'.cell? ⟨K, i, none⟩ = some (.int .i64 (cntF (givenAt S.given) (fun k => ofM k S.used) (fun k => leftM k S.heaps) (fun k => ofM k S.waste) i))) else n = 0) ∧ Below w.heap.size w w'

set_option maxRecDepth 100000 in
set_option maxHeartbeats 4000000 in
theorem ledger_any (F : Frm) (S : Sto) (w : World) (hF : IsFarm w F) (hS : IsStore w S) (hfit : S.fit) :
    Calls Try.prog 10 #[.agg #[.slice F.pa F.ps.length F.pc, .int .i64 F.dry], stoV S] w (CntSaid F S w) := by
  have HF := Lib.hid hF
  have HS := Lib.hid hS
  clear hF hS
  unfold stoV
  have kB := (Blk.new w 24 (frmC F)).alloc (.cells (stoC S) 45)
  have kD := Blk.new (w.alloc (.cells (frmC F) 24)) 45 (stoC S)
  have hB : Below w.heap.size w ((w.alloc (.cells (frmC F) 24)).alloc (.cells (stoC S) 45)) := ((Below.refl _ w).alloc (by simp) _).alloc (by simp) _
  simp only [World.size_alloc] at kD
  unfold frmC stoC at kB kD hB
  go_enter Try.func10, Try.ntmps10
  go_upto_region 1 with fail
  generalize ((w.alloc (.cells #[.slice F.pa F.ps.length F.pc, .int .i64 F.dry] 24)).alloc (.cells #[.int .i64 S.year, .slice S.la S.last.length S.lc, .slice S.ga S.given.length S.gc, .slice S.ha S.heaps.length S.hc, .slice S.ua S.used.length S.uc, .slice S.wa S.waste.length S.wc] 45)) = w1 at *
  have lF0 := kB.lt
  have lS0 := kD.lt
  obtain ⟨f0, f1⟩ := frm_cells kB
  obtain ⟨d0, d1, d2, d3, d4, d5⟩ := sto_cells kD
  have HB0 := Lib.hid hB
  have KD0 := Lib.hid kD
  clear kB kD hB
  go_wp2_with fail
  refine (checkStore_any F S _ (HF.out.below HB0.out) (HS.out.below HB0.out) hfit).mono ?_
  rintro e w2 ⟨rfl, hb⟩
  have hB1 := HB0.out.trans (hb.mono HB0.out.size)
  have kD1 := KD0.out.belowS hb
  clear d0 d1 d2 d3 d4 d5 f0 f1 lF0 lS0 hb
  have lS1 := kD1.lt
  obtain ⟨d0, d1, d2, d3, d4, d5⟩ := sto_cells kD1
  have HB1 := Lib.hid hB1
  clear kD1 hB1
  by_cases hE : storeE F S = 0
  · obtain ⟨hn, hgl, hup, hwp, hhp⟩ := store_ok hE
    have HE := Lib.hid hE
    have HU := Lib.hid (partsB_ok hup)
    have HW := Lib.hid (partsB_ok hwp)
    have HH := Lib.hid (show ∀ h ∈ S.heaps, ∀ p ∈ h.parts, p.ok F.ps.length from fun h hh => heapB_parts (hhp h hh))
    obtain ⟨ful, fwl, fhl, fhp⟩ := hfit
    have HHP := Lib.hid fhp
    have z1 : ((0 : Int) == 0) = true := rfl
    rw [hE]
    have HGL := Lib.hid hgl
    clear hE hup hwp hhp fhp hgl
    go_wp2_with fail
    refine (ledgerOf_any F.ps.length S.year S.la S.ga S.ha S.ua S.wa S.lc S.gc S.hc S.uc S.wc S.last.length S.given S.heaps S.used S.waste _ (HS.out.below HB1.out).given (HS.out.below HB1.out).heaps (HS.out.below HB1.out).used (HS.out.below HB1.out).waste HGL.out hn HU.out ful HW.out fwl HH.out HHP.out fhl).mono ?_
    rintro e w3 ⟨⟨K, rfl, kK⟩, hb⟩
    have hB2 := HB1.out.trans (hb.mono HB1.out.size)
    have KK := Lib.hid kK
    clear kK d0 d1 d2 d3 d4 d5 hb
    go_wp2_with fail
    refine bodyPost_ret (v := .tuple #[.slice (some ⟨K, 0, none⟩) F.ps.length F.ps.length, .int .i64 0]) (by simp [results, Try.results10, go_sem]) rfl ⟨_, _, _, by rw [HE.out], ?_, hB2⟩
    rw [if_pos HE.out]
    exact ⟨rfl, Or.inr ⟨K, rfl, Nat.le_refl _, by omega, KK.out.lt, fun i hi => (KK.out.cell i).trans (rowI_at hi)⟩⟩
  · have HE := Lib.hid hE
    have hne : (storeE F S == 0) = false := by simpa using hE
    generalize hg : storeE F S = v at *
    clear d0 d1 d2 d3 d4 d5
    go_wp2_with fail
    refine bodyPost_ret (v := .tuple #[.slice none 0 0, .int .i64 v]) (by simp [results, Try.results10, go_sem]) rfl ⟨none, 0, 0, by rw [hg], ?_, HB1.out⟩
    rw [hg, if_neg HE.out]
end
end Go.Proofs.Ytghepojnimlafaa
namespace Go.Proofs.Ytghepojnimlafaa
section
open Go.RowKit

/-- A chore. -/
structure Chr where
  kind : Int
  plot : Int
  loads : Int
  name : ByteArray
  other : ByteArray
  days : Int
  per : Int
  rlo : Int
  rhi : Int
abbrev chrC (a : Chr) : Array Value := #[.int .i64 a.kind, .int .i64 a.plot, .int .i64 a.loads, .string a.name, .string a.other, .int .i64 a.days, .int .i64 a.per, .int .i64 a.rlo, .int .i64 a.rhi]
/-- What the kind names. -/
def namedM (a : Chr) : Chr :=
  if a.kind = 2 then ⟨a.kind, a.plot, a.loads, a.name, ⟨#[]⟩, 0, 0, 0, 0⟩
  else if a.kind = 3 then ⟨a.kind, 0, 0, a.name, ⟨#[]⟩, a.days, 0, a.rlo, a.rhi⟩
  else if a.kind = 4 ∨ a.kind = 7 then ⟨a.kind, 0, a.loads, a.name, ⟨#[]⟩, 0, 0, 0, 0⟩
  else if a.kind = 5 then ⟨a.kind, 0, 0, a.name, a.other, 0, 0, 0, 0⟩
  else if a.kind = 6 then ⟨a.kind, 0, 0, a.name, a.other, 0, a.per, 0, 0⟩
  else if a.kind = 8 then ⟨a.kind, 0, 0, a.name, ⟨#[]⟩, 0, 0, 0, 0⟩
  else ⟨a.kind, 0, 0, ⟨#[]⟩, ⟨#[]⟩, 0, 0, 0, 0⟩
theorem blk_mid (w : World) (o1 o3 : Obj) (cs : Array Value) (t : TypeId) : Blk (((w.alloc o1).alloc (.cells cs t)).alloc o3) (w.heap.size + 1) cs t := by
  have := (Blk.new (w.alloc o1) t cs).alloc o3
  simpa using this
theorem below_mid (w : World) (o1 o2 o3 : Obj) : Below w.heap.size w (((w.alloc o1).alloc o2).alloc o3) := (((Below.refl _ w).alloc (by simp) _).alloc (by simp) _).alloc (by simp; omega) _
/-- What a sum of moistures comes to. -/
def moistM (n : Int) : Int := max 0 (min n 1000)
theorem moisture_any (n : Int) (w : World) : Calls Try.prog 67 #[.int .i64 n] w fun e w' => e = .returned (.int .i64 (moistM n)) ∧ w = w' := by
  go_enter Try.func67, Try.ntmps67
  go_wp2
  all_goals go_ret
  all_goals refine ⟨?_, rfl⟩
  all_goals show Ending.returned (Value.int .i64 _) = Ending.returned (Value.int .i64 (moistM n))
  all_goals congr 2
  all_goals unfold moistM
  all_goals (rename_i h1; split at h1 <;> omega)
set_option maxRecDepth 100000 in
set_option maxHeartbeats 4000000 in
theorem named_any (a : Chr) (w : World) :
    Calls Try.prog 46 #[.agg (chrC a)] w fun e w' => e = .returned (.agg (chrC (namedM a))) ∧ Below w.heap.size w w' := by
  obtain ⟨kd, pl, ld, nm, ot, dy, pr, rl, rh⟩ := a
  show Calls _ _ #[.agg #[.int .i64 kd, .int .i64 pl, .int .i64 ld, .string nm, .string ot, .int .i64 dy, .int .i64 pr, .int .i64 rl, .int .i64 rh]] _ _
  by_cases h2 : kd = 2
  · have hv : namedM ⟨kd, pl, ld, nm, ot, dy, pr, rl, rh⟩ = ⟨kd, pl, ld, nm, ⟨#[]⟩, 0, 0, 0, 0⟩ := by subst h2; simp [namedM]
    have HV := Lib.hid hv
    have q2 : (kd == 2) = true := by simp [h2]
    clear hv h2
    go_enter Try.func46, Try.ntmps46
    go_upto_region 4 with fail
    go_region
    all_goals go_wp2_with fail
    have k := (blk_mid w (.cells #[.int .i64 kd, .int .i64 pl, .int .i64 ld, .string nm, .string ot, .int .i64 dy, .int .i64 pr, .int .i64 rl, .int .i64 rh] 40) (.cells #[.int .i64 kd, .int .i64 pl, .int .i64 ld, .string nm, .string ⟨#[]⟩, .int .i64 0, .int .i64 0, .int .i64 0, .int .i64 0] 40) #[.int .i64 kd, .int .i64 pl, .int .i64 ld, .string nm, .string ⟨#[]⟩, .int .i64 0, .int .i64 0, .int .i64 0, .int .i64 0] 40).drew
    have x0 := k.cell 0
    have x1 := k.cell 1
    have x2 := k.cell 2
    have x3 := k.cell 3
    have x4 := k.cell 4
    have x5 := k.cell 5
    have x6 := k.cell 6
    have x7 := k.cell 7
    have x8 := k.cell 8
    simp only [List.getElem?_toArray, List.getElem?_cons_zero, List.getElem?_cons_succ] at x0 x1 x2 x3 x4 x5 x6 x7 x8
    exact bodyPost_ret (v := .agg #[.int .i64 kd, .int .i64 pl, .int .i64 ld, .string nm, .string ⟨#[]⟩, .int .i64 0, .int .i64 0, .int .i64 0, .int .i64 0]) (by simp [results, Try.results46, go_sem, x0, x1, x2, x3, x4, x5, x6, x7, x8]) rfl ⟨by rw [HV.out], (below_mid _ _ _ _).drew⟩
  · skip
    by_cases h3 : kd = 3
    · have hv : namedM ⟨kd, pl, ld, nm, ot, dy, pr, rl, rh⟩ = ⟨kd, 0, 0, nm, ⟨#[]⟩, dy, 0, rl, rh⟩ := by subst h3; simp [namedM]
      have HV := Lib.hid hv
      have q2 : (kd == 2) = false := by simp [h2]
      have q3 : (kd == 3) = true := by simp [h3]
      clear hv h2 h3
      go_enter Try.func46, Try.ntmps46
      go_upto_region 6 with fail
      go_region
      all_goals go_wp2_with fail
      have k := (blk_mid w (.cells #[.int .i64 kd, .int .i64 pl, .int .i64 ld, .string nm, .string ot, .int .i64 dy, .int .i64 pr, .int .i64 rl, .int .i64 rh] 40) (.cells #[.int .i64 kd, .int .i64 0, .int .i64 0, .string nm, .string ⟨#[]⟩, .int .i64 dy, .int .i64 0, .int .i64 rl, .int .i64 rh] 40) #[.int .i64 kd, .int .i64 0, .int .i64 0, .string nm, .string ⟨#[]⟩, .int .i64 dy, .int .i64 0, .int .i64 rl, .int .i64 rh] 40).drew
      have x0 := k.cell 0
      have x1 := k.cell 1
      have x2 := k.cell 2
      have x3 := k.cell 3
      have x4 := k.cell 4
      have x5 := k.cell 5
      have x6 := k.cell 6
      have x7 := k.cell 7
      have x8 := k.cell 8
      simp only [List.getElem?_toArray, List.getElem?_cons_zero, List.getElem?_cons_succ] at x0 x1 x2 x3 x4 x5 x6 x7 x8
      exact bodyPost_ret (v := .agg #[.int .i64 kd, .int .i64 0, .int .i64 0, .string nm, .string ⟨#[]⟩, .int .i64 dy, .int .i64 0, .int .i64 rl, .int .i64 rh]) (by simp [results, Try.results46, go_sem, x0, x1, x2, x3, x4, x5, x6, x7, x8]) rfl ⟨by rw [HV.out], (below_mid _ _ _ _).drew⟩
    · skip
      by_cases h4 : kd = 4
      · have hv : namedM ⟨kd, pl, ld, nm, ot, dy, pr, rl, rh⟩ = ⟨kd, 0, ld, nm, ⟨#[]⟩, 0, 0, 0, 0⟩ := by subst h4; simp [namedM]
        have HV := Lib.hid hv
        have q2 : (kd == 2) = false := by simp [h2]
        have q3 : (kd == 3) = false := by simp [h3]
        have q4 : (kd == 4) = true := by simp [h4]
        clear hv h2 h3 h4
        go_enter Try.func46, Try.ntmps46
        go_upto_region 9 with fail
        go_region
        all_goals go_wp2_with fail
        have k := (blk_mid w (.cells #[.int .i64 kd, .int .i64 pl, .int .i64 ld, .string nm, .string ot, .int .i64 dy, .int .i64 pr, .int .i64 rl, .int .i64 rh] 40) (.cells #[.int .i64 kd, .int .i64 0, .int .i64 ld, .string nm, .string ⟨#[]⟩, .int .i64 0, .int .i64 0, .int .i64 0, .int .i64 0] 40) #[.int .i64 kd, .int .i64 0, .int .i64 ld, .string nm, .string ⟨#[]⟩, .int .i64 0, .int .i64 0, .int .i64 0, .int .i64 0] 40).drew
        have x0 := k.cell 0
        have x1 := k.cell 1
        have x2 := k.cell 2
        have x3 := k.cell 3
        have x4 := k.cell 4
        have x5 := k.cell 5
        have x6 := k.cell 6
        have x7 := k.cell 7
        have x8 := k.cell 8
        simp only [List.getElem?_toArray, List.getElem?_cons_zero, List.getElem?_cons_succ] at x0 x1 x2 x3 x4 x5 x6 x7 x8
        exact bodyPost_ret (v := .agg #[.int .i64 kd, .int .i64 0, .int .i64 ld, .string nm, .string ⟨#[]⟩, .int .i64 0, .int .i64 0, .int .i64 0, .int .i64 0]) (by simp [results, Try.results46, go_sem, x0, x1, x2, x3, x4, x5, x6, x7, x8]) rfl ⟨by rw [HV.out], (below_mid _ _ _ _).drew⟩
      · skip
        by_cases h7 : kd = 7
        · have hv : namedM ⟨kd, pl, ld, nm, ot, dy, pr, rl, rh⟩ = ⟨kd, 0, ld, nm, ⟨#[]⟩, 0, 0, 0, 0⟩ := by subst h7; simp [namedM]
          have HV := Lib.hid hv
          have q2 : (kd == 2) = false := by simp [h2]
          have q3 : (kd == 3) = false := by simp [h3]
          have q4 : (kd == 4) = false := by simp [h4]
          have q7 : (kd == 7) = true := by simp [h7]
          clear hv h2 h3 h4 h7
          go_enter Try.func46, Try.ntmps46
          go_upto_region 9 with fail
          go_region
          all_goals go_wp2_with fail
          have k := (blk_mid w (.cells #[.int .i64 kd, .int .i64 pl, .int .i64 ld, .string nm, .string ot, .int .i64 dy, .int .i64 pr, .int .i64 rl, .int .i64 rh] 40) (.cells #[.int .i64 kd, .int .i64 0, .int .i64 ld, .string nm, .string ⟨#[]⟩, .int .i64 0, .int .i64 0, .int .i64 0, .int .i64 0] 40) #[.int .i64 kd, .int .i64 0, .int .i64 ld, .string nm, .string ⟨#[]⟩, .int .i64 0, .int .i64 0, .int .i64 0, .int .i64 0] 40).drew
          have x0 := k.cell 0
          have x1 := k.cell 1
          have x2 := k.cell 2
          have x3 := k.cell 3
          have x4 := k.cell 4
          have x5 := k.cell 5
          have x6 := k.cell 6
          have x7 := k.cell 7
          have x8 := k.cell 8
          simp only [List.getElem?_toArray, List.getElem?_cons_zero, List.getElem?_cons_succ] at x0 x1 x2 x3 x4 x5 x6 x7 x8
          exact bodyPost_ret (v := .agg #[.int .i64 kd, .int .i64 0, .int .i64 ld, .string nm, .string ⟨#[]⟩, .int .i64 0, .int .i64 0, .int .i64 0, .int .i64 0]) (by simp [results, Try.results46, go_sem, x0, x1, x2, x3, x4, x5, x6, x7, x8]) rfl ⟨by rw [HV.out], (below_mid _ _ _ _).drew⟩
        · skip
          by_cases h5 : kd = 5
          · have hv : namedM ⟨kd, pl, ld, nm, ot, dy, pr, rl, rh⟩ = ⟨kd, 0, 0, nm, ot, 0, 0, 0, 0⟩ := by subst h5; simp [namedM]
            have HV := Lib.hid hv
            have q2 : (kd == 2) = false := by simp [h2]
            have q3 : (kd == 3) = false := by simp [h3]
            have q4 : (kd == 4) = false := by simp [h4]
            have q7 : (kd == 7) = false := by simp [h7]
            have q5 : (kd == 5) = true := by simp [h5]
            clear hv h2 h3 h4 h7 h5
            go_enter Try.func46, Try.ntmps46
            go_upto_region 11 with fail
            go_region
            all_goals go_wp2_with fail
            have k := (blk_mid w (.cells #[.int .i64 kd, .int .i64 pl, .int .i64 ld, .string nm, .string ot, .int .i64 dy, .int .i64 pr, .int .i64 rl, .int .i64 rh] 40) (.cells #[.int .i64 kd, .int .i64 0, .int .i64 0, .string nm, .string ot, .int .i64 0, .int .i64 0, .int .i64 0, .int .i64 0] 40) #[.int .i64 kd, .int .i64 0, .int .i64 0, .string nm, .string ot, .int .i64 0, .int .i64 0, .int .i64 0, .int .i64 0] 40).drew
            have x0 := k.cell 0
            have x1 := k.cell 1
            have x2 := k.cell 2
            have x3 := k.cell 3
            have x4 := k.cell 4
            have x5 := k.cell 5
            have x6 := k.cell 6
            have x7 := k.cell 7
            have x8 := k.cell 8
            simp only [List.getElem?_toArray, List.getElem?_cons_zero, List.getElem?_cons_succ] at x0 x1 x2 x3 x4 x5 x6 x7 x8
            exact bodyPost_ret (v := .agg #[.int .i64 kd, .int .i64 0, .int .i64 0, .string nm, .string ot, .int .i64 0, .int .i64 0, .int .i64 0, .int .i64 0]) (by simp [results, Try.results46, go_sem, x0, x1, x2, x3, x4, x5, x6, x7, x8]) rfl ⟨by rw [HV.out], (below_mid _ _ _ _).drew⟩
          · skip
            by_cases h6 : kd = 6
            · have hv : namedM ⟨kd, pl, ld, nm, ot, dy, pr, rl, rh⟩ = ⟨kd, 0, 0, nm, ot, 0, pr, 0, 0⟩ := by subst h6; simp [namedM]
              have HV := Lib.hid hv
              have q2 : (kd == 2) = false := by simp [h2]
              have q3 : (kd == 3) = false := by simp [h3]
              have q4 : (kd == 4) = false := by simp [h4]
              have q7 : (kd == 7) = false := by simp [h7]
              have q5 : (kd == 5) = false := by simp [h5]
              have q6 : (kd == 6) = true := by simp [h6]
              clear hv h2 h3 h4 h7 h5 h6
              go_enter Try.func46, Try.ntmps46
              go_upto_region 13 with fail
              go_region
              all_goals go_wp2_with fail
              have k := (blk_mid w (.cells #[.int .i64 kd, .int .i64 pl, .int .i64 ld, .string nm, .string ot, .int .i64 dy, .int .i64 pr, .int .i64 rl, .int .i64 rh] 40) (.cells #[.int .i64 kd, .int .i64 0, .int .i64 0, .string nm, .string ot, .int .i64 0, .int .i64 pr, .int .i64 0, .int .i64 0] 40) #[.int .i64 kd, .int .i64 0, .int .i64 0, .string nm, .string ot, .int .i64 0, .int .i64 pr, .int .i64 0, .int .i64 0] 40).drew
              have x0 := k.cell 0
              have x1 := k.cell 1
              have x2 := k.cell 2
              have x3 := k.cell 3
              have x4 := k.cell 4
              have x5 := k.cell 5
              have x6 := k.cell 6
              have x7 := k.cell 7
              have x8 := k.cell 8
              simp only [List.getElem?_toArray, List.getElem?_cons_zero, List.getElem?_cons_succ] at x0 x1 x2 x3 x4 x5 x6 x7 x8
              exact bodyPost_ret (v := .agg #[.int .i64 kd, .int .i64 0, .int .i64 0, .string nm, .string ot, .int .i64 0, .int .i64 pr, .int .i64 0, .int .i64 0]) (by simp [results, Try.results46, go_sem, x0, x1, x2, x3, x4, x5, x6, x7, x8]) rfl ⟨by rw [HV.out], (below_mid _ _ _ _).drew⟩
            · skip
              by_cases h8 : kd = 8
              · have hv : namedM ⟨kd, pl, ld, nm, ot, dy, pr, rl, rh⟩ = ⟨kd, 0, 0, nm, ⟨#[]⟩, 0, 0, 0, 0⟩ := by subst h8; simp [namedM]
                have HV := Lib.hid hv
                have q2 : (kd == 2) = false := by simp [h2]
                have q3 : (kd == 3) = false := by simp [h3]
                have q4 : (kd == 4) = false := by simp [h4]
                have q7 : (kd == 7) = false := by simp [h7]
                have q5 : (kd == 5) = false := by simp [h5]
                have q6 : (kd == 6) = false := by simp [h6]
                have q8 : (kd == 8) = true := by simp [h8]
                clear hv h2 h3 h4 h7 h5 h6 h8
                go_enter Try.func46, Try.ntmps46
                all_goals go_wp2_with fail
                have k := (blk_mid w (.cells #[.int .i64 kd, .int .i64 pl, .int .i64 ld, .string nm, .string ot, .int .i64 dy, .int .i64 pr, .int .i64 rl, .int .i64 rh] 40) (.cells #[.int .i64 kd, .int .i64 0, .int .i64 0, .string nm, .string ⟨#[]⟩, .int .i64 0, .int .i64 0, .int .i64 0, .int .i64 0] 40) #[.int .i64 kd, .int .i64 0, .int .i64 0, .string nm, .string ⟨#[]⟩, .int .i64 0, .int .i64 0, .int .i64 0, .int .i64 0] 40)
                have x0 := k.cell 0
                have x1 := k.cell 1
                have x2 := k.cell 2
                have x3 := k.cell 3
                have x4 := k.cell 4
                have x5 := k.cell 5
                have x6 := k.cell 6
                have x7 := k.cell 7
                have x8 := k.cell 8
                simp only [List.getElem?_toArray, List.getElem?_cons_zero, List.getElem?_cons_succ] at x0 x1 x2 x3 x4 x5 x6 x7 x8
                exact bodyPost_ret (v := .agg #[.int .i64 kd, .int .i64 0, .int .i64 0, .string nm, .string ⟨#[]⟩, .int .i64 0, .int .i64 0, .int .i64 0, .int .i64 0]) (by simp [results, Try.results46, go_sem, x0, x1, x2, x3, x4, x5, x6, x7, x8]) rfl ⟨by rw [HV.out], (below_mid _ _ _ _)⟩
              · skip
                have hv : namedM ⟨kd, pl, ld, nm, ot, dy, pr, rl, rh⟩ = ⟨kd, 0, 0, ⟨#[]⟩, ⟨#[]⟩, 0, 0, 0, 0⟩ := by simp [namedM, h2, h3, h4, h7, h5, h6, h8]
                have HV := Lib.hid hv
                have q2 : (kd == 2) = false := by simp [h2]
                have q3 : (kd == 3) = false := by simp [h3]
                have q4 : (kd == 4) = false := by simp [h4]
                have q7 : (kd == 7) = false := by simp [h7]
                have q5 : (kd == 5) = false := by simp [h5]
                have q6 : (kd == 6) = false := by simp [h6]
                have q8 : (kd == 8) = false := by simp [h8]
                clear hv h2 h3 h4 h7 h5 h6 h8
                go_enter Try.func46, Try.ntmps46
                all_goals go_wp2_with fail
                have k := (blk_mid w (.cells #[.int .i64 kd, .int .i64 pl, .int .i64 ld, .string nm, .string ot, .int .i64 dy, .int .i64 pr, .int .i64 rl, .int .i64 rh] 40) (.cells #[.int .i64 kd, .int .i64 0, .int .i64 0, .string ⟨#[]⟩, .string ⟨#[]⟩, .int .i64 0, .int .i64 0, .int .i64 0, .int .i64 0] 40) #[.int .i64 kd, .int .i64 0, .int .i64 0, .string ⟨#[]⟩, .string ⟨#[]⟩, .int .i64 0, .int .i64 0, .int .i64 0, .int .i64 0] 40)
                have x0 := k.cell 0
                have x1 := k.cell 1
                have x2 := k.cell 2
                have x3 := k.cell 3
                have x4 := k.cell 4
                have x5 := k.cell 5
                have x6 := k.cell 6
                have x7 := k.cell 7
                have x8 := k.cell 8
                simp only [List.getElem?_toArray, List.getElem?_cons_zero, List.getElem?_cons_succ] at x0 x1 x2 x3 x4 x5 x6 x7 x8
                exact bodyPost_ret (v := .agg #[.int .i64 kd, .int .i64 0, .int .i64 0, .string ⟨#[]⟩, .string ⟨#[]⟩, .int .i64 0, .int .i64 0, .int .i64 0, .int .i64 0]) (by simp [results, Try.results46, go_sem, x0, x1, x2, x3, x4, x5, x6, x7, x8]) rfl ⟨by rw [HV.out], (below_mid _ _ _ _)⟩
end
end Go.Proofs.Ytghepojnimlafaa
namespace Go.Proofs.Ytghepojnimlafaa
section
open Go.RowKit

/-- The first loads of a heap are gone; a heap without loads is gone. -/
def moveH (hs : List Hep) (i : Nat) (n : Int) : List Hep := match hs[i]? with
  | some h => if cutR n h.parts = [] then hs.eraseIdx i else hs.set i { h with parts := cutR n h.parts }
  | none => hs
def intAt (l : List Int) (i : Nat) : Int := l[i]?.getD 0
def allM (S : Sto) : Int := loadsM S.used + loadsM S.waste + heapsM S.heaps
def yearD (S : Sto) : Int × Sto := if S.year < 100 then (0, { S with year := S.year + 1 }) else (3, S)
def cutD (F : Frm) (S : Sto) (a : Chr) : Int × Sto :=
  if isFromB a.plot 0 ((F.ps.length : Int) - 1) = false then (7, S) else if nameB a.name = false then (5, S) else if 0 ≤ idxH S.heaps a.name then (6, S) else
    if ¬ (intAt S.last a.plot.toNat < 0 ∨ intAt S.last a.plot.toNat ≤ S.year - (pltAt F.ps a.plot.toNat).rest) then (8, S) else
    if ¬ (a.loads ≠ 0 ∧ isFromB a.loads ((pltAt F.ps a.plot.toNat).size * (pltAt F.ps a.plot.toNat).ylo) ((pltAt F.ps a.plot.toNat).size * (pltAt F.ps a.plot.toNat).yhi) = true) then (1, S) else
    if ¬ ((S.heaps.length : Int) < 16 ∧ allM S + a.loads ≤ 100000) then (3, S) else
    (0, { S with last := S.last.set a.plot.toNat S.year, given := S.given.set a.plot.toNat (intAt S.given a.plot.toNat + a.loads), heaps := S.heaps ++ [⟨a.name, (pltAt F.ps a.plot.toNat).crop, 1, none, 0, [⟨a.plot, a.loads⟩], 0, (pltAt F.ps a.plot.toNat).wlo, (pltAt F.ps a.plot.toNat).whi⟩] })
def noHep : Hep := ⟨.empty, 0, 0, none, 0, [], 0, 0, 0⟩
def hepAt (S : Sto) (nm : ByteArray) : Hep := S.heaps[(idxH S.heaps nm).toNat]?.getD noHep
def dryD (S : Sto) (a : Chr) : Int × Sto :=
  if idxH S.heaps a.name < 0 then (7, S) else if (hepAt S a.name).stage = 3 then (8, S) else if ¬ (isFromB a.days 0 365 = true ∧ isSpanB a.rlo a.rhi 0 100 = true) then (1, S) else
    (0, { S with heaps := S.heaps.set (idxH S.heaps a.name).toNat { hepAt S a.name with wlo := moistM ((hepAt S a.name).wlo - 20 * a.days + 5 * a.rlo), whi := moistM ((hepAt S a.name).whi - 10 * a.days + 15 * a.rhi) } })
def combD (F : Frm) (S : Sto) (a : Chr) : Int × Sto :=
  if idxH S.heaps a.name < 0 then (7, S) else if ¬ ((hepAt S a.name).stage = 1 ∧ (hepAt S a.name).whi ≤ F.dry) then (8, S) else if isFromB a.loads 0 (loadsM (hepAt S a.name).parts - 1) = false then (1, S) else
    (0, { S with waste := putL S.waste (cutT a.loads (hepAt S a.name).parts), heaps := moveH (S.heaps.set (idxH S.heaps a.name).toNat { hepAt S a.name with stage := 2 }) (idxH S.heaps a.name).toNat a.loads })
def joinD (S : Sto) (a : Chr) : Int × Sto :=
  if idxH S.heaps a.name < 0 then (7, S) else if idxH S.heaps a.other < 0 then (7, S) else if idxH S.heaps a.name = idxH S.heaps a.other then (10, S) else
    if ¬ ((hepAt S a.name).crop = (hepAt S a.other).crop ∧ (hepAt S a.name).stage = (hepAt S a.other).stage ∧ (hepAt S a.name).stage ≠ 3) then (8, S) else
    (0, { S with heaps := (S.heaps.set (idxH S.heaps a.name).toNat { hepAt S a.name with parts := putL (hepAt S a.name).parts (hepAt S a.other).parts, wlo := min (hepAt S a.name).wlo (hepAt S a.other).wlo, whi := max (hepAt S a.name).whi (hepAt S a.other).whi }).eraseIdx (idxH S.heaps a.other).toNat })
def bindD (F : Frm) (S : Sto) (a : Chr) : Int × Sto :=
  if idxH S.heaps a.name < 0 then (7, S) else if nameB a.other = false then (5, S) else if 0 ≤ idxH S.heaps a.other then (6, S) else if ¬ ((hepAt S a.name).stage = 2 ∧ (hepAt S a.name).whi ≤ F.dry) then (8, S) else
    if isFromB a.per 1 100 = false then (1, S) else if loadsM (hepAt S a.name).parts < a.per then (9, S) else if ¬ (loadsM (hepAt S a.name).parts % a.per = 0 ∨ (S.heaps.length : Int) < 16) then (3, S) else
    (0, { S with heaps := moveH S.heaps (idxH S.heaps a.name).toNat (loadsM (hepAt S a.name).parts - loadsM (hepAt S a.name).parts % a.per) ++
      [⟨a.other, (hepAt S a.name).crop, 3, none, 0, cutT (loadsM (hepAt S a.name).parts - loadsM (hepAt S a.name).parts % a.per) (hepAt S a.name).parts, a.per, (hepAt S a.name).wlo, (hepAt S a.name).whi⟩] })
def useD (S : Sto) (a : Chr) : Int × Sto :=
  if idxH S.heaps a.name < 0 then (7, S) else if (hepAt S a.name).stage ≠ 3 then (8, S) else if isFromB a.loads 1 (loadsM (hepAt S a.name).parts / (hepAt S a.name).per) = false then (1, S) else
    (0, { S with used := putL S.used (cutT (a.loads * (hepAt S a.name).per) (hepAt S a.name).parts), heaps := moveH S.heaps (idxH S.heaps a.name).toNat (a.loads * (hepAt S a.name).per) })
def rotD (F : Frm) (S : Sto) (a : Chr) : Int × Sto :=
  if idxH S.heaps a.name < 0 then (7, S) else if (hepAt S a.name).whi ≤ F.dry then (8, S) else
    (0, { S with waste := putL S.waste (cutT (loadsM (hepAt S a.name).parts) (hepAt S a.name).parts), heaps := moveH S.heaps (idxH S.heaps a.name).toNat (loadsM (hepAt S a.name).parts) })
/-- A chore and what its kind names read alike. -/
def chrB (a b : Chr) : Bool := a.kind == b.kind && (a.plot == b.plot && (a.loads == b.loads && (strB a.name b.name && (strB a.other b.other && (a.days == b.days && (a.per == b.per && (a.rlo == b.rlo && a.rhi == b.rhi)))))))
def choreD (F : Frm) (S : Sto) (a : Chr) : Int × Sto :=
  if a.kind = 1 then yearD S else if a.kind = 2 then cutD F S a else if a.kind = 3 then dryD S a else if a.kind = 4 then combD F S a else if a.kind = 5 then joinD S a else if a.kind = 6 then bindD F S a else if a.kind = 7 then useD S a else rotD F S a
def doD (F : Frm) (S : Sto) (a : Chr) : Int × Sto :=
  if ¬ storeE F S = 0 then (storeE F S, S) else if ¬ (1 ≤ a.kind ∧ a.kind ≤ 8 ∧ chrB a (namedM a) = true) then (1, S) else choreD F S a

theorem idxH_at {l : List Hep} {nm : ByteArray} (h : 0 ≤ idxH l nm) : ∃ (i : Nat) (x : Hep), idxH l nm = i ∧ i < l.length ∧ l[i]? = some x ∧ strB x.name nm = true := by
  unfold idxH at h ⊢
  cases hf : l.findIdx? (fun h => strB h.name nm) with
  | none => rw [hf] at h; simp at h
  | some k =>
    obtain ⟨hk, hs, _⟩ := List.findIdx?_eq_some_iff_getElem.1 hf
    exact ⟨k, l[k], rfl, hk, List.getElem?_eq_getElem hk, hs⟩
theorem hepAt_of {S : Sto} {nm : ByteArray} {i : Nat} {x : Hep} (h1 : idxH S.heaps nm = i) (h2 : S.heaps[i]? = some x) : hepAt S nm = x := by
  unfold hepAt; rw [h1]; simp [h2]

theorem SameHep.refl (h : Hep) : SameHep h h := ⟨rfl, rfl, rfl, rfl, rfl, rfl, rfl⟩
theorem SameSto.refl (S : Sto) : SameSto S S := ⟨rfl, rfl, rfl, rfl, rfl, rfl, fun i g h hg hh => by rw [hg] at hh; cases hh; exact SameHep.refl _⟩
/-- Two lists of heaps that read alike. -/
def sameH (l m : List Hep) : Prop := l.length = m.length ∧ ∀ (i : Nat) (g h : Hep), l[i]? = some g → m[i]? = some h → SameHep g h
theorem SameSto.sameH {S T : Sto} (h : SameSto S T) : sameH S.heaps T.heaps := ⟨h.many, h.heaps⟩
theorem sameH.get {l m : List Hep} (h : sameH l m) {i : Nat} {g : Hep} (hg : l[i]? = some g) : ∃ x, m[i]? = some x ∧ SameHep g x := by
  have hi : i < m.length := by rw [← h.1]; exact (List.getElem?_eq_some_iff.1 hg).1
  exact ⟨m[i], List.getElem?_eq_getElem hi, h.2 i g _ hg (List.getElem?_eq_getElem hi)⟩
theorem sameH.refl (l : List Hep) : Go.Proofs.Ytghepojnimlafaa.sameH l l := ⟨rfl, fun i g h hg hh => by rw [hg] at hh; cases hh; exact SameHep.refl _⟩
theorem SameHep.symm {g h : Hep} (k : SameHep g h) : SameHep h g := ⟨k.name.symm, k.crop.symm, k.stage.symm, k.parts.symm, k.per.symm, k.wlo.symm, k.whi.symm⟩
theorem SameHep.trans {g h x : Hep} (k : SameHep g h) (m : SameHep h x) : SameHep g x := ⟨k.name.trans m.name, k.crop.trans m.crop, k.stage.trans m.stage, k.parts.trans m.parts, k.per.trans m.per, k.wlo.trans m.wlo, k.whi.trans m.whi⟩
theorem sameH.symm {l m : List Hep} (h : sameH l m) : Go.Proofs.Ytghepojnimlafaa.sameH m l := ⟨h.1.symm, fun i g x hg hx => (h.2 i x g hx hg).symm⟩
theorem sameH.trans {l m n : List Hep} (h : sameH l m) (k : Go.Proofs.Ytghepojnimlafaa.sameH m n) : Go.Proofs.Ytghepojnimlafaa.sameH l n := ⟨h.1.trans k.1, fun i g x hg hx => by
  obtain ⟨y, hy, hgy⟩ := h.get hg
  exact hgy.trans (k.2 i y x hy hx)⟩
theorem SameSto.symm {S T : Sto} (h : SameSto S T) : SameSto T S := ⟨h.year.symm, h.last.symm, h.given.symm, h.used.symm, h.waste.symm, h.many.symm, h.sameH.symm.2⟩
theorem SameSto.trans {S T U : Sto} (h : SameSto S T) (k : SameSto T U) : SameSto S U := ⟨h.year.trans k.year, h.last.trans k.last, h.given.trans k.given, h.used.trans k.used, h.waste.trans k.waste, h.many.trans k.many, (h.sameH.trans k.sameH).2⟩
theorem sameH.set {l m : List Hep} (h : sameH l m) (i : Nat) {x y : Hep} (hx : SameHep x y) : Go.Proofs.Ytghepojnimlafaa.sameH (l.set i x) (m.set i y) := by
  refine ⟨by simp [h.1], fun j g k hg hk => ?_⟩
  rw [List.getElem?_set] at hg hk
  split at hg
  · next e =>
    rw [if_pos e] at hk
    split at hg
    · split at hk
      · cases hg; cases hk; exact hx
      · cases hk
    · cases hg
  · next e =>
    rw [if_neg e] at hk
    exact h.2 j g k hg hk
theorem sameH.erase {l m : List Hep} (h : sameH l m) (i : Nat) : Go.Proofs.Ytghepojnimlafaa.sameH (l.eraseIdx i) (m.eraseIdx i) := by
  refine ⟨by rw [List.length_eraseIdx, List.length_eraseIdx, h.1], fun j g k hg hk => ?_⟩
  rw [List.getElem?_eraseIdx] at hg hk
  split at hg
  · next e => rw [if_pos e] at hk; exact h.2 _ g k hg hk
  · next e => rw [if_neg e] at hk; exact h.2 _ g k hg hk
theorem sameH.append {l m : List Hep} (h : sameH l m) {x y : Hep} (hx : SameHep x y) : Go.Proofs.Ytghepojnimlafaa.sameH (l ++ [x]) (m ++ [y]) := by
  refine ⟨by simp [h.1], fun j g k hg hk => ?_⟩
  rcases Nat.lt_or_ge j l.length with hj | hj
  · rw [List.getElem?_append_left hj] at hg
    rw [List.getElem?_append_left (by rw [← h.1]; exact hj)] at hk
    exact h.2 j g k hg hk
  · rw [List.getElem?_append_right hj] at hg
    rw [List.getElem?_append_right (by rw [← h.1]; exact hj)] at hk
    rw [h.1] at hg
    cases hn : j - m.length with
    | zero => rw [hn] at hg hk; simp at hg hk; subst hg; subst hk; exact hx
    | succ n => rw [hn] at hg; simp at hg
theorem sameH.move {l m : List Hep} (h : sameH l m) (i : Nat) (n : Int) : Go.Proofs.Ytghepojnimlafaa.sameH (moveH l i n) (moveH m i n) := by
  unfold moveH
  cases hl : l[i]? with
  | none =>
    have : m[i]? = none := by
      rw [List.getElem?_eq_none_iff] at hl ⊢
      rw [← h.1]; exact hl
    rw [this]; exact h
  | some g =>
    obtain ⟨x, hx, hgx⟩ := h.get hl
    rw [hx]
    simp only [hgx.parts]
    split
    · exact h.erase i
    · exact h.set i ⟨hgx.name, hgx.crop, hgx.stage, rfl, hgx.per, hgx.wlo, hgx.whi⟩
end
end Go.Proofs.Ytghepojnimlafaa
