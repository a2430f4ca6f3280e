/- isEnough, slices.Clone of numbers. The walk over all choices: the closure that calls itself. cheapest and Choose. Choose. Great, the farm of the examples, given: what fields cost, and whether they are enough. lives, given. Wide: whether a store is more than statements look at. -/
import Derived.Test.YtfhalmlpnoepcaaGreatFB
import Derived.Deep.AppendLies
import Derived.Deep.DeepCutAuto
import Derived.Deep.CutRange
import Derived.StillTailTactics
import Derived.Deep.QuietTactic
import Derived.BigQuiet
import Derived.Test.YtfhalmlpnoepcaaGreatGH
namespace Go.Proofs.YtfhalmlpnoepcaaGreat
section
open Go.RowKit

theorem isEnough_any (c : Sur) (n : Ned) (w : World) :
    Calls Tryz.prog 55 #[.agg #[.int .i64 c.z, .int .i64 c.r, .int .i64 c.s, .int .i64 c.h], .agg #[.int .i64 n.reed, .int .i64 n.straw, .int .i64 n.heather]] w fun e w' => e = .returned (.bool (c.enough n)) ∧ Below w.heap.size w w' := by
  obtain ⟨z, r, s, h⟩ := c
  obtain ⟨a, b, d⟩ := n
  by_cases h1 : a ≤ r
  all_goals by_cases h2 : b ≤ s
  all_goals by_cases h3 : d ≤ h
  all_goals
    go_enter Tryz.func55, Tryz.ntmps55
    go_wp2_with fail
    all_goals go_ret
    all_goals refine ⟨?_, by first | exact Below.refl _ _ | exact (Below.refl _ _).alloc (Nat.le_refl _) _ | exact ((Below.refl _ _).alloc (Nat.le_refl _) _).alloc (by simp) _⟩
    all_goals simp [Sur.enough, h1, h2, h3]

/-- The value of a list of numbers' cells. -/
def natsV (l : List Nat) : List Value := l.map (fun (k : Nat) => Value.int .i64 (k : Int))
theorem natsV_len (l : List Nat) : (natsV l).length = l.length := by simp [natsV]
theorem natsV_one (l : List Nat) : ∀ u ∈ natsV l, u.oneCell' = true := by
  intro u hu
  obtain ⟨k, _, rfl⟩ := List.mem_map.1 hu
  rfl

set_option maxRecDepth 100000 in
set_option maxHeartbeats 1000000 in
theorem clone_any (g cap : Nat) (l : List Nat) (B : Nat) (w : World) (hown : w.ownsRow B 3 1 (.slice (some ⟨g, 0, none⟩) l.length cap) l.length (natsV l)) (hm : 0 < l.length) (hl : l.length ≤ 1000) :
    Calls Tryz.prog 33 #[.slice (some ⟨g, 0, none⟩) l.length cap] w fun e w' => (∃ v, e = .returned v ∧ w'.ownsRow w.heap.size 3 1 v l.length (natsV l)) ∧ Below w.heap.size w w' := by
  obtain ⟨i0, hi0, hz0, hz1, hz2⟩ : ∃ i, Tryz.prog.info? 3 = some i ∧ i.zero = some (.int .i64 0) ∧ i.size = 1 ∧ i.bytes = 8 := ⟨_, rfl, rfl, rfl, rfl⟩
  have hnil : ∀ w, (binOp BinOp.eql 25 (Value.slice (some ⟨g, 0, none⟩) l.length cap) (Value.slice none 0 0)).run Tryz.prog w = .ok (.bool false) w := fun w => rfl
  have HOWN := Lib.hid hown
  clear hown
  go_enter Tryz.func33, Tryz.ntmps33
  have hmk : (w.alloc (.cells #[] 3)).ownsRow w.heap.size 3 1 (.slice (some ⟨w.heap.size, 0, none⟩) 0 0) 0 [] := World.ownsRow_made w #[] 0 (Nat.le_refl _) (by decide) rfl
  have hmx : 0 + l.length ≤ maxLen := by unfold maxLen; omega
  have hB : Below w.heap.size w (w.alloc (.cells #[] 3)) := (Below.refl _ _).alloc (Nat.le_refl _) _
  have hnw : ∀ (j : Nat) (u : Value), (natsV l)[j]? = some u → (w.alloc (.cells #[] 3)).cell? ((⟨g, 0, none⟩ : Addr).add j) = some u := (HOWN.out.alloc _).cells rfl
  go_wp2_with (first | (rw [hnil]) | (at_builtin; refine wpList_append_lies _ rfl _ _ 25 rfl w.heap.size 3 i0 (.int .i64 0) 1 8 Tryz.underlying25 hi0 hz0 hz1 hz2 rfl (by decide) _ _ _ rfl hmk ⟨g, 0, none⟩ l.length cap (natsV l) rfl (by simp [natsV]) hnw (natsV_one l) hm hmx (by omega) (by simp) _ rfl ?_; intro g2 cap2 w6 hown6 hgrow hat hlt6; have HOWN6 := Lib.hid hown6; have HGR := Lib.hid hgrow; clear hown6 hgrow hat))
  go_ret
  refine ⟨⟨_, rfl, ?_⟩, hB.grown HGR.out (by simp) (fun k e => by cases e; exact Nat.le_refl _)⟩
  have := HOWN6.out
  simpa using this
end
end Go.Proofs.YtfhalmlpnoepcaaGreat
namespace Go.Proofs.YtfhalmlpnoepcaaGreat
section
open Go.RowKit

/-- The walk's function value: what it has captured. -/
abbrev walkV (H : Nat) : Value := .func (.func 54) #[] #[.pointer (some ⟨H + 4, 0, none⟩), .pointer (some ⟨H + 3, 0, none⟩), .pointer (some ⟨H + 5, 0, none⟩), .pointer (some ⟨H + 2, 0, none⟩), .pointer (some ⟨H + 1, 0, none⟩), .pointer (some ⟨H, 0, none⟩), .pointer (some ⟨H + 6, 0, none⟩)]
/-- What lies in the boxes while the walk goes on. -/
structure Stt (w0 : World) (H : Nat) (pv : Value) (n : Ned) (ch : List Nat) (b : Bst) (ca : Option Addr) (cc : Nat) (ba : Option Addr) (bc : Nat) (w : World) : Prop where
  below : Below H w0 w
  plots : Blk w H #[pv] 22
  need : Blk w (H + 1) #[.int .i64 n.reed, .int .i64 n.straw, .int .i64 n.heather] 58
  best : Blk w (H + 2) #[.slice ba b.best.length bc] 25
  least : Blk w (H + 3) #[.int .i64 b.least] 3
  found : Blk w (H + 4) #[.bool b.found] 4
  choice : Blk w (H + 5) #[.slice ca ch.length cc] 25
  walk : Blk w (H + 6) #[walkV H] 98
  chosen : w.ownsRow (H + 7) 3 1 (.slice ca ch.length cc) ch.length (natsV ch)
  bests : w.ownsRow (H + 7) 3 1 (.slice ba b.best.length bc) b.best.length (natsV b.best)
  apart : (Value.slice ba b.best.length bc).ownBlock = none ∨ (Value.slice ba b.best.length bc).ownBlock ≠ (Value.slice ca ch.length cc).ownBlock
theorem ownsRow_belowS {w w' : World} {B : Nat} {v : Value} {k : Nat} {xs : List Value} (h : w.ownsRow B 3 1 v k xs) (hb : Below w.heap.size w w') : w'.ownsRow B 3 1 v k xs := by
  obtain ⟨h1, h2⟩ := h
  refine ⟨h1, ?_⟩
  rcases h2 with h2 | ⟨g, cap, cur, e, k1, k2, k3⟩
  · exact .inl h2
  · exact .inr ⟨g, cap, cur, e, k1, (hb.block g (Array.getElem?_eq_some_iff.1 k2).1).trans k2, k3⟩
theorem Stt.belowS {w0 w w' : World} {H : Nat} {pv : Value} {n : Ned} {ch : List Nat} {b : Bst} {ca ba : Option Addr} {cc bc : Nat} (h : Stt w0 H pv n ch b ca cc ba bc w) (hb : Below w.heap.size w w') : Stt w0 H pv n ch b ca cc ba bc w' :=
  ⟨h.below.trans (hb.mono (by have := h.plots.lt; omega)), h.plots.belowS hb, h.need.belowS hb, h.best.belowS hb, h.least.belowS hb, h.found.belowS hb, h.choice.belowS hb, h.walk.belowS hb, ownsRow_belowS h.chosen hb, ownsRow_belowS h.bests hb, h.apart⟩
theorem ownsRow_base {w : World} {B B' : Nat} {v : Value} {k : Nat} {xs : List Value} (h : w.ownsRow B 3 1 v k xs) (hb : B' ≤ B) : w.ownsRow B' 3 1 v k xs := by
  obtain ⟨h1, h2⟩ := h
  refine ⟨h1, ?_⟩
  rcases h2 with h2 | ⟨g, cap, cur, e, k1, k2⟩
  · exact .inl h2
  · exact .inr ⟨g, cap, cur, e, by omega, k2⟩
/-- The block of a row. -/
def rowOf (a : Option Addr) : Option Nat := a.map (·.block)
theorem rowOf_own (a : Option Addr) (l c : Nat) : (Value.slice a l c).ownBlock = rowOf a := by cases a <;> rfl
/-- What the walk leaves as it was: all that lay before it, but for four boxes and the row of the choice. -/
structure Kp (H : Nat) (ca ca' : Option Addr) (w w' : World) : Prop where
  size : w.heap.size ≤ w'.heap.size
  blk : ∀ k, k < w.heap.size → (k < H + 2 ∨ H + 5 < k) → rowOf ca ≠ some k → w'.heap[k]? = w.heap[k]?
  row : rowOf ca' = rowOf ca ∨ ∀ k, rowOf ca' = some k → w.heap.size ≤ k
theorem Kp.trans {H : Nat} {a a' a2 : Option Addr} {w w' w2 : World} (h : Kp H a a' w w') (k : Kp H a' a2 w' w2) : Kp H a a2 w w2 := by
  refine ⟨Nat.le_trans h.size k.size, fun i hi hb hr => ?_, ?_⟩
  · have hs := h.size
    have hne : rowOf a' ≠ some i := by
      rcases h.row with e | e
      · rw [e]; exact hr
      · intro e2
        have := e i e2
        omega
    exact (k.blk i (by omega) hb hne).trans (h.blk i hi hb hr)
  · rcases k.row with e | e
    · rcases h.row with e2 | e2
      · exact .inl (e.trans e2)
      · exact .inr fun i hi => e2 i (e ▸ hi)
    · exact .inr fun i hi => Nat.le_trans h.size (e i hi)
theorem Kp.of_below {H : Nat} {a : Option Addr} {w w' : World} (h : Below w.heap.size w w') : Kp H a a w w' := ⟨h.size, fun k hk _ _ => h.block k hk, .inl rfl⟩
theorem Kp.set {H : Nat} {a : Option Addr} {w : World} {k j : Nat} {v : Value} (h1 : H + 2 ≤ k) (h2 : k ≤ H + 5) : Kp H a a w (w.setCell ⟨k, j, none⟩ v) :=
  ⟨by simp [World.setCell], fun i _ hb _ => Below.heap_setCell w ⟨k, j, none⟩ v i (by show i ≠ k; omega), .inl rfl⟩
theorem Kp.Blk {H : Nat} {a a' : Option Addr} {w w' : World} {B : Nat} {cs : Array Value} {t : TypeId} (h : Kp H a a' w w') (k : Blk w B cs t) (hb : H + 5 < B) (hr : rowOf a ≠ some B) : Blk w' B cs t := (h.blk B k.lt (.inr hb) hr).trans k
theorem ownsRow_set {w : World} {B k j : Nat} {x v : Value} {m : Nat} {xs : List Value} (h : w.ownsRow B 3 1 x m xs) (hk : k < B) : (w.setCell ⟨k, j, none⟩ v).ownsRow B 3 1 x m xs := by
  obtain ⟨h1, h2⟩ := h
  refine ⟨h1, ?_⟩
  rcases h2 with h2 | ⟨g, cap, cur, e, k1, k2, k3⟩
  · exact .inl h2
  · exact .inr ⟨g, cap, cur, e, k1, (Below.heap_setCell w ⟨k, j, none⟩ v g (by show g ≠ k; omega)).trans k2, k3⟩
/-- The best choice is another one from now on. -/
theorem Stt.visited {w0 w w3 : World} {H : Nat} {pv : Value} {n : Ned} {ch : List Nat} {b : Bst} {ca ba va : Option Addr} {cc bc vc : Nat} (h : Stt w0 H pv n ch b ca cc ba bc w) (hb : Below w.heap.size w w3)
    (hv : w3.ownsRow w.heap.size 3 1 (.slice va ch.length vc) ch.length (natsV ch)) (cost : Int) :
    Stt w0 H pv n ch ⟨ch, cost, true⟩ ca cc va vc (((w3.setCell ⟨H + 2, 0, none⟩ (.slice va ch.length vc)).setCell ⟨H + 3, 0, none⟩ (.int .i64 cost)).setCell ⟨H + 4, 0, none⟩ (.bool true)) := by
  have l6 := h.walk.lt
  have h3 := h.belowS hb
  refine ⟨((h3.below.setCell (by simp) _).setCell (by simp) _).setCell (by simp) _, ((h3.plots.other (by omega) _).other (by omega) _).other (by omega) _, ((h3.need.other (by omega) _).other (by omega) _).other (by omega) _,
    ((h3.best.set 0 _).other (by omega) _).other (by omega) _, ((h3.least.other (by omega) _).set 0 _).other (by omega) _, ((h3.found.other (by omega) _).other (by omega) _).set 0 _,
    ((h3.choice.other (by omega) _).other (by omega) _).other (by omega) _, ((h3.walk.other (by omega) _).other (by omega) _).other (by omega) _,
    ownsRow_set (ownsRow_set (ownsRow_set h3.chosen (by omega)) (by omega)) (by omega), ownsRow_set (ownsRow_set (ownsRow_set (ownsRow_base hv (by omega)) (by omega)) (by omega)) (by omega), ?_⟩
  have k1 := hv.lt
  have k2 := h.chosen.lt
  cases va with
  | none => exact .inl rfl
  | some a =>
    right
    intro e
    cases ca with
    | none => cases e
    | some c =>
      have e' : a.block = c.block := by simpa [Value.ownBlock] using e
      have := (k1 _ rfl).1
      have := (k2 _ rfl).2
      omega
/-- A field more is chosen. -/
theorem Stt.pushed {w0 w w5 w6 : World} {H g cap j : Nat} {pv : Value} {n : Ned} {ch : List Nat} {b : Bst} {ca ba : Option Addr} {cc bc : Nat} (h : Stt w0 H pv n ch b ca cc ba bc w) (hb : Below w.heap.size w w5)
    (hown : w6.ownsRow (H + 7) 3 1 (.slice (some ⟨g, 0, none⟩) (ch.length + 1) cap) (ch.length + 1) (natsV ch ++ [.int .i64 (j : Int)])) (hg : w5.grownBy w6 (Value.slice ca ch.length cc).ownBlock)
    (hat : (Value.slice ca ch.length cc).ownBlock = some g ∨ g = w5.heap.size) :
    Stt w0 H pv n (ch ++ [j]) b (some ⟨g, 0, none⟩) cap ba bc (w6.setCell ⟨H + 5, 0, none⟩ (.slice (some ⟨g, 0, none⟩) (ch.length + 1) cap)) ∧
    Kp H ca (some ⟨g, 0, none⟩) w (w6.setCell ⟨H + 5, 0, none⟩ (.slice (some ⟨g, 0, none⟩) (ch.length + 1) cap)) := by
  have l6 := h.walk.lt
  have hs := hb.size
  have h5 := h.belowS hb
  have hrow : ∀ k, (Value.slice ca ch.length cc).ownBlock = some k → H + 7 ≤ k ∧ k < w.heap.size := h.chosen.lt
  have hne : ∀ k, k < H + 7 → some k ≠ (Value.slice ca ch.length cc).ownBlock := fun k hk e => by have := (hrow k e.symm).1; omega
  have hlen : (ch ++ [j]).length = ch.length + 1 := by simp
  have hnv : natsV (ch ++ [j]) = natsV ch ++ [.int .i64 (j : Int)] := by simp [natsV]
  refine ⟨⟨?_, ?_, ?_, ?_, ?_, ?_, ?_, ?_, ?_, ?_, ?_⟩, ?_, ?_, ?_⟩
  · exact ((h5.below.grown hg (by omega) (fun k e => by have := (hrow k e).1; omega)).setCell (by simp) _)
  · exact (h5.plots.kept hg (hne _ (by omega))).other (by omega) _
  · exact (h5.need.kept hg (hne _ (by omega))).other (by omega) _
  · exact (h5.best.kept hg (hne _ (by omega))).other (by omega) _
  · exact (h5.least.kept hg (hne _ (by omega))).other (by omega) _
  · exact (h5.found.kept hg (hne _ (by omega))).other (by omega) _
  · rw [hlen]; exact (h5.choice.kept hg (hne _ (by omega))).set 0 _
  · exact (h5.walk.kept hg (hne _ (by omega))).other (by omega) _
  · rw [hlen, hnv]; exact ownsRow_set hown (by omega)
  · exact ownsRow_set (h5.bests.kept hg h5.apart) (by omega)
  · rcases hat with e | rfl
    · rcases h.apart with e2 | e2
      · exact .inl e2
      · right
        rw [e] at e2
        exact e2
    · cases hba : (Value.slice ba b.best.length bc).ownBlock with
      | none => exact .inl rfl
      | some k =>
        right
        have := (h.bests.lt k hba).2
        intro e
        have e' : k = w5.heap.size := by simpa [Value.ownBlock] using e
        omega
  · have := hg.size
    simp [World.setCell]
    omega
  · intro k hk hb2 hr
    refine (Below.heap_setCell w6 ⟨H + 5, 0, none⟩ _ k (by show k ≠ H + 5; omega)).trans ((hg.block k (by omega) ?_).trans (hb.block k hk))
    rw [rowOf_own]
    exact fun e => hr e.symm
  · rcases hat with e | rfl
    · left
      rw [rowOf_own] at e
      exact e.symm
    · right
      intro k hk
      have e' : w5.heap.size = k := by simpa [rowOf] using hk
      omega
/-- The last field is taken back. -/
theorem Stt.popped {w0 w : World} {H j : Nat} {pv : Value} {n : Ned} {ch : List Nat} {b : Bst} {ca ba : Option Addr} {cc bc : Nat} (h : Stt w0 H pv n (ch ++ [j]) b ca cc ba bc w) :
    Stt w0 H pv n ch b ca cc ba bc (w.setCell ⟨H + 5, 0, none⟩ (.slice ca ch.length cc)) := by
  have hlen : (ch ++ [j]).length = ch.length + 1 := by simp
  have hnv : natsV (ch ++ [j]) = natsV ch ++ [.int .i64 (j : Int)] := by simp [natsV]
  refine ⟨h.below.setCell (by simp) _, h.plots.other (by omega) _, h.need.other (by omega) _, h.best.other (by omega) _, h.least.other (by omega) _, h.found.other (by omega) _, h.choice.set 0 _, h.walk.other (by omega) _, ownsRow_set ?_ (by omega), ownsRow_set h.bests (by omega), ?_⟩
  · obtain ⟨k1, k2⟩ := h.chosen
    rcases k2 with ⟨_, e⟩ | ⟨g, cap, cur, e, k3, k4, k5, k6, k7, k8⟩
    · rw [hlen] at e; omega
    · obtain ⟨rfl, _, rfl⟩ := slice_inj e
      refine ⟨by rw [natsV_len]; omega, .inr ⟨g, cc, cur, rfl, k3, k4, by omega, k6, k7, ?_⟩⟩
      rw [hlen, hnv] at k8
      have := congrArg (List.take (ch.length * 1)) k8
      rw [List.take_take, Nat.min_eq_left (by omega)] at this
      rw [this, List.take_left' (by rw [natsV_len]; omega)]
  · have := h.apart
    rw [rowOf_own, rowOf_own] at this ⊢
    exact this
set_option maxRecDepth 100000 in
theorem clone_nil (w : World) : Calls Tryz.prog 33 #[.slice none 0 0] w fun e w' => e = .returned (.slice none 0 0) ∧ Below w.heap.size w w' := by
  have hnil : ∀ w, (binOp BinOp.eql 25 (Value.slice none 0 0) (Value.slice none 0 0)).run Tryz.prog w = .ok (.bool true) w := fun w => rfl
  go_enter Tryz.func33, Tryz.ntmps33
  go_wp2_with (rw [hnil])
  go_ret
  exact ⟨rfl, Below.refl _ _⟩
theorem cloneAny {ch : List Nat} {ca : Option Addr} {cc B : Nat} {w : World} (h : w.ownsRow B 3 1 (.slice ca ch.length cc) ch.length (natsV ch)) (hnil : ch = [] → ca = none) (hl : ch.length ≤ 1000) :
    Calls Tryz.prog 33 #[.slice ca ch.length cc] w fun e w' => (∃ va vc, e = .returned (.slice va ch.length vc) ∧ w'.ownsRow w.heap.size 3 1 (.slice va ch.length vc) ch.length (natsV ch)) ∧ Below w.heap.size w w' := by
  by_cases h0 : ch = []
  · obtain rfl := hnil h0
    subst h0
    have hcc : cc = 0 := by
      rcases h.2 with ⟨e, _⟩ | ⟨g, cap, cur, e, _⟩
      · injection e
      · injection e with e _ _; cases e
    subst hcc
    refine (clone_nil w).mono ?_
    rintro e w' ⟨rfl, hb⟩
    exact ⟨⟨none, 0, rfl, World.ownsRow_nil w' _ _ _⟩, hb⟩
  · have hp : 0 < ch.length := List.length_pos_iff.2 h0
    obtain ⟨g, cap, e, _, _⟩ := h.form hp
    obtain ⟨rfl, _, rfl⟩ := slice_inj e
    refine (clone_any g cc ch B w h hp hl).mono ?_
    rintro e w' ⟨⟨v, rfl, hv⟩, hb⟩
    obtain ⟨g2, cap2, rfl, _, _⟩ := hv.form hp
    exact ⟨⟨_, _, rfl, hv⟩, hb⟩

set_option maxRecDepth 100000 in
set_option maxHeartbeats 8000000 in
theorem walk_any (w0 : World) (H : Nat) (sa : Option Addr) (sc : Nat) (n : Ned) (ps : List Plt) (hps : IsPlts w0 (.slice sa ps.length sc) ps) (hH : w0.heap.size = H) (hok : ∀ p ∈ ps, p.ok) (hlen : ps.length ≤ 12) (m : Nat) :
    ∀ (rest : List Plt) (i : Nat) (ch : List Nat) (cost : Int) (c : Sur) (b : Bst) (ca : Option Addr) (cc : Nat) (ba : Option Addr) (bc : Nat) (w : World), rest.length ≤ m → ps.drop i = rest → i ≤ ps.length →
      (ch = [] → ca = none) → ch.length ≤ i → b.best.length ≤ 12 → (0 ≤ cost ∧ cost ≤ i * 1000000) → ((0 ≤ c.z ∧ c.z ≤ i * 100000) ∧ (0 ≤ c.r ∧ c.r ≤ i * 100000) ∧ (0 ≤ c.s ∧ c.s ≤ i * 100000) ∧ (0 ≤ c.h ∧ c.h ≤ i * 100000)) →
      Stt w0 H (.slice sa ps.length sc) n ch b ca cc ba bc w →
      Calls Tryz.prog 54 #[.int .i64 i, .int .i64 cost, .agg #[.int .i64 c.z, .int .i64 c.r, .int .i64 c.s, .int .i64 c.h], .pointer (some ⟨H + 4, 0, none⟩), .pointer (some ⟨H + 3, 0, none⟩), .pointer (some ⟨H + 5, 0, none⟩), .pointer (some ⟨H + 2, 0, none⟩), .pointer (some ⟨H + 1, 0, none⟩), .pointer (some ⟨H, 0, none⟩), .pointer (some ⟨H + 6, 0, none⟩)] w
        fun e w' => e = .returned (.tuple #[]) ∧ (loopL n rest i ch cost c (b.visit n ch cost c)).best.length ≤ 12 ∧ ∃ ca' cc' ba' bc', Stt w0 H (.slice sa ps.length sc) n ch (loopL n rest i ch cost c (b.visit n ch cost c)) ca' cc' ba' bc' w' ∧ Kp H ca ca' w w' := by
  induction m using Nat.strongRecOn with
  | _ m IH =>
    intro rest i ch cost c b ca cc ba bc w hm hd hi hnil hchl hbl hcost hc hS
    have hrw : rowOf ca ≠ some w.heap.size := by
      intro e
      have := (hS.chosen.lt _ ((rowOf_own _ _ _).trans e)).2
      omega
    have HS := Lib.hid hS
    have HIH := Lib.hid IH
    clear IH
    obtain ⟨s0, s1, s2, s3, s4, s5, s6, s7, s8, s9, s10⟩ := hS
    have hSm := HS.out.belowS ((Below.refl _ w).alloc (Nat.le_refl _) (.cells #[.int .i64 c.z, .int .i64 c.r, .int .i64 c.s, .int .i64 c.h] 100))
    have HSM := Lib.hid hSm
    obtain ⟨t0, t1, t2, t3, t4, t5, t6, t7, t8, t9, t10⟩ := hSm
    have c4 := t3.cell 0
    have c5 := t4.cell 0
    have c6 := t5.cell 0
    have c7 := t6.cell 0
    have l0 := s1.lt
    have l1 := s2.lt
    have l2 := s3.lt
    have l3 := s4.lt
    have l4 := s5.lt
    have l5 := s6.lt
    have l6 := s7.lt
    have hB : Below w.heap.size w (w.alloc (.cells #[.int .i64 c.z, .int .i64 c.r, .int .i64 c.s, .int .i64 c.h] 100)) := (Below.refl _ _).alloc (Nat.le_refl _) _
    have kC := Blk.new w 100 #[.int .i64 c.z, .int .i64 c.r, .int .i64 c.s, .int .i64 c.h]
    simp only [List.getElem?_toArray, List.getElem?_cons_zero] at c4 c5 c6 c7
    clear s0 s1 s2 s3 s4 s5 s6 s7 s8 s9 s10 t0 t1 t2 t3 t4 t5 t6 t7 t8 t9 t10
    go_enter Tryz.func54, Tryz.ntmps54
    go_upto_region 1 with fail
    go_cut [13] (fun s13 wx => s13 = .bool (b.better ch cost) ∧ Below (w.alloc (.cells #[.int .i64 c.z, .int .i64 c.r, .int .i64 c.s, .int .i64 c.h] 100)).heap.size (w.alloc (.cells #[.int .i64 c.z, .int .i64 c.r, .int .i64 c.s, .int .i64 c.h] 100)) wx)
    case first =>
      cases hf : b.found with
      | false =>
        rw [hf] at c6
        have hv : b.better ch cost = true := by simp [Bst.better, hf]
        have HV := Lib.hid hv
        clear hv hf
        go_wp2_with fail
        go_meet
        exact ⟨by rw [HV.out], Below.refl _ _⟩
      | true =>
        rw [hf] at c6
        cases q1 : decide (cost < b.least) with
        | true =>
          have hv : b.better ch cost = true := by simp [Bst.better, q1]
          have HV := Lib.hid hv
          clear hv hf
          go_wp2_with fail
          go_meet
          exact ⟨by rw [HV.out], Below.refl _ _⟩
        | false =>
          cases q2 : cost == b.least with
          | false =>
            have q2' : decide (cost = b.least) = false := by simpa using q2
            have hv : b.better ch cost = false := by simp [Bst.better, hf, q1, q2']
            have HV := Lib.hid hv
            clear hv hf q2'
            go_wp2_with fail
            go_meet
            exact ⟨by rw [HV.out], Below.refl _ _⟩
          | true =>
            have q2' : decide (cost = b.least) = true := by simpa using q2
            have hv : b.better ch cost = decide (ch.length < b.best.length) := by simp [Bst.better, hf, q1, q2']
            have HV := Lib.hid hv
            clear hv hf q2'
            go_wp2_with fail
            go_meet
            exact ⟨by rw [HV.out], Below.refl _ _⟩
    case rest =>
      obtain ⟨rfl, hcw⟩ := hcut
      have hSm := HSM.out.belowS hcw
      have kC1 := kC.belowS hcw
      have hw1 : w.heap.size < wc.heap.size := kC1.lt
      have HS1 := Lib.hid hSm
      have HKC := Lib.hid kC1
      have LH := l6
      have HKA := Lib.hid ((Kp.of_below (H := H) (a := ca) hB).trans (Kp.of_below hcw))
      clear hcw kC hB HSM HS l0 l1 l2 l3 l4 l5 l6 c4 c5 c6 c7
      obtain ⟨w1, rfl⟩ : ∃ w1 : World, w1 = wc := ⟨_, rfl⟩
      obtain ⟨t0, t1, t2, t3, t4, t5, t6, t7, t8, t9, t10⟩ := hSm
      have c1 := t2.cell 0
      have c2 := t2.cell 1
      have c3 := t2.cell 2
      have d0 := kC1.cell 0
      have d1 := kC1.cell 1
      have d2 := kC1.cell 2
      have d3 := kC1.cell 3
      simp only [List.getElem?_toArray, List.getElem?_cons_zero, List.getElem?_cons_succ] at c1 c2 c3 d0 d1 d2 d3
      clear t0 t1 t2 t3 t4 t5 t6 t7 t8 t9 t10 kC1
      generalize hbt : b.better ch cost = bt
      have HBT := Lib.hid hbt
      clear hbt
      go_upto_region 2 with fail
      go_cut [41] (fun s41 wx => s41 = .bool (bt && c.enough n) ∧ Below w1.heap.size w1 wx)
      case first =>
        cases bt with
        | false =>
          go_wp2_with fail
          go_meet
          exact ⟨rfl, Below.refl _ _⟩
        | true =>
          go_wp2_with (go_at_call 55; refine (isEnough_any c n _).mono ?_; rintro e w2 ⟨rfl, hb2⟩)
          go_meet
          exact ⟨rfl, hb2⟩
      case rest =>
        obtain ⟨rfl, hcw⟩ := hcut
        have hSm := HS1.out.belowS hcw
        have kC2 := HKC.out.belowS hcw
        have HS2 := Lib.hid hSm
        have HKC2 := Lib.hid kC2
        have HKB := Lib.hid (HKA.out.trans (Kp.of_below hcw))
        clear hcw HS1 HKC HKA c1 c2 c3 d0 d1 d2 d3
        obtain ⟨w2, rfl⟩ : ∃ w2 : World, w2 = wc := ⟨_, rfl⟩
        generalize hvt : (bt && c.enough n) = vt
        have HVT := Lib.hid hvt
        clear hvt
        go_upto_if 41 with fail
        go_cut [] (fun wx => ∃ ba' bc', Stt w0 H (.slice sa ps.length sc) n ch (b.visit n ch cost c) ca cc ba' bc' wx ∧ Blk wx w.heap.size #[.int .i64 c.z, .int .i64 c.r, .int .i64 c.s, .int .i64 c.h] 100 ∧ Kp H ca ca w wx)
        case first =>
          cases vt with
          | false =>
            have hv : b.visit n ch cost c = b := by rw [Bst.visit, HBT.out, HVT.out]; rfl
            have HV := Lib.hid hv
            clear hv
            go_wp2_with fail
            go_meet
            exact ⟨ba, bc, by rw [HV.out]; exact HS2.out, HKC2.out, HKB.out⟩
          | true =>
            have hv : b.visit n ch cost c = ⟨ch, cost, true⟩ := by rw [Bst.visit, HBT.out, HVT.out]; rfl
            have HV := Lib.hid hv
            have HK2 := Lib.hid kC2
            have c0 : w2.cell? ⟨H + 5, 0, none⟩ = some (.slice ca ch.length cc) := hSm.choice.cell 0
            have hch := hSm.chosen
            clear hv hSm kC2
            go_wp2_with (go_at_call 33; refine (cloneAny hch hnil (by omega)).mono ?_; rintro e w3 ⟨⟨va, vc, rfl, hv3⟩, hb3⟩; have hS3 := HS2.out.belowS hb3; have b0 := hS3.best.cell 0; have b1 := hS3.least.cell 0; have b2 := hS3.found.cell 0; have f0 := hS3.best.frozen 0; have f1 := hS3.least.frozen 0; have f2 := hS3.found.frozen 0; simp only [List.getElem?_toArray, List.getElem?_cons_zero] at b0 b1 b2; have HV3 := Lib.hid hv3; clear hS3 hv3 c0 hch)
            go_meet
            exact ⟨va, vc, by rw [HV.out]; exact HS2.out.visited hb3 HV3.out cost, (((HK2.out.belowS hb3).other (by omega) _).other (by omega) _).other (by omega) _, (((HKB.out.trans (Kp.of_below hb3)).trans (Kp.set (by omega) (by omega))).trans (Kp.set (by omega) (by omega))).trans (Kp.set (by omega) (by omega))⟩
        case rest =>
          obtain ⟨ba1, bc1, hS3, kC3, hK3⟩ := hcut
          obtain ⟨w3, rfl⟩ : ∃ w3 : World, w3 = wc := ⟨_, rfl⟩
          have hbl3 : (b.visit n ch cost c).best.length ≤ 12 := by
            rcases visit_cases n b ch cost c with e | ⟨e, _⟩
            · rw [e]; exact hbl
            · rw [e]; show ch.length ≤ 12; omega
          have HC3 := Lib.hid hS3.chosen
          have HBL := Lib.hid hbl3
          generalize hb3 : b.visit n ch cost c = b3
          rw [hb3] at hS3 HBL
          have HB3 := Lib.hid hb3
          have HS3 := Lib.hid hS3
          have HK3 := Lib.hid hK3
          have HKC3 := Lib.hid kC3
          have hlx := hS3.plots.lt
          have hpx : w3.cell? ⟨H, 0, none⟩ = some (.slice sa ps.length sc) := hS3.plots.cell 0
          clear hS3 hK3 kC3 HS2 HKC2 HKB hSm kC2 HBT HVT hb3 hbl3 hlx hpx
          go_wp2_with fail
          go_loopw [14, 15, 16] (fun i' _ _ wr => ∃ (j : Nat) (b' : Bst) (ca' : Option Addr) (cc' : Nat) (ba' : Option Addr) (bc' : Nat), i' = .int .i64 j ∧ i ≤ j ∧ j ≤ ps.length ∧ loopL n (ps.drop j) j ch cost c b' = loopL n rest i ch cost c b3 ∧ b'.best.length ≤ 12 ∧ Stt w0 H (.slice sa ps.length sc) n ch b' ca' cc' ba' bc' wr ∧ Kp H ca ca' w3 wr) (fun i' _ _ _ => ps.length - (intOf i').toNat)
          case atStart => exact ⟨i, b3, ca, cc, ba1, bc1, rfl, Nat.le_refl _, hi, by rw [hd], HBL.out, HS3.out, Kp.of_below (Below.refl _ _)⟩
          case round =>
            obtain ⟨j, b', ca', cc', ba', bc', rfl, hij, hj, hL, hbl', hS, hK⟩ := hrel
            have HL := Lib.hid hL
            have HSr := Lib.hid hS
            have HKr := Lib.hid hK
            have kS := hK.Blk HKC3.out (by omega) hrw
            have c0 : wr.cell? ⟨H, 0, none⟩ = some (.slice sa ps.length sc) := hS.plots.cell 0
            by_cases hlj : j < ps.length
            · rcases hps with ⟨_, hn⟩ | ⟨pb, off, cp, h1, h2, h3, h4, h5⟩
              · rw [hn] at hlj
                simp at hlj
              obtain ⟨rfl, _, rfl⟩ := slice_inj h1
              have hq : ps[j]? = some ps[j] := List.getElem?_eq_getElem hlj
              have hdr : ps.drop j = ps[j] :: ps.drop (j + 1) := List.drop_eq_getElem_cons hlj
              have hpk := hok _ (List.getElem_mem hlj)
              obtain ⟨e0, e1, e2, e3, e4, e5, e6, e7, e8⟩ := (h5 j _ hq).1.below hS.below (by omega)
              have hpb : pb < wr.heap.size := World.block_lt_of_cell? _ _ e0
              have hpm := (h5 j _ hq).2
              generalize ps[j] = p at *
              obtain ⟨⟨p1, p2⟩, ⟨p3, p4⟩, ⟨p5, p6⟩, p7, p8⟩ := hpk
              have HDR := Lib.hid hdr
              have hlx := hS.plots.lt
              have hsx := hS.walk.lt
              have hj0 : (0 : Int) ≤ (j : Int) := Int.natCast_nonneg _
              have hj1 : (j : Int) < (ps.length : Int) := by omega
              have ly := kS.lt
              have g0 := kS.cell 0
              have g1 := kS.cell 1
              have g2 := kS.cell 2
              have g3 := kS.cell 3
              simp only [List.getElem?_toArray, List.getElem?_cons_zero, List.getElem?_cons_succ] at g0 g1 g2 g3
              have HKS := Lib.hid kS
              clear hL hS hK kS hq hdr h1 h5
              go_upto_region 9 with fail
              have m0 := Int.mul_nonneg (show (0 : Int) ≤ p.size by omega) p5
              have m1 := Int.mul_le_mul (show p.size ≤ 100 by omega) p6 p5 (show (0 : Int) ≤ 100 by omega)
              have hil : (i : Int) ≤ 12 := by omega
              obtain ⟨⟨z1, z2⟩, ⟨z3, z4⟩, ⟨z5, z6⟩, z7, z8⟩ := hc
              have z2' : c.z ≤ 1200000 := by omega
              have z4' : c.r ≤ 1200000 := by omega
              have z6' : c.s ≤ 1200000 := by omega
              have z8' : c.h ≤ 1200000 := by omega
              generalize hm1 : p.size * p.ylo = M at *
              have kP := (Blk.new wr 50 (pltC p)).alloc (.cells #[.int .i64 c.z, .int .i64 c.r, .int .i64 c.s, .int .i64 c.h] 100)
              have kM := Blk.new (wr.alloc (.cells (pltC p) 50)) 100 #[.int .i64 c.z, .int .i64 c.r, .int .i64 c.s, .int .i64 c.h]
              simp only [World.size_alloc] at kM
              have hB0 : Below wr.heap.size wr ((wr.alloc (.cells (pltC p) 50)).alloc (.cells #[.int .i64 c.z, .int .i64 c.r, .int .i64 c.s, .int .i64 c.h] 100)) := ((Below.refl _ _).alloc (Nat.le_refl _) _).alloc (by simp) _
              unfold pltC at kP kM hB0
              go_cut [] (fun wx => Blk wx wr.heap.size #[.string p.name, .int .i64 p.crop, .int .i64 p.size, .int .i64 p.ylo, .int .i64 p.yhi, .int .i64 p.rest, .int .i64 p.wlo, .int .i64 p.whi, .int .i64 p.cost] 50 ∧ Blk wx (wr.heap.size + 1) #[.int .i64 (c.add p).z, .int .i64 (c.add p).r, .int .i64 (c.add p).s, .int .i64 (c.add p).h] 100 ∧ Below wr.heap.size wr wx)
              case first =>
                have hcr : p.crop = 1 ∨ p.crop = 2 ∨ p.crop = 3 := by omega
                generalize ((wr.alloc (.cells #[.string p.name, .int .i64 p.crop, .int .i64 p.size, .int .i64 p.ylo, .int .i64 p.yhi, .int .i64 p.rest, .int .i64 p.wlo, .int .i64 p.whi, .int .i64 p.cost] 50)).alloc (.cells #[.int .i64 c.z, .int .i64 c.r, .int .i64 c.s, .int .i64 c.h] 100)) = W4 at kP kM hB0 ⊢
                have HKP := Lib.hid kP
                have HKM := Lib.hid kM
                have HB0 := Lib.hid hB0
                have q1 := kP.cell 1
                have q2 := kP.cell 2
                have q3 := kP.cell 3
                have r1 := kM.cell 1
                have r2 := kM.cell 2
                have r3 := kM.cell 3
                have f1 := kM.frozen 1
                have f2 := kM.frozen 2
                have f3 := kM.frozen 3
                simp only [List.getElem?_toArray, List.getElem?_cons_zero, List.getElem?_cons_succ] at q1 q2 q3 r1 r2 r3
                clear kP kM hB0
                rcases hcr with hcr | hcr | hcr
                all_goals
                  rw [hcr] at q1
                  go_still_tail 12, (by kernel_rfl)
                  change wpList _ _ _ _ _ W4.drew
                  have HKP5 := Lib.hid HKP.out.drew
                  have kM5 := HKM.out.drew
                  have hB5 := HB0.out.drew
                  clear q1 q2 q3 r1 r2 r3 f1 f2 f3 HKP HKM HB0
                  generalize W4.drew = W5 at *
                  have r1 := kM5.cell 1
                  have r2 := kM5.cell 2
                  have r3 := kM5.cell 3
                  have f1 := kM5.frozen 1
                  have f2 := kM5.frozen 2
                  have f3 := kM5.frozen 3
                  simp only [List.getElem?_toArray, List.getElem?_cons_zero, List.getElem?_cons_succ] at r1 r2 r3
                  have HKM5 := Lib.hid kM5
                  clear kM5
                  go_wp2_with fail
                  go_meet
                  refine ⟨HKP5.out.other (by omega) _, ?_, hB5.setCell (by simp) _⟩
                  first
                    | (have hadd : c.add p = ⟨c.z, c.r + M, c.s, c.h⟩ := by simp [Sur.add, hcr, hm1]
                       rw [hadd]
                       exact HKM5.out.set 1 _)
                    | (have hadd : c.add p = ⟨c.z, c.r, c.s + M, c.h⟩ := by simp [Sur.add, hcr, hm1]
                       rw [hadd]
                       exact HKM5.out.set 2 _)
                    | (have hadd : c.add p = ⟨c.z, c.r, c.s, c.h + M⟩ := by simp [Sur.add, hcr, hm1]
                       rw [hadd]
                       exact HKM5.out.set 3 _)
              case rest =>
                obtain ⟨kP4, kM4, hb4⟩ := hcut
                obtain ⟨w4, rfl⟩ : ∃ w4 : World, w4 = wc := ⟨_, rfl⟩
                have hS4 := HSr.out.belowS hb4
                have q6 := kP4.cell 8
                have y0 := kM4.cell 0
                have y1 := kM4.cell 1
                have y2 := kM4.cell 2
                have y3 := kM4.cell 3
                have x5 : w4.cell? ⟨H + 5, 0, none⟩ = some (.slice ca' ch.length cc') := hS4.choice.cell 0
                simp only [List.getElem?_toArray, List.getElem?_cons_zero, List.getElem?_cons_succ] at q6 y0 y1 y2 y3
                have n1 := hS4.choice.lt
                have n2 := kP4.lt
                have n3 := kM4.lt
                have HS4 := Lib.hid hS4
                have HKP4 := Lib.hid kP4
                have HKM4 := Lib.hid kM4
                have HB4 := Lib.hid hb4
                clear hS4 kP4 kM4 hb4 e0 e1 e2 e3 e4 e5 e6 e7 e8 g0 g1 g2 g3 kP kM hB0
                have hsz : w4.heap.size ≥ wr.heap.size := HB4.out.size
                have hmx : ch.length + 1 ≤ maxLen := by unfold maxLen; omega
                have hrowr : ∀ k, (Value.slice ca' ch.length cc').ownBlock = some k → H + 7 ≤ k ∧ k < wr.heap.size := HSr.out.chosen.lt
                have hne : some (H + 5) ≠ (Value.slice ca' ch.length cc').ownBlock := fun e => by have := (hrowr _ e.symm).1; omega
                have kC4 := HS4.out.choice
                have hch4 := HS4.out.chosen
                have kE := Blk.new w4 3 #[.int .i64 (j : Int)]
                have f5 := kC4.frozen 0
                obtain ⟨i0, hi0, hz0, hz1, hz2⟩ : ∃ i, Tryz.prog.info? 3 = some i ∧ i.zero = some (.int .i64 0) ∧ i.size = 1 ∧ i.bytes = 8 := ⟨_, rfl, rfl, rfl, rfl⟩
                go_upto_region 11 with (at_builtin; refine wpList_append_lies _ rfl _ _ 25 rfl (H + 7) 3 i0 (.int .i64 0) 1 8 Tryz.underlying25 hi0 hz0 hz1 hz2 rfl (by decide) (.slice ca' ch.length cc') ch.length _ rfl (hch4.alloc _) ⟨w4.heap.size, 0, none⟩ 1 1 [.int .i64 (j : Int)] rfl rfl (World.news_of_block kE) (by simp [Value.oneCell']) (by decide) hmx (by omega) (by simp; omega) _ rfl ?_; intro g cap w6 hown6 hgrow hat hlt6; have HOWN6 := Lib.hid hown6; have HGR := Lib.hid hgrow; have HAT := Lib.hid hat; have kC6 := (kC4.alloc _).kept hgrow hne; have z6 := kC6.cell 0; have z7 := kC6.frozen 0; simp only [List.getElem?_toArray, List.getElem?_cons_zero] at z6; clear hown6 hgrow hat)
                obtain ⟨hS6, hK6⟩ := HS4.out.pushed (j := j) ((Below.refl _ w4).alloc (Nat.le_refl _) _) HOWN6.out HGR.out (by simpa using HAT.out)
                generalize w6.setCell ⟨H + 5, 0, none⟩ (.slice (some ⟨g, 0, none⟩) (ch.length + 1) cap) = w7 at hS6 hK6 ⊢
                have hne1 : rowOf ca' ≠ some wr.heap.size := fun e => by have := (hrowr _ ((rowOf_own _ _ _).trans e)).2; omega
                have hne2 : rowOf ca' ≠ some (wr.heap.size + 1) := fun e => by have := (hrowr _ ((rowOf_own _ _ _).trans e)).2; omega
                have kP7 := hK6.Blk HKP4.out (by omega) hne1
                have kM7 := hK6.Blk HKM4.out (by omega) hne2
                have HK6 := Lib.hid hK6
                have HS6 := Lib.hid hS6
                clear x5 f5 z6 z7 kC6 kC4 hch4 kE q6 y0 y1 y2 y3 hrowr hne hne1 hne2 hK6
                have q8 := kP7.cell 8
                have y0 := kM7.cell 0
                have y1 := kM7.cell 1
                have y2 := kM7.cell 2
                have y3 := kM7.cell 3
                have x6 : w7.cell? ⟨H + 6, 0, none⟩ = some (walkV H) := hS6.walk.cell 0
                simp only [List.getElem?_toArray, List.getElem?_cons_zero, List.getElem?_cons_succ] at q8 y0 y1 y2 y3
                clear hS6 kP7 kM7
                have hdl : (ps.drop (j + 1)).length < m := by rw [List.length_drop]; have := congrArg List.length hd; rw [List.length_drop] at this; omega
                have hcs1 : (0 : Int) ≤ cost + p.cost := by omega
                have hcs2 : cost + p.cost ≤ 13000000 := by omega
                have hij2 : (i : Int) ≤ (j : Int) := by omega
                have hca : ((0 ≤ (c.add p).z ∧ (c.add p).z ≤ ((j + 1 : Nat) : Int) * 100000) ∧ (0 ≤ (c.add p).r ∧ (c.add p).r ≤ ((j + 1 : Nat) : Int) * 100000) ∧ (0 ≤ (c.add p).s ∧ (c.add p).s ≤ ((j + 1 : Nat) : Int) * 100000) ∧ (0 ≤ (c.add p).h ∧ (c.add p).h ≤ ((j + 1 : Nat) : Int) * 100000)) := by
                  rcases (show p.crop = 1 ∨ p.crop = 2 ∨ p.crop = 3 by omega) with hcr | hcr | hcr
                  · have hadd : c.add p = ⟨c.z, c.r + M, c.s, c.h⟩ := by simp [Sur.add, hcr, hm1]
                    rw [hadd]
                    push_cast
                    refine ⟨⟨?_, ?_⟩, ⟨?_, ?_⟩, ⟨?_, ?_⟩, ?_, ?_⟩ <;> omega
                  · have hadd : c.add p = ⟨c.z, c.r, c.s + M, c.h⟩ := by simp [Sur.add, hcr, hm1]
                    rw [hadd]
                    push_cast
                    refine ⟨⟨?_, ?_⟩, ⟨?_, ?_⟩, ⟨?_, ?_⟩, ?_, ?_⟩ <;> omega
                  · have hadd : c.add p = ⟨c.z, c.r, c.s, c.h + M⟩ := by simp [Sur.add, hcr, hm1]
                    rw [hadd]
                    push_cast
                    refine ⟨⟨?_, ?_⟩, ⟨?_, ?_⟩, ⟨?_, ?_⟩, ?_, ?_⟩ <;> omega
                have hih := HIH.out _ hdl (ps.drop (j + 1)) (j + 1) (ch ++ [j]) (cost + p.cost) (c.add p) b' (some ⟨g, 0, none⟩) cap ba' bc' w7 (Nat.le_refl _) rfl (by omega) (by simp) (by simp; omega) hbl' ⟨hcs1, by push_cast; omega⟩ hca HS6.out
                clear hca
                go_upto_region 12 with fail
                refine hih.mono ?_
                rintro e w8 ⟨rfl, hbl8, ca8, cc8, ba8, bc8, hS8, hK8⟩
                have hlst : loopL n (ps.drop (j + 1)) (j + 1) ch cost c (loopL n (ps.drop (j + 1)) (j + 1) (ch ++ [j]) (cost + p.cost) (c.add p) (b'.visit n (ch ++ [j]) (cost + p.cost) (c.add p))) = loopL n rest i ch cost c b3 := by
                  rw [← HL.out, HDR.out]
                  rfl
                generalize loopL n (ps.drop (j + 1)) (j + 1) (ch ++ [j]) (cost + p.cost) (c.add p) (b'.visit n (ch ++ [j]) (cost + p.cost) (c.add p)) = b8 at hlst hbl8 hS8
                obtain ⟨g8, cap8, eg, _, _⟩ := hS8.chosen.form (by simp)
                obtain ⟨rfl, _, rfl⟩ := slice_inj eg
                have hcap : ch.length + 1 ≤ cc8 := by
                  rcases hS8.chosen.2 with ⟨e, _⟩ | ⟨_, _, _, e, _, _, k, _⟩
                  · cases e
                  · obtain ⟨_, _, rfl⟩ := slice_inj e
                    simpa using k
                have x8 := hS8.choice.cell 0
                have f8 := hS8.choice.frozen 0
                have hapl : (ch ++ [j]).length = ch.length + 1 := by simp
                simp only [List.getElem?_toArray, List.getElem?_cons_zero, hapl] at x8
                have HS8 := Lib.hid hS8
                have HK8 := Lib.hid hK8
                have HLST := Lib.hid hlst
                clear hS8 hK8 hlst eg hih
                go_wp2_with fail
                refine ⟨⟨j + 1, b8, _, cc8, ba8, bc8, by simp, by omega, by omega, HLST.out, hbl8, HS8.out.popped, ?_⟩, by simp [intOf]; omega⟩
                exact (HKr.out.trans ((Kp.of_below HB4.out).trans (HK6.out.trans HK8.out))).trans (Kp.set (by omega) (by omega))
            · obtain rfl : j = ps.length := by omega
              have hfin : loopL n rest i ch cost c b3 = b' := by
                rw [← HL.out, List.drop_length]
                rfl
              have HF := Lib.hid hfin
              clear hfin hL hS hK
              go_wp2_with fail
              go_end0
              exact ⟨rfl, by rw [HB3.out, HF.out]; exact hbl', ca', cc', ba', bc', by rw [HB3.out, HF.out]; exact HSr.out, HK3.out.trans HKr.out⟩
end
end Go.Proofs.YtfhalmlpnoepcaaGreat
namespace Go.Proofs.YtfhalmlpnoepcaaGreat
section
open Go.RowKit

/-- A slice of numbers in memory. -/
def IsNats (w : World) (a : Option Addr) (c : Nat) (l : List Nat) : Prop := w.ownsRow 0 3 1 (.slice a l.length c) l.length (natsV l)
theorem IsNats.belowS {w w' : World} {a : Option Addr} {c : Nat} {l : List Nat} (h : IsNats w a c l) (hb : Below w.heap.size w w') : IsNats w' a c l := ownsRow_belowS h hb

set_option maxRecDepth 100000 in
set_option maxHeartbeats 4000000 in
theorem cheapest_any (sa : Option Addr) (sc : Nat) (n : Ned) (ps : List Plt) (w : World) (hs : IsPlts w (.slice sa ps.length sc) ps) (hok : ∀ p ∈ ps, p.ok) (hlen : ps.length ≤ 12) :
    Calls Tryz.prog 29 #[.slice sa ps.length sc, .agg #[.int .i64 n.reed, .int .i64 n.straw, .int .i64 n.heather]] w fun e w' =>
      (∃ ba bc, e = .returned (.tuple #[.slice ba (chooseM ps n).best.length bc, .int .i64 (chooseM ps n).least, .bool (chooseM ps n).found]) ∧ IsNats w' ba bc (chooseM ps n).best ∧ (chooseM ps n).best.length ≤ 12) ∧ Below w.heap.size w w' := by
  have HS := Lib.hid hs
  clear hs
  have k0 := (((((((Blk.new w 22 #[.slice sa ps.length sc]).alloc (.cells #[.int .i64 n.reed, .int .i64 n.straw, .int .i64 n.heather] 58)).alloc (.cells #[.slice none 0 0] 25)).alloc (.cells #[.int .i64 0] 3)).alloc (.cells #[.bool false] 4)).alloc (.cells #[.slice none 0 0] 25)).alloc (.cells #[.nilFunc] 98))
  have k1 := ((((((Blk.new (w.alloc (.cells #[.slice sa ps.length sc] 22)) 58 #[.int .i64 n.reed, .int .i64 n.straw, .int .i64 n.heather]).alloc (.cells #[.slice none 0 0] 25)).alloc (.cells #[.int .i64 0] 3)).alloc (.cells #[.bool false] 4)).alloc (.cells #[.slice none 0 0] 25)).alloc (.cells #[.nilFunc] 98))
  have k2 := (((((Blk.new ((w.alloc (.cells #[.slice sa ps.length sc] 22)).alloc (.cells #[.int .i64 n.reed, .int .i64 n.straw, .int .i64 n.heather] 58)) 25 #[.slice none 0 0]).alloc (.cells #[.int .i64 0] 3)).alloc (.cells #[.bool false] 4)).alloc (.cells #[.slice none 0 0] 25)).alloc (.cells #[.nilFunc] 98))
  have k3 := ((((Blk.new (((w.alloc (.cells #[.slice sa ps.length sc] 22)).alloc (.cells #[.int .i64 n.reed, .int .i64 n.straw, .int .i64 n.heather] 58)).alloc (.cells #[.slice none 0 0] 25)) 3 #[.int .i64 0]).alloc (.cells #[.bool false] 4)).alloc (.cells #[.slice none 0 0] 25)).alloc (.cells #[.nilFunc] 98))
  have k4 := (((Blk.new ((((w.alloc (.cells #[.slice sa ps.length sc] 22)).alloc (.cells #[.int .i64 n.reed, .int .i64 n.straw, .int .i64 n.heather] 58)).alloc (.cells #[.slice none 0 0] 25)).alloc (.cells #[.int .i64 0] 3)) 4 #[.bool false]).alloc (.cells #[.slice none 0 0] 25)).alloc (.cells #[.nilFunc] 98))
  have k5 := ((Blk.new (((((w.alloc (.cells #[.slice sa ps.length sc] 22)).alloc (.cells #[.int .i64 n.reed, .int .i64 n.straw, .int .i64 n.heather] 58)).alloc (.cells #[.slice none 0 0] 25)).alloc (.cells #[.int .i64 0] 3)).alloc (.cells #[.bool false] 4)) 25 #[.slice none 0 0]).alloc (.cells #[.nilFunc] 98))
  have k6 := (Blk.new ((((((w.alloc (.cells #[.slice sa ps.length sc] 22)).alloc (.cells #[.int .i64 n.reed, .int .i64 n.straw, .int .i64 n.heather] 58)).alloc (.cells #[.slice none 0 0] 25)).alloc (.cells #[.int .i64 0] 3)).alloc (.cells #[.bool false] 4)).alloc (.cells #[.slice none 0 0] 25)) 98 #[.nilFunc])
  have hB : Below w.heap.size w (((((((w.alloc (.cells #[.slice sa ps.length sc] 22)).alloc (.cells #[.int .i64 n.reed, .int .i64 n.straw, .int .i64 n.heather] 58)).alloc (.cells #[.slice none 0 0] 25)).alloc (.cells #[.int .i64 0] 3)).alloc (.cells #[.bool false] 4)).alloc (.cells #[.slice none 0 0] 25)).alloc (.cells #[.nilFunc] 98)) := ((((((((Below.refl _ w).alloc (by simp; try omega) _).alloc (by simp; try omega) _).alloc (by simp; try omega) _).alloc (by simp; try omega) _).alloc (by simp; try omega) _).alloc (by simp; try omega) _).alloc (by simp; try omega) _)
  simp only [World.size_alloc, Nat.add_assoc, Nat.reduceAdd] at k0 k1 k2 k3 k4 k5 k6
  go_enter Tryz.func29, Tryz.ntmps29
  go_upto_region 3 with fail
  generalize (((((((w.alloc (.cells #[.slice sa ps.length sc] 22)).alloc (.cells #[.int .i64 n.reed, .int .i64 n.straw, .int .i64 n.heather] 58)).alloc (.cells #[.slice none 0 0] 25)).alloc (.cells #[.int .i64 0] 3)).alloc (.cells #[.bool false] 4)).alloc (.cells #[.slice none 0 0] 25)).alloc (.cells #[.nilFunc] 98)) = w1 at k0 k1 k2 k3 k4 k5 k6 hB ⊢
  simp only [Nat.add_assoc, Nat.reduceAdd]
  have c6 := k6.cell 0
  have f6 := k6.frozen 0
  simp only [List.getElem?_toArray, List.getElem?_cons_zero] at c6
  have hst : (store ⟨w.heap.size + 6, 0, none⟩ (walkV w.heap.size)).run Tryz.prog w1 = .ok () (w1.setCell ⟨w.heap.size + 6, 0, none⟩ (walkV w.heap.size)) := by
    rw [run_store _ _ _ _ _ rfl]
    simp [c6, f6]
  unfold walkV at hst
  go_upto_region 4 with (rw [hst])
  have hS : Stt w w.heap.size (.slice sa ps.length sc) n [] ⟨[], 0, false⟩ none 0 none 0 (w1.setCell ⟨w.heap.size + 6, 0, none⟩ (walkV w.heap.size)) :=
    ⟨hB.setCell (by simp) _, k0.other (by omega) _, k1.other (by omega) _, k2.other (by omega) _, k3.other (by omega) _, k4.other (by omega) _, k5.other (by omega) _, k6.set 0 _, World.ownsRow_nil _ _ _ _, World.ownsRow_nil _ _ _ _, .inl rfl⟩
  unfold walkV at hS
  generalize w1.setCell ⟨w.heap.size + 6, 0, none⟩ _ = w2 at hS ⊢
  have x6 : w2.cell? ⟨w.heap.size + 6, 0, none⟩ = some (walkV w.heap.size) := hS.walk.cell 0
  have hSS := Lib.hid hS
  clear k0 k1 k2 k3 k4 k5 k6 c6 f6 hB hS
  go_upto_region 5 with fail
  refine (walk_any w w.heap.size sa sc n ps HS.out rfl hok hlen ps.length ps 0 [] 0 Sur.none ⟨[], 0, false⟩ none 0 none 0 w2 (Nat.le_refl _) rfl (Nat.zero_le _) (fun _ => rfl) (Nat.le_refl _) (by simp) (by simp) (by simp [Sur.none]) hSS.out).mono ?_
  rintro e w3 ⟨rfl, hbl, ca, cc, ba, bc, hS3, hK3⟩
  have hM : chooseM ps n = loopL n ps 0 [] 0 Sur.none (Bst.visit n ⟨[], 0, false⟩ [] 0 Sur.none) := rfl
  rw [← hM] at hbl hS3
  clear hM
  generalize hb3 : chooseM ps n = b3 at hbl hS3
  have HB3 := Lib.hid hb3
  clear hb3
  have d2 := hS3.best.cell 0
  have d3 := hS3.least.cell 0
  have d4 := hS3.found.cell 0
  have g2 := hS3.best.frozen 0
  have g3 := hS3.least.frozen 0
  have g4 := hS3.found.frozen 0
  simp only [List.getElem?_toArray, List.getElem?_cons_zero] at d2 d3 d4
  have l6 := hS3.walk.lt
  have HS3 := Lib.hid hS3
  clear hS3 hK3 x6 hSS
  go_upto_region 5 with fail
  go_region
  go_wp2_with fail
  have hS4 := HS3.out
  have k2 : Blk (((w3.setCell ⟨w.heap.size + 2, 0, none⟩ (.slice ba b3.best.length bc)).setCell ⟨w.heap.size + 3, 0, none⟩ (.int .i64 b3.least)).setCell ⟨w.heap.size + 4, 0, none⟩ (.bool b3.found)).drew (w.heap.size + 2) #[.slice ba b3.best.length bc] 25 := (((hS4.best.set 0 _).other (by omega) _).other (by omega) _).drew
  have k3 : Blk (((w3.setCell ⟨w.heap.size + 2, 0, none⟩ (.slice ba b3.best.length bc)).setCell ⟨w.heap.size + 3, 0, none⟩ (.int .i64 b3.least)).setCell ⟨w.heap.size + 4, 0, none⟩ (.bool b3.found)).drew (w.heap.size + 3) #[.int .i64 b3.least] 3 := (((hS4.least.other (by omega) _).set 0 _).other (by omega) _).drew
  have k4 : Blk (((w3.setCell ⟨w.heap.size + 2, 0, none⟩ (.slice ba b3.best.length bc)).setCell ⟨w.heap.size + 3, 0, none⟩ (.int .i64 b3.least)).setCell ⟨w.heap.size + 4, 0, none⟩ (.bool b3.found)).drew (w.heap.size + 4) #[.bool b3.found] 4 := (((hS4.found.other (by omega) _).other (by omega) _).set 0 _).drew
  have hBf : Below w.heap.size w (((w3.setCell ⟨w.heap.size + 2, 0, none⟩ (.slice ba b3.best.length bc)).setCell ⟨w.heap.size + 3, 0, none⟩ (.int .i64 b3.least)).setCell ⟨w.heap.size + 4, 0, none⟩ (.bool b3.found)).drew := (((hS4.below.setCell (by simp) _).setCell (by simp) _).setCell (by simp) _).drew
  have hOf : IsNats (((w3.setCell ⟨w.heap.size + 2, 0, none⟩ (.slice ba b3.best.length bc)).setCell ⟨w.heap.size + 3, 0, none⟩ (.int .i64 b3.least)).setCell ⟨w.heap.size + 4, 0, none⟩ (.bool b3.found)).drew ba bc b3.best := ownsRow_base (ownsRow_belowS (ownsRow_set (ownsRow_set (ownsRow_set hS4.bests (by omega)) (by omega)) (by omega)) (Below.refl _ _).drew) (Nat.zero_le _)
  clear hS4 d2 d3 d4 g2 g3 g4
  generalize (((w3.setCell ⟨w.heap.size + 2, 0, none⟩ (.slice ba b3.best.length bc)).setCell ⟨w.heap.size + 3, 0, none⟩ (.int .i64 b3.least)).setCell ⟨w.heap.size + 4, 0, none⟩ (.bool b3.found)).drew = w5 at k2 k3 k4 hBf hOf ⊢
  have t2 := k2.cell 0
  have t3 := k3.cell 0
  have t4 := k4.cell 0
  simp only [List.getElem?_toArray, List.getElem?_cons_zero] at t2 t3 t4
  exact bodyPost_ret (v := .tuple #[.slice ba b3.best.length bc, .int .i64 b3.least, .bool b3.found]) (by simp [results, Tryz.results29, go_sem, t2, t3, t4]) rfl ⟨⟨ba, bc, by rw [HB3.out], by rw [HB3.out]; exact hOf, by rw [HB3.out]; exact hbl⟩, hBf⟩
end
end Go.Proofs.YtfhalmlpnoepcaaGreat
namespace Go.Proofs.YtfhalmlpnoepcaaGreat
section
open Go.RowKit

def needB (n : Ned) : Bool := isFromB n.reed 0 100000 && isFromB n.straw 0 100000 && isFromB n.heather 0 100000
def chooseE (F : Frm) (n : Ned) : Int := if ¬ checkE F = 0 then checkE F else if needB n = false then 1 else 0
def ChooseSaid (F : Frm) (n : Ned) (w : World) (e : Ending) (w' : World) : Prop := Below w.heap.size w w' ∧
  ((¬ chooseE F n = 0 ∧ e = .returned (.tuple #[.slice none 0 0, .int .i64 0, .bool false, .int .i64 (chooseE F n)])) ∨
   (checkE F = 0 ∧ needB n = true ∧ ∃ ba bc, e = .returned (.tuple #[.slice ba (chooseM F.ps n).best.length bc, .int .i64 (chooseM F.ps n).least, .bool (chooseM F.ps n).found, .int .i64 0]) ∧ IsNats w' ba bc (chooseM F.ps n).best ∧ (chooseM F.ps n).best.length ≤ 12))

set_option maxRecDepth 100000 in
set_option maxHeartbeats 4000000 in
theorem choose_any (F : Frm) (n : Ned) (w : World) (hF : IsFarm w F) :
    Calls Tryz.prog 14 #[.agg #[.slice F.pa F.ps.length F.pc, .int .i64 F.dry], .agg #[.int .i64 n.reed, .int .i64 n.straw, .int .i64 n.heather]] w (ChooseSaid F n w) := by
  have HF := Lib.hid hF
  have k0 := (Blk.new w 24 #[.slice F.pa F.ps.length F.pc, .int .i64 F.dry]).alloc (.cells #[.int .i64 n.reed, .int .i64 n.straw, .int .i64 n.heather] 58)
  have k1 := Blk.new (w.alloc (.cells #[.slice F.pa F.ps.length F.pc, .int .i64 F.dry] 24)) 58 #[.int .i64 n.reed, .int .i64 n.straw, .int .i64 n.heather]
  have hB : Below w.heap.size w ((w.alloc (.cells #[.slice F.pa F.ps.length F.pc, .int .i64 F.dry] 24)).alloc (.cells #[.int .i64 n.reed, .int .i64 n.straw, .int .i64 n.heather] 58)) := ((Below.refl _ w).alloc (by simp) _).alloc (by simp) _
  simp only [World.size_alloc] at k1
  have hF1 := hF.below hB
  have HF1 := Lib.hid hF1
  clear hF hF1
  have c0 := k0.cell 0
  have c1 := k0.cell 1
  simp only [List.getElem?_toArray, List.getElem?_cons_zero, List.getElem?_cons_succ] at c0 c1
  go_enter Tryz.func14, Tryz.ntmps14
  go_wp2_with fail
  refine (check_any F _ HF1.out).mono ?_
  rintro e w1 ⟨rfl, hb1⟩
  have k2 := k0.belowS hb1
  have k3 := k1.belowS hb1
  have hB1 := hB.trans (hb1.mono (by simp; omega))
  have hF2 := HF.out.below hB1
  have HF2 := Lib.hid hF2
  have HB1 := Lib.hid hB1
  clear c0 c1 k0 k1 hb1 hB1 hB hF2
  have c0 := k2.cell 0
  have c1 := k2.cell 1
  have d0 := k3.cell 0
  have d1 := k3.cell 1
  have d2 := k3.cell 2
  simp only [List.getElem?_toArray, List.getElem?_cons_zero, List.getElem?_cons_succ] at c0 c1 d0 d1 d2
  clear k2 k3
  generalize hE : checkE F = E
  have HE := Lib.hid hE
  clear hE
  by_cases h0 : E = 0
  · have hz1 : (E == 0) = true := by simp [h0]
    have hz2 : (E != 0) = false := by simp [h0]
    have H0 := Lib.hid h0
    clear h0
    go_wp2_with fail
    refine (isFrom_any n.reed 0 100000 _).mono ?_
    rintro e w2 ⟨rfl, rfl⟩
    cases h1 : isFromB n.reed 0 100000 with
    | false =>
      have hv : chooseE F n = 1 := by rw [chooseE, if_neg (by rw [HE.out, H0.out]; simp), if_pos (by simp [needB, h1])]
      have HV := Lib.hid hv
      clear hv h1
      go_wp2_with fail
      exact bodyPost_ret (v := .tuple #[.slice none 0 0, .int .i64 0, .bool false, .int .i64 1]) (by simp [results, Tryz.results14, go_sem]) rfl ⟨HB1.out, .inl ⟨by rw [HV.out]; decide, by rw [HV.out]⟩⟩
    | true =>
    have H1 := Lib.hid h1
    clear h1
    go_wp2_with fail
    refine (isFrom_any n.straw 0 100000 _).mono ?_
    rintro e w2 ⟨rfl, rfl⟩
    cases h2 : isFromB n.straw 0 100000 with
    | false =>
      have hv : chooseE F n = 1 := by rw [chooseE, if_neg (by rw [HE.out, H0.out]; simp), if_pos (by simp [needB, h2])]
      have HV := Lib.hid hv
      clear hv h2
      go_wp2_with fail
      exact bodyPost_ret (v := .tuple #[.slice none 0 0, .int .i64 0, .bool false, .int .i64 1]) (by simp [results, Tryz.results14, go_sem]) rfl ⟨HB1.out, .inl ⟨by rw [HV.out]; decide, by rw [HV.out]⟩⟩
    | true =>
    have H2 := Lib.hid h2
    clear h2
    go_wp2_with fail
    refine (isFrom_any n.heather 0 100000 _).mono ?_
    rintro e w2 ⟨rfl, rfl⟩
    cases h3 : isFromB n.heather 0 100000 with
    | false =>
      have hv : chooseE F n = 1 := by rw [chooseE, if_neg (by rw [HE.out, H0.out]; simp), if_pos (by simp [needB, h3])]
      have HV := Lib.hid hv
      clear hv h3
      go_wp2_with fail
      exact bodyPost_ret (v := .tuple #[.slice none 0 0, .int .i64 0, .bool false, .int .i64 1]) (by simp [results, Tryz.results14, go_sem]) rfl ⟨HB1.out, .inl ⟨by rw [HV.out]; decide, by rw [HV.out]⟩⟩
    | true =>
    have H3 := Lib.hid h3
    clear h3
    obtain ⟨hlen, hok⟩ := checkE_ok (HE.out.trans H0.out)
    have HOK := Lib.hid hok
    clear hok
    go_wp2_with (go_at_call 29; refine (cheapest_any F.pa F.pc n F.ps _ HF2.out HOK.out hlen).mono ?_; rintro e w2 ⟨⟨ba, bc, rfl, hn, hl⟩, hb2⟩; have HN := Lib.hid hn; clear hn; have HM := Lib.hid (⟨chooseM F.ps n, rfl⟩ : ∃ m, m = chooseM F.ps n))
    exact bodyPost_ret (v := .tuple #[.slice ba (chooseM F.ps n).best.length bc, .int .i64 (chooseM F.ps n).least, .bool (chooseM F.ps n).found, .int .i64 0]) (by simp [results, Tryz.results14, go_sem]) rfl ⟨HB1.out.trans (hb2.mono HB1.out.size), .inr ⟨HE.out.trans H0.out, by simp [needB, H1.out, H2.out, H3.out], ba, bc, rfl, HN.out, hl⟩⟩
  · have hz1 : (E == 0) = false := by simp [h0]
    have hz2 : (E != 0) = true := by simp [h0]
    have hv : chooseE F n = E := by rw [chooseE, HE.out, if_pos h0]
    have HV := Lib.hid hv
    have H0 := Lib.hid h0
    clear hv h0
    go_wp2_with fail
    exact bodyPost_ret (v := .tuple #[.slice none 0 0, .int .i64 0, .bool false, .int .i64 E]) (by simp [results, Tryz.results14, go_sem]) rfl ⟨HB1.out, .inl ⟨by rw [HV.out]; exact H0.out, by rw [HV.out]⟩⟩
end
end Go.Proofs.YtfhalmlpnoepcaaGreat
namespace Go.Proofs.YtfhalmlpnoepcaaGreat
section
open Go.RowKit

def SomeBool (e : Ending) : Prop := ∃ b, e = .returned (.bool b)
set_option maxRecDepth 100000 in
set_option maxHeartbeats 4000000 in
theorem great_any (R : Frm) (w : World) (hR : IsFarm w R) :
    Calls Tryz.prog 5 #[.agg #[.slice R.pa R.ps.length R.pc, .int .i64 R.dry]] w fun e w' => SomeBool e ∧ Below w.heap.size w w' := by
  have hlf := hR.len
  obtain ⟨fa, fc, fs, dry⟩ := R
  simp only [] at hlf
  have kR : Blk (w.alloc (.cells #[.slice fa fs.length fc, .int .i64 dry] 24)) w.heap.size #[.slice fa fs.length fc, .int .i64 dry] 24 := Blk.new _ _ _
  have hB : Below w.heap.size w (w.alloc (.cells #[.slice fa fs.length fc, .int .i64 dry] 24)) := (Below.refl _ _).alloc (Nat.le_refl _) _
  have HR := Lib.hid hR
  clear hR
  go_enter Tryz.func5, Tryz.ntmps5
  go_wp2_with fail
  go_loopw [3, 4] (fun s i wr => ∃ (j : Nat) (n : Int), j ≤ fs.length ∧ j ≤ 31 ∧ i = .int .i64 j ∧ s = .int .i64 n ∧ Blk wr w.heap.size #[.slice fa fs.length fc, .int .i64 dry] 24 ∧ Below w.heap.size w wr) (fun _ i _ => fs.length - (intOf i).toNat)
  case atStart => exact ⟨0, 0, Nat.zero_le _, Nat.zero_le _, rfl, rfl, kR, hB⟩
  case round =>
    obtain ⟨j, n, hj, hj31, rfl, rfl, g1, g2⟩ := hrel
    have hRr := HR.out.below g2
    have c0 := g1.cell 0
    simp only [List.getElem?_toArray, List.getElem?_cons_zero] at c0
    by_cases hlj : j < fs.length
    · by_cases h30 : j ≤ 30
      · rcases hRr with ⟨_, hn⟩ | ⟨b, off, c, h1, h2, h3, h4, h5⟩
        · simp only [] at hn
          rw [hn] at hlj
          simp at hlj
        have hq : fs[j]? = some fs[j] := List.getElem?_eq_getElem hlj
        obtain ⟨⟨d0, d1, d2, d3, d4, d5, d6, d7, d8⟩, hnm⟩ := h5 j _ hq
        obtain ⟨rfl, _, rfl⟩ := slice_inj h1
        simp only [] at d0 d1 d2 d3 d4 d5 d6 d7 d8 h3 hnm
        generalize fs[j] = F at *
        clear hq h1 h5 d1 d2 d3 d4 d5 d6 d7 d8
        unfold maxLen at hnm
        have hj0 : (0 : Int) ≤ (j : Int) := Int.natCast_nonneg _
        have hj1 : (j : Int) < (fs.length : Int) := by omega
        have hj2 : (j : Int) ≤ 30 := by omega
        go_wp2_with fail
        refine ⟨⟨j + 1, _, by omega, by omega, by simp, rfl, g1, g2⟩, by simp [intOf]; omega⟩
      · have hj1 : (j : Int) < (fs.length : Int) := by omega
        have hj2 : ¬ (j : Int) ≤ 30 := by omega
        clear hRr
        go_wp2_with fail
        all_goals go_ret
        all_goals exact ⟨⟨_, rfl⟩, g2⟩
    · obtain rfl : j = fs.length := by omega
      clear hRr
      go_wp2_with fail
      all_goals go_ret
      all_goals exact ⟨⟨_, rfl⟩, g2⟩

def fenP : Plt := ⟨⟨#[102, 101, 110]⟩, 1, 4, 10, 12, 2, 200, 300, 50⟩
def hillP : Plt := ⟨⟨#[104, 105, 108, 108]⟩, 2, 2, 5, 9, 1, 100, 140, 20⟩
/-- The farm of the examples, in memory from block n on. -/
def farmF (n : Nat) : Frm := ⟨some ⟨n + 1, 0, none⟩, 2, [fenP, hillP], 150⟩

set_option maxRecDepth 100000 in
set_option maxHeartbeats 4000000 in
theorem farm_any (w : World) : Calls Tryz.prog 15 #[] w fun e w' => e = .returned (.agg #[.slice (some ⟨w.heap.size + 1, 0, none⟩) 2 2, .int .i64 150]) ∧ IsFarm w' (farmF w.heap.size) ∧ Below w.heap.size w w' := by
  have k0 := (Blk.new w 24 #[.slice (some ⟨w.heap.size + 1, 0, none⟩) 2 2, .int .i64 150]).alloc (.cells #[.string ⟨#[102, 101, 110]⟩, .int .i64 1, .int .i64 4, .int .i64 10, .int .i64 12, .int .i64 2, .int .i64 200, .int .i64 300, .int .i64 50, .string ⟨#[104, 105, 108, 108]⟩, .int .i64 2, .int .i64 2, .int .i64 5, .int .i64 9, .int .i64 1, .int .i64 100, .int .i64 140, .int .i64 20] 50)
  have k1 := Blk.new (w.alloc (.cells #[.slice (some ⟨w.heap.size + 1, 0, none⟩) 2 2, .int .i64 150] 24)) 50 #[.string ⟨#[102, 101, 110]⟩, .int .i64 1, .int .i64 4, .int .i64 10, .int .i64 12, .int .i64 2, .int .i64 200, .int .i64 300, .int .i64 50, .string ⟨#[104, 105, 108, 108]⟩, .int .i64 2, .int .i64 2, .int .i64 5, .int .i64 9, .int .i64 1, .int .i64 100, .int .i64 140, .int .i64 20]
  have hB : Below w.heap.size w ((w.alloc (.cells #[.slice (some ⟨w.heap.size + 1, 0, none⟩) 2 2, .int .i64 150] 24)).alloc (.cells #[.string ⟨#[102, 101, 110]⟩, .int .i64 1, .int .i64 4, .int .i64 10, .int .i64 12, .int .i64 2, .int .i64 200, .int .i64 300, .int .i64 50, .string ⟨#[104, 105, 108, 108]⟩, .int .i64 2, .int .i64 2, .int .i64 5, .int .i64 9, .int .i64 1, .int .i64 100, .int .i64 140, .int .i64 20] 50)) := ((Below.refl _ w).alloc (by simp) _).alloc (by simp) _
  simp only [World.size_alloc] at k1
  go_enter Tryz.func15, Tryz.ntmps15
  go_wp2_with fail
  generalize ((w.alloc (.cells #[.slice (some ⟨w.heap.size + 1, 0, none⟩) 2 2, .int .i64 150] 24)).alloc (.cells #[.string ⟨#[102, 101, 110]⟩, .int .i64 1, .int .i64 4, .int .i64 10, .int .i64 12, .int .i64 2, .int .i64 200, .int .i64 300, .int .i64 50, .string ⟨#[104, 105, 108, 108]⟩, .int .i64 2, .int .i64 2, .int .i64 5, .int .i64 9, .int .i64 1, .int .i64 100, .int .i64 140, .int .i64 20] 50)) = W at *
  have t0 := k0.cell 0
  have t1 := k0.cell 1
  simp only [List.getElem?_toArray, List.getElem?_cons_zero, List.getElem?_cons_succ] at t0 t1
  refine bodyPost_ret (v := .agg #[.slice (some ⟨w.heap.size + 1, 0, none⟩) 2 2, .int .i64 150]) (by simp [results, Tryz.results15, go_sem, t0, t1]) rfl ⟨rfl, ?_, hB⟩
  refine .inr ⟨w.heap.size + 1, 0, 2, rfl, k1.lt, Nat.le_refl _, by decide, fun j p hj => ?_⟩
  match j, hj with
  | 0, hj => cases hj; exact ⟨⟨k1.cell 0, k1.cell 1, k1.cell 2, k1.cell 3, k1.cell 4, k1.cell 5, k1.cell 6, k1.cell 7, k1.cell 8⟩, by decide⟩
  | 1, hj => cases hj; exact ⟨⟨k1.cell 9, k1.cell 10, k1.cell 11, k1.cell 12, k1.cell 13, k1.cell 14, k1.cell 15, k1.cell 16, k1.cell 17⟩, by decide⟩
end
end Go.Proofs.YtfhalmlpnoepcaaGreat
namespace Go.Proofs.YtfhalmlpnoepcaaGreat
section
open Go.RowKit

set_option maxRecDepth 100000 in
theorem farm_e (n : Nat) : chooseE (farmF n) ⟨30, 10, 0⟩ = 0 := by kernel_rfl
set_option maxRecDepth 100000 in
theorem farm_m (n : Nat) : chooseM (farmF n).ps ⟨30, 10, 0⟩ = ⟨[0, 1], 70, true⟩ := by kernel_rfl

set_option maxRecDepth 100000 in
set_option maxHeartbeats 4000000 in
theorem lives_any (w : World) : Calls Tryz.prog 7 #[] w fun e w' => e = .returned (.bool true) ∧ Below w.heap.size w w' := by
  go_enter Tryz.func7, Tryz.ntmps7
  go_wp2_with fail
  refine (farm_any _).mono ?_
  rintro e w1 ⟨rfl, hR1, hb1⟩
  go_wp2_with fail
  refine (choose_any (farmF w.heap.size) ⟨30, 10, 0⟩ _ hR1).mono ?_
  rintro e w2 ⟨hb2, h⟩
  rcases h with ⟨h, _⟩ | ⟨_, _, ba, bc, rfl, hn, _⟩
  · exact absurd (farm_e _) h
  rw [farm_m] at hn ⊢
  have hB2 := hb1.trans (hb2.mono hb1.size)
  obtain ⟨g, cap, e, _, hg⟩ := hn.form (by decide)
  obtain ⟨rfl, _, rfl⟩ := slice_inj e
  have e0 := hn.cellAt 0 (by decide)
  have e1 := hn.cellAt 1 (by decide)
  simp only [natsV, List.map_cons, List.map_nil, List.getElem?_cons_zero, List.getElem?_cons_succ] at e0 e1
  have hcap : 2 ≤ bc := by
    rcases hn.2 with ⟨e, _⟩ | ⟨_, _, _, e, _, _, k, _⟩
    · cases e
    · obtain ⟨_, _, rfl⟩ := slice_inj e
      simpa using k
  go_wp2_with fail
  go_ret
  exact ⟨rfl, hB2⟩
end
end Go.Proofs.YtfhalmlpnoepcaaGreat
namespace Go.Proofs.YtfhalmlpnoepcaaGreat
section
open Go.RowKit

def WideSaid (S : Sto) (e : Ending) : Prop := ∃ b, e = .returned (.bool b) ∧ (b = false → S.fit)

set_option maxRecDepth 100000 in
set_option maxHeartbeats 8000000 in
theorem wide_any (S : Sto) (w : World) (hS : IsStore w S) :
    Calls Tryz.prog 6 #[stoV S] w fun e w' => WideSaid S e ∧ Below w.heap.size w w' := by
  have h1 := hS.last.len
  have h2 := hS.given.len
  have h3 := hS.heaps.len
  have h4 := hS.used.len
  have h5 := hS.waste.len
  unfold stoV
  have hsh := hS.heaps
  generalize hga : S.ha = sha at *
  have HSH := Lib.hid hsh
  clear hsh hga hS
  have kB := Blk.new w 29 #[.int .i64 S.year, .slice S.la S.last.length S.lc, .slice S.ga S.given.length S.gc, .slice sha S.heaps.length S.hc, .slice S.ua S.used.length S.uc, .slice S.wa S.waste.length S.wc]
  have hB : Below w.heap.size w (w.alloc (.cells #[.int .i64 S.year, .slice S.la S.last.length S.lc, .slice S.ga S.given.length S.gc, .slice sha S.heaps.length S.hc, .slice S.ua S.used.length S.uc, .slice S.wa S.waste.length S.wc] 29)) := (Below.refl _ w).alloc (by simp) _
  go_enter Tryz.func6, Tryz.ntmps6
  go_upto_region 1 with fail
  generalize (w.alloc (.cells #[.int .i64 S.year, .slice S.la S.last.length S.lc, .slice S.ga S.given.length S.gc, .slice sha S.heaps.length S.hc, .slice S.ua S.used.length S.uc, .slice S.wa S.waste.length S.wc] 29)) = w1 at *
  have lB := kB.lt
  have d0 := kB.cell 0
  have d1 := kB.cell 1
  have d2 := kB.cell 2
  have d3 := kB.cell 3
  have d4 := kB.cell 4
  have d5 := kB.cell 5
  simp only [List.getElem?_toArray, List.getElem?_cons_zero, List.getElem?_cons_succ] at d0 d1 d2 d3 d4 d5
  by_cases q0 : 30 < S.heaps.length
  · have q : (30 : Int) < (S.heaps.length : Int) := by omega
    go_wp2_with fail
    go_ret
    exact ⟨⟨true, rfl, fun h => by cases h⟩, hB⟩
  have p0 : ¬ (30 : Int) < (S.heaps.length : Int) := by omega
  by_cases q1 : 200 < S.used.length
  · have q : (200 : Int) < (S.used.length : Int) := by omega
    go_wp2_with fail
    go_ret
    exact ⟨⟨true, rfl, fun h => by cases h⟩, hB⟩
  have p1 : ¬ (200 : Int) < (S.used.length : Int) := by omega
  by_cases q2 : 200 < S.waste.length
  · have q : (200 : Int) < (S.waste.length : Int) := by omega
    go_wp2_with fail
    go_ret
    exact ⟨⟨true, rfl, fun h => by cases h⟩, hB⟩
  have p2 : ¬ (200 : Int) < (S.waste.length : Int) := by omega
  by_cases q3 : 30 < S.last.length
  · have q : (30 : Int) < (S.last.length : Int) := by omega
    go_wp2_with fail
    go_ret
    exact ⟨⟨true, rfl, fun h => by cases h⟩, hB⟩
  have p3 : ¬ (30 : Int) < (S.last.length : Int) := by omega
  by_cases q4 : 30 < S.given.length
  · have q : (30 : Int) < (S.given.length : Int) := by omega
    go_wp2_with fail
    go_ret
    exact ⟨⟨true, rfl, fun h => by cases h⟩, hB⟩
  have p4 : ¬ (30 : Int) < (S.given.length : Int) := by omega
  go_wp2_with fail
  go_loopw [3, 4] (fun s i wr => ∃ (j : Nat) (n : Int), j ≤ S.heaps.length ∧ i = .int .i64 j ∧ s = .int .i64 n ∧ (∀ k, k < j → ∀ h, S.heaps[k]? = some h → h.parts.length ≤ 200) ∧ wr = w1) (fun _ i _ => S.heaps.length - (intOf i).toNat)
  case atStart => exact ⟨0, 0, Nat.zero_le _, rfl, rfl, fun k h => by omega, rfl⟩
  case round =>
    obtain ⟨j, n, hj, rfl, rfl, hall, rfl⟩ := hrel
    have HA := Lib.hid hall
    clear hall
    by_cases hlj : j < S.heaps.length
    · have hq : S.heaps[j]? = some S.heaps[j] := List.getElem?_eq_getElem hlj
      obtain ⟨b, off, hea, hblt, hcap, hcx, ⟨c0, c1, c2, c3, c4, c5, c6⟩, hpp, hnm⟩ := (HSH.out.belowS hB).at hq
      subst hea
      generalize S.heaps[j] = h at *
      have hpl := hpp.len
      have HQ := Lib.hid hq
      unfold maxLen at hnm
      have hj0 : (0 : Int) ≤ (j : Int) := Int.natCast_nonneg _
      have hj1 : (j : Int) < (S.heaps.length : Int) := by omega
      clear hq hpp
      by_cases hw : 200 < h.parts.length
      · have q : (200 : Int) < (h.parts.length : Int) := by omega
        go_wp2_with fail
        go_ret
        exact ⟨⟨true, rfl, fun h => by cases h⟩, hB⟩
      · have q : ¬ (200 : Int) < (h.parts.length : Int) := by omega
        go_wp2_with fail
        refine ⟨⟨j + 1, _, by omega, by simp, rfl, fun k hk g hg => ?_, trivial⟩, by simp [intOf]; omega⟩
        by_cases hkj : k = j
        · subst hkj
          rw [HQ.out] at hg
          cases hg
          omega
        · exact HA.out k (by omega) g hg
    · obtain rfl : j = S.heaps.length := by omega
      have hfit : S.fit := ⟨by omega, by omega, by omega, fun h hh => by
        obtain ⟨i, hi, rfl⟩ := List.getElem_of_mem hh
        have := HA.out i hi _ (List.getElem?_eq_getElem hi)
        omega⟩
      have HFI := Lib.hid hfit
      clear hfit
      go_wp2_with fail
      all_goals go_ret
      all_goals exact ⟨⟨_, rfl, fun _ => HFI.out⟩, hB⟩
end
end Go.Proofs.YtfhalmlpnoepcaaGreat
