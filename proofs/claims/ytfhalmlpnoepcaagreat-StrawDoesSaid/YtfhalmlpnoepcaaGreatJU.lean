/- The first loads of a heap go to a list. -/
import Derived.Test.YtfhalmlpnoepcaaGreatJT
import Derived.Test.YtfhalmlpnoepcaaGreatJR
import Derived.Test.YtfhalmlpnoepcaaGreatGX
import Derived.Deep.DeepCutAuto
import Derived.StillTail
import Derived.Deep.RegionHeld3
namespace Go.Proofs.YtfhalmlpnoepcaaGreat
open Go.RowKit

/-! ### A drawn region whose last operation waits for all others and writes what was read: what is held need not hold behind it -/
section
variable {P : Program} {ops : Array Oper} {Q : Exit → Act → World → Prop} {md : Region.Mode} {S : World → Prop} {last : Nat}
def heldE (P : Program) (md : Region.Mode) (ops : Array Oper) (Q : Exit → Act → World → Prop) (S : World → Prop) (last : Nat) : Nat → Array Bool → Act → World → Prop
  | 0, listed, a, w => Region.ready md ops listed = [] ∧ Q .normal a w
  | fuel + 1, listed, a, w => (Region.ready md ops listed = [] → Q .normal a w) ∧
      ∀ i ∈ Region.ready md ops listed, wpOp P ops Q i (fun a' w' => (i ≠ last → S w') ∧ heldE P md ops Q S last fuel (listed.setIfInBounds i true) a' w') a w
theorem any_of_E : ∀ (fuel : Nat) (listed : Array Bool) (a : Act) (w : World), heldE P md ops Q S last fuel listed a w → wpAny P md ops Q fuel listed a w
  | 0, _, _, _, h => h
  | fuel + 1, _, _, _, h => ⟨h.1, fun i hi => wpOp_mono (fun a' w' h' => any_of_E fuel _ a' w' h'.2) (h.2 i hi)⟩
theorem not_listed {i : Nat} {listed : Array Bool} (h0 : listed.getD i true = false) (h1 : listed.getD i false = true) : False := by
  rcases Nat.lt_or_ge i listed.size with h' | h'
  · simp [h'] at h0 h1
    rw [h0] at h1
    cases h1
  · simp [Array.getElem?_eq_none h'] at h1
/-- One that reads may be taken first: whatever comes up before it is not the last one. -/
theorem E_first {i : Nat} {oi : Oper} {v : Value} (hi : ops[i]? = some oi) (hsel : ∀ (j : Nat) (o : Oper) cs b, ops[j]? = some o → o.op ≠ .select cs b)
    (hQ : ∀ c a w, Q (.panic c) (a.put oi.dst v) w → Q (.panic c) a w) (hwait : Region.waitsFor md ops last i = true) :
    ∀ (fuel : Nat) (listed : Array Bool) (a : Act) (w : World),
      (∀ j oj, ops[j]? = some oj → j ≠ i → listed.getD j true = false → (∀ e ∈ oj.after, Region.binds md e = true → e.on ≠ i) → oi.apart ops oj = true) →
      i ∈ Region.ready md ops listed → YieldsIf P ops S oi v a → S w →
      heldE P md ops Q S last fuel (listed.setIfInBounds i true) (a.put oi.dst v) w → heldE P md ops Q S last (fuel + 1) listed a w := by
  obtain ⟨ol, hol, el, hel, helb, heli⟩ := Region.waitsFor_spec hwait
  intro fuel
  induction fuel with
  | zero =>
    intro listed a w _ hr hy hS H
    refine ⟨fun h => (by rw [h] at hr; cases hr), fun j hj => ?_⟩
    by_cases hji : j = i
    · subst hji
      exact hy.wpOp hi hS ⟨fun _ => hS, H⟩
    · have hj2 := ready_mono hj hji
      rw [H.1] at hj2
      cases hj2
  | succ fuel ih =>
    intro listed a w hfree hr hy hS H
    refine ⟨fun h => (by rw [h] at hr; cases hr), fun j hj => ?_⟩
    by_cases hji : j = i
    · subst hji
      exact hy.wpOp hi hS ⟨fun _ => hS, H⟩
    · obtain ⟨hjun, oj, hoj, hall⟩ := mem_ready.1 hj
      have hiu := (mem_ready.1 hr).1
      have hno : ∀ e ∈ oj.after, Region.binds md e = true → e.on ≠ i := fun e he hb heq => not_listed hiu (heq ▸ hall e he hb)
      have hjl : j ≠ last := by
        rintro rfl
        rw [hoj] at hol
        cases hol
        exact hno el hel helb heli
      have hw := wpOp_putIf hoj (hfree j oj hoj hji hjun hno) (fun cs b => hsel i oi cs b hi) (fun cs b => hsel j oj cs b hoj) hQ hy (H.2 j (ready_mono hj hji))
      refine wpOp_mono (fun a' w' h3 => ⟨fun _ => h3.2.1 hjl, ih (listed.setIfInBounds j true) a' w' (fun k ok hk hki hun hn => hfree k ok hk hki ?_ hn) (ready_mono hr (Ne.symm hji)) h3.1 (h3.2.1 hjl) ?_⟩) hw
      · by_cases hjk : j = k
        · subst hjk
          exact hjun
        · rwa [getD_set_ne true hjk] at hun
      · rw [Array.setIfInBounds_comm _ _ hji]
        exact h3.2.2
theorem E_take {i : Nat} {oi : Oper} {v : Value} {fuel : Nat} {listed : Array Bool} {a : Act} {w : World} (hi : ops[i]? = some oi)
    (hs : Region.noSelect ops = true) (hf : Region.free md ops listed i = true) (hr : (Region.ready md ops listed).contains i = true) (hwait : Region.waitsFor md ops last i = true)
    (hQ : ∀ c a w, Q (.panic c) (a.put oi.dst v) w → Q (.panic c) a w) (hS : S w) (hy : YieldsIf P ops S oi v a)
    (h : heldE P md ops Q S last fuel (listed.setIfInBounds i true) (a.put oi.dst v) w) : heldE P md ops Q S last (fuel + 1) listed a w :=
  E_first hi (Region.noSelect_spec hs) hQ hwait fuel listed a w (Region.free_spec hi hf) (by simpa using hr) hy hS h
theorem tk (i : Nat) {oi : Oper} {v : Value} {fuel : Nat} {listed : Array Bool} {a : Act} {w : World} (hi : ops[i]? = some oi) (hS : S w) (hy : YieldsIf P ops S oi v a)
    (h : heldE P md ops Q S last fuel (listed.setIfInBounds i true) (a.put oi.dst v) w) (hs : Region.noSelect ops = true := by kernel_rfl) (hf : Region.free md ops listed i = true := by kernel_rfl) (hr : (Region.ready md ops listed).contains i = true := by kernel_rfl)
    (hwait : Region.waitsFor md ops last i = true := by kernel_rfl) (hQ : ∀ c a w, Q (.panic c) (a.put oi.dst v) w → Q (.panic c) a w := by exact fun _ _ _ h => h) : heldE P md ops Q S last (fuel + 1) listed a w := E_take (i := i) hi hs hf hr hwait hQ hS hy h
theorem E_step {i : Nat} {o : Oper} {fuel : Nat} {listed : Array Bool} {a : Act} {w : World} (hr : Region.ready md ops listed = [i]) (ho : ops[i]? = some o)
    (h : ∀ K' : Act → World → Prop, Shut (∀ a w, (i ≠ last → S w) → heldE P md ops Q S last fuel (listed.setIfInBounds i true) a w → K' a w) → if Region.wanted o (yielded ops a.tmps) = true then Oper.wp P o a w K' Q else K' (a.put o.dst undef) w) :
    heldE P md ops Q S last (fuel + 1) listed a w :=
  ⟨(fun h0 => by rw [hr] at h0; cases h0), fun j hj => by
    rw [hr] at hj
    obtain rfl := List.mem_singleton.1 hj
    exact wpOp_step ho (fun K' hK => h K' (fun a w hS hW => hK a w ⟨hS, hW⟩))⟩
theorem E_step2 {i i' : Nat} {o o' : Oper} {fuel : Nat} {listed : Array Bool} {a : Act} {w : World} (hr : Region.ready md ops listed = [i, i']) (ho : ops[i]? = some o) (ho' : ops[i']? = some o')
    (h : ∀ K' : Act → World → Prop, Shut (∀ a w, (i ≠ last → S w) → heldE P md ops Q S last fuel (listed.setIfInBounds i true) a w → K' a w) → if Region.wanted o (yielded ops a.tmps) = true then Oper.wp P o a w K' Q else K' (a.put o.dst undef) w)
    (h' : ∀ K' : Act → World → Prop, Shut (∀ a w, (i' ≠ last → S w) → heldE P md ops Q S last fuel (listed.setIfInBounds i' true) a w → K' a w) → if Region.wanted o' (yielded ops a.tmps) = true then Oper.wp P o' a w K' Q else K' (a.put o'.dst undef) w) :
    heldE P md ops Q S last (fuel + 1) listed a w :=
  ⟨(fun h0 => by rw [hr] at h0; cases h0), fun j hj => by
    rw [hr] at hj
    rcases List.mem_cons.1 hj with rfl | hj
    · exact wpOp_step ho (fun K' hK => h K' (fun a w hS hW => hK a w ⟨hS, hW⟩))
    · obtain rfl := List.mem_singleton.1 hj
      exact wpOp_step ho' (fun K' hK => h' K' (fun a w hS hW => hK a w ⟨hS, hW⟩))⟩
theorem E_done {listed : Array Bool} {a : Act} {w : World} (hr : Region.ready md ops listed = []) (h : Q .normal a w) : ∀ fuel, heldE P md ops Q S last fuel listed a w
  | 0 => ⟨hr, h⟩
  | _ + 1 => ⟨fun _ => h, fun i hi => by rw [hr] at hi; cases hi⟩
theorem wp_region_E {id : Nat} {a : Act} {w : World} (last : Nat) (S : World → Prop) (hm : P.follows .mixedOrders = true)
    (h : heldE P .any ops Q S last ops.size (Array.replicate ops.size false) a w.drew) : (Code.region id ops true).wp P Q a w := wp_region_any hm (any_of_E _ _ _ _ h)
end

theorem cutR_pos {l : List Prt} (h : ∀ p ∈ l, 1 ≤ p.loads) : ∀ {n : Int}, 0 ≤ n → ∀ p ∈ cutR n l, 1 ≤ p.loads := by
  induction l with
  | nil => intro n _ p hp; simp [cutR] at hp
  | cons q l ih =>
    intro n hn p hp
    simp only [cutR] at hp
    have h1 := h q (by simp)
    rcases List.mem_append.1 hp with hp | hp
    · split at hp
      · obtain rfl := List.mem_singleton.1 hp
        show 1 ≤ q.loads - min n q.loads
        omega
      · simp at hp
    · exact ih (fun r hr => h r (by simp [hr])) (by omega) p hp
theorem loads_pos {l : List Prt} (h : ∀ p ∈ l, 1 ≤ p.loads) : 0 ≤ loadsM l := by
  induction l with
  | nil => simp [loadsM]
  | cons q l ih => have := h q (by simp); have := ih fun r hr => h r (by simp [hr]); simp only [loadsM]; omega
theorem cutR_zero {l : List Prt} (h : ∀ p ∈ l, 1 ≤ p.loads) : cutR 0 l = l := by
  induction l with
  | nil => rfl
  | cons p l ih =>
    have hp := h p (by simp)
    have e0 : min (0 : Int) p.loads = 0 := by omega
    simp only [cutR, e0, Int.sub_zero]
    rw [if_pos (by omega), ih fun q hq => h q (by simp [hq])]
    rfl
theorem cutT_all {l : List Prt} (h : ∀ p ∈ l, 1 ≤ p.loads) : ∀ {n : Int}, loadsM l ≤ n → cutT n l = l := by
  induction l with
  | nil => intro n _; rfl
  | cons p l ih =>
    intro n hn
    have hp := h p (by simp)
    have hl := loads_pos fun q hq => h q (List.mem_cons_of_mem _ hq)
    simp only [loadsM] at hn
    have e0 : min n p.loads = p.loads := by omega
    simp only [cutT, e0]
    rw [if_pos (by omega), ih (fun q hq => h q (by simp [hq])) (by omega)]
    rfl
theorem loads_cutR {l : List Prt} (h : ∀ p ∈ l, 1 ≤ p.loads) : ∀ {n : Int}, 0 ≤ n → n ≤ loadsM l → loadsM (cutR n l) = loadsM l - n := by
  induction l with
  | nil => intro n h0 h1; simp [loadsM] at h1; simp [cutR, loadsM]; omega
  | cons p l ih =>
    intro n h0 h1
    have hp := h p (by simp)
    simp only [loadsM] at h1
    simp only [cutR]
    have hl := loads_pos fun q hq => h q (List.mem_cons_of_mem _ hq)
    have ih := @ih (fun q hq => h q (by simp [hq])) (n - min n p.loads) (by omega) (by omega)
    by_cases hlt : min n p.loads < p.loads
    · rw [if_pos hlt]
      simp only [List.cons_append, List.nil_append, loadsM, ih]
      omega
    · rw [if_neg hlt]
      simp only [List.nil_append, loadsM, ih]
      omega
/-- What is left behind the first loads, as the program takes it: all that is left, and no more. -/
theorem rest_taken {l : List Prt} (h : ∀ p ∈ l, 1 ≤ p.loads) (ha : ap none l) {n : Int} (h0 : 0 ≤ n) (h1 : n ≤ loadsM l) : putL [] (takenL n (loadsM l - n) l) = cutR n l := by
  rw [put_taken h h0 (by omega) ha, taken_cut h h0 (by omega)]
  refine cutT_all (fun p hp => ?_) ?_
  · exact cutR_pos h h0 p hp
  · rw [loads_cutR h h0 h1]
    exact Int.le_refl _

/-- put of taken, onto a row of its own. -/
theorem putOwn_any (base : Nat) (a0 : Option Addr) (c0 : Nat) (l0 : List Prt) (m : Int) (a : Option Addr) (c : Nat) (l : List Prt) (skip left : Int) (w : World)
    (hown : w.ownsRow base 79 2 (.slice a0 l0.length c0) l0.length (l0.flatMap cellsPrt)) (hap : ∀ k, a0.map (·.block) = some k → a.map (·.block) ≠ some k) (hbase : base ≤ w.heap.size)
    (hl0 : ∀ q ∈ l0, 0 ≤ q.loads ∧ q.loads ≤ m) (hm0 : 0 ≤ m) (hm : m ≤ 1000000000000) (hlen0 : l0.length ≤ 100000)
    (hl : IsPrts w a c l) (hok : ∀ p ∈ l, 1 ≤ p.loads ∧ p.loads ≤ 100000) (hlen : l.length ≤ 1000) (hs0 : 0 ≤ skip) (hs1 : skip ≤ 100000000000) (hf0 : 0 ≤ left) (hf1 : left ≤ 100000000000) :
    Calls Tryz.prog 91 #[.slice a0 l0.length c0, .func (.func 108) #[] #[.pointer (some ⟨w.heap.size + 1, 0, none⟩), .pointer (some ⟨w.heap.size + 1 + 1, 0, none⟩), .pointer (some ⟨w.heap.size, 0, none⟩)]]
      (((w.alloc (.cells #[.slice a l.length c] 27)).alloc (.cells #[.int .i64 skip] 3)).alloc (.cells #[.int .i64 left] 3)) fun e w' =>
      (∃ a' c', e = .returned (.slice a' (putL l0 (takenL skip left l)).length c') ∧ w'.ownsRow base 79 2 (.slice a' (putL l0 (takenL skip left l)).length c') (putL l0 (takenL skip left l)).length ((putL l0 (takenL skip left l)).flatMap cellsPrt) ∧
        ∀ k, a'.map (·.block) = some k → a0.map (·.block) = some k ∨ w.heap.size ≤ k) ∧ Turn (fun k => a0.map (·.block) = some k) w w' := by
  have hb : Below w.heap.size w (((w.alloc (.cells #[.slice a l.length c] 27)).alloc (.cells #[.int .i64 skip] 3)).alloc (.cells #[.int .i64 left] 3)) := (((Below.refl _ w).alloc (by simp) _).alloc (by simp) _).alloc (by simp; omega) _
  have k0 : Blk (((w.alloc (.cells #[.slice a l.length c] 27)).alloc (.cells #[.int .i64 skip] 3)).alloc (.cells #[.int .i64 left] 3)) w.heap.size #[.slice a l.length c] 27 := ((Blk.new w _ _).alloc _).alloc _
  have k1 : Blk (((w.alloc (.cells #[.slice a l.length c] 27)).alloc (.cells #[.int .i64 skip] 3)).alloc (.cells #[.int .i64 left] 3)) (w.heap.size + 1) #[.int .i64 skip] 3 := by
    have := (Blk.new (w.alloc (.cells #[.slice a l.length c] 27)) 3 #[.int .i64 skip]).alloc (.cells #[.int .i64 left] 3)
    simpa using this
  have k2 : Blk (((w.alloc (.cells #[.slice a l.length c] 27)).alloc (.cells #[.int .i64 skip] 3)).alloc (.cells #[.int .i64 left] 3)) (w.heap.size + 1 + 1) #[.int .i64 left] 3 := by
    have := Blk.new ((w.alloc (.cells #[.slice a l.length c] 27)).alloc (.cells #[.int .i64 skip] 3)) 3 #[.int .i64 left]
    simpa using this
  have hlw := hl.belowS hb
  have hown1 := own_below hown hb
  have hlt : ∀ k, a0.map (·.block) = some k → k < w.heap.size := fun k hk => (hown.lt k (by rw [rowOf_own']; exact hk)).2
  generalize (((w.alloc (.cells #[.slice a l.length c] 27)).alloc (.cells #[.int .i64 skip] 3)).alloc (.cells #[.int .i64 left] 3)) = w1 at *
  have hin : ∀ k, w.heap.size ≤ k → k < w1.heap.size → k < w1.heap.size ∧ a0.map (·.block) ≠ some k := fun k h1 h2 => ⟨h2, fun e => by have := hlt k e; omega⟩
  have hpr : PrtsIn (fun k => k < w1.heap.size ∧ a0.map (·.block) ≠ some k) w1 a c l := by
    rcases hlw with h | ⟨b, off, e, hl1, h1, h2, hp⟩
    · exact .inl h
    · exact .inr ⟨b, off, e, ⟨hl1, fun e0 => hap b e0 (by rw [e]; rfl)⟩, h1, h2, hp⟩
  have hseq := taken_stops 4 (by omega) w.heap.size (w.heap.size + 1) (w.heap.size + 1 + 1) a c (fun k => k < w1.heap.size ∧ a0.map (·.block) ≠ some k) l skip left hs0 hs1 hf0 hf1 hok (hin _ (by omega) k0.lt) (hin _ (by omega) k1.lt) (hin _ (by omega) k2.lt) w1 (fun _ h => h.1) (k0.cell 0) (k1.cell 0) (k2.cell 0) hpr
  have h := put_any base (fun k => k < w1.heap.size ∧ a0.map (·.block) ≠ some k) a0 c0 l0 m _ l.length (takenL skip left l) _ w1 hown1 (fun k hk h => h.2 hk) (by have := hb.size; omega) (fun _ h => h.1) hl0 hm0 hm hlen0 (by omega) hseq
  refine h.mono ?_
  rintro e w' ⟨a', c', rfl, hrow, hnew, hbel, hkp⟩
  refine ⟨⟨a', c', rfl, hrow, fun k hk => ?_⟩, (Turn.of_below hb).trans ⟨hbel.os, hbel.tape, hbel.output, hkp.size, fun k hk hn => hkp.block k ⟨hk, hn⟩⟩⟩
  by_cases hk0 : a0.map (·.block) = some k
  · exact .inl hk0
  · refine .inr ?_
    have h1 := hnew k hk
    have := hb.size
    by_cases hkl : k < w1.heap.size
    · exact absurd ⟨hkl, hk0⟩ h1
    · omega

theorem loadsOf_pos (N : Nat) (a : Option Addr) (c : Nat) (l : List Prt) (w : World) (hl : IsPrts w a c l) (hok : ∀ p ∈ l, p.ok N) (hlen : l.length ≤ 1000) :
    Calls Tryz.prog 89 #[.slice a l.length c] w fun e w' => e = .returned (.int .i64 (loadsM l)) ∧ Below w.heap.size w w' := loadsOf_any N a c l w hl hok hlen
theorem Hand.turn {X : Nat → Prop} {F : Frm} {base B : Nat} {w w' : World} {S R : Sto} (h : Hand F base B w S R) (ht : Turn X w w') (hx : ∀ k, X k → k ∉ rowsOf R ∧ k ≠ B) : Hand F base B w' S R :=
  ⟨ht.blk h.box (fun hX => (hx B hX).2 rfl), h.own.turn ht fun k hX => (hx k hX).1, h.out, h.le, h.heaps, h.ha, h.hc⟩
theorem flat_set {α : Type} (f : α → List Value) (n : Nat) (hf : ∀ x, (f x).length = n) (l : List α) : ∀ (i j : Nat) (x y : α) (v : Value), l[i]? = some x → j < n → f y = (f x).set j v → (l.flatMap f).set (i * n + j) v = (l.set i y).flatMap f := by
  induction l with
  | nil => intro i j x y v h; simp at h
  | cons z l ih =>
    intro i j x y v h hj he
    cases i with
    | zero =>
      obtain rfl : z = x := by simpa using h
      rw [List.flatMap_cons, List.set_cons_zero, List.flatMap_cons, he, Nat.zero_mul, Nat.zero_add, List.set_append_left _ _ (by rw [hf]; exact hj)]
    | succ i =>
      rw [List.flatMap_cons, List.set_cons_succ, List.flatMap_cons, List.set_append_right _ _ (by rw [hf, Nat.succ_mul]; omega), hf, show (i + 1) * n + j - n = i * n + j by rw [Nat.succ_mul]; omega]
      rw [ih i j x y v (by simpa using h) hj he]
theorem rows_set {S : Sto} {i : Nat} {y : Hep} : ∀ k ∈ rowsOf { S with heaps := S.heaps.set i y }, k ∈ rowsOf S ∨ y.pa.map (·.block) = some k := by
  intro k hk
  simp only [rowsOf, List.mem_filterMap, List.mem_append, List.mem_map] at hk
  obtain ⟨a, ha, e⟩ := hk
  rcases ha with h | ⟨x, hx, rfl⟩
  · exact .inl (List.mem_filterMap.2 ⟨a, List.mem_append_left _ h, e⟩)
  · rcases List.mem_or_eq_of_mem_set hx with h | rfl
    · exact .inl (rows_pa h e)
    · exact .inr e
/-- A heap's parts elsewhere. -/
theorem moved_hand {F : Frm} {base B : Nat} {w1 w7 : World} {S R : Sto} {i g : Nat} {h : Hep} {a2 : Option Addr} {c2 : Nat} (hH : Hand F base B w1 S R) (hi : S.heaps[i]? = some h) (hg : S.ha = some ⟨g, 0, none⟩) (hb : Below w1.heap.size w1 w7) (l2 : List Prt)
    (hrow : (w7.setCell ⟨g, i * 7 + 3, none⟩ (.slice a2 l2.length c2)).ownsRow base 79 2 (.slice a2 l2.length c2) l2.length (l2.flatMap cellsPrt)) (hnew : ∀ k, a2.map (·.block) = some k → w1.heap.size ≤ k) :
    Hand F base B (w7.setCell ⟨g, i * 7 + 3, none⟩ (.slice a2 l2.length c2)) { S with heaps := S.heaps.set i { h with pa := a2, pc := c2, parts := l2 } } { R with heaps := S.heaps.set i { h with pa := a2, pc := c2, parts := l2 } } := by
  have hil := (List.getElem?_eq_some_iff.1 hi).1
  have hgR : R.ha.map (·.block) = some g := by rw [hH.ha, hg]; rfl
  have hgo := out_ha hH.own.apart g hgR
  have hBg : B ≠ g := fun e => hH.out (rows_ha (by rw [hgR, e]))
  have hT : Turn (fun k => k = g) w1 (w7.setCell ⟨g, i * 7 + 3, none⟩ (.slice a2 l2.length c2)) := (Turn.of_below (X := fun k => k = g) hb).setCell (B := g) rfl _ _
  have hlt : ∀ k ∈ rowsOf R, k < w1.heap.size := fun k hk => (hH.own.ge k hk).2
  have hrw := own_below hH.own.heaps hb
  rw [hH.heaps, hH.ha, hH.hc, hg] at hrw
  have hrw2 := ownsRow_setOwn hrw (i := i * 7 + 3) (by omega) (.slice a2 l2.length c2)
  rw [flat_set cellsHep 7 (fun _ => rfl) S.heaps i 3 h { h with pa := a2, pc := c2, parts := l2 } _ hi (by omega) rfl] at hrw2
  have hlen : (S.heaps.set i { h with pa := a2, pc := c2, parts := l2 }).length = S.heaps.length := List.length_set ..
  refine ⟨?_, ?_, ?_, hH.le, rfl, hH.ha, hH.hc⟩
  · have := (hH.box.belowS hb).other hBg (i := i * 7 + 3) (.slice a2 l2.length c2)
    show Blk _ _ #[_, _, _, _, _, .slice S.ha (S.heaps.set i _).length S.hc, _, _] _
    rw [hlen]
    exact this
  · refine OwnSto.setHeaps (a := R.ha) (c := R.hc) hH.own (fun k hk => hT.block k (hlt k (rows_noha k (rows_noheaps k hk))) fun e => hgo (by rw [← show k = g from e]; exact rows_noheaps k hk)) ?_ (fun x hx => ?_) (fun x hx => ?_) ?_
    · rw [hlen, hH.ha, hH.hc, hg]; exact hrw2
    · rcases List.mem_or_eq_of_mem_set hx with hm | rfl
      · rw [← hH.heaps] at hm
        exact hT.row (hH.own.parts x hm) fun k hk e => hgo (by rw [← show k = g from hk]; exact rows_pa (S := { R with ha := none }) hm e)
      · exact hrow
    · rcases List.mem_or_eq_of_mem_set hx with hm | rfl
      · exact hH.own.names x (by rw [hH.heaps]; exact hm)
      · exact hH.own.names h (by rw [hH.heaps]; exact List.mem_of_getElem? hi)
    · have := apart_pa (S := R) (i := i) (x := h) (y := { h with pa := a2, pc := c2, parts := l2 }) (by rw [hH.heaps]; exact hi) hH.own.apart (fun j e hj => by have := hnew j e; have := hlt j (rows_erase (S := R) i j hj); omega)
      rw [hH.heaps] at this
      exact this
  · intro hk
    have hk' : B ∈ rowsOf { R with heaps := R.heaps.set i { h with pa := a2, pc := c2, parts := l2 } } := by rw [hH.heaps]; exact hk
    rcases rows_set B hk' with h1 | h1
    · exact hH.out h1
    · have := hnew B h1
      have := hH.box.lt
      omega

/-- What turns with a move. -/
abbrev TurnM (S : Sto) (B : Nat) (a0 : Option Addr) (k : Nat) : Prop := k = B ∨ S.ha.map (·.block) = some k ∨ a0.map (·.block) = some k
/-- What a move leaves: the list with the first loads behind it, the heap without them. -/
def MoveSaid (F : Frm) (base B i : Nat) (n : Int) (S R : Sto) (l : List Prt) (h : Hep) (a0 : Option Addr) (w : World) (e : Ending) (w' : World) : Prop :=
  (∃ (a : Option Addr) (c : Nat), e = .returned (.slice a (putL l (cutT n h.parts)).length c) ∧ w'.ownsRow base 79 2 (.slice a (putL l (cutT n h.parts)).length c) (putL l (cutT n h.parts)).length ((putL l (cutT n h.parts)).flatMap cellsPrt) ∧
    ∃ H : List Hep, sameH H (moveH S.heaps i n) ∧ Hand F base B w' { S with heaps := H } { R with heaps := H } ∧ ∀ k, a.map (·.block) = some k → k ∉ rowsOf { R with heaps := H } ∧ k ≠ B) ∧ Turn (TurnM S B a0) w w'

set_option maxRecDepth 100000 in
set_option maxHeartbeats 8000000 in
theorem move_any (F : Frm) (S R : Sto) (base B i : Nat) (n : Int) (h : Hep) (a0 : Option Addr) (c0 : Nat) (l : List Prt) (m : Int) (w : World) (hH : Hand F base B w S R) (hi : S.heaps[i]? = some h) (hbw : base ≤ w.heap.size)
    (hown : w.ownsRow base 79 2 (.slice a0 l.length c0) l.length (l.flatMap cellsPrt)) (hap : ∀ k, a0.map (·.block) = some k → k ∉ rowsOf R ∧ k ≠ B)
    (hl0 : ∀ q ∈ l, 0 ≤ q.loads ∧ q.loads ≤ m) (hm0 : 0 ≤ m) (hm : m ≤ 1000000000000) (hlen0 : l.length ≤ 100000)
    (N : Nat) (hokN : ∀ p ∈ h.parts, p.ok N) (hpa : ap none h.parts) (hlen : h.parts.length ≤ 1000) (hn0 : 0 ≤ n) (hn1 : n ≤ loadsM h.parts) (hn2 : loadsM h.parts ≤ 100000000) :
    Calls Tryz.prog 90 #[.pointer (some ⟨B, 0, none⟩), .int .i64 i, .int .i64 n, .slice a0 l.length c0] w (MoveSaid F base B i n S R l h a0 w) := by
  have hok : ∀ p ∈ h.parts, 1 ≤ p.loads ∧ p.loads ≤ 100000 := fun p hp => (hokN p hp).2
  have HOKN := Lib.hid hokN
  clear hokN
  have hil := (List.getElem?_eq_some_iff.1 hi).1
  have hrow := hH.own.heaps
  rw [hH.heaps, hH.ha, hH.hc] at hrow
  obtain ⟨g, cap, hv, hbg, hgl⟩ := hrow.form (by omega)
  obtain ⟨hga, _, rfl⟩ := slice_inj hv
  have hcapl : S.heaps.length ≤ S.hc ∧ S.hc ≤ 9223372036854775807 := by
    rcases hrow.2 with ⟨_, h0⟩ | ⟨_, _, _, e, _, _, h1, h2, _⟩
    · omega
    · obtain ⟨_, _, rfl⟩ := slice_inj e
      unfold maxLen at h2
      omega
  have lB := hH.box.lt
  have d5 : w.cell? ⟨B, 5, none⟩ = some (.slice S.ha S.heaps.length S.hc) := hH.box.cell 5
  rw [hga] at d5
  have hcell : ∀ j, j < 7 → w.cell? ⟨g, i * 7 + j, none⟩ = (cellsHep h)[j]? := fun j hj => by
    have h1 := hrow
    rw [hga] at h1
    rw [h1.cellAt _ (by omega)]
    exact flat_at cellsHep 7 (fun _ => rfl) S.heaps i j h hi hj
  have e3 : w.cell? ⟨g, i * 7 + 3, none⟩ = some (.slice h.pa h.parts.length h.pc) := hcell 3 (by omega)
  have hgB : g ≠ B := fun e => hH.out (rows_ha (S := R) (by rw [hH.ha, hga, ← e]; rfl))
  have hpo : h.pa.map (·.block) ≠ some g := fun e => out_ha hH.own.apart g (by rw [hH.ha, hga]; rfl) (rows_pa (S := { R with ha := none }) (by rw [hH.heaps]; exact List.mem_of_getElem? hi) e)
  have hparts := hH.own.parts h (by rw [hH.heaps]; exact List.mem_of_getElem? hi)
  have hi0 : (0 : Int) ≤ (i : Int) := Int.natCast_nonneg _
  have hi1 : (i : Int) < (S.heaps.length : Int) := by omega
  have HH := Lib.hid hH
  have HOWN := Lib.hid hown
  have HAP := Lib.hid hap
  have HL0 := Lib.hid hl0
  have HOK := Lib.hid hok
  have HPA := Lib.hid hpa
  have HI := Lib.hid hi
  have HGA := Lib.hid hga
  have HROW := Lib.hid hrow
  have HPO := Lib.hid hpo
  have HPR := Lib.hid hparts
  have HGB := Lib.hid hgB
  clear hH hown hap hl0 hok hpa hi hga hrow hpo hparts hcell hv hgB
  go_enter Tryz.func90, Tryz.ntmps90
  go_wp2_with fail
  refine (taken_any h.pa h.parts.length h.pc 0 n _).mono ?_
  rintro e w1 ⟨rfl, rfl⟩
  go_wp2_with fail
  refine (putOwn_any base a0 c0 l m h.pa h.pc h.parts 0 n _ HOWN.out (fun k hk e => (HAP.out k hk).1 (rows_pa (S := R) (by rw [HH.out.heaps]; exact List.mem_of_getElem? HI.out) e)) hbw HL0.out hm0 hm hlen0 (isPrts_own HPR.out) HOK.out hlen (by omega) (by omega) hn0 (by omega)).mono ?_
  rintro e w1 ⟨⟨a1, c1, rfl, hrow1, hat1⟩, hT1⟩
  have hH1 := HH.out.turn hT1 HAP.out
  have hg1 : g < w1.heap.size := Nat.lt_of_lt_of_le hgl hT1.size
  have e31 : w1.cell? ⟨g, i * 7 + 3, none⟩ = some (.slice h.pa h.parts.length h.pc) := by
    have := hT1.block g hgl (fun e => (HAP.out g e).1 (rows_ha (S := R) (by rw [HH.out.ha, HGA.out]; rfl)))
    exact (World.cell?_of_block (w := w) (a := ⟨g, i * 7 + 3, none⟩) this).trans e3
  have z31 : w1.frozen? ⟨g, i * 7 + 3, none⟩ = false := by
    have := hH1.own.heaps
    rw [HH.out.ha, HH.out.hc, HGA.out] at this
    exact this.frozenAt _
  have HT1 := Lib.hid hT1
  have HH1 := Lib.hid hH1
  have HR1 := Lib.hid hrow1
  have HA1 := Lib.hid hat1
  clear hT1 hH1 hrow1 hat1 e3 d5 lB
  generalize hq : putL l (takenL 0 n h.parts) = Q at *
  have HQ := Lib.hid hq
  clear hq
  have hpr1 : IsPrts w1 h.pa h.pc h.parts := isPrts_own (HH1.out.own.parts h (by rw [HH.out.heaps]; exact List.mem_of_getElem? HI.out))
  have HPR1 := Lib.hid hpr1
  have hlo : ∀ w', IsPrts w' h.pa h.pc h.parts → Calls Tryz.prog 89 #[.slice h.pa h.parts.length h.pc] w' fun e w'' => e = .returned (.int .i64 (loadsM h.parts)) ∧ Below w'.heap.size w' w'' := fun w' hp => loadsOf_pos N h.pa h.pc h.parts w' hp HOKN.out hlen
  have HLO := Lib.hid hlo
  have hwr : IntKind.i64.wrap (loadsM h.parts - n) = loadsM h.parts - n := IntWalk.i64_in _ (by omega)
  have hre : putL [] (takenL n (loadsM h.parts - n) h.parts) = cutR n h.parts := rest_taken (fun p hp => (HOK.out p hp).1) HPA.out hn0 hn1
  have hput : ∀ w', Below w1.heap.size w1 w' → Calls Tryz.prog 91 #[.slice none 0 0, .func (.func 108) #[] #[.pointer (some ⟨w'.heap.size + 1, 0, none⟩), .pointer (some ⟨w'.heap.size + 1 + 1, 0, none⟩), .pointer (some ⟨w'.heap.size, 0, none⟩)]]
      (((w'.alloc (.cells #[.slice h.pa h.parts.length h.pc] 27)).alloc (.cells #[.int .i64 n] 3)).alloc (.cells #[.int .i64 (loadsM h.parts - n)] 3)) fun e w'' =>
      (∃ a' c', e = .returned (.slice a' (cutR n h.parts).length c') ∧ w''.ownsRow base 79 2 (.slice a' (cutR n h.parts).length c') (cutR n h.parts).length ((cutR n h.parts).flatMap cellsPrt) ∧ ∀ k, a'.map (·.block) = some k → w1.heap.size ≤ k) ∧ Below w'.heap.size w' w'' := fun w' hb => by
    have h0 := putOwn_any base none 0 [] 0 h.pa h.pc h.parts n (loadsM h.parts - n) w' (World.ownsRow_nil _ _ _ _) (fun k e => by cases e) (Nat.le_trans hbw (Nat.le_trans HT1.out.size hb.size)) (fun q hq => by cases hq) (by omega) (by omega) (by simp) (HPR1.out.belowS hb) HOK.out hlen hn0 (by omega) (by omega) (by omega)
    rw [hre] at h0
    refine h0.mono ?_
    rintro e w'' ⟨⟨a', c', rfl, h1, h2⟩, h3⟩
    exact ⟨⟨a', c', rfl, h1, fun k hk => by
      rcases h2 k hk with e | e
      · cases e
      · exact Nat.le_trans hb.size e⟩, h3.below (Nat.le_refl _) fun k e => by cases e⟩
  have HPUT := Lib.hid hput
  clear hpr1 hlo hput hre
  go_upto_region 3 with fail
  have hx : (fun w' : World => Below w1.heap.size w1 w' ∧ w'.cell? ⟨g, i * 7 + 3, none⟩ = some (.slice h.pa h.parts.length h.pc)) w1.drew := ⟨(Below.refl _ w1).drew, e31⟩
  refine wp_region_E 17 (fun w' => Below w1.heap.size w1 w' ∧ w'.cell? ⟨g, i * 7 + 3, none⟩ = some (.slice h.pa h.parts.length h.pc)) (by kernel_rfl) ?_
  refine tk 0 rfl hx (v := ?v0) (.inl ⟨by rfl, ?y0⟩) ?r0
  case y0 => intro w' h; (try dsimp only at h); go_simp; try with_reducible rfl
  try simp only [Act.put]
  refine tk 1 rfl hx (v := ?v1) (.inl ⟨by rfl, ?y1⟩) ?r1
  case y1 => intro w' h; (try dsimp only at h); go_simp; try with_reducible rfl
  try simp only [Act.put]
  refine tk 2 rfl hx (v := ?v2) (.inl ⟨by rfl, ?y2⟩) ?r2
  case y2 => intro w' h; (try dsimp only at h); go_simp; try with_reducible rfl
  try simp only [Act.put]
  refine tk 3 rfl hx (v := ?v3) (.inl ⟨by rfl, ?y3⟩) ?r3
  case y3 => intro w' h; (try dsimp only at h); go_simp; try with_reducible rfl
  try simp only [Act.put]
  refine tk 4 rfl hx (v := ?v4) (.inl ⟨by rfl, ?y4⟩) ?r4
  case y4 => intro w' h; (try dsimp only at h); go_simp; try with_reducible rfl
  try simp only [Act.put]
  refine tk 5 rfl hx (v := ?v5) (.inl ⟨by rfl, ?y5⟩) ?r5
  case y5 => intro w' h; (try dsimp only at h); go_simp; try with_reducible rfl
  try simp only [Act.put]
  refine tk 6 rfl hx (v := ?v6) (.inl ⟨by rfl, ?y6⟩) ?r6
  case y6 => intro w' h; (try dsimp only at h); go_simp; try with_reducible rfl
  try simp only [Act.put]
  refine tk 7 rfl hx (v := ?v7) (.inl ⟨by rfl, ?y7⟩) ?r7
  case y7 => intro w' h; (try dsimp only at h); go_simp; try with_reducible rfl
  try simp only [Act.put]
  refine tk 8 rfl hx (v := ?v8) (.inl ⟨by rfl, ?y8⟩) ?r8
  case y8 => intro w' h; (try dsimp only at h); go_simp; try with_reducible rfl
  try simp only [Act.put]
  refine tk 9 rfl hx (v := ?v9) (.inl ⟨by rfl, ?y9⟩) ?r9
  case y9 => intro w' h; (try dsimp only at h); go_simp; try with_reducible rfl
  try simp only [Act.put]
  refine tk 11 rfl hx (v := ?v11) (.inl ⟨by rfl, ?y11⟩) ?r11
  case y11 => intro w' h; (try dsimp only at h); go_simp; try with_reducible rfl
  try simp only [Act.put]
  refine E_step (i := 10) (o := _) (by kernel_rfl) rfl (fun K hK => ?_)
  go_simp
  refine (HLO.out _ (HPR1.out.belowS hx.1)).mono ?_
  rintro r w5 ⟨rfl, hb5⟩
  dsimp only
  have hx5 : (fun w' : World => Below w1.heap.size w1 w' ∧ w'.cell? ⟨g, i * 7 + 3, none⟩ = some (.slice h.pa h.parts.length h.pc)) w5 := ⟨hx.1.trans (hb5.mono hx.1.size), (hb5.cell (p := ⟨g, i * 7 + 3, none⟩) hg1).trans e31⟩
  refine hK.out _ _ (fun _ => hx5) ?_
  clear hK K
  try simp only [Act.put]
  refine tk 12 rfl hx5 (v := ?v12) (.inl ⟨by rfl, ?y12⟩) ?r12
  case y12 => intro w' h; (try dsimp only at h); go_simp; try with_reducible rfl
  try simp only [Act.put]
  refine E_step (i := 13) (o := _) (by kernel_rfl) rfl (fun K hK => ?_)
  go_simp
  refine (taken_any h.pa h.parts.length h.pc n (loadsM h.parts - n) _).mono ?_
  rintro r w6 ⟨rfl, hw6⟩
  dsimp only
  have hb6 : Below w5.heap.size w5 w6 := by rw [hw6]; exact (((Below.refl _ w5).alloc (by simp) _).alloc (by simp) _).alloc (by simp; omega) _
  have hx6 : (fun w' : World => Below w1.heap.size w1 w' ∧ w'.cell? ⟨g, i * 7 + 3, none⟩ = some (.slice h.pa h.parts.length h.pc)) w6 := ⟨hx5.1.trans (hb6.mono hx5.1.size), (hb6.cell (p := ⟨g, i * 7 + 3, none⟩) (Nat.lt_of_lt_of_le hg1 hx5.1.size)).trans hx5.2⟩
  refine hK.out _ _ (fun _ => hx6) ?_
  clear hK K
  try simp only [Act.put]
  refine E_step (i := 14) (o := _) (by kernel_rfl) rfl (fun K hK => ?_)
  go_simp
  subst hw6
  refine (HPUT.out w5 hx5.1).mono ?_
  rintro r w7 ⟨⟨a2, c2, rfl, hrow2, hat2⟩, hb7⟩
  dsimp only
  have hx7 : (fun w' : World => Below w1.heap.size w1 w' ∧ w'.cell? ⟨g, i * 7 + 3, none⟩ = some (.slice h.pa h.parts.length h.pc)) w7 := ⟨hx5.1.trans (hb7.mono hx5.1.size), (hb7.cell (p := ⟨g, i * 7 + 3, none⟩) (Nat.lt_of_lt_of_le hg1 hx5.1.size)).trans hx5.2⟩
  refine hK.out _ _ (fun _ => hx7) ?_
  clear hK K hx hx5 hx6 hb5 hb6
  try simp only [Act.put]
  refine E_step (i := 15) (o := _) (by kernel_rfl) rfl (fun K hK => ?_)
  go_simp
  refine hK.out _ _ (fun _ => hx7) ?_
  clear hK K
  try simp only [Act.put]
  refine tk 16 rfl hx7 (v := ?v16) (.inl ⟨by rfl, ?y16⟩) ?r16
  case y16 => intro w' h; (try dsimp only at h); go_simp; try with_reducible rfl
  try simp only [Act.put]
  have HR2 := Lib.hid hrow2
  have HA2 := Lib.hid hat2
  have hB7 := hx7.1
  have e37 := hx7.2
  have z37 : w7.frozen? ⟨g, i * 7 + 3, none⟩ = false := (World.frozen?_of_block (w := w1) (a := ⟨g, i * 7 + 3, none⟩) (hB7.block g hg1)).trans z31
  have hg7 : g < w7.heap.size := Nat.lt_of_lt_of_le hg1 hB7.size
  clear hrow2 hat2 hx7 hb7
  refine E_step (i := 17) (o := _) (by kernel_rfl) rfl (fun K hK => ?_)
  go_simp
  refine hK.out _ _ (fun h => absurd rfl h) ?_
  clear hK K
  try simp only [Act.put]
  refine E_done (by kernel_rfl) ?_ _
  have hX : ∀ k, (k = g ∨ w1.heap.size ≤ k) → k = g ∨ w1.heap.size ≤ k := fun _ h => h
  have hT8 : Turn (fun k => k = g ∨ w1.heap.size ≤ k) w1 (w7.setCell ⟨g, i * 7 + 3, none⟩ (.slice a2 (cutR n h.parts).length c2)) := (Turn.of_below hB7).setCell (.inl rfl) _ _
  have hrow8 : (w7.setCell ⟨g, i * 7 + 3, none⟩ (.slice a2 (cutR n h.parts).length c2)).ownsRow base 79 2 (.slice a2 (cutR n h.parts).length c2) (cutR n h.parts).length ((cutR n h.parts).flatMap cellsPrt) :=
    Turn.row (X := fun k => k = g) ((Turn.of_below (X := fun k => k = g) (Below.refl _ w7)).setCell (B := g) rfl _ _) HR2.out (fun k e hk => by have := HA2.out k hk; omega)
  have hH8 := moved_hand HH1.out HI.out HGA.out hB7 (cutR n h.parts) hrow8 (fun k hk => HA2.out k hk)
  have hR8 : (w7.setCell ⟨g, i * 7 + 3, none⟩ (.slice a2 (cutR n h.parts).length c2)).ownsRow base 79 2 (.slice a1 Q.length c1) Q.length (Q.flatMap cellsPrt) := hT8.row HR1.out (fun k hk e => by
    rcases hk with rfl | hk
    · rcases HA1.out k e with h1 | h1
      · exact (HAP.out k h1).1 (rows_ha (S := R) (by rw [HH.out.ha, HGA.out]; rfl))
      · omega
    · have := (HR1.out.lt k (by rw [rowOf_own']; exact e)).2
      omega)
  have HH8 := Lib.hid hH8
  have HR8 := Lib.hid hR8
  have HT8 := Lib.hid hT8
  have hb1 : Turn (TurnM S B a0) w w1 := HT1.out.mono fun k _ e => .inr (.inr e)
  have hb8 : Turn (TurnM S B a0) w1 (w7.setCell ⟨g, i * 7 + 3, none⟩ (.slice a2 (cutR n h.parts).length c2)) := hT8.mono fun k hk e => by
    rcases e with rfl | e
    · exact .inr (.inl (by rw [HGA.out]; rfl))
    · omega
  have HBB := Lib.hid (hb1.trans hb8)
  have hgl8 : g < (w7.setCell ⟨g, i * 7 + 3, none⟩ (.slice a2 (cutR n h.parts).length c2)).heap.size := Nat.lt_of_lt_of_le hg1 hT8.size
  have hQ2 : Q = putL l (cutT n h.parts) := by rw [← HQ.out, taken_cut (fun p hp => (HOK.out p hp).1) (by omega) hn0, cutR_zero fun p hp => (HOK.out p hp).1]
  have HQ2 := Lib.hid hQ2
  -- the list's row lies apart
  have hap8 : ∀ k, a1.map (·.block) = some k → (k ∉ rowsOf R ∧ k ≠ B) ∧ k < w1.heap.size := fun k hk => by
    have h1 := (HR1.out.lt k (by rw [rowOf_own']; exact hk)).2
    rcases HA1.out k hk with h2 | h2
    · exact ⟨HAP.out k h2, h1⟩
    · exact ⟨⟨fun h3 => by have := (HH.out.own.ge k h3).2; omega, fun h3 => by have := HH.out.box.lt; omega⟩, h1⟩
  have hap9 : ∀ k, a1.map (·.block) = some k → k ∉ rowsOf { R with heaps := S.heaps.set i { h with pa := a2, pc := c2, parts := cutR n h.parts } } ∧ k ≠ B := fun k hk => by
    obtain ⟨⟨h1, h2⟩, h3⟩ := hap8 k hk
    refine ⟨fun h4 => ?_, h2⟩
    rw [← HH.out.heaps] at h4
    rcases rows_set k h4 with h5 | h5
    · exact h1 h5
    · have := HA2.out k h5; omega
  have HAP9 := Lib.hid hap9
  have e38 : (w7.setCell ⟨g, i * 7 + 3, none⟩ (.slice a2 (cutR n h.parts).length c2)).cell? ⟨g, i * 7 + 3, none⟩ = some (.slice a2 (cutR n h.parts).length c2) := by
    have h1 := hH8.own.heaps
    have h2 : R.ha = some ⟨g, 0, none⟩ := by rw [HH.out.ha, HGA.out]
    simp only [h2] at h1
    have hil8 : i < (S.heaps.set i { h with pa := a2, pc := c2, parts := cutR n h.parts }).length := by rw [List.length_set]; exact hil
    rcases row_at cellsHep 7 (fun _ => rfl) h1 with ⟨e0, _⟩ | ⟨g', cap', hv', _, _, _, _, key⟩
    · cases e0
    · obtain ⟨e0, _, _⟩ := slice_inj hv'
      obtain rfl : g = g' := by injection e0 with e0; injection e0
      exact key i { h with pa := a2, pc := c2, parts := cutR n h.parts } (by simp [hil]) 3 (by omega)
  clear hX hT8 hrow8 hH8 hR8 hb1 hb8 hQ2 hap8 hap9 e37 z37 hg7 e31 z31
  generalize w7.setCell ⟨g, i * 7 + 3, none⟩ (.slice a2 (cutR n h.parts).length c2) = w8 at *
  by_cases hz : cutR n h.parts = []
  · have q0 : (((cutR n h.parts).length : Int) == 0) = true := by rw [hz]; rfl
    have hmv : moveH S.heaps i n = S.heaps.eraseIdx i := by unfold moveH; rw [HI.out]; simp [hz]
    have HMV := Lib.hid hmv
    clear hz hmv
    go_wp2_with fail
    refine (remove_any F _ _ base B i _ HH8.out (by rw [List.length_set]; exact hil)).mono ?_
    rintro e w9 ⟨rfl, hH9, hT9⟩
    have HH9 := Lib.hid hH9
    have HT9 := Lib.hid hT9
    clear hH9 hT9
    go_wp2_with fail
    go_ret
    have hset : (S.heaps.set i { h with pa := a2, pc := c2, parts := cutR n h.parts }).eraseIdx i = S.heaps.eraseIdx i := by
      rw [List.eraseIdx_eq_take_drop_succ, List.eraseIdx_eq_take_drop_succ, List.take_set_of_le (Nat.le_refl _), List.drop_set_of_lt (by omega)]
    have hH9 := HH9.out
    simp only [hset] at hH9
    have hne9 : ∀ k, (TurnH { S with heaps := S.heaps.set i { h with pa := a2, pc := c2, parts := cutR n h.parts } } B) k → a1.map (·.block) ≠ some k := fun k hk e => by
      rcases hk with rfl | hk
      · exact (HAP9.out k e).2 rfl
      · exact (HAP9.out k e).1 (rows_ha (by show R.ha.map _ = _; rw [HH.out.ha]; exact hk))
    refine ⟨⟨a1, c1, by rw [← HQ2.out]; rfl, by rw [← HQ2.out]; exact HT9.out.row HR8.out hne9, S.heaps.eraseIdx i, by rw [HMV.out]; exact sameH.refl _, hH9, fun k hk => ⟨fun h4 => (HAP9.out k hk).1 ?_, (HAP9.out k hk).2⟩⟩, HBB.out.trans (HT9.out.mono fun k _ hk => by
      rcases hk with rfl | hk
      · exact .inl rfl
      · exact .inr (.inl hk))⟩
    · have := rows_erase (S := { R with heaps := S.heaps.set i { h with pa := a2, pc := c2, parts := cutR n h.parts } }) i k
      simp only [hset] at this
      exact this h4
  · have q0 : (((cutR n h.parts).length : Int) == 0) = false := by
      have : (cutR n h.parts).length ≠ 0 := fun e => hz (List.length_eq_zero_iff.1 e)
      simp; omega
    have hmv : moveH S.heaps i n = S.heaps.set i { h with parts := cutR n h.parts } := by unfold moveH; rw [HI.out]; simp [hz]
    have HMV := Lib.hid hmv
    clear hz hmv
    go_wp2_with fail
    go_ret
    refine ⟨⟨a1, c1, by rw [← HQ2.out]; rfl, by rw [← HQ2.out]; exact HR8.out, S.heaps.set i { h with pa := a2, pc := c2, parts := cutR n h.parts }, by rw [HMV.out]; exact (sameH.refl _).set i ⟨rfl, rfl, rfl, rfl, rfl, rfl, rfl⟩, HH8.out, HAP9.out⟩, HBB.out⟩

end Go.Proofs.YtfhalmlpnoepcaaGreat
