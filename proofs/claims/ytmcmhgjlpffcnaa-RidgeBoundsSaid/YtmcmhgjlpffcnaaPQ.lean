/- Range over the patterns that fit a rod; what a rod holds at most, and how many rods are needed at least (bound). No condition but the limits of rods and weights that may be. -/
import Derived.Test.YtmcmhgjlpffcnaaPO
set_option linter.unusedSimpArgs false
namespace Go.Proofs.Ytmcmhgjlpffcnaa
open Go.RowKit Go.Shelf
attribute [local go_sem] Oper.semAt_some

/-! ### The mathematics of the patterns -/
theorem patB_set {q : List Int} {c : Nat} {v : Int} (hq : patB q) (h0 : 0 ≤ v) (h1 : v ≤ 12) : patB (q.set c v) := fun i => by
  by_cases hc : c < q.length
  · rw [ent_set hc]
    split
    · exact ⟨h0, h1⟩
    · exact hq i
  · rw [List.set_eq_of_length_le (by omega)]
    exact hq i
theorem lv_mem {kerf : Int} {most : List Int} (hm : patB most) {q : List Int} : ∀ {l : List Cut} {c : Nat} {p : List Int} {room : Int}, patB p → p.length = 8 → q ∈ lv kerf most l c p room → patB q ∧ q.length = 8
  | [], c, p, room, hp, h8, h => by
    simp only [lv, List.mem_singleton] at h
    exact h ▸ ⟨hp, h8⟩
  | x :: xs, c, p, room, hp, h8, h => by
    simp only [lv] at h
    obtain ⟨j, hj, hq⟩ := mem_down.1 h
    have hu := hm c
    have ht : topN (ent most c) room (x.ln + kerf) ≤ ent most c := by unfold topN; split <;> omega
    exact lv_mem hm (patB_set hp (by omega) (by omega)) (by simp [h8]) hq
theorem ent_zero (i : Nat) : ent (List.replicate 8 0) i = 0 := by
  unfold ent
  simp only [List.getD_eq_getElem?_getD, List.getElem?_replicate]
  split <;> rfl
theorem patB_zero : patB (List.replicate 8 0) := fun i => by rw [ent_zero]; omega
theorem lvAll_mem {r : Rds} {most q : List Int} (hm : patB most) (h : q ∈ lvAll r most) : patB q ∧ q.length = 8 := lv_mem hm patB_zero rfl h
theorem set_ent {p : List Int} {c : Nat} : p.set c (ent p c) = p := by
  by_cases hc : c < p.length
  · unfold ent
    rw [List.getD_eq_getElem?_getD, List.getElem?_eq_getElem hc]
    simp
  · exact List.set_eq_of_length_le (by omega)
theorem lv_none {kerf : Int} {most : List Int} (hm : patB most) (hk : 0 ≤ kerf) : ∀ {l : List Cut} {c : Nat} {p : List Int} {room : Int}, (∀ x ∈ l, 1 ≤ x.ln) → 0 ≤ room → (∀ i, c ≤ i → ent p i = 0) → p ∈ lv kerf most l c p room
  | [], c, p, room, _, _, _ => by simp [lv]
  | x :: xs, c, p, room, hx, hr, hz => by
    simp only [lv]
    refine mem_down.2 ⟨0, by omega, ?_⟩
    have hp : p.set c ((0 : Nat) : Int) = p := by
      have := set_ent (p := p) (c := c)
      rwa [hz c (Nat.le_refl _)] at this
    rw [hp]
    exact lv_none hm hk (fun y hy => hx y (List.mem_cons_of_mem _ hy)) (by simpa using hr) (fun i hi => hz i (by omega))
theorem lv_one {kerf : Int} {most : List Int} (hm : patB most) (hk : 0 ≤ kerf) : ∀ {l : List Cut} {c : Nat} {p : List Int} {room : Int} {i : Nat} {x : Cut}, (∀ x ∈ l, 1 ≤ x.ln) → 0 ≤ room → p.length = 8 → (∀ i, c ≤ i → ent p i = 0) → l[i]? = some x → c + l.length ≤ 8 →
    x.ln + kerf ≤ room → 1 ≤ ent most (c + i) → p.set (c + i) 1 ∈ lv kerf most l c p room
  | [], c, p, room, i, x, _, _, _, _, h, _, _, _ => by simp at h
  | y :: ys, c, p, room, i, x, hx, hr, hp8, hz, h, hl, hfit, hmo => by
    simp only [lv]
    simp only [List.length_cons] at hl
    rcases i with _ | i
    · obtain rfl : y = x := by simpa using h
      have hy := hx y List.mem_cons_self
      rw [Nat.add_zero] at hmo ⊢
      have ht : 1 ≤ topN (ent most c) room (y.ln + kerf) := by
        have : 1 ≤ room / (y.ln + kerf) := Int.le_ediv_of_mul_le (by omega) (by omega)
        unfold topN
        split <;> omega
      refine mem_down.2 ⟨1, by omega, ?_⟩
      exact lv_none hm hk (fun z hz => hx z (List.mem_cons_of_mem _ hz)) (by simp; omega) (fun j hj => by rw [ent_set (by omega), if_neg (by omega)]; exact hz j (by omega))
    · refine mem_down.2 ⟨0, by omega, ?_⟩
      have hp : p.set c ((0 : Nat) : Int) = p := by
        have := set_ent (p := p) (c := c)
        rwa [hz c (Nat.le_refl _)] at this
      rw [hp, show c + (i + 1) = c + 1 + i by omega]
      exact lv_one hm hk (fun z hz => hx z (List.mem_cons_of_mem _ hz)) (by simpa using hr) hp8 (fun j hj => hz j (by omega)) (by simpa using h) (by omega) (by simpa using hfit) (by rwa [show c + 1 + i = c + (i + 1) by omega])
/-- The most that one of the patterns weighs. -/
def heldM (ws : List Int) (l : List (List Int)) : Int := l.foldl (fun m q => if m < weighM ws q then weighM ws q else m) 0
theorem held_snoc (ws : List Int) (l : List (List Int)) (q : List Int) : heldM ws (l ++ [q]) = if heldM ws l < weighM ws q then weighM ws q else heldM ws l := by
  unfold heldM
  rw [List.foldl_append]
  rfl
theorem held_bd {ws : List Int} (hw : heftB ws) (hl : ws.length ≤ 8) : ∀ n (l : List (List Int)), l.length = n → (∀ q ∈ l, patB q) → 0 ≤ heldM ws l ∧ heldM ws l ≤ 96000000 ∧ ∀ q ∈ l, weighM ws q ≤ heldM ws l := by
  intro n
  induction n with
  | zero =>
    intro l h _
    obtain rfl := List.length_eq_zero_iff.1 h
    exact ⟨by simp [heldM], by simp [heldM], by simp⟩
  | succ n ih =>
    intro l h hq
    rcases List.eq_nil_or_concat l with rfl | ⟨l', q, rfl⟩
    · simp at h
    · simp only [List.concat_eq_append] at h hq ⊢
      obtain ⟨h1, h2, h3⟩ := ih l' (by simpa using h) (fun q hq' => hq q (by simp [hq']))
      have h4 := weighTo_bd (hq q (by simp)) hw ws.length
      have h5 : weighM ws q = weighTo ws q ws.length := rfl
      rw [held_snoc]
      split
      · refine ⟨by omega, by omega, fun q' hq' => ?_⟩
        rcases List.mem_append.1 hq' with h6 | h6
        · have := h3 q' h6
          omega
        · rw [List.mem_singleton.1 h6]
          omega
      · refine ⟨by omega, by omega, fun q' hq' => ?_⟩
        rcases List.mem_append.1 hq' with h6 | h6
        · exact h3 q' h6
        · rw [List.mem_singleton.1 h6]
          omega
theorem ent_want {l : List Cut} (hl : l.length ≤ 8) (i : Nat) : ent (wantL l) i = match l[i]? with | some x => x.mn | none => 0 := by
  unfold ent wantL wantTo
  simp only [List.getD_eq_getElem?_getD, List.getElem?_map]
  by_cases h8 : i < 8
  · rw [List.getElem?_range h8]
    simp only [Option.map_some, Option.getD_some]
    split
    · rfl
    · rw [List.getElem?_eq_none (by omega)]
  · have h1 : (List.range 8)[i]? = none := by simp; omega
    rw [h1, List.getElem?_eq_none (by omega)]
    rfl
theorem patB_want {r : Rds} (hr : r.ok) : patB (wantL r.cs) := fun i => by
  rw [ent_want hr.len]
  split
  · rename_i x h
    exact (hr.cuts x (List.mem_of_getElem? h)).2
  · omega
theorem weigh_some {ws q : List Int} (hq : patB q) (hw : heftB ws) : ∀ k, weighTo ws q k ≠ 0 → ∃ i, i < k ∧ 1 ≤ ent ws i ∧ 1 ≤ ent q i
  | 0, h => absurd rfl h
  | k + 1, h => by
    by_cases h0 : weighTo ws q k = 0
    · have h1 : ent ws k * ent q k ≠ 0 := by
        intro e
        apply h
        simp only [weighTo]
        omega
      have h2 := (hq k).1
      have h3 := (hw k).1
      refine ⟨k, by omega, ?_, ?_⟩
      · rcases (show 0 < ent ws k ∨ ent ws k ≤ 0 by omega) with h4 | h4
        · omega
        · exact absurd (by rw [show ent ws k = 0 by omega]; simp) h1
      · rcases (show 0 < ent q k ∨ ent q k ≤ 0 by omega) with h4 | h4
        · omega
        · exact absurd (by rw [show ent q k = 0 by omega]; simp) h1
    · obtain ⟨i, h1, h2⟩ := weigh_some hq hw k h0
      exact ⟨i, by omega, h2⟩
theorem weigh_ge {ws q : List Int} (hq : patB q) (hw : heftB ws) {i : Nat} : ∀ k, i < k → ent ws i * ent q i ≤ weighTo ws q k
  | 0, h => by omega
  | k + 1, h => by
    have h1 := term_bd hq hw k
    have h2 := weighTo_bd hq hw k
    simp only [weighTo]
    by_cases e : i = k
    · subst e
      omega
    · have := weigh_ge hq hw k (show i < k by omega)
      omega
theorem held_pos {r : Rds} (hr : r.ok) {ws : List Int} (hw : heftB ws) (hl : ws.length ≤ 8) (h : weighM ws (wantL r.cs) ≠ 0) : 1 ≤ heldM ws (lvAll r (wantL r.cs)) := by
  have hP := patB_want hr
  obtain ⟨i, h1, h2, h3⟩ := weigh_some hP hw _ h
  have h4 := ent_want hr.len i
  rcases hx : r.cs[i]? with _ | x
  · rw [hx] at h4
    simp only at h4
    omega
  · have hi : i < r.cs.length := (List.getElem?_eq_some_iff.1 hx).1
    have h8 := hr.len
    have hxo := hr.cuts x (List.mem_of_getElem? hx)
    have hk := hr.kerf
    have hs := hr.stock
    have hmem : (List.replicate 8 (0 : Int)).set (0 + i) 1 ∈ lvAll r (wantL r.cs) :=
      lv_one hP hk.1 (fun y hy => (hr.cuts y hy).1.1) (by omega) rfl (fun j _ => ent_zero j) hx (by omega) (by omega) (by rwa [Nat.zero_add])
    rw [Nat.zero_add] at hmem
    have hall := held_bd hw hl _ (lvAll r (wantL r.cs)) rfl (fun q hq => (lvAll_mem hP hq).1)
    have h5 := hall.2.2 _ hmem
    have h6 := weigh_ge (lvAll_mem hP hmem).1 hw ws.length h1
    rw [ent_set (by simp; omega), if_pos rfl] at h6
    have h7 : weighM ws ((List.replicate 8 (0 : Int)).set i 1) = weighTo ws ((List.replicate 8 (0 : Int)).set i 1) ws.length := rfl
    omega
def boundV (r : Rds) (ws : List Int) : Int := if weighM ws (wantL r.cs) = 0 then 0 else (weighM ws (wantL r.cs) + heldM ws (lvAll r (wantL r.cs)) - 1) / heldM ws (lvAll r (wantL r.cs))

/-! ### Range over the patterns -/
theorem pat_law {n : Nat} {go : Operand} {tp : Array Tmp} {assign body : Code} {Q : Exit → Act → World → Prop} {a : Act} {w : World} {RP MP : Nat}
    (hg : a.eval go = .func (.func 105) #[] #[.pointer (some ⟨RP, 0, none⟩), .pointer (some ⟨MP, 0, none⟩)]) (S : Nat → Prop) (r : Rds) (hr : r.ok) (most : List Int) (hm : patB most) (hS : ∀ k, S k → k < w.heap.size) (hRP : S RP) (hMP : S MP)
    (hrods : Blk w RP #[.int .i64 r.stock, .int .i64 r.kerf, .slice r.ca r.cs.length r.cc] 43) (hmost : Blk w MP (patC most) 105) (hrow : CutsIn S w r.ca r.cc r.cs) (hps : tp.size = 1)
    (I : List (List Int) → World → Prop) (Ix : Code → List (List Int) → World → Prop) (Ip : List PanicEntry → World → Prop) (hI : ∀ s X Y, I s X → Below w.heap.size X Y → I s Y) (hIx : ∀ c s X Y, Ix c s X → Below w.heap.size X Y → Ix c s Y) (h0 : I [] w) (A : List Int → Nat → Act)
    (hassign : ∀ (L : Nat) (x : List Int) (W : World) (K : Act → World → Prop), K (A x W.heap.size) (W.alloc (.cells (patC x) 105)) →
      assign.wpIn (Fence.wide.inRound L) (n - 1 - 1) Try.prog (Exit.then K (fun _ _ _ => False)) { tmps := (tp.zip (encQ x)).foldl (fun t (p, v) => t.setIfInBounds p v) a.tmps, defers := [] } W)
    (hbody : ∀ (L : Nat) (pre : List (List Int)) (x : List Int) (Bx : Nat) (W : World), w.heap.size ≤ L → w.heap.size ≤ Bx → w.heap.size ≤ W.heap.size → (∃ r, W.heap[L]? = some (.loop r)) → Blk W Bx (patC x) 105 → pre ++ [x] <+: lvAll r most → I pre W →
      body.wpIn (Fence.wide.inRound L) (n - 1 - 1) Try.prog (ownPostP w.heap.size (KeepsC S (w.heap.size + 2)) I Ix Ip (pre ++ [x]) W) (A x Bx) W)
    (hdone : ∀ (D : Nat) (W : World), w.heap.size ≤ D → I (lvAll r most) W → W.heap[D]? = some (.deferred (some [])) → Q .normal { a with defers := { target := .collected D, args := #[] } :: a.defers } W)
    (hstop : ∀ (D : Nat) (c : Code) (pre : List (List Int)) (W : World), w.heap.size ≤ D → Ix c pre W → W.heap[D]? = some (.deferred (some [])) → c.wpIn Fence.wide n Try.prog Q { a with defers := { target := .collected D, args := #[] } :: a.defers } W)
    (hpanic : ∀ (D : Nat) (ch : List PanicEntry) (W : World), w.heap.size ≤ D → Ip ch W → W.heap[D]? = some (.deferred (some [])) → Q (.panic ch) { a with defers := { target := .collected D, args := #[] } :: a.defers } W) :
    wpF n Try.prog (Code.rangeFunc go tp assign body) Q a w := by
  refine wpF_rangeFunc_ownB (gf := 105) (lb := #[.pointer (some ⟨RP, 0, none⟩), .pointer (some ⟨MP, 0, none⟩)]) hg (enters_of Try.func105 (by kernel_rfl) rfl)
    (patterns_seq (n - 1) RP MP S r hr most hm w hS hRP hMP hrods hmost hrow) (fun h k => h.trans k) (fun W l o o' hl ho hc _ => KeepsC.put (fun h => by have := hS l h; omega) ho hc) (Below.refl _ _) (fun _ => by rw [hps]; rfl)
    (fun pre W => I pre W ∧ w.heap.size ≤ W.heap.size) Ix Ip (fun s X Y h hb => ⟨hI s X Y h.1 hb, Nat.le_trans h.2 hb.size⟩) hIx ⟨h0, Nat.le_refl _⟩ (fun x a' W => ∃ Bx, w.heap.size ≤ Bx ∧ Blk W Bx (patC x) 105 ∧ a' = A x Bx)
    (fun x a' s X Y row hs hg hr => by obtain ⟨Bx, h1, h2, h3⟩ := hs; exact ⟨Bx, h1, own_blk w.heap.size Bx _ (fun _ : Unit => patC x) () X Y row h2 hg hr, h3⟩)
    ?assign ?body ?done ?stop hpanic
  case assign =>
    intro L pre x W K hi hK
    exact hassign L x W K (hK _ _ ((KeepsOthers.alloc _ _).from _) (KeepsC.of_below (fun k h => Nat.lt_of_lt_of_le (hS k h) hi.2) ((Below.refl _ W).alloc (Nat.le_refl _) _)) ⟨hI _ _ _ hi.1 ((Below.refl _ W).alloc hi.2 _), by have := hi.2; simp; omega⟩ ⟨W.heap.size, hi.2, Blk.new _ _ _, rfl⟩)
  case body =>
    rintro L pre x a' W hl' hr hsp hi ⟨Bx, h1, h2, rfl⟩ hlt
    refine wpIn_mono (hbody L pre x Bx W hl' h1 hi.2 hr h2 hsp hi.1) ?_
    rintro e a3 W3 hp
    cases e with
    | normal => exact ⟨hp.1, hp.2.1, hp.2.2, Nat.le_trans hi.2 hp.1.size⟩
    | _ => exact hp
  case done =>
    rintro D xs W hD rfl hi hK
    exact hdone D W hD hi.1 hK
  case stop =>
    rintro D c pre W hD _ hi hK
    exact hstop D c pre W hD hi hK
end Go.Proofs.Ytmcmhgjlpffcnaa
