/- The patterns that fit a rod: ridge.patterns and its closure that calls itself, as an iterator that keeps a pattern in a box of its own. No condition but the limits of rods that may be. -/
import Derived.Test.YtmcmhgjlpffcnaaPN
import Derived.Laws.EntriesVeiled
set_option linter.unusedSimpArgs false
namespace Go.Proofs.Ytmcmhgjlpffcnaa
open Go.RowKit Go.Shelf
attribute [local go_sem] Oper.semAt_some

/-! ### Lists from the greatest number down -/
def down {α : Type} (f : Nat → List α) : Nat → List α
  | 0 => []
  | k + 1 => f k ++ down f k
theorem mem_down {α : Type} {f : Nat → List α} {x : α} : ∀ {k : Nat}, x ∈ down f k ↔ ∃ j, j < k ∧ x ∈ f j
  | 0 => by simp [down]
  | k + 1 => by
    simp only [down, List.mem_append, mem_down (k := k)]
    constructor
    · rintro (h | ⟨j, hj, h⟩)
      · exact ⟨k, by omega, h⟩
      · exact ⟨j, by omega, h⟩
    · rintro ⟨j, hj, h⟩
      rcases Nat.lt_or_ge j k with h2 | h2
      · exact .inr ⟨j, h2, h⟩
      · obtain rfl : j = k := by omega
        exact .inl h
/-- How often a cut of a size goes into what is free of a rod, if no more than so many of it are wanted. -/
def topN (u room sz : Int) : Int := if room / sz < u then room / sz else u
theorem topN_bd {u room sz : Int} (hu : 0 ≤ u) (hr : 0 ≤ room) (hs : 0 < sz) : 0 ≤ topN u room sz ∧ topN u room sz ≤ u ∧ topN u room sz * sz ≤ room := by
  have h1 : 0 ≤ room / sz := Int.ediv_nonneg hr (by omega)
  have h2 : room / sz * sz ≤ room := Int.ediv_mul_le room (by omega)
  unfold topN
  split
  · exact ⟨h1, by omega, h2⟩
  · refine ⟨hu, Int.le_refl _, ?_⟩
    exact Int.le_trans (Int.mul_le_mul_of_nonneg_right (by omega) (by omega)) h2
/-- The patterns that fit, in their order: cuts from the one with the number c on, what is free, the pattern so far. -/
def lv (kerf : Int) (most : List Int) : List Cut → Nat → List Int → Int → List (List Int)
  | [], _, p, _ => [p]
  | x :: xs, c, p, room => down (fun n => lv kerf most xs (c + 1) (p.set c n) (room - n * (x.ln + kerf))) ((topN (ent most c) room (x.ln + kerf)).toNat + 1)
theorem ent_set {p : List Int} {c i : Nat} {v : Int} (hc : c < p.length) : ent (p.set c v) i = if i = c then v else ent p i := by
  unfold ent
  simp only [List.getD_eq_getElem?_getD, List.getElem?_set]
  by_cases h : c = i
  · subst h
    simp [hc]
  · rw [if_neg h, if_neg (by omega)]
theorem set_same {p : List Int} {c : Nat} {u v : Int} : (p.set c u).set c v = p.set c v := by simp

/-! ### What an iterator's rounds leave alone -/
structure KeepsC (S : Nat → Prop) (B : Nat) (W W' : World) : Prop where
  size : W.heap.size ≤ W'.heap.size
  same : ∀ k, S k → W'.heap[k]? = W.heap[k]?
  own : ∀ k cs t, B ≤ k → Blk W k cs t → Blk W' k cs t
theorem KeepsC.refl (S : Nat → Prop) (B : Nat) (W : World) : KeepsC S B W W := ⟨Nat.le_refl _, fun _ _ => rfl, fun _ _ _ _ h => h⟩
theorem KeepsC.trans {S : Nat → Prop} {B : Nat} {X Y Z : World} (h : KeepsC S B X Y) (k : KeepsC S B Y Z) : KeepsC S B X Z :=
  ⟨Nat.le_trans h.size k.size, fun i hi => (k.same i hi).trans (h.same i hi), fun i cs t hi hb => k.own i cs t hi (h.own i cs t hi hb)⟩
theorem KeepsC.blk {S : Nat → Prop} {B : Nat} {X Y : World} (h : KeepsC S B X Y) {k : Nat} {cs : Array Value} {t : TypeId} (hk : S k ∨ B ≤ k) (hb : Blk X k cs t) : Blk Y k cs t := by
  rcases hk with hk | hk
  · exact (h.same k hk).trans hb
  · exact h.own k cs t hk hb
theorem KeepsC.put {S : Nat → Prop} {B : Nat} {W : World} {l : Nat} {o o' : Obj} (hS : ¬ S l) (hl : W.heap[l]? = some o) (ho : o.isCells = false) : KeepsC S B W (W.putObj l o') :=
  ⟨by simp [World.putObj], fun k hk => World.putObj_heap_other (fun e => hS (e ▸ hk)), fun k cs t _ hb => hb.putObj o' hl ho⟩
theorem KeepsC.of_below {S : Nat → Prop} {B : Nat} {W W' : World} (hS : ∀ k, S k → k < W.heap.size) (h : Below W.heap.size W W') : KeepsC S B W W' :=
  ⟨h.size, fun k hk => h.block k (hS k hk), fun _ _ _ _ hb => hb.belowS h⟩
/-- Rows that lie in blocks of a set. -/
def CutsIn (S : Nat → Prop) (w : World) (a : Option Addr) (c : Nat) (l : List Cut) : Prop := l = [] ∨ ∃ b off, a = some ⟨b, off, none⟩ ∧ S b ∧ b < w.heap.size ∧ l.length ≤ c ∧ c ≤ 9223372036854775807 ∧ ∀ j x, l[j]? = some x → CutAt w b (off + j * 2) x
theorem IsCts.toIn {S : Nat → Prop} {w : World} {a : Option Addr} {c : Nat} {l : List Cut} (h : IsCts w a c l) (hS : ∀ b off, a = some ⟨b, off, none⟩ → S b) : CutsIn S w a c l := by
  rcases h with h | ⟨b, off, e, hl, hc, hc', hp⟩
  · exact .inl h
  · exact .inr ⟨b, off, e, hS _ _ e, hl, hc, hc', hp⟩
theorem CutsIn.keeps {S : Nat → Prop} {B : Nat} {w w' : World} {a : Option Addr} {c : Nat} {l : List Cut} (h : CutsIn S w a c l) (hk : KeepsC S B w w') : CutsIn S w' a c l := by
  rcases h with h | ⟨b, off, e, hl, hlt, hc, hc', hp⟩
  · exact .inl h
  · refine .inr ⟨b, off, e, hl, Nat.lt_of_lt_of_le hlt hk.size, hc, hc', fun j x hj => ?_⟩
    obtain ⟨h0, h1⟩ := hp j x hj
    have hb := hk.same b hl
    exact ⟨(World.cell?_of_block (a := ⟨b, _, none⟩) hb).trans h0, (World.cell?_of_block (a := ⟨b, _, none⟩) hb).trans h1⟩

theorem roundIn_any {n m : Nat} {P : Program} {l : Nat} {f : FuncId} {tmps : Array Value} {assign body : Code} {w : World} {R : Ending → World → Prop} (h : RoundIn Fence.wide n P l f tmps assign body w R) : RoundIn Fence.wide m P l f tmps assign body w R :=
  ⟨h.1, fun c cs _ => h.2 c cs (room_wide _)⟩
theorem yieldAt_any {n m : Nat} {P : Program} {l : Nat} {args : Array Value} {w : World} {R : Ending → World → Prop} (h : YieldAt Fence.wide n P l args w R) : YieldAt Fence.wide m P l args w R := by
  obtain ⟨fn, tmps, a, b, h1, h2⟩ := h
  exact ⟨fn, tmps, a, b, h1, roundIn_any h2⟩

def encQ (q : List Int) : Array Value := #[.agg (patC q)]
/-- The boxes that fill reads: the rods, the consumer, what is wanted, fill itself. -/
structure FillW (S : Nat → Prop) (r : Rds) (most : List Int) (L RP MP YP FP : Nat) (W : World) : Prop where
  rods : Blk W RP #[.int .i64 r.stock, .int .i64 r.kerf, .slice r.ca r.cs.length r.cc] 43
  most : Blk W MP (patC most) 105
  yield : Blk W YP #[.func (.yield L) #[] #[]] 122
  fill : Blk W FP #[.func (.func 106) #[] #[.pointer (some ⟨RP, 0, none⟩), .pointer (some ⟨YP, 0, none⟩), .pointer (some ⟨MP, 0, none⟩), .pointer (some ⟨FP, 0, none⟩)]] 123
  row : CutsIn S W r.ca r.cc r.cs
theorem FillW.keeps {S : Nat → Prop} {B : Nat} {r : Rds} {most : List Int} {L RP MP YP FP : Nat} {W W' : World} (h : FillW S r most L RP MP YP FP W) (hk : KeepsC S B W W') (h1 : S RP) (h2 : S MP) (h3 : B ≤ YP) (h4 : B ≤ FP) : FillW S r most L RP MP YP FP W' :=
  ⟨hk.blk (.inl h1) h.rods, hk.blk (.inl h2) h.most, hk.blk (.inr h3) h.yield, hk.blk (.inr h4) h.fill, h.row.keeps hk⟩

/-- What stands at a step of fill: what it reads, what was handed over, its own pattern, what it has left alone. -/
structure FA (S : Nat → Prop) (r : Rds) (most : List Int) (L B RP MP YP FP PB : Nat) (J : List (List Int) → World → Prop) (W : World) (pre : List (List Int)) (q : List Int) (X : World) : Prop where
  w : FillW S r most L RP MP YP FP X
  j : J pre X
  pat : Blk X PB (patC q) 105
  k : KeepsC S B W X
theorem FA.after {S : Nat → Prop} {r : Rds} {most : List Int} {L B RP MP YP FP PB : Nat} {J : List (List Int) → World → Prop} {W : World} {pre : List (List Int)} {q : List Int} {X Y : World} (h : FA S r most L B RP MP YP FP PB J W pre q X)
    (hJ : ∀ pre X Y, J pre X → Below B X Y → J pre Y) (hc : (∀ k, S k → k < B) ∧ S RP ∧ S MP ∧ B ≤ YP ∧ B ≤ FP ∧ B ≤ W.heap.size) (hb : Below X.heap.size X Y) : FA S r most L B RP MP YP FP PB J W pre q Y :=
  have hB : B ≤ X.heap.size := Nat.le_trans hc.2.2.2.2.2 h.k.size
  have hk : KeepsC S B X Y := KeepsC.of_below (fun k e => Nat.lt_of_lt_of_le (hc.1 k e) hB) hb
  ⟨h.w.keeps hk hc.2.1 hc.2.2.1 hc.2.2.2.1 hc.2.2.2.2.1, hJ _ _ _ h.j (hb.mono hB), h.pat.belowS hb, h.k.trans hk⟩
/-- The pattern is written anew: it lies above what the others see. -/
theorem FA.set {S : Nat → Prop} {r : Rds} {most : List Int} {L B RP MP YP FP PB : Nat} {J : List (List Int) → World → Prop} {W : World} {pre : List (List Int)} {q : List Int} {X : World} (h : FA S r most L B RP MP YP FP PB J W pre q X)
    (hJ : ∀ pre X Y, J pre X → Below B X Y → J pre Y) (hc : (∀ k, S k → k < B) ∧ S RP ∧ S MP ∧ B ≤ YP ∧ B ≤ FP ∧ B ≤ W.heap.size) (hP : W.heap.size ≤ PB) (hYl : YP < W.heap.size) (hFl : FP < W.heap.size) (hq : q.length = 8) {c : Nat} (hc8 : c < 8) (v : Int) :
    FA S r most L B RP MP YP FP PB J W pre (q.set c v) (X.setCell ⟨PB, c, none⟩ (.int .i64 v)) := by
  have hB : B ≤ PB := Nat.le_trans hc.2.2.2.2.2 hP
  have hb : Below B X (X.setCell ⟨PB, c, none⟩ (.int .i64 v)) := (Below.refl B X).setCell hB _
  have hbW : Below W.heap.size X (X.setCell ⟨PB, c, none⟩ (.int .i64 v)) := (Below.refl _ X).setCell hP _
  have hs : ∀ k, S k → k < B := hc.1
  refine ⟨⟨h.w.rods.below hb (hs _ hc.2.1), h.w.most.below hb (hs _ hc.2.2.1), h.w.yield.below hbW hYl, h.w.fill.below hbW hFl, ?_⟩, hJ _ _ _ h.j hb, ?_, ?_⟩
  · rcases h.w.row with e | ⟨b, off, e, hl, hlt, hc1, hc2, hp⟩
    · exact .inl e
    · refine .inr ⟨b, off, e, hl, Nat.lt_of_lt_of_le hlt hb.size, hc1, hc2, fun j x hj => ?_⟩
      obtain ⟨h0, h1⟩ := hp j x hj
      exact ⟨(hb.cell (p := ⟨b, _, none⟩) (hs _ hl)).trans h0, (hb.cell (p := ⟨b, _, none⟩) (hs _ hl)).trans h1⟩
  · have := h.pat.set c (.int .i64 v)
    rwa [patC_set _ _ _ hq hc8] at this
  · refine ⟨Nat.le_trans h.k.size hb.size, fun k hk => (hb.block k (hs k hk)).trans (h.k.same k hk), fun k cs t hk hbk => ?_⟩
    exact (h.k.own k cs t hk hbk).below hbW hbk.lt
theorem FA.round {S : Nat → Prop} {r : Rds} {most : List Int} {L B RP MP YP FP PB : Nat} {J : List (List Int) → World → Prop} {W : World} {pre pre' : List (List Int)} {q : List Int} {X Y : World} (h : FA S r most L B RP MP YP FP PB J W pre q X)
    (hc : (∀ k, S k → k < B) ∧ S RP ∧ S MP ∧ B ≤ YP ∧ B ≤ FP ∧ B ≤ W.heap.size) (hP : W.heap.size ≤ PB) (hj : J pre' Y) (hk : KeepsC S B X Y) : FA S r most L B RP MP YP FP PB J W pre' q Y :=
  ⟨h.w.keeps hk hc.2.1 hc.2.2.1 hc.2.2.2.1 hc.2.2.2.2.1, hj, hk.blk (.inr (Nat.le_trans hc.2.2.2.2.2 hP)) h.pat, h.k.trans hk⟩

set_option maxRecDepth 100000 in
set_option maxHeartbeats 8000000 in
theorem fill_in (L B RP MP YP FP : Nat) (S : Nat → Prop) (r : Rds) (hr : r.ok) (most : List Int) (hm : patB most) (hS : ∀ k, S k → k < B) (hRP : S RP) (hMP : S MP) (hYP : B ≤ YP) (hFP : B ≤ FP) (all : List (List Int)) (J Jx : List (List Int) → World → Prop) (Jp : List PanicEntry → World → Prop)
    (hY : ∀ pre x W, pre ++ [x] <+: all → J pre W → YieldAt Fence.wide 7 Try.prog L (encQ x) W fun e W' =>
      (e = .returned (.bool true) ∧ J (pre ++ [x]) W' ∧ KeepsC S B W W') ∨ (e = .returned (.bool false) ∧ Jx (pre ++ [x]) W') ∨ (∃ ch, e = .panicked ch ∧ Jp ch W'))
    (hJ : ∀ pre X Y, J pre X → Below B X Y → J pre Y) (hJx : ∀ pre X Y, Jx pre X → Below B X Y → Jx pre Y) :
    ∀ (l : List Cut) (c : Nat) (p : List Int) (room : Int) (pre : List (List Int)) (W : World), r.cs.drop c = l → c + l.length = r.cs.length → p.length = 8 → 0 ≤ room → room ≤ 200000 → B ≤ W.heap.size → FillW S r most L RP MP YP FP W →
      pre ++ lv r.kerf most l c p room <+: all → J pre W →
      Calls Try.prog 106 #[.agg (patC p), .int .i64 c, .int .i64 room, .pointer (some ⟨RP, 0, none⟩), .pointer (some ⟨YP, 0, none⟩), .pointer (some ⟨MP, 0, none⟩), .pointer (some ⟨FP, 0, none⟩)] W fun e W' =>
        (e = .returned (.bool true) ∧ J (pre ++ lv r.kerf most l c p room) W' ∧ KeepsC S B W W') ∨ (e = .returned (.bool false) ∧ ∃ pr, pr <+: all ∧ Jx pr W') ∨ (∃ ch, e = .panicked ch ∧ Jp ch W')
  | [], c, p, room, pre, W => by
    intro hd hc hp8 hr0 hr1 hBW hF hpre hj
    have hcl : (c : Int) = (r.cs.length : Int) := by simp at hc; omega
    have k1 := Blk.new W 105 (patC p)
    have hb1 : Below B W (W.alloc (.cells (patC p) 105)) := (Below.refl _ W).alloc hBW _
    have hb2 : Below W.heap.size W (W.alloc (.cells (patC p) 105)) := (Below.refl _ W).alloc (Nat.le_refl _) _
    have hk1 : KeepsC S B W (W.alloc (.cells (patC p) 105)) := KeepsC.of_below (fun k h => Nat.lt_of_lt_of_le (hS k h) hBW) hb2
    have HF := Lib.hid (hF.keeps hk1 hRP hMP hYP hFP)
    have HJ1 := Lib.hid (hJ _ _ _ hj hb1)
    have HK1 := Lib.hid (And.intro k1 hk1)
    clear hF hj hb1 hb2 hk1 k1
    have HY := Lib.hid hY
    clear hY hJ
    unfold patC at HF HJ1 HK1 ⊢
    go_enter Try.func106, Try.ntmps106
    go_upto_region 1 with fail
    generalize W.alloc _ = w1 at *
    obtain ⟨r0, r1, r2⟩ := rds_cells (r := r) HF.out.rods
    have rl := HF.out.rods.lt
    have y0 : w1.cell? ⟨YP, 0, none⟩ = some (.func (.yield L) #[] #[]) := HF.out.yield.cell 0
    have yl := HF.out.yield.lt
    obtain ⟨x0, x1, x2, x3, x4, x5, x6, x7⟩ := pat_cells HK1.out.1
    have pl := HK1.out.1.lt
    obtain ⟨fn, tmps, assign, body, hy, hRd⟩ := HY.out pre p w1 hpre HJ1.out
    simp only [encQ, patC] at hy
    go_upto_region 2 with fail
    refine (wpIn_wide (n := 9)).1 ?_
    gi_wp2_with fail
    refine (roundIn_any hRd).mono ?_
    rintro e W3 (⟨rfl, hJ3, hk3⟩ | ⟨rfl, hJx3⟩ | ⟨ch, rfl, hp⟩)
    · gi_wp2
      go_wp2
      go_ret
      exact .inl ⟨rfl, hJ3, HK1.out.2.trans hk3⟩
    · gi_wp2
      go_wp2
      go_ret
      exact .inr (.inl ⟨rfl, _, hpre, hJx3⟩)
    · exact ⟨rfl, .inr (.inr ⟨ch, rfl, hp⟩)⟩
  | x :: xs, c, p, room, pre, W => by
    intro hd hc hp8 hr0 hr1 hBW hF hpre hj
    have IH := fill_in L B RP MP YP FP S r hr most hm hS hRP hMP hYP hFP all J Jx Jp hY hJ hJx xs
    have hl8 := hr.len
    simp only [List.length_cons] at hc
    have hlt : c < r.cs.length := by omega
    have hqx : r.cs[c]? = some x := by
      have := congrArg (fun l => l[0]?) hd
      simpa using this
    have hdx : r.cs.drop (c + 1) = xs := by
      have := congrArg List.tail hd
      simpa using this
    obtain ⟨⟨hx1, hx2⟩, hx3, hx4⟩ := hr.cuts x (List.mem_of_getElem? hqx)
    have hst := hr.stock
    obtain ⟨hkf1, hkf2⟩ := hr.kerf
    obtain ⟨hst1, hst2⟩ := hr.stock
    have hC : (∀ k, S k → k < B) ∧ S RP ∧ S MP ∧ B ≤ YP ∧ B ≤ FP ∧ B ≤ W.heap.size := ⟨hS, hRP, hMP, hYP, hFP, hBW⟩
    have hYl := hF.yield.lt
    have hFl := hF.fill.lt
    have hb2 : Below W.heap.size W (W.alloc (.cells (patC p) 105)) := (Below.refl _ W).alloc (Nat.le_refl _) _
    have hk1 : KeepsC S B W (W.alloc (.cells (patC p) 105)) := KeepsC.of_below (fun k h => Nat.lt_of_lt_of_le (hS k h) hBW) hb2
    have hA : FA S r most L B RP MP YP FP W.heap.size J W pre p (W.alloc (.cells (patC p) 105)) := ⟨hF.keeps hk1 hRP hMP hYP hFP, hJ _ _ _ hj (hb2.mono hBW), Blk.new W 105 (patC p), hk1⟩
    clear hF hj hb2 hk1 hRP hMP hYP hFP hS hBW
    have HA := Lib.hid hA
    have HC := Lib.hid hC
    have HIH := Lib.hid IH
    have HPRE := Lib.hid hpre
    have HJB := Lib.hid hJ
    have HM := Lib.hid hm
    have HH := Lib.hid (And.intro hdx hqx)
    clear hY hJ hJx IH hpre hm hd hdx hqx hA hC
    unfold patC at HA ⊢
    go_enter Try.func106, Try.ntmps106
    go_upto_region 1 with fail
    generalize W.alloc _ = w1 at *
    obtain ⟨r0, r1, r2⟩ := rds_cells (r := r) HA.out.w.rods
    have rl := HA.out.w.rods.lt
    rcases HA.out.w.row with h | ⟨b, off, e, hb, hbl, hc1, hc2, hp⟩
    · rw [h] at hlt
      simp at hlt
    obtain ⟨c0, c1⟩ := hp c x HH.out.2
    have hci0 : (0 : Int) ≤ (c : Int) := Int.natCast_nonneg _
    have hci1 : (c : Int) < (r.cs.length : Int) := by omega
    have hci8 : (c : Int) < 8 := by omega
    clear hp
    rw [e] at r2
    go_upto_region 3 with fail
    obtain ⟨u1, u2⟩ := HM.out c
    go_region
    have hA2 := HA.out.after HJB.out HC.out ((Below.refl _ w1).drew)
    obtain ⟨sz, hsz⟩ : ∃ sz, x.ln + r.kerf = sz := ⟨_, rfl⟩
    have hs1 : 1 ≤ sz := by omega
    have hs2 : sz ≤ 200000 := by omega
    have htd : room.tdiv sz = room / sz := Int.tdiv_eq_ediv_of_nonneg hr0
    have hq0 : 0 ≤ room / sz := Int.ediv_nonneg hr0 (by omega)
    have hq1 : room / sz ≤ 200000 := by
      have := Int.ediv_le_self sz hr0
      omega
    have htb := topN_bd u1 hr0 (show 0 < sz by omega)
    rw [hsz]
    clear r0 r1 r2 rl c0 c1 hbl HA
    generalize w1.drew = w2 at *
    clear w1
    have HA := Lib.hid hA2
    clear hA2
    have m0 := pat_at HA.out.w.most (i := c) (by omega)
    have ml := HA.out.w.most.lt
    obtain ⟨u, hu⟩ : ∃ u, ent most c = u := ⟨_, rfl⟩
    rw [hu] at m0 u1 u2 htb
    go_upto_region 4 with fail
    go_region
    have hA2 := HA.out.after HJB.out HC.out ((Below.refl _ w2).drew)
    rw [show (if room / sz < u then room / sz else u) = topN u room sz from rfl]
    obtain ⟨T, hT⟩ : ∃ T : Nat, topN u room sz = T := ⟨_, (Int.toNat_of_nonneg htb.1).symm⟩
    rw [hT] at htb ⊢
    obtain ⟨f, hf⟩ : ∃ f : Nat → List (List Int), f = fun (n : Nat) => lv r.kerf most xs (c + 1) (p.set c (n : Int)) (room - (n : Int) * sz) := ⟨_, rfl⟩
    have hlv : lv r.kerf most (x :: xs) c p room = down f (T + 1) := by
      rw [hf]
      simp only [lv, hsz, hu, hT, Int.toNat_natCast]
    clear m0 ml HA htd hq0 hq1 hT
    generalize w2.drew = w3 at *
    clear w2
    obtain ⟨t1, t2, t3⟩ := htb
    have HA := Lib.hid hA2
    clear hA2
    have HLV := Lib.hid (And.intro hf hlv)
    clear hf hlv
    have hcb : ((c : Int) == (r.cs.length : Int)) = false := by simp; omega
    rw [hcb]
    clear hcb
    go_wp2_with fail
    go_loopw [12] (fun i wr => ∃ k : Nat, k ≤ T + 1 ∧ i = .int .i64 ((k : Int) - 1) ∧ ∃ dn q, dn ++ down f k = pre ++ down f (T + 1) ∧ q.length = 8 ∧ (∀ v, q.set c v = p.set c v) ∧ FA S r most L B RP MP YP FP W.heap.size J W dn q wr) (fun i _ => (intOf i + 1).toNat)
    case atStart => exact ⟨T + 1, Nat.le_refl _, by simp, pre, p, rfl, hp8, fun _ => rfl, HA.out⟩
    case round =>
      obtain ⟨k, hk, rfl, dn, q, hdn, hq8, hqs, hA⟩ := hrel
      have HA := Lib.hid hA
      have HQ := Lib.hid (And.intro hdn (And.intro hq8 hqs))
      clear hdn hq8 hqs
      rcases k with _ | k
      · clear hA
        go_wp2_with fail
        go_ret
        refine .inl ⟨rfl, ?_, HA.out.k⟩
        rw [HLV.out.2, ← HQ.out.1]
        simpa [down] using HA.out.j
      · have hci : ((k + 1 : Nat) : Int) - 1 = (k : Int) := by omega
        rw [hci]
        have hk0 : (0 : Int) ≤ (k : Int) := Int.natCast_nonneg _
        have hk1 : (k : Int) ≤ 12 := by omega
        have hkT : (k : Int) * sz ≤ room := by
          refine Int.le_trans ?_ t3
          exact Int.mul_le_mul_of_nonneg_right (by omega) (by omega)
        have hkn : 0 ≤ (k : Int) * sz := Int.mul_nonneg hk0 (by omega)
        have e1 : IntKind.i64.wrap ((k : Int) * sz) = (k : Int) * sz := by rw [IntKind.wrap_i64]; omega
        have e2 : IntKind.i64.wrap (room - (k : Int) * sz) = room - (k : Int) * sz := by rw [IntKind.wrap_i64]; omega
        have p0 := pat_at hA.pat (i := c) (by omega)
        have pf := hA.pat.frozen c
        have pl := hA.pat.lt
        clear hA hci t3
        go_upto_region 8 with fail
        have hA4 := HA.out.set HJB.out HC.out (Nat.le_refl _) hYl hFl HQ.out.2.1 (c := c) (by omega) (k : Int)
        rw [HQ.out.2.2] at hA4
        generalize wr.setCell ⟨W.heap.size, c, none⟩ (.int .i64 k) = w4 at *
        clear p0 pf pl HA
        have HA := Lib.hid hA4
        obtain ⟨x0, x1, x2, x3, x4, x5, x6, x7⟩ := pat_cells hA4.pat
        have pl := hA4.pat.lt
        have f0 : w4.cell? ⟨FP, 0, none⟩ = _ := hA4.w.fill.cell 0
        have fl := hA4.w.fill.lt
        clear hA4
        go_wp2_with fail
        have hfk : f k = lv r.kerf most xs (c + 1) (p.set c (k : Int)) (room - (k : Int) * sz) := by rw [HLV.out.1]
        rw [show ((c : Int) + 1) = ((c + 1 : Nat) : Int) by omega]
        refine (HIH.out (c + 1) (p.set c (k : Int)) (room - (k : Int) * sz) dn w4 HH.out.1 (by omega) (by simp [hp8]) (by omega) (by omega) (Nat.le_trans HC.out.2.2.2.2.2 HA.out.k.size) HA.out.w ?_ HA.out.j).mono ?_
        · rw [← hfk]
          refine List.IsPrefix.trans ?_ HPRE.out
          rw [HLV.out.2, ← HQ.out.1]
          exact ⟨down f k, by simp [down]⟩
        · rintro e W5 (⟨rfl, hJ5, hk5⟩ | ⟨rfl, pr, hpr, hjx⟩ | ⟨ch, rfl, hp⟩)
          · have hA5 := Lib.hid (HA.out.round HC.out (Nat.le_refl _) hJ5 hk5)
            rw [← hfk] at hA5
            clear hJ5 hk5
            go_wp2_with fail
            exact ⟨⟨k, by omega, rfl, dn ++ f k, p.set c (k : Int), by rw [← HQ.out.1]; simp [down], by simp [hp8], fun v => by simp, hA5.out⟩, by simp [intOf]⟩
          · go_wp2_with fail
            go_ret
            exact .inr (.inl ⟨rfl, pr, hpr, hjx⟩)
          · exact ⟨rfl, .inr (.inr ⟨ch, rfl, hp⟩)⟩

/-- All patterns that fit a rod, of no more cuts than those of most. -/
def lvAll (r : Rds) (most : List Int) : List (List Int) := lv r.kerf most r.cs 0 (List.replicate 8 0) (r.stock + r.kerf)

set_option maxRecDepth 100000 in
set_option maxHeartbeats 8000000 in
theorem patterns_seq (n : Nat) (RP MP : Nat) (S : Nat → Prop) (r : Rds) (hr : r.ok) (most : List Int) (hm : patB most) (w : World) (hS : ∀ k, S k → k < w.heap.size) (hRP : S RP) (hMP : S MP)
    (hrods : Blk w RP #[.int .i64 r.stock, .int .i64 r.kerf, .slice r.ca r.cs.length r.cc] 43) (hmost : Blk w MP (patC most) 105) (hrow : CutsIn S w r.ca r.cc r.cs) :
    SeqB n Try.prog 105 #[.pointer (some ⟨RP, 0, none⟩), .pointer (some ⟨MP, 0, none⟩)] encQ (KeepsC S) (fun ys => ys = lvAll r most) (fun pre => pre <+: lvAll r most) (lvAll r most).length w := fun L J Jx Jp W B hB hW hJ hJx hY h0 => by
  have hS' : ∀ k, S k → k < B := fun k hk => Nat.lt_of_lt_of_le (hS k hk) (hB ▸ hW.size)
  have hkW : KeepsC S B w W := ⟨hW.size, fun k hk => hW.block k (hS k hk), fun k cs t hk hb => by
    have := hb.lt
    have := hW.size
    omega⟩
  have FI := fill_in L B RP MP B (B + 1) S r hr most hm hS' hRP hMP (Nat.le_refl _) (by omega) (lvAll r most) J Jx Jp (fun pre x W1 hp hj => yieldAt_any (hY pre x W1 hp hj (by have := hp.length_le; simp at this; omega))) hJ hJx
    r.cs 0 (List.replicate 8 0) (r.stock + r.kerf) []
  subst hB
  obtain ⟨hkf1, hkf2⟩ := hr.kerf
  obtain ⟨hst1, hst2⟩ := hr.stock
  have rl : RP < W.heap.size := hS' _ hRP
  have hb1 := ((Below.refl W.heap.size W).alloc (Nat.le_refl _) (.cells #[.func (.yield L) #[] #[]] 122)).alloc (by simp) (.cells #[.nilFunc] 123)
  have kY := (Blk.new W 122 #[.func (.yield L) #[] #[]]).alloc (.cells #[.nilFunc] 123)
  have kF := Blk.new (W.alloc (.cells #[.func (.yield L) #[] #[]] 122)) 123 #[.nilFunc]
  simp only [World.size_alloc] at kF
  have HFI := Lib.hid FI
  have HJ0 := Lib.hid (And.intro h0 hJ)
  have HRW := Lib.hid (And.intro (hrods.below hW (hS _ hRP)) (And.intro (hmost.below hW (hS _ hMP)) (hrow.keeps hkW)))
  clear FI hY h0 hJ hJx hrods hmost hrow hkW hW
  refine callsIn_wide.2 ?_
  go_enter Try.func105, Try.ntmps105
  go_upto_region 2 with fail
  generalize ((W.alloc (.cells #[.func (.yield L) #[] #[]] 122)).alloc (.cells #[.nilFunc] 123)) = w1 at *
  have n0 : w1.cell? ⟨W.heap.size + 1, 0, none⟩ = some .nilFunc := kF.cell 0
  have nf := kF.frozen 0
  have nl := kF.lt
  go_upto_region 3 with fail
  have hb2 := hb1.setCell (p := ⟨W.heap.size + 1, 0, none⟩) (by simp) (.func (.func 106) #[] #[.pointer (some ⟨RP, 0, none⟩), .pointer (some ⟨W.heap.size, 0, none⟩), .pointer (some ⟨MP, 0, none⟩), .pointer (some ⟨W.heap.size + 1, 0, none⟩)])
  have kY2 := kY.other (B' := W.heap.size + 1) (i := 0) (by omega) (.func (.func 106) #[] #[.pointer (some ⟨RP, 0, none⟩), .pointer (some ⟨W.heap.size, 0, none⟩), .pointer (some ⟨MP, 0, none⟩), .pointer (some ⟨W.heap.size + 1, 0, none⟩)])
  have kF2 := kF.set 0 (.func (.func 106) #[] #[.pointer (some ⟨RP, 0, none⟩), .pointer (some ⟨W.heap.size, 0, none⟩), .pointer (some ⟨MP, 0, none⟩), .pointer (some ⟨W.heap.size + 1, 0, none⟩)])
  simp only [List.setIfInBounds_toArray, List.set_cons_zero] at kF2
  generalize w1.setCell ⟨W.heap.size + 1, 0, none⟩ (.func (.func 106) #[] #[.pointer (some ⟨RP, 0, none⟩), .pointer (some ⟨W.heap.size, 0, none⟩), .pointer (some ⟨MP, 0, none⟩), .pointer (some ⟨W.heap.size + 1, 0, none⟩)]) = w2 at *
  clear n0 nf nl kF kY hb1
  obtain ⟨r0, r1, r2⟩ := rds_cells (r := r) (HRW.out.1.below hb2 rl)
  have HFI2 := Lib.hid (HFI.out w2 rfl (by simp) rfl (by omega) (by omega) hb2.size ⟨HRW.out.1.below hb2 rl, HRW.out.2.1.below hb2 (hS' _ hMP), kY2, kF2, HRW.out.2.2.keeps (B := W.heap.size) (KeepsC.of_below hS' hb2)⟩ (List.prefix_refl _) (HJ0.out.2 _ _ _ HJ0.out.1 hb2))
  have rl2 : RP < w2.heap.size := Nat.lt_of_lt_of_le rl hb2.size
  have f0 : w2.cell? ⟨W.heap.size + 1, 0, none⟩ = some (.func (.func 106) #[] #[.pointer (some ⟨RP, 0, none⟩), .pointer (some ⟨W.heap.size, 0, none⟩), .pointer (some ⟨MP, 0, none⟩), .pointer (some ⟨W.heap.size + 1, 0, none⟩)]) := kF2.cell 0
  have fl := kF2.lt
  clear HFI HRW kF2 kY2
  have e1 : IntKind.i64.wrap (r.stock + r.kerf) = r.stock + r.kerf := by rw [IntKind.wrap_i64]; omega
  go_wp2_with fail
  refine HFI2.out.mono ?_
  rintro e W3 (⟨rfl, hJ3, hk3⟩ | ⟨rfl, pr, hpr, hjx⟩ | ⟨ch, rfl, hp⟩)
  · go_wp2_with fail
    go_end0
    exact .inl ⟨⟨_, rfl⟩, .inl ⟨_, rfl, hJ3⟩⟩
  · go_wp2_with fail
    go_end0
    exact .inl ⟨⟨_, rfl⟩, .inr ⟨pr, hpr, hjx⟩⟩
  · exact ⟨rfl, .inr ⟨ch, rfl, hp⟩⟩

set_option maxRecDepth 100000 in
theorem patterns_any (r : Rds) (q : List Int) (w : World) :
    Calls Try.prog 93 #[.agg #[.int .i64 r.stock, .int .i64 r.kerf, .slice r.ca r.cs.length r.cc], .agg (patC q)] w fun e w' =>
      e = .returned (.func (.func 105) #[] #[.pointer (some ⟨w.heap.size, 0, none⟩), .pointer (some ⟨w.heap.size + 1, 0, none⟩)]) ∧
        w' = (w.alloc (.cells #[.int .i64 r.stock, .int .i64 r.kerf, .slice r.ca r.cs.length r.cc] 43)).alloc (.cells (patC q) 105) := by
  unfold patC
  go_enter Try.func93, Try.ntmps93
  go_wp2
  go_ret
  exact ⟨by simp, rfl⟩
end Go.Proofs.Ytmcmhgjlpffcnaa
