/- What a season leaves: spans that are lessened, skins that are alike; rows of one's own as rows of a skin; a skin's rows where only other blocks have turned. No condition. -/
import Derived.Test.YtoigihmgjacbjaaDoorVE
import Derived.Test.YtoigihmgjacbjaaDoorVA
set_option linter.unusedSimpArgs false
namespace Go.Proofs.YtoigihmgjacbjaaDoor
open Go.RowKit

/-! ### Rows of one's own as rows of a skin -/
/-- No row of a skin lies below a block. -/
def Fresh (base : Nat) (R : Skn) : Prop := ∀ a : Addr, R.pa = some a ∨ R.ha = some a ∨ R.ma = some a → base ≤ a.block
def FromB (base : Nat) (a : Option Addr) : Prop := ∀ x, a = some x → base ≤ x.block
theorem Fresh.mk3 {base : Nat} {R : Skn} (h1 : FromB base R.pa) (h2 : FromB base R.ha) (h3 : FromB base R.ma) : Fresh base R := fun a h => by
  rcases h with h | h | h
  · exact h1 a h
  · exact h2 a h
  · exact h3 a h
theorem FromB.mono {b c : Nat} {a : Option Addr} (h : FromB b a) (hc : c ≤ b) : FromB c a := fun x hx => Nat.le_trans hc (h x hx)
theorem Fresh.mono {b c : Nat} {R : Skn} (h : Fresh b R) (hc : c ≤ b) : Fresh c R := fun x hx => Nat.le_trans hc (h x hx)
theorem pts_own {w : World} {base : Nat} {a : Option Addr} {c : Nat} {l : List Pnt} (h : w.ownsRow base 45 2 (.slice a l.length c) l.length (l.flatMap pntL)) : IsPts w (.slice a l.length c) l ∧ FromB base a := by
  rcases row_at pntL 2 (fun _ => rfl) h with ⟨e, h0⟩ | ⟨g, cap, e, hb, hlt, hc, hcx, hall⟩
  · subst h0
    obtain ⟨rfl, _, rfl⟩ := slice_inj e
    exact ⟨.inl ⟨⟨_, _, rfl⟩, rfl⟩, fun x hx => by cases hx⟩
  · obtain ⟨rfl, _, rfl⟩ := slice_inj e
    refine ⟨.inr ⟨g, 0, c, rfl, hlt, hc, hcx, fun j p hj => ⟨?_, ?_⟩⟩, fun x hx => by obtain rfl := Option.some.inj hx; exact hb⟩
    · have := hall j p hj 0 (by omega)
      simpa [pntL] using this
    · have := hall j p hj 1 (by omega)
      simpa [pntL] using this
theorem hol_own {w : World} {base : Nat} {a : Option Addr} {c : Nat} {l : List Hol} (h : w.ownsRow base 64 4 (.slice a l.length c) l.length (l.flatMap holL)) : IsRow4 holC w a c l ∧ FromB base a := by
  rcases row_at holL 4 (fun _ => rfl) h with ⟨e, h0⟩ | ⟨g, cap, e, hb, hlt, hc, hcx, hall⟩
  · subst h0
    obtain ⟨rfl, _, rfl⟩ := slice_inj e
    exact ⟨.inl rfl, fun x hx => by cases hx⟩
  · obtain ⟨rfl, _, rfl⟩ := slice_inj e
    refine ⟨.inr ⟨g, 0, rfl, hlt, hc, hcx, fun j x hj i hi => ?_⟩, fun x hx => by obtain rfl := Option.some.inj hx; exact hb⟩
    have := hall j x hj i hi
    rw [Nat.zero_add, this]
    simp [holL, holC]
theorem mrk_own {w : World} {base : Nat} {a : Option Addr} {c : Nat} {l : List Mrk} (h : w.ownsRow base 61 4 (.slice a l.length c) l.length (l.flatMap mrkL)) : IsRow4 mrkC w a c l ∧ FromB base a := by
  rcases row_at mrkL 4 (fun _ => rfl) h with ⟨e, h0⟩ | ⟨g, cap, e, hb, hlt, hc, hcx, hall⟩
  · subst h0
    obtain ⟨rfl, _, rfl⟩ := slice_inj e
    exact ⟨.inl rfl, fun x hx => by cases hx⟩
  · obtain ⟨rfl, _, rfl⟩ := slice_inj e
    refine ⟨.inr ⟨g, 0, rfl, hlt, hc, hcx, fun j x hj i hi => ?_⟩, fun x hx => by obtain rfl := Option.some.inj hx; exact hb⟩
    have := hall j x hj i hi
    rw [Nat.zero_add, this]
    simp [mrkL, mrkC]

/-! ### Rows where other blocks have turned -/
theorem cell_kept {w w' : World} {b : Nat} (hb : w'.heap[b]? = w.heap[b]?) (o : Nat) : w'.cell? ⟨b, o, none⟩ = w.cell? ⟨b, o, none⟩ := World.cell?_of_block (w := w) (a := ⟨b, o, none⟩) hb
theorem IsPts.turn {X : Nat → Prop} {w w' : World} {a : Option Addr} {c : Nat} {l : List Pnt} (h : IsPts w (.slice a l.length c) l) (ht : Turn X w w') (hx : ∀ x, a = some x → ¬ X x.block) : IsPts w' (.slice a l.length c) l := by
  rcases h with h | ⟨b, off, cap, e, h1, h2, h3, h4⟩
  · exact .inl h
  · obtain ⟨rfl, _, rfl⟩ := slice_inj e
    have hb := ht.block b h1 (hx _ rfl)
    exact .inr ⟨b, off, c, rfl, Nat.lt_of_lt_of_le h1 ht.size, h2, h3, fun j p hj => ⟨(cell_kept hb _).trans (h4 j p hj).1, (cell_kept hb _).trans (h4 j p hj).2⟩⟩
theorem IsRow4.turn {α : Type} {cs : α → Array Value} {X : Nat → Prop} {w w' : World} {a : Option Addr} {c : Nat} {l : List α} (h : IsRow4 cs w a c l) (ht : Turn X w w') (hx : ∀ x, a = some x → ¬ X x.block) : IsRow4 cs w' a c l := by
  rcases h with h | ⟨b, off, rfl, h1, h2, h3, h4⟩
  · exact .inl h
  · have hb := ht.block b h1 (hx _ rfl)
    exact .inr ⟨b, off, rfl, Nat.lt_of_lt_of_le h1 ht.size, h2, h3, fun j x hj i hi => (cell_kept hb _).trans (h4 j x hj i hi)⟩
theorem IsSkn.turn {X : Nat → Prop} {w w' : World} {R : Skn} (h : IsSkn w R) (ht : Turn X w w') (hx : ∀ a : Addr, R.pa = some a ∨ R.ha = some a ∨ R.ma = some a → ¬ X a.block) : IsSkn w' R :=
  ⟨h.pts.turn ht fun x e => hx x (.inl e), h.hs.turn ht fun x e => hx x (.inr (.inl e)), h.ms.turn ht fun x e => hx x (.inr (.inr e))⟩
/-- Rows that lie from a block on, where only blocks below it have turned. -/
theorem IsSkn.turnF {X : Nat → Prop} {w w' : World} {R : Skn} {base : Nat} (h : IsSkn w R) (hf : Fresh base R) (ht : Turn X w w') (hx : ∀ k, X k → k < base) : IsSkn w' R :=
  h.turn ht fun a ha hX => by have := hf a ha; have := hx _ hX; omega
def zeroSkn : Skn := ⟨none, 0, [], none, 0, [], 0, ⟨0, 0⟩, none, 0, []⟩
theorem zero_is (w : World) : IsSkn w zeroSkn := ⟨.inl ⟨⟨_, _, rfl⟩, rfl⟩, .inl rfl, .inl rfl⟩
theorem zero_fresh (base : Nat) : Fresh base zeroSkn := fun a h => by rcases h with h | h | h <;> cases h

/-! ### Skins that are alike; what a season leaves -/
structure Alike (S R : Skn) : Prop where
  pts : R.pts = S.pts
  hs : R.hs = S.hs
  steep : R.steep = S.steep
  th : R.th = S.th
  ms : R.ms = S.ms
theorem Alike.refl (S : Skn) : Alike S S := ⟨rfl, rfl, rfl, rfl, rfl⟩
theorem Alike.symm {S R : Skn} (h : Alike S R) : Alike R S := ⟨h.pts.symm, h.hs.symm, h.steep.symm, h.th.symm, h.ms.symm⟩
theorem Alike.trans {S R T : Skn} (h : Alike S R) (k : Alike R T) : Alike S T := ⟨k.pts.trans h.pts, k.hs.trans h.hs, k.steep.trans h.steep, k.th.trans h.th, k.ms.trans h.ms⟩
theorem Alike.bound {S R : Skn} (h : Alike S R) (p : Pnt) : boundM R p = boundM S p := by unfold boundM; rw [h.steep, h.th, h.ms]
theorem Alike.thickE {S R : Skn} (h : Alike S R) : thickE R = thickE S := by
  unfold Go.Proofs.YtoigihmgjacbjaaDoor.thickE
  rw [h.ms]
  simp only [h.bound]
theorem Alike.skinE {S R : Skn} (h : Alike S R) : skinE R = skinE S := by
  have h1 := h.thickE
  unfold Go.Proofs.YtoigihmgjacbjaaDoor.skinE
  rw [h1]
  have e : ordB R.ms = ordB S.ms := by rw [h.ms]
  rw [e, h.pts, h.hs, h.steep, h.th, h.ms]
theorem Alike.pointE {S R : Skn} (h : Alike S R) (p : Pnt) : pointE R p = pointE S p := by
  have h1 := h.skinE
  unfold Go.Proofs.YtoigihmgjacbjaaDoor.pointE
  rw [h1, h.pts, h.hs]

def lessS (s t : Spn) : Spn := ⟨max 0 (s.lo - t.hi), max 0 (s.hi - t.lo)⟩
def lessK (t : Spn) (m : Mrk) : Mrk := ⟨m.at_, lessS m.th t⟩
structure Behind (t : Spn) (g : Int) (S R : Skn) : Prop where
  pts : R.pts = S.pts
  hs : R.hs = S.hs
  steep : R.steep = S.steep + g
  th : R.th = lessS S.th t
  ms : R.ms = S.ms.map (lessK t)
/-- The first error of a season. -/
def seasonE (S : Skn) (t : Spn) (g : Int) : Int := if ¬ skinE S = 0 then skinE S else if (isSpanB t 0 2000 && isFromB g 0 1000) = false then 1 else if 1000 < S.steep + g then 3 else 0
theorem seasonE_ok {S : Skn} {t : Spn} {g : Int} (h : seasonE S t g = 0) : skinE S = 0 ∧ isSpanB t 0 2000 = true ∧ (0 ≤ g ∧ g ≤ 1000) ∧ S.steep + g ≤ 1000 := by
  unfold seasonE at h
  split at h
  · rename_i h1
    exact absurd h h1
  rename_i h1
  split at h
  · omega
  rename_i h2
  split at h
  · omega
  rename_i h3
  have h2' : (isSpanB t 0 2000 && isFromB g 0 1000) = true := by simpa using h2
  rw [Bool.and_eq_true] at h2'
  exact ⟨by simpa using h1, h2'.1, by simpa [isFromB] using h2'.2, by omega⟩
theorem seasonE_mk {S : Skn} {t : Spn} {g : Int} (h1 : skinE S = 0) (h2 : isSpanB t 0 2000 = true) (h3 : 0 ≤ g ∧ g ≤ 1000) (h4 : S.steep + g ≤ 1000) : seasonE S t g = 0 := by
  unfold seasonE
  rw [if_neg (by rw [h1]; decide), if_neg (by rw [h2]; simp [isFromB]; omega), if_neg (by omega)]
theorem Alike.seasonE {S R : Skn} (h : Alike S R) (t : Spn) (g : Int) : seasonE R t g = seasonE S t g := by
  have h1 := h.skinE
  unfold Go.Proofs.YtoigihmgjacbjaaDoor.seasonE
  rw [h1, h.steep]
theorem less_span {s t : Spn} (hs : isSpanB s 0 2000 = true) (ht : isSpanB t 0 2000 = true) : isSpanB (lessS s t) 0 2000 = true := by
  rw [isSpanB_iff] at *
  simp only [lessS]
  omega
theorem less_zero {s : Spn} (hs : isSpanB s 0 2000 = true) : lessS s ⟨0, 0⟩ = s := by
  rw [isSpanB_iff] at hs
  obtain ⟨a, b⟩ := s
  simp only [lessS, Spn.mk.injEq] at *
  omega
theorem less_twice (s : Spn) (x : Spn) {y : Spn} (hy : isSpanB y 0 2000 = true) : lessS (lessS s x) y = lessS s ⟨x.lo + y.lo, x.hi + y.hi⟩ := by
  rw [isSpanB_iff] at hy
  simp only [lessS, Spn.mk.injEq]
  omega
theorem behind_zero {S R : Skn} (h : Behind ⟨0, 0⟩ 0 S R) (hS : skinE S = 0) : Alike S R := by
  have g := skinE_ok hS
  refine ⟨h.pts, h.hs, by rw [h.steep]; omega, by rw [h.th, less_zero g.th], ?_⟩
  rw [h.ms]
  refine (List.map_congr_left fun m hm => ?_).trans (List.map_id _)
  obtain ⟨a, b⟩ := m
  have := ((g.marks _ hm).1).2
  simp only [lessK, id]
  rw [less_zero this]
theorem behind_twice {S A A2 B : Skn} {x y : Spn} {gx gy : Int} (hy : isSpanB y 0 2000 = true) (h1 : Behind x gx S A) (h2 : Behind y gy A A2) (h3 : Behind ⟨x.lo + y.lo, x.hi + y.hi⟩ (gx + gy) S B) : Alike A2 B := by
  refine ⟨by rw [h3.pts, h2.pts, h1.pts], by rw [h3.hs, h2.hs, h1.hs], by rw [h3.steep, h2.steep, h1.steep]; omega, by rw [h3.th, h2.th, h1.th, less_twice _ _ hy], ?_⟩
  rw [h3.ms, h2.ms, h1.ms, List.map_map]
  refine List.map_congr_left fun m _ => ?_
  simp only [Function.comp, lessK]
  rw [less_twice _ _ hy]
end Go.Proofs.YtoigihmgjacbjaaDoor
