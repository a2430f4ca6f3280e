/- Mathematics of what is true: thicknesses that hills make; a skin that says what is true may be, and says so behind probes and seasons. No condition. -/
import Derived.Test.YtoigihmgjacbjaaDoorVN
set_option linter.unusedSimpArgs false
namespace Go.Proofs.YtoigihmgjacbjaaDoor
open Go.RowKit

structure Hil where
  at_ : Pnt
  hi : Int
def hillStep (th : Spn) (st : Int) (p : Pnt) (n : Int) (h : Hil) : Int := min n (max th.lo (h.hi % 2001) + st * distM p h.at_)
def hillFold (th : Spn) (st : Int) (p : Pnt) (hs : List Hil) : Int := hs.foldl (hillStep th st p) th.hi
/-- How thick a point truly is at first. -/
def thickH (th : Spn) (st : Int) (hs : List Hil) (p : Pnt) : Int := max (hillFold th st p hs) th.lo
theorem fold_le (th : Spn) (st : Int) (p : Pnt) : ∀ (hs : List Hil) (n : Int), hs.foldl (hillStep th st p) n ≤ n
  | [], n => Int.le_refl _
  | h :: t, n => by
    have := fold_le th st p t (hillStep th st p n h)
    have h2 : hillStep th st p n h ≤ n := by unfold hillStep; omega
    simp only [List.foldl_cons]
    omega
theorem fold_lip (th : Spn) {st : Int} (h0 : 0 ≤ st) (p q : Pnt) : ∀ (hs : List Hil) (a b : Int), a ≤ b + st * distM p q → hs.foldl (hillStep th st p) a ≤ hs.foldl (hillStep th st q) b + st * distM p q
  | [], a, b, h => h
  | x :: t, a, b, h => by
    simp only [List.foldl_cons]
    refine fold_lip th h0 p q t _ _ ?_
    have h1 := st_tri h0 p q x.at_
    unfold hillStep
    omega
theorem thick_range {th : Spn} (h : th.lo ≤ th.hi) (st : Int) (hs : List Hil) (p : Pnt) : th.lo ≤ thickH th st hs p ∧ thickH th st hs p ≤ th.hi := by
  have := fold_le th st p hs th.hi
  unfold thickH hillFold
  omega
theorem thick_lip (th : Spn) {st : Int} (h0 : 0 ≤ st) (hs : List Hil) (p q : Pnt) : thickH th st hs p - thickH th st hs q ≤ st * distM p q := by
  have hd := Int.mul_nonneg h0 (dist_pos p q)
  have := fold_lip th h0 p q hs th.hi th.hi (by omega)
  unfold thickH hillFold
  omega
/-- How thick a point truly is when so much is gone. -/
def realF (th : Spn) (st : Int) (hs : List Hil) (gone : Int) (p : Pnt) : Int := max 0 (thickH th st hs p - gone)
def Lip (st : Int) (f : Pnt → Int) : Prop := ∀ p q, f p - f q ≤ st * distM p q
theorem real_lip (th : Spn) {st : Int} (h0 : 0 ≤ st) (hs : List Hil) (g : Int) : Lip st (realF th st hs g) := fun p q => by
  have := thick_lip th h0 hs p q
  have := Int.mul_nonneg h0 (dist_pos p q)
  unfold realF
  omega
/-- A skin that says what is true. -/
structure TInv (S : Skn) (f : Pnt → Int) (R : Skn) : Prop where
  pts : R.pts = S.pts
  hs : R.hs = S.hs
  steep : R.steep = S.steep
  few : R.ms.length ≤ 40
  ord : ordB R.ms = true
  mks : ∀ m ∈ R.ms, (mrkOk m ∧ inAreaM S.pts S.hs m.at_ = true) ∧ m.th.lo ≤ f m.at_ ∧ f m.at_ ≤ m.th.hi
  th : isSpanB R.th 0 2000 = true
  in_ : ∀ p, R.th.lo ≤ f p ∧ f p ≤ R.th.hi
theorem true_bound {st : Int} {th : Spn} {ms : List Mrk} {f : Pnt → Int} (hl : Lip st f) (h1 : ∀ m ∈ ms, m.th.lo ≤ f m.at_ ∧ f m.at_ ≤ m.th.hi) (h2 : ∀ p, th.lo ≤ f p ∧ f p ≤ th.hi) (p : Pnt) : loF st p th.lo ms ≤ f p ∧ f p ≤ hiF st p th.hi ms := by
  refine ⟨(loF_le st p _ ms th.lo).2 ⟨(h2 p).1, fun m hm => ?_⟩, (le_hiF st p _ ms th.hi).2 ⟨(h2 p).2, fun m hm => ?_⟩⟩
  · have k1 := (h1 m hm).1
    have k2 := hl m.at_ p
    omega
  · have k1 := (h1 m hm).2
    have k2 := hl p m.at_
    rw [dist_comm p m.at_] at k2
    omega
theorem true_thick {S : Skn} {f : Pnt → Int} (hl : Lip S.steep f) (h1 : ∀ m ∈ S.ms, m.th.lo ≤ f m.at_ ∧ f m.at_ ≤ m.th.hi) (h2 : ∀ p, S.th.lo ≤ f p ∧ f p ≤ S.th.hi) : thickE S = 0 := by
  refine thickE_ok fun m _ hn => ?_
  have hb := true_bound hl h1 h2 m.at_
  have hth : S.th.lo ≤ S.th.hi := by have := h2 m.at_; omega
  rcases bound_is S.steep m.at_ S.ms S.th hth with ⟨_, h4⟩ | ⟨h3, h4⟩
  · omega
  · have e : boundM S m.at_ = boundF S.steep S.th m.at_ S.ms := rfl
    rw [e, h3] at hn
    simp only [nothingS, Spn.mk.injEq] at hn
    omega
theorem tinv_good {S R : Skn} {f : Pnt → Int} (hS : skinE S = 0) (hl : Lip S.steep f) (h : TInv S f R) : skinE R = 0 := by
  have g := skinE_ok hS
  refine skinE_mk (by rw [h.pts, h.hs]; exact g.area) (by rw [h.steep]; exact g.steep) h.th h.few (fun m hm => ?_) h.ord (true_thick (by rw [h.steep]; exact hl) (fun m hm => (h.mks m hm).2) h.in_)
  have := h.mks m hm
  rw [h.pts, h.hs]
  exact ⟨this.1.2, this.1.1.2⟩
theorem tinv_bounds {S R : Skn} {f : Pnt → Int} (hS : skinE S = 0) (hl : Lip S.steep f) (h : TInv S f R) (p : Pnt) : (boundM R p).lo ≤ f p ∧ f p ≤ (boundM R p).hi := by
  have hg := skinE_ok (tinv_good hS hl h)
  rw [(bound_good hg p).1]
  exact true_bound (by rw [h.steep]; exact hl) (fun m hm => (h.mks m hm).2) h.in_ p
theorem com_has {a b : Spn} {y : Int} (ha : a.lo ≤ y ∧ y ≤ a.hi) (hb : b.lo ≤ y ∧ y ≤ b.hi) : comM a b = ⟨max a.lo b.lo, min a.hi b.hi⟩ := by
  unfold comM
  rw [if_neg (by omega)]
/-- Behind a probe that is wrong by no more than it may be all is true still. -/
theorem tinv_probe {S R : Skn} {f : Pnt → Int} {p : Pnt} {r n : Int} (hS : skinE S = 0) (hl : Lip S.steep f) (h : TInv S f R) (hr : 0 ≤ r ∧ r ≤ 2000) (hn : 0 ≤ n ∧ n ≤ 2000) (h1 : r - n ≤ f p) (h2 : f p ≤ r + n) :
    (probeE R p r n = 7 ∨ probeE R p r n = 3 ∨ probeE R p r n = 0) ∧ (probeE R p r n = 0 → ∀ T, Probed ⟨p, saidM r n⟩ R T → TInv S f T) := by
  have hg := tinv_good hS hl h
  by_cases ha : inAreaM R.pts R.hs p = true
  rotate_left
  · have e : probeE R p r n = 7 := by
      have e1 : pointE R p = 7 := by
        unfold pointE
        rw [if_neg (by rw [hg]; decide), if_pos (by simpa using ha)]
      unfold probeE
      rw [if_pos (by rw [e1]; decide), e1]
    exact ⟨.inl e, fun h0 => by rw [e] at h0; cases h0⟩
  have hp := pointE_mk hg ha
  have hf := h.in_ p
  have hth := isSpanB_iff.1 h.th
  obtain ⟨hs1, hs2⟩ := said_in hr hn
  have hsaid : (saidM r n).lo ≤ f p ∧ f p ≤ (saidM r n).hi := by
    rw [hs1]
    show max 0 (r - n) ≤ f p ∧ f p ≤ min 2000 (r + n)
    omega
  have hins : ∀ m ∈ insK ⟨p, saidM r n⟩ R.ms, (mrkOk m ∧ inAreaM S.pts S.hs m.at_ = true) ∧ m.th.lo ≤ f m.at_ ∧ f m.at_ ≤ m.th.hi := fun m hm => by
    have hpo : pointB p = true := (pointE_ok hp).2.2
    rw [h.pts, h.hs] at ha
    rcases insK_mem _ _ m hm with h5 | rfl | ⟨y, hy, he, rfl⟩
    · exact h.mks m h5
    · exact ⟨⟨⟨hpo, hs2⟩, ha⟩, hsaid⟩
    · have hy' := h.mks y hy
      simp only at he
      rw [he] at hy'
      have k1 := isSpanB_iff.1 hy'.1.1.2
      have k2 := isSpanB_iff.1 hs2
      have e := com_has hy'.2 hsaid
      refine ⟨⟨⟨hpo, ?_⟩, ha⟩, ?_⟩
      · rw [isSpanB_iff]
        simp only [e]
        omega
      · simp only [e]
        omega
  have ht : thickE (withMs R (insK ⟨p, saidM r n⟩ R.ms)) = 0 := true_thick (S := withMs R _) (by show Lip R.steep f; rw [h.steep]; exact hl) (fun m hm => (hins m hm).2) h.in_
  by_cases h40 : 40 < (insK ⟨p, saidM r n⟩ R.ms).length
  · have e : probeE R p r n = 3 := by
      unfold probeE
      rw [if_neg (by rw [hp]; decide), if_neg (by simp [isFromB]; omega)]
      unfold probedE
      rw [if_pos h40]
    exact ⟨.inr (.inl e), fun h0 => by rw [e] at h0; cases h0⟩
  · have e : probeE R p r n = 0 := probeE_mk hp ⟨hr, hn⟩ (by omega) ht
    refine ⟨.inr (.inr e), fun _ T hT => ⟨hT.pts.trans h.pts, hT.hs.trans h.hs, hT.steep.trans h.steep, by rw [hT.ms]; omega, by rw [hT.ms]; exact insK_ord _ _ h.ord, fun m hm => hins m (by rw [← hT.ms]; exact hm), by rw [hT.th]; exact h.th, by rw [hT.th]; exact h.in_⟩⟩
/-- Behind a season that takes what it may all is true still. -/
theorem tinv_season {S R T : Skn} {th : Spn} {hs : List Hil} {g k : Int} (h : TInv S (realF th S.steep hs g) R) (hT : Behind ⟨5, 10⟩ 0 R T) (hk : 5 ≤ k ∧ k ≤ 10) : TInv S (realF th S.steep hs (g + k)) T := by
  have hf : ∀ p, realF th S.steep hs (g + k) p = max 0 (realF th S.steep hs g p - k) := fun p => by unfold realF; omega
  refine ⟨hT.pts.trans h.pts, hT.hs.trans h.hs, by rw [hT.steep, h.steep]; omega, by rw [hT.ms, List.length_map]; exact h.few, ?_, fun m hm => ?_, by rw [hT.th]; exact less_span h.th (by decide), fun p => ?_⟩
  · rw [hT.ms, ordB_iff]
    intro i a b ha hb
    rw [List.getElem?_map] at ha hb
    cases h1 : R.ms[i]? with
    | none => rw [h1] at ha; cases ha
    | some x =>
      cases h2 : R.ms[i + 1]? with
      | none => rw [h2] at hb; cases hb
      | some y =>
        rw [h1] at ha
        rw [h2] at hb
        obtain rfl := Option.some.inj ha
        obtain rfl := Option.some.inj hb
        exact (ordB_iff R.ms).1 h.ord i x y h1 h2
  · rw [hT.ms] at hm
    obtain ⟨x, hx, rfl⟩ := List.mem_map.1 hm
    obtain ⟨⟨h1, h2⟩, h3⟩ := h.mks x hx
    have := isSpanB_iff.1 h1.2
    refine ⟨⟨⟨h1.1, less_span h1.2 (by decide)⟩, h2⟩, ?_⟩
    rw [hf]
    simp only [lessK, lessS]
    omega
  · have := h.in_ p
    rw [hf, hT.th]
    simp only [lessS]
    omega
theorem tinv_first {S : Skn} {hs : List Hil} (hS : skinE S = 0) (h0 : S.ms = []) : TInv S (realF S.th S.steep hs 0) S := by
  have g := skinE_ok hS
  have hth := isSpanB_iff.1 g.th
  refine ⟨rfl, rfl, rfl, g.few, g.ord, (fun m hm => by rw [h0] at hm; exact absurd hm List.not_mem_nil), g.th, fun p => ?_⟩
  have := thick_range hth.2.1 S.steep hs p
  unfold realF
  omega
theorem season_ok {S R : Skn} {f : Pnt → Int} (hS : skinE S = 0) (hl : Lip S.steep f) (h : TInv S f R) : seasonE R ⟨5, 10⟩ 0 = 0 := by
  have hg := tinv_good hS hl h
  have := (skinE_ok hg).steep
  exact seasonE_mk hg (by decide) (by omega) (by omega)
end Go.Proofs.YtoigihmgjacbjaaDoor
