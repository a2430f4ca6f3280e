/- Mathematics of probes: the skin behind one may be; the same probe once more changes nothing; no bounds get wider. No condition. -/
import Derived.Test.YtoigihmgjacbjaaDoorVU
set_option linter.unusedSimpArgs false
namespace Go.Proofs.YtoigihmgjacbjaaDoor
open Go.RowKit

theorem markE_mk {l : List Pnt} {hs : List Hol} : ∀ {ms : List Mrk}, (∀ m ∈ ms, inAreaM l hs m.at_ = true ∧ isSpanB m.th 0 2000 = true) → markE l hs ms = 0
  | [], _ => rfl
  | m :: t, h => by
    have h1 := h m (by simp)
    unfold markE
    rw [if_neg (by rw [h1.1]; decide), if_neg (by rw [h1.2]; decide)]
    exact markE_mk fun y hy => h y (by simp [hy])
theorem skinE_mk {S : Skn} (h1 : areaE S.pts S.hs = 0) (h2 : 0 ≤ S.steep ∧ S.steep ≤ 1000) (h3 : isSpanB S.th 0 2000 = true) (h4 : S.ms.length ≤ 40) (h5 : ∀ m ∈ S.ms, inAreaM S.pts S.hs m.at_ = true ∧ isSpanB m.th 0 2000 = true) (h6 : ordB S.ms = true) (h7 : thickE S = 0) : skinE S = 0 := by
  unfold skinE
  rw [if_neg (by rw [h1]; decide), if_neg (by rw [h3]; simp [isFromB]; omega), if_neg (by omega), if_neg (by rw [markE_mk h5]; decide), if_neg (by rw [h6]; decide)]
  exact h7
/-- In a skin whose points have all bounds no mark says nothing. -/
theorem thick_mark {S : Skn} (hth : 0 ≤ S.th.lo ∧ S.th.lo ≤ S.th.hi) (h : thickE S = 0) {m : Mrk} (hm : m ∈ S.ms) : m.th ≠ nothingS := fun he => by
  have hb : boundM S m.at_ = nothingS := by
    rcases bound_is S.steep m.at_ S.ms S.th hth.2 with ⟨h1, _⟩ | ⟨_, h2⟩
    · exact h1
    · have k1 := ((loF_le S.steep m.at_ _ S.ms S.th.lo).1 (Int.le_refl _)).1
      have k2 := ((le_hiF S.steep m.at_ _ S.ms S.th.hi).1 (Int.le_refl _)).2 m hm
      rw [dist_self, Int.mul_zero, he] at k2
      simp only [nothingS] at k2
      omega
  have := thickE_no hm hb
  omega
theorem probeE_ok {S : Skn} {p : Pnt} {r n : Int} (h : probeE S p r n = 0) : pointE S p = 0 ∧ ((0 ≤ r ∧ r ≤ 2000) ∧ 0 ≤ n ∧ n ≤ 2000) ∧ (insK ⟨p, saidM r n⟩ S.ms).length ≤ 40 ∧ thickE (withMs S (insK ⟨p, saidM r n⟩ S.ms)) = 0 := by
  unfold probeE at h
  split at h
  · rename_i h1
    exact absurd h h1
  rename_i h1
  split at h
  · omega
  rename_i h2
  have h2' : (isFromB r 0 2000 && isFromB n 0 2000) = true := by simpa using h2
  rw [Bool.and_eq_true] at h2'
  unfold probedE at h
  split at h
  · omega
  rename_i h3
  exact ⟨by simpa using h1, ⟨by simpa [isFromB] using h2'.1, by simpa [isFromB] using h2'.2⟩, by omega, h⟩
theorem probeE_mk {S : Skn} {p : Pnt} {r n : Int} (h1 : pointE S p = 0) (h2 : (0 ≤ r ∧ r ≤ 2000) ∧ 0 ≤ n ∧ n ≤ 2000) (h3 : (insK ⟨p, saidM r n⟩ S.ms).length ≤ 40) (h4 : thickE (withMs S (insK ⟨p, saidM r n⟩ S.ms)) = 0) : probeE S p r n = 0 := by
  unfold probeE
  rw [if_neg (by rw [h1]; decide), if_neg (by simp [isFromB]; omega)]
  unfold probedE
  rw [if_neg (by omega), h4]
theorem pointE_in {S : Skn} {p : Pnt} (h : pointE S p = 0) : inAreaM S.pts S.hs p = true := by
  unfold pointE at h
  split at h
  · rename_i h1
    exact absurd h h1
  split at h
  · omega
  rename_i h2
  simpa using h2
theorem pointE_mk {S : Skn} {p : Pnt} (h1 : skinE S = 0) (h2 : inAreaM S.pts S.hs p = true) : pointE S p = 0 := by
  unfold pointE
  rw [if_neg (by rw [h1]; decide), if_neg (by rw [h2]; decide)]
theorem pointE_skin' {S : Skn} {p : Pnt} (h : pointE S p = 0) : skinE S = 0 := by
  unfold pointE at h
  split at h
  · rename_i h1
    exact absurd h h1
  · rename_i h1
    simpa using h1
/-- What is joined and says something is within both. -/
theorem com_within {a b : Spn} (h : comM a b ≠ nothingS) : a.lo ≤ (comM a b).lo ∧ b.lo ≤ (comM a b).lo ∧ (comM a b).hi ≤ a.hi ∧ (comM a b).hi ≤ b.hi ∧ (comM a b).lo ≤ (comM a b).hi := by
  unfold comM at *
  split at h
  · exact absurd rfl h
  rename_i h1
  rw [if_neg h1]
  show a.lo ≤ max a.lo b.lo ∧ b.lo ≤ max a.lo b.lo ∧ min a.hi b.hi ≤ a.hi ∧ min a.hi b.hi ≤ b.hi ∧ max a.lo b.lo ≤ min a.hi b.hi
  omega
/-- **The skin behind a probe may be.** -/
theorem probed_good {S T : Skn} {p : Pnt} {r n : Int} (h : probeE S p r n = 0) (hT : Probed ⟨p, saidM r n⟩ S T) : skinE T = 0 := by
  obtain ⟨h1, ⟨hr, hn⟩, h3, h4⟩ := probeE_ok h
  have g := skinE_ok (pointE_skin' h1)
  have hth := isSpanB_iff.1 g.th
  have hTe : thickE T = 0 := by rw [← h4]; exact thickE_data (S := withMs S _) hT.steep hT.th hT.ms
  have hin := ins_in (l := S.ms) (x := ⟨p, saidM r n⟩) (fun m hm => (g.marks m hm).1) ⟨(pointE_ok h1).2.2, (said_in hr hn).2⟩
  refine skinE_mk (by rw [hT.pts, hT.hs]; exact g.area) (by rw [hT.steep]; exact g.steep) (by rw [hT.th]; exact g.th) (by rw [hT.ms]; exact h3) (fun m hm => ?_) (by rw [hT.ms]; exact insK_ord _ _ g.ord) hTe
  have hne := thick_mark (by rw [hT.th]; omega) hTe hm
  rw [hT.ms] at hm
  rw [hT.pts, hT.hs]
  rcases insK_mem _ _ m hm with h5 | rfl | ⟨y, hy, he, rfl⟩
  · exact ⟨(g.marks m h5).2, (g.marks m h5).1.2⟩
  · exact ⟨pointE_in h1, (said_in hr hn).2⟩
  · refine ⟨pointE_in h1, ?_⟩
    have k1 := isSpanB_iff.1 (g.marks y hy).1.2
    have k2 := isSpanB_iff.1 (said_in hr hn).2
    rcases com_in (a := y.th) (b := saidM r n) (by omega) (by omega) with h6 | h6
    · exact absurd h6 hne
    · exact isSpanB_iff.2 h6
theorem said_self (r n : Int) (hr : 0 ≤ r ∧ r ≤ 2000) (hn : 0 ≤ n ∧ n ≤ 2000) : comM (saidM r n) (saidM r n) = saidM r n := by
  have h := isSpanB_iff.1 (said_in hr hn).2
  unfold comM
  rw [if_neg (by omega)]
  obtain ⟨a, b⟩ := saidM r n
  simp only [Spn.mk.injEq]
  omega
/-- The same probe once more may be, and changes nothing. -/
theorem probed_twice {S T : Skn} {p : Pnt} {r n : Int} (h : probeE S p r n = 0) (hT : Probed ⟨p, saidM r n⟩ S T) : probeE T p r n = 0 ∧ ∀ U, Probed ⟨p, saidM r n⟩ T U → Alike T U := by
  obtain ⟨h1, ⟨hr, hn⟩, h3, h4⟩ := probeE_ok h
  have hg := probed_good h hT
  have e : insK ⟨p, saidM r n⟩ T.ms = T.ms := by rw [hT.ms]; exact insK_twice _ (said_self r n hr hn) _
  refine ⟨probeE_mk (pointE_mk hg (by rw [hT.pts, hT.hs]; exact pointE_in h1)) ⟨hr, hn⟩ (by rw [e]; exact (skinE_ok hg).few) ?_, fun U hU => ⟨hU.pts, hU.hs, hU.steep, hU.th, by rw [hU.ms, e]⟩⟩
  rw [e]
  exact (thickE_data (S := T) (R := withMs T T.ms) rfl rfl rfl).trans (skinE_ok hg).thick
/-- What a mark says is there: as it was, or narrower. -/
theorem probed_keeps {S T : Skn} {p : Pnt} {r n : Int} (h : probeE S p r n = 0) (hT : Probed ⟨p, saidM r n⟩ S T) {m : Mrk} (hm : m ∈ S.ms ∨ m = ⟨p, saidM r n⟩) : ∃ y ∈ T.ms, y.at_ = m.at_ ∧ m.th.lo ≤ y.th.lo ∧ y.th.hi ≤ m.th.hi := by
  have hg := skinE_ok (probed_good h hT)
  have hth := isSpanB_iff.1 hg.th
  rcases hm with hm | rfl
  · rcases insK_old ⟨p, saidM r n⟩ S.ms m hm with h1 | ⟨h1, h2⟩
    · exact ⟨m, by rw [hT.ms]; exact h1, rfl, by omega, by omega⟩
    · rw [← hT.ms] at h2
      have := com_within (thick_mark (by omega) hg.thick h2)
      exact ⟨_, h2, h1.symm, this.1, this.2.2.1⟩
  · rcases insK_new ⟨p, saidM r n⟩ S.ms with h1 | ⟨y, _, h1, h2⟩
    · exact ⟨_, by rw [hT.ms]; exact h1, rfl, by omega, by omega⟩
    · rw [← hT.ms] at h2
      have := com_within (thick_mark (by omega) hg.thick h2)
      exact ⟨_, h2, rfl, this.2.1, this.2.2.2.1⟩
/-- At its own point the bounds are within what the probe says. -/
theorem probed_at {S T : Skn} {p : Pnt} {r n : Int} (h : probeE S p r n = 0) (hT : Probed ⟨p, saidM r n⟩ S T) : r - n ≤ (boundM T p).lo ∧ (boundM T p).hi ≤ r + n ∧ (boundM T p).lo ≤ (boundM T p).hi := by
  obtain ⟨h1, ⟨hr, hn⟩, h3, h4⟩ := probeE_ok h
  have hg := skinE_ok (probed_good h hT)
  obtain ⟨y, hy, hya, hyl, hyh⟩ := probed_keeps h hT (.inr rfl)
  have hb := bound_mark hg hy
  have hs := (said_in hr hn).1
  simp only at hya
  rw [hya] at hb
  simp only [hs] at hyl hyh
  have := (bound_range hg p).2.1
  omega
/-- No bounds get wider. -/
theorem probed_narrow {S T : Skn} {p : Pnt} {r n : Int} (h : probeE S p r n = 0) (hT : Probed ⟨p, saidM r n⟩ S T) (q : Pnt) : (boundM S q).lo ≤ (boundM T q).lo ∧ (boundM T q).hi ≤ (boundM S q).hi := by
  have hS := skinE_ok (pointE_skin' (probeE_ok h).1)
  have hg := skinE_ok (probed_good h hT)
  rw [(bound_good hS q).1, (bound_good hg q).1]
  simp only
  constructor
  · have kT := (loF_le T.steep q _ T.ms T.th.lo).1 (Int.le_refl _)
    refine (loF_le S.steep q _ S.ms S.th.lo).2 ⟨by have := kT.1; rw [hT.th] at this ⊢; exact this, fun m hm => ?_⟩
    obtain ⟨y, hy, hya, hyl, _⟩ := probed_keeps h hT (.inl hm)
    have := kT.2 y hy
    rw [hya, hT.steep] at this
    rw [hT.steep] at *
    omega
  · have kT := (le_hiF T.steep q _ T.ms T.th.hi).1 (Int.le_refl _)
    refine (le_hiF S.steep q _ S.ms S.th.hi).2 ⟨by have := kT.1; rw [hT.th] at this ⊢; exact this, fun m hm => ?_⟩
    obtain ⟨y, hy, hya, _, hyh⟩ := probed_keeps h hT (.inl hm)
    have := kT.2 y hy
    rw [hya, hT.steep] at this
    rw [hT.steep] at *
    omega
theorem probed_point {S T : Skn} {p : Pnt} {r n : Int} (h : probeE S p r n = 0) (hT : Probed ⟨p, saidM r n⟩ S T) (q : Pnt) : pointE T q = pointE S q := by
  have h1 := pointE_skin' (probeE_ok h).1
  have h2 := probed_good h hT
  unfold pointE
  rw [h1, h2, hT.pts, hT.hs]
end Go.Proofs.YtoigihmgjacbjaaDoor
