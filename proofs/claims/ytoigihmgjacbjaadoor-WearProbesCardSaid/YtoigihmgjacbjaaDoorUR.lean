/- What the twin of a probe does with the list of marks: it is the mark put in its place, and what is said of the skin is the same. No condition. -/
import Derived.Test.YtoigihmgjacbjaaDoorVV
set_option linter.unusedSimpArgs false
namespace Go.Proofs.YtoigihmgjacbjaaDoor
open Go.RowKit

def rawJ (a b : Spn) : Spn := ⟨max a.lo b.lo, min a.hi b.hi⟩
def stepP (x : Mrk) (s : List Mrk × Bool) (m : Mrk) : List Mrk × Bool :=
  if m.at_ = x.at_ then (s.1 ++ [⟨m.at_, rawJ m.th x.th⟩], true)
  else if s.2 = false ∧ plt x.at_ m.at_ then (s.1 ++ [x] ++ [m], true)
  else (s.1 ++ [m], s.2)
def runP (x : Mrk) (l : List Mrk) : List Mrk × Bool := l.foldl (stepP x) ([], false)
def endP (x : Mrk) (s : List Mrk × Bool) : List Mrk := if s.2 = true then s.1 else s.1 ++ [x]
def insR (x : Mrk) : List Mrk → List Mrk
  | [] => [x]
  | m :: t => if plt m.at_ x.at_ then m :: insR x t else if m.at_ = x.at_ then ⟨m.at_, rawJ m.th x.th⟩ :: t else x :: m :: t
theorem runP_succ (x : Mrk) (l : List Mrk) (j : Nat) (m : Mrk) (hj : l[j]? = some m) : runP x (l.take (j + 1)) = stepP x (runP x (l.take j)) m := by
  unfold runP
  rw [List.take_add_one, hj]
  simp [List.foldl_append]
theorem stepP_len (x : Mrk) (s : List Mrk × Bool) (m : Mrk) : (stepP x s m).1.length ≤ s.1.length + 2 := by
  unfold stepP
  split
  · simp
  · split <;> simp
theorem runP_len (x : Mrk) : ∀ (l : List Mrk) (s : List Mrk × Bool), (l.foldl (stepP x) s).1.length ≤ s.1.length + 2 * l.length
  | [], s => by simp
  | m :: t, s => by
    have h1 := runP_len x t (stepP x s m)
    have h2 := stepP_len x s m
    simp only [List.foldl_cons, List.length_cons]
    omega
theorem ord_all {m : Mrk} : ∀ {t : List Mrk}, ordB (m :: t) = true → ∀ y ∈ t, plt m.at_ y.at_
  | [], _, y, hy => by cases hy
  | a :: t, h, y, hy => by
    have h1 := ordB_cons.1 h
    have h2 := h1.1 a rfl
    rcases List.mem_cons.1 hy with rfl | hy
    · exact h2
    · exact plt_trans h2 (ord_all h1.2 y hy)
theorem run_done (x : Mrk) : ∀ (l acc : List Mrk), (∀ m ∈ l, m.at_ ≠ x.at_) → l.foldl (stepP x) (acc, true) = (acc ++ l, true)
  | [], acc, _ => by simp
  | m :: t, acc, h => by
    have e : stepP x (acc, true) m = (acc ++ [m], true) := by
      unfold stepP
      rw [if_neg (h m (by simp)), if_neg (by simp)]
    rw [List.foldl_cons, e, run_done x t _ (fun y hy => h y (by simp [hy]))]
    simp
theorem run_end (x : Mrk) : ∀ (l acc : List Mrk), ordB l = true → endP x (l.foldl (stepP x) (acc, false)) = acc ++ insR x l
  | [], acc, _ => by simp [endP, insR]
  | m :: t, acc, h => by
    have h2 := (ordB_cons.1 h).2
    have h3 := ord_all h
    rw [List.foldl_cons]
    rcases plt_tri m.at_ x.at_ with hx | hx | hx
    · have h4 : m.at_ ≠ x.at_ := fun e => plt_irrefl x.at_ (e ▸ hx)
      have e : stepP x (acc, false) m = (acc ++ [m], false) := by
        unfold stepP
        rw [if_neg h4, if_neg (fun h => plt_asymm hx h.2)]
      rw [e, run_end x t _ h2]
      simp [insR, hx]
    · have h4 : ¬ plt m.at_ x.at_ := by rw [hx]; exact plt_irrefl _
      have e : stepP x (acc, false) m = (acc ++ [⟨m.at_, rawJ m.th x.th⟩], true) := by
        unfold stepP
        rw [if_pos hx]
      rw [e, run_done x t _ (fun y hy e2 => plt_irrefl x.at_ (by have := h3 y hy; rw [hx, e2] at this; exact this))]
      simp only [endP, if_true, insR, if_neg h4, if_pos hx, List.append_assoc, List.cons_append, List.nil_append]
    · have h4 : ¬ plt m.at_ x.at_ := plt_asymm hx
      have h5 : m.at_ ≠ x.at_ := fun e => plt_irrefl x.at_ (by rw [e] at hx; exact hx)
      have e : stepP x (acc, false) m = (acc ++ [x] ++ [m], true) := by
        unfold stepP
        rw [if_neg h5, if_pos ⟨rfl, hx⟩]
      rw [e, run_done x t _ (fun y hy e2 => plt_asymm hx (by have := h3 y hy; rw [e2] at this; exact this))]
      simp [endP, insR, h4, h5]
theorem runP_end (x : Mrk) (l : List Mrk) (h : ordB l = true) : endP x (runP x l) = insR x l := run_end x l [] h
theorem com_raw {a b : Spn} (h : (rawJ a b).lo ≤ (rawJ a b).hi) : comM a b = rawJ a b := by
  unfold comM
  simp only [rawJ] at *
  rw [if_neg (by omega)]
theorem com_raw2 {a b : Spn} (h : comM a b ≠ nothingS) : comM a b = rawJ a b := by
  unfold comM at *
  split at h
  · exact absurd rfl h
  · rename_i h1
    rw [if_neg h1]
    rfl
theorem insR_len (x : Mrk) : ∀ l : List Mrk, (insR x l).length = (insK x l).length
  | [] => rfl
  | m :: t => by
    have := insR_len x t
    simp only [insR, insK]
    split
    · simp [this]
    · split <;> rfl
theorem insR_eq (x : Mrk) : ∀ l : List Mrk, (∀ m ∈ insR x l, m.th.lo ≤ m.th.hi) → insR x l = insK x l
  | [], _ => rfl
  | m :: t, h => by
    simp only [insR, insK] at *
    split
    · rename_i h1
      rw [if_pos h1] at h
      rw [insR_eq x t fun y hy => h y (by simp [hy])]
    · rename_i h1
      rw [if_neg h1] at h
      split
      · rename_i h2
        rw [if_pos h2] at h
        rw [com_raw (h _ List.mem_cons_self)]
      · rfl
theorem insR_eq2 (x : Mrk) : ∀ l : List Mrk, (∀ m ∈ insK x l, m.th ≠ nothingS) → insR x l = insK x l
  | [], _ => rfl
  | m :: t, h => by
    simp only [insR, insK] at *
    split
    · rename_i h1
      rw [if_pos h1] at h
      rw [insR_eq2 x t fun y hy => h y (by simp [hy])]
    · rename_i h1
      rw [if_neg h1] at h
      split
      · rename_i h2
        rw [if_pos h2] at h
        rw [com_raw2 (h _ List.mem_cons_self)]
      · rfl
theorem thickE_two (S : Skn) : thickE S = 0 ∨ thickE S = 10 := by
  unfold thickE
  split
  · exact .inr rfl
  · exact .inl rfl
theorem probeE_from {S : Skn} {p : Pnt} {r n : Int} (h1 : pointE S p = 0) (h2 : (0 ≤ r ∧ r ≤ 2000) ∧ 0 ≤ n ∧ n ≤ 2000) : probeE S p r n = probedE S ⟨p, saidM r n⟩ := by
  unfold probeE
  rw [if_neg (by rw [h1]; decide), if_neg (by simp [isFromB]; omega)]
theorem twin_many {S : Skn} {p : Pnt} {r n : Int} (h1 : pointE S p = 0) (h2 : (0 ≤ r ∧ r ≤ 2000) ∧ 0 ≤ n ∧ n ≤ 2000) (h : 40 < (insR ⟨p, saidM r n⟩ S.ms).length) : probeE S p r n = 3 := by
  rw [probeE_from h1 h2]
  unfold probedE
  rw [if_pos (by rw [← insR_len]; exact h)]
theorem twin_good {S T : Skn} {p : Pnt} {r n : Int} (h1 : pointE S p = 0) (h2 : (0 ≤ r ∧ r ≤ 2000) ∧ 0 ≤ n ∧ n ≤ 2000) (h : ¬ 40 < (insR ⟨p, saidM r n⟩ S.ms).length) (hp : T.pts = S.pts) (hh : T.hs = S.hs) (hs : T.steep = S.steep) (ht : T.th = S.th) (hm : T.ms = insR ⟨p, saidM r n⟩ S.ms) (hT : skinE T = 0) : probeE S p r n = 0 ∧ Probed ⟨p, saidM r n⟩ S T := by
  have g := skinE_ok hT
  have e : insR ⟨p, saidM r n⟩ S.ms = insK ⟨p, saidM r n⟩ S.ms := insR_eq _ _ fun m hm2 => by
    have := isSpanB_iff.1 ((g.marks m (by rw [hm]; exact hm2)).1).2
    omega
  refine ⟨?_, ⟨hp, hh, hs, ht, by rw [hm, e]⟩⟩
  rw [probeE_from h1 h2]
  unfold probedE
  rw [if_neg (by rw [← insR_len]; exact h), ← e]
  exact (thickE_data (S := T) (R := withMs S (insR ⟨p, saidM r n⟩ S.ms)) hs.symm ht.symm hm.symm).trans g.thick
theorem twin_clash {S T : Skn} {p : Pnt} {r n : Int} (h1 : pointE S p = 0) (h2 : (0 ≤ r ∧ r ≤ 2000) ∧ 0 ≤ n ∧ n ≤ 2000) (h : ¬ 40 < (insR ⟨p, saidM r n⟩ S.ms).length) (hp : T.pts = S.pts) (hh : T.hs = S.hs) (hs : T.steep = S.steep) (ht : T.th = S.th) (hm : T.ms = insR ⟨p, saidM r n⟩ S.ms) (hT : ¬ skinE T = 0) : probeE S p r n = 10 := by
  rw [probeE_from h1 h2]
  unfold probedE
  rw [if_neg (by rw [← insR_len]; exact h)]
  rcases thickE_two (withMs S (insK ⟨p, saidM r n⟩ S.ms)) with h0 | h0
  · exfalso
    have hE := probeE_mk h1 h2 (by rw [← insR_len]; omega) h0
    have hU : Probed ⟨p, saidM r n⟩ S (withMs S (insK ⟨p, saidM r n⟩ S.ms)) := ⟨rfl, rfl, rfl, rfl, rfl⟩
    have hg := probed_good hE hU
    have hth := isSpanB_iff.1 (skinE_ok hg).th
    have e := insR_eq2 ⟨p, saidM r n⟩ S.ms fun m hm2 => thick_mark (S := withMs S (insK ⟨p, saidM r n⟩ S.ms)) (by omega) h0 hm2
    have hA : Alike (withMs S (insK ⟨p, saidM r n⟩ S.ms)) T := ⟨hp, hh, hs, ht, by rw [hm, e]; rfl⟩
    exact hT (hA.skinE.trans hg)
  · exact h0
end Go.Proofs.YtoigihmgjacbjaaDoor
