/- Mathematics of several probes: whether all may be, and what they leave, hang on no order. No condition. -/
import Derived.Test.YtoigihmgjacbjaaDoorVN
set_option linter.unusedSimpArgs false
namespace Go.Proofs.YtoigihmgjacbjaaDoor
open Go.RowKit

def insR (ms : List Mrk) (x : Rdg) : List Mrk := insK ⟨x.at_, saidM x.r x.n⟩ ms
/-- The skin's data behind probes, if they may be. -/
def allR (S : Skn) (l : List Rdg) : Skn := withMs S (l.foldl insR S.ms)
/-- The first error of probes, one behind the other. -/
def allE : Skn → List Rdg → Int
  | _, [] => 0
  | S, x :: t => if ¬ probeE S x.at_ x.r x.n = 0 then probeE S x.at_ x.r x.n else allE (withMs S (insR S.ms x)) t
theorem probeE_data {S R : Skn} (h : Alike S R) (p : Pnt) (r n : Int) : probeE R p r n = probeE S p r n := by
  have h1 := h.pointE p
  have h2 : probedE R ⟨p, saidM r n⟩ = probedE S ⟨p, saidM r n⟩ := by
    unfold probedE
    rw [h.ms, thickE_data (S := withMs S (insK ⟨p, saidM r n⟩ S.ms)) (R := withMs R (insK ⟨p, saidM r n⟩ S.ms)) h.steep h.th rfl]
  unfold probeE
  rw [h1, h2]
theorem alike_with {S R : Skn} (h : Alike S R) (l : List Mrk) : Alike (withMs S l) (withMs R l) := ⟨h.pts, h.hs, h.steep, h.th, rfl⟩
theorem probed_alike {S T : Skn} {x : Rdg} (h : Probed ⟨x.at_, saidM x.r x.n⟩ S T) : Alike (withMs S (insR S.ms x)) T := ⟨h.pts, h.hs, h.steep, h.th, h.ms⟩
theorem alike_probed {S R T : Skn} {x : Mrk} (h : Alike S R) (k : Probed x R T) : Probed x S T := ⟨k.pts.trans h.pts, k.hs.trans h.hs, k.steep.trans h.steep, k.th.trans h.th, by rw [k.ms, h.ms]⟩
theorem allE_alike : ∀ (l : List Rdg) {S R : Skn}, Alike S R → allE R l = allE S l
  | [], _, _, _ => rfl
  | x :: t, S, R, h => by
    unfold allE
    rw [probeE_data h, allE_alike t (S := withMs S (insR S.ms x)) (R := withMs R (insR R.ms x)) ⟨h.pts, h.hs, h.steep, h.th, by show insR R.ms x = insR S.ms x; rw [h.ms]⟩]
theorem insR_right (ms : List Mrk) (x y : Rdg) : insR (insR ms x) y = insR (insR ms y) x := insK_comm _ _ ms
theorem foldl_perm {l l' : List Rdg} (h : l.Perm l') : ∀ ms, l.foldl insR ms = l'.foldl insR ms := by
  induction h with
  | nil => intro ms; rfl
  | cons x _ ih => intro ms; exact ih _
  | swap x y l => intro ms; simp only [List.foldl_cons, insR_right]
  | trans _ _ ih1 ih2 => intro ms; rw [ih1, ih2]
theorem fold_len : ∀ (l : List Rdg) (ms : List Mrk), ms.length ≤ (l.foldl insR ms).length
  | [], _ => Nat.le_refl _
  | x :: t, ms => Nat.le_trans (insK_len _ ms).1 (fold_len t (insR ms x))
/-- If points have bounds behind a mark that is put in, they had some ahead of it. -/
theorem thick_back {S : Skn} (hth : 0 ≤ S.th.lo ∧ S.th.lo ≤ S.th.hi) (x : Mrk) (L : List Mrk) (h : thickE (withMs S (insK x L)) = 0) : thickE (withMs S L) = 0 := by
  have hm : ∀ m ∈ L, ∃ y ∈ insK x L, y.at_ = m.at_ ∧ m.th.lo ≤ y.th.lo ∧ y.th.hi ≤ m.th.hi := fun m hm => by
    rcases insK_old x L m hm with h1 | ⟨h1, h2⟩
    · exact ⟨m, h1, rfl, by omega, by omega⟩
    · have := com_within (thick_mark (S := withMs S (insK x L)) hth h h2)
      exact ⟨_, h2, h1.symm, this.1, this.2.2.1⟩
  refine thickE_ok fun m hmem hn => ?_
  obtain ⟨y, hy, hya, _, _⟩ := hm m hmem
  have hy' : boundM (withMs S (insK x L)) y.at_ ≠ nothingS := fun e => by
    have := thickE_no (S := withMs S (insK x L)) hy e
    omega
  have k2 : loF S.steep y.at_ S.th.lo (insK x L) ≤ hiF S.steep y.at_ S.th.hi (insK x L) := by
    rcases bound_is S.steep y.at_ (insK x L) S.th hth.2 with ⟨h1, _⟩ | ⟨_, h2⟩
    · exact absurd h1 hy'
    · exact h2
  rw [hya] at k2
  have k1 : hiF S.steep m.at_ S.th.hi L < loF S.steep m.at_ S.th.lo L := by
    rcases bound_is S.steep m.at_ L S.th hth.2 with ⟨_, h2⟩ | ⟨h1, h2⟩
    · exact h2
    · have e : boundM (withMs S L) m.at_ = boundF S.steep S.th m.at_ L := rfl
      rw [e, h1] at hn
      simp only [nothingS, Spn.mk.injEq] at hn
      omega
  have k3 : loF S.steep m.at_ S.th.lo L ≤ loF S.steep m.at_ S.th.lo (insK x L) := by
    have kT := (loF_le S.steep m.at_ _ (insK x L) S.th.lo).1 (Int.le_refl _)
    refine (loF_le S.steep m.at_ _ L S.th.lo).2 ⟨kT.1, fun z hz => ?_⟩
    obtain ⟨y, hy, hya, hyl, _⟩ := hm z hz
    have := kT.2 y hy
    rw [hya] at this
    omega
  have k4 : hiF S.steep m.at_ S.th.hi (insK x L) ≤ hiF S.steep m.at_ S.th.hi L := by
    have kT := (le_hiF S.steep m.at_ _ (insK x L) S.th.hi).1 (Int.le_refl _)
    refine (le_hiF S.steep m.at_ _ L S.th.hi).2 ⟨kT.1, fun z hz => ?_⟩
    obtain ⟨y, hy, hya, _, hyh⟩ := hm z hz
    have := kT.2 y hy
    rw [hya] at this
    omega
  omega
theorem thick_back_all {S : Skn} (hth : 0 ≤ S.th.lo ∧ S.th.lo ≤ S.th.hi) : ∀ (l : List Rdg) (L : List Mrk), thickE (withMs S (l.foldl insR L)) = 0 → thickE (withMs S L) = 0
  | [], _, h => h
  | x :: t, L, h => thick_back hth _ L (thick_back_all hth t (insR L x) h)
/-- What probes must be, in whatever order. -/
def AllGood (S : Skn) (l : List Rdg) : Prop := skinE S = 0 ∧ (∀ x ∈ l, inAreaM S.pts S.hs x.at_ = true ∧ (0 ≤ x.r ∧ x.r ≤ 2000) ∧ 0 ≤ x.n ∧ x.n ≤ 2000) ∧ (l.foldl insR S.ms).length ≤ 40 ∧ thickE (withMs S (l.foldl insR S.ms)) = 0
theorem all_good : ∀ (l : List Rdg) (S : Skn), l ≠ [] → allE S l = 0 → AllGood S l
  | [], _, h, _ => absurd rfl h
  | x :: t, S, _, h => by
    unfold allE at h
    split at h
    · rename_i h1
      exact absurd h h1
    rename_i h1
    have h1' : probeE S x.at_ x.r x.n = 0 := by simpa using h1
    obtain ⟨p1, p2, p3, p4⟩ := probeE_ok h1'
    have hx : inAreaM S.pts S.hs x.at_ = true ∧ (0 ≤ x.r ∧ x.r ≤ 2000) ∧ 0 ≤ x.n ∧ x.n ≤ 2000 := ⟨pointE_in p1, p2⟩
    by_cases ht : t = []
    · subst ht
      exact ⟨pointE_skin' p1, fun y hy => by obtain rfl := List.mem_singleton.1 hy; exact hx, p3, p4⟩
    · obtain ⟨q1, q2, q3, q4⟩ := all_good t (withMs S (insR S.ms x)) ht h
      exact ⟨pointE_skin' p1, fun y hy => by
        rcases List.mem_cons.1 hy with rfl | hy
        · exact hx
        · exact q2 y hy, q3, q4⟩
theorem good_all : ∀ (l : List Rdg) (S : Skn), AllGood S l → allE S l = 0
  | [], _, _ => rfl
  | x :: t, S, ⟨h1, h2, h3, h4⟩ => by
    have hx := h2 x (by simp)
    have hth := isSpanB_iff.1 (skinE_ok h1).th
    have hp : probeE S x.at_ x.r x.n = 0 := probeE_mk (pointE_mk h1 hx.1) hx.2 (Nat.le_trans (fold_len t _) h3) (thick_back_all (by omega) t _ h4)
    unfold allE
    rw [if_neg (by rw [hp]; decide)]
    refine good_all t _ ⟨?_, fun y hy => h2 y (by simp [hy]), h3, h4⟩
    exact probed_good hp ⟨rfl, rfl, rfl, rfl, rfl⟩
/-- **Probes in another order**: they may be just if these may, and leave the same. -/
theorem all_perm {S : Skn} {l l' : List Rdg} (hp : l.Perm l') (hl : l ≠ []) : (allE S l = 0 ↔ allE S l' = 0) ∧ Alike (allR S l) (allR S l') := by
  have hl' : l' ≠ [] := fun e => hl (by subst e; exact hp.eq_nil)
  have hf := foldl_perm hp S.ms
  refine ⟨⟨fun h => ?_, fun h => ?_⟩, ⟨rfl, rfl, rfl, rfl, by show l'.foldl insR S.ms = l.foldl insR S.ms; rw [hf]⟩⟩
  · obtain ⟨h1, h2, h3, h4⟩ := all_good l S hl h
    exact good_all l' S ⟨h1, fun x hx => h2 x (hp.mem_iff.2 hx), by rw [← hf]; exact h3, by rw [← hf]; exact h4⟩
  · obtain ⟨h1, h2, h3, h4⟩ := all_good l' S hl' h
    exact good_all l S ⟨h1, fun x hx => h2 x (hp.mem_iff.1 hx), by rw [hf]; exact h3, by rw [hf]; exact h4⟩
/-- The other order: turned round, from some place on. -/
def rotL (l : List Rdg) (k : Nat) : List Rdg := l.drop k ++ l.take k
theorem rot_perm (l : List Rdg) (k : Nat) : l.Perm (rotL l k).reverse := by
  refine List.Perm.trans ?_ (List.reverse_perm _).symm
  have h : (l.take k ++ l.drop k).Perm (rotL l k) := List.perm_append_comm
  rwa [List.take_append_drop] at h
theorem rot_len (l : List Rdg) {k : Nat} (hk : k < l.length) : (rotL l k).length = l.length := by simp [rotL]; omega
theorem rot_at (l : List Rdg) {k i : Nat} (hk : k < l.length) (hi : i < l.length) : (rotL l k)[i]? = l[(i + k) % l.length]? := by
  unfold rotL
  by_cases h : i < l.length - k
  · rw [List.getElem?_append_left (by rw [List.length_drop]; exact h), List.getElem?_drop, Nat.mod_eq_of_lt (by omega), Nat.add_comm]
  · rw [List.getElem?_append_right (by rw [List.length_drop]; omega), List.length_drop, List.getElem?_take, if_pos (by omega)]
    congr 1
    rw [Nat.mod_eq_sub_mod (by omega), Nat.mod_eq_of_lt (by omega)]
    omega
end Go.Proofs.YtoigihmgjacbjaaDoor
