/- Mathematics of rows in a mirror: as many rows fit a ridge with its ends swapped, and the image of a row fits it just if the row fits the ridge. No condition but that the ridge may be. -/
import Derived.Test.YtmcmhgjlpffcnaaQG
set_option linter.unusedSimpArgs false
namespace Go.Proofs.Ytmcmhgjlpffcnaa
open Go.RowKit

/-! ### Sums -/
theorem sum_add {α : Type} (f h : α → Nat) : ∀ l : List α, (l.map fun x => f x + h x).sum = (l.map f).sum + (l.map h).sum := by
  intro l
  induction l with
  | nil => rfl
  | cons x l ih => simp only [List.map_cons, List.sum_cons, ih]; omega
theorem sum_swap {α β : Type} (m : List β) (f : α → β → Nat) : ∀ l : List α, (l.map fun x => (m.map fun y => f x y).sum).sum = (m.map fun y => (l.map fun x => f x y).sum).sum := by
  intro l
  induction l with
  | nil => simp only [List.map_nil, List.sum_nil]; exact (sum_none m).symm
  | cons x l ih => simp only [List.map_cons, List.sum_cons, ih, sum_add]
theorem sum_zero {α : Type} {l : List α} {f : α → Nat} (h : ∀ x ∈ l, f x = 0) : (l.map f).sum = 0 := by
  rw [sum_congr (h := fun _ => 0) h]
  exact sum_none l
theorem sum_one (c a : Nat) : ∀ n : Nat, ((List.range n).map fun i => if i = a then c else 0).sum = if a < n then c else 0 := by
  intro n
  induction n with
  | zero => rfl
  | succ n ih =>
    rw [List.range_succ, List.map_append, List.sum_append, ih]
    simp only [List.map_cons, List.map_nil, List.sum_cons, List.sum_nil, Nat.add_zero]
    by_cases h1 : n = a
    · subst h1; simp
    · rw [if_neg h1]
      by_cases h2 : a < n
      · rw [if_pos h2, if_pos (by omega)]; rfl
      · rw [if_neg h2, if_neg (by omega)]
def atN (ps : List Pce) (f : Pce → Nat) (i : Nat) : Nat := match ps[i]? with | some x => f x | none => 0
theorem sum_range (ps : List Pce) (f : Pce → Nat) : (ps.map f).sum = ((List.range ps.length).map (atN ps f)).sum := by
  congr 1
  refine List.ext_getElem (by simp) fun i h1 h2 => ?_
  simp at h1
  simp [atN, List.getElem?_eq_getElem h1]

/-! ### Mirrors -/
def MirOk (ps : List Pce) : Prop := ∀ (i : Nat) (x : Pce), ps[i]? = some x → ∃ (j : Nat) (y : Pce), x.mr = (j : Int) ∧ ps[j]? = some y ∧ y.mr = (i : Int) ∧ y.wd = x.wd ∧ y.lf = x.rt ∧ y.rt = x.lf
theorem mir_of {R : Rdg} (h : rdgE R = 0) : MirOk R.ps := by
  obtain ⟨-, -, -, h4⟩ := rdgE_zero h
  intro i x hx
  have hi : i < R.ps.length := (List.getElem?_eq_some_iff.1 hx).1
  have h5 := h4 i hi
  simp only [mE, hx, mirE] at h5
  split at h5
  · cases h5
  rename_i h6
  simp [isFromB] at h6
  have hj : x.mr.toNat < R.ps.length := by omega
  rw [List.getElem?_eq_getElem hj] at h5
  simp only at h5
  split at h5
  · cases h5
  rename_i h7
  simp [areM] at h7
  refine ⟨x.mr.toNat, R.ps[x.mr.toNat], by omega, List.getElem?_eq_getElem hj, h7.1, h7.2.1, h7.2.2.1, h7.2.2.2⟩
def mirN (ps : List Pce) (i : Nat) : Nat := match ps[i]? with | some x => x.mr.toNat | none => 0
theorem mirN_ok {ps : List Pce} (h : MirOk ps) {i : Nat} (hi : i < ps.length) : mirN ps i < ps.length ∧ mirN ps (mirN ps i) = i := by
  obtain ⟨j, y, h1, h2, h3, -⟩ := h i ps[i] (List.getElem?_eq_getElem hi)
  have e : mirN ps i = j := by simp only [mirN, List.getElem?_eq_getElem hi]; omega
  have hj : j < ps.length := (List.getElem?_eq_some_iff.1 h2).1
  rw [e]
  refine ⟨hj, ?_⟩
  simp only [mirN, h2]
  omega
theorem sum_mirror {ps : List Pce} (h : MirOk ps) (f g : Pce → Nat) (hfg : ∀ x y : Pce, y.wd = x.wd → y.lf = x.rt → y.rt = x.lf → g y = f x) : (ps.map f).sum = (ps.map g).sum := by
  rw [sum_range, sum_range]
  have hG : ∀ i, i < ps.length → atN ps g (mirN ps i) = atN ps f i := by
    intro i hi
    obtain ⟨j, y, h1, h2, h3, h4, h5, h6⟩ := h i ps[i] (List.getElem?_eq_getElem hi)
    have e : mirN ps i = j := by simp only [mirN, List.getElem?_eq_getElem hi]; omega
    rw [e]
    simp only [atN, h2, List.getElem?_eq_getElem hi]
    exact hfg _ _ h4 h5 h6
  have e1 : ((List.range ps.length).map (atN ps f)).sum = ((List.range ps.length).map fun i => ((List.range ps.length).map fun j => if j = mirN ps i then atN ps f i else 0).sum).sum :=
    sum_congr fun i hi => by
      rw [sum_one, if_pos (mirN_ok h (List.mem_range.1 hi)).1]
  have e2 : ((List.range ps.length).map (atN ps g)).sum = ((List.range ps.length).map fun j => ((List.range ps.length).map fun i => if i = mirN ps j then atN ps g j else 0).sum).sum :=
    sum_congr fun j hj => by
      rw [sum_one, if_pos (mirN_ok h (List.mem_range.1 hj)).1]
  rw [e1, e2, sum_swap]
  refine sum_congr fun j hj => sum_congr fun i hi => ?_
  have hi' := List.mem_range.1 hi
  have hj' := List.mem_range.1 hj
  by_cases hji : j = mirN ps i
  · have hij : i = mirN ps j := by rw [hji]; exact (mirN_ok h hi').2.symm
    rw [if_pos hji, if_pos hij, ← hG i hi', ← hji]
  · have hij : ¬ i = mirN ps j := fun e => hji (by rw [e]; exact (mirN_ok h hj').2.symm)
    rw [if_neg hji, if_neg hij]

/-! ### As many rows -/
def oneA (n p q : Nat) (x : Pce) : Nat := if (x.lf = (p : Int) ∧ x.wd ≤ (n : Int)) ∧ n - x.wd.toNat = 0 ∧ x.rt.toNat = q then 1 else 0
def twoB (ps : List Pce) (n p q : Nat) (x y : Pce) : Nat := if (x.lf = (p : Int) ∧ x.wd ≤ (n : Int)) ∧ y.rt = (q : Int) ∧ y.wd ≤ ((n - x.wd.toNat : Nat) : Int) then wy ps y.lf.toNat ⟨n - x.wd.toNat - y.wd.toNat, x.rt.toNat⟩ else 0
theorem wy_last {ps : List Pce} (hps : ∀ x ∈ ps, x.ok) (n : Nat) : ∀ p q : Nat, wy ps q ⟨n, p⟩ = baseW q ⟨n, p⟩ + (ps.map fun x => if x.rt = (q : Int) ∧ x.wd ≤ (n : Int) then wy ps x.lf.toNat ⟨n - x.wd.toNat, p⟩ else 0).sum := by
  induction n using Nat.strongRecOn with
  | _ n ih =>
  intro p q
  rw [wy_step hps q ⟨n, p⟩]
  congr 1
  have key1 : ∀ x ∈ ps, (if takB ⟨n, p⟩ x = true then wy ps q (behG ⟨n, p⟩ x) else 0) = oneA n p q x + (ps.map fun y => twoB ps n p q x y).sum := by
    intro x hx
    obtain ⟨⟨w1, w2⟩, ⟨l1, l2⟩, r1, r2⟩ := hps x hx
    by_cases ht : x.lf = (p : Int) ∧ x.wd ≤ (n : Int)
    · rw [if_pos (takB_iff.2 ht)]
      show wy ps q ⟨n - x.wd.toNat, x.rt.toNat⟩ = _
      rw [ih (n - x.wd.toNat) (by omega) x.rt.toNat q]
      congr 1
      · simp only [baseW, oneA, ht, true_and, and_self]
      · refine sum_congr fun y hy => ?_
        simp only [twoB, ht, true_and, and_self]
    · rw [if_neg (fun h => ht (takB_iff.1 h)), sum_zero (fun y _ => by unfold twoB; rw [if_neg (fun h => ht h.1)])]
      unfold oneA
      rw [if_neg (fun h => ht h.1)]
  have key2 : ∀ y ∈ ps, (if y.rt = (q : Int) ∧ y.wd ≤ (n : Int) then wy ps y.lf.toNat ⟨n - y.wd.toNat, p⟩ else 0) = oneA n p q y + (ps.map fun x => twoB ps n p q x y).sum := by
    intro y hy
    obtain ⟨⟨w1, w2⟩, ⟨l1, l2⟩, r1, r2⟩ := hps y hy
    by_cases ht : y.rt = (q : Int) ∧ y.wd ≤ (n : Int)
    · rw [if_pos ht, wy_step hps y.lf.toNat ⟨n - y.wd.toNat, p⟩]
      congr 1
      · unfold baseW oneA
        by_cases hc : n - y.wd.toNat = 0 ∧ p = y.lf.toNat
        · rw [if_pos hc, if_pos (by omega)]
        · rw [if_neg hc, if_neg (by omega)]
      · refine sum_congr fun x hx => ?_
        obtain ⟨⟨v1, v2⟩, ⟨m1, m2⟩, s1, s2⟩ := hps x hx
        unfold twoB
        by_cases hc : takB ⟨n - y.wd.toNat, p⟩ x = true
        · have h2 := takB_iff.1 hc
          simp only at h2
          rw [if_pos hc, if_pos (by omega)]
          simp only [behG]
          rw [show n - y.wd.toNat - x.wd.toNat = n - x.wd.toNat - y.wd.toNat by omega]
        · rw [if_neg hc, if_neg]
          intro h2
          refine hc (takB_iff.2 ?_)
          simp only
          omega
    · rw [if_neg ht, sum_zero (fun x _ => by unfold twoB; rw [if_neg]; omega)]
      unfold oneA
      rw [if_neg]
      omega
  rw [sum_congr key1, sum_congr key2, sum_add, sum_add, sum_swap]
theorem wy_mirror {ps : List Pce} (hps : ∀ x ∈ ps, x.ok) (hm : MirOk ps) (n : Nat) : ∀ p q : Nat, wy ps q ⟨n, p⟩ = wy ps p ⟨n, q⟩ := by
  induction n using Nat.strongRecOn with
  | _ n ih =>
  intro p q
  rw [wy_last hps n p q, wy_step hps p ⟨n, q⟩]
  congr 1
  · unfold baseW
    by_cases h : n = 0 ∧ p = q
    · rw [if_pos h, if_pos ⟨h.1, h.2.symm⟩]
    · rw [if_neg h, if_neg (fun h2 => h ⟨h2.1, h2.2.symm⟩)]
  have e : (ps.map fun x => if x.rt = (q : Int) ∧ x.wd ≤ (n : Int) then wy ps x.lf.toNat ⟨n - x.wd.toNat, p⟩ else 0).sum = (ps.map fun x => if x.rt = (q : Int) ∧ x.wd ≤ (n : Int) then wy ps p ⟨n - x.wd.toNat, x.lf.toNat⟩ else 0).sum :=
    sum_congr fun x hx => by
      obtain ⟨⟨w1, w2⟩, -⟩ := hps x hx
      by_cases h : x.rt = (q : Int) ∧ x.wd ≤ (n : Int)
      · rw [if_pos h, if_pos h, ih (n - x.wd.toNat) (by omega) p x.lf.toNat]
      · rw [if_neg h, if_neg h]
  rw [e]
  refine sum_mirror hm _ _ fun x y h1 h2 h3 => ?_
  by_cases h : x.rt = (q : Int) ∧ x.wd ≤ (n : Int)
  · rw [if_pos h, if_pos (takB_iff.2 (show y.lf = (q : Int) ∧ y.wd ≤ (n : Int) by rw [h2, h1]; exact h))]
    simp only [behG, h1, h3]
  · rw [if_neg h, if_neg (fun h4 => h (by have := takB_iff.1 h4; rw [h2, h1] at this; exact this))]
theorem ways_swap {R : Rdg} (h : rdgE R = 0) : waysN (swapR R) = waysN R := by
  unfold waysN
  exact wy_mirror (rdgE_ridge h).2.2.2.2 (mir_of h) R.len.toNat R.en.toNat R.st.toNat
theorem swap_ok {R : Rdg} (h : rdgE R = 0) : rdgE (swapR R) = 0 := by
  obtain ⟨h1, h2, h3, h4⟩ := rdgE_zero h
  refine rdgE_ok ?_ h2 h3 h4
  simp only [rdgB, swapR, Bool.and_eq_true, isFromB_iff] at h1 ⊢
  omega
theorem waysE_swap {R : Rdg} (h : rdgE R = 0) : waysE (swapR R) = waysE R := by
  unfold waysE
  rw [swap_ok h, h, ways_swap h]

/-! ### The image of a row -/
def mirI (ps : List Pce) (n : Int) : Int := match ps[n.toNat]? with | some x => x.mr | none => 0
def imgL (ps : List Pce) (row : List Int) : List Int := row.reverse.map (mirI ps)
theorem stepG_some {ps : List Pce} {g h : Gp} {n : Int} (e : stepG ps g n = some h) : ∃ x, (0 ≤ n ∧ n < ps.length) ∧ ps[n.toNat]? = some x ∧ takB g x = true ∧ h = behG g x := by
  unfold stepG at e
  split at e
  · rename_i h1
    simp [isFromB] at h1
    split at e
    · rename_i x hx
      split at e
      · rename_i h2
        exact ⟨x, by omega, hx, h2, (Option.some.inj e).symm⟩
      · cases e
    · cases e
  · cases e
theorem stepG_of {ps : List Pce} {g : Gp} {i : Nat} {x : Pce} (hx : ps[i]? = some x) (ht : takB g x = true) : stepG ps g (i : Int) = some (behG g x) := by
  have hi : i < ps.length := (List.getElem?_eq_some_iff.1 hx).1
  unfold stepG
  rw [if_pos (by simp [isFromB]; omega), Int.toNat_natCast, hx]
  simp only [ht, if_true]
theorem run_img {ps : List Pce} (hps : ∀ x ∈ ps, x.ok) (hm : MirOk ps) : ∀ (row : List Int) (g h : Gp), runG ps g row = some h → h.n ≤ g.n ∧ ∀ k, runG ps ⟨g.n - h.n + k, h.p⟩ (imgL ps row) = some ⟨k, g.p⟩ := by
  intro row
  induction row with
  | nil =>
    intro g h e
    obtain rfl : g = h := by simpa [runG] using e
    refine ⟨Nat.le_refl _, fun k => ?_⟩
    simp [imgL, runG]
  | cons a row ih =>
    intro g h e
    rw [runG, List.foldlM_cons] at e
    cases hs : stepG ps g a with
    | none => rw [hs] at e; cases e
    | some g2 =>
      rw [hs] at e
      obtain ⟨x, ha, hx, ht, rfl⟩ := stepG_some hs
      obtain ⟨⟨w1, w2⟩, ⟨l1, l2⟩, r1, r2⟩ := hps x (List.mem_of_getElem? hx)
      obtain ⟨h1, h2⟩ := ih _ _ (show runG ps (behG g x) row = some h from e)
      obtain ⟨t1, t2⟩ := takB_iff.1 ht
      obtain ⟨j, y, m1, m2, m3, m4, m5, m6⟩ := hm _ x hx
      simp only [behG] at h1 h2
      refine ⟨by omega, fun k => ?_⟩
      have ei : imgL ps (a :: row) = imgL ps row ++ [(j : Int)] := by
        simp only [imgL, List.reverse_cons, List.map_append, List.map_cons, List.map_nil]
        rw [show mirI ps a = (j : Int) by simp only [mirI, hx]; exact m1]
      have h3 := h2 (k + x.wd.toNat)
      rw [show g.n - x.wd.toNat - h.n + (k + x.wd.toNat) = g.n - h.n + k by omega] at h3
      rw [ei, runG_snoc, h3]
      show stepG ps _ _ = _
      rw [stepG_of m2 (takB_iff.2 (by simp only; omega))]
      simp only [behG, m4, m6, t1]
      congr 1
      congr 1
      omega
def InR (ps : List Pce) (row : List Int) : Prop := ∀ n ∈ row, 0 ≤ n ∧ n < (ps.length : Int)
theorem mirI_ok {ps : List Pce} (hm : MirOk ps) {n : Int} (h : 0 ≤ n ∧ n < (ps.length : Int)) : (0 ≤ mirI ps n ∧ mirI ps n < (ps.length : Int)) ∧ mirI ps (mirI ps n) = n := by
  have hi : n.toNat < ps.length := by omega
  obtain ⟨j, y, m1, m2, m3, -⟩ := hm _ _ (List.getElem?_eq_getElem hi)
  have hj : j < ps.length := (List.getElem?_eq_some_iff.1 m2).1
  have e : mirI ps n = (j : Int) := by simp only [mirI, List.getElem?_eq_getElem hi]; exact m1
  rw [e]
  refine ⟨by omega, ?_⟩
  simp only [mirI, Int.toNat_natCast, m2]
  omega
theorem img_img {ps : List Pce} (hm : MirOk ps) {row : List Int} (h : InR ps row) : imgL ps (imgL ps row) = row := by
  simp only [imgL, ← List.map_reverse, List.reverse_reverse, List.map_map]
  refine (List.map_congr_left fun n hn => ?_).trans (List.map_id _)
  exact (mirI_ok hm (h n hn)).2
theorem fitsB_iff {R : Rdg} {row : List Int} : fitsB R row = true ↔ runG R.ps R.top row = some ⟨0, R.en.toNat⟩ := by
  unfold fitsB
  split
  · rename_i g hg
    rw [hg]
    simp
  · rename_i hg
    rw [hg]
    simp
theorem fits_img {R : Rdg} {row : List Int} (h : rdgE R = 0) (hf : fitsB R row = true) : fitsB (swapR R) (imgL R.ps row) = true := by
  have h1 := (run_img (rdgE_ridge h).2.2.2.2 (mir_of h) row _ _ (fitsB_iff.1 hf)).2 0
  refine fitsB_iff.2 ?_
  simpa [swapR, Rdg.top] using h1
theorem fits_swap {R : Rdg} {row : List Int} (h : rdgE R = 0) (hr : InR R.ps row) : fitsB (swapR R) (imgL R.ps row) = fitsB R row := by
  cases hf : fitsB R row with
  | true => exact fits_img h hf
  | false =>
    cases hg : fitsB (swapR R) (imgL R.ps row) with
    | false => rfl
    | true =>
      have h2 := fits_img (swap_ok h) hg
      have h3 : imgL (swapR R).ps (imgL R.ps row) = row := img_img (mir_of h) hr
      rw [h3] at h2
      have h4 : fitsB R row = true := h2
      rw [hf] at h4
      cases h4
end Go.Proofs.Ytmcmhgjlpffcnaa
