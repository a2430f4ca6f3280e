/- A store that may be, told part by part; what parts and heaps come to where loads move. Chores that are done keep a store that may be: use, rot, comb, dry, year. Chores that are done keep a store that may be: join, bind, cut; so does every chore. No condition. Every chore that is done keeps a store that may be; so do chores in order. No condition. New: the first store of a farm. Great, the farm of the examples, given: what fields cost, and whether they are enough. isEnough, slices.Clone of numbers. -/
import Derived.Test.YtghepojnimlafaaQKR
import Derived.Test.YtghepojnimlafaaQGG
import Derived.Test.YtghepojnimlafaaQFB
import Derived.Deep.AppendLies
namespace Go.Proofs.Ytghepojnimlafaa
section
open Go.RowKit

theorem cutT_ok {m : Nat} {l : List Prt} (h : ∀ p ∈ l, p.ok m) : ∀ {n : Int}, ∀ p ∈ cutT n l, p.ok m := by
  induction l with
  | nil => intro n p hp; simp [cutT] at hp
  | cons q l ih =>
    intro n p hp
    simp only [cutT] at hp
    obtain ⟨h1, h2, h3⟩ := h q (by simp)
    rcases List.mem_append.1 hp with hp | hp
    · split at hp
      · next e =>
        obtain rfl := List.mem_singleton.1 hp
        exact ⟨h1, e, by show min n q.loads ≤ 100000; omega⟩
      · simp at hp
    · exact ih (fun r hr => h r (by simp [hr])) p hp
theorem ok1 {n : Nat} {l : List Prt} (h : ∀ p ∈ l, p.ok n) : ∀ p ∈ l, 1 ≤ p.loads := fun p hp => (h p hp).2.1
theorem ofM_out {n : Nat} {l : List Prt} (h : ∀ p ∈ l, p.ok n) {i : Int} (hi : ¬ (0 ≤ i ∧ i < n)) : ofM i l = 0 := by
  induction l with
  | nil => rfl
  | cons p l ih =>
    have hp := (h p (by simp)).1
    simp only [ofM]
    rw [if_neg (fun e : p.plot = i => hi (by rw [← e]; exact hp)), ih (fun q hq => h q (by simp [hq]))]
    rfl
theorem ofM_pos {n : Nat} {l : List Prt} (h : ∀ p ∈ l, p.ok n) (i : Int) : 0 ≤ ofM i l := (ofM_bd i h).1
theorem leftM_pos {n : Nat} {l : List Hep} (h : ∀ x ∈ l, ∀ p ∈ x.parts, p.ok n) (i : Int) : 0 ≤ leftM i l := by
  induction l with
  | nil => simp [leftM]
  | cons x l ih =>
    have := ih (fun y hy => h y (by simp [hy]))
    have h2 := ofM_pos (h x (by simp)) i
    simp only [leftM]
    omega
theorem leftM_ge {n : Nat} {l : List Hep} (h : ∀ x ∈ l, ∀ p ∈ x.parts, p.ok n) (i : Int) {k : Nat} {x : Hep} (hx : l[k]? = some x) : ofM i x.parts ≤ leftM i l := by
  have h1 := leftM_erase i l k x hx
  have h2 := leftM_pos (l := l.eraseIdx k) (fun y hy => h y (List.mem_of_mem_eraseIdx hy)) i
  omega
theorem sumN_ge {f : Nat → Int} (h : ∀ i, 0 ≤ f i) : ∀ n : Nat, 0 ≤ sumN f n ∧ ∀ i, i < n → f i ≤ sumN f n := by
  intro n
  induction n with
  | zero => exact ⟨by simp [sumN], fun i hi => by omega⟩
  | succ n ih =>
    have h0 := h n
    refine ⟨by simp only [sumN]; omega, fun i hi => ?_⟩
    simp only [sumN]
    rcases Nat.lt_or_ge i n with h1 | h1
    · have := ih.2 i h1; omega
    · obtain rfl : i = n := by omega
      have := ih.1; omega
theorem sumN_congr {f g : Nat → Int} (h : ∀ i, f i = g i) (n : Nat) : sumN f n = sumN g n := by rw [funext h]

structure GoodS (F : Frm) (S : Sto) : Prop where
  years : yearsB F.ps.length S.year S.last = true
  heaps : GoodH F.ps S.heaps
  used : partsB F.ps.length S.used = true
  waste : partsB F.ps.length S.waste = true
  len : S.given.length = F.ps.length
  bal : ∀ i : Nat, i < F.ps.length → givenAt S.given i = thereM S.used S.heaps S.waste i
  sum : sumN (thereM S.used S.heaps S.waste) F.ps.length ≤ 100000
theorem goodS_of {F : Frm} {S : Sto} (h : storeE F S = 0) : GoodS F S := by
  obtain ⟨_, h2⟩ := storeE_zero h
  simp only [mayB, balB, Bool.and_eq_true, decide_eq_true_eq] at h2
  obtain ⟨a, b, c, d, e, f, g⟩ := h2
  refine ⟨a, goodH_of b, c, d, e, fun i hi => ?_, g⟩
  have := List.all_eq_true.1 f i (by simpa using hi)
  simpa using this
theorem GoodS.is {F : Frm} {S : Sto} (g : GoodS F S) (hc : checkE F = 0) : storeE F S = 0 := by
  have hm : mayB F.ps S = true := by
    simp only [mayB, balB, Bool.and_eq_true, decide_eq_true_eq]
    exact ⟨g.years, g.heaps.is, g.used, g.waste, g.len, List.all_eq_true.2 fun i hi => by simpa using g.bal i (by simpa using hi), g.sum⟩
  unfold storeE
  rw [if_neg (by simp [hc]), if_pos hm]
theorem GoodS.partsOk {F : Frm} {S : Sto} (g : GoodS F S) : ∀ x ∈ S.heaps, ∀ p ∈ x.parts, p.ok F.ps.length := fun x hx => heapB_parts (g.heaps.each x hx)
/-- No more than 100000 loads are there of a field. -/
theorem GoodS.cap {F : Frm} {S : Sto} (g : GoodS F S) (i : Int) : ofM i S.used + leftM i S.heaps + ofM i S.waste ≤ 100000 ∧ 0 ≤ ofM i S.used ∧ 0 ≤ leftM i S.heaps ∧ 0 ≤ ofM i S.waste := by
  have h1 := fun j => ofM_pos (partsB_ok g.used) j
  have h2 := fun j => ofM_pos (partsB_ok g.waste) j
  have h3 := fun j => leftM_pos g.partsOk j
  refine ⟨?_, h1 i, h3 i, h2 i⟩
  by_cases hi : 0 ≤ i ∧ i < F.ps.length
  · have hk := (sumN_ge (f := thereM S.used S.heaps S.waste) (fun j => by have a := h1 j; have b := h2 j; have c := h3 j; unfold thereM; omega) F.ps.length).2 i.toNat (by omega)
    have e : ((i.toNat : Nat) : Int) = i := by omega
    unfold thereM at hk
    rw [e] at hk
    have := g.sum
    unfold thereM at this
    omega
  · have e1 := ofM_out (partsB_ok g.used) hi
    have e2 := ofM_out (partsB_ok g.waste) hi
    have e3 : leftM i S.heaps = 0 := by
      have hp := g.partsOk
      generalize S.heaps = l at hp
      induction l with
      | nil => rfl
      | cons x l ih =>
        simp only [leftM]
        rw [ofM_out (hp x (by simp)) hi, ih (fun y hy => hp y (by simp [hy]))]
        rfl
    omega
/-- Loads put behind others: parts that may be, where no more than 100000 loads of a field come together. -/
theorem put_good {n : Nat} {l m : List Prt} (hl : partsB n l = true) (hm : ∀ p ∈ m, p.ok n) (hc : ∀ i : Int, ofM i l + ofM i m ≤ 100000) : partsB n (putL l m) = true := by
  have hf := put_from (ok1 hm) (ok1 (partsB_ok hl))
  refine parts_of (fun p hp => (hf p hp).1) (fun p hp => ?_) (fun i => by rw [ofM_put]; exact hc i) (ap_put m (partsB_ap hl))
  rcases (hf p hp).2 with ⟨q, hq, e⟩ | ⟨q, hq, e⟩
  · rw [← e]; exact (partsB_ok hl q hq).1
  · rw [← e]; exact (hm q hq).1
theorem cutR_good {n : Nat} {l : List Prt} (hl : partsB n l = true) {k : Int} (hk : 0 ≤ k) : partsB n (cutR k l) = true := partsB_of (cutR_ok (partsB_ok hl) hk) (ap_cutR (ok1 (partsB_ok hl)) hk (partsB_ap hl))
theorem cutT_good {n : Nat} {l : List Prt} (hl : partsB n l = true) {k : Int} (hk : 0 ≤ k) : partsB n (cutT k l) = true := partsB_of (cutT_ok (partsB_ok hl)) (ap_cutT (ok1 (partsB_ok hl)) hk (partsB_ap hl))
/-- The first loads of a heap are gone. -/
theorem GoodH.move {ps : List Plt} {l : List Hep} (g : GoodH ps l) {k : Nat} {x : Hep} (hx : l[k]? = some x) {n : Int} (hn : 0 ≤ n) (h3 : x.stage = 3 → (loadsM x.parts - min n (loadsM x.parts)) % x.per = 0) : GoodH ps (moveH l k n) := by
  unfold moveH
  rw [hx]
  simp only
  split
  · exact g.erase k
  · next e =>
    obtain ⟨a, b, c, d, _, f, q, r⟩ := heapB_iff.1 (g.each x (List.mem_of_getElem? hx))
    refine g.set (y := { x with parts := cutR n x.parts }) hx rfl (heapB_iff.2 ⟨a, b, c, d, e, cutR_good f hn, crops_iff.2 fun p hp => ?_, ?_⟩)
    · obtain ⟨z, hz, ez⟩ := (cutR_from p hp).2
      rw [← ez]
      exact crops_iff.1 q z hz
    · have hlm := (loadsM_cut (ok1 (partsB_ok f)) hn).2.1
      simp only
      by_cases hs : x.stage = 3
      · rw [if_pos hs] at r ⊢
        exact ⟨r.1, by rw [hlm]; exact h3 hs⟩
      · rw [if_neg hs] at r ⊢
        exact r
end
end Go.Proofs.Ytghepojnimlafaa
namespace Go.Proofs.Ytghepojnimlafaa
section
open Go.RowKit

theorem GoodS.moved {F : Frm} {S : Sto} (g : GoodS F S) {used waste : List Prt} {heaps : List Hep} (hH : GoodH F.ps heaps) (hu : partsB F.ps.length used = true) (hw : partsB F.ps.length waste = true)
    (ht : ∀ i : Int, ofM i used + leftM i heaps + ofM i waste = ofM i S.used + leftM i S.heaps + ofM i S.waste) : GoodS F { S with used := used, waste := waste, heaps := heaps } := by
  have e : thereM used heaps waste = thereM S.used S.heaps S.waste := funext fun j => ht j
  refine ⟨g.years, hH, hu, hw, g.len, fun i hi => ?_, ?_⟩
  · show givenAt S.given i = thereM used heaps waste i
    rw [e]; exact g.bal i hi
  · show sumN (thereM used heaps waste) F.ps.length ≤ 100000
    rw [e]; exact g.sum
theorem cutT_le_of {n : Nat} {l : List Prt} (h : ∀ p ∈ l, p.ok n) {k : Int} (hk : 0 ≤ k) (i : Int) : ofM i (cutT k l) ≤ ofM i l := by
  have h1 := ofM_cut i (ok1 h) hk
  have h2 := ofM_pos (cutR_ok h hk) i
  omega
theorem look {S : Sto} {nm : ByteArray} (h : ¬ idxH S.heaps nm < 0) : ∃ (k : Nat) (x : Hep), idxH S.heaps nm = k ∧ S.heaps[k]? = some x ∧ hepAt S nm = x := by
  obtain ⟨k, x, hk, _, hx, _⟩ := idxH_at (l := S.heaps) (nm := nm) (by omega)
  exact ⟨k, x, hk, hx, hepAt_of hk hx⟩
theorem keep_use {F : Frm} {S : Sto} (g : GoodS F S) (a : Chr) (h : (useD S a).1 = 0) : GoodS F (useD S a).2 := by
  unfold useD at h ⊢
  by_cases h1 : idxH S.heaps a.name < 0
  · rw [if_pos h1] at h; simp at h
  obtain ⟨k, x, hk, hx, hp⟩ := look h1
  rw [if_neg h1, hp, hk, Int.toNat_natCast] at h ⊢
  by_cases h2 : x.stage ≠ 3
  · rw [if_pos h2] at h; simp at h
  rw [if_neg h2] at h ⊢
  by_cases h3 : isFromB a.loads 1 (loadsM x.parts / x.per) = false
  · rw [if_pos h3] at h; simp at h
  rw [if_neg h3]
  have h3 := isFromB_iff.1 (Bool.of_not_eq_false h3)
  have hst : x.stage = 3 := Decidable.of_not_not h2
  obtain ⟨_, _, _, _, _, f, _, r⟩ := heapB_iff.1 (g.heaps.each x (List.mem_of_getElem? hx))
  rw [if_pos hst] at r
  have hper := isFromB_iff.1 r.1
  have hok := partsB_ok f
  have hm0 : 0 ≤ a.loads * x.per := Int.mul_nonneg (by omega) (by omega)
  have hm1 : a.loads * x.per ≤ loadsM x.parts := Int.le_trans (Int.mul_le_mul_of_nonneg_right h3.2 (by omega)) (Int.ediv_mul_le _ (by omega))
  refine g.moved (waste := S.waste) (g.heaps.move hx hm0 fun _ => ?_) (put_good g.used (cutT_ok hok) fun i => ?_) g.waste fun i => ?_
  · rw [show min (a.loads * x.per) (loadsM x.parts) = a.loads * x.per by omega]
    exact Int.emod_eq_zero_of_dvd (Int.dvd_sub (Int.dvd_of_emod_eq_zero r.2) (Int.dvd_mul_left _ _))
  · have := cutT_le_of hok hm0 i
    have := leftM_ge g.partsOk i hx
    have := g.cap i
    omega
  · have := leftM_move i hx (ok1 hok) hm0
    rw [ofM_put]
    omega
theorem keep_rot {F : Frm} {S : Sto} (g : GoodS F S) (a : Chr) (h : (rotD F S a).1 = 0) : GoodS F (rotD F S a).2 := by
  unfold rotD at h ⊢
  by_cases h1 : idxH S.heaps a.name < 0
  · rw [if_pos h1] at h; simp at h
  obtain ⟨k, x, hk, hx, hp⟩ := look h1
  rw [if_neg h1, hp, hk, Int.toNat_natCast] at h ⊢
  by_cases h2 : x.whi ≤ F.dry
  · rw [if_pos h2] at h; simp at h
  rw [if_neg h2]
  obtain ⟨_, _, _, _, _, f, _, r⟩ := heapB_iff.1 (g.heaps.each x (List.mem_of_getElem? hx))
  have hok := partsB_ok f
  have hm0 : 0 ≤ loadsM x.parts := (loadsM_bd hok).1
  refine g.moved (used := S.used) (g.heaps.move hx hm0 fun _ => ?_) g.used (put_good g.waste (cutT_ok hok) fun i => ?_) fun i => ?_
  · rw [show loadsM x.parts - min (loadsM x.parts) (loadsM x.parts) = 0 by omega]; simp
  · have := cutT_le_of hok hm0 i
    have := leftM_ge g.partsOk i hx
    have := g.cap i
    omega
  · have := leftM_move i hx (ok1 hok) hm0
    rw [ofM_put]
    omega
theorem set_get {l : List Hep} {k : Nat} {x y : Hep} (hx : l[k]? = some x) : (l.set k y)[k]? = some y := by
  rw [List.getElem?_set, if_pos rfl, if_pos (List.getElem?_eq_some_iff.1 hx).1]
theorem keep_comb {F : Frm} {S : Sto} (g : GoodS F S) (a : Chr) (h : (combD F S a).1 = 0) : GoodS F (combD F S a).2 := by
  unfold combD at h ⊢
  by_cases h1 : idxH S.heaps a.name < 0
  · rw [if_pos h1] at h; simp at h
  obtain ⟨k, x, hk, hx, hp⟩ := look h1
  rw [if_neg h1, hp, hk, Int.toNat_natCast] at h ⊢
  by_cases h2 : ¬ (x.stage = 1 ∧ x.whi ≤ F.dry)
  · rw [if_pos h2] at h; simp at h
  rw [if_neg h2] at h ⊢
  by_cases h3 : isFromB a.loads 0 (loadsM x.parts - 1) = false
  · rw [if_pos h3] at h; simp at h
  rw [if_neg h3]
  have h3 := isFromB_iff.1 (Bool.of_not_eq_false h3)
  have hst := (Decidable.of_not_not h2).1
  obtain ⟨a1, b1, _, d1, e1, f, q1, r⟩ := heapB_iff.1 (g.heaps.each x (List.mem_of_getElem? hx))
  rw [if_neg (by omega)] at r
  have hok := partsB_ok f
  have hy : heapB F.ps { x with stage := 2 } = true := heapB_iff.2 ⟨a1, b1, by simp [isFromB], d1, e1, f, q1, by simpa using r⟩
  have hx2 := set_get (y := { x with stage := 2 }) hx
  refine g.moved (used := S.used) ((g.heaps.set (y := { x with stage := 2 }) hx rfl hy).move hx2 h3.1 fun e => ?_) g.used (put_good g.waste (cutT_ok hok) fun i => ?_) fun i => ?_
  · simp at e
  · have := cutT_le_of hok h3.1 i
    have := leftM_ge g.partsOk i hx
    have := g.cap i
    omega
  · have h5 := leftM_move i hx2 (ok1 hok) h3.1
    have h6 := leftM_set i S.heaps k x { x with stage := 2 } hx
    simp only at h5 h6 ⊢
    rw [ofM_put]
    omega
theorem keep_dry {F : Frm} {S : Sto} (g : GoodS F S) (a : Chr) (h : (dryD S a).1 = 0) : GoodS F (dryD S a).2 := by
  unfold dryD at h ⊢
  by_cases h1 : idxH S.heaps a.name < 0
  · rw [if_pos h1] at h; simp at h
  obtain ⟨k, x, hk, hx, hp⟩ := look h1
  rw [if_neg h1, hp, hk, Int.toNat_natCast] at h ⊢
  by_cases h2 : x.stage = 3
  · rw [if_pos h2] at h; simp at h
  rw [if_neg h2] at h ⊢
  by_cases h3 : ¬ (isFromB a.days 0 365 = true ∧ isSpanB a.rlo a.rhi 0 100 = true)
  · rw [if_pos h3] at h; simp at h
  rw [if_neg h3]
  obtain ⟨h4, h5⟩ := Decidable.of_not_not h3
  rw [isFromB_iff] at h4
  rw [isSpanB_iff] at h5
  obtain ⟨a1, b1, c1, d1, e1, f, q1, r⟩ := heapB_iff.1 (g.heaps.each x (List.mem_of_getElem? hx))
  rw [isSpanB_iff] at d1
  have hy : heapB F.ps { x with wlo := moistM (x.wlo - 20 * a.days + 5 * a.rlo), whi := moistM (x.whi - 10 * a.days + 15 * a.rhi) } = true :=
    heapB_iff.2 ⟨a1, b1, c1, isSpanB_iff.2 (by simp only [moistM]; omega), e1, f, q1, r⟩
  refine g.moved (used := S.used) (waste := S.waste) (g.heaps.set hx rfl hy) g.used g.waste fun i => ?_
  have h6 := leftM_set i S.heaps k x { x with wlo := moistM (x.wlo - 20 * a.days + 5 * a.rlo), whi := moistM (x.whi - 10 * a.days + 15 * a.rhi) } hx
  simp only at h6 ⊢
  omega
theorem keep_year {F : Frm} {S : Sto} (g : GoodS F S) (h : (yearD S).1 = 0) : GoodS F (yearD S).2 := by
  unfold yearD at h ⊢
  by_cases h1 : S.year < 100
  · rw [if_pos h1]
    refine ⟨?_, g.heaps, g.used, g.waste, g.len, g.bal, g.sum⟩
    have hy := g.years
    simp only [yearsB, Bool.and_eq_true, decide_eq_true_eq, List.all_eq_true] at hy ⊢
    obtain ⟨h2, h3, h4⟩ := hy
    rw [isFromB_iff] at h2
    refine ⟨isFromB_iff.2 (by omega), h3, fun x hx => ?_⟩
    have := isFromB_iff.1 (h4 x hx)
    exact isFromB_iff.2 (by omega)
  · rw [if_neg h1] at h; simp at h
end
end Go.Proofs.Ytghepojnimlafaa
namespace Go.Proofs.Ytghepojnimlafaa
section
open Go.RowKit

theorem no_name {l : List Hep} {nm : ByteArray} (h : idxH l nm < 0) : ∀ f ∈ l, strB f.name nm = false := fun f hf => by
  rw [Bool.eq_false_iff]
  intro hs
  obtain ⟨i, hi, rfl⟩ := List.getElem_of_mem hf
  have := of_decide_eq_true (idxH_some (List.getElem?_eq_getElem hi) hs)
  omega
theorem idx_of_no {l : List Hep} {nm : ByteArray} (h : ∀ f ∈ l, strB f.name nm = false) : idxH l nm < 0 := by
  have := of_decide_eq_false (idxH_none h)
  omega
theorem move_names {l : List Hep} {k : Nat} {n : Int} : ∀ h ∈ moveH l k n, ∃ f ∈ l, f.name = h.name := by
  intro h hh
  unfold moveH at hh
  cases hx : l[k]? with
  | none => rw [hx] at hh; exact ⟨h, hh, rfl⟩
  | some x =>
    rw [hx] at hh
    simp only at hh
    split at hh
    · exact ⟨h, List.mem_of_mem_eraseIdx hh, rfl⟩
    · rcases List.mem_or_eq_of_mem_set hh with hh | rfl
      · exact ⟨h, hh, rfl⟩
      · exact ⟨x, List.mem_of_getElem? hx, rfl⟩
theorem move_le (l : List Hep) (k : Nat) (n : Int) : (moveH l k n).length ≤ l.length := by
  unfold moveH
  split
  · split
    · exact List.length_eraseIdx_le l k
    · simp
  · exact Nat.le_refl _
theorem cutR_all {l : List Prt} (h : ∀ p ∈ l, 1 ≤ p.loads) : cutR (loadsM l) l = [] := by
  have h0 := (loadsM_cut h (Int.le_refl 0)).2.2
  have h1 := (loadsM_cut h h0).2.1
  cases hc : cutR (loadsM l) l with
  | nil => rfl
  | cons p m =>
    have h2 := (cutR_from (l := l) (n := loadsM l) p (by rw [hc]; simp)).1
    have h3 := (loadsM_cut (l := m) (fun q hq => (cutR_from (l := l) (n := loadsM l) q (by rw [hc]; simp [hq])).1) (Int.le_refl 0)).2.2
    rw [hc] at h1
    simp only [loadsM] at h1
    omega
theorem move_lt {l : List Hep} {k : Nat} {x : Hep} (hx : l[k]? = some x) (h : ∀ p ∈ x.parts, 1 ≤ p.loads) : (moveH l k (loadsM x.parts)).length < l.length := by
  have hk := (List.getElem?_eq_some_iff.1 hx).1
  unfold moveH
  rw [hx]
  simp only
  rw [if_pos (cutR_all h), List.length_eraseIdx, if_pos hk]
  omega
theorem keep_join {F : Frm} {S : Sto} (g : GoodS F S) (a : Chr) (h : (joinD S a).1 = 0) : GoodS F (joinD S a).2 := by
  unfold joinD at h ⊢
  by_cases h1 : idxH S.heaps a.name < 0
  · rw [if_pos h1] at h; simp at h
  obtain ⟨k, x, hk, hx, hp⟩ := look h1
  rw [if_neg h1] at h ⊢
  by_cases h2 : idxH S.heaps a.other < 0
  · rw [if_pos h2] at h; simp at h
  obtain ⟨j, y, hj, hy, hq⟩ := look h2
  rw [if_neg h2, hp, hq, hk, hj, Int.toNat_natCast, Int.toNat_natCast] at h ⊢
  by_cases h3 : (k : Int) = (j : Int)
  · rw [if_pos h3] at h; simp at h
  rw [if_neg h3] at h ⊢
  by_cases h4 : ¬ (x.crop = y.crop ∧ x.stage = y.stage ∧ x.stage ≠ 3)
  · rw [if_pos h4] at h; simp at h
  rw [if_neg h4]
  obtain ⟨e1, e2, e3⟩ := Decidable.of_not_not h4
  have hkj : k ≠ j := fun e => h3 (by rw [e])
  obtain ⟨a1, b1, c1, d1, p1, f1, q1, r1⟩ := heapB_iff.1 (g.heaps.each x (List.mem_of_getElem? hx))
  obtain ⟨_, _, _, d2, p2, f2, q2, _⟩ := heapB_iff.1 (g.heaps.each y (List.mem_of_getElem? hy))
  rw [isSpanB_iff] at d1 d2
  have hyz : ∀ z, (S.heaps.set k z)[j]? = some y := fun z => by rw [List.getElem?_set, if_neg hkj]; exact hy
  have hsum : ∀ i : Int, ofM i x.parts + ofM i y.parts ≤ 100000 := fun i => by
    have t1 := leftM_set i S.heaps k x { x with parts := [] } hx
    have t2 := leftM_erase i _ j y (hyz { x with parts := [] })
    have t3 := leftM_pos (n := F.ps.length) (l := (S.heaps.set k { x with parts := [] }).eraseIdx j) (fun w hw p hpw => by
      have hw2 := List.mem_of_mem_eraseIdx hw
      rcases List.mem_or_eq_of_mem_set hw2 with hw2 | rfl
      · exact g.partsOk w hw2 p hpw
      · simp at hpw) i
    have := g.cap i
    simp only [ofM] at t1
    omega
  have hz : heapB F.ps { x with parts := putL x.parts y.parts, wlo := min x.wlo y.wlo, whi := max x.whi y.whi } = true := by
    refine heapB_iff.2 ⟨a1, b1, c1, isSpanB_iff.2 (by simp only; omega), ?_, put_good f1 (partsB_ok f2) hsum, ?_, ?_⟩
    · intro e
      have t := fun i => ofM_put i y.parts x.parts
      simp only at e
      rw [e] at t
      obtain ⟨b, l, hb⟩ := List.exists_cons_of_ne_nil p1
      have t1 := t b.plot
      have t2 := le_of (ok1 (partsB_ok f1)) b (by rw [hb]; simp)
      have t3 := (partsB_ok f1 b (by rw [hb]; simp)).2.1
      have t4 := ofM_pos (partsB_ok f2) b.plot
      simp only [ofM] at t1
      omega
    · refine crops_iff.2 fun p hp => ?_
      rcases (put_from (ok1 (partsB_ok f2)) (ok1 (partsB_ok f1)) p hp).2 with ⟨z, hz, ez⟩ | ⟨z, hz, ez⟩
      · rw [← ez]; exact crops_iff.1 q1 z hz
      · rw [← ez]; exact (crops_iff.1 q2 z hz).trans e1.symm
    · rw [if_neg e3] at r1
      simp only
      rw [if_neg e3]
      exact r1
  refine g.moved (used := S.used) (waste := S.waste) ((g.heaps.set (y := { x with parts := putL x.parts y.parts, wlo := min x.wlo y.wlo, whi := max x.whi y.whi }) hx rfl hz).erase j) g.used g.waste fun i => ?_
  have t1 := leftM_set i S.heaps k x { x with parts := putL x.parts y.parts, wlo := min x.wlo y.wlo, whi := max x.whi y.whi } hx
  have t2 := leftM_erase i _ j y (hyz { x with parts := putL x.parts y.parts, wlo := min x.wlo y.wlo, whi := max x.whi y.whi })
  have t3 := ofM_put i y.parts x.parts
  simp only at t1 t2 ⊢
  omega
theorem keep_bind {F : Frm} {S : Sto} (g : GoodS F S) (a : Chr) (h : (bindD F S a).1 = 0) : GoodS F (bindD F S a).2 := by
  unfold bindD at h ⊢
  by_cases h1 : idxH S.heaps a.name < 0
  · rw [if_pos h1] at h; simp at h
  obtain ⟨k, x, hk, hx, hp⟩ := look h1
  rw [if_neg h1, hp, hk, Int.toNat_natCast] at h ⊢
  by_cases h2 : nameB a.other = false
  · rw [if_pos h2] at h; simp at h
  rw [if_neg h2] at h ⊢
  by_cases h3 : 0 ≤ idxH S.heaps a.other
  · rw [if_pos h3] at h; simp at h
  rw [if_neg h3] at h ⊢
  by_cases h4 : ¬ (x.stage = 2 ∧ x.whi ≤ F.dry)
  · rw [if_pos h4] at h; simp at h
  rw [if_neg h4] at h ⊢
  by_cases h5 : isFromB a.per 1 100 = false
  · rw [if_pos h5] at h; simp at h
  rw [if_neg h5] at h ⊢
  by_cases h6 : loadsM x.parts < a.per
  · rw [if_pos h6] at h; simp at h
  rw [if_neg h6] at h ⊢
  by_cases h7 : ¬ (loadsM x.parts % a.per = 0 ∨ (S.heaps.length : Int) < 16)
  · rw [if_pos h7] at h; simp at h
  rw [if_neg h7]
  have h5 := isFromB_iff.1 (Bool.of_not_eq_false h5)
  have h7 := Decidable.of_not_not h7
  have hst := (Decidable.of_not_not h4).1
  obtain ⟨a1, b1, c1, d1, p1, f1, q1, r1⟩ := heapB_iff.1 (g.heaps.each x (List.mem_of_getElem? hx))
  have hok := partsB_ok f1
  have hr0 := Int.emod_nonneg (loadsM x.parts) (show a.per ≠ 0 by omega)
  have hr1 := Int.emod_lt_of_pos (loadsM x.parts) (show 0 < a.per by omega)
  have hdv : a.per ∣ loadsM x.parts - loadsM x.parts % a.per := Int.dvd_self_sub_emod
  have hlen : (moveH S.heaps k (loadsM x.parts - loadsM x.parts % a.per)).length < 16 := by
    rcases h7 with e | e
    · rw [e, Int.sub_zero]
      have := move_lt hx (ok1 hok)
      have := g.heaps.few
      omega
    · have := move_le S.heaps k (loadsM x.parts - loadsM x.parts % a.per)
      omega
  have hm0 : 1 ≤ loadsM x.parts - loadsM x.parts % a.per := by
    generalize loadsM x.parts % a.per = r at hr0 hr1
    omega
  have hm1 : loadsM x.parts - loadsM x.parts % a.per ≤ loadsM x.parts := by
    generalize loadsM x.parts % a.per = r at hr0 hr1
    omega
  generalize loadsM x.parts - loadsM x.parts % a.per = m at *
  have hcut := loadsM_cut (ok1 hok) (show 0 ≤ m by omega)
  have hN : heapB F.ps ⟨a.other, x.crop, 3, none, 0, cutT m x.parts, a.per, x.wlo, x.whi⟩ = true := by
    refine heapB_iff.2 ⟨Bool.of_not_eq_false h2, b1, by simp [isFromB], d1, ?_, cutT_good f1 (by omega), crops_iff.2 fun p hp => ?_, ?_⟩
    · intro e
      simp only at e
      rw [e] at hcut
      simp only [loadsM] at hcut
      omega
    · obtain ⟨z, hz, ez⟩ := (cutT_from p hp).2
      rw [← ez]; exact crops_iff.1 q1 z hz
    · simp only [if_true]
      refine ⟨isFromB_iff.2 h5, ?_⟩
      rw [hcut.1, show min m (loadsM x.parts) = m by omega]
      exact Int.emod_eq_zero_of_dvd hdv
  refine g.moved (used := S.used) (waste := S.waste) ((g.heaps.move hx (by omega) fun e => absurd e (by omega)).snoc hlen hN (idx_of_no fun f hf => ?_)) g.used g.waste fun i => ?_
  · obtain ⟨z, hz, ez⟩ := move_names f hf
    rw [← ez]
    exact no_name (nm := a.other) (by omega) z hz
  · have := leftM_move i hx (ok1 hok) (show 0 ≤ m by omega)
    rw [leftM_append]
    simp only [leftM]
    omega
end
end Go.Proofs.Ytghepojnimlafaa
namespace Go.Proofs.Ytghepojnimlafaa
section
open Go.RowKit

theorem plt_span {F : Frm} (h : checkE F = 0) : ∀ p ∈ F.ps, isSpanB p.wlo p.whi 0 1000 = true := by
  intro p hp
  unfold checkE at h
  split at h
  · cases h
  next h1 =>
    split at h
    · next h2 => exact absurd h h2
    next h2 =>
      obtain ⟨i, hi, rfl⟩ := List.getElem_of_mem hp
      have := firstNZ_all (show firstNZ _ _ = 0 from Decidable.of_not_not h2) i hi
      rw [List.getElem?_eq_getElem hi] at this
      exact (plotE_ok this).2.2.2.2.1
theorem sum_there {F : Frm} {S : Sto} (g : GoodS F S) : sumN (thereM S.used S.heaps S.waste) F.ps.length = allM S ∧ 0 ≤ allM S := by
  have e : sumN (thereM S.used S.heaps S.waste) F.ps.length = allM S := by
    show sumN (fun i : Nat => (ofM i S.used + leftM i S.heaps) + ofM i S.waste) F.ps.length = _
    rw [sumN_add (fun i : Nat => ofM i S.used + leftM i S.heaps) (fun i : Nat => ofM i S.waste), sumN_add (fun i : Nat => ofM i S.used) (fun i : Nat => leftM i S.heaps), sum_of (partsB_ok g.used), sum_left g.partsOk, sum_of (partsB_ok g.waste)]
    unfold allM
    omega
  refine ⟨e, ?_⟩
  rw [← e]
  exact (sumN_ge (fun j => by have := g.cap j; unfold thereM; omega) _).1
theorem keep_cut {F : Frm} {S : Sto} (hc : checkE F = 0) (g : GoodS F S) (a : Chr) (h : (cutD F S a).1 = 0) : GoodS F (cutD F S a).2 := by
  unfold cutD at h ⊢
  by_cases h1 : isFromB a.plot 0 ((F.ps.length : Int) - 1) = false
  · rw [if_pos h1] at h; simp at h
  rw [if_neg h1] at h ⊢
  by_cases h2 : nameB a.name = false
  · rw [if_pos h2] at h; simp at h
  rw [if_neg h2] at h ⊢
  by_cases h3 : 0 ≤ idxH S.heaps a.name
  · rw [if_pos h3] at h; simp at h
  rw [if_neg h3] at h ⊢
  by_cases h4 : ¬ (intAt S.last a.plot.toNat < 0 ∨ intAt S.last a.plot.toNat ≤ S.year - (pltAt F.ps a.plot.toNat).rest)
  · rw [if_pos h4] at h; simp at h
  rw [if_neg h4] at h ⊢
  by_cases h5 : ¬ (a.loads ≠ 0 ∧ isFromB a.loads ((pltAt F.ps a.plot.toNat).size * (pltAt F.ps a.plot.toNat).ylo) ((pltAt F.ps a.plot.toNat).size * (pltAt F.ps a.plot.toNat).yhi) = true)
  · rw [if_pos h5] at h; simp at h
  rw [if_neg h5] at h ⊢
  by_cases h6 : ¬ ((S.heaps.length : Int) < 16 ∧ allM S + a.loads ≤ 100000)
  · rw [if_pos h6] at h; simp at h
  rw [if_neg h6]
  have h1 := isFromB_iff.1 (Bool.of_not_eq_false h1)
  obtain ⟨h5, h7⟩ := Decidable.of_not_not h5
  obtain ⟨h6, h8⟩ := Decidable.of_not_not h6
  have hk : a.plot.toNat < F.ps.length := by omega
  have ek : ((a.plot.toNat : Nat) : Int) = a.plot := by omega
  have hq : pltAt F.ps a.plot.toNat = F.ps[a.plot.toNat] := by unfold pltAt; rw [List.getElem?_eq_getElem hk]; rfl
  have hmem : F.ps[a.plot.toNat] ∈ F.ps := List.getElem_mem hk
  have hpok := (checkE_ok hc).2 _ hmem
  have hspan := plt_span hc _ hmem
  have hcrop : cropAt F.ps a.plot = (pltAt F.ps a.plot.toNat).crop := by unfold cropAt; rw [List.getElem?_eq_getElem hk, hq]
  rw [← hq] at hpok hspan
  generalize pltAt F.ps a.plot.toNat = P at *
  obtain ⟨⟨c1, c2⟩, ⟨s1, _⟩, ⟨y1, _⟩, _⟩ := hpok
  have hl1 : 1 ≤ a.loads := by
    have := (isFromB_iff.1 h7).1
    have h0 : 0 ≤ P.size * P.ylo := Int.mul_nonneg (by omega) y1
    omega
  obtain ⟨hsum, hall⟩ := sum_there g
  have hN : heapB F.ps ⟨a.name, P.crop, 1, none, 0, [⟨a.plot, a.loads⟩], 0, P.wlo, P.whi⟩ = true := by
    refine heapB_iff.2 ⟨Bool.of_not_eq_false h2, isFromB_iff.2 ⟨c1, c2⟩, by simp [isFromB], hspan, by simp, partsB_of (fun p hp => ?_) ⟨by simp, trivial⟩, crops_iff.2 fun p hp => ?_, by simp⟩
    · obtain rfl := List.mem_singleton.1 hp
      exact ⟨⟨h1.1, by show a.plot < _; omega⟩, hl1, by show a.loads ≤ 100000; omega⟩
    · obtain rfl := List.mem_singleton.1 hp
      exact hcrop
  have e : thereM S.used (S.heaps ++ [⟨a.name, P.crop, 1, none, 0, [⟨a.plot, a.loads⟩], 0, P.wlo, P.whi⟩]) S.waste = fun i : Nat => thereM S.used S.heaps S.waste i + (if a.plot = (i : Int) then a.loads else 0) := by
    funext i
    unfold thereM
    rw [leftM_append]
    simp only [leftM, ofM]
    omega
  refine ⟨?_, g.heaps.snoc (by omega) hN (by show idxH S.heaps a.name < 0; omega), g.used, g.waste, by simp [g.len], fun i hi => ?_, ?_⟩
  · have hy := g.years
    simp only [yearsB, Bool.and_eq_true, decide_eq_true_eq, List.all_eq_true] at hy ⊢
    obtain ⟨h9, h10, h11⟩ := hy
    refine ⟨h9, by simp [h10], fun x hx => ?_⟩
    rcases List.mem_or_eq_of_mem_set hx with hx | rfl
    · exact h11 x hx
    · have := isFromB_iff.1 h9
      exact isFromB_iff.2 (by omega)
  · show givenAt (S.given.set a.plot.toNat (intAt S.given a.plot.toNat + a.loads)) i = thereM S.used (S.heaps ++ _) S.waste i
    rw [e]
    dsimp only
    have hb := g.bal i hi
    have hlen := g.len
    unfold givenAt at hb ⊢
    rw [List.getElem?_set]
    by_cases hki : a.plot.toNat = i
    · subst hki
      rw [if_pos rfl, if_pos (by omega)]
      simp only [Option.getD_some, intAt]
      rw [hb, if_pos ek.symm]
    · rw [if_neg hki, if_neg (by omega), hb]
      omega
  · show sumN (thereM S.used (S.heaps ++ _) S.waste) F.ps.length ≤ 100000
    rw [e, sumN_add (fun i : Nat => thereM S.used S.heaps S.waste i) (fun i : Nat => if a.plot = (i : Int) then a.loads else 0), sumN_one, if_pos ⟨h1.1, by omega⟩]
    have : sumN (fun i : Nat => thereM S.used S.heaps S.waste i) F.ps.length = allM S := hsum
    omega
theorem keep_do {F : Frm} {S : Sto} {a : Chr} (h : (doD F S a).1 = 0) : storeE F (doD F S a).2 = 0 := by
  unfold doD at h ⊢
  by_cases h1 : ¬ storeE F S = 0
  · rw [if_pos h1] at h; exact absurd h h1
  rw [if_neg h1] at h ⊢
  have h1 := Decidable.of_not_not h1
  have g := goodS_of h1
  have hc := (storeE_zero h1).1
  by_cases h2 : ¬ (1 ≤ a.kind ∧ a.kind ≤ 8 ∧ chrB a (namedM a) = true)
  · rw [if_pos h2] at h; simp at h
  rw [if_neg h2] at h ⊢
  refine GoodS.is ?_ hc
  unfold choreD at h ⊢
  by_cases k1 : a.kind = 1
  · rw [if_pos k1] at h ⊢; exact keep_year g h
  rw [if_neg k1] at h ⊢
  by_cases k2 : a.kind = 2
  · rw [if_pos k2] at h ⊢; exact keep_cut hc g a h
  rw [if_neg k2] at h ⊢
  by_cases k3 : a.kind = 3
  · rw [if_pos k3] at h ⊢; exact keep_dry g a h
  rw [if_neg k3] at h ⊢
  by_cases k4 : a.kind = 4
  · rw [if_pos k4] at h ⊢; exact keep_comb g a h
  rw [if_neg k4] at h ⊢
  by_cases k5 : a.kind = 5
  · rw [if_pos k5] at h ⊢; exact keep_join g a h
  rw [if_neg k5] at h ⊢
  by_cases k6 : a.kind = 6
  · rw [if_pos k6] at h ⊢; exact keep_bind g a h
  rw [if_neg k6] at h ⊢
  by_cases k7 : a.kind = 7
  · rw [if_pos k7] at h ⊢; exact keep_use g a h
  rw [if_neg k7] at h ⊢
  exact keep_rot g a h
end
end Go.Proofs.Ytghepojnimlafaa
namespace Go.Proofs.Ytghepojnimlafaa
section
open Go.RowKit

theorem rowI_made (n : Nat) : madeCells (Value.int .i64 0).cells (n * 1) = rowI n (fun _ => 0) := by
  apply Array.ext_getElem?
  intro i
  unfold madeCells rowI
  by_cases hi : i < n
  · simp [hi, Value.cells, Nat.mod_one]
  · simp [hi, Value.cells]
/-- A row of numbers is a list of numbers in memory. -/
theorem isNums_row {w : World} {K n c : Nat} {g : Nat → Int} {t : TypeId} (h : Blk w K (rowI n g) t) (hc : n ≤ c) (hc2 : c ≤ 9223372036854775807) : IsNums w (some ⟨K, 0, none⟩) c ((List.range n).map g) := by
  refine .inr ⟨K, 0, rfl, h.lt, by simpa using hc, hc2, fun j x hj => ?_⟩
  have hjn : j < n := by
    rcases Nat.lt_or_ge j n with h | h
    · exact h
    · rw [List.getElem?_eq_none (by simpa using h)] at hj; cases hj
  have : x = g j := by simp [hjn] at hj; exact hj.symm
  subst this
  show w.cell? ⟨K, 0 + j * 1, none⟩ = _
  rw [Nat.zero_add, Nat.mul_one, h.cell, rowI_at hjn]

theorem blk3_0 (w : World) (t : TypeId) (cs : Array Value) (o1 o2 : Obj) : Blk (((w.alloc (.cells cs t)).alloc o1).alloc o2).drew w.heap.size cs t := (((Blk.new w t cs).alloc o1).alloc o2).drew
theorem blk3_1 (w : World) (t : TypeId) (cs : Array Value) (o1 o2 : Obj) : Blk (((w.alloc o1).alloc (.cells cs t)).alloc o2).drew (w.heap.size + 1) cs t := by
  have := ((Blk.new (w.alloc o1) t cs).alloc o2).drew
  rwa [World.size_alloc] at this
theorem blk3_2 (w : World) (t : TypeId) (cs : Array Value) (o1 o2 : Obj) : Blk (((w.alloc o1).alloc o2).alloc (.cells cs t)).drew (w.heap.size + 1 + 1) cs t := by
  have := (Blk.new ((w.alloc o1).alloc o2) t cs).drew
  rwa [World.size_alloc, World.size_alloc] at this
theorem bel3 (w : World) (o1 o2 o3 : Obj) : Below w.heap.size w (((w.alloc o1).alloc o2).alloc o3).drew := ((((Below.refl _ w).alloc (by simp) _).alloc (by simp) _).alloc (by simp; omega) _).drew
theorem cut3 {w2 wx : World} {n K1 K2 D : Nat} (hD : Blk wx D #[.int .i64 0, .slice (some ⟨K1, 0, none⟩) n n, .slice (some ⟨K2, 0, none⟩) n n, .slice none 0 0, .slice none 0 0, .slice none 0 0] 45)
    (h1 : Blk wx K1 (rowI n (fun _ => 0)) 3) (h2 : Blk wx K2 (rowI n (fun _ => 0)) 3) (hn : K1 ≠ K2 ∧ K1 ≠ D ∧ K2 ≠ D) (hb : w2.heap.size ≤ K1 ∧ w2.heap.size ≤ K2 ∧ w2.heap.size ≤ D) (hl : Below w2.heap.size w2 wx) :
    ∃ K1' K2' D', Value.pointer (some ⟨D, 0, none⟩) = .pointer (some ⟨D', 0, none⟩) ∧ Blk wx K1' (rowI n (fun _ => 0)) 3 ∧ Blk wx K2' (rowI n (fun _ => 0)) 3 ∧
      Blk wx D' #[.int .i64 0, .slice (some ⟨K1', 0, none⟩) n n, .slice (some ⟨K2', 0, none⟩) n n, .slice none 0 0, .slice none 0 0, .slice none 0 0] 45 ∧ (K1' ≠ K2' ∧ K1' ≠ D' ∧ K2' ≠ D') ∧ (w2.heap.size ≤ K1' ∧ w2.heap.size ≤ K2' ∧ w2.heap.size ≤ D') ∧ Below w2.heap.size w2 wx :=
  ⟨K1, K2, D, rfl, h1, h2, hD, hn, hb, hl⟩
/-- The first store, in memory. -/
def FirstSto (w : World) (n : Nat) (v : Value) : Prop := ∃ K1 K2 c1 c2, v = .agg #[.int .i64 0, .slice K1 n c1, .slice K2 n c2, .slice none 0 0, .slice none 0 0, .slice none 0 0] ∧
  IsNums w K1 c1 (List.replicate n (-1)) ∧ IsNums w K2 c2 (List.replicate n 0)

/-- What New returns. -/
def NewSaid (F : Frm) (e : Ending) (w' : World) : Prop := (¬ checkE F = 0 ∧ e = .returned (.tuple #[.agg #[.int .i64 0, .slice none 0 0, .slice none 0 0, .slice none 0 0, .slice none 0 0, .slice none 0 0], .int .i64 (checkE F)])) ∨
  (checkE F = 0 ∧ ∃ v, e = .returned (.tuple #[v, .int .i64 0]) ∧ FirstSto w' F.ps.length v)

set_option maxRecDepth 100000 in
set_option maxHeartbeats 8000000 in
theorem new_any (F : Frm) (w : World) (hF : IsFarm w F) :
    Calls Try.prog 8 #[.agg #[.slice F.pa F.ps.length F.pc, .int .i64 F.dry]] w
      fun e w' => NewSaid F e w' ∧ Below w.heap.size w w' := by
  obtain ⟨i0, hi, hz0, hz1, hz2⟩ := info_parts info_int'
  have HF := Lib.hid hF
  clear hF
  have kF := (Blk.new w 24 (frmC F)).alloc (.cells #[.int .i64 0, .slice none 0 0, .slice none 0 0, .slice none 0 0, .slice none 0 0, .slice none 0 0] 45)
  have kR := Blk.new (w.alloc (.cells (frmC F) 24)) 45 #[.int .i64 0, .slice none 0 0, .slice none 0 0, .slice none 0 0, .slice none 0 0, .slice none 0 0]
  have hB : Below w.heap.size w ((w.alloc (.cells (frmC F) 24)).alloc (.cells #[.int .i64 0, .slice none 0 0, .slice none 0 0, .slice none 0 0, .slice none 0 0, .slice none 0 0] 45)) := ((Below.refl _ w).alloc (by simp) _).alloc (by simp) _
  simp only [World.size_alloc] at kR
  unfold frmC at kF kR hB
  go_enter Try.func8, Try.ntmps8
  go_upto_region 1 with fail
  generalize ((w.alloc (.cells #[.slice F.pa F.ps.length F.pc, .int .i64 F.dry] 24)).alloc (.cells #[.int .i64 0, .slice none 0 0, .slice none 0 0, .slice none 0 0, .slice none 0 0, .slice none 0 0] 45)) = w1 at *
  have hltF := kF.lt
  obtain ⟨f0, f1⟩ := frm_cells kF
  go_wp2_with fail
  refine (check_any F _ (HF.out.below hB)).mono ?_
  rintro e w2 ⟨rfl, hb⟩
  have hB1 := hB.trans (hb.mono hB.size)
  have kF1 := kF.belowS hb
  have kR1 := kR.belowS hb
  clear f0 f1 hltF hb kF kR hB
  by_cases hE : checkE F = 0
  · obtain ⟨hn, _⟩ := checkE_ok hE
    have hmk := fun w => run_make (P := Try.prog) w 41 3 i0 (.int .i64 0) Try.underlying41 hi hz0 .i64 .i64 (F.ps.length : Int) (F.ps.length : Int) (by omega) (by omega) (by rw [hz2]; omega) (by omega)
    simp only [Int.toNat_natCast, hz1, rowI_made] at hmk
    have HE := Lib.hid hE
    rw [hE]
    have z1 : ((0 : Int) == 0) = true := rfl
    have lF := kF1.lt
    obtain ⟨f0, f1⟩ := frm_cells kF1
    clear hE
    go_upto_region 4 with fail
    go_cut [5] from 13 to 22 (fun s5 wx => ∃ K1 K2 D, s5 = .pointer (some ⟨D, 0, none⟩) ∧ Blk wx K1 (rowI F.ps.length (fun _ => 0)) 3 ∧ Blk wx K2 (rowI F.ps.length (fun _ => 0)) 3 ∧
      Blk wx D #[.int .i64 0, .slice (some ⟨K1, 0, none⟩) F.ps.length F.ps.length, .slice (some ⟨K2, 0, none⟩) F.ps.length F.ps.length, .slice none 0 0, .slice none 0 0, .slice none 0 0] 45 ∧ (K1 ≠ K2 ∧ K1 ≠ D ∧ K2 ≠ D) ∧ (w2.heap.size ≤ K1 ∧ w2.heap.size ≤ K2 ∧ w2.heap.size ≤ D) ∧ Below w2.heap.size w2 wx)
    case first =>
      have hstep : ∀ w', Below w2.heap.size w2 w' → Below w2.heap.size w2 w' ∧ (w'.cell? ⟨w.heap.size, 0, none⟩ = some (.slice F.pa F.ps.length F.pc) ∧ w'.cell? ⟨w.heap.size, 1, none⟩ = some (.int .i64 F.dry)) := fun w' h => ⟨h, (h.cell (p := ⟨w.heap.size, 0, none⟩) lF).trans f0, (h.cell (p := ⟨w.heap.size, 1, none⟩) lF).trans f1⟩
      have HSTEP := Lib.hid hstep
      clear hstep f0 f1
      go_region_held3 (fun w' => Below w2.heap.size w2 w' ∧ (w'.cell? ⟨w.heap.size, 0, none⟩ = some (.slice F.pa F.ps.length F.pc) ∧ w'.cell? ⟨w.heap.size, 1, none⟩ = some (.int .i64 F.dry)))
        ((refine HSTEP.out _ ?_; repeat (first | (with_reducible exact Below.refl _ _) | (with_reducible refine bel_alloc ?_ _) | (with_reducible refine bel_drew ?_))))
        (rw [hmk])
      all_goals
        go_wp2_with fail
        go_meet
        apply cut3
        case hD => first | exact blk3_0 _ _ _ _ _ | exact blk3_1 _ _ _ _ _ | exact blk3_2 _ _ _ _ _
        case h1 => first | exact blk3_0 _ _ _ _ _ | exact blk3_1 _ _ _ _ _ | exact blk3_2 _ _ _ _ _
        case h2 => first | exact blk3_0 _ _ _ _ _ | exact blk3_1 _ _ _ _ _ | exact blk3_2 _ _ _ _ _
        case hn => exact ⟨by omega, by omega, by omega⟩
        case hb => exact ⟨by omega, by omega, by omega⟩
        case hl => exact bel3 _ _ _ _
    case rest =>
      obtain ⟨K1, K2, D, rfl, k1, k2, kD, ⟨n12, n1D, n2D⟩, ⟨b1, b2, bD⟩, hcb⟩ := hcut
      have kR2 := kR1.belowS hcb
      have hB2 := hB1.trans (hcb.mono hB1.size)
      have hw2 := hB1.size
      have hR2 : w.heap.size + 1 < w2.heap.size := kR1.lt
      obtain ⟨w4, rfl⟩ : ∃ w4 : World, w4 = wc := ⟨_, rfl⟩
      have d1 := kD.cell 1
      have lD := kD.lt
      simp only [List.getElem?_toArray, List.getElem?_cons_zero, List.getElem?_cons_succ] at d1
      clear f0 f1 lF kF1 kR1
      go_wp2_with fail
      go_loopw [25, 6] (fun i _ wr => ∃ j : Nat, j ≤ F.ps.length ∧ i = .int .i64 j ∧ Blk wr K1 (rowI F.ps.length (fun k => if k < j then -1 else 0)) 3 ∧ Blk wr K2 (rowI F.ps.length (fun _ => 0)) 3 ∧
        Blk wr D #[.int .i64 0, .slice (some ⟨K1, 0, none⟩) F.ps.length F.ps.length, .slice (some ⟨K2, 0, none⟩) F.ps.length F.ps.length, .slice none 0 0, .slice none 0 0, .slice none 0 0] 45 ∧
        Blk wr (w.heap.size + 1) #[.int .i64 0, .slice none 0 0, .slice none 0 0, .slice none 0 0, .slice none 0 0, .slice none 0 0] 45 ∧ Below w.heap.size w wr) (fun i _ _ => F.ps.length - (intOf i).toNat)
      case atStart => exact ⟨0, Nat.zero_le _, rfl, k1, k2, kD, kR2, hB2⟩
      case round =>
        obtain ⟨j, hj, rfl, g1, g2, gD, gR, gb⟩ := hrel
        clear k1 k2 kD kR2 d1 lD
        have d1 := gD.cell 1
        have lD := gD.lt
        have lR := gR.lt
        simp only [List.getElem?_toArray, List.getElem?_cons_zero, List.getElem?_cons_succ] at d1
        by_cases hlj : j < F.ps.length
        · have hj0 : (0 : Int) ≤ (j : Int) := Int.natCast_nonneg _
          have hj1 : (j : Int) < (F.ps.length : Int) := by omega
          have a2 := (g1.cell j).trans (rowI_at hlj)
          have a3 := g1.frozen j
          have l1 := g1.lt
          go_wp2_with fail
          refine ⟨⟨j + 1, by omega, by simp, ?_, g2.other (Ne.symm n12) _, gD.other (Ne.symm n1D) _, gR.other (by omega) _, gb.setCell (p := ⟨K1, j, none⟩) (by show w.heap.size ≤ K1; exact Nat.le_trans hw2 b1) _⟩, by simp [intOf]; omega⟩
          have := g1.set j (.int .i64 (-1))
          rw [rowI_set] at this
          have hfx : (fun k => if k = j then (-1 : Int) else if k < j then -1 else 0) = fun k => if k < j + 1 then -1 else 0 := by
            funext k
            by_cases h : k = j
            · rw [if_pos h, if_pos (by omega)]
            · rw [if_neg h]
              by_cases h2 : k < j
              · rw [if_pos h2, if_pos (by omega)]
              · rw [if_neg h2, if_neg (by omega)]
          rw [hfx] at this
          exact this
        · obtain rfl : j = F.ps.length := by omega
          have d0 := gD.cell 0
          have d2 := gD.cell 2
          have d3 := gD.cell 3
          have d4 := gD.cell 4
          have d5 := gD.cell 5
          have r0 := gR.cell 0
          have r1 := gR.cell 1
          have r2 := gR.cell 2
          have r3 := gR.cell 3
          have r4 := gR.cell 4
          have r5 := gR.cell 5
          have t0 := gR.frozen 0
          have t1 := gR.frozen 1
          have t2 := gR.frozen 2
          have t3 := gR.frozen 3
          have t4 := gR.frozen 4
          have t5 := gR.frozen 5
          simp only [List.getElem?_toArray, List.getElem?_cons_zero, List.getElem?_cons_succ] at d0 d2 d3 d4 d5 r0 r1 r2 r3 r4 r5
          go_wp2_with fail
          have e1 : Blk ((((((wr.setCell ⟨w.heap.size + 1, 0, none⟩ (.int .i64 0)).setCell ⟨w.heap.size + 1, 1, none⟩ (.slice (some ⟨K1, 0, none⟩) F.ps.length F.ps.length)).setCell ⟨w.heap.size + 1, 2, none⟩ (.slice (some ⟨K2, 0, none⟩) F.ps.length F.ps.length)).setCell ⟨w.heap.size + 1, 3, none⟩ (.slice none 0 0)).setCell ⟨w.heap.size + 1, 4, none⟩ (.slice none 0 0)).setCell ⟨w.heap.size + 1, 5, none⟩ (.slice none 0 0)) (w.heap.size + 1) #[.int .i64 0, .slice (some ⟨K1, 0, none⟩) F.ps.length F.ps.length, .slice (some ⟨K2, 0, none⟩) F.ps.length F.ps.length, .slice none 0 0, .slice none 0 0, .slice none 0 0] 45 := ((((((gR.set 0 (.int .i64 0)).set 1 (.slice (some ⟨K1, 0, none⟩) F.ps.length F.ps.length)).set 2 (.slice (some ⟨K2, 0, none⟩) F.ps.length F.ps.length)).set 3 (.slice none 0 0)).set 4 (.slice none 0 0)).set 5 (.slice none 0 0))
          have e2 := ((((((g1.other (B := K1) (B' := w.heap.size + 1) (i := 0) (by omega) (.int .i64 0)).other (B := K1) (B' := w.heap.size + 1) (i := 1) (by omega) (.slice (some ⟨K1, 0, none⟩) F.ps.length F.ps.length)).other (B := K1) (B' := w.heap.size + 1) (i := 2) (by omega) (.slice (some ⟨K2, 0, none⟩) F.ps.length F.ps.length)).other (B := K1) (B' := w.heap.size + 1) (i := 3) (by omega) (.slice none 0 0)).other (B := K1) (B' := w.heap.size + 1) (i := 4) (by omega) (.slice none 0 0)).other (B := K1) (B' := w.heap.size + 1) (i := 5) (by omega) (.slice none 0 0))
          have e3 := ((((((g2.other (B := K2) (B' := w.heap.size + 1) (i := 0) (by omega) (.int .i64 0)).other (B := K2) (B' := w.heap.size + 1) (i := 1) (by omega) (.slice (some ⟨K1, 0, none⟩) F.ps.length F.ps.length)).other (B := K2) (B' := w.heap.size + 1) (i := 2) (by omega) (.slice (some ⟨K2, 0, none⟩) F.ps.length F.ps.length)).other (B := K2) (B' := w.heap.size + 1) (i := 3) (by omega) (.slice none 0 0)).other (B := K2) (B' := w.heap.size + 1) (i := 4) (by omega) (.slice none 0 0)).other (B := K2) (B' := w.heap.size + 1) (i := 5) (by omega) (.slice none 0 0))
          have e4 := ((((((gb.setCell (p := ⟨w.heap.size + 1, 0, none⟩) (Nat.le_succ _) (.int .i64 0)).setCell (p := ⟨w.heap.size + 1, 1, none⟩) (Nat.le_succ _) (.slice (some ⟨K1, 0, none⟩) F.ps.length F.ps.length)).setCell (p := ⟨w.heap.size + 1, 2, none⟩) (Nat.le_succ _) (.slice (some ⟨K2, 0, none⟩) F.ps.length F.ps.length)).setCell (p := ⟨w.heap.size + 1, 3, none⟩) (Nat.le_succ _) (.slice none 0 0)).setCell (p := ⟨w.heap.size + 1, 4, none⟩) (Nat.le_succ _) (.slice none 0 0)).setCell (p := ⟨w.heap.size + 1, 5, none⟩) (Nat.le_succ _) (.slice none 0 0))
          generalize ((((((wr.setCell ⟨w.heap.size + 1, 0, none⟩ (.int .i64 0)).setCell ⟨w.heap.size + 1, 1, none⟩ (.slice (some ⟨K1, 0, none⟩) F.ps.length F.ps.length)).setCell ⟨w.heap.size + 1, 2, none⟩ (.slice (some ⟨K2, 0, none⟩) F.ps.length F.ps.length)).setCell ⟨w.heap.size + 1, 3, none⟩ (.slice none 0 0)).setCell ⟨w.heap.size + 1, 4, none⟩ (.slice none 0 0)).setCell ⟨w.heap.size + 1, 5, none⟩ (.slice none 0 0)) = W at *
          have x0 := e1.cell 0
          have x1 := e1.cell 1
          have x2 := e1.cell 2
          have x3 := e1.cell 3
          have x4 := e1.cell 4
          have x5 := e1.cell 5
          simp only [List.getElem?_toArray, List.getElem?_cons_zero, List.getElem?_cons_succ] at x0 x1 x2 x3 x4 x5
          refine bodyPost_ret (v := .tuple #[.agg #[.int .i64 0, .slice (some ⟨K1, 0, none⟩) F.ps.length F.ps.length, .slice (some ⟨K2, 0, none⟩) F.ps.length F.ps.length, .slice none 0 0, .slice none 0 0, .slice none 0 0], .int .i64 0]) (by simp [results, Try.results8, go_sem, x0, x1, x2, x3, x4, x5]) rfl ⟨.inr ⟨HE.out, _, rfl, _, _, _, _, rfl, ?_, ?_⟩, e4⟩
          · have hr : (List.range F.ps.length).map (fun k => if k < F.ps.length then (-1 : Int) else 0) = List.replicate F.ps.length (-1) := by
              apply List.ext_getElem?
              intro i
              by_cases hi : i < F.ps.length
              · simp [hi]
              · simp [hi]
            rw [← hr]
            exact isNums_row e2 (Nat.le_refl _) (by omega)
          · have hr : (List.range F.ps.length).map (fun _ => (0 : Int)) = List.replicate F.ps.length 0 := by
              apply List.ext_getElem?
              intro i
              by_cases hi : i < F.ps.length
              · simp [hi]
              · simp [hi]
            rw [← hr]
            exact isNums_row e3 (Nat.le_refl _) (by omega)
  · have z1 : (checkE F == 0) = false := by simp [hE]
    have z2 : (checkE F != 0) = true := by simp [hE]
    generalize hge : checkE F = E at *
    have HGE := Lib.hid hge
    clear hge
    have r0 := kR1.cell 0
    have r1 := kR1.cell 1
    have r2 := kR1.cell 2
    have r3 := kR1.cell 3
    have r4 := kR1.cell 4
    have r5 := kR1.cell 5
    have t0 := kR1.frozen 0
    have t1 := kR1.frozen 1
    have t2 := kR1.frozen 2
    have t3 := kR1.frozen 3
    have t4 := kR1.frozen 4
    have t5 := kR1.frozen 5
    have lR := kR1.lt
    simp only [List.getElem?_toArray, List.getElem?_cons_zero, List.getElem?_cons_succ] at r0 r1 r2 r3 r4 r5
    go_wp2_with fail
    have e1 : Blk ((((((w2.setCell ⟨w.heap.size + 1, 0, none⟩ (.int .i64 0)).setCell ⟨w.heap.size + 1, 1, none⟩ (.slice none 0 0)).setCell ⟨w.heap.size + 1, 2, none⟩ (.slice none 0 0)).setCell ⟨w.heap.size + 1, 3, none⟩ (.slice none 0 0)).setCell ⟨w.heap.size + 1, 4, none⟩ (.slice none 0 0)).setCell ⟨w.heap.size + 1, 5, none⟩ (.slice none 0 0)) (w.heap.size + 1) #[.int .i64 0, .slice none 0 0, .slice none 0 0, .slice none 0 0, .slice none 0 0, .slice none 0 0] 45 := ((((((kR1.set 0 (.int .i64 0)).set 1 (.slice none 0 0)).set 2 (.slice none 0 0)).set 3 (.slice none 0 0)).set 4 (.slice none 0 0)).set 5 (.slice none 0 0))
    have e4 := ((((((hB1.setCell (p := ⟨w.heap.size + 1, 0, none⟩) (Nat.le_succ _) (.int .i64 0)).setCell (p := ⟨w.heap.size + 1, 1, none⟩) (Nat.le_succ _) (.slice none 0 0)).setCell (p := ⟨w.heap.size + 1, 2, none⟩) (Nat.le_succ _) (.slice none 0 0)).setCell (p := ⟨w.heap.size + 1, 3, none⟩) (Nat.le_succ _) (.slice none 0 0)).setCell (p := ⟨w.heap.size + 1, 4, none⟩) (Nat.le_succ _) (.slice none 0 0)).setCell (p := ⟨w.heap.size + 1, 5, none⟩) (Nat.le_succ _) (.slice none 0 0))
    generalize ((((((w2.setCell ⟨w.heap.size + 1, 0, none⟩ (.int .i64 0)).setCell ⟨w.heap.size + 1, 1, none⟩ (.slice none 0 0)).setCell ⟨w.heap.size + 1, 2, none⟩ (.slice none 0 0)).setCell ⟨w.heap.size + 1, 3, none⟩ (.slice none 0 0)).setCell ⟨w.heap.size + 1, 4, none⟩ (.slice none 0 0)).setCell ⟨w.heap.size + 1, 5, none⟩ (.slice none 0 0)) = W at *
    have x0 := e1.cell 0
    have x1 := e1.cell 1
    have x2 := e1.cell 2
    have x3 := e1.cell 3
    have x4 := e1.cell 4
    have x5 := e1.cell 5
    simp only [List.getElem?_toArray, List.getElem?_cons_zero, List.getElem?_cons_succ] at x0 x1 x2 x3 x4 x5
    exact bodyPost_ret (v := .tuple #[.agg #[.int .i64 0, .slice none 0 0, .slice none 0 0, .slice none 0 0, .slice none 0 0, .slice none 0 0], .int .i64 E]) (by simp [results, Try.results8, go_sem, x0, x1, x2, x3, x4, x5]) rfl ⟨.inl ⟨by rw [HGE.out]; exact hE, by rw [HGE.out]⟩, e4⟩
end
end Go.Proofs.Ytghepojnimlafaa
namespace Go.Proofs.Ytghepojnimlafaa
section
open Go.RowKit

def SomeBool (e : Ending) : Prop := ∃ b, e = .returned (.bool b)
set_option maxRecDepth 100000 in
set_option maxHeartbeats 4000000 in
theorem great_any (R : Frm) (w : World) (hR : IsFarm w R) :
    Calls Try.prog 4 #[.agg #[.slice R.pa R.ps.length R.pc, .int .i64 R.dry]] w fun e w' => SomeBool e ∧ Below w.heap.size w w' := by
  have hlf := hR.len
  obtain ⟨fa, fc, fs, dry⟩ := R
  simp only [] at hlf
  have kR : Blk (w.alloc (.cells #[.slice fa fs.length fc, .int .i64 dry] 24)) w.heap.size #[.slice fa fs.length fc, .int .i64 dry] 24 := Blk.new _ _ _
  have hB : Below w.heap.size w (w.alloc (.cells #[.slice fa fs.length fc, .int .i64 dry] 24)) := (Below.refl _ _).alloc (Nat.le_refl _) _
  have HR := Lib.hid hR
  clear hR
  go_enter Try.func4, Try.ntmps4
  go_wp2_with fail
  go_loopw [3, 4] (fun s i wr => ∃ (j : Nat) (n : Int), j ≤ fs.length ∧ j ≤ 31 ∧ i = .int .i64 j ∧ s = .int .i64 n ∧ Blk wr w.heap.size #[.slice fa fs.length fc, .int .i64 dry] 24 ∧ Below w.heap.size w wr) (fun _ i _ => fs.length - (intOf i).toNat)
  case atStart => exact ⟨0, 0, Nat.zero_le _, Nat.zero_le _, rfl, rfl, kR, hB⟩
  case round =>
    obtain ⟨j, n, hj, hj31, rfl, rfl, g1, g2⟩ := hrel
    have hRr := HR.out.below g2
    have c0 := g1.cell 0
    simp only [List.getElem?_toArray, List.getElem?_cons_zero] at c0
    by_cases hlj : j < fs.length
    · by_cases h30 : j ≤ 30
      · rcases hRr with ⟨_, hn⟩ | ⟨b, off, c, h1, h2, h3, h4, h5⟩
        · simp only [] at hn
          rw [hn] at hlj
          simp at hlj
        have hq : fs[j]? = some fs[j] := List.getElem?_eq_getElem hlj
        obtain ⟨⟨d0, d1, d2, d3, d4, d5, d6, d7, d8⟩, hnm⟩ := h5 j _ hq
        obtain ⟨rfl, _, rfl⟩ := slice_inj h1
        simp only [] at d0 d1 d2 d3 d4 d5 d6 d7 d8 h3 hnm
        generalize fs[j] = F at *
        clear hq h1 h5 d1 d2 d3 d4 d5 d6 d7 d8
        unfold maxLen at hnm
        have hj0 : (0 : Int) ≤ (j : Int) := Int.natCast_nonneg _
        have hj1 : (j : Int) < (fs.length : Int) := by omega
        have hj2 : (j : Int) ≤ 30 := by omega
        go_wp2_with fail
        refine ⟨⟨j + 1, _, by omega, by omega, by simp, rfl, g1, g2⟩, by simp [intOf]; omega⟩
      · have hj1 : (j : Int) < (fs.length : Int) := by omega
        have hj2 : ¬ (j : Int) ≤ 30 := by omega
        clear hRr
        go_wp2_with fail
        all_goals go_ret
        all_goals exact ⟨⟨_, rfl⟩, g2⟩
    · obtain rfl : j = fs.length := by omega
      clear hRr
      go_wp2_with fail
      all_goals go_ret
      all_goals exact ⟨⟨_, rfl⟩, g2⟩

def fenP : Plt := ⟨⟨#[102, 101, 110]⟩, 1, 4, 10, 12, 2, 200, 300, 50⟩
def hillP : Plt := ⟨⟨#[104, 105, 108, 108]⟩, 2, 2, 5, 9, 1, 100, 140, 20⟩
/-- The farm of the examples, in memory from block n on. -/
def farmF (n : Nat) : Frm := ⟨some ⟨n + 1, 0, none⟩, 2, [fenP, hillP], 150⟩

set_option maxRecDepth 100000 in
set_option maxHeartbeats 4000000 in
theorem farm_any (w : World) : Calls Try.prog 14 #[] w fun e w' => e = .returned (.agg #[.slice (some ⟨w.heap.size + 1, 0, none⟩) 2 2, .int .i64 150]) ∧ IsFarm w' (farmF w.heap.size) ∧ Below w.heap.size w w' := by
  have k0 := (Blk.new w 24 #[.slice (some ⟨w.heap.size + 1, 0, none⟩) 2 2, .int .i64 150]).alloc (.cells #[.string ⟨#[102, 101, 110]⟩, .int .i64 1, .int .i64 4, .int .i64 10, .int .i64 12, .int .i64 2, .int .i64 200, .int .i64 300, .int .i64 50, .string ⟨#[104, 105, 108, 108]⟩, .int .i64 2, .int .i64 2, .int .i64 5, .int .i64 9, .int .i64 1, .int .i64 100, .int .i64 140, .int .i64 20] 37)
  have k1 := Blk.new (w.alloc (.cells #[.slice (some ⟨w.heap.size + 1, 0, none⟩) 2 2, .int .i64 150] 24)) 37 #[.string ⟨#[102, 101, 110]⟩, .int .i64 1, .int .i64 4, .int .i64 10, .int .i64 12, .int .i64 2, .int .i64 200, .int .i64 300, .int .i64 50, .string ⟨#[104, 105, 108, 108]⟩, .int .i64 2, .int .i64 2, .int .i64 5, .int .i64 9, .int .i64 1, .int .i64 100, .int .i64 140, .int .i64 20]
  have hB : Below w.heap.size w ((w.alloc (.cells #[.slice (some ⟨w.heap.size + 1, 0, none⟩) 2 2, .int .i64 150] 24)).alloc (.cells #[.string ⟨#[102, 101, 110]⟩, .int .i64 1, .int .i64 4, .int .i64 10, .int .i64 12, .int .i64 2, .int .i64 200, .int .i64 300, .int .i64 50, .string ⟨#[104, 105, 108, 108]⟩, .int .i64 2, .int .i64 2, .int .i64 5, .int .i64 9, .int .i64 1, .int .i64 100, .int .i64 140, .int .i64 20] 37)) := ((Below.refl _ w).alloc (by simp) _).alloc (by simp) _
  simp only [World.size_alloc] at k1
  go_enter Try.func14, Try.ntmps14
  go_wp2_with fail
  generalize ((w.alloc (.cells #[.slice (some ⟨w.heap.size + 1, 0, none⟩) 2 2, .int .i64 150] 24)).alloc (.cells #[.string ⟨#[102, 101, 110]⟩, .int .i64 1, .int .i64 4, .int .i64 10, .int .i64 12, .int .i64 2, .int .i64 200, .int .i64 300, .int .i64 50, .string ⟨#[104, 105, 108, 108]⟩, .int .i64 2, .int .i64 2, .int .i64 5, .int .i64 9, .int .i64 1, .int .i64 100, .int .i64 140, .int .i64 20] 37)) = W at *
  have t0 := k0.cell 0
  have t1 := k0.cell 1
  simp only [List.getElem?_toArray, List.getElem?_cons_zero, List.getElem?_cons_succ] at t0 t1
  refine bodyPost_ret (v := .agg #[.slice (some ⟨w.heap.size + 1, 0, none⟩) 2 2, .int .i64 150]) (by simp [results, Try.results14, go_sem, t0, t1]) rfl ⟨rfl, ?_, hB⟩
  refine .inr ⟨w.heap.size + 1, 0, 2, rfl, k1.lt, Nat.le_refl _, by decide, fun j p hj => ?_⟩
  match j, hj with
  | 0, hj => cases hj; exact ⟨⟨k1.cell 0, k1.cell 1, k1.cell 2, k1.cell 3, k1.cell 4, k1.cell 5, k1.cell 6, k1.cell 7, k1.cell 8⟩, by decide⟩
  | 1, hj => cases hj; exact ⟨⟨k1.cell 9, k1.cell 10, k1.cell 11, k1.cell 12, k1.cell 13, k1.cell 14, k1.cell 15, k1.cell 16, k1.cell 17⟩, by decide⟩
end
end Go.Proofs.Ytghepojnimlafaa
namespace Go.Proofs.Ytghepojnimlafaa
section
open Go.RowKit

theorem isEnough_any (c : Sur) (n : Ned) (w : World) :
    Calls Try.prog 33 #[.agg #[.int .i64 c.z, .int .i64 c.r, .int .i64 c.s, .int .i64 c.h], .agg #[.int .i64 n.reed, .int .i64 n.straw, .int .i64 n.heather]] w fun e w' => e = .returned (.bool (c.enough n)) ∧ Below w.heap.size w w' := by
  obtain ⟨z, r, s, h⟩ := c
  obtain ⟨a, b, d⟩ := n
  by_cases h1 : a ≤ r
  all_goals by_cases h2 : b ≤ s
  all_goals by_cases h3 : d ≤ h
  all_goals
    go_enter Try.func33, Try.ntmps33
    go_wp2_with fail
    all_goals go_ret
    all_goals refine ⟨?_, by first | exact Below.refl _ _ | exact (Below.refl _ _).alloc (Nat.le_refl _) _ | exact ((Below.refl _ _).alloc (Nat.le_refl _) _).alloc (by simp) _⟩
    all_goals simp [Sur.enough, h1, h2, h3]

/-- The value of a list of numbers' cells. -/
def natsV (l : List Nat) : List Value := l.map (fun (k : Nat) => Value.int .i64 (k : Int))
theorem natsV_len (l : List Nat) : (natsV l).length = l.length := by simp [natsV]
theorem natsV_one (l : List Nat) : ∀ u ∈ natsV l, u.oneCell' = true := by
  intro u hu
  obtain ⟨k, _, rfl⟩ := List.mem_map.1 hu
  rfl

set_option maxRecDepth 100000 in
set_option maxHeartbeats 1000000 in
theorem clone_any (g cap : Nat) (l : List Nat) (B : Nat) (w : World) (hown : w.ownsRow B 3 1 (.slice (some ⟨g, 0, none⟩) l.length cap) l.length (natsV l)) (hm : 0 < l.length) (hl : l.length ≤ 1000) :
    Calls Try.prog 26 #[.slice (some ⟨g, 0, none⟩) l.length cap] w fun e w' => (∃ v, e = .returned v ∧ w'.ownsRow w.heap.size 3 1 v l.length (natsV l)) ∧ Below w.heap.size w w' := by
  obtain ⟨i0, hi0, hz0, hz1, hz2⟩ : ∃ i, Try.prog.info? 3 = some i ∧ i.zero = some (.int .i64 0) ∧ i.size = 1 ∧ i.bytes = 8 := ⟨_, rfl, rfl, rfl, rfl⟩
  have hnil : ∀ w, (binOp BinOp.eql 41 (Value.slice (some ⟨g, 0, none⟩) l.length cap) (Value.slice none 0 0)).run Try.prog w = .ok (.bool false) w := fun w => rfl
  have HOWN := Lib.hid hown
  clear hown
  go_enter Try.func26, Try.ntmps26
  have hmk : (w.alloc (.cells #[] 3)).ownsRow w.heap.size 3 1 (.slice (some ⟨w.heap.size, 0, none⟩) 0 0) 0 [] := World.ownsRow_made w #[] 0 (Nat.le_refl _) (by decide) rfl
  have hmx : 0 + l.length ≤ maxLen := by unfold maxLen; omega
  have hB : Below w.heap.size w (w.alloc (.cells #[] 3)) := (Below.refl _ _).alloc (Nat.le_refl _) _
  have hnw : ∀ (j : Nat) (u : Value), (natsV l)[j]? = some u → (w.alloc (.cells #[] 3)).cell? ((⟨g, 0, none⟩ : Addr).add j) = some u := (HOWN.out.alloc _).cells rfl
  go_wp2_with (first | (rw [hnil]) | (at_builtin; refine wpList_append_lies _ rfl _ _ 41 rfl w.heap.size 3 i0 (.int .i64 0) 1 8 Try.underlying41 hi0 hz0 hz1 hz2 rfl (by decide) _ _ _ rfl hmk ⟨g, 0, none⟩ l.length cap (natsV l) rfl (by simp [natsV]) hnw (natsV_one l) hm hmx (by omega) (by simp) _ rfl ?_; intro g2 cap2 w6 hown6 hgrow hat hlt6; have HOWN6 := Lib.hid hown6; have HGR := Lib.hid hgrow; clear hown6 hgrow hat))
  go_ret
  refine ⟨⟨_, rfl, ?_⟩, hB.grown HGR.out (by simp) (fun k e => by cases e; exact Nat.le_refl _)⟩
  have := HOWN6.out
  simpa using this
end
end Go.Proofs.Ytghepojnimlafaa
