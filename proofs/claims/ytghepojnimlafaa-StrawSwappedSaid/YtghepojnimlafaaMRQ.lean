/- Fields numbered backwards: mathematics of lists, of stores, of farms. -/
import Derived.Test.YtghepojnimlafaaKZQ
namespace Go.Proofs.Ytghepojnimlafaa
open Go.RowKit

def revP (n : Int) (p : Prt) : Prt := ⟨n - 1 - p.plot, p.loads⟩
def revH (n : Int) (h : Hep) : Hep := { h with parts := h.parts.map (revP n) }
def revS (n : Int) (S : Sto) : Sto := { S with last := S.last.reverse, given := S.given.reverse, heaps := S.heaps.map (revH n), used := S.used.map (revP n), waste := S.waste.map (revP n) }
theorem loadsM_rev (n : Int) (l : List Prt) : loadsM (l.map (revP n)) = loadsM l := by
  induction l with
  | nil => rfl
  | cons p l ih => simp only [List.map_cons, loadsM, ih, revP]
theorem ofM_rev (n i : Int) (l : List Prt) : ofM i (l.map (revP n)) = ofM (n - 1 - i) l := by
  induction l with
  | nil => rfl
  | cons p l ih =>
    simp only [List.map_cons, ofM, ih, revP]
    by_cases h : n - 1 - p.plot = i
    · rw [if_pos h, if_pos (by omega)]
    · rw [if_neg h, if_neg (by omega)]
theorem cut_rev (n : Int) (l : List Prt) : ∀ k : Int, cutT k (l.map (revP n)) = (cutT k l).map (revP n) ∧ cutR k (l.map (revP n)) = (cutR k l).map (revP n) := by
  induction l with
  | nil => intro k; exact ⟨rfl, rfl⟩
  | cons p l ih =>
    intro k
    obtain ⟨h1, h2⟩ := ih (k - min k p.loads)
    simp only [List.map_cons, cutT, cutR, List.map_append]
    have e : (revP n p).loads = p.loads := rfl
    rw [e, h1, h2]
    constructor
    · congr 1
      split <;> rfl
    · congr 1
      split <;> rfl
theorem push_rev (n : Int) (l : List Prt) (p : Prt) : pushL (l.map (revP n)) (revP n p) = (pushL l p).map (revP n) := by
  unfold pushL
  rw [List.getLast?_map]
  cases h : l.getLast? with
  | none => rfl
  | some q =>
    simp only [Option.map_some]
    by_cases hq : q.plot = p.plot
    · rw [if_pos hq, if_pos (by simp only [revP, hq]), ← List.map_dropLast]
      simp only [List.map_append, List.map_cons, List.map_nil]
      rfl
    · rw [if_neg hq, if_neg (by simp only [revP]; omega)]
      simp only [List.map_append, List.map_cons, List.map_nil]
theorem put_rev (n : Int) (m : List Prt) : ∀ l : List Prt, putL (l.map (revP n)) (m.map (revP n)) = (putL l m).map (revP n) := by
  induction m with
  | nil => intro l; rfl
  | cons p m ih =>
    intro l
    show putL (pushL (l.map (revP n)) (revP n p)) (m.map (revP n)) = (putL (pushL l p) m).map (revP n)
    rw [push_rev, ih]
theorem idx_rev (n : Int) (l : List Hep) (nm : ByteArray) : idxH (l.map (revH n)) nm = idxH l nm := by
  unfold idxH
  rw [List.findIdx?_map]
  rfl
theorem erase_map {α β : Type} (f : α → β) : ∀ (l : List α) (i : Nat), (l.map f).eraseIdx i = (l.eraseIdx i).map f
  | [], _ => rfl
  | _ :: _, 0 => rfl
  | x :: l, i + 1 => by simp only [List.map_cons, List.eraseIdx_cons_succ, erase_map f l i]
theorem move_rev (n : Int) (hs : List Hep) (i : Nat) (k : Int) : moveH (hs.map (revH n)) i k = (moveH hs i k).map (revH n) := by
  unfold moveH
  rw [List.getElem?_map]
  cases h : hs[i]? with
  | none => rfl
  | some x =>
    simp only [Option.map_some]
    have e : (revH n x).parts = x.parts.map (revP n) := rfl
    rw [e, (cut_rev n x.parts k).2]
    by_cases h0 : cutR k x.parts = []
    · rw [if_pos h0, if_pos (by rw [h0]; rfl), erase_map]
    · rw [if_neg h0, if_neg (by simpa using h0), List.map_set]
      rfl
theorem leftM_rev (n i : Int) (l : List Hep) : leftM i (l.map (revH n)) = leftM (n - 1 - i) l := by
  induction l with
  | nil => rfl
  | cons h l ih =>
    simp only [List.map_cons, leftM, ih]
    rw [show (revH n h).parts = h.parts.map (revP n) from rfl, ofM_rev]
theorem heapsM_rev (n : Int) (l : List Hep) : heapsM (l.map (revH n)) = heapsM l := by
  induction l with
  | nil => rfl
  | cons h l ih =>
    simp only [List.map_cons, heapsM, ih]
    rw [show (revH n h).parts = h.parts.map (revP n) from rfl, loadsM_rev]
theorem allM_rev (n : Int) (S : Sto) : allM (revS n S) = allM S := by
  unfold allM revS
  simp only [loadsM_rev, heapsM_rev]
theorem tot_rev (n : Int) (S : Sto) : tot (revS n S) = tot S := by
  unfold tot revS
  simp only [List.length_map]
  congr 1
  induction S.heaps with
  | nil => rfl
  | cons h l ih => simp only [List.map_cons, ptot, ih]; simp [revH]
theorem ap_rev (n : Int) : ∀ (l : List Prt) (o : Option Int), ap o l → ap (o.map (fun i => n - 1 - i)) (l.map (revP n))
  | [], _, _ => trivial
  | p :: l, o, h => by
    refine ⟨fun e => h.1 ?_, ap_rev n l (some p.plot) h.2⟩
    cases o with
    | none => cases e
    | some i =>
      simp only [Option.map_some, Option.some.injEq, revP] at e
      exact congrArg some (by omega)
theorem ok_rev {n : Nat} {l : List Prt} (h : ∀ p ∈ l, p.ok n) : ∀ p ∈ l.map (revP n), p.ok n := fun p hp => by
  obtain ⟨q, hq, rfl⟩ := List.mem_map.1 hp
  obtain ⟨⟨h1, h2⟩, h3, h4⟩ := h q hq
  exact ⟨⟨by simp only [revP]; omega, by simp only [revP]; omega⟩, h3, h4⟩
theorem parts_rev {n : Nat} {l : List Prt} (h : partsB n l = true) : partsB n (l.map (revP n)) = true :=
  partsB_of (ok_rev (partsB_ok h)) (ap_rev n l none (partsB_ap h))
theorem rev_at {α : Type} {l : List α} {i : Int} (h0 : 0 ≤ i) (h1 : i < l.length) : l.reverse[((l.length : Int) - 1 - i).toNat]? = l[i.toNat]? := by
  rw [List.getElem?_reverse (by omega)]
  congr 1
  omega
theorem crop_rev {ps : List Plt} {i : Int} (h0 : 0 ≤ i) (h1 : i < ps.length) : cropAt ps.reverse ((ps.length : Int) - 1 - i) = cropAt ps i := by
  unfold cropAt
  rw [rev_at h0 h1]
theorem heap_rev {ps : List Plt} {h : Hep} (hb : heapB ps h = true) : heapB ps.reverse (revH ps.length h) = true := by
  have hok := heapB_parts hb
  obtain ⟨a1, a2, a3, a4, a5, a6, a7, a8⟩ := heapB_iff.1 hb
  refine heapB_iff.2 ⟨a1, a2, a3, a4, by simpa [revH] using a5, by rw [List.length_reverse]; exact parts_rev a6, ?_, ?_⟩
  · refine crops_iff.2 fun p hp => ?_
    obtain ⟨q, hq, rfl⟩ := List.mem_map.1 hp
    obtain ⟨⟨h1, h2⟩, _⟩ := hok q hq
    show cropAt ps.reverse ((ps.length : Int) - 1 - q.plot) = h.crop
    rw [crop_rev h1 h2]
    exact crops_iff.1 a7 q hq
  · show if h.stage = 3 then isFromB h.per 1 100 = true ∧ loadsM (h.parts.map (revP ps.length)) % h.per = 0 else h.per = 0
    rw [loadsM_rev]
    exact a8
theorem sumN_eq {f g : Nat → Int} : ∀ {n : Nat}, (∀ i, i < n → f i = g i) → sumN f n = sumN g n
  | 0, _ => rfl
  | n + 1, h => by simp only [sumN]; rw [sumN_eq (fun i hi => h i (by omega)), h n (by omega)]
theorem sumN_shift (f : Nat → Int) : ∀ n : Nat, sumN f (n + 1) = f 0 + sumN (fun i => f (i + 1)) n
  | 0 => by simp [sumN]
  | n + 1 => by
    have := sumN_shift f n
    simp only [sumN] at this ⊢
    omega
theorem sumN_rev : ∀ (n : Nat) (f : Nat → Int), sumN (fun i => f (n - 1 - i)) n = sumN f n
  | 0, _ => rfl
  | n + 1, f => by
    rw [sumN_shift f n, ← sumN_rev n (fun i => f (i + 1))]
    simp only [sumN]
    rw [sumN_eq (g := fun i => f (n - 1 - i + 1)) (fun i hi => by
      show f (n + 1 - 1 - i) = f (n - 1 - i + 1)
      congr 1
      omega)]
    simp only [Nat.add_sub_cancel, Nat.sub_self]
    omega
theorem given_rev {l : List Int} {i : Nat} (h : i < l.length) : givenAt l.reverse i = givenAt l (l.length - 1 - i) := by
  unfold givenAt
  rw [List.getElem?_reverse h]
theorem good_rev {F G : Frm} {S : Sto} (hG : G.ps = F.ps.reverse) (g : GoodS F S) : GoodS G (revS F.ps.length S) := by
  have hl : G.ps.length = F.ps.length := by rw [hG, List.length_reverse]
  refine ⟨?_, ⟨?_, ?_, ?_⟩, ?_, ?_, ?_, ?_, ?_⟩
  · have := g.years
    rw [hl]
    simpa [yearsB, revS] using this
  · simpa [revS] using g.heaps.few
  · intro h hh
    obtain ⟨x, hx, rfl⟩ := List.mem_map.1 hh
    rw [hG]
    exact heap_rev (g.heaps.each x hx)
  · intro i j x y hx hy hij
    simp only [revS, List.getElem?_map, Option.map_eq_some_iff] at hx hy
    obtain ⟨x', hx', rfl⟩ := hx
    obtain ⟨y', hy', rfl⟩ := hy
    exact g.heaps.apart i j x' y' hx' hy' hij
  · rw [hl]; exact parts_rev g.used
  · rw [hl]; exact parts_rev g.waste
  · rw [hl]; simpa [revS] using g.len
  · intro i hi
    rw [hl] at hi
    have hb := g.bal (F.ps.length - 1 - i) (by omega)
    show givenAt S.given.reverse i = thereM (S.used.map (revP F.ps.length)) (S.heaps.map (revH F.ps.length)) (S.waste.map (revP F.ps.length)) i
    rw [given_rev (by rw [g.len]; exact hi), g.len, hb]
    unfold thereM
    rw [ofM_rev, ofM_rev, leftM_rev, show ((F.ps.length - 1 - i : Nat) : Int) = (F.ps.length : Int) - 1 - i by omega]
  · rw [hl]
    have e : sumN (thereM (revS F.ps.length S).used (revS F.ps.length S).heaps (revS F.ps.length S).waste) F.ps.length = sumN (fun i => thereM S.used S.heaps S.waste (F.ps.length - 1 - i)) F.ps.length := sumN_eq fun i hi => by
      unfold thereM
      simp only [revS]
      rw [ofM_rev, ofM_rev, leftM_rev, show ((F.ps.length - 1 - i : Nat) : Int) = (F.ps.length : Int) - 1 - i by omega]
    rw [e, sumN_rev]
    exact g.sum
end Go.Proofs.Ytghepojnimlafaa
