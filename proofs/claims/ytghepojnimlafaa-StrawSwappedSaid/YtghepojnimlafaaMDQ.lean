/- Bundles used at once, or in two goes: mathematics. -/
import Derived.Test.YtghepojnimlafaaKWQ
namespace Go.Proofs.Ytghepojnimlafaa
open Go.RowKit

theorem push_twice (u : List Prt) (i x y : Int) : pushL (pushL u ⟨i, x⟩) ⟨i, y⟩ = pushL u ⟨i, x + y⟩ := by
  have key : ∀ (v : List Prt) (z : Int), pushL (v ++ [⟨i, z⟩]) ⟨i, y⟩ = v ++ [⟨i, z + y⟩] := fun v z => by
    unfold pushL
    simp
  unfold pushL
  cases hl : u.getLast? with
  | none => exact key [] x
  | some q =>
    by_cases hq : q.plot = i
    · simp only [hq, if_true]
      have := key u.dropLast (q.loads + x)
      unfold pushL at this
      simp only [Int.add_assoc] at this ⊢
      simpa using this
    · simp only [hq, if_false]
      exact key u x
theorem put_cons (u : List Prt) (p : Prt) (l : List Prt) : putL u (p :: l) = putL (pushL u p) l := rfl
theorem put_nil (u : List Prt) : putL u [] = u := rfl
theorem cutW_some {p : Prt} {l : List Prt} {n : Int} (hl : ∀ q ∈ l, 1 ≤ q.loads) (h0 : 0 < n) (h : n < p.loads) : cutT n (p :: l) = [⟨p.plot, n⟩] ∧ cutR n (p :: l) = ⟨p.plot, p.loads - n⟩ :: l := by
  have e : min n p.loads = n := by omega
  simp only [cutT, cutR, e, Int.sub_self]
  rw [if_pos h0, if_pos h, cutT_zero hl, cutR_nil0 hl]
  exact ⟨rfl, rfl⟩
theorem cutW_all {p : Prt} {l : List Prt} {n : Int} (hp : 1 ≤ p.loads) (h : p.loads ≤ n) : cutT n (p :: l) = p :: cutT (n - p.loads) l ∧ cutR n (p :: l) = cutR (n - p.loads) l := by
  have e : min n p.loads = p.loads := by omega
  simp only [cutT, cutR, e]
  rw [if_pos (by omega), if_neg (by omega)]
  exact ⟨rfl, rfl⟩
theorem cut_twice {l : List Prt} (h : ∀ p ∈ l, 1 ≤ p.loads) : ∀ (u : List Prt) {n m : Int}, 0 ≤ n → 0 ≤ m →
    putL u (cutT (n + m) l) = putL (putL u (cutT n l)) (cutT m (cutR n l)) ∧ cutR (n + m) l = cutR m (cutR n l) := by
  induction l with
  | nil => intro u n m _ _; exact ⟨rfl, rfl⟩
  | cons p l ih =>
    intro u n m hn hm
    have hp := h p (by simp)
    have hl : ∀ q ∈ l, 1 ≤ q.loads := fun q hq => h q (by simp [hq])
    by_cases h1 : p.loads ≤ n
    · obtain ⟨a1, a2⟩ := cutW_all (l := l) hp h1
      obtain ⟨b1, b2⟩ := cutW_all (l := l) (n := n + m) hp (by omega)
      have e : n + m - p.loads = (n - p.loads) + m := by omega
      obtain ⟨c1, c2⟩ := ih hl (pushL u p) (n := n - p.loads) (m := m) (by omega) hm
      rw [a1, a2, b1, b2, e, put_cons, put_cons]
      exact ⟨c1, c2⟩
    · by_cases h0 : n = 0
      · subst h0
        rw [Int.zero_add, cutT_zero h, cutR_nil0 h]
        exact ⟨rfl, rfl⟩
      · obtain ⟨a1, a2⟩ := cutW_some (l := l) hl (show 0 < n by omega) (Int.not_le.1 h1)
        rw [a1, a2]
        by_cases h2 : m = 0
        · subst h2
          have h3 : ∀ q ∈ (⟨p.plot, p.loads - n⟩ :: l : List Prt), 1 ≤ q.loads := fun q hq => by
            rcases List.mem_cons.1 hq with rfl | hq
            · show 1 ≤ p.loads - n; omega
            · exact hl q hq
          rw [Int.add_zero, a1, a2, cutT_zero h3, cutR_nil0 h3]
          exact ⟨rfl, rfl⟩
        · by_cases h3 : p.loads - n ≤ m
          · obtain ⟨b1, b2⟩ := cutW_all (p := ⟨p.plot, p.loads - n⟩) (l := l) (n := m) (show 1 ≤ p.loads - n by omega) h3
            obtain ⟨c1, c2⟩ := cutW_all (l := l) (n := n + m) hp (by omega)
            simp only at b1 b2
            rw [b1, b2, c1, c2, show n + m - p.loads = m - (p.loads - n) by omega]
            simp only [put_cons, put_nil, push_twice]
            refine ⟨?_, trivial⟩
            rw [show n + (p.loads - n) = p.loads by omega]
          · obtain ⟨b1, b2⟩ := cutW_some (p := ⟨p.plot, p.loads - n⟩) (l := l) hl (show 0 < m by omega) (Int.not_le.1 h3)
            obtain ⟨c1, c2⟩ := cutW_some (p := p) (l := l) hl (show 0 < n + m by omega) (by omega)
            simp only at b1 b2
            rw [b1, b2, c1, c2]
            simp only [put_cons, put_nil, push_twice]
            exact ⟨trivial, by rw [show p.loads - (n + m) = p.loads - n - m by omega]⟩

theorem idx_set {l : List Hep} {nm : ByteArray} {k : Nat} {x y : Hep} (hk : idxH l nm = k) (hx : l[k]? = some x) (hn : y.name = x.name) : idxH (l.set k y) nm = k := by
  unfold idxH at hk ⊢
  cases hf : l.findIdx? (fun h => strB h.name nm) with
  | none => rw [hf] at hk; have : (-1 : Int) = k := hk; omega
  | some i =>
    rw [hf] at hk
    obtain rfl : i = k := by have : (i : Int) = k := hk; omega
    obtain ⟨h1, h2, h3⟩ := List.findIdx?_eq_some_iff_getElem.1 hf
    have hxe : l[i] = x := (List.getElem?_eq_some_iff.1 hx).2
    have : (l.set i y).findIdx? (fun h => strB h.name nm) = some i := by
      refine List.findIdx?_eq_some_iff_getElem.2 ⟨by simpa using h1, ?_, fun j hj => ?_⟩
      · rw [List.getElem_set_self, hn, ← hxe]; exact h2
      · rw [List.getElem_set_ne (by omega)]; exact h3 j hj
    rw [this]

/-- The chore that uses bundles. -/
def useC (nm : ByteArray) (n : Int) : Chr := ⟨7, 0, n, nm, ⟨#[]⟩, 0, 0, 0, 0⟩
theorem do_use {F : Frm} {S : Sto} (nm : ByteArray) (n : Int) (hE : storeE F S = 0) : doD F S (useC nm n) = useD S (useC nm n) := by
  rw [doD_step hE]
  unfold stepD
  rw [if_neg (by simp [useC, chrB, namedM, strB])]
  rfl
theorem use_twice {F : Frm} {S : Sto} {nm : ByteArray} {a b : Int} (hE : storeE F S = 0) (ha : 1 ≤ a) (hb : 1 ≤ b) (h : (doD F S (useC nm (a + b))).1 = 0) :
    (doD F S (useC nm a)).1 = 0 ∧ (doD F (doD F S (useC nm a)).2 (useC nm b)).1 = 0 ∧ (doD F (doD F S (useC nm a)).2 (useC nm b)).2 = (doD F S (useC nm (a + b))).2 := by
  rw [do_use _ _ hE] at h ⊢
  rw [do_use _ _ hE]
  unfold useD at h
  split at h
  · cases h
  next h0 =>
  have h0' : ¬ idxH S.heaps nm < 0 := h0
  split at h
  · cases h
  next h1 =>
  split at h
  · cases h
  next h2 =>
  clear h
  obtain ⟨k, x, hk, hx, hh⟩ := look h0'
  have hg := (goodS_of hE).heaps.each x (List.mem_of_getElem? hx)
  have hp := ok1 (heapB_parts hg)
  simp only [useC, hh] at h1 h2
  have hst : x.stage = 3 := Decidable.of_not_not h1
  have h3 := isFromB_iff.1 (Bool.not_eq_false _ ▸ h2)
  have hper : 1 ≤ x.per := by
    have h9 := (heapB_iff.1 hg).2.2.2.2.2.2.2
    rw [if_pos hst] at h9
    exact (isFromB_iff.1 h9.1).1
  have htot : (a + b) * x.per ≤ loadsM x.parts := by
    have h4 : (a + b) * x.per ≤ (loadsM x.parts / x.per) * x.per := Int.mul_le_mul_of_nonneg_right h3.2 (by omega)
    have h5 := Int.ediv_mul_le (loadsM x.parts) (show x.per ≠ 0 by omega)
    omega
  have hap : 1 ≤ a * x.per := Int.le_trans ha (by have := Int.mul_le_mul_of_nonneg_left hper (show 0 ≤ a by omega); omega)
  have hbp : 1 ≤ b * x.per := Int.le_trans hb (by have := Int.mul_le_mul_of_nonneg_left hper (show 0 ≤ b by omega); omega)
  have hab : (a + b) * x.per = a * x.per + b * x.per := Int.add_mul a b x.per
  have hcut := (loadsM_cut hp (n := a * x.per) (by omega)).2.1
  have hne : cutR (a * x.per) x.parts ≠ [] := fun e => by rw [e] at hcut; simp only [loadsM] at hcut; omega
  obtain ⟨t1, t2⟩ := cut_twice hp S.used (n := a * x.per) (m := b * x.per) (by omega) (by omega)
  -- the first go
  have e1 : useD S (useC nm a) = (0, { S with used := putL S.used (cutT (a * x.per) x.parts), heaps := S.heaps.set k { x with parts := cutR (a * x.per) x.parts } }) := by
    unfold useD
    simp only [useC, hh]
    rw [if_neg h0', if_neg h1, if_neg (by simp only [Bool.not_eq_false]; exact isFromB_iff.2 ⟨ha, by omega⟩), hk]
    simp only [Int.toNat_natCast, moveH, hx]
    rw [if_neg hne]
  have hE1 : storeE F { S with used := putL S.used (cutT (a * x.per) x.parts), heaps := S.heaps.set k { x with parts := cutR (a * x.per) x.parts } } = 0 := by
    have := keep_do (F := F) (S := S) (a := useC nm a) (by rw [do_use _ _ hE, e1])
    rwa [do_use _ _ hE, e1] at this
  rw [e1]
  simp only []
  rw [do_use _ _ hE1]
  have hk2 := idx_set (y := { x with parts := cutR (a * x.per) x.parts }) hk hx rfl
  have hx2 : (S.heaps.set k { x with parts := cutR (a * x.per) x.parts })[k]? = some { x with parts := cutR (a * x.per) x.parts } := set_get hx
  have hh2 : hepAt { S with used := putL S.used (cutT (a * x.per) x.parts), heaps := S.heaps.set k { x with parts := cutR (a * x.per) x.parts } } nm = { x with parts := cutR (a * x.per) x.parts } := hepAt_of hk2 hx2
  have hb2 : isFromB b 1 (loadsM (cutR (a * x.per) x.parts) / x.per) = true := by
    refine isFromB_iff.2 ⟨hb, ?_⟩
    rw [hcut]
    exact (Int.le_ediv_iff_mul_le (by omega)).2 (by omega)
  have e2 : useD { S with used := putL S.used (cutT (a * x.per) x.parts), heaps := S.heaps.set k { x with parts := cutR (a * x.per) x.parts } } (useC nm b) =
      (0, { S with used := putL (putL S.used (cutT (a * x.per) x.parts)) (cutT (b * x.per) (cutR (a * x.per) x.parts)), heaps := moveH (S.heaps.set k { x with parts := cutR (a * x.per) x.parts }) k (b * x.per) }) := by
    unfold useD
    simp only [useC, hh2]
    rw [if_neg (by rw [hk2]; omega), if_neg h1, if_neg (by rw [hb2]; simp), hk2]
    simp only [Int.toNat_natCast]
  have e3 : useD S (useC nm (a + b)) = (0, { S with used := putL S.used (cutT (a * x.per + b * x.per) x.parts), heaps := moveH S.heaps k (a * x.per + b * x.per) }) := by
    unfold useD
    simp only [useC, hh]
    rw [if_neg h0', if_neg h1, if_neg h2, hk, hab]
    simp only [Int.toNat_natCast]
  rw [e2, e3]
  refine ⟨trivial, rfl, ?_⟩
  simp only [t1]
  congr 1
  simp only [moveH, hx, hx2, t2]
  split
  · exact List.eraseIdx_set_eq ..
  · rw [List.set_set]
end Go.Proofs.Ytghepojnimlafaa
