/- A bundle (straw). -/
import Derived.Test.YtfhalmlpnoepcaaGreatGZ
import Derived.Test.YtfhalmlpnoepcaaGreatGX
namespace Go.Proofs.YtfhalmlpnoepcaaGreat
open Go.RowKit

/-- What Bundle returns. -/
def bunM (F : Frm) (S : Sto) (nm : ByteArray) (k : Int) : Int × List Prt :=
  if storeE F S = 0 then (match S.heaps.find? (fun h => strB h.name nm) with
    | none => (7, [])
    | some h => if h.stage = 3 then (if isFromB k 0 (loadsM h.parts / h.per - 1) = true then (0, cutT h.per (cutR (k * h.per) h.parts)) else (1, [])) else (8, []))
  else (storeE F S, [])
theorem idxH_cases (nm : ByteArray) (l : List Hep) : (idxH l nm = -1 ∧ l.find? (fun h => strB h.name nm) = none) ∨ ∃ (j : Nat) (h : Hep), idxH l nm = j ∧ l[j]? = some h ∧ l.find? (fun h => strB h.name nm) = some h := by
  have key : ∀ l : List Hep, (l.findIdx? (fun h => strB h.name nm) = none ∧ l.find? (fun h => strB h.name nm) = none) ∨ ∃ (j : Nat) (h : Hep), l.findIdx? (fun h => strB h.name nm) = some j ∧ l[j]? = some h ∧ l.find? (fun h => strB h.name nm) = some h := by
    intro l
    induction l with
    | nil => exact .inl ⟨rfl, rfl⟩
    | cons x l ih =>
      cases hx : strB x.name nm with
      | true => exact .inr ⟨0, x, by simp [List.findIdx?_cons, hx], rfl, by simp [hx]⟩
      | false =>
        rcases ih with ⟨h1, h2⟩ | ⟨j, h, h1, h2, h3⟩
        · exact .inl ⟨by simp [List.findIdx?_cons, hx, h1], by simp [hx, h2]⟩
        · exact .inr ⟨j + 1, h, by simp [List.findIdx?_cons, hx, h1], by simpa using h2, by simp [hx, h3]⟩
  rcases key l with ⟨h1, h2⟩ | ⟨j, h, h1, h2, h3⟩
  · exact .inl ⟨by rw [idxH, h1], h2⟩
  · exact .inr ⟨j, h, by rw [idxH, h1], h2, h3⟩
/-- What a bundle is told to be. -/
def BunSaid (F : Frm) (S : Sto) (nm : ByteArray) (k : Int) (w : World) (e : Ending) (w' : World) : Prop :=
  (∃ a c, e = .returned (.tuple #[.slice a (bunM F S nm k).2.length c, .int .i64 (bunM F S nm k).1]) ∧ IsPrts w' a c (bunM F S nm k).2) ∧ Below w.heap.size w w'
theorem BunSaid.nil {F : Frm} {S : Sto} {nm : ByteArray} {k v : Int} {w w' : World} (h : bunM F S nm k = (v, [])) (hb : Below w.heap.size w w') : BunSaid F S nm k w (.returned (.tuple #[.slice none 0 0, .int .i64 v])) w' :=
  ⟨⟨none, 0, by rw [h]; rfl, by rw [h]; exact .inl rfl⟩, hb⟩
/-- The numbers of bundles, and what is made with them. -/
theorem bun_nums {v per k : Int} (hv0 : 0 ≤ v) (hv1 : v ≤ 100000000) (hp : 1 ≤ per ∧ per ≤ 100) : v.tdiv per = v / per ∧ (0 ≤ v / per ∧ v / per ≤ 100000000) ∧ (isFromB k 0 (v / per - 1) = true → 0 ≤ k ∧ 0 ≤ k * per ∧ k * per ≤ 100000000) := by
  have h1 : (v / per) * per ≤ v := Int.ediv_mul_le v (by omega)
  have h2 : 0 ≤ v / per := Int.ediv_nonneg hv0 (by omega)
  have h3 : v / per ≤ v := Int.ediv_le_self per hv0
  refine ⟨Int.tdiv_eq_ediv_of_nonneg hv0, ⟨h2, by omega⟩, fun h => ?_⟩
  have h4 := isFromB_iff.1 h
  have h5 : k * per ≤ (v / per) * per := Int.mul_le_mul_of_nonneg_right (by omega) (by omega)
  exact ⟨h4.1, Int.mul_nonneg h4.1 (by omega), by omega⟩

theorem putTaken_any (a : Option Addr) (c : Nat) (l : List Prt) (skip left : Int) (n : Nat) (w : World) (hl : IsPrts w a c l) (hok : ∀ p ∈ l, p.ok n) (hap : ap none l) (hlen : l.length ≤ 1000) (hs0 : 0 ≤ skip) (hs1 : skip ≤ 100000000000) (hl0 : 0 ≤ left) (hl1 : left ≤ 100000000000) :
    Calls Tryz.prog 91 #[.slice none 0 0, .func (.func 108) #[] #[.pointer (some ⟨w.heap.size + 1, 0, none⟩), .pointer (some ⟨w.heap.size + 1 + 1, 0, none⟩), .pointer (some ⟨w.heap.size, 0, none⟩)]]
      (((w.alloc (.cells #[.slice a l.length c] 27)).alloc (.cells #[.int .i64 skip] 3)).alloc (.cells #[.int .i64 left] 3)) fun e w' =>
      (∃ a' c', e = .returned (.slice a' (cutT left (cutR skip l)).length c') ∧ IsPrts w' a' c' (cutT left (cutR skip l))) ∧ Below w.heap.size w w' := by
  have hb : Below w.heap.size w (((w.alloc (.cells #[.slice a l.length c] 27)).alloc (.cells #[.int .i64 skip] 3)).alloc (.cells #[.int .i64 left] 3)) := (((Below.refl _ w).alloc (by simp) _).alloc (by simp) _).alloc (by simp; omega) _
  have k0 : Blk (((w.alloc (.cells #[.slice a l.length c] 27)).alloc (.cells #[.int .i64 skip] 3)).alloc (.cells #[.int .i64 left] 3)) w.heap.size #[.slice a l.length c] 27 := ((Blk.new w _ _).alloc _).alloc _
  have k1 : Blk (((w.alloc (.cells #[.slice a l.length c] 27)).alloc (.cells #[.int .i64 skip] 3)).alloc (.cells #[.int .i64 left] 3)) (w.heap.size + 1) #[.int .i64 skip] 3 := by
    have := (Blk.new (w.alloc (.cells #[.slice a l.length c] 27)) 3 #[.int .i64 skip]).alloc (.cells #[.int .i64 left] 3)
    simpa using this
  have k2 : Blk (((w.alloc (.cells #[.slice a l.length c] 27)).alloc (.cells #[.int .i64 skip] 3)).alloc (.cells #[.int .i64 left] 3)) (w.heap.size + 1 + 1) #[.int .i64 left] 3 := by
    have := Blk.new ((w.alloc (.cells #[.slice a l.length c] 27)).alloc (.cells #[.int .i64 skip] 3)) 3 #[.int .i64 left]
    simpa using this
  have hlw := hl.belowS hb
  generalize (((w.alloc (.cells #[.slice a l.length c] 27)).alloc (.cells #[.int .i64 skip] 3)).alloc (.cells #[.int .i64 left] 3)) = w1 at *
  have hld : ∀ p ∈ l, 1 ≤ p.loads ∧ p.loads ≤ 100000 := fun p hp => (hok p hp).2
  have hseq := taken_stops 4 (by omega) w.heap.size (w.heap.size + 1) (w.heap.size + 1 + 1) a c (fun k => k < w1.heap.size) l skip left hs0 hs1 hl0 hl1 hld k0.lt k1.lt k2.lt w1 (fun _ h => h) (k0.cell 0) (k1.cell 0) (k2.cell 0) (PrtsIn.of hlw fun _ h => h)
  have h := put_any w1.heap.size (fun k => k < w1.heap.size) none 0 [] 0 _ l.length (takenL skip left l) _ w1 (World.ownsRow_nil _ _ _ _) (fun k h => by cases h) (Nat.le_refl _) (fun _ h => h) (fun q h => by cases h) (by omega) (by omega) (by simp) (by omega) hseq
  have he : putL [] (takenL skip left l) = cutT left (cutR skip l) := by
    rw [put_taken (fun p hp => (hld p hp).1) hs0 hl0 hap, taken_cut (fun p hp => (hld p hp).1) hs0 hl0]
  rw [he] at h
  refine h.mono ?_
  rintro e w' ⟨a', c', rfl, hown, _, hb', _⟩
  exact ⟨⟨a', c', rfl, isPrts_own hown⟩, hb.trans (hb'.mono hb.size)⟩

end Go.Proofs.YtfhalmlpnoepcaaGreat
