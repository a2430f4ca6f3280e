/- Edges in memory; the law's example of the chapter ('lives'). -/
import Derived.Test.YtpdgcajbdaleeaaZL
namespace Go.Proofs.Ytpdgcajbdaleeaa
open Go.RowKit

theorem rowsV_at (l : List EdR) : ∀ (j i : Nat) (x : EdR), l[j]? = some x → i < 5 → (rowsV l)[j * 5 + i]? = (cellsR x)[i]? := by
  induction l with
  | nil => intro j i x h _; simp at h
  | cons y l ih =>
    intro j i x h hi
    have e : rowsV (y :: l) = cellsR y ++ rowsV l := by simp [rowsV]
    have hy : (cellsR y).length = 5 := rfl
    cases j with
    | zero =>
      obtain rfl : y = x := by simpa using h
      rw [e, List.getElem?_append_left (by rw [hy]; omega)]
      simp
    | succ j =>
      rw [e, List.getElem?_append_right (by rw [hy]; omega), hy, show (j + 1) * 5 + i - 5 = j * 5 + i by omega]
      exact ih j i x (by simpa using h) hi

/-- The cells of an edge. -/
def EdAt (w : World) (g o : Nat) (x : EdR) : Prop :=
  w.cell? ⟨g, o, none⟩ = some (.int .i64 x.face) ∧ w.cell? ⟨g, o + 1, none⟩ = some (.int .i64 x.number) ∧ w.cell? ⟨g, o + 2, none⟩ = some (.int .i64 x.kind) ∧ w.cell? ⟨g, o + 3, none⟩ = some (.int .i64 x.wth) ∧
    w.cell? ⟨g, o + 4, none⟩ = some (.int .i64 x.at_)
/-- A slice value that holds edges. -/
def IsEds (w : World) (v : Value) (l : List EdR) : Prop :=
  (v = .slice none 0 0 ∧ l = []) ∨ ∃ g cap, v = .slice (some ⟨g, 0, none⟩) l.length cap ∧ g < w.heap.size ∧ l.length ≤ cap ∧ cap ≤ 9223372036854775807 ∧ ∀ j x, l[j]? = some x → EdAt w g (j * 5) x
theorem EdAt.below {w w' : World} {B b o : Nat} {f : EdR} (h : EdAt w b o f) (hb : Below B w w') (hlt : b < B) : EdAt w' b o f := by
  have c : ∀ i, w'.cell? ⟨b, i, none⟩ = w.cell? ⟨b, i, none⟩ := fun i => hb.cell (p := ⟨b, i, none⟩) hlt
  obtain ⟨h0, h1, h2, h3, h4⟩ := h
  exact ⟨(c _).trans h0, (c _).trans h1, (c _).trans h2, (c _).trans h3, (c _).trans h4⟩
theorem IsEds.below {w w' : World} {v : Value} {l : List EdR} (h : IsEds w v l) (hb : Below w.heap.size w w') : IsEds w' v l := by
  rcases h with h | ⟨b, cap, e, hl, hc, hc', hp⟩
  · exact .inl h
  · exact .inr ⟨b, cap, e, Nat.lt_of_lt_of_le hl hb.size, hc, hc', fun j f hj => (hp j f hj).below hb hl⟩

theorem isEds_of {w : World} {base : Nat} {t : TypeId} {v : Value} {l : List EdR} (h : w.ownsRow base t 5 v l.length (rowsV l)) : IsEds w v l := by
  rcases h.2 with ⟨rfl, h0⟩ | ⟨g, cap, cur, hv, _, hg, h1, h2, h3, h4⟩
  · exact .inl ⟨rfl, List.eq_nil_of_length_eq_zero h0⟩
  · refine .inr ⟨g, cap, hv, (Array.getElem?_eq_some_iff.1 hg).1, h1, by unfold maxLen at h2; omega, fun j x hj => ?_⟩
    have hjl : j < l.length := (List.getElem?_eq_some_iff.1 hj).1
    have key : ∀ i, i < 5 → w.cell? ⟨g, j * 5 + i, none⟩ = (cellsR x)[i]? := by
      intro i hi
      have e1 : w.cell? ⟨g, j * 5 + i, none⟩ = cur[j * 5 + i]? := by simp [World.cell?, hg]
      have e2 : cur[j * 5 + i]? = (cur.toList.take (l.length * 5))[j * 5 + i]? := by
        rw [List.getElem?_take_of_lt (by omega)]
        simp
      rw [e1, e2, h4, rowsV_at l j i x hj hi]
    exact ⟨key 0 (by omega), key 1 (by omega), key 2 (by omega), key 3 (by omega), key 4 (by omega)⟩

/-- What Edges returns. -/
def EdgesIs (R : Roo) (w : World) (e : Ending) (w' : World) : Prop :=
  Below w.heap.size w w' ∧
    if ¬ checkE R = 0 then e = .returned (.tuple #[.slice none 0 0, .int .i64 (checkE R)]) else
      ∃ v, e = .returned (.tuple #[v, .int .i64 0]) ∧ IsEds w' v (allR R.fs R.fs.length)
theorem edges_is (R : Roo) (w : World) (hR : IsRoof w R) :
    Calls Try.prog 25 #[.agg #[.slice R.fa R.fs.length R.fc, .slice R.oa R.os.length R.oc]] w (EdgesIs R w) := by
  refine (edges_any R w hR).mono ?_
  rintro e w' ⟨hb, h⟩
  refine ⟨hb, ?_⟩
  by_cases hc : checkE R = 0
  · rw [if_neg (by simpa using hc)] at h ⊢
    obtain ⟨v, rfl, hrow⟩ := h
    exact ⟨v, rfl, isEds_of hrow⟩
  · rw [if_pos hc] at h ⊢
    exact h

def HouseEds (w : World) (e : Ending) (w' : World) : Prop :=
  Below w.heap.size w w' ∧ ∃ g cap, e = .returned (.tuple #[.slice (some ⟨g, 0, none⟩) 8 cap, .int .i64 0]) ∧ g < w'.heap.size ∧ 8 ≤ cap ∧ cap ≤ 9223372036854775807 ∧
    w'.cell? ⟨g, 2, none⟩ = some (.int .i64 1) ∧ w'.cell? ⟨g, 10, none⟩ = some (.int .i64 0) ∧ w'.cell? ⟨g, 11, none⟩ = some (.int .i64 2) ∧ w'.cell? ⟨g, 12, none⟩ = some (.int .i64 5) ∧ w'.cell? ⟨g, 13, none⟩ = some (.int .i64 1) ∧ w'.cell? ⟨g, 14, none⟩ = some (.int .i64 2)

theorem houseEds_any (n : Nat) (w : World) (hR : IsRoof w (houseR n)) :
    Calls Try.prog 25 #[.agg #[.slice (some ⟨n + 1 + 1 + 1, 0, none⟩) 2 2, .slice (some ⟨n + 1 + 1 + 1 + 1, 0, none⟩) 1 1]] w (HouseEds w) := by
  refine Calls.mono (edges_any (houseR n) w hR) ?_
  rintro e w' ⟨hb, h⟩
  refine ⟨hb, ?_⟩
  rw [if_neg (by rw [house_check]; simp)] at h
  obtain ⟨v, rfl, hrow⟩ := h
  rw [house_len, house_edges] at hrow
  rcases hrow.2 with ⟨_, h0⟩ | ⟨g, cap, cur, rfl, _, hg, h1, h2, h3, h4⟩
  · omega
  · have key : ∀ i, i < 40 → w'.cell? ⟨g, i, none⟩ = (cur.toList.take (8 * 5))[i]? := by
      intro i hi
      rw [List.getElem?_take_of_lt (by omega)]
      simp [World.cell?, hg]
    rw [h4] at key
    exact ⟨g, cap, rfl, (Array.getElem?_eq_some_iff.1 hg).1, h1, by unfold maxLen at h2; omega, key 2 (by omega), key 10 (by omega), key 11 (by omega), key 12 (by omega), key 13 (by omega), key 14 (by omega)⟩

theorem houseHgt_any (n : Nat) (w : World) (hR : IsRoof w (houseR n)) :
    Calls Try.prog 10 #[.agg #[.slice (some ⟨n + 1 + 1 + 1, 0, none⟩) 2 2, .slice (some ⟨n + 1 + 1 + 1 + 1, 0, none⟩) 1 1], .int .i64 1, .agg #[.int .i64 50, .int .i64 0]] w
      fun e w' => e = .returned (.tuple #[.agg #[.int .i64 380, .int .i64 1], .int .i64 0]) ∧ Below w.heap.size w w' := by
  refine Calls.mono (height_any (houseR n) 1 ⟨50, 0⟩ w hR) ?_
  rintro e w' ⟨hb, h⟩
  refine ⟨?_, hb⟩
  rw [if_neg (by rw [house_check]; simp), if_neg (by show ¬ (decide ((0 : Int) ≤ 1) && decide ((1 : Int) < (2 : Nat))) = false; decide), if_neg (by decide)] at h
  obtain ⟨f, hf, rfl⟩ := h
  obtain rfl : houseN n = f := by
    have : (houseR n).fs[(1 : Int).toNat]? = some (houseN n) := rfl
    rw [this] at hf
    exact Option.some.inj hf
  rw [(house_hgt n).1, (house_hgt n).2]

set_option maxRecDepth 100000 in
set_option maxHeartbeats 4000000 in
theorem lives_any (w : World) : Calls Try.prog 9 #[] w fun e w' => e = .returned (.bool true) ∧ Below w.heap.size w w' := by
  go_enter Try.func9, Try.ntmps9
  go_wp2_with fail
  refine (house_any _).mono ?_
  rintro e w1 ⟨rfl, hR1, hb1⟩
  go_wp2_with fail
  refine (houseEds_any w.heap.size _ hR1).mono ?_
  rintro e w2 ⟨hb2, g, cap, rfl, hg, hc8, hcm, e0, e1, e2, e3, e4, e5⟩
  have hB2 := hb1.trans (hb2.mono hb1.size)
  go_wp2_with fail
  refine (house_any _).mono ?_
  rintro e w3 ⟨rfl, hR3, hb3⟩
  go_wp2_with fail
  refine (houseHgt_any w2.heap.size _ hR3).mono ?_
  rintro e w4 ⟨rfl, hb4⟩
  have hB4 := hB2.trans ((hb3.trans (hb4.mono hb3.size)).mono hB2.size)
  have hb24 := hb3.trans (hb4.mono hb3.size)
  have lg : g < w4.heap.size := Nat.lt_of_lt_of_le hg hb24.size
  replace e0 := (hb24.cell (p := ⟨g, _, none⟩) hg).trans e0
  replace e1 := (hb24.cell (p := ⟨g, _, none⟩) hg).trans e1
  replace e2 := (hb24.cell (p := ⟨g, _, none⟩) hg).trans e2
  replace e3 := (hb24.cell (p := ⟨g, _, none⟩) hg).trans e3
  replace e4 := (hb24.cell (p := ⟨g, _, none⟩) hg).trans e4
  replace e5 := (hb24.cell (p := ⟨g, _, none⟩) hg).trans e5
  have q1 : ∀ wx, (Op.equalIn 10000 57 (.agg #[.int .i64 0, .int .i64 2, .int .i64 5, .int .i64 1, .int .i64 2]) (.agg #[.int .i64 0, .int .i64 2, .int .i64 5, .int .i64 1, .int .i64 2])).run Try.prog wx = .ok true wx := fun wx => by
    rw [run_equalIn_struct wx 9999 57 _ _ (by kernel_rfl) (by kernel_rfl)]
    simp [Program.fieldsOf, Try.underlying57, Op.eqFields, go_sem]
  have q2 : ∀ wx, (Op.equalIn 10000 31 (.agg #[.int .i64 380, .int .i64 1]) (.agg #[.int .i64 380, .int .i64 1])).run Try.prog wx = .ok true wx := fun wx => (run_equalIn_ratio 9998 _ _ _ _ _).trans (by simp)
  clear hb1 hb2 hb3 hb4 hb24 hR1 hR3 hB2
  go_wp2_with fail
  go_ret
  exact ⟨rfl, hB4.alloc hB4.size _⟩
end Go.Proofs.Ytpdgcajbdaleeaa
