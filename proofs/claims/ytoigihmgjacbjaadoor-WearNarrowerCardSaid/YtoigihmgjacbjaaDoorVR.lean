/- with: marks in order with one more, or with one that is joined. No condition but the package's variable. -/
import Derived.Test.YtoigihmgjacbjaaDoorVP
import Derived.Test.YtoigihmgjacbjaaDoorVQ
set_option linter.unusedSimpArgs false
namespace Go.Proofs.YtoigihmgjacbjaaDoor
open Go.RowKit

theorem own_mono {w : World} {b b' n : Nat} {t : TypeId} {v : Value} {k : Nat} {xs : List Value} (h : w.ownsRow b t k v n xs) (hb : b' ≤ b) : w.ownsRow b' t k v n xs := by
  refine ⟨h.1, ?_⟩
  rcases h.2 with h | ⟨g, cap, cur, hv, h1, h2⟩
  · exact .inl h
  · exact .inr ⟨g, cap, cur, hv, Nat.le_trans hb h1, h2⟩
theorem set_flat (l : List Mrk) (i : Nat) (y : Mrk) (hi : i < l.length) : setL (i * 4) (mrkL y) (l.flatMap mrkL) = (l.set i y).flatMap mrkL := by
  have hl := flat_len mrkL 4 (fun _ => rfl) l
  have h4 : (mrkL y).length = 4 := rfl
  rw [setL_eq _ _ _ (by rw [hl, h4]; omega), h4, show i * 4 + 4 = (i + 1) * 4 by omega, flat_take mrkL 4 (fun _ => rfl), flat_drop mrkL 4 (fun _ => rfl), List.set_eq_take_append_cons_drop, if_pos hi]
  simp
theorem place_ins {l : List Mrk} {x : Mrk} {i : Nat} (h : PlaceOf l x i) : insK x l = if thereB l x i = true then l.set i ⟨x.at_, comM ((l[i]?.map (·.th)).getD ⟨0, 0⟩) x.th⟩ else l.take i ++ x :: l.drop i := by
  rw [insK_at x l i h.1 h.2.1 h.2.2]
  unfold thereB
  by_cases hh : l[i]?.map (·.at_) = some x.at_ <;> simp [hh]

set_option maxRecDepth 100000 in
set_option maxHeartbeats 8000000 in
theorem with_any (la : Option Addr) (lc : Nat) (l : List Mrk) (x : Mrk) (w : World) (hl : IsRow4 mrkC w la lc l) (hg : Laid w) (hord : ordB l = true) (hlen : l.length ≤ 1000) :
    Calls Tryd.prog 69 #[.slice la l.length lc, .agg #[.int .i64 x.at_.x, .int .i64 x.at_.y, .int .i64 x.th.lo, .int .i64 x.th.hi], .func (.func 67) #[] #[], .func (.func 70) #[] #[]] w fun e w' =>
      (∃ a' c', e = .returned (.slice a' (insK x l).length c') ∧ w'.ownsRow w.heap.size 61 4 (.slice a' (insK x l).length c') (insK x l).length ((insK x l).flatMap mrkL)) ∧ Below w.heap.size w w' := by
  have k1 := Blk.new w 61 #[.int .i64 x.at_.x, .int .i64 x.at_.y, .int .i64 x.th.lo, .int .i64 x.th.hi]
  have hb1 : Below w.heap.size w (w.alloc (.cells #[.int .i64 x.at_.x, .int .i64 x.at_.y, .int .i64 x.th.lo, .int .i64 x.th.hi] 61)) := (Below.refl _ w).alloc (Nat.le_refl _) _
  have HL := Lib.hid hl
  have HG := Lib.hid hg
  have HO := Lib.hid hord
  have HN := Lib.hid hlen
  clear hl hord hlen hg
  go_enter Tryd.func69, Tryd.ntmps69
  go_upto_region 1 with fail
  generalize w.alloc (.cells #[.int .i64 x.at_.x, .int .i64 x.at_.y, .int .i64 x.th.lo, .int .i64 x.th.hi] 61) = w1 at *
  have HB1 := Lib.hid hb1
  have K1 := Lib.hid k1
  obtain ⟨x0, x1, x2, x3⟩ := (show w1.cell? ⟨w.heap.size, 0, none⟩ = some (.int .i64 x.at_.x) ∧ w1.cell? ⟨w.heap.size, 1, none⟩ = some (.int .i64 x.at_.y) ∧ w1.cell? ⟨w.heap.size, 2, none⟩ = some (.int .i64 x.th.lo) ∧ w1.cell? ⟨w.heap.size, 3, none⟩ = some (.int .i64 x.th.hi) from ⟨k1.cell 0, k1.cell 1, k1.cell 2, k1.cell 3⟩)
  have l1 := k1.lt
  clear hb1 k1
  go_wp2_with fail
  refine (bsearch_any la lc l x _ (HL.out.below HB1.out) HO.out (by have := HN.out; omega)).mono ?_
  rintro e w2 ⟨⟨i, hpl, rfl⟩, hb⟩
  obtain ⟨tt, ht⟩ : ∃ tt, thereB l x i = tt := ⟨_, rfl⟩
  rw [ht]
  have HTT := Lib.hid ht
  have HPL := Lib.hid hpl
  have HB2 := Lib.hid (HB1.out.trans (hb.mono HB1.out.size))
  have K2 := Lib.hid (K1.out.belowS hb)
  clear x0 x1 x2 x3 l1 hb hpl ht K1
  go_wp2_with fail
  refine (clone_mrk la lc l _ (src_row (cs := mrkC) (fun _ => rfl) (fun _ => rfl) (HL.out.below HB2.out)) (by have := HN.out; omega)).mono ?_
  rintro e w3 ⟨⟨a', c', rfl, ho⟩, hb⟩
  have HB3 := Lib.hid (HB2.out.trans (hb.mono HB2.out.size))
  have K3 := Lib.hid (K2.out.belowS hb)
  have HOW := Lib.hid (own_where ho)
  have HOO := Lib.hid (own_mono ho HB2.out.size)
  have HKL := Lib.hid K2.out.lt
  clear hb ho K2
  cases tt with
  | false =>
    have HV := Lib.hid (show insK x l = l.take i ++ x :: l.drop i by rw [place_ins HPL.out, if_neg (by rw [HTT.out]; decide)])
    obtain ⟨x0, x1, x2, x3⟩ := (show w3.cell? ⟨w.heap.size, 0, none⟩ = some (.int .i64 x.at_.x) ∧ w3.cell? ⟨w.heap.size, 1, none⟩ = some (.int .i64 x.at_.y) ∧ w3.cell? ⟨w.heap.size, 2, none⟩ = some (.int .i64 x.th.lo) ∧ w3.cell? ⟨w.heap.size, 3, none⟩ = some (.int .i64 x.th.hi) from ⟨K3.out.cell 0, K3.out.cell 1, K3.out.cell 2, K3.out.cell 3⟩)
    have l1 := K3.out.lt
    have hb4 : Below w3.heap.size w3 (w3.alloc (.cells #[.int .i64 x.at_.x, .int .i64 x.at_.y, .int .i64 x.th.lo, .int .i64 x.th.hi] 61)) := (Below.refl _ w3).alloc (Nat.le_refl _) _
    have HI := Lib.hid (insert_any w.heap.size w3.heap.size a' c' l x i (w3.alloc (.cells #[.int .i64 x.at_.x, .int .i64 x.at_.y, .int .i64 x.th.lo, .int .i64 x.th.hi] 61)) (Nat.le_trans HB3.out.size hb4.size) (own_below HOO.out hb4) (by have := HN.out; omega) HPL.out.1 (Blk.new w3 61 #[.int .i64 x.at_.x, .int .i64 x.at_.y, .int .i64 x.th.lo, .int .i64 x.th.hi]) (fun p hp => by have := (HOW.out p hp).2; omega))
    have HB4 := Lib.hid (HB3.out.trans (hb4.mono HB3.out.size))
    clear hb4
    go_wp2_with fail
    refine HI.out.mono ?_
    rintro e w5 ⟨⟨a5, c5, rfl, ho5⟩, ht⟩
    rw [← HV.out] at ho5 ⊢
    have HO5 := Lib.hid ho5
    have HB5 := Lib.hid (HB4.out.trans (ht.below (base := w.heap.size) HB4.out.size (fun k e => by
      cases ha : a' with
      | none => rw [ha] at e; cases e
      | some p =>
        rw [ha] at e
        have := (HOW.out p ha).1
        have := HKL.out
        have := (show p.block = k from Option.some.inj e)
        omega)))
    clear ht ho5
    go_wp2_with fail
    go_ret
    exact ⟨⟨a5, c5, rfl, HO5.out⟩, HB5.out⟩
  | true =>
    have hil : i < l.length := by
      have h := HTT.out
      unfold thereB at h
      have h' := of_decide_eq_true h
      rcases Nat.lt_or_ge i l.length with h | h
      · exact h
      · rw [List.getElem?_eq_none h] at h'
        cases h'
    obtain ⟨g, cap, e, hbg, hgl⟩ := HOO.out.form (by omega)
    obtain ⟨rfl, _, rfl⟩ := slice_inj e
    have hq : l[i]? = some l[i] := List.getElem?_eq_getElem hil
    have HQ := Lib.hid hq
    have hcell : ∀ k, k < 4 → w3.cell? ⟨g, i * 4 + k, none⟩ = (mrkL l[i])[k]? := fun k hk => by
      rw [HOO.out.cellAt _ (by omega), flat_at mrkL 4 (fun _ => rfl) l i k _ hq hk]
    have hfz : ∀ k, w3.frozen? ⟨g, k, none⟩ = false := fun k => HOO.out.frozenAt k
    have hcap : l.length ≤ c' ∧ c' ≤ 9223372036854775807 := by
      rcases HOO.out.2 with ⟨e, _⟩ | ⟨_, _, _, e, _, _, h1, h2, _⟩
      · cases e
      · obtain ⟨_, _, rfl⟩ := slice_inj e
        unfold maxLen at h2
        omega
    have HCP := Lib.hid hcap
    have HIL := Lib.hid hil
    generalize l[i] = m at *
    have HGW := Lib.hid (HOW.out ⟨g, 0, none⟩ rfl)
    have y0 : w3.cell? ⟨g, i * 4, none⟩ = some (.int .i64 m.at_.x) := hcell 0 (by omega)
    have y1 : w3.cell? ⟨g, i * 4 + 1, none⟩ = some (.int .i64 m.at_.y) := hcell 1 (by omega)
    have y2 : w3.cell? ⟨g, i * 4 + 2, none⟩ = some (.int .i64 m.th.lo) := hcell 2 (by omega)
    have y3 : w3.cell? ⟨g, i * 4 + 3, none⟩ = some (.int .i64 m.th.hi) := hcell 3 (by omega)
    have hi' : (i : Int) < (l.length : Int) := by omega
    have hi0 : (0 : Int) ≤ (i : Int) := Int.natCast_nonneg _
    have HG3 := Lib.hid (HG.out.below HB3.out)
    clear e hq hcell hbg hil
    go_upto_region 5 with fail
    have hst : ∀ w', Below w3.heap.size w3 w' → (fun w' : World => Below w3.heap.size w3 w' ∧ (w'.cell? ⟨w.heap.size, 0, none⟩ = some (.int .i64 x.at_.x) ∧ w'.cell? ⟨w.heap.size, 1, none⟩ = some (.int .i64 x.at_.y) ∧ w'.cell? ⟨w.heap.size, 2, none⟩ = some (.int .i64 x.th.lo) ∧ w'.cell? ⟨w.heap.size, 3, none⟩ = some (.int .i64 x.th.hi) ∧ w'.cell? ⟨g, i * 4, none⟩ = some (.int .i64 m.at_.x) ∧ w'.cell? ⟨g, i * 4 + 1, none⟩ = some (.int .i64 m.at_.y) ∧ w'.cell? ⟨g, i * 4 + 2, none⟩ = some (.int .i64 m.th.lo) ∧ w'.cell? ⟨g, i * 4 + 3, none⟩ = some (.int .i64 m.th.hi))) w' := fun w' hb => by
      have z1 := K3.out.belowS hb
      have e : ∀ o, w'.cell? ⟨g, o, none⟩ = w3.cell? ⟨g, o, none⟩ := fun o => hb.cell (p := ⟨g, o, none⟩) HGW.out.2
      exact ⟨hb, z1.cell 0, z1.cell 1, z1.cell 2, z1.cell 3, (e _).trans y0, (e _).trans y1, (e _).trans y2, (e _).trans y3⟩
    have HST := Lib.hid hst
    have HY := Lib.hid (And.intro y0 (And.intro y1 (And.intro y2 y3)))
    have HFZ := Lib.hid hfz
    clear hst y0 y1 y2 y3 hfz hgl hcap
    have hx := HST.out w3.drew ((Below.refl _ w3).drew)
    refine wp_region_E 10 (fun w' : World => Below w3.heap.size w3 w' ∧ (w'.cell? ⟨w.heap.size, 0, none⟩ = some (.int .i64 x.at_.x) ∧ w'.cell? ⟨w.heap.size, 1, none⟩ = some (.int .i64 x.at_.y) ∧ w'.cell? ⟨w.heap.size, 2, none⟩ = some (.int .i64 x.th.lo) ∧ w'.cell? ⟨w.heap.size, 3, none⟩ = some (.int .i64 x.th.hi) ∧ w'.cell? ⟨g, i * 4, none⟩ = some (.int .i64 m.at_.x) ∧ w'.cell? ⟨g, i * 4 + 1, none⟩ = some (.int .i64 m.at_.y) ∧ w'.cell? ⟨g, i * 4 + 2, none⟩ = some (.int .i64 m.th.lo) ∧ w'.cell? ⟨g, i * 4 + 3, none⟩ = some (.int .i64 m.th.hi))) (by kernel_rfl) ?_
    refine E_take (i := 0) (oi := _) (v := ?vt18) rfl (by kernel_rfl) (by kernel_rfl) (by kernel_rfl) (by kernel_rfl) (fun _ _ _ h => h) hx (Or.inl ⟨by rfl, ?yt18⟩) ?rt18
    case yt18 => (intro w' hSw; (try dsimp only at hSw); go_simp; try with_reducible rfl)
    try simp only [Act.put, List.getElem_toArray, List.getElem_cons_zero, List.getElem_cons_succ, List.setIfInBounds_toArray, List.set_cons_zero, List.set_cons_succ]
    refine E_take (i := 1) (oi := _) (v := ?vt19) rfl (by kernel_rfl) (by kernel_rfl) (by kernel_rfl) (by kernel_rfl) (fun _ _ _ h => h) hx (Or.inl ⟨by rfl, ?yt19⟩) ?rt19
    case yt19 => (intro w' hSw; (try dsimp only at hSw); go_simp; try with_reducible rfl)
    try simp only [Act.put, List.getElem_toArray, List.getElem_cons_zero, List.getElem_cons_succ, List.setIfInBounds_toArray, List.set_cons_zero, List.set_cons_succ]
    refine E_take (i := 2) (oi := _) (v := ?vt20) rfl (by kernel_rfl) (by kernel_rfl) (by kernel_rfl) (by kernel_rfl) (fun _ _ _ h => h) hx (Or.inl ⟨by rfl, ?yt20⟩) ?rt20
    case yt20 => (intro w' hSw; (try dsimp only at hSw); go_simp; try with_reducible rfl)
    try simp only [Act.put, List.getElem_toArray, List.getElem_cons_zero, List.getElem_cons_succ, List.setIfInBounds_toArray, List.set_cons_zero, List.set_cons_succ]
    refine E_take (i := 3) (oi := _) (v := ?vt21) rfl (by kernel_rfl) (by kernel_rfl) (by kernel_rfl) (by kernel_rfl) (fun _ _ _ h => h) hx (Or.inl ⟨by rfl, ?yt21⟩) ?rt21
    case yt21 => (intro w' hSw; (try dsimp only at hSw); go_simp; try with_reducible rfl)
    try simp only [Act.put, List.getElem_toArray, List.getElem_cons_zero, List.getElem_cons_succ, List.setIfInBounds_toArray, List.set_cons_zero, List.set_cons_succ]
    refine E_take (i := 4) (oi := _) (v := ?vt22) rfl (by kernel_rfl) (by kernel_rfl) (by kernel_rfl) (by kernel_rfl) (fun _ _ _ h => h) hx (Or.inl ⟨by rfl, ?yt22⟩) ?rt22
    case yt22 => (intro w' hSw; (try dsimp only at hSw); go_simp; try with_reducible rfl)
    try simp only [Act.put, List.getElem_toArray, List.getElem_cons_zero, List.getElem_cons_succ, List.setIfInBounds_toArray, List.set_cons_zero, List.set_cons_succ]
    refine E_take (i := 5) (oi := _) (v := ?vt23) rfl (by kernel_rfl) (by kernel_rfl) (by kernel_rfl) (by kernel_rfl) (fun _ _ _ h => h) hx (Or.inl ⟨by rfl, ?yt23⟩) ?rt23
    case yt23 => (intro w' hSw; (try dsimp only at hSw); go_simp; try with_reducible rfl)
    try simp only [Act.put, List.getElem_toArray, List.getElem_cons_zero, List.getElem_cons_succ, List.setIfInBounds_toArray, List.set_cons_zero, List.set_cons_succ]
    refine E_take (i := 6) (oi := _) (v := ?vt24) rfl (by kernel_rfl) (by kernel_rfl) (by kernel_rfl) (by kernel_rfl) (fun _ _ _ h => h) hx (Or.inl ⟨by rfl, ?yt24⟩) ?rt24
    case yt24 => (intro w' hSw; (try dsimp only at hSw); go_simp; try with_reducible rfl)
    try simp only [Act.put, List.getElem_toArray, List.getElem_cons_zero, List.getElem_cons_succ, List.setIfInBounds_toArray, List.set_cons_zero, List.set_cons_succ]
    refine E_take (i := 7) (oi := _) (v := ?vt25) rfl (by kernel_rfl) (by kernel_rfl) (by kernel_rfl) (by kernel_rfl) (fun _ _ _ h => h) hx (Or.inl ⟨by rfl, ?yt25⟩) ?rt25
    case yt25 => (intro w' hSw; (try dsimp only at hSw); go_simp; try with_reducible rfl)
    try simp only [Act.put, List.getElem_toArray, List.getElem_cons_zero, List.getElem_cons_succ, List.setIfInBounds_toArray, List.set_cons_zero, List.set_cons_succ]
    refine E_step (i := 8) (o := _) (by kernel_rfl) rfl (fun K hK => ?_)
    go_simp
    refine (joined_any m x _ (HG3.out.below hx.1)).mono ?_
    rintro e w4 ⟨rfl, hb4⟩
    (try dsimp only)
    have hb34 : Below w3.heap.size w3 w4 := hx.1.trans (hb4.mono hx.1.size)
    refine hK.out _ _ (fun _ => HST.out w4 hb34) ?_
    clear hK K
    try simp only [Act.put, List.getElem_toArray, List.getElem_cons_zero, List.getElem_cons_succ, List.setIfInBounds_toArray, List.set_cons_zero, List.set_cons_succ]
    have hx4 := HST.out w4 hb34
    refine E_take (i := 9) (oi := _) (v := ?vt26) rfl (by kernel_rfl) (by kernel_rfl) (by kernel_rfl) (by kernel_rfl) (fun _ _ _ h => h) hx4 (Or.inl ⟨by rfl, ?yt26⟩) ?rt26
    case yt26 => (intro w' hSw; (try dsimp only at hSw); go_simp; try with_reducible rfl)
    try simp only [Act.put, List.getElem_toArray, List.getElem_cons_zero, List.getElem_cons_succ, List.setIfInBounds_toArray, List.set_cons_zero, List.set_cons_succ]
    have HB4 := Lib.hid (HB3.out.trans (hb34.mono HB3.out.size))
    have hO4 := own_below HOO.out hb34
    have e : ∀ o, w4.cell? ⟨g, o, none⟩ = w3.cell? ⟨g, o, none⟩ := fun o => hb34.cell (p := ⟨g, o, none⟩) HGW.out.2
    have y0 := (e _).trans HY.out.1
    have y1 := (e _).trans HY.out.2.1
    have y2 := (e _).trans HY.out.2.2.1
    have y3 := (e _).trans HY.out.2.2.2
    have z0 : w4.frozen? ⟨g, i * 4, none⟩ = false := hO4.frozenAt _
    have z1 : w4.frozen? ⟨g, i * 4 + 1, none⟩ = false := hO4.frozenAt _
    have z2 : w4.frozen? ⟨g, i * 4 + 2, none⟩ = false := hO4.frozenAt _
    have z3 : w4.frozen? ⟨g, i * 4 + 3, none⟩ = false := hO4.frozenAt _
    have lg : g < w4.heap.size := Nat.lt_of_lt_of_le HGW.out.2 hb34.size
    obtain ⟨y, hy⟩ : ∃ y, joinK m x = y := ⟨_, rfl⟩
    rw [hy]
    have HYY := Lib.hid hy
    have HO4 := Lib.hid hO4
    clear hx hx4 hb4 hb34 hO4 e hy
    refine E_step (i := 10) (o := _) (by kernel_rfl) rfl (fun K hK => ?_)
    go_simp
    refine hK.out _ _ (fun h => absurd rfl h) ?_
    clear hK K
    try simp only [Act.put, List.getElem_toArray, List.getElem_cons_zero, List.getElem_cons_succ, List.setIfInBounds_toArray, List.set_cons_zero, List.set_cons_succ]
    refine E_done (by kernel_rfl) ?_ _
    obtain ⟨hO5, hg5⟩ := own_setCells (mrkL y) (i * 4) HO4.out
    have ec : w4.setCells g (i * 4) (mrkL y) = ((((w4.setCell ⟨g, i * 4, none⟩ (.int .i64 y.at_.x)).setCell ⟨g, i * 4 + 1, none⟩ (.int .i64 y.at_.y)).setCell ⟨g, i * 4 + 2, none⟩ (.int .i64 y.th.lo)).setCell ⟨g, i * 4 + 3, none⟩ (.int .i64 y.th.hi)) := rfl
    rw [ec] at hO5 hg5
    generalize ((((w4.setCell ⟨g, i * 4, none⟩ (.int .i64 y.at_.x)).setCell ⟨g, i * 4 + 1, none⟩ (.int .i64 y.at_.y)).setCell ⟨g, i * 4 + 2, none⟩ (.int .i64 y.th.lo)).setCell ⟨g, i * 4 + 3, none⟩ (.int .i64 y.th.hi)) = w5 at *
    have HV := Lib.hid (show insK x l = l.set i y by
      rw [place_ins HPL.out, if_pos HTT.out, HQ.out, ← HYY.out]
      have h := of_decide_eq_true (show decide (l[i]?.map (·.at_) = some x.at_) = true from HTT.out)
      rw [HQ.out] at h
      have h2 : m.at_ = x.at_ := by simpa using h
      simp [joinK, h2])
    have HO5 := Lib.hid (show w5.ownsRow w.heap.size 61 4 (.slice (some ⟨g, 0, none⟩) (insK x l).length c') (insK x l).length ((insK x l).flatMap mrkL) by
      rw [HV.out, List.length_set, ← set_flat l i y HIL.out]
      exact hO5)
    have HB5 := Lib.hid (HB4.out.grown hg5 HB4.out.size (fun k e => by
      obtain rfl := Option.some.inj e
      have := HGW.out.1
      have := HKL.out
      simp only at *
      omega))
    have HLN := Lib.hid (show (insK x l).length = l.length by rw [HV.out, List.length_set])
    clear hO5 hg5 ec y0 y1 y2 y3 z0 z1 z2 z3 lg
    go_wp2_with fail
    go_ret
    exact ⟨⟨some ⟨g, 0, none⟩, c', by rw [HLN.out]; rfl, HO5.out⟩, HB5.out⟩
end Go.Proofs.YtoigihmgjacbjaaDoor
