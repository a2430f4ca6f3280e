/- lessened; copyOf: a skin with rows of its own. No condition. -/
import Derived.Test.YtoigihmgjacbjaaDoorVF
set_option linter.unusedSimpArgs false
namespace Go.Proofs.YtoigihmgjacbjaaDoor
open Go.RowKit

set_option maxHeartbeats 2000000 in
theorem lessened_any (s t : Spn) (hs : isSpanB s 0 2000 = true) (ht : isSpanB t 0 2000 = true) (w : World) :
    Calls Tryd.prog 62 #[.agg #[.int .i64 s.lo, .int .i64 s.hi], .agg #[.int .i64 t.lo, .int .i64 t.hi]] w fun e w' => e = .returned (.agg #[.int .i64 (lessS s t).lo, .int .i64 (lessS s t).hi]) ∧ Below w.heap.size w w' := by
  rw [isSpanB_iff] at hs ht
  obtain ⟨al, ah⟩ := s
  obtain ⟨bl, bh⟩ := t
  simp only at hs ht
  have w1 : IntKind.i64.wrap (al - bh) = al - bh := by rw [IntKind.wrap_i64]; omega
  have w2 : IntKind.i64.wrap (ah - bl) = ah - bl := by rw [IntKind.wrap_i64]; omega
  obtain ⟨L, hL⟩ : ∃ L, max 0 (al - bh) = L := ⟨_, rfl⟩
  obtain ⟨K, hK⟩ : ∃ K, max 0 (ah - bl) = K := ⟨_, rfl⟩
  have HH := Lib.hid (show lessS ⟨al, ah⟩ ⟨bl, bh⟩ = ⟨L, K⟩ by simp only [lessS, hL, hK])
  clear hs ht
  by_cases h1 : 0 < al - bh
  all_goals by_cases h2 : 0 < ah - bl
  all_goals
    have e1 := hL
    have e2 := hK
    first | (have q1 : L = al - bh := by omega) | (have q1 : L = 0 := by omega)
    first | (have q2 : K = ah - bl := by omega) | (have q2 : K = 0 := by omega)
    clear e1 e2 hL hK
    subst q1 q2
    go_enter Tryd.func62, Tryd.ntmps62
    go_wp2
  all_goals
    exact bodyPost_ret (v := .agg #[.int .i64 (lessS ⟨al, ah⟩ ⟨bl, bh⟩).lo, .int .i64 (lessS ⟨al, ah⟩ ⟨bl, bh⟩).hi]) (by rw [HH.out]; simp [results, Tryd.results62, go_sem]) rfl ⟨rfl, (((Below.refl _ _).alloc (Nat.le_refl _) _).alloc (by simp) _).alloc (by simp; omega) _⟩

/-! ### What a row gives an append -/
theorem src_pts {w : World} {a : Option Addr} {c : Nat} {l : List Pnt} (h : IsPts w (.slice a l.length c) l) : l = [] ∨ ∃ b off, a = some ⟨b, off, none⟩ ∧ b < w.heap.size ∧ l.length ≤ c ∧ c ≤ 9223372036854775807 ∧ ∀ j x, l[j]? = some x → ∀ i u, (pntL x)[i]? = some u → w.cell? ⟨b, off + j * 2 + i, none⟩ = some u := by
  rcases h with ⟨_, h⟩ | ⟨b, off, cap, e, h1, h2, h3, h4⟩
  · exact .inl h
  · obtain ⟨rfl, _, rfl⟩ := slice_inj e
    refine .inr ⟨b, off, rfl, h1, h2, h3, fun j x hj i u hu => ?_⟩
    have := h4 j x hj
    match i, hu with
    | 0, hu => obtain rfl := Option.some.inj hu; exact this.1
    | 1, hu => obtain rfl := Option.some.inj hu; exact this.2
theorem src_row {α : Type} {cs : α → Array Value} {f : α → List Value} (hf : ∀ x, (cs x).toList = f x) (hn : ∀ x, (f x).length = 4) {w : World} {a : Option Addr} {c : Nat} {l : List α} (h : IsRow4 cs w a c l) : l = [] ∨ ∃ b off, a = some ⟨b, off, none⟩ ∧ b < w.heap.size ∧ l.length ≤ c ∧ c ≤ 9223372036854775807 ∧ ∀ j x, l[j]? = some x → ∀ i u, (f x)[i]? = some u → w.cell? ⟨b, off + j * 4 + i, none⟩ = some u := by
  rcases h with h | ⟨b, off, e, h1, h2, h3, h4⟩
  · exact .inl h
  · refine .inr ⟨b, off, e, h1, h2, h3, fun j x hj i u hu => ?_⟩
    have hi : i < 4 := by rw [← hn x]; exact (List.getElem?_eq_some_iff.1 hu).1
    rw [h4 j x hj i hi, ← hu, ← hf x]
    simp
/-- A row of the call's own lies from a block on, and among those that there are. -/
theorem own_where {w : World} {base n : Nat} {t : TypeId} {a : Option Addr} {l c : Nat} {vs : List Value} (h : w.ownsRow base t n (.slice a l c) l vs) : ∀ x, a = some x → base ≤ x.block ∧ x.block < w.heap.size := by
  intro x hx
  rcases h.2 with ⟨e, _⟩ | ⟨g, cap, cur, hv, hb, hg, _⟩
  · obtain ⟨rfl, _⟩ := slice_inj e
    cases hx
  · obtain ⟨rfl, _⟩ := slice_inj hv
    obtain rfl := Option.some.inj hx
    exact ⟨hb, (Array.getElem?_eq_some_iff.1 hg).1⟩
/-- Marks in a row of the call's own, whole: they may be written. -/
def rowAt (cur : Array Value) (l : List Mrk) : Prop := ∀ j m, l[j]? = some m → ∀ i, i < 4 → cur[j * 4 + i]? = (mrkC m)[i]?
def OwnMarks (w : World) (n : Nat) (a : Option Addr) (c : Nat) (l : List Mrk) : Prop :=
  (l = [] ∧ ∀ x, a = some x → n ≤ x.block) ∨ ∃ g cur, a = some ⟨g, 0, none⟩ ∧ n ≤ g ∧ l.length ≤ c ∧ c ≤ 9223372036854775807 ∧ Blk w g cur 61 ∧ rowAt cur l
theorem own_marks {w : World} {n : Nat} {a : Option Addr} {c : Nat} {l : List Mrk} (h : w.ownsRow n 61 4 (.slice a l.length c) l.length (l.flatMap mrkL)) : OwnMarks w n a c l := by
  by_cases h0 : l = []
  · exact .inl ⟨h0, fun x hx => (own_where h x hx).1⟩
  rcases row_at mrkL 4 (fun _ => rfl) h with ⟨e, h1⟩ | ⟨g, cap, e, hb, hlt, hc, hcx, hall⟩
  · exact absurd h1 h0
  obtain ⟨rfl, _, rfl⟩ := slice_inj e
  rcases h.2 with ⟨e2, _⟩ | ⟨g2, cap2, cur, hv, hb2, hg, _⟩
  · cases e2
  · obtain ⟨e3, _, _⟩ := slice_inj hv
    simp only [Option.some.injEq, Addr.mk.injEq, and_true] at e3
    subst e3
    refine .inr ⟨g, cur, rfl, hb, hc, hcx, hg, fun j m hj i hi => ?_⟩
    have h5 := hall j m hj i hi
    rw [show w.cell? ⟨g, j * 4 + i, none⟩ = cur[j * 4 + i]? from (show Blk w g cur 61 from hg).cell _] at h5
    rw [h5]
    simp [mrkL, mrkC]
theorem OwnMarks.row {w : World} {n : Nat} {a : Option Addr} {c : Nat} {l : List Mrk} (h : OwnMarks w n a c l) : IsRow4 mrkC w a c l := by
  rcases h with ⟨h, _⟩ | ⟨g, cur, e, hn, hc, hcx, hB, hr⟩
  · exact .inl h
  · exact .inr ⟨g, 0, e, hB.lt, hc, hcx, fun j m hj i hi => by rw [Nat.zero_add, hB.cell, hr j m hj i hi]⟩
theorem OwnMarks.from {w : World} {n : Nat} {a : Option Addr} {c : Nat} {l : List Mrk} (h : OwnMarks w n a c l) : FromB n a := fun x hx => by
  rcases h with ⟨_, h⟩ | ⟨g, cur, e, hn, _⟩
  · exact h x hx
  · rw [e] at hx
    obtain rfl := Option.some.inj hx
    exact hn

theorem OwnMarks.turn {X : Nat → Prop} {w w' : World} {n : Nat} {a : Option Addr} {c : Nat} {l : List Mrk} (h : OwnMarks w n a c l) (ht : Turn X w w') (hX : ∀ k, X k → k < n) : OwnMarks w' n a c l := by
  rcases h with h | ⟨g, cur, e, hn, hc, hcx, hB, hr⟩
  · exact .inl h
  · exact .inr ⟨g, cur, e, hn, hc, hcx, ht.blk hB (fun hx => by have := hX g hx; omega), hr⟩

/-- A skin with rows of its own: those of the marks last. -/
structure CopySaid (S : Skn) (w : World) (e : Ending) (w' : World) : Prop where
  ex : ∃ (a1 a2 a3 : Option Addr) (c1 c2 c3 n : Nat), e = .returned (.agg #[.slice a1 S.pts.length c1, .slice a2 S.hs.length c2, .int .i64 S.steep, .int .i64 S.th.lo, .int .i64 S.th.hi, .slice a3 S.ms.length c3]) ∧ w.heap.size ≤ n ∧ (∀ x, a1 = some x ∨ a2 = some x → w.heap.size ≤ x.block ∧ x.block < n) ∧
    IsPts w' (.slice a1 S.pts.length c1) S.pts ∧ IsRow4 holC w' a2 c2 S.hs ∧ OwnMarks w' n a3 c3 S.ms ∧ (∀ x, a3 = some x → n ≤ x.block ∧ x.block < w'.heap.size) ∧ n ≤ w'.heap.size
  below : Below w.heap.size w w'

set_option maxRecDepth 100000 in
set_option maxHeartbeats 8000000 in
theorem copyOf_any (S : Skn) (w : World) (hS : IsSkn w S) (h1 : S.pts.length ≤ 100000) (h2 : S.hs.length ≤ 100000) (h3 : S.ms.length ≤ 100000) :
    Calls Tryd.prog 61 #[.agg #[.slice S.pa S.pts.length S.pc, .slice S.ha S.hs.length S.hc, .int .i64 S.steep, .int .i64 S.th.lo, .int .i64 S.th.hi, .slice S.ma S.ms.length S.mc]] w (CopySaid S w) := by
  have k1 := (Blk.new w 30 #[.slice S.pa S.pts.length S.pc, .slice S.ha S.hs.length S.hc, .int .i64 S.steep, .int .i64 S.th.lo, .int .i64 S.th.hi, .slice S.ma S.ms.length S.mc]).alloc (.cells #[.slice none 0 0, .slice none 0 0, .int .i64 0, .int .i64 0, .int .i64 0, .slice none 0 0] 30)
  have k2 := Blk.new (w.alloc (.cells #[.slice S.pa S.pts.length S.pc, .slice S.ha S.hs.length S.hc, .int .i64 S.steep, .int .i64 S.th.lo, .int .i64 S.th.hi, .slice S.ma S.ms.length S.mc] 30)) 30 #[.slice none 0 0, .slice none 0 0, .int .i64 0, .int .i64 0, .int .i64 0, .slice none 0 0]
  rw [World.size_alloc] at k2
  have hb1 : Below w.heap.size w ((w.alloc (.cells #[.slice S.pa S.pts.length S.pc, .slice S.ha S.hs.length S.hc, .int .i64 S.steep, .int .i64 S.th.lo, .int .i64 S.th.hi, .slice S.ma S.ms.length S.mc] 30)).alloc (.cells #[.slice none 0 0, .slice none 0 0, .int .i64 0, .int .i64 0, .int .i64 0, .slice none 0 0] 30)) := ((Below.refl _ w).alloc (Nat.le_refl _) _).alloc (by simp) _
  have HS := Lib.hid hS
  have HL1 := Lib.hid h1
  have HL2 := Lib.hid h2
  have HL3 := Lib.hid h3
  clear hS h1 h2 h3
  go_enter Tryd.func61, Tryd.ntmps61
  go_upto_region 1 with fail
  generalize ((w.alloc (.cells #[.slice S.pa S.pts.length S.pc, .slice S.ha S.hs.length S.hc, .int .i64 S.steep, .int .i64 S.th.lo, .int .i64 S.th.hi, .slice S.ma S.ms.length S.mc] 30)).alloc (.cells #[.slice none 0 0, .slice none 0 0, .int .i64 0, .int .i64 0, .int .i64 0, .slice none 0 0] 30)) = w1 at *
  have K1 := Lib.hid k1
  have K2 := Lib.hid k2
  have HB1 := Lib.hid hb1
  have hst : ∀ w', Below w1.heap.size w1 w' → (fun w' : World => Below w1.heap.size w1 w' ∧ (w'.cell? ⟨w.heap.size, 0, none⟩ = some (.slice S.pa S.pts.length S.pc) ∧ w'.cell? ⟨w.heap.size, 1, none⟩ = some (.slice S.ha S.hs.length S.hc) ∧ w'.cell? ⟨w.heap.size, 2, none⟩ = some (.int .i64 S.steep) ∧ w'.cell? ⟨w.heap.size, 3, none⟩ = some (.int .i64 S.th.lo) ∧ w'.cell? ⟨w.heap.size, 4, none⟩ = some (.int .i64 S.th.hi) ∧ w'.cell? ⟨w.heap.size, 5, none⟩ = some (.slice S.ma S.ms.length S.mc))) w' := fun w' hb => by
    have x1 := K1.out.belowS hb
    exact ⟨hb, x1.cell 0, x1.cell 1, x1.cell 2, x1.cell 3, x1.cell 4, x1.cell 5⟩
  have HST := Lib.hid hst
  clear k1 k2 hb1 hst
  have hx := HST.out w1.drew ((Below.refl _ w1).drew)
  refine wp_region_E 10 (fun w' : World => Below w1.heap.size w1 w' ∧ (w'.cell? ⟨w.heap.size, 0, none⟩ = some (.slice S.pa S.pts.length S.pc) ∧ w'.cell? ⟨w.heap.size, 1, none⟩ = some (.slice S.ha S.hs.length S.hc) ∧ w'.cell? ⟨w.heap.size, 2, none⟩ = some (.int .i64 S.steep) ∧ w'.cell? ⟨w.heap.size, 3, none⟩ = some (.int .i64 S.th.lo) ∧ w'.cell? ⟨w.heap.size, 4, none⟩ = some (.int .i64 S.th.hi) ∧ w'.cell? ⟨w.heap.size, 5, none⟩ = some (.slice S.ma S.ms.length S.mc))) (by kernel_rfl) ?_
  refine E_take (i := 0) (oi := _) (v := ?vt10) rfl (by kernel_rfl) (by kernel_rfl) (by kernel_rfl) (by kernel_rfl) (fun _ _ _ h => h) hx (Or.inl ⟨by rfl, ?yt10⟩) ?rt10
  case yt10 => (intro w' hSw; (try dsimp only at hSw); go_simp; try with_reducible rfl)
  try simp only [Act.put, List.getElem_toArray, List.getElem_cons_zero, List.getElem_cons_succ, List.setIfInBounds_toArray, List.set_cons_zero, List.set_cons_succ]
  refine E_take (i := 1) (oi := _) (v := ?vt11) rfl (by kernel_rfl) (by kernel_rfl) (by kernel_rfl) (by kernel_rfl) (fun _ _ _ h => h) hx (Or.inl ⟨by rfl, ?yt11⟩) ?rt11
  case yt11 => (intro w' hSw; (try dsimp only at hSw); go_simp; try with_reducible rfl)
  try simp only [Act.put, List.getElem_toArray, List.getElem_cons_zero, List.getElem_cons_succ, List.setIfInBounds_toArray, List.set_cons_zero, List.set_cons_succ]
  refine E_take (i := 2) (oi := _) (v := ?vt12) rfl (by kernel_rfl) (by kernel_rfl) (by kernel_rfl) (by kernel_rfl) (fun _ _ _ h => h) hx (Or.inl ⟨by rfl, ?yt12⟩) ?rt12
  case yt12 => (intro w' hSw; (try dsimp only at hSw); go_simp; try with_reducible rfl)
  try simp only [Act.put, List.getElem_toArray, List.getElem_cons_zero, List.getElem_cons_succ, List.setIfInBounds_toArray, List.set_cons_zero, List.set_cons_succ]
  refine E_take (i := 4) (oi := _) (v := ?vt13) rfl (by kernel_rfl) (by kernel_rfl) (by kernel_rfl) (by kernel_rfl) (fun _ _ _ h => h) hx (Or.inl ⟨by rfl, ?yt13⟩) ?rt13
  case yt13 => (intro w' hSw; (try dsimp only at hSw); go_simp; try with_reducible rfl)
  try simp only [Act.put, List.getElem_toArray, List.getElem_cons_zero, List.getElem_cons_succ, List.setIfInBounds_toArray, List.set_cons_zero, List.set_cons_succ]
  refine E_take (i := 5) (oi := _) (v := ?vt14) rfl (by kernel_rfl) (by kernel_rfl) (by kernel_rfl) (by kernel_rfl) (fun _ _ _ h => h) hx (Or.inl ⟨by rfl, ?yt14⟩) ?rt14
  case yt14 => (intro w' hSw; (try dsimp only at hSw); go_simp; try with_reducible rfl)
  try simp only [Act.put, List.getElem_toArray, List.getElem_cons_zero, List.getElem_cons_succ, List.setIfInBounds_toArray, List.set_cons_zero, List.set_cons_succ]
  refine E_take (i := 6) (oi := _) (v := ?vt15) rfl (by kernel_rfl) (by kernel_rfl) (by kernel_rfl) (by kernel_rfl) (fun _ _ _ h => h) hx (Or.inl ⟨by rfl, ?yt15⟩) ?rt15
  case yt15 => (intro w' hSw; (try dsimp only at hSw); go_simp; try with_reducible rfl)
  try simp only [Act.put, List.getElem_toArray, List.getElem_cons_zero, List.getElem_cons_succ, List.setIfInBounds_toArray, List.set_cons_zero, List.set_cons_succ]
  refine E_step (i := 3) (o := _) (by kernel_rfl) rfl (fun K hK => ?_)
  go_simp
  refine (clone_pts S.pa S.pc S.pts _ (src_pts (HS.out.pts.below (HB1.out.drew))) HL1.out).mono ?_
  rintro e w2 ⟨⟨a1, c1, rfl, ho1⟩, hb2⟩
  (try dsimp only)
  have hb12 : Below w1.heap.size w1 w2 := hx.1.trans (hb2.mono hx.1.size)
  refine hK.out _ _ (fun _ => HST.out w2 hb12) ?_
  clear hK K
  try simp only [Act.put, List.getElem_toArray, List.getElem_cons_zero, List.getElem_cons_succ, List.setIfInBounds_toArray, List.set_cons_zero, List.set_cons_succ]
  have hx2 := HST.out w2 hb12
  refine E_step (i := 7) (o := _) (by kernel_rfl) rfl (fun K hK => ?_)
  go_simp
  refine (clone_box S.ha S.hc S.hs _ (src_row (cs := holC) (fun _ => rfl) (fun _ => rfl) (HS.out.hs.below (HB1.out.trans (hb12.mono HB1.out.size)))) HL2.out).mono ?_
  rintro e w3 ⟨⟨a2, c2, rfl, ho2⟩, hb3⟩
  (try dsimp only)
  have hb13 : Below w1.heap.size w1 w3 := hb12.trans (hb3.mono hb12.size)
  refine hK.out _ _ (fun _ => HST.out w3 hb13) ?_
  clear hK K
  try simp only [Act.put, List.getElem_toArray, List.getElem_cons_zero, List.getElem_cons_succ, List.setIfInBounds_toArray, List.set_cons_zero, List.set_cons_succ]
  have hx3 := HST.out w3 hb13
  refine E_take (i := 8) (oi := _) (v := ?vt16) rfl (by kernel_rfl) (by kernel_rfl) (by kernel_rfl) (by kernel_rfl) (fun _ _ _ h => h) hx3 (Or.inl ⟨by rfl, ?yt16⟩) ?rt16
  case yt16 => (intro w' hSw; (try dsimp only at hSw); go_simp; try with_reducible rfl)
  try simp only [Act.put, List.getElem_toArray, List.getElem_cons_zero, List.getElem_cons_succ, List.setIfInBounds_toArray, List.set_cons_zero, List.set_cons_succ]
  refine E_take (i := 9) (oi := _) (v := ?vt17) rfl (by kernel_rfl) (by kernel_rfl) (by kernel_rfl) (by kernel_rfl) (fun _ _ _ h => h) hx3 (Or.inl ⟨by rfl, ?yt17⟩) ?rt17
  case yt17 => (intro w' hSw; (try dsimp only at hSw); go_simp; try with_reducible rfl)
  try simp only [Act.put, List.getElem_toArray, List.getElem_cons_zero, List.getElem_cons_succ, List.setIfInBounds_toArray, List.set_cons_zero, List.set_cons_succ]
  have P1 := Lib.hid ((pts_own ho1).1.below hb3)
  have P2 := Lib.hid (hol_own ho2).1
  have Q1 := Lib.hid (fun x hx => (own_where ho1 x hx))
  have Q2 := Lib.hid (fun x hx => (own_where ho2 x hx))
  have HB23 := Lib.hid hb3.size
  have HB12 := Lib.hid hb12.size
  have K13 := Lib.hid (K1.out.belowS hb13)
  have K23 := Lib.hid (K2.out.belowS hb13)
  have HB13 := Lib.hid (HB1.out.trans (hb13.mono HB1.out.size))
  have HSZ := Lib.hid (show w.heap.size + 2 ≤ w1.heap.size from K2.out.lt)
  obtain ⟨s0, s1, s2, s3, s4, s5⟩ := skn_cells (S := S) K13.out
  have z0 := K13.out.frozen 0
  have z1 := K13.out.frozen 1
  have l1 := K13.out.lt
  clear hx hx2 hx3 ho1 ho2 hb2 hb3 hb12 hb13
  refine E_step (i := 10) (o := _) (by kernel_rfl) rfl (fun K hK => ?_)
  go_simp
  refine hK.out _ _ (fun h => absurd rfl h) ?_
  clear hK K
  try simp only [Act.put, List.getElem_toArray, List.getElem_cons_zero, List.getElem_cons_succ, List.setIfInBounds_toArray, List.set_cons_zero, List.set_cons_succ]
  refine E_done (by kernel_rfl) ?_ _
  have kf : Blk ((w3.setCell ⟨w.heap.size, 0, none⟩ (.slice a1 S.pts.length c1)).setCell ⟨w.heap.size, 1, none⟩ (.slice a2 S.hs.length c2)) w.heap.size #[.slice a1 S.pts.length c1, .slice a2 S.hs.length c2, .int .i64 S.steep, .int .i64 S.th.lo, .int .i64 S.th.hi, .slice S.ma S.ms.length S.mc] 30 := ((K13.out.set 0 (.slice a1 S.pts.length c1)).set 1 (.slice a2 S.hs.length c2))
  have ht : Turn (fun k => k = w.heap.size) w3 ((w3.setCell ⟨w.heap.size, 0, none⟩ (.slice a1 S.pts.length c1)).setCell ⟨w.heap.size, 1, none⟩ (.slice a2 S.hs.length c2)) := (((Turn.of_below (X := fun k => k = w.heap.size) (Below.refl _ w3)).setCell (B := w.heap.size) rfl 0 (.slice a1 S.pts.length c1)).setCell (B := w.heap.size) rfl 1 (.slice a2 S.hs.length c2))
  generalize ((w3.setCell ⟨w.heap.size, 0, none⟩ (.slice a1 S.pts.length c1)).setCell ⟨w.heap.size, 1, none⟩ (.slice a2 S.hs.length c2)) = w4 at *
  have K14 := Lib.hid kf
  have K24 := Lib.hid (ht.blk K23.out (fun e => by have := (show w.heap.size + 1 = w.heap.size from e); omega))
  have HB4 := Lib.hid (HB13.out.trans (ht.below HB13.out.size (fun k e => by rw [show k = w.heap.size from e]; exact Nat.le_refl _)))
  have P14 := Lib.hid (P1.out.turn ht (fun x hx e => by have := (Q1.out x hx).1; have := HSZ.out; have := (show x.block = w.heap.size from e); have h6 : w1.drew.heap.size = w1.heap.size := rfl; omega))
  have P24 := Lib.hid (P2.out.turn ht (fun x hx e => by have := (Q2.out x hx).1; have := HB12.out; have := HSZ.out; have := (show x.block = w.heap.size from e); omega))
  have R1 := Lib.hid (fun (x : Addr) (hx : a1 = some x) => show w.heap.size + 2 ≤ x.block ∧ x.block < w4.heap.size from by
    have h1 := Q1.out x hx
    have h2 := HB12.out
    have h3 := HB23.out
    have h4 := HSZ.out
    have h5 := ht.size
    have h6 : w1.drew.heap.size = w1.heap.size := rfl
    omega)
  have R2 := Lib.hid (fun (x : Addr) (hx : a2 = some x) => show w.heap.size + 2 ≤ x.block ∧ x.block < w4.heap.size from by
    have h1 := Q2.out x hx
    have h2 := HB12.out
    have h4 := HSZ.out
    have h5 := ht.size
    omega)
  clear s0 s1 s2 s3 s4 s5 z0 z1 l1 kf ht K13 K23 P1 P2 Q1 Q2
  obtain ⟨s0, s1, s2, s3, s4, s5⟩ := (show w4.cell? ⟨w.heap.size, 0, none⟩ = some (.slice a1 S.pts.length c1) ∧ w4.cell? ⟨w.heap.size, 1, none⟩ = some (.slice a2 S.hs.length c2) ∧ w4.cell? ⟨w.heap.size, 2, none⟩ = some (.int .i64 S.steep) ∧ w4.cell? ⟨w.heap.size, 3, none⟩ = some (.int .i64 S.th.lo) ∧ w4.cell? ⟨w.heap.size, 4, none⟩ = some (.int .i64 S.th.hi) ∧ w4.cell? ⟨w.heap.size, 5, none⟩ = some (.slice S.ma S.ms.length S.mc) from ⟨K14.out.cell 0, K14.out.cell 1, K14.out.cell 2, K14.out.cell 3, K14.out.cell 4, K14.out.cell 5⟩)
  have z5 := K14.out.frozen 5
  have l1 := K14.out.lt
  go_wp2_with fail
  refine (clone_mrk S.ma S.mc S.ms _ (src_row (cs := mrkC) (fun _ => rfl) (fun _ => rfl) (HS.out.ms.below HB4.out)) HL3.out).mono ?_
  rintro e w5 ⟨⟨a3, c3, rfl, ho3⟩, hb5⟩
  have HO := Lib.hid (own_marks ho3)
  have HOW := Lib.hid (own_where ho3)
  have HS45 := Lib.hid hb5.size
  have K15 := Lib.hid (K14.out.belowS hb5)
  have K25 := Lib.hid (K24.out.belowS hb5)
  have HB5 := Lib.hid (HB4.out.trans (hb5.mono HB4.out.size))
  have P15 := Lib.hid (P14.out.below hb5)
  have P25 := Lib.hid (P24.out.below hb5)
  have HSZ4 := Lib.hid (show w.heap.size + 2 ≤ w4.heap.size from K24.out.lt)
  clear s0 s1 s2 s3 s4 s5 z5 l1 ho3 hb5 K14 K24 P14 P24
  obtain ⟨s0, s1, s2, s3, s4, s5⟩ := (show w5.cell? ⟨w.heap.size, 0, none⟩ = some (.slice a1 S.pts.length c1) ∧ w5.cell? ⟨w.heap.size, 1, none⟩ = some (.slice a2 S.hs.length c2) ∧ w5.cell? ⟨w.heap.size, 2, none⟩ = some (.int .i64 S.steep) ∧ w5.cell? ⟨w.heap.size, 3, none⟩ = some (.int .i64 S.th.lo) ∧ w5.cell? ⟨w.heap.size, 4, none⟩ = some (.int .i64 S.th.hi) ∧ w5.cell? ⟨w.heap.size, 5, none⟩ = some (.slice S.ma S.ms.length S.mc) from ⟨K15.out.cell 0, K15.out.cell 1, K15.out.cell 2, K15.out.cell 3, K15.out.cell 4, K15.out.cell 5⟩)
  have z5 := K15.out.frozen 5
  have l1 := K15.out.lt
  go_upto_region 3 with fail
  have kf : Blk (w5.setCell ⟨w.heap.size, 5, none⟩ (.slice a3 S.ms.length c3)) w.heap.size #[.slice a1 S.pts.length c1, .slice a2 S.hs.length c2, .int .i64 S.steep, .int .i64 S.th.lo, .int .i64 S.th.hi, .slice a3 S.ms.length c3] 30 := K15.out.set 5 _
  have ht : Turn (fun k => k = w.heap.size) w5 (w5.setCell ⟨w.heap.size, 5, none⟩ (.slice a3 S.ms.length c3)) := (Turn.of_below (X := fun k => k = w.heap.size) (Below.refl _ w5)).setCell (B := w.heap.size) rfl 5 _
  generalize w5.setCell ⟨w.heap.size, 5, none⟩ (.slice a3 S.ms.length c3) = w6 at *
  have k26 := ht.blk K25.out (fun e => by have := (show w.heap.size + 1 = w.heap.size from e); omega)
  have HT6 := Lib.hid ht
  have K16 := Lib.hid kf
  have K26 := Lib.hid k26
  clear s0 s1 s2 s3 s4 s5 z5 l1 kf ht k26
  obtain ⟨s0, s1, s2, s3, s4, s5⟩ := (show w6.cell? ⟨w.heap.size, 0, none⟩ = some (.slice a1 S.pts.length c1) ∧ w6.cell? ⟨w.heap.size, 1, none⟩ = some (.slice a2 S.hs.length c2) ∧ w6.cell? ⟨w.heap.size, 2, none⟩ = some (.int .i64 S.steep) ∧ w6.cell? ⟨w.heap.size, 3, none⟩ = some (.int .i64 S.th.lo) ∧ w6.cell? ⟨w.heap.size, 4, none⟩ = some (.int .i64 S.th.hi) ∧ w6.cell? ⟨w.heap.size, 5, none⟩ = some (.slice a3 S.ms.length c3) from ⟨K16.out.cell 0, K16.out.cell 1, K16.out.cell 2, K16.out.cell 3, K16.out.cell 4, K16.out.cell 5⟩)
  have l1 := K16.out.lt
  have l2 := K26.out.lt
  have z0 := K26.out.frozen 0
  have z1 := K26.out.frozen 1
  have z2 := K26.out.frozen 2
  have z3 := K26.out.frozen 3
  have z4 := K26.out.frozen 4
  have z5 := K26.out.frozen 5
  obtain ⟨r0, r1, r2, r3, r4, r5⟩ := (show w6.cell? ⟨w.heap.size + 1, 0, none⟩ = some (.slice none 0 0) ∧ w6.cell? ⟨w.heap.size + 1, 1, none⟩ = some (.slice none 0 0) ∧ w6.cell? ⟨w.heap.size + 1, 2, none⟩ = some (.int .i64 0) ∧ w6.cell? ⟨w.heap.size + 1, 3, none⟩ = some (.int .i64 0) ∧ w6.cell? ⟨w.heap.size + 1, 4, none⟩ = some (.int .i64 0) ∧ w6.cell? ⟨w.heap.size + 1, 5, none⟩ = some (.slice none 0 0) from ⟨K26.out.cell 0, K26.out.cell 1, K26.out.cell 2, K26.out.cell 3, K26.out.cell 4, K26.out.cell 5⟩)
  go_wp2_with fail
  have kf : Blk ((((((w6.setCell ⟨w.heap.size + 1, 0, none⟩ (.slice a1 S.pts.length c1)).setCell ⟨w.heap.size + 1, 1, none⟩ (.slice a2 S.hs.length c2)).setCell ⟨w.heap.size + 1, 2, none⟩ (.int .i64 S.steep)).setCell ⟨w.heap.size + 1, 3, none⟩ (.int .i64 S.th.lo)).setCell ⟨w.heap.size + 1, 4, none⟩ (.int .i64 S.th.hi)).setCell ⟨w.heap.size + 1, 5, none⟩ (.slice a3 S.ms.length c3)) (w.heap.size + 1) #[.slice a1 S.pts.length c1, .slice a2 S.hs.length c2, .int .i64 S.steep, .int .i64 S.th.lo, .int .i64 S.th.hi, .slice a3 S.ms.length c3] 30 := ((((((K26.out.set 0 (.slice a1 S.pts.length c1)).set 1 (.slice a2 S.hs.length c2)).set 2 (.int .i64 S.steep)).set 3 (.int .i64 S.th.lo)).set 4 (.int .i64 S.th.hi)).set 5 (.slice a3 S.ms.length c3))
  have ht : Turn (fun k => k = w.heap.size + 1) w6 ((((((w6.setCell ⟨w.heap.size + 1, 0, none⟩ (.slice a1 S.pts.length c1)).setCell ⟨w.heap.size + 1, 1, none⟩ (.slice a2 S.hs.length c2)).setCell ⟨w.heap.size + 1, 2, none⟩ (.int .i64 S.steep)).setCell ⟨w.heap.size + 1, 3, none⟩ (.int .i64 S.th.lo)).setCell ⟨w.heap.size + 1, 4, none⟩ (.int .i64 S.th.hi)).setCell ⟨w.heap.size + 1, 5, none⟩ (.slice a3 S.ms.length c3)) := (((((((Turn.of_below (X := fun k => k = w.heap.size + 1) (Below.refl _ w6)).setCell (B := w.heap.size + 1) rfl 0 (.slice a1 S.pts.length c1)).setCell (B := w.heap.size + 1) rfl 1 (.slice a2 S.hs.length c2)).setCell (B := w.heap.size + 1) rfl 2 (.int .i64 S.steep)).setCell (B := w.heap.size + 1) rfl 3 (.int .i64 S.th.lo)).setCell (B := w.heap.size + 1) rfl 4 (.int .i64 S.th.hi)).setCell (B := w.heap.size + 1) rfl 5 (.slice a3 S.ms.length c3))
  generalize ((((((w6.setCell ⟨w.heap.size + 1, 0, none⟩ (.slice a1 S.pts.length c1)).setCell ⟨w.heap.size + 1, 1, none⟩ (.slice a2 S.hs.length c2)).setCell ⟨w.heap.size + 1, 2, none⟩ (.int .i64 S.steep)).setCell ⟨w.heap.size + 1, 3, none⟩ (.int .i64 S.th.lo)).setCell ⟨w.heap.size + 1, 4, none⟩ (.int .i64 S.th.hi)).setCell ⟨w.heap.size + 1, 5, none⟩ (.slice a3 S.ms.length c3)) = wf at *
  clear s0 s1 s2 s3 s4 s5 l1 l2 z0 z1 z2 z3 z4 z5 r0 r1 r2 r3 r4 r5
  obtain ⟨g0, g1, g2, g3, g4, g5⟩ := (show wf.cell? ⟨w.heap.size + 1, 0, none⟩ = some (.slice a1 S.pts.length c1) ∧ wf.cell? ⟨w.heap.size + 1, 1, none⟩ = some (.slice a2 S.hs.length c2) ∧ wf.cell? ⟨w.heap.size + 1, 2, none⟩ = some (.int .i64 S.steep) ∧ wf.cell? ⟨w.heap.size + 1, 3, none⟩ = some (.int .i64 S.th.lo) ∧ wf.cell? ⟨w.heap.size + 1, 4, none⟩ = some (.int .i64 S.th.hi) ∧ wf.cell? ⟨w.heap.size + 1, 5, none⟩ = some (.slice a3 S.ms.length c3) from ⟨kf.cell 0, kf.cell 1, kf.cell 2, kf.cell 3, kf.cell 4, kf.cell 5⟩)
  have htt : Turn (fun k => k = w.heap.size ∨ k = w.heap.size + 1) w5 wf := (HT6.out.mono (fun _ _ e => .inl e)).trans (ht.mono (fun _ _ e => .inr e))
  have hX : ∀ k, (k = w.heap.size ∨ k = w.heap.size + 1) → k < w4.heap.size := fun k h => by have := HSZ4.out; omega
  refine bodyPost_ret (v := .agg #[.slice a1 S.pts.length c1, .slice a2 S.hs.length c2, .int .i64 S.steep, .int .i64 S.th.lo, .int .i64 S.th.hi, .slice a3 S.ms.length c3]) (by simp [results, Tryd.results61, go_sem, g0, g1, g2, g3, g4, g5]) rfl ⟨⟨a1, a2, a3, c1, c2, c3, w4.heap.size, rfl, HB4.out.size, ?_, ?_, ?_, ?_, ?_, ?_⟩, HB5.out.trans (htt.below HB5.out.size (fun k e => by omega))⟩
  · intro x hx
    rcases hx with hx | hx
    · have := R1.out x hx; omega
    · have := R2.out x hx; omega
  · exact P15.out.turn htt (fun x hx e => by have := R1.out x hx; omega)
  · exact P25.out.turn htt (fun x hx e => by have := R2.out x hx; omega)
  · exact HO.out.turn htt hX
  · intro x hx
    exact ⟨(HOW.out x hx).1, Nat.lt_of_lt_of_le (HOW.out x hx).2 htt.size⟩
  · exact Nat.le_trans HS45.out htt.size
end Go.Proofs.YtoigihmgjacbjaaDoor
