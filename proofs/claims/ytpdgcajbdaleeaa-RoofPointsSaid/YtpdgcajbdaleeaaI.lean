/- edgesOverlap: whether edges of two outlines have more than one point in common, and not the same two ends. -/
import Derived.Test.YtpdgcajbdaleeaaH
namespace Go.Proofs.Ytpdgcajbdaleeaa
open Go.RowKit Go.Shelf
attribute [local go_sem] Oper.semAt_some

def Edg.back (e : Edg) : Edg := ⟨e.b, e.a⟩
def clashB (e o : Edg) : Bool := decide (o ≠ e) && (decide (o ≠ e.back) && overB e o)
def edgesOverL (a b : List Pnt) : Bool := (List.range a.length).any fun k => (List.range b.length).any fun j => clashB (edgN a k) (edgN b j)

theorem range_fin_any {n : Nat} (f : Nat → Bool) : (List.range n).any f = (List.finRange n).any fun k => f k.1 := by
  rw [Bool.eq_iff_iff]
  simp only [List.any_eq_true, List.mem_range]
  exact ⟨fun ⟨k, hk, h⟩ => ⟨⟨k, hk⟩, List.mem_finRange _, h⟩, fun ⟨k, _, h⟩ => ⟨k.1, k.2, h⟩⟩

theorem edg_cells {W : World} {B : Nat} {e : Edg} {t : TypeId} (h : Blk W B (edgC e) t) :
    W.cell? ⟨B, 0, none⟩ = some (.int .i64 e.a.x) ∧ W.cell? ⟨B, 1, none⟩ = some (.int .i64 e.a.y) ∧ W.cell? ⟨B, 2, none⟩ = some (.int .i64 e.b.x) ∧ W.cell? ⟨B, 3, none⟩ = some (.int .i64 e.b.y) :=
  ⟨h.cell 0, h.cell 1, h.cell 2, h.cell 3⟩
theorem edg_later {W w' : World} {B : Nat} {e : Edg} {t : TypeId} (h : Blk W B (edgC e) t) (hb : Below W.drew.heap.size W.drew w') :
    w'.cell? ⟨B, 0, none⟩ = some (.int .i64 e.a.x) ∧ w'.cell? ⟨B, 1, none⟩ = some (.int .i64 e.a.y) ∧ w'.cell? ⟨B, 2, none⟩ = some (.int .i64 e.b.x) ∧ w'.cell? ⟨B, 3, none⟩ = some (.int .i64 e.b.y) :=
  edg_cells ((show Blk W.drew B (edgC e) t from h).belowS hb)

theorem ownFrom_keeps {β : Type} {B : Nat} {S : Nat → Prop} {w₀ : World} (hS : ∀ k, S k → k < B) (hlt : ∀ k, S k → k < w₀.heap.size) : OwnFrom B (fun (_ : β) W => Keeps S w₀ W) :=
  fun _ X Y row hs hg hr => hs.trans ⟨hg.size, fun k hk => hg.block k (Nat.lt_of_lt_of_le (hlt k hk) hs.size) (fun e => by have := (hr k e.symm).1; have := hS k hk; omega)⟩

/-- A round of the inner loop that finds nothing. -/
theorem endN {W W' wx : World} {Bx B : Nat} {E : Edg} {n n' : Nat} {cs : Array Value} {t t' t2 : TypeId} {R : Array Value} {m : List Pnt} {pre' : List (Fin m.length)} {y : Fin m.length} {w : World} {S S' : Nat → Prop}
    (ho : KeepsOthers W' wx) (g1 : Blk W' Bx (edgC E) t) (g2 : Blk W' B cs t') (g3 : Blk W' (B + 1) R t2) (hc : clashB E (edgN m y.1) = false) (g4 : (pre'.any fun j => clashB E (edgN m j.1)) = false)
    (g5 : Below w.heap.size w W') (g6 : KeepsFrom n W W') (g7 : Keeps S W W') (hb : Below W'.heap.size W' wx) (hS' : ∀ k, S' k → k < W'.heap.size) (hS : ∀ k, S k → k < W.heap.size) :
    KeepsFrom n' W' wx ∧ Keeps S' W' wx ∧ Blk wx Bx (edgC E) t ∧ Blk wx B cs t' ∧ Blk wx (B + 1) R t2 ∧ ((pre' ++ [y]).any fun j => clashB E (edgN m j.1)) = false ∧ Below w.heap.size w wx ∧ KeepsFrom n W wx ∧ Keeps S W wx :=
  ⟨ho.from _, Keeps.of_below hb hS', g1.belowS hb, g2.belowS hb, g3.belowS hb, by rw [List.any_append, g4]; simp [hc], g5.trans (hb.mono g5.size), g6.trans (ho.from _), g7.trans (Keeps.of_below hb (g7.lt hS))⟩

/-- A round of the inner loop that finds something: the result is stored, and the function is left. -/
theorem endR {W W' wx : World} {E : Edg} {n n' : Nat} {t2 : TypeId} {m : List Pnt} {pre' : List (Fin m.length)} {y : Fin m.length} {w : World}
    (g3 : Blk W' (w.heap.size + 1) #[.bool false] t2) (hc : clashB E (edgN m y.1) = true) (g5 : Below w.heap.size w W') (g6 : KeepsFrom n W W') (hb : Below W'.heap.size W' wx) :
    KeepsFrom n' W' (wx.setCell ⟨w.heap.size + 1, 0, none⟩ (.bool true)) ∧ Code.ret = .ret ∧ Blk (wx.setCell ⟨w.heap.size + 1, 0, none⟩ (.bool true)) (w.heap.size + 1) #[.bool true] t2 ∧ ((pre' ++ [y]).any fun j => clashB E (edgN m j.1)) = true ∧
      Below w.heap.size w (wx.setCell ⟨w.heap.size + 1, 0, none⟩ (.bool true)) ∧ KeepsFrom n W (wx.setCell ⟨w.heap.size + 1, 0, none⟩ (.bool true)) :=
  ⟨((others_of hb).trans (KeepsOthers.setCell _ _ _)).from _, rfl, (g3.belowS hb).set 0 _, by rw [List.any_append]; simp [hc], (g5.trans (hb.mono g5.size)).setCell (by simp) _, g6.trans (((others_of hb).trans (KeepsOthers.setCell _ _ _)).from _)⟩

set_option maxRecDepth 100000 in
set_option maxHeartbeats 4000000 in
theorem edgesOverlap_any (sa sb : Option Addr) (la ca lb cb : Nat) (l m : List Pnt) (w : World) (hs : IsPts w (.slice sa la ca) l) (ht : IsPts w (.slice sb lb cb) m) (hl : l.length ≤ 1000) (hm : m.length ≤ 1000) (hok : okPts l) (hok' : okPts m) :
    Calls Try.prog 88 #[.slice sa la ca, .slice sb lb cb] w fun e w' => e = .returned (.bool (edgesOverL l m)) ∧ Below w.heap.size w w' := by
  refine (callsIn_wide (n := 9)).1 ?_
  refine callsIn_of_wp_marks Try.func88 rfl trivial ?_ rfl
  simp only [Try.ntmps88, List.size_toArray, List.length_cons, List.length_nil, Nat.reduceAdd, Nat.reduceSub, Array.replicate_succ, Array.replicate_zero, List.push_toArray, List.append_toArray, List.nil_append, List.cons_append]
  gi_wp2_with (refine ⟨trivial, ?_⟩; gi_at_call 67; refine (callsIn_wide.2 (walk_any _ _ _ _)).mono ?_; rintro e w' ⟨rfl, rfl⟩)
  have cC := Blk.new w 70 #[.slice sb lb cb]
  have cR := Blk.new (w.alloc (.cells #[.slice sb lb cb] 70)) 4 #[.bool false]
  have cS := Blk.new ((w.alloc (.cells #[.slice sb lb cb] 70)).alloc (.cells #[.bool false] 4)) 70 #[.slice sa la ca]
  have bC := (cC.alloc (.cells #[.bool false] 4)).alloc (.cells #[.slice sa la ca] 70)
  have bR := cR.alloc (.cells #[.slice sa la ca] 70)
  have hB : Below w.heap.size w (((w.alloc (.cells #[.slice sb lb cb] 70)).alloc (.cells #[.bool false] 4)).alloc (.cells #[.slice sa la ca] 70)) := (((Below.refl _ w).alloc (Nat.le_refl _) _).alloc (by simp) _).alloc (by simp; omega) _
  have hsz : (((w.alloc (.cells #[.slice sb lb cb] 70)).alloc (.cells #[.bool false] 4)).alloc (.cells #[.slice sa la ca] 70)).heap.size = w.heap.size + 3 := by simp
  simp only [World.size_alloc] at bR cS
  have Hsz := Lib.hid hsz
  obtain ⟨W0, hW0⟩ : ∃ W0, (((w.alloc (.cells #[.slice sb lb cb] 70)).alloc (.cells #[.bool false] 4)).alloc (.cells #[.slice sa la ca] 70)) = W0 := ⟨_, rfl⟩
  rw [hW0] at bC bR cS hB Hsz ⊢
  clear hsz hW0 cC cR
  refine walk_law2 (n := 9) (by omega) (Bs := w.heap.size + 1 + 1) rfl (fun k => k < w.heap.size ∨ k = w.heap.size + 1 + 1) l hl (.inr rfl) (fun k hk => by have := Hsz.out; omega)
    (cS.cell 0) ?_ rfl
    (fun pre W => Blk W w.heap.size #[.slice sb lb cb] 70 ∧ Blk W (w.heap.size + 1) #[.bool false] 4 ∧ (pre.any fun k => (List.range m.length).any fun j => clashB (edgN l k.1) (edgN m j)) = false ∧ Below w.heap.size w W)
    (fun c pre W => c = .ret ∧ Blk W (w.heap.size + 1) #[.bool true] 4 ∧ (pre.any fun k => (List.range m.length).any fun j => clashB (edgN l k.1) (edgN m j)) = true ∧ Below w.heap.size w W)
    ((own_blk _ _ _ _).and ((own_blk _ _ _ _).and ((ownFrom_pure _ _).and (ownFrom_below (Nat.le_refl _) (by have := Hsz.out; omega)))))
    (fun c => (ownFrom_pure _ (fun _ => c = .ret)).and ((own_blk _ _ _ _).and ((ownFrom_pure _ _).and (ownFrom_below (Nat.le_refl _) (by have := Hsz.out; omega)))))
    ⟨bC, bR, rfl, hB⟩
    (fun x Bx => { tmps := #[.slice sa la ca, .slice sb lb cb, undef, .pointer (some ⟨w.heap.size, 0, none⟩), .pointer (some ⟨w.heap.size + 1, 0, none⟩), undef, .pointer (some ⟨Bx, 0, none⟩), undef, undef, .slice sa la ca,
        .func (.func 102) #[] #[.pointer (some ⟨w.heap.size + 1 + 1, 0, none⟩)], .int .i64 (x.1 : Int), .agg (edgC (edgN l x.1)), undef, undef, undef, undef, undef, undef, undef, undef, undef, undef, undef, undef, undef, undef, undef, undef, undef, undef], defers := [] }) ?assign ?body ?done ?stop
  · rcases hs with ⟨h1, h2⟩ | ⟨b, off, c, h1, h2, h3, h4, h5⟩
    · exact .inl ⟨h1, h2⟩
    · exact .inr ⟨b, off, c, h1, .inl h2, h5.below hB h2⟩
  case assign =>
    intro L x W K hK
    unfold edgC encE at *
    gi_wp2
    exact hK
  case body =>
    rintro L pre x Bx W hL hr hBx hWs hE ⟨h1, h2, h4, h5⟩ hlt
    have he := edgN_ok hok x.1
    simp only [edgC]
    generalize hEq : edgN l x.1 = E at *
    have HE := Lib.hid hEq
    clear hEq
    have c0 := h1.cell 0
    simp only [List.getElem?_toArray, List.getElem?_cons_zero] at c0
    gi_wp2_with (refine ⟨trivial, ?_⟩; gi_at_call 67; refine (CallsIn.inRound L (callsIn_wide.2 (walk_any _ _ _ _))).mono ?_; rintro e w' ⟨rfl, rfl⟩)
    obtain ⟨r, hr⟩ := hr
    have hWw : w.heap.size ≤ W.heap.size := h5.size
    have hSW : ∀ k, (k < w.heap.size ∨ k = w.heap.size + 1 + 1) → k < W.heap.size := fun k hk => by have := Hsz.out; omega
    have bS := Blk.new W 70 #[.slice sb lb cb]
    have bE := hE.alloc (.cells #[.slice sb lb cb] 70)
    have b1 := h1.alloc (.cells #[.slice sb lb cb] 70)
    have b2 := h2.alloc (.cells #[.slice sb lb cb] 70)
    have hB1 : Below w.heap.size w (W.alloc (.cells #[.slice sb lb cb] 70)) := h5.alloc hWw _
    have hr1 : (W.alloc (.cells #[.slice sb lb cb] 70)).heap[L]? = some (.loop r) := (Below.heap_alloc W _ L (Array.getElem?_eq_some_iff.1 hr).1).trans hr
    have k1 : KeepsFrom W0.heap.size W (W.alloc (.cells #[.slice sb lb cb] 70)) := (KeepsOthers.alloc _ _).from _
    have k2 : Keeps (fun k => k < w.heap.size ∨ k = w.heap.size + 1 + 1) W (W.alloc (.cells #[.slice sb lb cb] 70)) := Keeps.of_below ((Below.refl _ W).alloc (Nat.le_refl _) _) hSW
    have hz1 : (W.alloc (.cells #[.slice sb lb cb] 70)).heap.size = W.heap.size + 1 := by simp
    have Hz1 := Lib.hid hz1
    clear hz1
    obtain ⟨W1, hW1⟩ : ∃ W1, (W.alloc (.cells #[.slice sb lb cb] 70)) = W1 := ⟨_, rfl⟩
    rw [hW1] at bS bE b1 b2 hB1 hr1 k1 k2 Hz1 ⊢
    clear hW1
    refine walk_lawN (n := 9 - 1 - 1) (by omega) (Bs := W.heap.size) hr1 rfl (fun k => k < w.heap.size ∨ k = W.heap.size) m hm (.inr rfl) (fun k hk => by have := Hz1.out; omega)
      (bS.cell 0) ?_ rfl
      (fun pre' W' => Blk W' Bx (edgC E) 122 ∧ Blk W' w.heap.size #[.slice sb lb cb] 70 ∧ Blk W' (w.heap.size + 1) #[.bool false] 4 ∧ (pre'.any fun j => clashB E (edgN m j.1)) = false ∧ Below w.heap.size w W' ∧ KeepsFrom W0.heap.size W W' ∧ Keeps (fun k => k < w.heap.size ∨ k = w.heap.size + 1 + 1) W W')
      (fun c pre' W' => c = .ret ∧ Blk W' (w.heap.size + 1) #[.bool true] 4 ∧ (pre'.any fun j => clashB E (edgN m j.1)) = true ∧ Below w.heap.size w W' ∧ KeepsFrom W0.heap.size W W')
      ((own_blk _ _ _ _).and ((own_blk _ _ _ _).and ((own_blk _ _ _ _).and ((ownFrom_pure _ _).and ((ownFrom_below (Nat.le_refl _) (by have := Hz1.out; omega)).and ((ownFrom_keepsFrom (by have := Hz1.out; omega)).and (ownFrom_keeps (fun k hk => by have := hSW k hk; have := Hz1.out; omega) hSW)))))))
      (fun c => (ownFrom_pure _ (fun _ => c = .ret)).and ((own_blk _ _ _ _).and ((ownFrom_pure _ _).and ((ownFrom_below (Nat.le_refl _) (by have := Hz1.out; omega)).and (ownFrom_keepsFrom (by have := Hz1.out; omega))))))
      ⟨bE, b1, b2, rfl, hB1, k1, k2⟩
      (fun y By => { tmps := #[.slice sa la ca, .slice sb lb cb, undef, .pointer (some ⟨w.heap.size, 0, none⟩), .pointer (some ⟨w.heap.size + 1, 0, none⟩), undef, .pointer (some ⟨Bx, 0, none⟩), undef, .pointer (some ⟨By, 0, none⟩), .slice sa la ca,
        .func (.func 102) #[] #[.pointer (some ⟨w.heap.size + 1 + 1, 0, none⟩)], .int .i64 (x.1 : Int), .agg (edgC E), .slice sb lb cb, .func (.func 102) #[] #[.pointer (some ⟨W.heap.size, 0, none⟩)],
        .int .i64 (y.1 : Int), .agg (edgC (edgN m y.1)), undef, undef, undef, undef, undef, undef, undef, undef, undef, undef, undef, undef, undef, undef], defers := [] }) ?assign2 ?body2 ?done2 ?stop2
    · rcases ht with ⟨hx1, hx2⟩ | ⟨b, off, c, hx1, hx2, hx3, hx4, hx5⟩
      · exact .inl ⟨hx1, hx2⟩
      · exact .inr ⟨b, off, c, hx1, .inl hx2, hx5.below hB1 hx2⟩
    case assign2 =>
      intro L' y W' K hK
      unfold edgC encE at *
      gi_wp2
      exact hK
    case body2 =>
      rintro L' pre' y By W' hBy hWs' hF ⟨g1, g2, g3, g4, g5, g6, g7⟩ hlt'
      have ho := edgN_ok hok' y.1
      generalize hEq : edgN m y.1 = O at *
      have HO := Lib.hid hEq
      clear hEq
      have e0 := g1.cell 0
      have e1 := g1.cell 1
      have e2 := g1.cell 2
      have e3 := g1.cell 3
      have f0 := hF.cell 0
      have f1 := hF.cell 1
      have f2 := hF.cell 2
      have f3 := hF.cell 3
      have r0 := g3.cell 0
      have r1 := g3.frozen 0
      simp only [edgC, List.getElem?_toArray, List.getElem?_cons_zero, List.getElem?_cons_succ] at e0 e1 e2 e3 f0 f1 f2 f3 r0
      simp only [edgC]
      have lt1 := hF.lt
      have lt2 := g1.lt
      have lt3 := g3.lt
      by_cases ho1 : O = E
      · subst ho1
        have hn : ∀ w, (Op.equalIn 10000 122 (.agg #[.int .i64 O.a.x, .int .i64 O.a.y, .int .i64 O.b.x, .int .i64 O.b.y]) (.agg #[.int .i64 O.a.x, .int .i64 O.a.y, .int .i64 O.b.x, .int .i64 O.b.y])).run Try.prog w = .ok true w := fun w => (run_equalIn_edge 9997 O O w).trans (by simp)
        have hmx : Try.prog.follows .mixedOrders = true := by kernel_rfl
        have hfw : ∀ f, Fence.wide.fn f := fun _ => trivial
        have hbw : Below W'.heap.size W' W'.drew := (Below.refl _ _).drew
        have hcl : clashB O O = false := by simp [clashB]
        have HCL := Lib.hid hcl
        clear hcl
        gi_wp2_with fail
        gi_region_with_o (gi_at_call 76; refine (CallsIn.inRound L' (callsIn_wide.2 (back_any _ _ _ _ _))).mono ?_; rintro e w' ⟨rfl, hb'⟩)
        all_goals gi_wp2
        all_goals exact endN (others_of hbw) g1 g2 g3 (by rw [HO.out]; exact HCL.out) g4 g5 g6 g7 hbw (fun k hk => by have := Hz1.out; omega) hSW
      · have hn1 : ∀ w, (Op.equalIn 10000 122 (.agg #[.int .i64 O.a.x, .int .i64 O.a.y, .int .i64 O.b.x, .int .i64 O.b.y]) (.agg #[.int .i64 E.a.x, .int .i64 E.a.y, .int .i64 E.b.x, .int .i64 E.b.y])).run Try.prog w = .ok false w := fun w => (run_equalIn_edge 9997 O E w).trans (by simp [ho1])
        by_cases ho2 : O = E.back
        · have hn2 : ∀ w, (Op.equalIn 10000 122 (.agg #[.int .i64 O.a.x, .int .i64 O.a.y, .int .i64 O.b.x, .int .i64 O.b.y]) (.agg #[.int .i64 E.b.x, .int .i64 E.b.y, .int .i64 E.a.x, .int .i64 E.a.y])).run Try.prog w = .ok true w := fun w => (run_equalIn_edge 9997 O E.back w).trans (by simp [ho2])
          have hfw : ∀ f, Fence.wide.fn f := fun _ => trivial
          have hmx : Try.prog.follows .mixedOrders = true := by kernel_rfl
          have HO2 := Lib.hid ho2
          clear ho2
          have hcl : clashB E O = false := by simp [clashB, HO2.out]
          have HCL := Lib.hid hcl
          clear hcl
          gi_wp2_with fail
          gi_region_with_o (gi_at_call 76; refine (CallsIn.inRound L' (callsIn_wide.2 (back_any _ _ _ _ _))).mono ?_; rintro e w' ⟨rfl, hb'⟩; obtain ⟨q0, q1, q2, q3⟩ := edg_later g1 hb'; obtain ⟨q4, q5, q6, q7⟩ := edg_later hF hb')
          all_goals gi_wp2
          all_goals exact endN (others_of ((Below.refl _ W').drew.trans hb')) g1 g2 g3 (by rw [HO.out]; exact HCL.out) g4 g5 g6 g7 ((Below.refl _ W').drew.trans hb') (fun k hk => by have := Hz1.out; omega) hSW
        · have hn2 : ∀ w, (Op.equalIn 10000 122 (.agg #[.int .i64 O.a.x, .int .i64 O.a.y, .int .i64 O.b.x, .int .i64 O.b.y]) (.agg #[.int .i64 E.b.x, .int .i64 E.b.y, .int .i64 E.a.x, .int .i64 E.a.y])).run Try.prog w = .ok false w := fun w => (run_equalIn_edge 9997 O E.back w).trans (by simp [ho2])
          have HO2 := Lib.hid ho2
          clear ho2
          have hfw : ∀ f, Fence.wide.fn f := fun _ => trivial
          have hmx : Try.prog.follows .mixedOrders = true := by kernel_rfl
          have hcl : clashB E O = overB E O := by simp [clashB, ho1, HO2.out]
          have HCL := Lib.hid hcl
          clear hcl
          gi_wp2_with fail
          gi_region_with_o (first | (gi_at_call 76; refine (CallsIn.inRound L' (callsIn_wide.2 (back_any _ _ _ _ _))).mono ?_; rintro e w' ⟨rfl, hb'⟩; obtain ⟨q0, q1, q2, q3⟩ := edg_later g1 hb'; obtain ⟨q4, q5, q6, q7⟩ := edg_later hF hb') | (gi_at_call 118; refine (CallsIn.inRound L' (callsIn_wide.2 (overlaps_any E O he ho _))).mono ?_; rintro e w2 ⟨rfl, hb2⟩))
          all_goals have hbw := ((Below.refl _ W').drew.trans hb').trans (hb2.mono (Nat.le_trans (Nat.le_refl _) hb'.size))
          all_goals have r5 := (g3.belowS hbw).cell 0
          all_goals have r6 := (g3.belowS hbw).frozen 0
          all_goals simp only [List.getElem?_toArray, List.getElem?_cons_zero] at r5
          all_goals cases hov : overB E O
          all_goals gi_wp2
          all_goals first
            | (exact endN (others_of hbw) g1 g2 g3 (by rw [HO.out]; exact HCL.out.trans hov) g4 g5 g6 g7 hbw (fun k hk => by have := Hz1.out; omega) hSW)
            | (exact endR g3 (by rw [HO.out]; exact HCL.out.trans hov) g5 g6 hbw)
    case done2 =>
      rintro W' ⟨g1, g2, g3, g4, g5, g6, g7⟩
      gi_wp2
      refine ⟨g6, g7, g2, g3, ?_, g5⟩
      rw [List.any_append, h4, List.any_cons, HE.out, range_fin_any, g4]
      rfl
    case stop2 =>
      rintro c k W' hk ⟨rfl, g3, g4, g5, g6⟩
      have hy : ((List.range m.length).any fun j => clashB E (edgN m j)) = true := by
        rw [range_fin_any]
        obtain ⟨y, hy, hc⟩ := List.any_eq_true.1 g4
        exact List.any_eq_true.2 ⟨y, List.mem_of_mem_take hy, hc⟩
      have HY := Lib.hid hy
      clear hy g4
      gi_wp2
      refine ⟨g6, rfl, g3, ?_, g5⟩
      rw [List.any_append, List.any_cons, HE.out, HY.out]
      simp
  case done =>
    rintro D W hD ⟨h1, h2, h4, h5⟩ hK
    have r2 := h2.cell 0
    have f2 := h2.frozen 0
    have hv : edgesOverL l m = false := by
      unfold edgesOverL
      rw [range_fin_any, h4]
    simp only [List.getElem?_toArray, List.getElem?_cons_zero] at r2
    have HV := Lib.hid hv
    clear hv
    gi_wp2
    have hK' := (KeepsOthers.setCell W ⟨w.heap.size + 1, 0, none⟩ (.bool false)).same D _ hK rfl
    refine ⟨by simp, .inl ⟨_, _, rfl, run_takeDeferred hK', ?_⟩⟩
    have r4 := ((h2.set 0 (.bool false)).putObj (.deferred none) hK' rfl).cell 0
    simp only [List.setIfInBounds_toArray, List.set_cons_zero, List.getElem?_toArray, List.getElem?_cons_zero] at r4
    exact ⟨.bool false, by simp [results, Try.results88, go_sem, r4], by rw [HV.out], below_putObj (h5.setCell (p := ⟨w.heap.size + 1, 0, none⟩) (by simp) _) _ (by have := Hsz.out; omega) (Nat.le_trans h5.size (by simp))⟩
  case stop =>
    rintro D c k W hD hk ⟨rfl, h2, h3, h4⟩ hK
    have r2 := h2.cell 0
    have f2 := h2.frozen 0
    simp only [List.getElem?_toArray, List.getElem?_cons_zero] at r2
    have h3' : edgesOverL l m = true := by
      unfold edgesOverL
      rw [range_fin_any]
      obtain ⟨y, hy, hc⟩ := List.any_eq_true.1 h3
      exact List.any_eq_true.2 ⟨y, List.mem_of_mem_take hy, hc⟩
    have H3 := Lib.hid h3'
    clear h3 h3'
    gi_wp2
    refine ⟨by simp, .inl ⟨_, _, rfl, run_takeDeferred hK, ?_⟩⟩
    have r3 := (h2.putObj (.deferred none) hK rfl).cell 0
    simp only [List.getElem?_toArray, List.getElem?_cons_zero] at r3
    exact ⟨.bool true, by simp [results, Try.results88, go_sem, r3], by rw [H3.out], below_putObj h4 _ (by have := Hsz.out; omega) h4.size⟩
end Go.Proofs.Ytpdgcajbdaleeaa
