/- overlaps: whether two edges have more than one point in common. -/
import Derived.Test.YtdjeoheoohacnaaF
import Derived.Deep.RegionHeld3
namespace Go.Proofs.Ytdjeoheoohacnaa
open Go.RowKit Go.Shelf

def overB (e o : Edg) : Bool := (e.side o.a == 0 && e.side o.b == 0) && ((decide (0 < e.along o.a) || decide (0 < e.along o.b)) && (decide (e.along o.a < e.along e.b) || decide (e.along o.b < e.along e.b)))

theorem zero_sgn (n : Int) : (sgn n == 0) = (n == 0) := by
  unfold sgn
  rw [Bool.eq_iff_iff]
  simp only [beq_iff_eq]
  (repeat' split) <;> omega

/-- The cells of two edges. -/
abbrev TwoE (W : World) (B : Nat) (e o : Edg) (w : World) : Prop := Below W.heap.size W w ∧
  ((w.cell? ⟨B, 0, none⟩ = some (.int .i64 e.a.x) ∧ w.cell? ⟨B, 1, none⟩ = some (.int .i64 e.a.y) ∧ w.cell? ⟨B, 2, none⟩ = some (.int .i64 e.b.x) ∧ w.cell? ⟨B, 3, none⟩ = some (.int .i64 e.b.y)) ∧
    (w.cell? ⟨B + 1, 0, none⟩ = some (.int .i64 o.a.x) ∧ w.cell? ⟨B + 1, 1, none⟩ = some (.int .i64 o.a.y) ∧ w.cell? ⟨B + 1, 2, none⟩ = some (.int .i64 o.b.x) ∧ w.cell? ⟨B + 1, 3, none⟩ = some (.int .i64 o.b.y)))

theorem TwoE.step {W w w' : World} {B : Nat} {e o : Edg} (h : TwoE W B e o w) (hB : B + 1 < W.heap.size) (hb : Below w.heap.size w w') : TwoE W B e o w' := by
  obtain ⟨h0, ⟨h1, h2, h3, h4⟩, h5, h6, h7, h8⟩ := h
  have hs := h0.size
  have c : ∀ b i, b < w.heap.size → w'.cell? ⟨b, i, none⟩ = w.cell? ⟨b, i, none⟩ := fun b i h => hb.cell (p := ⟨b, i, none⟩) h
  exact ⟨h0.trans (hb.mono hs), ⟨(c _ _ (by omega)).trans h1, (c _ _ (by omega)).trans h2, (c _ _ (by omega)).trans h3, (c _ _ (by omega)).trans h4⟩, (c _ _ (by omega)).trans h5, (c _ _ (by omega)).trans h6, (c _ _ (by omega)).trans h7, (c _ _ (by omega)).trans h8⟩

set_option maxRecDepth 100000 in
set_option maxHeartbeats 400000 in
theorem overlaps_any (e o : Edg) (he : e.ok) (ho : o.ok) (w : World) :
    Calls Try.prog 98 #[.agg #[.int .i64 e.a.x, .int .i64 e.a.y, .int .i64 e.b.x, .int .i64 e.b.y], .agg #[.int .i64 o.a.x, .int .i64 o.a.y, .int .i64 o.b.x, .int .i64 o.b.y]] w fun r w' =>
      r = .returned (.bool (overB e o)) ∧ Below w.heap.size w w' := by
  have bE := (Blk.new w 104 (edgC e)).alloc (.cells (edgC o) 104)
  have bO := Blk.new (w.alloc (.cells (edgC e) 104)) 104 (edgC o)
  have hB : Below w.heap.size w ((w.alloc (.cells (edgC e) 104)).alloc (.cells (edgC o) 104)) := ((Below.refl _ w).alloc (Nat.le_refl _) _).alloc (by simp) _
  have hsz : w.heap.size + 1 < ((w.alloc (.cells (edgC e) 104)).alloc (.cells (edgC o) 104)).heap.size := by simp
  rw [World.size_alloc] at bO
  have hT : TwoE ((w.alloc (.cells (edgC e) 104)).alloc (.cells (edgC o) 104)) w.heap.size e o ((w.alloc (.cells (edgC e) 104)).alloc (.cells (edgC o) 104)) :=
    ⟨Below.refl _ _, ⟨bE.cell 0, bE.cell 1, bE.cell 2, bE.cell 3⟩, bO.cell 0, bO.cell 1, bO.cell 2, bO.cell 3⟩
  clear bE bO
  obtain ⟨W, hW⟩ : ∃ W, ((w.alloc (.cells (edgC e) 104)).alloc (.cells (edgC o) 104)) = W := ⟨_, rfl⟩
  rw [hW] at hT hB hsz
  have HW := Lib.hid hW
  clear hW
  have HT := Lib.hid hT
  clear hT
  go_enter Try.func98, Try.ntmps98
  go_wp2_with fail
  refine (side_any e o.a he ho.1 _).mono ?_
  have hw : ∀ x y, x = W → Below x.heap.size x y → TwoE W w.heap.size e o y := fun x y hx hb => HT.out.step hsz (hx ▸ hb)
  rintro r w1 ⟨rfl, hb1⟩
  have h1 := hw _ _ HW.out hb1
  clear hb1 hw
  have hv1 : (sgn (e.side o.a) == 0) = (e.side o.a == 0) := zero_sgn _
  have hv2 : (sgn (e.side o.b) == 0) = (e.side o.b == 0) := zero_sgn _
  cases hz1 : (e.side o.a == 0) with
  | false =>
    rw [hz1] at hv1
    have hr : overB e o = false := by simp [overB, hz1]
    have HR := Lib.hid hr
    clear hr hv2 hz1
    obtain ⟨hb, ⟨c0, c1, c2, c3⟩, d0, d1, d2, d3⟩ := h1
    go_wp2_with (go_at_call 112; refine (zero_any _ _).mono ?_; rintro r w3 ⟨rfl, rfl⟩)
    go_ret
    exact ⟨by rw [HR.out]; rfl, hB.trans (hb.mono hB.size)⟩
  | true =>
    rw [hz1] at hv1
    have hc := h1
    obtain ⟨hb, ⟨c0, c1, c2, c3⟩, d0, d1, d2, d3⟩ := h1
    have H1 := Lib.hid hc
    have HZ1 := Lib.hid hz1
    have HV2 := Lib.hid hv2
    clear hc hz1 hv2
    go_wp2_with (go_at_call 112; refine (zero_any _ _).mono ?_; rintro r w3 ⟨rfl, rfl⟩)
    refine (side_any e o.b he ho.2 _).mono ?_
    rintro r w2 ⟨rfl, hb2⟩
    have h2 := H1.out.step hsz hb2
    clear hb hb2 c0 c1 c2 c3 d0 d1 d2 d3 H1
    cases hz2 : (e.side o.b == 0) with
    | false =>
      have hv2 := HV2.out
      rw [hz2] at hv2
      have hr : overB e o = false := by simp [overB, HZ1.out, hz2]
      have HR := Lib.hid hr
      clear hr hz2
      have hb := h2.1
      clear h2
      go_wp2_with (go_at_call 112; refine (zero_any _ _).mono ?_; rintro r w3 ⟨rfl, rfl⟩)
      go_ret
      exact ⟨by rw [HR.out]; rfl, hB.trans (hb.mono hB.size)⟩
    | true =>
      have hv2 := HV2.out
      rw [hz2] at hv2
      have hr : overB e o = ((decide (0 < e.along o.a) || decide (0 < e.along o.b)) && (decide (e.along o.a < e.along e.b) || decide (e.along o.b < e.along e.b))) := by simp [overB, HZ1.out, hz2]
      have HR := Lib.hid hr
      clear hr hz2
      have hdr : TwoE W w.heap.size e o w2.drew := ⟨h2.1.drew, by simpa using h2.2⟩
      obtain ⟨hb, ⟨c0, c1, c2, c3⟩, d0, d1, d2, d3⟩ := h2
      go_wp2_with (go_at_call 112; refine (zero_any _ _).mono ?_; rintro r w3 ⟨rfl, rfl⟩)
      clear hv1 hv2
      have ho1 : o.a.ok := ho.1
      have ho2 : o.b.ok := ho.2
      go_region_held3 (fun w' => Below W.heap.size W w' ∧ ((w'.cell? ⟨w.heap.size, 0, none⟩ = some (.int .i64 e.a.x) ∧ w'.cell? ⟨w.heap.size, 1, none⟩ = some (.int .i64 e.a.y) ∧ w'.cell? ⟨w.heap.size, 2, none⟩ = some (.int .i64 e.b.x) ∧ w'.cell? ⟨w.heap.size, 3, none⟩ = some (.int .i64 e.b.y)) ∧
          (w'.cell? ⟨w.heap.size + 1, 0, none⟩ = some (.int .i64 o.a.x) ∧ w'.cell? ⟨w.heap.size + 1, 1, none⟩ = some (.int .i64 o.a.y) ∧ w'.cell? ⟨w.heap.size + 1, 2, none⟩ = some (.int .i64 o.b.x) ∧ w'.cell? ⟨w.heap.size + 1, 3, none⟩ = some (.int .i64 o.b.y))))
        (first | (with_reducible exact hdr) | (with_reducible refine TwoE.step ?_ hsz hb3; with_reducible assumption) | (trace_state; fail))
        (first | (go_at_call 115; (with_reducible refine (along_any e o.a he ho1 _).mono ?_); rintro r w3 ⟨rfl, hb3⟩) | (go_at_call 115; (with_reducible refine (along_any e o.b he ho2 _).mono ?_); rintro r w3 ⟨rfl, hb3⟩))
      all_goals (go_wp2_with fail)
      all_goals go_split_ands
      all_goals first
        | (refine (along_any e e.b he he.2 _).mono ?_
           rintro r w4 ⟨rfl, hb4⟩
           go_wp2
           all_goals go_ret
           refine ⟨?_, hB.trans (((Below.trans (B := W.heap.size) (by with_reducible assumption) (hb4.mono (Below.size (B := W.heap.size) (w := W) (by with_reducible assumption))))).mono hB.size)⟩
           rw [HR.out]
           refine ret_bool ?_
           rw [Bool.eq_iff_iff]
           simp only [Bool.and_eq_true, Bool.or_eq_true, decide_eq_true_eq]
           omega)
        | (go_ret
           refine ⟨?_, hB.trans (Below.mono (B := W.heap.size) (by with_reducible assumption) hB.size)⟩
           rw [HR.out]
           refine ret_bool ?_
           rw [Bool.eq_iff_iff]
           simp only [Bool.and_eq_true, Bool.or_eq_true, decide_eq_true_eq, Bool.false_eq_true]
           exact ⟨fun h => h.elim, fun h => by omega⟩)
end Go.Proofs.Ytdjeoheoohacnaa
