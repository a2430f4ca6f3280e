/- isStep and kindBetween: the kind of an edge that has a face beside it. -/
import Derived.Test.YtpdgcajbdaleeaaX6
import Derived.Deep.QuietTactic
namespace Go.Proofs.Ytpdgcajbdaleeaa
open Go.RowKit

section
variable {P : Program} {ops : Array Oper} {C : World → Prop} {Q : Act → Prop} {a : Act} {o : Oper} {rest : List Oper}
/-- 'wpQuiet', shut. -/
structure QW (P : Program) (ops : Array Oper) (C : World → Prop) (Q : Act → Prop) (l : List Oper) (a : Act) : Prop where
  out : wpQuiet P ops C Q l a
theorem quiet_pos (hw : Region.wanted o (yielded ops a.tmps) = true) (v : Value) (h : ∀ w, C w → o.quietAt P a C w v) (k : QW P ops C Q rest (a.put o.dst v)) : QW P ops C Q (o :: rest) a := by
  refine ⟨wpQuiet_step (fun K hK => ?_)⟩
  rw [if_pos hw]
  exact ⟨v, h, hK _ k.out⟩
theorem quiet_neg (hw : Region.wanted o (yielded ops a.tmps) = false) (k : QW P ops C Q rest (a.put o.dst undef)) : QW P ops C Q (o :: rest) a := by
  refine ⟨wpQuiet_step (fun K hK => ?_)⟩
  rw [hw]
  exact hK _ k.out
theorem quiet_nil (h : Q a) : QW P ops C Q [] a := ⟨wpQuiet_nil h⟩
end

theorem run_equalIn_ratio (d : Nat) (n m n' m' : Int) (w : World) : (Op.equalIn (d + 2) 31 (.agg #[.int .i64 n, .int .i64 m]) (.agg #[.int .i64 n', .int .i64 m'])).run Try.prog w = .ok (decide (n = n' ∧ m = m')) w := by
  rw [run_equalIn_struct w (d + 1) 31 _ _ (by kernel_rfl) (by kernel_rfl)]
  by_cases h1 : n = n' <;> by_cases h2 : m = m'
  all_goals simp [Program.fieldsOf, Try.underlying31, Op.eqFields, go_sem, h1, h2]

/-- The heights of two faces above a point are equal. -/
def levelB (f g : Fac) (p : Pnt) : Bool := decide (hgtN f p = hgtN g p ∧ hgtD f p = hgtD g p)
/-- Two faces are at a step. -/
def stepB (f g : Fac) (e : Edg) : Bool := !levelB f g e.a || !levelB f g e.b

/-- The cells of two faces' boxes and of an edge's. -/
abbrev HeldK (W : World) (B : Nat) (f g : Fac) (e : Edg) (w : World) : Prop := Below W.heap.size W w ∧
  ((w.cell? ⟨B, 0, none⟩ = some (.string f.name) ∧ w.cell? ⟨B, 1, none⟩ = some (.int .i64 f.side) ∧ w.cell? ⟨B, 2, none⟩ = some (.int .i64 f.foot) ∧ w.cell? ⟨B, 3, none⟩ = some (.int .i64 f.base) ∧
    w.cell? ⟨B, 4, none⟩ = some (.int .i64 f.rise) ∧ w.cell? ⟨B, 5, none⟩ = some (.int .i64 f.run) ∧ w.cell? ⟨B, 6, none⟩ = some (.slice f.ca f.cs.length f.cc)) ∧
  (w.cell? ⟨B + 1, 0, none⟩ = some (.string g.name) ∧ w.cell? ⟨B + 1, 1, none⟩ = some (.int .i64 g.side) ∧ w.cell? ⟨B + 1, 2, none⟩ = some (.int .i64 g.foot) ∧ w.cell? ⟨B + 1, 3, none⟩ = some (.int .i64 g.base) ∧
    w.cell? ⟨B + 1, 4, none⟩ = some (.int .i64 g.rise) ∧ w.cell? ⟨B + 1, 5, none⟩ = some (.int .i64 g.run) ∧ w.cell? ⟨B + 1, 6, none⟩ = some (.slice g.ca g.cs.length g.cc)) ∧
  (w.cell? ⟨B + 1 + 1, 0, none⟩ = some (.int .i64 e.a.x) ∧ w.cell? ⟨B + 1 + 1, 1, none⟩ = some (.int .i64 e.a.y) ∧ w.cell? ⟨B + 1 + 1, 2, none⟩ = some (.int .i64 e.b.x) ∧ w.cell? ⟨B + 1 + 1, 3, none⟩ = some (.int .i64 e.b.y)))
theorem HeldK.step {W w w' : World} {B : Nat} {f g : Fac} {e : Edg} (h : HeldK W B f g e w) (hB : B + 2 < W.heap.size) (hb : Below w.heap.size w w') : HeldK W B f g e w' := by
  have hs := h.1.size
  have c : ∀ b i, b ≤ B + 2 → w'.cell? ⟨b, i, none⟩ = w.cell? ⟨b, i, none⟩ := fun b i hb' => hb.cell (p := ⟨b, i, none⟩) (by show b < _; omega)
  obtain ⟨h0, ⟨a0, a1, a2, a3, a4, a5, a6⟩, ⟨b0, b1, b2, b3, b4, b5, b6⟩, d0, d1, d2, d3⟩ := h
  have l0 : B ≤ B + 2 := by omega
  have l1 : B + 1 ≤ B + 2 := by omega
  have l2 : B + 1 + 1 ≤ B + 2 := by omega
  exact ⟨h0.trans (hb.mono hs), ⟨(c _ _ l0).trans a0, (c _ _ l0).trans a1, (c _ _ l0).trans a2, (c _ _ l0).trans a3, (c _ _ l0).trans a4, (c _ _ l0).trans a5, (c _ _ l0).trans a6⟩,
    ⟨(c _ _ l1).trans b0, (c _ _ l1).trans b1, (c _ _ l1).trans b2, (c _ _ l1).trans b3, (c _ _ l1).trans b4, (c _ _ l1).trans b5, (c _ _ l1).trans b6⟩,
    (c _ _ l2).trans d0, (c _ _ l2).trans d1, (c _ _ l2).trans d2, (c _ _ l2).trans d3⟩

/-- The world behind the three boxes. -/
def boxes (w : World) (f g : Fac) (e : Edg) : World := ((w.alloc (.cells #[.string f.name, .int .i64 f.side, .int .i64 f.foot, .int .i64 f.base, .int .i64 f.rise, .int .i64 f.run, .slice f.ca f.cs.length f.cc] 72)).alloc
  (.cells #[.string g.name, .int .i64 g.side, .int .i64 g.foot, .int .i64 g.base, .int .i64 g.rise, .int .i64 g.run, .slice g.ca g.cs.length g.cc] 72)).alloc (.cells #[.int .i64 e.a.x, .int .i64 e.a.y, .int .i64 e.b.x, .int .i64 e.b.y] 122)
theorem boxes_held (w : World) (f g : Fac) (e : Edg) : HeldK (boxes w f g e) w.heap.size f g e (boxes w f g e) ∧ Below w.heap.size w (boxes w f g e) ∧ (boxes w f g e).heap.size = w.heap.size + 3 := by
  have kF := ((Blk.new w 72 #[.string f.name, .int .i64 f.side, .int .i64 f.foot, .int .i64 f.base, .int .i64 f.rise, .int .i64 f.run, .slice f.ca f.cs.length f.cc]).alloc
    (.cells #[.string g.name, .int .i64 g.side, .int .i64 g.foot, .int .i64 g.base, .int .i64 g.rise, .int .i64 g.run, .slice g.ca g.cs.length g.cc] 72)).alloc (.cells #[.int .i64 e.a.x, .int .i64 e.a.y, .int .i64 e.b.x, .int .i64 e.b.y] 122)
  have kG := (Blk.new (w.alloc (.cells #[.string f.name, .int .i64 f.side, .int .i64 f.foot, .int .i64 f.base, .int .i64 f.rise, .int .i64 f.run, .slice f.ca f.cs.length f.cc] 72)) 72 #[.string g.name, .int .i64 g.side, .int .i64 g.foot, .int .i64 g.base, .int .i64 g.rise, .int .i64 g.run, .slice g.ca g.cs.length g.cc]).alloc (.cells #[.int .i64 e.a.x, .int .i64 e.a.y, .int .i64 e.b.x, .int .i64 e.b.y] 122)
  have kE := Blk.new ((w.alloc (.cells #[.string f.name, .int .i64 f.side, .int .i64 f.foot, .int .i64 f.base, .int .i64 f.rise, .int .i64 f.run, .slice f.ca f.cs.length f.cc] 72)).alloc (.cells #[.string g.name, .int .i64 g.side, .int .i64 g.foot, .int .i64 g.base, .int .i64 g.rise, .int .i64 g.run, .slice g.ca g.cs.length g.cc] 72)) 122 #[.int .i64 e.a.x, .int .i64 e.a.y, .int .i64 e.b.x, .int .i64 e.b.y]
  simp only [World.size_alloc] at kG kE
  refine ⟨⟨Below.refl _ _, ⟨kF.cell 0, kF.cell 1, kF.cell 2, kF.cell 3, kF.cell 4, kF.cell 5, kF.cell 6⟩, ⟨kG.cell 0, kG.cell 1, kG.cell 2, kG.cell 3, kG.cell 4, kG.cell 5, kG.cell 6⟩, kE.cell 0, kE.cell 1, kE.cell 2, kE.cell 3⟩, (((Below.refl _ _).alloc (Nat.le_refl _) _).alloc (by simp) _).alloc (by simp; omega) _, by simp [boxes]⟩

def stepA (x0 x1 x2 x3 x4 x5 x6 x7 x8 x9 x10 x11 x12 x13 x14 x15 x16 x17 x18 x19 x20 x21 x22 x23 x24 x25 x26 : Value) : Act := { tmps := #[x0, x1, x2, x3, x4, x5, x6, x7, x8, x9, x10, x11, x12, x13, x14, x15, x16, x17, x18, x19, x20, x21, x22, x23, x24, x25, x26], defers := [] }

set_option maxRecDepth 100000 in
set_option maxHeartbeats 4000000 in
theorem isStep_any (f g : Fac) (e : Edg) (hf : f.ok) (hg : g.ok) (he : e.ok) (w : World) :
    Calls Try.prog 119 #[.agg #[.string f.name, .int .i64 f.side, .int .i64 f.foot, .int .i64 f.base, .int .i64 f.rise, .int .i64 f.run, .slice f.ca f.cs.length f.cc], .agg #[.string g.name, .int .i64 g.side, .int .i64 g.foot, .int .i64 g.base, .int .i64 g.rise, .int .i64 g.run, .slice g.ca g.cs.length g.cc], .agg #[.int .i64 e.a.x, .int .i64 e.a.y, .int .i64 e.b.x, .int .i64 e.b.y]] w fun r w' => r = .returned (.bool (stepB f g e)) ∧ Below w.heap.size w w' := by
  obtain ⟨ha, hb⟩ := he
  obtain ⟨hx0, hB, hsz⟩ := boxes_held w f g e
  generalize hW : boxes w f g e = W at hx0 hB hsz
  have HSZ := Lib.hid hsz
  have hx : HeldK W w.heap.size f g e W.drew := hx0.step (by omega) (Below.refl _ _).drew
  have h3 : w.heap.size + 2 < W.heap.size := by omega
  clear hx0 hsz
  have hn1 : ∀ wx, (Op.equalIn 10000 31 (.agg #[.int .i64 (hgtN f e.a), .int .i64 (hgtD f e.a)]) (.agg #[.int .i64 (hgtN g e.a), .int .i64 (hgtD g e.a)])).run Try.prog wx = .ok (levelB f g e.a) wx := run_equalIn_ratio 9998 _ _ _ _
  have hn2 : ∀ wx, (Op.equalIn 10000 31 (.agg #[.int .i64 (hgtN f e.b), .int .i64 (hgtD f e.b)]) (.agg #[.int .i64 (hgtN g e.b), .int .i64 (hgtD g e.b)])).run Try.prog wx = .ok (levelB f g e.b) wx := run_equalIn_ratio 9998 _ _ _ _
  cases h1 : levelB f g e.a with
  | false =>
    have hv : stepB f g e = true := by simp [stepB, h1]
    have HV := Lib.hid hv
    rw [h1] at hn1
    clear hn2 hv h1
    unfold boxes at hW
    go_enter Try.func119, Try.ntmps119
    go_wp2_with fail
    clear hW
    refine wp_region_quiet (C := fun w' => HeldK W w.heap.size f g e w') (by kernel_rfl) (by kernel_rfl) hx ?_
    refine QW.out ?_
    change QW _ _ _ _ _ (stepA _ _ _ _ _ _ _ undef undef undef undef undef undef undef undef undef undef undef undef undef undef undef undef undef undef undef undef)
    refine quiet_pos (by kernel_rfl) (.agg #[.string f.name, .int .i64 f.side, .int .i64 f.foot, .int .i64 f.base, .int .i64 f.rise, .int .i64 f.run, .slice f.ca f.cs.length f.cc]) (fun w' hc => ?_) ?_
    · obtain ⟨hb0, ⟨q0, q1, q2, q3, q4, q5, q6⟩, ⟨q7, q8, q9, q10, q11, q12, q13⟩, q14, q15, q16, q17⟩ := hc
      unfold stepA
      go_simp <;> exact ⟨rfl, rfl⟩
    change QW _ _ _ _ _ (stepA _ _ _ _ _ _ _ _ undef undef undef undef undef undef undef undef undef undef undef undef undef undef undef undef undef undef undef)
    refine quiet_pos (by kernel_rfl) (.pointer (some ⟨w.heap.size + 1 + 1, 0, none⟩)) (fun w' hc => ?_) ?_
    · exact ⟨rfl, rfl⟩
    change QW _ _ _ _ _ (stepA _ _ _ _ _ _ _ _ _ undef undef undef undef undef undef undef undef undef undef undef undef undef undef undef undef undef undef)
    refine quiet_pos (by kernel_rfl) (.agg #[.int .i64 e.a.x, .int .i64 e.a.y]) (fun w' hc => ?_) ?_
    · obtain ⟨hb0, ⟨q0, q1, q2, q3, q4, q5, q6⟩, ⟨q7, q8, q9, q10, q11, q12, q13⟩, q14, q15, q16, q17⟩ := hc
      unfold stepA
      go_simp <;> exact ⟨rfl, rfl⟩
    change QW _ _ _ _ _ (stepA _ _ _ _ _ _ _ _ _ _ undef undef undef undef undef undef undef undef undef undef undef undef undef undef undef undef undef)
    refine quiet_pos (by kernel_rfl) (.agg #[.int .i64 (hgtN f e.a), .int .i64 (hgtD f e.a)]) (fun w' hc => ?_) ?_
    · unfold stepA
      go_simp
      refine (heightAt_any f e.a hf ha _).mono ?_
      rintro r w3 ⟨rfl, hb3⟩; exact ⟨rfl, HeldK.step hc h3 hb3⟩
    change QW _ _ _ _ _ (stepA _ _ _ _ _ _ _ _ _ _ _ undef undef undef undef undef undef undef undef undef undef undef undef undef undef undef undef)
    refine quiet_pos (by kernel_rfl) (.agg #[.string g.name, .int .i64 g.side, .int .i64 g.foot, .int .i64 g.base, .int .i64 g.rise, .int .i64 g.run, .slice g.ca g.cs.length g.cc]) (fun w' hc => ?_) ?_
    · obtain ⟨hb0, ⟨q0, q1, q2, q3, q4, q5, q6⟩, ⟨q7, q8, q9, q10, q11, q12, q13⟩, q14, q15, q16, q17⟩ := hc
      unfold stepA
      go_simp <;> exact ⟨rfl, rfl⟩
    change QW _ _ _ _ _ (stepA _ _ _ _ _ _ _ _ _ _ _ _ undef undef undef undef undef undef undef undef undef undef undef undef undef undef undef)
    refine quiet_pos (by kernel_rfl) (.pointer (some ⟨w.heap.size + 1 + 1, 0, none⟩)) (fun w' hc => ?_) ?_
    · exact ⟨rfl, rfl⟩
    change QW _ _ _ _ _ (stepA _ _ _ _ _ _ _ _ _ _ _ _ _ undef undef undef undef undef undef undef undef undef undef undef undef undef undef)
    refine quiet_pos (by kernel_rfl) (.agg #[.int .i64 e.a.x, .int .i64 e.a.y]) (fun w' hc => ?_) ?_
    · obtain ⟨hb0, ⟨q0, q1, q2, q3, q4, q5, q6⟩, ⟨q7, q8, q9, q10, q11, q12, q13⟩, q14, q15, q16, q17⟩ := hc
      unfold stepA
      go_simp <;> exact ⟨rfl, rfl⟩
    change QW _ _ _ _ _ (stepA _ _ _ _ _ _ _ _ _ _ _ _ _ _ undef undef undef undef undef undef undef undef undef undef undef undef undef)
    refine quiet_pos (by kernel_rfl) (.agg #[.int .i64 (hgtN g e.a), .int .i64 (hgtD g e.a)]) (fun w' hc => ?_) ?_
    · unfold stepA
      go_simp
      refine (heightAt_any g e.a hg ha _).mono ?_
      rintro r w3 ⟨rfl, hb3⟩; exact ⟨rfl, HeldK.step hc h3 hb3⟩
    change QW _ _ _ _ _ (stepA _ _ _ _ _ _ _ _ _ _ _ _ _ _ _ undef undef undef undef undef undef undef undef undef undef undef undef)
    refine quiet_pos (by kernel_rfl) (.bool true) (fun w' hc => ?_) ?_
    · obtain ⟨hb0, ⟨q0, q1, q2, q3, q4, q5, q6⟩, ⟨q7, q8, q9, q10, q11, q12, q13⟩, q14, q15, q16, q17⟩ := hc
      unfold stepA
      go_simp <;> exact ⟨rfl, rfl⟩
    change QW _ _ _ _ _ (stepA _ _ _ _ _ _ _ _ _ _ _ _ _ _ _ _ undef undef undef undef undef undef undef undef undef undef undef)
    refine quiet_pos (by kernel_rfl) (.bool true) (fun w' hc => ?_) ?_
    · obtain ⟨hb0, ⟨q0, q1, q2, q3, q4, q5, q6⟩, ⟨q7, q8, q9, q10, q11, q12, q13⟩, q14, q15, q16, q17⟩ := hc
      unfold stepA
      go_simp <;> exact ⟨rfl, rfl⟩
    change QW _ _ _ _ _ (stepA _ _ _ _ _ _ _ _ _ _ _ _ _ _ _ _ _ undef undef undef undef undef undef undef undef undef undef)
    refine quiet_neg (by kernel_rfl) ?_
    change QW _ _ _ _ _ (stepA _ _ _ _ _ _ _ _ _ _ _ _ _ _ _ _ _ undef undef undef undef undef undef undef undef undef undef)
    refine quiet_neg (by kernel_rfl) ?_
    change QW _ _ _ _ _ (stepA _ _ _ _ _ _ _ _ _ _ _ _ _ _ _ _ _ undef undef undef undef undef undef undef undef undef undef)
    refine quiet_neg (by kernel_rfl) ?_
    change QW _ _ _ _ _ (stepA _ _ _ _ _ _ _ _ _ _ _ _ _ _ _ _ _ undef undef undef undef undef undef undef undef undef undef)
    refine quiet_neg (by kernel_rfl) ?_
    change QW _ _ _ _ _ (stepA _ _ _ _ _ _ _ _ _ _ _ _ _ _ _ _ _ undef undef undef undef undef undef undef undef undef undef)
    refine quiet_neg (by kernel_rfl) ?_
    change QW _ _ _ _ _ (stepA _ _ _ _ _ _ _ _ _ _ _ _ _ _ _ _ _ undef undef undef undef undef undef undef undef undef undef)
    refine quiet_neg (by kernel_rfl) ?_
    change QW _ _ _ _ _ (stepA _ _ _ _ _ _ _ _ _ _ _ _ _ _ _ _ _ undef undef undef undef undef undef undef undef undef undef)
    refine quiet_neg (by kernel_rfl) ?_
    change QW _ _ _ _ _ (stepA _ _ _ _ _ _ _ _ _ _ _ _ _ _ _ _ _ undef undef undef undef undef undef undef undef undef undef)
    refine quiet_neg (by kernel_rfl) ?_
    change QW _ _ _ _ _ (stepA _ _ _ _ _ _ _ _ _ _ _ _ _ _ _ _ _ undef undef undef undef undef undef undef undef undef undef)
    refine quiet_neg (by kernel_rfl) ?_
    change QW _ _ _ _ _ (stepA _ _ _ _ _ _ _ _ _ _ _ _ _ _ _ _ _ undef undef undef undef undef undef undef undef undef undef)
    refine quiet_pos (by kernel_rfl) (.bool true) (fun w' hc => ?_) ?_
    · obtain ⟨hb0, ⟨q0, q1, q2, q3, q4, q5, q6⟩, ⟨q7, q8, q9, q10, q11, q12, q13⟩, q14, q15, q16, q17⟩ := hc
      unfold stepA
      go_simp <;> exact ⟨rfl, rfl⟩
    change QW _ _ _ _ _ (stepA _ _ _ _ _ _ _ _ _ _ _ _ _ _ _ _ _ undef undef undef undef undef undef undef undef undef _)
    refine quiet_pos (by kernel_rfl) (.bool true) (fun w' hc => ?_) ?_
    · obtain ⟨hb0, ⟨q0, q1, q2, q3, q4, q5, q6⟩, ⟨q7, q8, q9, q10, q11, q12, q13⟩, q14, q15, q16, q17⟩ := hc
      unfold stepA
      go_simp <;> exact ⟨rfl, rfl⟩
    change QW _ _ _ _ _ (stepA _ _ _ _ _ _ _ _ _ _ _ _ _ _ _ _ _ undef undef undef undef undef undef undef undef undef _)
    refine quiet_nil (fun w' hc => ?_)
    unfold stepA
    go_wp2_with fail
    go_ret
    exact ⟨by rw [HV.out]; rfl, hB.trans (hc.1.mono (by omega))⟩
  | true =>
    have hv : stepB f g e = !levelB f g e.b := by simp [stepB, h1]
    have HV := Lib.hid hv
    rw [h1] at hn1
    clear hv h1
    unfold boxes at hW
    go_enter Try.func119, Try.ntmps119
    go_wp2_with fail
    clear hW
    refine wp_region_quiet (C := fun w' => HeldK W w.heap.size f g e w') (by kernel_rfl) (by kernel_rfl) hx ?_
    refine QW.out ?_
    change QW _ _ _ _ _ (stepA _ _ _ _ _ _ _ undef undef undef undef undef undef undef undef undef undef undef undef undef undef undef undef undef undef undef undef)
    refine quiet_pos (by kernel_rfl) (.agg #[.string f.name, .int .i64 f.side, .int .i64 f.foot, .int .i64 f.base, .int .i64 f.rise, .int .i64 f.run, .slice f.ca f.cs.length f.cc]) (fun w' hc => ?_) ?_
    · obtain ⟨hb0, ⟨q0, q1, q2, q3, q4, q5, q6⟩, ⟨q7, q8, q9, q10, q11, q12, q13⟩, q14, q15, q16, q17⟩ := hc
      unfold stepA
      go_simp <;> exact ⟨rfl, rfl⟩
    change QW _ _ _ _ _ (stepA _ _ _ _ _ _ _ _ undef undef undef undef undef undef undef undef undef undef undef undef undef undef undef undef undef undef undef)
    refine quiet_pos (by kernel_rfl) (.pointer (some ⟨w.heap.size + 1 + 1, 0, none⟩)) (fun w' hc => ?_) ?_
    · exact ⟨rfl, rfl⟩
    change QW _ _ _ _ _ (stepA _ _ _ _ _ _ _ _ _ undef undef undef undef undef undef undef undef undef undef undef undef undef undef undef undef undef undef)
    refine quiet_pos (by kernel_rfl) (.agg #[.int .i64 e.a.x, .int .i64 e.a.y]) (fun w' hc => ?_) ?_
    · obtain ⟨hb0, ⟨q0, q1, q2, q3, q4, q5, q6⟩, ⟨q7, q8, q9, q10, q11, q12, q13⟩, q14, q15, q16, q17⟩ := hc
      unfold stepA
      go_simp <;> exact ⟨rfl, rfl⟩
    change QW _ _ _ _ _ (stepA _ _ _ _ _ _ _ _ _ _ undef undef undef undef undef undef undef undef undef undef undef undef undef undef undef undef undef)
    refine quiet_pos (by kernel_rfl) (.agg #[.int .i64 (hgtN f e.a), .int .i64 (hgtD f e.a)]) (fun w' hc => ?_) ?_
    · unfold stepA
      go_simp
      refine (heightAt_any f e.a hf ha _).mono ?_
      rintro r w3 ⟨rfl, hb3⟩; exact ⟨rfl, HeldK.step hc h3 hb3⟩
    change QW _ _ _ _ _ (stepA _ _ _ _ _ _ _ _ _ _ _ undef undef undef undef undef undef undef undef undef undef undef undef undef undef undef undef)
    refine quiet_pos (by kernel_rfl) (.agg #[.string g.name, .int .i64 g.side, .int .i64 g.foot, .int .i64 g.base, .int .i64 g.rise, .int .i64 g.run, .slice g.ca g.cs.length g.cc]) (fun w' hc => ?_) ?_
    · obtain ⟨hb0, ⟨q0, q1, q2, q3, q4, q5, q6⟩, ⟨q7, q8, q9, q10, q11, q12, q13⟩, q14, q15, q16, q17⟩ := hc
      unfold stepA
      go_simp <;> exact ⟨rfl, rfl⟩
    change QW _ _ _ _ _ (stepA _ _ _ _ _ _ _ _ _ _ _ _ undef undef undef undef undef undef undef undef undef undef undef undef undef undef undef)
    refine quiet_pos (by kernel_rfl) (.pointer (some ⟨w.heap.size + 1 + 1, 0, none⟩)) (fun w' hc => ?_) ?_
    · exact ⟨rfl, rfl⟩
    change QW _ _ _ _ _ (stepA _ _ _ _ _ _ _ _ _ _ _ _ _ undef undef undef undef undef undef undef undef undef undef undef undef undef undef)
    refine quiet_pos (by kernel_rfl) (.agg #[.int .i64 e.a.x, .int .i64 e.a.y]) (fun w' hc => ?_) ?_
    · obtain ⟨hb0, ⟨q0, q1, q2, q3, q4, q5, q6⟩, ⟨q7, q8, q9, q10, q11, q12, q13⟩, q14, q15, q16, q17⟩ := hc
      unfold stepA
      go_simp <;> exact ⟨rfl, rfl⟩
    change QW _ _ _ _ _ (stepA _ _ _ _ _ _ _ _ _ _ _ _ _ _ undef undef undef undef undef undef undef undef undef undef undef undef undef)
    refine quiet_pos (by kernel_rfl) (.agg #[.int .i64 (hgtN g e.a), .int .i64 (hgtD g e.a)]) (fun w' hc => ?_) ?_
    · unfold stepA
      go_simp
      refine (heightAt_any g e.a hg ha _).mono ?_
      rintro r w3 ⟨rfl, hb3⟩; exact ⟨rfl, HeldK.step hc h3 hb3⟩
    change QW _ _ _ _ _ (stepA _ _ _ _ _ _ _ _ _ _ _ _ _ _ _ undef undef undef undef undef undef undef undef undef undef undef undef)
    refine quiet_pos (by kernel_rfl) (.bool false) (fun w' hc => ?_) ?_
    · obtain ⟨hb0, ⟨q0, q1, q2, q3, q4, q5, q6⟩, ⟨q7, q8, q9, q10, q11, q12, q13⟩, q14, q15, q16, q17⟩ := hc
      unfold stepA
      go_simp <;> exact ⟨rfl, rfl⟩
    change QW _ _ _ _ _ (stepA _ _ _ _ _ _ _ _ _ _ _ _ _ _ _ _ undef undef undef undef undef undef undef undef undef undef undef)
    refine quiet_pos (by kernel_rfl) (.bool false) (fun w' hc => ?_) ?_
    · obtain ⟨hb0, ⟨q0, q1, q2, q3, q4, q5, q6⟩, ⟨q7, q8, q9, q10, q11, q12, q13⟩, q14, q15, q16, q17⟩ := hc
      unfold stepA
      go_simp <;> exact ⟨rfl, rfl⟩
    change QW _ _ _ _ _ (stepA _ _ _ _ _ _ _ _ _ _ _ _ _ _ _ _ _ undef undef undef undef undef undef undef undef undef undef)
    refine quiet_pos (by kernel_rfl) (.agg #[.string f.name, .int .i64 f.side, .int .i64 f.foot, .int .i64 f.base, .int .i64 f.rise, .int .i64 f.run, .slice f.ca f.cs.length f.cc]) (fun w' hc => ?_) ?_
    · obtain ⟨hb0, ⟨q0, q1, q2, q3, q4, q5, q6⟩, ⟨q7, q8, q9, q10, q11, q12, q13⟩, q14, q15, q16, q17⟩ := hc
      unfold stepA
      go_simp <;> exact ⟨rfl, rfl⟩
    change QW _ _ _ _ _ (stepA _ _ _ _ _ _ _ _ _ _ _ _ _ _ _ _ _ _ undef undef undef undef undef undef undef undef undef)
    refine quiet_pos (by kernel_rfl) (.pointer (some ⟨w.heap.size + 1 + 1, 2, none⟩)) (fun w' hc => ?_) ?_
    · exact ⟨rfl, rfl⟩
    change QW _ _ _ _ _ (stepA _ _ _ _ _ _ _ _ _ _ _ _ _ _ _ _ _ _ _ undef undef undef undef undef undef undef undef)
    refine quiet_pos (by kernel_rfl) (.agg #[.int .i64 e.b.x, .int .i64 e.b.y]) (fun w' hc => ?_) ?_
    · obtain ⟨hb0, ⟨q0, q1, q2, q3, q4, q5, q6⟩, ⟨q7, q8, q9, q10, q11, q12, q13⟩, q14, q15, q16, q17⟩ := hc
      unfold stepA
      go_simp <;> exact ⟨rfl, rfl⟩
    change QW _ _ _ _ _ (stepA _ _ _ _ _ _ _ _ _ _ _ _ _ _ _ _ _ _ _ _ undef undef undef undef undef undef undef)
    refine quiet_pos (by kernel_rfl) (.agg #[.int .i64 (hgtN f e.b), .int .i64 (hgtD f e.b)]) (fun w' hc => ?_) ?_
    · unfold stepA
      go_simp
      refine (heightAt_any f e.b hf hb _).mono ?_
      rintro r w3 ⟨rfl, hb3⟩; exact ⟨rfl, HeldK.step hc h3 hb3⟩
    change QW _ _ _ _ _ (stepA _ _ _ _ _ _ _ _ _ _ _ _ _ _ _ _ _ _ _ _ _ undef undef undef undef undef undef)
    refine quiet_pos (by kernel_rfl) (.agg #[.string g.name, .int .i64 g.side, .int .i64 g.foot, .int .i64 g.base, .int .i64 g.rise, .int .i64 g.run, .slice g.ca g.cs.length g.cc]) (fun w' hc => ?_) ?_
    · obtain ⟨hb0, ⟨q0, q1, q2, q3, q4, q5, q6⟩, ⟨q7, q8, q9, q10, q11, q12, q13⟩, q14, q15, q16, q17⟩ := hc
      unfold stepA
      go_simp <;> exact ⟨rfl, rfl⟩
    change QW _ _ _ _ _ (stepA _ _ _ _ _ _ _ _ _ _ _ _ _ _ _ _ _ _ _ _ _ _ undef undef undef undef undef)
    refine quiet_pos (by kernel_rfl) (.pointer (some ⟨w.heap.size + 1 + 1, 2, none⟩)) (fun w' hc => ?_) ?_
    · exact ⟨rfl, rfl⟩
    change QW _ _ _ _ _ (stepA _ _ _ _ _ _ _ _ _ _ _ _ _ _ _ _ _ _ _ _ _ _ _ undef undef undef undef)
    refine quiet_pos (by kernel_rfl) (.agg #[.int .i64 e.b.x, .int .i64 e.b.y]) (fun w' hc => ?_) ?_
    · obtain ⟨hb0, ⟨q0, q1, q2, q3, q4, q5, q6⟩, ⟨q7, q8, q9, q10, q11, q12, q13⟩, q14, q15, q16, q17⟩ := hc
      unfold stepA
      go_simp <;> exact ⟨rfl, rfl⟩
    change QW _ _ _ _ _ (stepA _ _ _ _ _ _ _ _ _ _ _ _ _ _ _ _ _ _ _ _ _ _ _ _ undef undef undef)
    refine quiet_pos (by kernel_rfl) (.agg #[.int .i64 (hgtN g e.b), .int .i64 (hgtD g e.b)]) (fun w' hc => ?_) ?_
    · unfold stepA
      go_simp
      refine (heightAt_any g e.b hg hb _).mono ?_
      rintro r w3 ⟨rfl, hb3⟩; exact ⟨rfl, HeldK.step hc h3 hb3⟩
    change QW _ _ _ _ _ (stepA _ _ _ _ _ _ _ _ _ _ _ _ _ _ _ _ _ _ _ _ _ _ _ _ _ undef undef)
    refine quiet_pos (by kernel_rfl) (.bool (!levelB f g e.b)) (fun w' hc => ?_) ?_
    · obtain ⟨hb0, ⟨q0, q1, q2, q3, q4, q5, q6⟩, ⟨q7, q8, q9, q10, q11, q12, q13⟩, q14, q15, q16, q17⟩ := hc
      unfold stepA
      go_simp <;> exact ⟨rfl, rfl⟩
    change QW _ _ _ _ _ (stepA _ _ _ _ _ _ _ _ _ _ _ _ _ _ _ _ _ _ _ _ _ _ _ _ _ _ undef)
    refine quiet_pos (by kernel_rfl) (.bool (!levelB f g e.b)) (fun w' hc => ?_) ?_
    · obtain ⟨hb0, ⟨q0, q1, q2, q3, q4, q5, q6⟩, ⟨q7, q8, q9, q10, q11, q12, q13⟩, q14, q15, q16, q17⟩ := hc
      unfold stepA
      go_simp <;> exact ⟨rfl, rfl⟩
    change QW _ _ _ _ _ (stepA _ _ _ _ _ _ _ _ _ _ _ _ _ _ _ _ _ _ _ _ _ _ _ _ _ _ _)
    refine quiet_pos (by kernel_rfl) (.bool (!levelB f g e.b)) (fun w' hc => ?_) ?_
    · obtain ⟨hb0, ⟨q0, q1, q2, q3, q4, q5, q6⟩, ⟨q7, q8, q9, q10, q11, q12, q13⟩, q14, q15, q16, q17⟩ := hc
      unfold stepA
      go_simp <;> exact ⟨rfl, rfl⟩
    change QW _ _ _ _ _ (stepA _ _ _ _ _ _ _ _ _ _ _ _ _ _ _ _ _ _ _ _ _ _ _ _ _ _ _)
    refine quiet_nil (fun w' hc => ?_)
    unfold stepA
    go_wp2_with fail
    go_ret
    exact ⟨by rw [HV.out]; rfl, hB.trans (hc.1.mono (by omega))⟩
end Go.Proofs.Ytpdgcajbdaleeaa
