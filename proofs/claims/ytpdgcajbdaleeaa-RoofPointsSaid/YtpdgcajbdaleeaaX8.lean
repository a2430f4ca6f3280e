/- kindBetween: the kind of an edge that has a face beside it. -/
import Derived.Test.YtpdgcajbdaleeaaX7
namespace Go.Proofs.Ytpdgcajbdaleeaa
open Go.RowKit

/-- How much two faces rise together from their edge. -/
def sumB (f g : Fac) (e : Edg) : Int := f.rise * seenU f.side e * g.run + g.rise * seenU g.side ⟨e.b, e.a⟩ * f.run
/-- The kind of an edge by the signs of what it is made of. -/
def kindS (S A B : Int) (L : Bool) : Int :=
  if S = 0 then 8 else if A < 0 ∧ B < 0 then (if L = true then 5 else 6) else if 0 < A ∧ 0 < B then 7 else 9
/-- The kind of an edge that has a face beside it. -/
def kindB (f g : Fac) (e : Edg) : Int :=
  if stepB f g e = true then 4 else kindS (sgn (sumB f g e)) (sgn (seenU f.side e)) (sgn (seenU g.side ⟨e.b, e.a⟩)) (seenV f.side e == 0)

theorem own_bd {s : Int} {p : Pnt} (hp : p.ok) : (-10000 ≤ ownU s p ∧ ownU s p ≤ 10000) ∧ -10000 ≤ ownV s p ∧ ownV s p ≤ 10000 := by
  obtain ⟨⟨a, b⟩, c, d⟩ := hp
  unfold ownU ownV
  refine ⟨?_, ?_⟩ <;> (repeat' split) <;> omega
theorem own_span {s : Int} {p q : Pnt} (hp : p.ok) (hq : q.ok) : (-10000 ≤ ownU s p - ownU s q ∧ ownU s p - ownU s q ≤ 10000) ∧ -10000 ≤ ownV s p - ownV s q ∧ ownV s p - ownV s q ≤ 10000 := by
  obtain ⟨⟨a, b⟩, c, d⟩ := hp
  obtain ⟨⟨a', b'⟩, c', d'⟩ := hq
  unfold ownU ownV
  refine ⟨?_, ?_⟩ <;> (repeat' split) <;> omega
theorem rise_bd {r u n : Int} (r0 : 1 ≤ r) (r1 : r ≤ 100) (u0 : -10000 ≤ u) (u1 : u ≤ 10000) (n0 : 1 ≤ n) (n1 : n ≤ 100) : (-1000000 ≤ r * u ∧ r * u ≤ 1000000) ∧ -100000000 ≤ r * u * n ∧ r * u * n ≤ 100000000 := by
  have h1 := mul_bd (a := r) (b := u) (m := 100) (n := 10000) (by omega) (by omega) (by omega) (by omega)
  have h2 := mul_bd (a := r * u) (b := n) (m := 1000000) (n := 100) (by omega) (by omega) (by omega) (by omega)
  exact ⟨by omega, by omega⟩

def kindA0 (x0 x1 x2 x3 x4 x5 x6 x7 x8 x9 x10 x11 x12 x13 x14 x15 x16 x17 x18 x19 x20 x21 x22 x23 x24 x25 x26 x27 x28 x29 x30 x31 x32 x33 x34 x35 x36 x37 x38 x39 x40 x41 x42 x43 x44 x45 x46 x47 x48 x49 x50 x51 x52 x53 x54 x55 x56 x57 x58 x59 x60 x61 x62 x63 x64 x65 x66 x67 x68 x69 x70 x71 x72 : Value) : Act := { tmps := #[x0, x1, x2, x3, x4, x5, x6, x7, x8, x9, x10, x11, x12, x13, x14, x15, x16, x17, x18, x19, x20, x21, x22, x23, x24, x25, x26, x27, x28, x29, x30, x31, x32, x33, x34, x35, x36, x37, x38, x39, x40, x41, x42, x43, x44, x45, x46, x47, x48, x49, x50, x51, x52, x53, x54, x55, x56, x57, x58, x59, x60, x61, x62, x63, x64, x65, x66, x67, x68, x69, x70, x71, x72], defers := [] }

set_option maxRecDepth 100000 in
set_option maxHeartbeats 8000000 in
theorem kindBetween_any (f g : Fac) (e : Edg) (hf : f.ok) (hg : g.ok) (he : e.ok) (w : World) :
    Calls Try.prog 89 #[.agg #[.string f.name, .int .i64 f.side, .int .i64 f.foot, .int .i64 f.base, .int .i64 f.rise, .int .i64 f.run, .slice f.ca f.cs.length f.cc], .agg #[.string g.name, .int .i64 g.side, .int .i64 g.foot, .int .i64 g.base, .int .i64 g.rise, .int .i64 g.run, .slice g.ca g.cs.length g.cc], .agg #[.int .i64 e.a.x, .int .i64 e.a.y, .int .i64 e.b.x, .int .i64 e.b.y]] w fun r w' => r = .returned (.int .i64 (kindB f g e)) ∧ Below w.heap.size w w' := by
  obtain ⟨hx0, hB, hsz⟩ := boxes_held w f g e
  generalize hW : boxes w f g e = W at hx0 hB hsz
  have h3 : w.heap.size + 2 < W.heap.size := by omega
  have HX := Lib.hid hx0
  obtain ⟨hb0, ⟨q0, q1, q2, q3, q4, q5, q6⟩, ⟨q7, q8, q9, q10, q11, q12, q13⟩, q14, q15, q16, q17⟩ := hx0
  have HSZ := Lib.hid hsz
  clear hsz
  unfold boxes at hW
  go_enter Try.func89, Try.ntmps89
  go_wp2_with fail
  refine (isStep_any f g e hf hg he _).mono ?_
  rintro r w1 ⟨rfl, hb1⟩
  have hx1 := HeldK.step HX.out h3 hb1
  clear hW q0 q1 q2 q3 q4 q5 q6 q7 q8 q9 q10 q11 q12 q13 q14 q15 q16 q17 hb0 HX hb1
  cases hs : stepB f g e with
  | true =>
    have hv : kindB f g e = 4 := by simp [kindB, hs]
    have HV := Lib.hid hv
    clear hv hs
    go_wp2_with fail
    go_ret
    exact ⟨by rw [HV.out]; rfl, hB.trans (hx1.1.mono (by omega))⟩
  | false =>
    have hv : kindB f g e = kindS (sgn (sumB f g e)) (sgn (seenU f.side e)) (sgn (seenU g.side ⟨e.b, e.a⟩)) (seenV f.side e == 0) := by simp [kindB, hs]
    have HV := Lib.hid hv
    clear hv hs
    have hx : HeldK W w.heap.size f g e w1.drew := hx1.step h3 (Below.refl _ _).drew
    go_wp2_with fail
    refine wp_region_quiet (C := fun w' => HeldK W w.heap.size f g e w') (by kernel_rfl) (by kernel_rfl) hx ?_
    refine QW.out ?_
    change QW _ _ _ _ _ (kindA0 _ _ _ _ _ _ _ undef undef undef _ _ _ _ undef undef undef undef undef undef undef undef undef undef undef undef undef undef undef undef undef undef undef undef undef undef undef undef undef undef undef undef undef undef undef undef undef undef undef undef undef undef undef undef undef undef undef undef undef undef undef undef undef undef undef undef undef undef undef undef undef undef undef)
    refine quiet_pos (by kernel_rfl) (.agg #[.string f.name, .int .i64 f.side, .int .i64 f.foot, .int .i64 f.base, .int .i64 f.rise, .int .i64 f.run, .slice f.ca f.cs.length f.cc]) (fun w' hc => ?_) ?_
    · obtain ⟨hb0, ⟨q0, q1, q2, q3, q4, q5, q6⟩, ⟨q7, q8, q9, q10, q11, q12, q13⟩, q14, q15, q16, q17⟩ := hc
      unfold kindA0
      go_simp <;> exact ⟨rfl, rfl⟩
    change QW _ _ _ _ _ (kindA0 _ _ _ _ _ _ _ undef undef undef _ _ _ _ _ undef undef undef undef undef undef undef undef undef undef undef undef undef undef undef undef undef undef undef undef undef undef undef undef undef undef undef undef undef undef undef undef undef undef undef undef undef undef undef undef undef undef undef undef undef undef undef undef undef undef undef undef undef undef undef undef undef undef)
    refine quiet_pos (by kernel_rfl) (.agg #[.int .i64 e.a.x, .int .i64 e.a.y, .int .i64 e.b.x, .int .i64 e.b.y]) (fun w' hc => ?_) ?_
    · obtain ⟨hb0, ⟨q0, q1, q2, q3, q4, q5, q6⟩, ⟨q7, q8, q9, q10, q11, q12, q13⟩, q14, q15, q16, q17⟩ := hc
      unfold kindA0
      go_simp <;> exact ⟨rfl, rfl⟩
    change QW _ _ _ _ _ (kindA0 _ _ _ _ _ _ _ undef undef undef _ _ _ _ _ _ undef undef undef undef undef undef undef undef undef undef undef undef undef undef undef undef undef undef undef undef undef undef undef undef undef undef undef undef undef undef undef undef undef undef undef undef undef undef undef undef undef undef undef undef undef undef undef undef undef undef undef undef undef undef undef undef undef)
    refine quiet_pos (by kernel_rfl) (.int .i64 (sgn (seenU f.side e))) (fun w' hc => ?_) ?_
    · unfold kindA0
      go_simp
      refine (climb_any f e hf.s1 hf.s4 he _).mono ?_
      rintro r w3 ⟨rfl, hb3⟩; exact ⟨rfl, HeldK.step hc h3 hb3⟩
    change QW _ _ _ _ _ (kindA0 _ _ _ _ _ _ _ undef undef undef _ _ _ _ _ _ _ undef undef undef undef undef undef undef undef undef undef undef undef undef undef undef undef undef undef undef undef undef undef undef undef undef undef undef undef undef undef undef undef undef undef undef undef undef undef undef undef undef undef undef undef undef undef undef undef undef undef undef undef undef undef undef undef)
    refine quiet_pos (by kernel_rfl) (.agg #[.string g.name, .int .i64 g.side, .int .i64 g.foot, .int .i64 g.base, .int .i64 g.rise, .int .i64 g.run, .slice g.ca g.cs.length g.cc]) (fun w' hc => ?_) ?_
    · obtain ⟨hb0, ⟨q0, q1, q2, q3, q4, q5, q6⟩, ⟨q7, q8, q9, q10, q11, q12, q13⟩, q14, q15, q16, q17⟩ := hc
      unfold kindA0
      go_simp <;> exact ⟨rfl, rfl⟩
    change QW _ _ _ _ _ (kindA0 _ _ _ _ _ _ _ undef undef undef _ _ _ _ _ _ _ _ undef undef undef undef undef undef undef undef undef undef undef undef undef undef undef undef undef undef undef undef undef undef undef undef undef undef undef undef undef undef undef undef undef undef undef undef undef undef undef undef undef undef undef undef undef undef undef undef undef undef undef undef undef undef undef)
    refine quiet_pos (by kernel_rfl) (.agg #[.int .i64 e.a.x, .int .i64 e.a.y, .int .i64 e.b.x, .int .i64 e.b.y]) (fun w' hc => ?_) ?_
    · obtain ⟨hb0, ⟨q0, q1, q2, q3, q4, q5, q6⟩, ⟨q7, q8, q9, q10, q11, q12, q13⟩, q14, q15, q16, q17⟩ := hc
      unfold kindA0
      go_simp <;> exact ⟨rfl, rfl⟩
    change QW _ _ _ _ _ (kindA0 _ _ _ _ _ _ _ undef undef undef _ _ _ _ _ _ _ _ _ undef undef undef undef undef undef undef undef undef undef undef undef undef undef undef undef undef undef undef undef undef undef undef undef undef undef undef undef undef undef undef undef undef undef undef undef undef undef undef undef undef undef undef undef undef undef undef undef undef undef undef undef undef undef)
    refine quiet_pos (by kernel_rfl) (.agg #[.int .i64 e.b.x, .int .i64 e.b.y, .int .i64 e.a.x, .int .i64 e.a.y]) (fun w' hc => ?_) ?_
    · unfold kindA0
      go_simp
      refine (back_any _ _ _ _ _).mono ?_
      rintro r w3 ⟨rfl, hb3⟩; exact ⟨rfl, HeldK.step hc h3 hb3⟩
    change QW _ _ _ _ _ (kindA0 _ _ _ _ _ _ _ undef undef undef _ _ _ _ _ _ _ _ _ _ undef undef undef undef undef undef undef undef undef undef undef undef undef undef undef undef undef undef undef undef undef undef undef undef undef undef undef undef undef undef undef undef undef undef undef undef undef undef undef undef undef undef undef undef undef undef undef undef undef undef undef undef undef)
    refine quiet_pos (by kernel_rfl) (.int .i64 (sgn (seenU g.side ⟨e.b, e.a⟩))) (fun w' hc => ?_) ?_
    · unfold kindA0
      go_simp
      refine (climb_any g ⟨e.b, e.a⟩ hg.s1 hg.s4 ⟨he.2, he.1⟩ _).mono ?_
      rintro r w3 ⟨rfl, hb3⟩; exact ⟨rfl, HeldK.step hc h3 hb3⟩
    change QW _ _ _ _ _ (kindA0 _ _ _ _ _ _ _ undef undef undef _ _ _ _ _ _ _ _ _ _ _ undef undef undef undef undef undef undef undef undef undef undef undef undef undef undef undef undef undef undef undef undef undef undef undef undef undef undef undef undef undef undef undef undef undef undef undef undef undef undef undef undef undef undef undef undef undef undef undef undef undef undef undef)
    refine quiet_pos (by kernel_rfl) (.int .i64 (sgn (seenU f.side e))) (fun w' hc => ?_) ?_
    · obtain ⟨hb0, ⟨q0, q1, q2, q3, q4, q5, q6⟩, ⟨q7, q8, q9, q10, q11, q12, q13⟩, q14, q15, q16, q17⟩ := hc
      unfold kindA0
      go_simp <;> exact ⟨rfl, rfl⟩
    change QW _ _ _ _ _ (kindA0 _ _ _ _ _ _ _ _ undef undef _ _ _ _ _ _ _ _ _ _ _ undef undef undef undef undef undef undef undef undef undef undef undef undef undef undef undef undef undef undef undef undef undef undef undef undef undef undef undef undef undef undef undef undef undef undef undef undef undef undef undef undef undef undef undef undef undef undef undef undef undef undef undef)
    refine quiet_pos (by kernel_rfl) (.int .i64 (sgn (seenU g.side ⟨e.b, e.a⟩))) (fun w' hc => ?_) ?_
    · obtain ⟨hb0, ⟨q0, q1, q2, q3, q4, q5, q6⟩, ⟨q7, q8, q9, q10, q11, q12, q13⟩, q14, q15, q16, q17⟩ := hc
      unfold kindA0
      go_simp <;> exact ⟨rfl, rfl⟩
    change QW _ _ _ _ _ (kindA0 _ _ _ _ _ _ _ _ _ undef _ _ _ _ _ _ _ _ _ _ _ undef undef undef undef undef undef undef undef undef undef undef undef undef undef undef undef undef undef undef undef undef undef undef undef undef undef undef undef undef undef undef undef undef undef undef undef undef undef undef undef undef undef undef undef undef undef undef undef undef undef undef undef)
    refine quiet_nil (fun w' hc => ?_)
    unfold kindA0
    clear hx hx1
    have hx : HeldK W w.heap.size f g e w'.drew := hc.step h3 (Below.refl _ _).drew
    have o1 : -10000 ≤ seenU f.side e ∧ seenU f.side e ≤ 10000 := (own_span (s := f.side) he.2 he.1).1
    have o2 : -10000 ≤ seenU g.side ⟨e.b, e.a⟩ ∧ seenU g.side ⟨e.b, e.a⟩ ≤ 10000 := (own_span (s := g.side) he.1 he.2).1
    have m1 := rise_bd hf.r0 hf.r1 o1.1 o1.2 hg.n0 hg.n1
    have m2 := rise_bd hg.r0 hg.r1 o2.1 o2.2 hf.n0 hf.n1
    have w1' : IntKind.i64.wrap (f.rise * seenU f.side e) = f.rise * seenU f.side e := IntWalk.i64_in _ (by have := m1.1; omega)
    have w2' : IntKind.i64.wrap (f.rise * seenU f.side e * g.run) = f.rise * seenU f.side e * g.run := IntWalk.i64_in _ (by have := m1.2; omega)
    have w3' : IntKind.i64.wrap (g.rise * seenU g.side ⟨e.b, e.a⟩) = g.rise * seenU g.side ⟨e.b, e.a⟩ := IntWalk.i64_in _ (by have := m2.1; omega)
    have w4' : IntKind.i64.wrap (g.rise * seenU g.side ⟨e.b, e.a⟩ * f.run) = g.rise * seenU g.side ⟨e.b, e.a⟩ * f.run := IntWalk.i64_in _ (by have := m2.2; omega)
    have w5' : IntKind.i64.wrap (f.rise * seenU f.side e * g.run + g.rise * seenU g.side ⟨e.b, e.a⟩ * f.run) = sumB f g e := IntWalk.i64_in _ (by have := m1.2; have := m2.2; omega)
    clear o1 o2 m1 m2
    go_wp2_with fail
    refine wp_region_quiet (C := fun w' => HeldK W w.heap.size f g e w') (by kernel_rfl) (by kernel_rfl) hx ?_
    refine QW.out ?_
    change QW _ _ _ _ _ (kindA0 _ _ _ _ _ _ _ _ _ undef _ _ _ _ _ _ _ _ _ _ _ undef undef undef undef undef undef undef undef undef undef undef undef undef undef undef undef undef undef undef undef undef undef undef undef undef undef undef undef undef undef undef undef undef undef undef undef undef undef undef undef undef undef undef undef undef undef undef undef undef undef undef undef)
    refine quiet_pos (by kernel_rfl) (.pointer (some ⟨w.heap.size, 4, none⟩)) (fun w' hc => ?_) ?_
    · exact ⟨rfl, rfl⟩
    change QW _ _ _ _ _ (kindA0 _ _ _ _ _ _ _ _ _ undef _ _ _ _ _ _ _ _ _ _ _ _ undef undef undef undef undef undef undef undef undef undef undef undef undef undef undef undef undef undef undef undef undef undef undef undef undef undef undef undef undef undef undef undef undef undef undef undef undef undef undef undef undef undef undef undef undef undef undef undef undef undef undef)
    refine quiet_pos (by kernel_rfl) (.int .i64 f.rise) (fun w' hc => ?_) ?_
    · obtain ⟨hb0, ⟨q0, q1, q2, q3, q4, q5, q6⟩, ⟨q7, q8, q9, q10, q11, q12, q13⟩, q14, q15, q16, q17⟩ := hc
      unfold kindA0
      go_simp <;> exact ⟨rfl, rfl⟩
    change QW _ _ _ _ _ (kindA0 _ _ _ _ _ _ _ _ _ undef _ _ _ _ _ _ _ _ _ _ _ _ _ undef undef undef undef undef undef undef undef undef undef undef undef undef undef undef undef undef undef undef undef undef undef undef undef undef undef undef undef undef undef undef undef undef undef undef undef undef undef undef undef undef undef undef undef undef undef undef undef undef undef)
    refine quiet_pos (by kernel_rfl) (.agg #[.string f.name, .int .i64 f.side, .int .i64 f.foot, .int .i64 f.base, .int .i64 f.rise, .int .i64 f.run, .slice f.ca f.cs.length f.cc]) (fun w' hc => ?_) ?_
    · obtain ⟨hb0, ⟨q0, q1, q2, q3, q4, q5, q6⟩, ⟨q7, q8, q9, q10, q11, q12, q13⟩, q14, q15, q16, q17⟩ := hc
      unfold kindA0
      go_simp <;> exact ⟨rfl, rfl⟩
    change QW _ _ _ _ _ (kindA0 _ _ _ _ _ _ _ _ _ undef _ _ _ _ _ _ _ _ _ _ _ _ _ _ undef undef undef undef undef undef undef undef undef undef undef undef undef undef undef undef undef undef undef undef undef undef undef undef undef undef undef undef undef undef undef undef undef undef undef undef undef undef undef undef undef undef undef undef undef undef undef undef undef)
    refine quiet_pos (by kernel_rfl) (.agg #[.int .i64 e.a.x, .int .i64 e.a.y, .int .i64 e.b.x, .int .i64 e.b.y]) (fun w' hc => ?_) ?_
    · obtain ⟨hb0, ⟨q0, q1, q2, q3, q4, q5, q6⟩, ⟨q7, q8, q9, q10, q11, q12, q13⟩, q14, q15, q16, q17⟩ := hc
      unfold kindA0
      go_simp <;> exact ⟨rfl, rfl⟩
    change QW _ _ _ _ _ (kindA0 _ _ _ _ _ _ _ _ _ undef _ _ _ _ _ _ _ _ _ _ _ _ _ _ _ undef undef undef undef undef undef undef undef undef undef undef undef undef undef undef undef undef undef undef undef undef undef undef undef undef undef undef undef undef undef undef undef undef undef undef undef undef undef undef undef undef undef undef undef undef undef undef undef)
    refine quiet_pos (by kernel_rfl) (.agg #[.int .i64 (seenU f.side e), .int .i64 (seenV f.side e)]) (fun w' hc => ?_) ?_
    · unfold kindA0
      go_simp
      refine (seen_any f e hf.s1 hf.s4 he _).mono ?_
      rintro r w3 ⟨rfl, hb3⟩; exact ⟨rfl, HeldK.step hc h3 hb3⟩
    change QW _ _ _ _ _ (kindA0 _ _ _ _ _ _ _ _ _ undef _ _ _ _ _ _ _ _ _ _ _ _ _ _ _ _ undef undef undef undef undef undef undef undef undef undef undef undef undef undef undef undef undef undef undef undef undef undef undef undef undef undef undef undef undef undef undef undef undef undef undef undef undef undef undef undef undef undef undef undef undef undef undef)
    refine quiet_pos (by kernel_rfl) (.int .i64 (seenU f.side e)) (fun w' hc => ?_) ?_
    · obtain ⟨hb0, ⟨q0, q1, q2, q3, q4, q5, q6⟩, ⟨q7, q8, q9, q10, q11, q12, q13⟩, q14, q15, q16, q17⟩ := hc
      unfold kindA0
      go_simp <;> exact ⟨rfl, rfl⟩
    change QW _ _ _ _ _ (kindA0 _ _ _ _ _ _ _ _ _ undef _ _ _ _ _ _ _ _ _ _ _ _ _ _ _ _ _ undef undef undef undef undef undef undef undef undef undef undef undef undef undef undef undef undef undef undef undef undef undef undef undef undef undef undef undef undef undef undef undef undef undef undef undef undef undef undef undef undef undef undef undef undef undef)
    refine quiet_pos (by kernel_rfl) (.int .i64 (f.rise * seenU f.side e)) (fun w' hc => ?_) ?_
    · obtain ⟨hb0, ⟨q0, q1, q2, q3, q4, q5, q6⟩, ⟨q7, q8, q9, q10, q11, q12, q13⟩, q14, q15, q16, q17⟩ := hc
      unfold kindA0
      go_simp <;> exact ⟨rfl, rfl⟩
    change QW _ _ _ _ _ (kindA0 _ _ _ _ _ _ _ _ _ undef _ _ _ _ _ _ _ _ _ _ _ _ _ _ _ _ _ _ undef undef undef undef undef undef undef undef undef undef undef undef undef undef undef undef undef undef undef undef undef undef undef undef undef undef undef undef undef undef undef undef undef undef undef undef undef undef undef undef undef undef undef undef undef)
    refine quiet_pos (by kernel_rfl) (.pointer (some ⟨w.heap.size + 1, 5, none⟩)) (fun w' hc => ?_) ?_
    · exact ⟨rfl, rfl⟩
    change QW _ _ _ _ _ (kindA0 _ _ _ _ _ _ _ _ _ undef _ _ _ _ _ _ _ _ _ _ _ _ _ _ _ _ _ _ _ undef undef undef undef undef undef undef undef undef undef undef undef undef undef undef undef undef undef undef undef undef undef undef undef undef undef undef undef undef undef undef undef undef undef undef undef undef undef undef undef undef undef undef undef)
    refine quiet_pos (by kernel_rfl) (.int .i64 g.run) (fun w' hc => ?_) ?_
    · obtain ⟨hb0, ⟨q0, q1, q2, q3, q4, q5, q6⟩, ⟨q7, q8, q9, q10, q11, q12, q13⟩, q14, q15, q16, q17⟩ := hc
      unfold kindA0
      go_simp <;> exact ⟨rfl, rfl⟩
    change QW _ _ _ _ _ (kindA0 _ _ _ _ _ _ _ _ _ undef _ _ _ _ _ _ _ _ _ _ _ _ _ _ _ _ _ _ _ _ undef undef undef undef undef undef undef undef undef undef undef undef undef undef undef undef undef undef undef undef undef undef undef undef undef undef undef undef undef undef undef undef undef undef undef undef undef undef undef undef undef undef undef)
    refine quiet_pos (by kernel_rfl) (.int .i64 (f.rise * seenU f.side e * g.run)) (fun w' hc => ?_) ?_
    · obtain ⟨hb0, ⟨q0, q1, q2, q3, q4, q5, q6⟩, ⟨q7, q8, q9, q10, q11, q12, q13⟩, q14, q15, q16, q17⟩ := hc
      unfold kindA0
      go_simp <;> exact ⟨rfl, rfl⟩
    change QW _ _ _ _ _ (kindA0 _ _ _ _ _ _ _ _ _ undef _ _ _ _ _ _ _ _ _ _ _ _ _ _ _ _ _ _ _ _ _ undef undef undef undef undef undef undef undef undef undef undef undef undef undef undef undef undef undef undef undef undef undef undef undef undef undef undef undef undef undef undef undef undef undef undef undef undef undef undef undef undef undef)
    refine quiet_pos (by kernel_rfl) (.pointer (some ⟨w.heap.size + 1, 4, none⟩)) (fun w' hc => ?_) ?_
    · exact ⟨rfl, rfl⟩
    change QW _ _ _ _ _ (kindA0 _ _ _ _ _ _ _ _ _ undef _ _ _ _ _ _ _ _ _ _ _ _ _ _ _ _ _ _ _ _ _ _ undef undef undef undef undef undef undef undef undef undef undef undef undef undef undef undef undef undef undef undef undef undef undef undef undef undef undef undef undef undef undef undef undef undef undef undef undef undef undef undef undef)
    refine quiet_pos (by kernel_rfl) (.int .i64 g.rise) (fun w' hc => ?_) ?_
    · obtain ⟨hb0, ⟨q0, q1, q2, q3, q4, q5, q6⟩, ⟨q7, q8, q9, q10, q11, q12, q13⟩, q14, q15, q16, q17⟩ := hc
      unfold kindA0
      go_simp <;> exact ⟨rfl, rfl⟩
    change QW _ _ _ _ _ (kindA0 _ _ _ _ _ _ _ _ _ undef _ _ _ _ _ _ _ _ _ _ _ _ _ _ _ _ _ _ _ _ _ _ _ undef undef undef undef undef undef undef undef undef undef undef undef undef undef undef undef undef undef undef undef undef undef undef undef undef undef undef undef undef undef undef undef undef undef undef undef undef undef undef undef)
    refine quiet_pos (by kernel_rfl) (.agg #[.string g.name, .int .i64 g.side, .int .i64 g.foot, .int .i64 g.base, .int .i64 g.rise, .int .i64 g.run, .slice g.ca g.cs.length g.cc]) (fun w' hc => ?_) ?_
    · obtain ⟨hb0, ⟨q0, q1, q2, q3, q4, q5, q6⟩, ⟨q7, q8, q9, q10, q11, q12, q13⟩, q14, q15, q16, q17⟩ := hc
      unfold kindA0
      go_simp <;> exact ⟨rfl, rfl⟩
    change QW _ _ _ _ _ (kindA0 _ _ _ _ _ _ _ _ _ undef _ _ _ _ _ _ _ _ _ _ _ _ _ _ _ _ _ _ _ _ _ _ _ _ undef undef undef undef undef undef undef undef undef undef undef undef undef undef undef undef undef undef undef undef undef undef undef undef undef undef undef undef undef undef undef undef undef undef undef undef undef undef undef)
    refine quiet_pos (by kernel_rfl) (.agg #[.int .i64 e.a.x, .int .i64 e.a.y, .int .i64 e.b.x, .int .i64 e.b.y]) (fun w' hc => ?_) ?_
    · obtain ⟨hb0, ⟨q0, q1, q2, q3, q4, q5, q6⟩, ⟨q7, q8, q9, q10, q11, q12, q13⟩, q14, q15, q16, q17⟩ := hc
      unfold kindA0
      go_simp <;> exact ⟨rfl, rfl⟩
    change QW _ _ _ _ _ (kindA0 _ _ _ _ _ _ _ _ _ undef _ _ _ _ _ _ _ _ _ _ _ _ _ _ _ _ _ _ _ _ _ _ _ _ _ undef undef undef undef undef undef undef undef undef undef undef undef undef undef undef undef undef undef undef undef undef undef undef undef undef undef undef undef undef undef undef undef undef undef undef undef undef undef)
    refine quiet_pos (by kernel_rfl) (.agg #[.int .i64 e.b.x, .int .i64 e.b.y, .int .i64 e.a.x, .int .i64 e.a.y]) (fun w' hc => ?_) ?_
    · unfold kindA0
      go_simp
      refine (back_any _ _ _ _ _).mono ?_
      rintro r w3 ⟨rfl, hb3⟩; exact ⟨rfl, HeldK.step hc h3 hb3⟩
    change QW _ _ _ _ _ (kindA0 _ _ _ _ _ _ _ _ _ undef _ _ _ _ _ _ _ _ _ _ _ _ _ _ _ _ _ _ _ _ _ _ _ _ _ _ undef undef undef undef undef undef undef undef undef undef undef undef undef undef undef undef undef undef undef undef undef undef undef undef undef undef undef undef undef undef undef undef undef undef undef undef undef)
    refine quiet_pos (by kernel_rfl) (.agg #[.int .i64 (seenU g.side ⟨e.b, e.a⟩), .int .i64 (seenV g.side ⟨e.b, e.a⟩)]) (fun w' hc => ?_) ?_
    · unfold kindA0
      go_simp
      refine (seen_any g ⟨e.b, e.a⟩ hg.s1 hg.s4 ⟨he.2, he.1⟩ _).mono ?_
      rintro r w3 ⟨rfl, hb3⟩; exact ⟨rfl, HeldK.step hc h3 hb3⟩
    change QW _ _ _ _ _ (kindA0 _ _ _ _ _ _ _ _ _ undef _ _ _ _ _ _ _ _ _ _ _ _ _ _ _ _ _ _ _ _ _ _ _ _ _ _ _ undef undef undef undef undef undef undef undef undef undef undef undef undef undef undef undef undef undef undef undef undef undef undef undef undef undef undef undef undef undef undef undef undef undef undef undef)
    refine quiet_pos (by kernel_rfl) (.int .i64 (seenU g.side ⟨e.b, e.a⟩)) (fun w' hc => ?_) ?_
    · obtain ⟨hb0, ⟨q0, q1, q2, q3, q4, q5, q6⟩, ⟨q7, q8, q9, q10, q11, q12, q13⟩, q14, q15, q16, q17⟩ := hc
      unfold kindA0
      go_simp <;> exact ⟨rfl, rfl⟩
    change QW _ _ _ _ _ (kindA0 _ _ _ _ _ _ _ _ _ undef _ _ _ _ _ _ _ _ _ _ _ _ _ _ _ _ _ _ _ _ _ _ _ _ _ _ _ _ undef undef undef undef undef undef undef undef undef undef undef undef undef undef undef undef undef undef undef undef undef undef undef undef undef undef undef undef undef undef undef undef undef undef undef)
    refine quiet_pos (by kernel_rfl) (.int .i64 (g.rise * seenU g.side ⟨e.b, e.a⟩)) (fun w' hc => ?_) ?_
    · obtain ⟨hb0, ⟨q0, q1, q2, q3, q4, q5, q6⟩, ⟨q7, q8, q9, q10, q11, q12, q13⟩, q14, q15, q16, q17⟩ := hc
      unfold kindA0
      go_simp <;> exact ⟨rfl, rfl⟩
    change QW _ _ _ _ _ (kindA0 _ _ _ _ _ _ _ _ _ undef _ _ _ _ _ _ _ _ _ _ _ _ _ _ _ _ _ _ _ _ _ _ _ _ _ _ _ _ _ undef undef undef undef undef undef undef undef undef undef undef undef undef undef undef undef undef undef undef undef undef undef undef undef undef undef undef undef undef undef undef undef undef undef)
    refine quiet_pos (by kernel_rfl) (.pointer (some ⟨w.heap.size, 5, none⟩)) (fun w' hc => ?_) ?_
    · exact ⟨rfl, rfl⟩
    change QW _ _ _ _ _ (kindA0 _ _ _ _ _ _ _ _ _ undef _ _ _ _ _ _ _ _ _ _ _ _ _ _ _ _ _ _ _ _ _ _ _ _ _ _ _ _ _ _ undef undef undef undef undef undef undef undef undef undef undef undef undef undef undef undef undef undef undef undef undef undef undef undef undef undef undef undef undef undef undef undef undef)
    refine quiet_pos (by kernel_rfl) (.int .i64 f.run) (fun w' hc => ?_) ?_
    · obtain ⟨hb0, ⟨q0, q1, q2, q3, q4, q5, q6⟩, ⟨q7, q8, q9, q10, q11, q12, q13⟩, q14, q15, q16, q17⟩ := hc
      unfold kindA0
      go_simp <;> exact ⟨rfl, rfl⟩
    change QW _ _ _ _ _ (kindA0 _ _ _ _ _ _ _ _ _ undef _ _ _ _ _ _ _ _ _ _ _ _ _ _ _ _ _ _ _ _ _ _ _ _ _ _ _ _ _ _ _ undef undef undef undef undef undef undef undef undef undef undef undef undef undef undef undef undef undef undef undef undef undef undef undef undef undef undef undef undef undef undef undef)
    refine quiet_pos (by kernel_rfl) (.int .i64 (g.rise * seenU g.side ⟨e.b, e.a⟩ * f.run)) (fun w' hc => ?_) ?_
    · obtain ⟨hb0, ⟨q0, q1, q2, q3, q4, q5, q6⟩, ⟨q7, q8, q9, q10, q11, q12, q13⟩, q14, q15, q16, q17⟩ := hc
      unfold kindA0
      go_simp <;> exact ⟨rfl, rfl⟩
    change QW _ _ _ _ _ (kindA0 _ _ _ _ _ _ _ _ _ undef _ _ _ _ _ _ _ _ _ _ _ _ _ _ _ _ _ _ _ _ _ _ _ _ _ _ _ _ _ _ _ _ undef undef undef undef undef undef undef undef undef undef undef undef undef undef undef undef undef undef undef undef undef undef undef undef undef undef undef undef undef undef undef)
    refine quiet_pos (by kernel_rfl) (.int .i64 (sumB f g e)) (fun w' hc => ?_) ?_
    · obtain ⟨hb0, ⟨q0, q1, q2, q3, q4, q5, q6⟩, ⟨q7, q8, q9, q10, q11, q12, q13⟩, q14, q15, q16, q17⟩ := hc
      unfold kindA0
      go_simp <;> exact ⟨rfl, rfl⟩
    change QW _ _ _ _ _ (kindA0 _ _ _ _ _ _ _ _ _ undef _ _ _ _ _ _ _ _ _ _ _ _ _ _ _ _ _ _ _ _ _ _ _ _ _ _ _ _ _ _ _ _ _ undef undef undef undef undef undef undef undef undef undef undef undef undef undef undef undef undef undef undef undef undef undef undef undef undef undef undef undef undef undef)
    refine quiet_pos (by kernel_rfl) (.int .i64 (sgn (sumB f g e))) (fun w' hc => ?_) ?_
    · unfold kindA0
      go_simp
      refine (signOf_any _ _).mono ?_
      rintro r w3 ⟨rfl, rfl⟩; exact ⟨rfl, hc⟩
    change QW _ _ _ _ _ (kindA0 _ _ _ _ _ _ _ _ _ undef _ _ _ _ _ _ _ _ _ _ _ _ _ _ _ _ _ _ _ _ _ _ _ _ _ _ _ _ _ _ _ _ _ _ undef undef undef undef undef undef undef undef undef undef undef undef undef undef undef undef undef undef undef undef undef undef undef undef undef undef undef undef undef)
    refine quiet_pos (by kernel_rfl) (.int .i64 (sgn (sumB f g e))) (fun w' hc => ?_) ?_
    · obtain ⟨hb0, ⟨q0, q1, q2, q3, q4, q5, q6⟩, ⟨q7, q8, q9, q10, q11, q12, q13⟩, q14, q15, q16, q17⟩ := hc
      unfold kindA0
      go_simp <;> exact ⟨rfl, rfl⟩
    change QW _ _ _ _ _ (kindA0 _ _ _ _ _ _ _ _ _ _ _ _ _ _ _ _ _ _ _ _ _ _ _ _ _ _ _ _ _ _ _ _ _ _ _ _ _ _ _ _ _ _ _ _ undef undef undef undef undef undef undef undef undef undef undef undef undef undef undef undef undef undef undef undef undef undef undef undef undef undef undef undef undef)
    refine quiet_nil (fun w' hc => ?_)
    unfold kindA0
    obtain ⟨hb0, ⟨q0, q1, q2, q3, q4, q5, q6⟩, ⟨q7, q8, q9, q10, q11, q12, q13⟩, q14, q15, q16, q17⟩ := hc
    have hB5 := hB.trans (hb0.mono (by omega))
    have hsz5 := hb0.size
    clear w1' w2' w3' w4' w5' hx hb0 q7 q8 q9 q10 q11 q12 q13
    generalize sgn (sumB f g e) = S at *
    generalize sgn (seenU f.side e) = A at *
    generalize sgn (seenU g.side ⟨e.b, e.a⟩) = D at *
    by_cases hS : S = 0
    · have d0 : (S == 0) = true := by simp [hS]
      have hk : kindB f g e = 8 := by rw [HV.out]; simp [kindS, hS]
      have HK := Lib.hid hk
      clear hk HV
      go_wp2_with (first | (go_at_call 121; refine (zero_any _ _).mono ?_; rintro r w4 ⟨rfl, rfl⟩) | (go_at_call 69; refine (minus_any _ _).mono ?_; rintro r w4 ⟨rfl, rfl⟩) | (go_at_call 116; refine (plus_any _ _).mono ?_; rintro r w4 ⟨rfl, rfl⟩))
      go_ret
      exact ⟨by rw [HK.out]; rfl, hB5⟩
    have d0 : (S == 0) = false := by simp [hS]
    by_cases hA : A < 0
    · have d1 : decide (A < 0) = true := by simp [hA]
      have d2 : decide (0 < A) = false := by simp; omega
      by_cases hD : D < 0
      · have d3 : decide (D < 0) = true := by simp [hD]
        cases hL : seenV f.side e == 0 with
        | true =>
          have hk : kindB f g e = 5 := by rw [HV.out]; simp [kindS, hS, hA, hD, hL]
          have HK := Lib.hid hk
          clear hk HV
          go_wp2_with (first | (go_at_call 121; refine (zero_any _ _).mono ?_; rintro r w4 ⟨rfl, rfl⟩) | (go_at_call 69; refine (minus_any _ _).mono ?_; rintro r w4 ⟨rfl, rfl⟩) | (go_at_call 116; refine (plus_any _ _).mono ?_; rintro r w4 ⟨rfl, rfl⟩) | (go_at_call 122; refine (isLevel_any f e hf.s1 hf.s4 he _).mono ?_; rintro r w6 ⟨rfl, hb6⟩))
          go_ret
          exact ⟨by rw [HK.out]; rfl, hB5.trans (hb6.mono hB5.size)⟩
        | false =>
          have hk : kindB f g e = 6 := by rw [HV.out]; simp [kindS, hS, hA, hD, hL]
          have HK := Lib.hid hk
          clear hk HV
          go_wp2_with (first | (go_at_call 121; refine (zero_any _ _).mono ?_; rintro r w4 ⟨rfl, rfl⟩) | (go_at_call 69; refine (minus_any _ _).mono ?_; rintro r w4 ⟨rfl, rfl⟩) | (go_at_call 116; refine (plus_any _ _).mono ?_; rintro r w4 ⟨rfl, rfl⟩) | (go_at_call 122; refine (isLevel_any f e hf.s1 hf.s4 he _).mono ?_; rintro r w6 ⟨rfl, hb6⟩))
          go_ret
          exact ⟨by rw [HK.out]; rfl, hB5.trans (hb6.mono hB5.size)⟩
      · have d3 : decide (D < 0) = false := by simp; omega
        have hA2 : ¬ 0 < A := by omega
        have hk : kindB f g e = 9 := by rw [HV.out]; simp [kindS, hS, hA, hD, hA2]
        have HK := Lib.hid hk
        clear hk HV
        go_wp2_with (first | (go_at_call 121; refine (zero_any _ _).mono ?_; rintro r w4 ⟨rfl, rfl⟩) | (go_at_call 69; refine (minus_any _ _).mono ?_; rintro r w4 ⟨rfl, rfl⟩) | (go_at_call 116; refine (plus_any _ _).mono ?_; rintro r w4 ⟨rfl, rfl⟩))
        go_ret
        exact ⟨by rw [HK.out]; rfl, hB5⟩
    · have d1 : decide (A < 0) = false := by simp; omega
      by_cases hA2 : 0 < A
      · have d2 : decide (0 < A) = true := by simp [hA2]
        by_cases hD : 0 < D
        · have d3 : decide (0 < D) = true := by simp [hD]
          have hk : kindB f g e = 7 := by rw [HV.out]; simp [kindS, hS, hA, hA2, hD]
          have HK := Lib.hid hk
          clear hk HV
          go_wp2_with (first | (go_at_call 121; refine (zero_any _ _).mono ?_; rintro r w4 ⟨rfl, rfl⟩) | (go_at_call 69; refine (minus_any _ _).mono ?_; rintro r w4 ⟨rfl, rfl⟩) | (go_at_call 116; refine (plus_any _ _).mono ?_; rintro r w4 ⟨rfl, rfl⟩))
          go_ret
          exact ⟨by rw [HK.out]; rfl, hB5⟩
        · have d3 : decide (0 < D) = false := by simp; omega
          have hk : kindB f g e = 9 := by rw [HV.out]; simp [kindS, hS, hA, hA2, hD]
          have HK := Lib.hid hk
          clear hk HV
          go_wp2_with (first | (go_at_call 121; refine (zero_any _ _).mono ?_; rintro r w4 ⟨rfl, rfl⟩) | (go_at_call 69; refine (minus_any _ _).mono ?_; rintro r w4 ⟨rfl, rfl⟩) | (go_at_call 116; refine (plus_any _ _).mono ?_; rintro r w4 ⟨rfl, rfl⟩))
          go_ret
          exact ⟨by rw [HK.out]; rfl, hB5⟩
      · have d2 : decide (0 < A) = false := by simp; omega
        have hk : kindB f g e = 9 := by rw [HV.out]; simp [kindS, hS, hA, hA2]
        have HK := Lib.hid hk
        clear hk HV
        go_wp2_with (first | (go_at_call 121; refine (zero_any _ _).mono ?_; rintro r w4 ⟨rfl, rfl⟩) | (go_at_call 69; refine (minus_any _ _).mono ?_; rintro r w4 ⟨rfl, rfl⟩) | (go_at_call 116; refine (plus_any _ _).mono ?_; rintro r w4 ⟨rfl, rfl⟩))
        go_ret
        exact ⟨by rw [HK.out]; rfl, hB5⟩
end Go.Proofs.Ytpdgcajbdaleeaa
