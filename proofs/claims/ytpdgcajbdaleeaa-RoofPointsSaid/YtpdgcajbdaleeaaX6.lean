/- climb, isLevel, kindAlone. -/
import Derived.Test.YtpdgcajbdaleeaaX5
namespace Go.Proofs.Ytpdgcajbdaleeaa
open Go.RowKit

theorem climb_any (f : Fac) (e : Edg) (h1 : 1 ≤ f.side) (h4 : f.side ≤ 4) (he : e.ok) (w : World) :
    Calls Try.prog 120 #[.agg #[.string f.name, .int .i64 f.side, .int .i64 f.foot, .int .i64 f.base, .int .i64 f.rise, .int .i64 f.run, .slice f.ca f.cs.length f.cc], .agg #[.int .i64 e.a.x, .int .i64 e.a.y, .int .i64 e.b.x, .int .i64 e.b.y]] w fun r w' => r = .returned (.int .i64 (sgn (seenU f.side e))) ∧ Below w.heap.size w w' := by
  have hB : Below w.heap.size w ((w.alloc (.cells #[.string f.name, .int .i64 f.side, .int .i64 f.foot, .int .i64 f.base, .int .i64 f.rise, .int .i64 f.run, .slice f.ca f.cs.length f.cc] 72)).alloc (.cells #[.int .i64 e.a.x, .int .i64 e.a.y, .int .i64 e.b.x, .int .i64 e.b.y] 122)) := ((Below.refl _ _).alloc (Nat.le_refl _) _).alloc (by simp) _
  have hf0 := run_field0
  have hsz : ((w.alloc (.cells #[.string f.name, .int .i64 f.side, .int .i64 f.foot, .int .i64 f.base, .int .i64 f.rise, .int .i64 f.run, .slice f.ca f.cs.length f.cc] 72)).alloc (.cells #[.int .i64 e.a.x, .int .i64 e.a.y, .int .i64 e.b.x, .int .i64 e.b.y] 122)).heap.size = w.heap.size + 2 := by simp
  have HSZ := Lib.hid hsz
  clear hsz
  go_enter Try.func120, Try.ntmps120
  go_wp2_with fail
  refine (seen_any f e h1 h4 he _).mono ?_
  rintro r w1 ⟨rfl, hb1⟩
  go_wp2_with fail
  refine (signOf_any _ _).mono ?_
  rintro r w2 ⟨rfl, rfl⟩
  go_wp2_with fail
  go_ret
  exact ⟨rfl, hB.trans (hb1.mono (by rw [HSZ.out]; omega))⟩

theorem isLevel_any (f : Fac) (e : Edg) (h1 : 1 ≤ f.side) (h4 : f.side ≤ 4) (he : e.ok) (w : World) :
    Calls Try.prog 122 #[.agg #[.string f.name, .int .i64 f.side, .int .i64 f.foot, .int .i64 f.base, .int .i64 f.rise, .int .i64 f.run, .slice f.ca f.cs.length f.cc], .agg #[.int .i64 e.a.x, .int .i64 e.a.y, .int .i64 e.b.x, .int .i64 e.b.y]] w fun r w' => r = .returned (.bool (seenV f.side e == 0)) ∧ Below w.heap.size w w' := by
  have hB : Below w.heap.size w ((w.alloc (.cells #[.string f.name, .int .i64 f.side, .int .i64 f.foot, .int .i64 f.base, .int .i64 f.rise, .int .i64 f.run, .slice f.ca f.cs.length f.cc] 72)).alloc (.cells #[.int .i64 e.a.x, .int .i64 e.a.y, .int .i64 e.b.x, .int .i64 e.b.y] 122)) := ((Below.refl _ _).alloc (Nat.le_refl _) _).alloc (by simp) _
  have hf0 := run_field1
  have hsz : ((w.alloc (.cells #[.string f.name, .int .i64 f.side, .int .i64 f.foot, .int .i64 f.base, .int .i64 f.rise, .int .i64 f.run, .slice f.ca f.cs.length f.cc] 72)).alloc (.cells #[.int .i64 e.a.x, .int .i64 e.a.y, .int .i64 e.b.x, .int .i64 e.b.y] 122)).heap.size = w.heap.size + 2 := by simp
  have HSZ := Lib.hid hsz
  clear hsz
  go_enter Try.func122, Try.ntmps122
  go_wp2_with fail
  refine (seen_any f e h1 h4 he _).mono ?_
  rintro r w1 ⟨rfl, hb1⟩
  go_wp2_with fail
  go_ret
  exact ⟨rfl, hB.trans (hb1.mono (by rw [HSZ.out]; omega))⟩

/-- The kind of an edge without a face beside it. -/
def kindA (f : Fac) (e : Edg) : Int := if seenV f.side e == 0 then (if 0 < sgn (seenU f.side e) then 1 else 3) else 2

theorem edgF_on {W w' : World} {B D : Nat} {t t' : TypeId} {f : Fac} {e : Edg} (hb : Below W.heap.size W w') (h : Blk W B #[.string f.name, .int .i64 f.side, .int .i64 f.foot, .int .i64 f.base, .int .i64 f.rise, .int .i64 f.run, .slice f.ca f.cs.length f.cc] t)
    (h' : Blk W D #[.int .i64 e.a.x, .int .i64 e.a.y, .int .i64 e.b.x, .int .i64 e.b.y] t') :
    (w'.cell? ⟨B, 0, none⟩ = some (.string f.name) ∧ w'.cell? ⟨B, 1, none⟩ = some (.int .i64 f.side) ∧ w'.cell? ⟨B, 2, none⟩ = some (.int .i64 f.foot) ∧ w'.cell? ⟨B, 3, none⟩ = some (.int .i64 f.base) ∧ w'.cell? ⟨B, 4, none⟩ = some (.int .i64 f.rise) ∧ w'.cell? ⟨B, 5, none⟩ = some (.int .i64 f.run) ∧ w'.cell? ⟨B, 6, none⟩ = some (.slice f.ca f.cs.length f.cc)) ∧
    w'.cell? ⟨D, 0, none⟩ = some (.int .i64 e.a.x) ∧ w'.cell? ⟨D, 1, none⟩ = some (.int .i64 e.a.y) ∧ w'.cell? ⟨D, 2, none⟩ = some (.int .i64 e.b.x) ∧ w'.cell? ⟨D, 3, none⟩ = some (.int .i64 e.b.y) :=
  have k := h.belowS hb
  have k' := h'.belowS hb
  ⟨⟨k.cell 0, k.cell 1, k.cell 2, k.cell 3, k.cell 4, k.cell 5, k.cell 6⟩, k'.cell 0, k'.cell 1, k'.cell 2, k'.cell 3⟩

set_option maxHeartbeats 1000000 in
theorem kindAlone_any (f : Fac) (e : Edg) (h1 : 1 ≤ f.side) (h4 : f.side ≤ 4) (he : e.ok) (w : World) :
    Calls Try.prog 90 #[.agg #[.string f.name, .int .i64 f.side, .int .i64 f.foot, .int .i64 f.base, .int .i64 f.rise, .int .i64 f.run, .slice f.ca f.cs.length f.cc], .agg #[.int .i64 e.a.x, .int .i64 e.a.y, .int .i64 e.b.x, .int .i64 e.b.y]] w fun r w' => r = .returned (.int .i64 (kindA f e)) ∧ Below w.heap.size w w' := by
  have hB : Below w.heap.size w ((w.alloc (.cells #[.string f.name, .int .i64 f.side, .int .i64 f.foot, .int .i64 f.base, .int .i64 f.rise, .int .i64 f.run, .slice f.ca f.cs.length f.cc] 72)).alloc (.cells #[.int .i64 e.a.x, .int .i64 e.a.y, .int .i64 e.b.x, .int .i64 e.b.y] 122)) := ((Below.refl _ _).alloc (Nat.le_refl _) _).alloc (by simp) _
  have hsz : ((w.alloc (.cells #[.string f.name, .int .i64 f.side, .int .i64 f.foot, .int .i64 f.base, .int .i64 f.rise, .int .i64 f.run, .slice f.ca f.cs.length f.cc] 72)).alloc (.cells #[.int .i64 e.a.x, .int .i64 e.a.y, .int .i64 e.b.x, .int .i64 e.b.y] 122)).heap.size = w.heap.size + 2 := by simp
  have kF := (Blk.new w 72 #[.string f.name, .int .i64 f.side, .int .i64 f.foot, .int .i64 f.base, .int .i64 f.rise, .int .i64 f.run, .slice f.ca f.cs.length f.cc]).alloc (.cells #[.int .i64 e.a.x, .int .i64 e.a.y, .int .i64 e.b.x, .int .i64 e.b.y] 122)
  have kE := Blk.new (w.alloc (.cells #[.string f.name, .int .i64 f.side, .int .i64 f.foot, .int .i64 f.base, .int .i64 f.rise, .int .i64 f.run, .slice f.ca f.cs.length f.cc] 72)) 122 #[.int .i64 e.a.x, .int .i64 e.a.y, .int .i64 e.b.x, .int .i64 e.b.y]
  simp only [World.size_alloc] at kE
  have HSZ := Lib.hid hsz
  clear hsz
  go_enter Try.func90, Try.ntmps90
  go_wp2_with fail
  refine (isLevel_any f e h1 h4 he _).mono ?_
  rintro r w1 ⟨rfl, hb1⟩
  obtain ⟨⟨c0, c1, c2, c3, c4, c5, c6⟩, d0, d1, d2, d3⟩ := edgF_on hb1 kF kE
  have hB1 := hB.trans (hb1.mono (by rw [HSZ.out]; omega))
  clear kF kE hB hb1
  cases hv : seenV f.side e == 0 with
  | false =>
    have hk : kindA f e = 2 := by simp only [kindA, hv]; rfl
    have HK := Lib.hid hk
    clear hk hv
    go_wp2_with fail
    go_ret
    exact ⟨by rw [HK.out]; rfl, hB1⟩
  | true =>
    go_wp2_with fail
    refine (climb_any f e h1 h4 he _).mono ?_
    rintro r w2 ⟨rfl, hb2⟩
    have hB2 := hB1.trans (hb2.mono hB1.size)
    clear hB1 hb2
    go_wp2_with fail
    refine (plus_any _ _).mono ?_
    rintro r w3 ⟨rfl, rfl⟩
    by_cases hu : 0 < sgn (seenU f.side e)
    · have hk : kindA f e = 1 := by simp only [kindA, hv, hu, if_true]
      have hd : decide (0 < sgn (seenU f.side e)) = true := by simp [hu]
      have HK := Lib.hid hk
      clear hk hv hu
      rw [hd]
      go_wp2_with fail
      go_ret
      exact ⟨by rw [HK.out]; rfl, hB2⟩
    · have hk : kindA f e = 3 := by simp only [kindA, hv, hu, if_true, if_false]
      have hd : decide (0 < sgn (seenU f.side e)) = false := by simp [hu]
      have HK := Lib.hid hk
      clear hk hv hu
      rw [hd]
      go_wp2_with fail
      go_ret
      exact ⟨by rw [HK.out]; rfl, hB2⟩
end Go.Proofs.Ytpdgcajbdaleeaa
