/- The ways of water: compare, the direction of fall, leadsOut, isBelow, wayAt, waysOf, Ways; what a roof that may be says of them. -/
import Derived.Test.YtpheaomlphggfaaB2
import Derived.Test.YtpheaomlphggfaaX6
import Derived.Test.YtpheaomlphggfaaZA
import Derived.Test.YtpheaomlphggfaaX7
import Derived.Test.YtpheaomlphggfaaZT
import Derived.Deep.DeepCutAuto
import Derived.Deep.QuietTactic
import Derived.BigQuiet
import Derived.Test.YtpheaomlphggfaaB3
import Derived.Deep.AppendLies
/- Small functions of the ways of water: compare, leadsOut; the direction of fall. -/
namespace Go.Proofs.Ytpheaomlphggfaa
open Go.RowKit

theorem low_bd {n d m : Int} (hd : 0 < d) (hn : -m ≤ n) (hn' : n ≤ m) : (-m ≤ lowN n d ∧ lowN n d ≤ m) ∧ 1 ≤ lowD n d ∧ lowD n d ≤ d := by
  obtain ⟨a1, a2⟩ := low_back n d
  have g0 : (1 : Int) ≤ (Int.gcd n d : Int) := by
    have : Int.gcd n d ≠ 0 := fun h => by rw [Int.gcd_eq_zero_iff] at h; omega
    omega
  generalize lowN n d = A at *
  generalize lowD n d = B at *
  generalize (Int.gcd n d : Int) = g at *
  have hB : 1 ≤ B := by
    rcases Int.lt_or_le 0 B with k | k
    · omega
    · have := Int.mul_nonpos_of_nonpos_of_nonneg k (show 0 ≤ g by omega)
      omega
  refine ⟨⟨?_, ?_⟩, hB, ?_⟩
  · rcases Int.le_total 0 A with k | k
    · omega
    · have := Int.mul_nonneg (show 0 ≤ -A by omega) (show 0 ≤ g - 1 by omega)
      rw [Int.neg_mul, Int.mul_sub, Int.mul_one] at this
      omega
  · rcases Int.le_total 0 A with k | k
    · have := Int.mul_le_mul_of_nonneg_left g0 k
      omega
    · omega
  · have := Int.mul_le_mul_of_nonneg_left g0 (show 0 ≤ B by omega)
    omega

theorem hNum_bd {f : Fac} (hf : f.ok) {p : Pnt} (hp : p.ok) : -3000000 ≤ hNum f p ∧ hNum f p ≤ 3000000 := by
  obtain ⟨⟨a, b⟩, c, d⟩ := hp
  have v : -20000 ≤ ownV f.side p - ownV f.side ⟨f.foot, f.foot⟩ ∧ ownV f.side p - ownV f.side ⟨f.foot, f.foot⟩ ≤ 20000 := by
    have h0 := hf.f0
    have h1 := hf.f1
    unfold ownV
    (repeat' split) <;> simp only [] <;> omega
  have h1 := mul_bd (a := f.base) (b := f.run) (m := 10000) (n := 100) (by have := hf.b0; omega) hf.b1 (by have := hf.n0; omega) hf.n1
  have h2 := mul_bd (a := f.rise) (b := ownV f.side p - ownV f.side ⟨f.foot, f.foot⟩) (m := 100) (n := 20000) (by have := hf.r0; omega) hf.r1 v.1 v.2
  unfold hNum
  omega
theorem hgt_bd {f : Fac} (hf : f.ok) {p : Pnt} (hp : p.ok) : (-3000000 ≤ hgtN f p ∧ hgtN f p ≤ 3000000) ∧ 1 ≤ hgtD f p ∧ hgtD f p ≤ 100 := by
  obtain ⟨h1, h2⟩ := hNum_bd hf hp
  have n0 := hf.n0
  have n1 := hf.n1
  obtain ⟨k1, k2, k3⟩ := low_bd (n := hNum f p) (d := f.run) (m := 3000000) (by omega) h1 h2
  exact ⟨k1, k2, by unfold hgtD; omega⟩

theorem compare_any (a b c d : Int) (ha : -3000000 ≤ a) (ha' : a ≤ 3000000) (hb : 1 ≤ b) (hb' : b ≤ 100) (hc : -3000000 ≤ c) (hc' : c ≤ 3000000) (hd : 1 ≤ d) (hd' : d ≤ 100) (w : World) :
    Calls Try.prog 139 #[.agg #[.int .i64 a, .int .i64 b], .agg #[.int .i64 c, .int .i64 d]] w fun e w' => e = .returned (.int .i64 (sgn (a * d - c * b))) ∧ Below w.heap.size w w' := by
  have b1 := mul_bd (a := a) (b := d) (m := 3000000) (n := 100) (by omega) (by omega) (by omega) (by omega)
  have b2 := mul_bd (a := c) (b := b) (m := 3000000) (n := 100) (by omega) (by omega) (by omega) (by omega)
  go_enter Try.func139, Try.ntmps139
  go_wp2_with fail
  refine (signOf_any _ _).mono ?_
  rintro e w' ⟨rfl, rfl⟩
  go_wp2
  go_ret
  exact ⟨rfl, ((Below.refl _ _).alloc (Nat.le_refl _) _).alloc (by simp) _⟩

/-- The direction in which water runs down a face. -/
def fallP (s : Int) : Pnt := if s = 1 then ⟨0, -1⟩ else if s = 2 then ⟨1, 0⟩ else if s = 3 then ⟨0, 1⟩ else ⟨-1, 0⟩
theorem fall_seen (s : Int) (E : Edg) : (E.b.x - E.a.x) * (fallP s).y - (E.b.y - E.a.y) * (fallP s).x = - seenU s E := by
  unfold fallP seenU ownU
  (repeat' split) <;> simp only [] <;> omega

theorem fall_any (s : Int) (w : World) :
    Calls Try.prog 33 #[.int .i64 s] w fun e w' => e = .returned (.agg #[.int .i64 (fallP s).x, .int .i64 (fallP s).y]) ∧ Below w.heap.size w w' := by
  by_cases h1 : s = 1
  · subst h1
    go_enter Try.func33, Try.ntmps33
    go_wp2
    exact bodyPost_ret (v := .agg #[.int .i64 0, .int .i64 (-1)]) (by simp [results, Try.results33, go_sem]) rfl ⟨rfl, (Below.refl _ _).alloc (Nat.le_refl _) _⟩
  · by_cases h2 : s = 2
    · subst h2
      go_enter Try.func33, Try.ntmps33
      go_wp2
      exact bodyPost_ret (v := .agg #[.int .i64 1, .int .i64 0]) (by simp [results, Try.results33, go_sem]) rfl ⟨rfl, (Below.refl _ _).alloc (Nat.le_refl _) _⟩
    · by_cases h3 : s = 3
      · subst h3
        go_enter Try.func33, Try.ntmps33
        go_wp2
        exact bodyPost_ret (v := .agg #[.int .i64 0, .int .i64 1]) (by simp [results, Try.results33, go_sem]) rfl ⟨rfl, (Below.refl _ _).alloc (Nat.le_refl _) _⟩
      · have k1 : (s == 1) = false := by simpa using h1
        have k2 : (s == 2) = false := by simpa using h2
        have k3 : (s == 3) = false := by simpa using h3
        have hv : fallP s = ⟨-1, 0⟩ := by unfold fallP; rw [if_neg h1, if_neg h2, if_neg h3]
        rw [hv]
        clear h1 h2 h3 hv
        go_enter Try.func33, Try.ntmps33
        go_wp2
        exact bodyPost_ret (v := .agg #[.int .i64 (-1), .int .i64 0]) (by simp [results, Try.results33, go_sem]) rfl ⟨rfl, (Below.refl _ _).alloc (Nat.le_refl _) _⟩

/-- Going down at an edge leads out of the face. -/
def outB (f : Fac) (e : Edg) : Bool := decide (0 < sgn (seenU f.side e))
set_option maxHeartbeats 1000000 in
theorem leadsOut_any (f : Fac) (e : Edg) (h1 : 1 ≤ f.side) (h4 : f.side ≤ 4) (he : e.ok) (w : World) :
    Calls Try.prog 98 #[.agg #[.string f.name, .int .i64 f.side, .int .i64 f.foot, .int .i64 f.base, .int .i64 f.rise, .int .i64 f.run, .slice f.ca f.cs.length f.cc], .agg #[.int .i64 e.a.x, .int .i64 e.a.y, .int .i64 e.b.x, .int .i64 e.b.y]] w
      fun r w' => r = .returned (.bool (outB f e)) ∧ Below w.heap.size w w' := by
  have hB : Below w.heap.size w ((w.alloc (.cells #[.string f.name, .int .i64 f.side, .int .i64 f.foot, .int .i64 f.base, .int .i64 f.rise, .int .i64 f.run, .slice f.ca f.cs.length f.cc] 37)).alloc (.cells #[.int .i64 e.a.x, .int .i64 e.a.y, .int .i64 e.b.x, .int .i64 e.b.y] 122)) := ((Below.refl _ _).alloc (Nat.le_refl _) _).alloc (by simp) _
  go_enter Try.func98, Try.ntmps98
  go_wp2_with fail
  refine (climb_any f e h1 h4 he _).mono ?_
  rintro r w1 ⟨rfl, hb1⟩
  go_wp2_with fail
  refine (plus_any _ _).mono ?_
  rintro r w2 ⟨rfl, rfl⟩
  go_wp2_with fail
  go_ret
  exact ⟨rfl, hB.trans (hb1.mono hB.size)⟩

/-- The heights of two faces above a point, compared. -/
def cmpH (f g : Fac) (p : Pnt) : Int := hgtN f p * hgtD g p - hgtN g p * hgtD f p
theorem cmpH_any (f g : Fac) (p : Pnt) (hf : f.ok) (hg : g.ok) (hp : p.ok) (w : World) :
    Calls Try.prog 139 #[.agg #[.int .i64 (hgtN f p), .int .i64 (hgtD f p)], .agg #[.int .i64 (hgtN g p), .int .i64 (hgtD g p)]] w fun e w' => e = .returned (.int .i64 (sgn (cmpH f g p))) ∧ Below w.heap.size w w' :=
  compare_any _ _ _ _ (hgt_bd hf hp).1.1 (hgt_bd hf hp).1.2 (hgt_bd hf hp).2.1 (hgt_bd hf hp).2.2 (hgt_bd hg hp).1.1 (hgt_bd hg hp).1.2 (hgt_bd hg hp).2.1 (hgt_bd hg hp).2.2 w
def lowB (f g : Fac) (p : Pnt) : Bool := decide (sgn (cmpH f g p) < 0)
/-- A face is below another one at an end of their edge. -/
def belowB (f g : Fac) (e : Edg) : Bool := lowB f g e.a || lowB f g e.b
theorem lowB_iff {f g : Fac} {p : Pnt} : lowB f g p = true ↔ cmpH f g p < 0 := by
  unfold lowB sgn
  rw [decide_eq_true_eq]
  (repeat' split) <;> omega
end Go.Proofs.Ytpheaomlphggfaa
/- isBelow: whether a face is below another one at an end of their edge. -/
namespace Go.Proofs.Ytpheaomlphggfaa
open Go.RowKit

def belowA (x0 x1 x2 x3 x4 x5 x6 x7 x8 x9 x10 x11 x12 x13 x14 x15 x16 x17 x18 x19 x20 x21 x22 x23 x24 x25 x26 x27 x28 : Value) : Act := { tmps := #[x0, x1, x2, x3, x4, x5, x6, x7, x8, x9, x10, x11, x12, x13, x14, x15, x16, x17, x18, x19, x20, x21, x22, x23, x24, x25, x26, x27, x28], defers := [] }

set_option maxRecDepth 100000 in
set_option maxHeartbeats 4000000 in
theorem isBelow_any (f g : Fac) (e : Edg) (hf : f.ok) (hg : g.ok) (he : e.ok) (w : World) :
    Calls Try.prog 127 #[.agg #[.string f.name, .int .i64 f.side, .int .i64 f.foot, .int .i64 f.base, .int .i64 f.rise, .int .i64 f.run, .slice f.ca f.cs.length f.cc], .agg #[.string g.name, .int .i64 g.side, .int .i64 g.foot, .int .i64 g.base, .int .i64 g.rise, .int .i64 g.run, .slice g.ca g.cs.length g.cc], .agg #[.int .i64 e.a.x, .int .i64 e.a.y, .int .i64 e.b.x, .int .i64 e.b.y]] w fun r w' => r = .returned (.bool (belowB f g e)) ∧ Below w.heap.size w w' := by
  obtain ⟨ha, hb⟩ := he
  obtain ⟨hx0, hB, hsz⟩ := boxes_held w f g e
  generalize hW : boxes w f g e = W at hx0 hB hsz
  have HSZ := Lib.hid hsz
  have hx : HeldK W w.heap.size f g e W.drew := hx0.step (by omega) (Below.refl _ _).drew
  have h3 : w.heap.size + 2 < W.heap.size := by omega
  clear hx0 hsz
  cases h1 : decide (sgn (cmpH f g e.a) < 0) with
  | false =>
    have hv : belowB f g e = decide (sgn (cmpH f g e.b) < 0) := by unfold belowB lowB; rw [h1, Bool.false_or]
    have HV := Lib.hid hv
    have H1 := Lib.hid h1
    clear hv h1
    unfold boxes at hW
    go_enter Try.func127, Try.ntmps127
    go_wp2_with fail
    clear hW
    refine wp_region_quiet (C := fun w' => HeldK W w.heap.size f g e w') (by kernel_rfl) (by kernel_rfl) hx ?_
    refine QW.out ?_
    change QW _ _ _ _ _ (belowA _ _ _ _ _ _ _ undef undef undef undef undef undef undef undef undef undef undef undef undef undef undef undef undef undef undef undef undef undef)
    refine quiet_pos (by kernel_rfl) (.agg #[.string f.name, .int .i64 f.side, .int .i64 f.foot, .int .i64 f.base, .int .i64 f.rise, .int .i64 f.run, .slice f.ca f.cs.length f.cc]) (fun w' hc => ?_) ?_
    · obtain ⟨hb0, ⟨q0, q1, q2, q3, q4, q5, q6⟩, ⟨q7, q8, q9, q10, q11, q12, q13⟩, q14, q15, q16, q17⟩ := hc
      unfold belowA
      go_simp <;> exact ⟨rfl, rfl⟩
    change QW _ _ _ _ _ (belowA _ _ _ _ _ _ _ _ undef undef undef undef undef undef undef undef undef undef undef undef undef undef undef undef undef undef undef undef undef)
    refine quiet_pos (by kernel_rfl) (.pointer (some ⟨w.heap.size + 1 + 1, 0, none⟩)) (fun w' hc => ?_) ?_
    · exact ⟨rfl, rfl⟩
    change QW _ _ _ _ _ (belowA _ _ _ _ _ _ _ _ _ undef undef undef undef undef undef undef undef undef undef undef undef undef undef undef undef undef undef undef undef)
    refine quiet_pos (by kernel_rfl) (.agg #[.int .i64 e.a.x, .int .i64 e.a.y]) (fun w' hc => ?_) ?_
    · obtain ⟨hb0, ⟨q0, q1, q2, q3, q4, q5, q6⟩, ⟨q7, q8, q9, q10, q11, q12, q13⟩, q14, q15, q16, q17⟩ := hc
      unfold belowA
      go_simp <;> exact ⟨rfl, rfl⟩
    change QW _ _ _ _ _ (belowA _ _ _ _ _ _ _ _ _ _ undef undef undef undef undef undef undef undef undef undef undef undef undef undef undef undef undef undef undef)
    refine quiet_pos (by kernel_rfl) (.agg #[.int .i64 (hgtN f e.a), .int .i64 (hgtD f e.a)]) (fun w' hc => ?_) ?_
    · unfold belowA
      go_simp
      refine (heightAt_any f e.a hf ha _).mono ?_
      rintro r w3 ⟨rfl, hb3⟩; exact ⟨rfl, HeldK.step hc h3 hb3⟩
    change QW _ _ _ _ _ (belowA _ _ _ _ _ _ _ _ _ _ _ undef undef undef undef undef undef undef undef undef undef undef undef undef undef undef undef undef undef)
    refine quiet_pos (by kernel_rfl) (.agg #[.string g.name, .int .i64 g.side, .int .i64 g.foot, .int .i64 g.base, .int .i64 g.rise, .int .i64 g.run, .slice g.ca g.cs.length g.cc]) (fun w' hc => ?_) ?_
    · obtain ⟨hb0, ⟨q0, q1, q2, q3, q4, q5, q6⟩, ⟨q7, q8, q9, q10, q11, q12, q13⟩, q14, q15, q16, q17⟩ := hc
      unfold belowA
      go_simp <;> exact ⟨rfl, rfl⟩
    change QW _ _ _ _ _ (belowA _ _ _ _ _ _ _ _ _ _ _ _ undef undef undef undef undef undef undef undef undef undef undef undef undef undef undef undef undef)
    refine quiet_pos (by kernel_rfl) (.pointer (some ⟨w.heap.size + 1 + 1, 0, none⟩)) (fun w' hc => ?_) ?_
    · exact ⟨rfl, rfl⟩
    change QW _ _ _ _ _ (belowA _ _ _ _ _ _ _ _ _ _ _ _ _ undef undef undef undef undef undef undef undef undef undef undef undef undef undef undef undef)
    refine quiet_pos (by kernel_rfl) (.agg #[.int .i64 e.a.x, .int .i64 e.a.y]) (fun w' hc => ?_) ?_
    · obtain ⟨hb0, ⟨q0, q1, q2, q3, q4, q5, q6⟩, ⟨q7, q8, q9, q10, q11, q12, q13⟩, q14, q15, q16, q17⟩ := hc
      unfold belowA
      go_simp <;> exact ⟨rfl, rfl⟩
    change QW _ _ _ _ _ (belowA _ _ _ _ _ _ _ _ _ _ _ _ _ _ undef undef undef undef undef undef undef undef undef undef undef undef undef undef undef)
    refine quiet_pos (by kernel_rfl) (.agg #[.int .i64 (hgtN g e.a), .int .i64 (hgtD g e.a)]) (fun w' hc => ?_) ?_
    · unfold belowA
      go_simp
      refine (heightAt_any g e.a hg ha _).mono ?_
      rintro r w3 ⟨rfl, hb3⟩; exact ⟨rfl, HeldK.step hc h3 hb3⟩
    change QW _ _ _ _ _ (belowA _ _ _ _ _ _ _ _ _ _ _ _ _ _ _ undef undef undef undef undef undef undef undef undef undef undef undef undef undef)
    refine quiet_pos (by kernel_rfl) (.int .i64 (sgn (cmpH f g e.a))) (fun w' hc => ?_) ?_
    · unfold belowA
      go_simp
      refine (cmpH_any f g e.a hf hg ha _).mono ?_
      rintro r w3 ⟨rfl, hb3⟩; exact ⟨rfl, HeldK.step hc h3 hb3⟩
    change QW _ _ _ _ _ (belowA _ _ _ _ _ _ _ _ _ _ _ _ _ _ _ _ undef undef undef undef undef undef undef undef undef undef undef undef undef)
    refine quiet_pos (by kernel_rfl) (.bool false) (fun w' hc => ?_) ?_
    · unfold belowA
      go_simp
      refine (minus_any _ _).mono ?_
      rintro r w3 ⟨rfl, rfl⟩; exact ⟨by rw [H1.out], hc⟩
    change QW _ _ _ _ _ (belowA _ _ _ _ _ _ _ _ _ _ _ _ _ _ _ _ _ undef undef undef undef undef undef undef undef undef undef undef undef)
    refine quiet_pos (by kernel_rfl) (.bool false) (fun w' hc => ?_) ?_
    · obtain ⟨hb0, ⟨q0, q1, q2, q3, q4, q5, q6⟩, ⟨q7, q8, q9, q10, q11, q12, q13⟩, q14, q15, q16, q17⟩ := hc
      unfold belowA
      go_simp <;> exact ⟨rfl, rfl⟩
    change QW _ _ _ _ _ (belowA _ _ _ _ _ _ _ _ _ _ _ _ _ _ _ _ _ _ undef undef undef undef undef undef undef undef undef undef undef)
    refine quiet_pos (by kernel_rfl) (.agg #[.string f.name, .int .i64 f.side, .int .i64 f.foot, .int .i64 f.base, .int .i64 f.rise, .int .i64 f.run, .slice f.ca f.cs.length f.cc]) (fun w' hc => ?_) ?_
    · obtain ⟨hb0, ⟨q0, q1, q2, q3, q4, q5, q6⟩, ⟨q7, q8, q9, q10, q11, q12, q13⟩, q14, q15, q16, q17⟩ := hc
      unfold belowA
      go_simp <;> exact ⟨rfl, rfl⟩
    change QW _ _ _ _ _ (belowA _ _ _ _ _ _ _ _ _ _ _ _ _ _ _ _ _ _ _ undef undef undef undef undef undef undef undef undef undef)
    refine quiet_pos (by kernel_rfl) (.pointer (some ⟨w.heap.size + 1 + 1, 2, none⟩)) (fun w' hc => ?_) ?_
    · exact ⟨rfl, rfl⟩
    change QW _ _ _ _ _ (belowA _ _ _ _ _ _ _ _ _ _ _ _ _ _ _ _ _ _ _ _ undef undef undef undef undef undef undef undef undef)
    refine quiet_pos (by kernel_rfl) (.agg #[.int .i64 e.b.x, .int .i64 e.b.y]) (fun w' hc => ?_) ?_
    · obtain ⟨hb0, ⟨q0, q1, q2, q3, q4, q5, q6⟩, ⟨q7, q8, q9, q10, q11, q12, q13⟩, q14, q15, q16, q17⟩ := hc
      unfold belowA
      go_simp <;> exact ⟨rfl, rfl⟩
    change QW _ _ _ _ _ (belowA _ _ _ _ _ _ _ _ _ _ _ _ _ _ _ _ _ _ _ _ _ undef undef undef undef undef undef undef undef)
    refine quiet_pos (by kernel_rfl) (.agg #[.int .i64 (hgtN f e.b), .int .i64 (hgtD f e.b)]) (fun w' hc => ?_) ?_
    · unfold belowA
      go_simp
      refine (heightAt_any f e.b hf hb _).mono ?_
      rintro r w3 ⟨rfl, hb3⟩; exact ⟨rfl, HeldK.step hc h3 hb3⟩
    change QW _ _ _ _ _ (belowA _ _ _ _ _ _ _ _ _ _ _ _ _ _ _ _ _ _ _ _ _ _ undef undef undef undef undef undef undef)
    refine quiet_pos (by kernel_rfl) (.agg #[.string g.name, .int .i64 g.side, .int .i64 g.foot, .int .i64 g.base, .int .i64 g.rise, .int .i64 g.run, .slice g.ca g.cs.length g.cc]) (fun w' hc => ?_) ?_
    · obtain ⟨hb0, ⟨q0, q1, q2, q3, q4, q5, q6⟩, ⟨q7, q8, q9, q10, q11, q12, q13⟩, q14, q15, q16, q17⟩ := hc
      unfold belowA
      go_simp <;> exact ⟨rfl, rfl⟩
    change QW _ _ _ _ _ (belowA _ _ _ _ _ _ _ _ _ _ _ _ _ _ _ _ _ _ _ _ _ _ _ undef undef undef undef undef undef)
    refine quiet_pos (by kernel_rfl) (.pointer (some ⟨w.heap.size + 1 + 1, 2, none⟩)) (fun w' hc => ?_) ?_
    · exact ⟨rfl, rfl⟩
    change QW _ _ _ _ _ (belowA _ _ _ _ _ _ _ _ _ _ _ _ _ _ _ _ _ _ _ _ _ _ _ _ undef undef undef undef undef)
    refine quiet_pos (by kernel_rfl) (.agg #[.int .i64 e.b.x, .int .i64 e.b.y]) (fun w' hc => ?_) ?_
    · obtain ⟨hb0, ⟨q0, q1, q2, q3, q4, q5, q6⟩, ⟨q7, q8, q9, q10, q11, q12, q13⟩, q14, q15, q16, q17⟩ := hc
      unfold belowA
      go_simp <;> exact ⟨rfl, rfl⟩
    change QW _ _ _ _ _ (belowA _ _ _ _ _ _ _ _ _ _ _ _ _ _ _ _ _ _ _ _ _ _ _ _ _ undef undef undef undef)
    refine quiet_pos (by kernel_rfl) (.agg #[.int .i64 (hgtN g e.b), .int .i64 (hgtD g e.b)]) (fun w' hc => ?_) ?_
    · unfold belowA
      go_simp
      refine (heightAt_any g e.b hg hb _).mono ?_
      rintro r w3 ⟨rfl, hb3⟩; exact ⟨rfl, HeldK.step hc h3 hb3⟩
    change QW _ _ _ _ _ (belowA _ _ _ _ _ _ _ _ _ _ _ _ _ _ _ _ _ _ _ _ _ _ _ _ _ _ undef undef undef)
    refine quiet_pos (by kernel_rfl) (.int .i64 (sgn (cmpH f g e.b))) (fun w' hc => ?_) ?_
    · unfold belowA
      go_simp
      refine (cmpH_any f g e.b hf hg hb _).mono ?_
      rintro r w3 ⟨rfl, hb3⟩; exact ⟨rfl, HeldK.step hc h3 hb3⟩
    change QW _ _ _ _ _ (belowA _ _ _ _ _ _ _ _ _ _ _ _ _ _ _ _ _ _ _ _ _ _ _ _ _ _ _ undef undef)
    refine quiet_pos (by kernel_rfl) (.bool (decide (sgn (cmpH f g e.b) < 0))) (fun w' hc => ?_) ?_
    · unfold belowA
      go_simp
      refine (minus_any _ _).mono ?_
      rintro r w3 ⟨rfl, rfl⟩; exact ⟨rfl, hc⟩
    change QW _ _ _ _ _ (belowA _ _ _ _ _ _ _ _ _ _ _ _ _ _ _ _ _ _ _ _ _ _ _ _ _ _ _ _ undef)
    refine quiet_pos (by kernel_rfl) (.bool (decide (sgn (cmpH f g e.b) < 0))) (fun w' hc => ?_) ?_
    · obtain ⟨hb0, ⟨q0, q1, q2, q3, q4, q5, q6⟩, ⟨q7, q8, q9, q10, q11, q12, q13⟩, q14, q15, q16, q17⟩ := hc
      unfold belowA
      go_simp <;> exact ⟨rfl, rfl⟩
    change QW _ _ _ _ _ (belowA _ _ _ _ _ _ _ _ _ _ _ _ _ _ _ _ _ _ _ _ _ _ _ _ _ _ _ _ _)
    refine quiet_pos (by kernel_rfl) (.bool (decide (sgn (cmpH f g e.b) < 0))) (fun w' hc => ?_) ?_
    · obtain ⟨hb0, ⟨q0, q1, q2, q3, q4, q5, q6⟩, ⟨q7, q8, q9, q10, q11, q12, q13⟩, q14, q15, q16, q17⟩ := hc
      unfold belowA
      go_simp <;> exact ⟨rfl, rfl⟩
    change QW _ _ _ _ _ (belowA _ _ _ _ _ _ _ _ _ _ _ _ _ _ _ _ _ _ _ _ _ _ _ _ _ _ _ _ _)
    refine quiet_nil (fun w' hc => ?_)
    unfold belowA
    go_wp2_with fail
    go_ret
    exact ⟨by rw [HV.out]; rfl, hB.trans (hc.1.mono (by omega))⟩
  | true =>
    have hv : belowB f g e = true := by unfold belowB lowB; rw [h1, Bool.true_or]
    have HV := Lib.hid hv
    have H1 := Lib.hid h1
    clear hv h1
    unfold boxes at hW
    go_enter Try.func127, Try.ntmps127
    go_wp2_with fail
    clear hW
    refine wp_region_quiet (C := fun w' => HeldK W w.heap.size f g e w') (by kernel_rfl) (by kernel_rfl) hx ?_
    refine QW.out ?_
    change QW _ _ _ _ _ (belowA _ _ _ _ _ _ _ undef undef undef undef undef undef undef undef undef undef undef undef undef undef undef undef undef undef undef undef undef undef)
    refine quiet_pos (by kernel_rfl) (.agg #[.string f.name, .int .i64 f.side, .int .i64 f.foot, .int .i64 f.base, .int .i64 f.rise, .int .i64 f.run, .slice f.ca f.cs.length f.cc]) (fun w' hc => ?_) ?_
    · obtain ⟨hb0, ⟨q0, q1, q2, q3, q4, q5, q6⟩, ⟨q7, q8, q9, q10, q11, q12, q13⟩, q14, q15, q16, q17⟩ := hc
      unfold belowA
      go_simp <;> exact ⟨rfl, rfl⟩
    change QW _ _ _ _ _ (belowA _ _ _ _ _ _ _ _ undef undef undef undef undef undef undef undef undef undef undef undef undef undef undef undef undef undef undef undef undef)
    refine quiet_pos (by kernel_rfl) (.pointer (some ⟨w.heap.size + 1 + 1, 0, none⟩)) (fun w' hc => ?_) ?_
    · exact ⟨rfl, rfl⟩
    change QW _ _ _ _ _ (belowA _ _ _ _ _ _ _ _ _ undef undef undef undef undef undef undef undef undef undef undef undef undef undef undef undef undef undef undef undef)
    refine quiet_pos (by kernel_rfl) (.agg #[.int .i64 e.a.x, .int .i64 e.a.y]) (fun w' hc => ?_) ?_
    · obtain ⟨hb0, ⟨q0, q1, q2, q3, q4, q5, q6⟩, ⟨q7, q8, q9, q10, q11, q12, q13⟩, q14, q15, q16, q17⟩ := hc
      unfold belowA
      go_simp <;> exact ⟨rfl, rfl⟩
    change QW _ _ _ _ _ (belowA _ _ _ _ _ _ _ _ _ _ undef undef undef undef undef undef undef undef undef undef undef undef undef undef undef undef undef undef undef)
    refine quiet_pos (by kernel_rfl) (.agg #[.int .i64 (hgtN f e.a), .int .i64 (hgtD f e.a)]) (fun w' hc => ?_) ?_
    · unfold belowA
      go_simp
      refine (heightAt_any f e.a hf ha _).mono ?_
      rintro r w3 ⟨rfl, hb3⟩; exact ⟨rfl, HeldK.step hc h3 hb3⟩
    change QW _ _ _ _ _ (belowA _ _ _ _ _ _ _ _ _ _ _ undef undef undef undef undef undef undef undef undef undef undef undef undef undef undef undef undef undef)
    refine quiet_pos (by kernel_rfl) (.agg #[.string g.name, .int .i64 g.side, .int .i64 g.foot, .int .i64 g.base, .int .i64 g.rise, .int .i64 g.run, .slice g.ca g.cs.length g.cc]) (fun w' hc => ?_) ?_
    · obtain ⟨hb0, ⟨q0, q1, q2, q3, q4, q5, q6⟩, ⟨q7, q8, q9, q10, q11, q12, q13⟩, q14, q15, q16, q17⟩ := hc
      unfold belowA
      go_simp <;> exact ⟨rfl, rfl⟩
    change QW _ _ _ _ _ (belowA _ _ _ _ _ _ _ _ _ _ _ _ undef undef undef undef undef undef undef undef undef undef undef undef undef undef undef undef undef)
    refine quiet_pos (by kernel_rfl) (.pointer (some ⟨w.heap.size + 1 + 1, 0, none⟩)) (fun w' hc => ?_) ?_
    · exact ⟨rfl, rfl⟩
    change QW _ _ _ _ _ (belowA _ _ _ _ _ _ _ _ _ _ _ _ _ undef undef undef undef undef undef undef undef undef undef undef undef undef undef undef undef)
    refine quiet_pos (by kernel_rfl) (.agg #[.int .i64 e.a.x, .int .i64 e.a.y]) (fun w' hc => ?_) ?_
    · obtain ⟨hb0, ⟨q0, q1, q2, q3, q4, q5, q6⟩, ⟨q7, q8, q9, q10, q11, q12, q13⟩, q14, q15, q16, q17⟩ := hc
      unfold belowA
      go_simp <;> exact ⟨rfl, rfl⟩
    change QW _ _ _ _ _ (belowA _ _ _ _ _ _ _ _ _ _ _ _ _ _ undef undef undef undef undef undef undef undef undef undef undef undef undef undef undef)
    refine quiet_pos (by kernel_rfl) (.agg #[.int .i64 (hgtN g e.a), .int .i64 (hgtD g e.a)]) (fun w' hc => ?_) ?_
    · unfold belowA
      go_simp
      refine (heightAt_any g e.a hg ha _).mono ?_
      rintro r w3 ⟨rfl, hb3⟩; exact ⟨rfl, HeldK.step hc h3 hb3⟩
    change QW _ _ _ _ _ (belowA _ _ _ _ _ _ _ _ _ _ _ _ _ _ _ undef undef undef undef undef undef undef undef undef undef undef undef undef undef)
    refine quiet_pos (by kernel_rfl) (.int .i64 (sgn (cmpH f g e.a))) (fun w' hc => ?_) ?_
    · unfold belowA
      go_simp
      refine (cmpH_any f g e.a hf hg ha _).mono ?_
      rintro r w3 ⟨rfl, hb3⟩; exact ⟨rfl, HeldK.step hc h3 hb3⟩
    change QW _ _ _ _ _ (belowA _ _ _ _ _ _ _ _ _ _ _ _ _ _ _ _ undef undef undef undef undef undef undef undef undef undef undef undef undef)
    refine quiet_pos (by kernel_rfl) (.bool true) (fun w' hc => ?_) ?_
    · unfold belowA
      go_simp
      refine (minus_any _ _).mono ?_
      rintro r w3 ⟨rfl, rfl⟩; exact ⟨by rw [H1.out], hc⟩
    change QW _ _ _ _ _ (belowA _ _ _ _ _ _ _ _ _ _ _ _ _ _ _ _ _ undef undef undef undef undef undef undef undef undef undef undef undef)
    refine quiet_pos (by kernel_rfl) (.bool true) (fun w' hc => ?_) ?_
    · obtain ⟨hb0, ⟨q0, q1, q2, q3, q4, q5, q6⟩, ⟨q7, q8, q9, q10, q11, q12, q13⟩, q14, q15, q16, q17⟩ := hc
      unfold belowA
      go_simp <;> exact ⟨rfl, rfl⟩
    change QW _ _ _ _ _ (belowA _ _ _ _ _ _ _ _ _ _ _ _ _ _ _ _ _ _ undef undef undef undef undef undef undef undef undef undef undef)
    refine quiet_neg (by kernel_rfl) ?_
    change QW _ _ _ _ _ (belowA _ _ _ _ _ _ _ _ _ _ _ _ _ _ _ _ _ _ undef undef undef undef undef undef undef undef undef undef undef)
    refine quiet_neg (by kernel_rfl) ?_
    change QW _ _ _ _ _ (belowA _ _ _ _ _ _ _ _ _ _ _ _ _ _ _ _ _ _ undef undef undef undef undef undef undef undef undef undef undef)
    refine quiet_neg (by kernel_rfl) ?_
    change QW _ _ _ _ _ (belowA _ _ _ _ _ _ _ _ _ _ _ _ _ _ _ _ _ _ undef undef undef undef undef undef undef undef undef undef undef)
    refine quiet_neg (by kernel_rfl) ?_
    change QW _ _ _ _ _ (belowA _ _ _ _ _ _ _ _ _ _ _ _ _ _ _ _ _ _ undef undef undef undef undef undef undef undef undef undef undef)
    refine quiet_neg (by kernel_rfl) ?_
    change QW _ _ _ _ _ (belowA _ _ _ _ _ _ _ _ _ _ _ _ _ _ _ _ _ _ undef undef undef undef undef undef undef undef undef undef undef)
    refine quiet_neg (by kernel_rfl) ?_
    change QW _ _ _ _ _ (belowA _ _ _ _ _ _ _ _ _ _ _ _ _ _ _ _ _ _ undef undef undef undef undef undef undef undef undef undef undef)
    refine quiet_neg (by kernel_rfl) ?_
    change QW _ _ _ _ _ (belowA _ _ _ _ _ _ _ _ _ _ _ _ _ _ _ _ _ _ undef undef undef undef undef undef undef undef undef undef undef)
    refine quiet_neg (by kernel_rfl) ?_
    change QW _ _ _ _ _ (belowA _ _ _ _ _ _ _ _ _ _ _ _ _ _ _ _ _ _ undef undef undef undef undef undef undef undef undef undef undef)
    refine quiet_neg (by kernel_rfl) ?_
    change QW _ _ _ _ _ (belowA _ _ _ _ _ _ _ _ _ _ _ _ _ _ _ _ _ _ undef undef undef undef undef undef undef undef undef undef undef)
    refine quiet_neg (by kernel_rfl) ?_
    change QW _ _ _ _ _ (belowA _ _ _ _ _ _ _ _ _ _ _ _ _ _ _ _ _ _ undef undef undef undef undef undef undef undef undef undef undef)
    refine quiet_pos (by kernel_rfl) (.bool true) (fun w' hc => ?_) ?_
    · obtain ⟨hb0, ⟨q0, q1, q2, q3, q4, q5, q6⟩, ⟨q7, q8, q9, q10, q11, q12, q13⟩, q14, q15, q16, q17⟩ := hc
      unfold belowA
      go_simp <;> exact ⟨rfl, rfl⟩
    change QW _ _ _ _ _ (belowA _ _ _ _ _ _ _ _ _ _ _ _ _ _ _ _ _ _ undef undef undef undef undef undef undef undef undef undef _)
    refine quiet_pos (by kernel_rfl) (.bool true) (fun w' hc => ?_) ?_
    · obtain ⟨hb0, ⟨q0, q1, q2, q3, q4, q5, q6⟩, ⟨q7, q8, q9, q10, q11, q12, q13⟩, q14, q15, q16, q17⟩ := hc
      unfold belowA
      go_simp <;> exact ⟨rfl, rfl⟩
    change QW _ _ _ _ _ (belowA _ _ _ _ _ _ _ _ _ _ _ _ _ _ _ _ _ _ undef undef undef undef undef undef undef undef undef undef _)
    refine quiet_nil (fun w' hc => ?_)
    unfold belowA
    go_wp2_with fail
    go_ret
    exact ⟨by rw [HV.out]; rfl, hB.trans (hc.1.mono (by omega))⟩
end Go.Proofs.Ytpheaomlphggfaa
/- wayAt: where water goes that comes to an edge. -/
namespace Go.Proofs.Ytpheaomlphggfaa
open Go.RowKit

theorem bel_allocW {w w' : World} (h : Below w.heap.size w w') (o : Obj) : Below w.heap.size w (w'.alloc o) := h.alloc h.size o
theorem bel_callW {w w' w2 : World} (h : Below w.heap.size w w') (hb : Below w'.heap.size w' w2) : Below w.heap.size w w2 := h.trans (hb.mono h.size)
theorem bel_drewW {w w' : World} (h : Below w.heap.size w w') : Below w.heap.size w w'.drew := h.drew
/-- The kind of the way at an edge that has a face beside it. -/
def wayB (f g : Fac) (e : Edg) (K : Int) : Int := if K = 4 ∧ belowB f g e = true then 4 else if K = 7 then (if seenV f.side e = 0 then 4 else 3) else 2

set_option maxRecDepth 100000 in
set_option maxHeartbeats 4000000 in
theorem wayOff_any (R : Roo) (i k K xa : Int) (j : Nat) (f : Fac) (e : Edg) (hi : i = j) (hf : R.fs[j]? = some f) (w : World) (hR : IsRoof w R) :
    Calls Try.prog 99 #[.agg #[.slice R.fa R.fs.length R.fc, .slice R.oa R.os.length R.oc], .agg #[.int .i64 i, .int .i64 k, .int .i64 K, .int .i64 (-1), .int .i64 xa], .agg #[.int .i64 e.a.x, .int .i64 e.a.y, .int .i64 e.b.x, .int .i64 e.b.y]] w
      fun r w' => r = .returned (.int .i64 1) ∧ Below w.heap.size w w' := by
  subst hi
  obtain ⟨fa, fc, fs, oa, oc, os⟩ := R
  simp only [] at hf ⊢
  have hjl := (List.getElem?_eq_some_iff.1 hf).1
  obtain ⟨b, off, e1, h2, h3, h4, hfa, hfin⟩ := hR.face hf
  simp only [] at e1 h3 h4
  subst e1
  have hB : Below w.heap.size w (((w.alloc (.cells #[.slice (some ⟨b, off, none⟩) fs.length fc, .slice oa os.length oc] 25)).alloc (.cells #[.int .i64 (j : Int), .int .i64 k, .int .i64 K, .int .i64 (-1), .int .i64 xa] 51)).alloc (.cells #[.int .i64 e.a.x, .int .i64 e.a.y, .int .i64 e.b.x, .int .i64 e.b.y] 122)) := (((Below.refl _ _).alloc (Nat.le_refl _) _).alloc (by simp) _).alloc (by simp; omega) _
  obtain ⟨d0, d1, d2, d3, d4, d5, d6⟩ := hfa.below hB h2
  have hj0 : (0 : Int) ≤ (j : Int) := Int.natCast_nonneg _
  have hj1 : (j : Int) < (fs.length : Int) := by omega
  have hB3 : Below w.heap.size w ((((w.alloc (.cells #[.slice (some ⟨b, off, none⟩) fs.length fc, .slice oa os.length oc] 25)).alloc (.cells #[.int .i64 (j : Int), .int .i64 k, .int .i64 K, .int .i64 (-1), .int .i64 xa] 51)).alloc (.cells #[.int .i64 e.a.x, .int .i64 e.a.y, .int .i64 e.b.x, .int .i64 e.b.y] 122)).alloc (.cells #[.string f.name, .int .i64 f.side, .int .i64 f.foot, .int .i64 f.base, .int .i64 f.rise, .int .i64 f.run, .slice f.ca f.cs.length f.cc] 37)) := hB.alloc hB.size _
  clear hR hfin hf hfa
  go_enter Try.func99, Try.ntmps99
  go_wp2_with fail
  go_ret
  exact ⟨rfl, hB3⟩

/-- The cells that the test for a step reads. -/
abbrev HeldW (W : World) (B b o : Nat) (s : Value) (K m : Int) (e : Edg) (f g : Fac) (w : World) : Prop := Below W.heap.size W w ∧ ((w.cell? ⟨B, 0, none⟩ = some s ∧ w.cell? ⟨B + 1, 2, none⟩ = some (.int .i64 K) ∧ w.cell? ⟨B + 1, 3, none⟩ = some (.int .i64 m)) ∧ (w.cell? ⟨B + 1 + 1, 0, none⟩ = some (.int .i64 e.a.x) ∧ w.cell? ⟨B + 1 + 1, 1, none⟩ = some (.int .i64 e.a.y) ∧ w.cell? ⟨B + 1 + 1, 2, none⟩ = some (.int .i64 e.b.x) ∧ w.cell? ⟨B + 1 + 1, 3, none⟩ = some (.int .i64 e.b.y)) ∧ (w.cell? ⟨B + 1 + 1 + 1, 0, none⟩ = some (.string f.name) ∧ w.cell? ⟨B + 1 + 1 + 1, 1, none⟩ = some (.int .i64 f.side) ∧ w.cell? ⟨B + 1 + 1 + 1, 2, none⟩ = some (.int .i64 f.foot) ∧ w.cell? ⟨B + 1 + 1 + 1, 3, none⟩ = some (.int .i64 f.base) ∧ w.cell? ⟨B + 1 + 1 + 1, 4, none⟩ = some (.int .i64 f.rise) ∧ w.cell? ⟨B + 1 + 1 + 1, 5, none⟩ = some (.int .i64 f.run) ∧ w.cell? ⟨B + 1 + 1 + 1, 6, none⟩ = some (.slice f.ca f.cs.length f.cc)) ∧ (w.cell? ⟨b, o, none⟩ = some (.string g.name) ∧ w.cell? ⟨b, o + 1, none⟩ = some (.int .i64 g.side) ∧ w.cell? ⟨b, o + 2, none⟩ = some (.int .i64 g.foot) ∧ w.cell? ⟨b, o + 3, none⟩ = some (.int .i64 g.base) ∧ w.cell? ⟨b, o + 4, none⟩ = some (.int .i64 g.rise) ∧ w.cell? ⟨b, o + 5, none⟩ = some (.int .i64 g.run) ∧ w.cell? ⟨b, o + 6, none⟩ = some (.slice g.ca g.cs.length g.cc)))
theorem HeldW.step {W w' : World} {B b o : Nat} {s : Value} {K m : Int} {e : Edg} {f g : Fac} (h : HeldW W B b o s K m e f g W) (hB : B + 3 < W.heap.size) (hb : b < W.heap.size) (hbe : Below W.heap.size W w') : HeldW W B b o s K m e f g w' := by
  have c : ∀ b i v, W.cell? ⟨b, i, none⟩ = some v → b < W.heap.size → w'.cell? ⟨b, i, none⟩ = some v := fun b i v hv hb' => (hbe.cell (p := ⟨b, i, none⟩) hb').trans hv
  have l0 : B < W.heap.size := by omega
  have l1 : B + 1 < W.heap.size := by omega
  have l2 : B + 1 + 1 < W.heap.size := by omega
  have l3 : B + 1 + 1 + 1 < W.heap.size := by omega
  obtain ⟨_, ⟨r0, x2, x3⟩, ⟨e0, e1, e2, e3⟩, ⟨f0, f1, f2, f3, f4, f5, f6⟩, g0, g1, g2, g3, g4, g5, g6⟩ := h
  exact ⟨hbe, ⟨c _ _ _ r0 l0, c _ _ _ x2 l1, c _ _ _ x3 l1⟩, ⟨c _ _ _ e0 l2, c _ _ _ e1 l2, c _ _ _ e2 l2, c _ _ _ e3 l2⟩, ⟨c _ _ _ f0 l3, c _ _ _ f1 l3, c _ _ _ f2 l3, c _ _ _ f3 l3, c _ _ _ f4 l3, c _ _ _ f5 l3, c _ _ _ f6 l3⟩,
    c _ _ _ g0 hb, c _ _ _ g1 hb, c _ _ _ g2 hb, c _ _ _ g3 hb, c _ _ _ g4 hb, c _ _ _ g5 hb, c _ _ _ g6 hb⟩

set_option maxRecDepth 100000 in
set_option maxHeartbeats 8000000 in
theorem wayOn_any (R : Roo) (i k K mm xa : Int) (j m : Nat) (f g : Fac) (e : Edg) (hi : i = j) (hmm : mm = m) (hf : R.fs[j]? = some f) (hg : R.fs[m]? = some g) (hfo : f.ok) (hgo : g.ok) (he : e.ok) (w : World) (hR : IsRoof w R) :
    Calls Try.prog 99 #[.agg #[.slice R.fa R.fs.length R.fc, .slice R.oa R.os.length R.oc], .agg #[.int .i64 i, .int .i64 k, .int .i64 K, .int .i64 mm, .int .i64 xa], .agg #[.int .i64 e.a.x, .int .i64 e.a.y, .int .i64 e.b.x, .int .i64 e.b.y]] w
      fun r w' => r = .returned (.int .i64 (wayB f g e K)) ∧ Below w.heap.size w w' := by
  subst hi hmm
  obtain ⟨fa, fc, fs, oa, oc, os⟩ := R
  simp only [] at hf hg ⊢
  have hjl := (List.getElem?_eq_some_iff.1 hf).1
  have hml := (List.getElem?_eq_some_iff.1 hg).1
  obtain ⟨b, off, e1, h2, h3, h4, hfa, _⟩ := hR.face hf
  simp only [] at e1 h3 h4
  subst e1
  obtain ⟨b', off', e1, _, _, _, hga, _⟩ := hR.face hg
  simp only [Option.some.injEq, Addr.mk.injEq, and_true] at e1
  obtain ⟨rfl, rfl⟩ := e1
  have hB : Below w.heap.size w ((((w.alloc (.cells #[.slice (some ⟨b, off, none⟩) fs.length fc, .slice oa os.length oc] 25)).alloc (.cells #[.int .i64 (j : Int), .int .i64 k, .int .i64 K, .int .i64 (m : Int), .int .i64 xa] 51)).alloc (.cells #[.int .i64 e.a.x, .int .i64 e.a.y, .int .i64 e.b.x, .int .i64 e.b.y] 122)).alloc (.cells #[.string f.name, .int .i64 f.side, .int .i64 f.foot, .int .i64 f.base, .int .i64 f.rise, .int .i64 f.run, .slice f.ca f.cs.length f.cc] 37)) := ((((Below.refl _ _).alloc (Nat.le_refl _) _).alloc (by simp) _).alloc (by simp; omega) _).alloc (by simp; omega) _
  have kR := (((Blk.new w 25 #[.slice (some ⟨b, off, none⟩) fs.length fc, .slice oa os.length oc]).alloc (.cells #[.int .i64 (j : Int), .int .i64 k, .int .i64 K, .int .i64 (m : Int), .int .i64 xa] 51)).alloc (.cells #[.int .i64 e.a.x, .int .i64 e.a.y, .int .i64 e.b.x, .int .i64 e.b.y] 122)).alloc (.cells #[.string f.name, .int .i64 f.side, .int .i64 f.foot, .int .i64 f.base, .int .i64 f.rise, .int .i64 f.run, .slice f.ca f.cs.length f.cc] 37)
  have kX := ((Blk.new (w.alloc (.cells #[.slice (some ⟨b, off, none⟩) fs.length fc, .slice oa os.length oc] 25)) 51 #[.int .i64 (j : Int), .int .i64 k, .int .i64 K, .int .i64 (m : Int), .int .i64 xa]).alloc (.cells #[.int .i64 e.a.x, .int .i64 e.a.y, .int .i64 e.b.x, .int .i64 e.b.y] 122)).alloc (.cells #[.string f.name, .int .i64 f.side, .int .i64 f.foot, .int .i64 f.base, .int .i64 f.rise, .int .i64 f.run, .slice f.ca f.cs.length f.cc] 37)
  have kE := (Blk.new ((w.alloc (.cells #[.slice (some ⟨b, off, none⟩) fs.length fc, .slice oa os.length oc] 25)).alloc (.cells #[.int .i64 (j : Int), .int .i64 k, .int .i64 K, .int .i64 (m : Int), .int .i64 xa] 51)) 122 #[.int .i64 e.a.x, .int .i64 e.a.y, .int .i64 e.b.x, .int .i64 e.b.y]).alloc (.cells #[.string f.name, .int .i64 f.side, .int .i64 f.foot, .int .i64 f.base, .int .i64 f.rise, .int .i64 f.run, .slice f.ca f.cs.length f.cc] 37)
  have kF := Blk.new (((w.alloc (.cells #[.slice (some ⟨b, off, none⟩) fs.length fc, .slice oa os.length oc] 25)).alloc (.cells #[.int .i64 (j : Int), .int .i64 k, .int .i64 K, .int .i64 (m : Int), .int .i64 xa] 51)).alloc (.cells #[.int .i64 e.a.x, .int .i64 e.a.y, .int .i64 e.b.x, .int .i64 e.b.y] 122)) 37 #[.string f.name, .int .i64 f.side, .int .i64 f.foot, .int .i64 f.base, .int .i64 f.rise, .int .i64 f.run, .slice f.ca f.cs.length f.cc]
  simp only [World.size_alloc] at kX kE kF
  have hB0 : Below w.heap.size w (((w.alloc (.cells #[.slice (some ⟨b, off, none⟩) fs.length fc, .slice oa os.length oc] 25)).alloc (.cells #[.int .i64 (j : Int), .int .i64 k, .int .i64 K, .int .i64 (m : Int), .int .i64 xa] 51)).alloc (.cells #[.int .i64 e.a.x, .int .i64 e.a.y, .int .i64 e.b.x, .int .i64 e.b.y] 122)) := (((Below.refl _ _).alloc (Nat.le_refl _) _).alloc (by simp) _).alloc (by simp; omega) _
  obtain ⟨d0, d1, d2, d3, d4, d5, d6⟩ := hfa.below hB0 h2
  have hg4 := hga.below hB h2
  have hj0 : (0 : Int) ≤ (j : Int) := Int.natCast_nonneg _
  have hj1 : (j : Int) < (fs.length : Int) := by omega
  have hm0 : (0 : Int) ≤ (m : Int) := Int.natCast_nonneg _
  have hm1 : (m : Int) < (fs.length : Int) := by omega
  have HG4 := Lib.hid hg4
  clear hR hf hg hga hg4 hB0 hfa
  go_enter Try.func99, Try.ntmps99
  go_upto_region 5 with fail
  have hsz : ((((w.alloc (.cells #[.slice (some ⟨b, off, none⟩) fs.length fc, .slice oa os.length oc] 25)).alloc (.cells #[.int .i64 (j : Int), .int .i64 k, .int .i64 K, .int .i64 (m : Int), .int .i64 xa] 51)).alloc (.cells #[.int .i64 e.a.x, .int .i64 e.a.y, .int .i64 e.b.x, .int .i64 e.b.y] 122)).alloc (.cells #[.string f.name, .int .i64 f.side, .int .i64 f.foot, .int .i64 f.base, .int .i64 f.rise, .int .i64 f.run, .slice f.ca f.cs.length f.cc] 37)).heap.size = w.heap.size + 4 := by simp
  generalize hW : ((((w.alloc (.cells #[.slice (some ⟨b, off, none⟩) fs.length fc, .slice oa os.length oc] 25)).alloc (.cells #[.int .i64 (j : Int), .int .i64 k, .int .i64 K, .int .i64 (m : Int), .int .i64 xa] 51)).alloc (.cells #[.int .i64 e.a.x, .int .i64 e.a.y, .int .i64 e.b.x, .int .i64 e.b.y] 122)).alloc (.cells #[.string f.name, .int .i64 f.side, .int .i64 f.foot, .int .i64 f.base, .int .i64 f.rise, .int .i64 f.run, .slice f.ca f.cs.length f.cc] 37)) = W at *
  have hx : HeldW W w.heap.size b (off + m * 7) (.slice (some ⟨b, off, none⟩) fs.length fc) K (m : Int) e f g W :=
    ⟨Below.refl _ _, ⟨kR.cell 0, kX.cell 2, kX.cell 3⟩, ⟨kE.cell 0, kE.cell 1, kE.cell 2, kE.cell 3⟩, ⟨kF.cell 0, kF.cell 1, kF.cell 2, kF.cell 3, kF.cell 4, kF.cell 5, kF.cell 6⟩, HG4.out⟩
  have x2 := kX.cell 2
  have x3 := kX.cell 3
  simp only [List.getElem?_toArray, List.getElem?_cons_zero, List.getElem?_cons_succ] at x2 x3
  have lB : w.heap.size + 3 < W.heap.size := by omega
  have lb : b < W.heap.size := by omega
  clear hW d0 d1 d2 d3 d4 d5 d6
  by_cases h4 : K = 4
  · have k4 : (K == 4) = true := by rw [h4]; rfl
    have k7 : (K == 7) = false := by rw [h4]; rfl
    have hv : wayB f g e K = if belowB f g e = true then 4 else 2 := by
      unfold wayB
      cases belowB f g e with
      | true => rw [if_pos ⟨h4, rfl⟩]; rfl
      | false => rw [if_neg (by simp), if_neg (by omega)]; rfl
    have HV := Lib.hid hv
    clear h4 hv
    go_region_held3 (fun w' => Below W.heap.size W w' ∧ ((w'.cell? ⟨w.heap.size, 0, none⟩ = some (.slice (some ⟨b, off, none⟩) fs.length fc) ∧ w'.cell? ⟨w.heap.size + 1, 2, none⟩ = some (.int .i64 K) ∧ w'.cell? ⟨w.heap.size + 1, 3, none⟩ = some (.int .i64 (m : Int))) ∧ (w'.cell? ⟨w.heap.size + 1 + 1, 0, none⟩ = some (.int .i64 e.a.x) ∧ w'.cell? ⟨w.heap.size + 1 + 1, 1, none⟩ = some (.int .i64 e.a.y) ∧ w'.cell? ⟨w.heap.size + 1 + 1, 2, none⟩ = some (.int .i64 e.b.x) ∧ w'.cell? ⟨w.heap.size + 1 + 1, 3, none⟩ = some (.int .i64 e.b.y)) ∧ (w'.cell? ⟨w.heap.size + 1 + 1 + 1, 0, none⟩ = some (.string f.name) ∧ w'.cell? ⟨w.heap.size + 1 + 1 + 1, 1, none⟩ = some (.int .i64 f.side) ∧ w'.cell? ⟨w.heap.size + 1 + 1 + 1, 2, none⟩ = some (.int .i64 f.foot) ∧ w'.cell? ⟨w.heap.size + 1 + 1 + 1, 3, none⟩ = some (.int .i64 f.base) ∧ w'.cell? ⟨w.heap.size + 1 + 1 + 1, 4, none⟩ = some (.int .i64 f.rise) ∧ w'.cell? ⟨w.heap.size + 1 + 1 + 1, 5, none⟩ = some (.int .i64 f.run) ∧ w'.cell? ⟨w.heap.size + 1 + 1 + 1, 6, none⟩ = some (.slice f.ca f.cs.length f.cc)) ∧ (w'.cell? ⟨b, off + m * 7, none⟩ = some (.string g.name) ∧ w'.cell? ⟨b, off + m * 7 + 1, none⟩ = some (.int .i64 g.side) ∧ w'.cell? ⟨b, off + m * 7 + 2, none⟩ = some (.int .i64 g.foot) ∧ w'.cell? ⟨b, off + m * 7 + 3, none⟩ = some (.int .i64 g.base) ∧ w'.cell? ⟨b, off + m * 7 + 4, none⟩ = some (.int .i64 g.rise) ∧ w'.cell? ⟨b, off + m * 7 + 5, none⟩ = some (.int .i64 g.run) ∧ w'.cell? ⟨b, off + m * 7 + 6, none⟩ = some (.slice g.ca g.cs.length g.cc))))
      ((refine HeldW.step hx lB lb ?_; repeat (first | (with_reducible exact Below.refl _ _) | (with_reducible refine bel_allocW ?_ _) | (with_reducible refine bel_drewW ?_) | (with_reducible refine bel_callW ?_ hb4))))
      (first | (go_at_call 127; (with_reducible refine (isBelow_any f g e hfo hgo he _).mono ?_); rintro r w4 ⟨rfl, hb4⟩))
    all_goals
      have hb5 := (‹Below W.heap.size W w4 ∧ _›).1
      have x2' := (hb5.cell (p := ⟨w.heap.size + 1, 2, none⟩) (by show w.heap.size + 1 < _; omega)).trans x2
      rename_i hHeld
      clear hHeld
      cases hbb : belowB f g e
      all_goals
        have HBB := Lib.hid hbb
        clear hbb
        go_wp2_with fail
        go_ret
        exact ⟨by rw [HV.out, HBB.out]; rfl, hB.trans (hb5.mono hB.size)⟩
  · have k4 : (K == 4) = false := by simpa using h4
    by_cases h7 : K = 7
    · have k7 : (K == 7) = true := by rw [h7]; rfl
      have hv : wayB f g e K = if seenV f.side e = 0 then 4 else 3 := by
        unfold wayB
        rw [if_neg (fun h => h4 h.1), if_pos h7]
      have HV := Lib.hid hv
      clear h4 h7 hv
      have y0 := kF.cell 0
      have y1 := kF.cell 1
      have y2 := kF.cell 2
      have y3 := kF.cell 3
      have y4 := kF.cell 4
      have y5 := kF.cell 5
      have y6 := kF.cell 6
      have v0 := kE.cell 0
      have v1 := kE.cell 1
      have v2 := kE.cell 2
      have v3 := kE.cell 3
      simp only [List.getElem?_toArray, List.getElem?_cons_zero, List.getElem?_cons_succ] at y0 y1 y2 y3 y4 y5 y6 v0 v1 v2 v3
      clear hx
      go_quiet (fail)
      go_wp2_with fail
      refine (isLevel_any f e hfo.s1 hfo.s4 he _).mono ?_
      rintro r w5 ⟨rfl, hb6⟩
      have hb56 : Below W.heap.size W w5 := Below.trans (below_drewN _ _ _) (hb6.mono (Nat.le_refl _))
      have x2' := (hb56.cell (p := ⟨w.heap.size + 1, 2, none⟩) (by show w.heap.size + 1 < _; omega)).trans x2
      have hB6 := hB.trans (hb56.mono hB.size)
      by_cases hs : seenV f.side e = 0
      · have hsb : (seenV f.side e == 0) = true := by rw [hs]; rfl
        rw [hsb]
        have HS := Lib.hid hs
        clear hs hsb y0 y1 y2 y3 y4 y5 y6 v0 v1 v2 v3 x2 x3 hb6 hb56
        go_wp2_with fail
        go_ret
        exact ⟨by rw [HV.out, if_pos HS.out]; rfl, hB6⟩
      · have hsb : (seenV f.side e == 0) = false := by simpa using hs
        rw [hsb]
        have HS := Lib.hid hs
        clear hs hsb y0 y1 y2 y3 y4 y5 y6 v0 v1 v2 v3 x2 x3 hb6 hb56
        go_wp2_with fail
        go_ret
        exact ⟨by rw [HV.out, if_neg HS.out]; rfl, hB6⟩
    · have k7 : (K == 7) = false := by simpa using h7
      have hv : wayB f g e K = 2 := by
        unfold wayB
        rw [if_neg (fun h => h4 h.1), if_neg h7]
      have HV := Lib.hid hv
      clear h4 h7 hv
      clear hx
      go_quiet (fail)
      go_wp2_with fail
      go_ret
      exact ⟨by rw [HV.out]; rfl, hB.trans ((below_drewN W.heap.size W _).mono hB.size)⟩
end Go.Proofs.Ytpheaomlphggfaa
/- waysOf: the ways of water. -/
namespace Go.Proofs.Ytpheaomlphggfaa
open Go.RowKit

/-- A way as it is told. -/
structure WyR where
  face : Int
  edge : Int
  kind : Int
def cellsW (x : WyR) : List Value := [.int .i64 x.face, .int .i64 x.edge, .int .i64 x.kind]
def rowsW (l : List WyR) : List Value := l.flatMap cellsW
theorem rowsW_snoc (l : List WyR) (x : WyR) : rowsW (l ++ [x]) = rowsW l ++ cellsW x := by simp [rowsW]
/-- Where water goes at an edge. -/
def kindW (fs : List Fac) (f : Fac) (e : Edg) (x : EdR) : Int := if x.wth < 0 then 1 else match fs[x.wth.toNat]? with | some g => wayB f g e x.kind | none => 0
def wayOf (fs : List Fac) (x : EdR) : Option WyR := match fs[x.face.toNat]? with
  | some f => if outB f (edgN f.cs x.number.toNat) = true then some ⟨x.face, x.number, kindW fs f (edgN f.cs x.number.toNat) x⟩ else none
  | none => none
def waysL (fs : List Fac) (l : List EdR) : List WyR := l.filterMap (wayOf fs)
theorem waysL_succ {fs : List Fac} {l : List EdR} {t : Nat} {x : EdR} (h : l[t]? = some x) : waysL fs (l.take (t + 1)) = waysL fs (l.take t) ++ (wayOf fs x).toList := by
  unfold waysL
  rw [List.take_add_one, h, List.filterMap_append]
  congr 1
theorem waysL_le (fs : List Fac) (l : List EdR) : (waysL fs l).length ≤ l.length := List.length_filterMap_le ..

theorem Try.info_way : (Try.prog.info? 81).map (fun i => (i.zero, i.size, i.bytes)) = some (some (.agg #[.int .i64 0, .int .i64 0, .int .i64 0]), 3, 24) := by kernel_rfl

/-- The edge that begins at a corner, of a list of points in memory. -/
theorem edgeAt_is (a : Option Addr) (cap i : Nat) (l : List Pnt) (w : World) (hi : i < l.length) (hl : l.length ≤ 1000) (h : IsPts w (.slice a l.length cap) l) :
    Calls Try.prog 97 #[.slice a l.length cap, .int .i64 i] w fun r w' =>
      r = .returned (.agg #[.int .i64 (edgN l i).a.x, .int .i64 (edgN l i).a.y, .int .i64 (edgN l i).b.x, .int .i64 (edgN l i).b.y]) ∧ Below w.heap.size w w' := by
  rcases h with ⟨_, hn⟩ | ⟨b, off, c, h1, h2, h3, h4, h5⟩
  · rw [hn] at hi; simp at hi
  · obtain ⟨rfl, _, rfl⟩ := slice_inj h1
    exact edgeAt_pts b off cap i l w hi hl h5

/-- wayAt at an edge of the list. -/
theorem wayAt_is (R : Roo) (hE : checkE R = 0) (i k : Nat) (f : Fac) (hf : R.fs[i]? = some f) (hk : k < f.cs.length) (w : World) (hR : IsRoof w R) :
    Calls Try.prog 99 #[.agg #[.slice R.fa R.fs.length R.fc, .slice R.oa R.os.length R.oc], .agg #[.int .i64 i, .int .i64 k, .int .i64 (edgR R.fs i f k).kind, .int .i64 (edgR R.fs i f k).wth, .int .i64 (edgR R.fs i f k).at_],
      .agg #[.int .i64 (edgN f.cs k).a.x, .int .i64 (edgN f.cs k).a.y, .int .i64 (edgN f.cs k).b.x, .int .i64 (edgN f.cs k).b.y]] w
      fun r w' => r = .returned (.int .i64 (kindW R.fs f (edgN f.cs k) (edgR R.fs i f k))) ∧ Below w.heap.size w w' := by
  rcases edge_facts hE hf hk with h | ⟨b, m, g, h, h1, h2, _⟩
  · rw [h]
    exact wayOff_any R i k _ _ i f _ rfl hf w hR
  · rw [h]
    have hv : kindW R.fs f (edgN f.cs k) ⟨i, k, kindB f g (edgN f.cs k), (b : Nat), (m : Nat)⟩ = wayB f g (edgN f.cs k) (kindB f g (edgN f.cs k)) := by
      unfold kindW
      simp only []
      rw [if_neg (by omega), Int.toNat_natCast, h1]
    rw [hv]
    exact wayOn_any R i k _ _ _ i b f g _ rfl rfl hf h1 (checkE_ok hE f (List.mem_of_getElem? hf)) (checkE_ok hE g (List.mem_of_getElem? h1)) (edgN_ok ((checkE_faces hE).2 f (List.mem_of_getElem? hf)).1 k) w hR

/-- The cells that the last statement of a round reads. -/
abbrev HeldY (B X E : Nat) (s0 s1 : Value) (x : EdR) (e : Edg) (w : World) : Prop :=
  (w.cell? ⟨B, 0, none⟩ = some s0 ∧ w.cell? ⟨B, 1, none⟩ = some s1) ∧ (w.cell? ⟨X, 0, none⟩ = some (.int .i64 x.face) ∧ w.cell? ⟨X, 1, none⟩ = some (.int .i64 x.number) ∧ w.cell? ⟨X, 2, none⟩ = some (.int .i64 x.kind) ∧
    w.cell? ⟨X, 3, none⟩ = some (.int .i64 x.wth) ∧ w.cell? ⟨X, 4, none⟩ = some (.int .i64 x.at_)) ∧
  (w.cell? ⟨E, 0, none⟩ = some (.int .i64 e.a.x) ∧ w.cell? ⟨E, 1, none⟩ = some (.int .i64 e.a.y) ∧ w.cell? ⟨E, 2, none⟩ = some (.int .i64 e.b.x) ∧ w.cell? ⟨E, 3, none⟩ = some (.int .i64 e.b.y))
theorem HeldY.step {w w' : World} {B X E : Nat} {s0 s1 : Value} {x : EdR} {e : Edg} (h : HeldY B X E s0 s1 x e w) (hb : Below w.heap.size w w') : HeldY B X E s0 s1 x e w' := by
  have c : ∀ b i v, w.cell? ⟨b, i, none⟩ = some v → w'.cell? ⟨b, i, none⟩ = some v := fun b i v hv => (hb.cell (p := ⟨b, i, none⟩) (World.block_lt_of_cell? _ _ hv)).trans hv
  obtain ⟨⟨r0, r1⟩, ⟨x0, x1, x2, x3, x4⟩, e0, e1, e2, e3⟩ := h
  exact ⟨⟨c _ _ _ r0, c _ _ _ r1⟩, ⟨c _ _ _ x0, c _ _ _ x1, c _ _ _ x2, c _ _ _ x3, c _ _ _ x4⟩, c _ _ _ e0, c _ _ _ e1, c _ _ _ e2, c _ _ _ e3⟩
theorem HeldY.grow {w w' : World} {row : Option Nat} {B X E : Nat} {s0 s1 : Value} {x : EdR} {e : Edg} (h : HeldY B X E s0 s1 x e w) (hg : w.grownBy w' row) (hB : some B ≠ row) (hX : some X ≠ row) (hE : some E ≠ row) : HeldY B X E s0 s1 x e w' := by
  have c : ∀ b i v, some b ≠ row → w.cell? ⟨b, i, none⟩ = some v → w'.cell? ⟨b, i, none⟩ = some v := fun b i v hr hv => (World.cell?_of_block (w := w) (a := ⟨b, i, none⟩) (hg.block b (World.block_lt_of_cell? _ _ hv) hr)).trans hv
  obtain ⟨⟨r0, r1⟩, ⟨x0, x1, x2, x3, x4⟩, e0, e1, e2, e3⟩ := h
  exact ⟨⟨c _ _ _ hB r0, c _ _ _ hB r1⟩, ⟨c _ _ _ hX x0, c _ _ _ hX x1, c _ _ _ hX x2, c _ _ _ hX x3, c _ _ _ hX x4⟩, c _ _ _ hE e0, c _ _ _ hE e1, c _ _ _ hE e2, c _ _ _ hE e3⟩

set_option maxRecDepth 100000 in
set_option maxHeartbeats 8000000 in
theorem waysOf_any (R : Roo) (w : World) (hR : IsRoof w R) (hE : checkE R = 0) :
    Calls Try.prog 61 #[.agg #[.slice R.fa R.fs.length R.fc, .slice R.oa R.os.length R.oc]] w fun e w' => ∃ v, e = .returned v ∧
      w'.ownsRow w.heap.size 81 3 v (waysL R.fs (allR R.fs R.fs.length)).length (rowsW (waysL R.fs (allR R.fs R.fs.length))) ∧ Below w.heap.size w w' := by
  obtain ⟨i0, hi, hz0, hz1, hz2⟩ := info_parts Try.info_way
  have hedges := edgesOf_any R
  have hway := wayAt_is R hE
  have hlf := (checkE_faces hE).1
  have hokf := (checkE_faces hE).2
  have hokF := checkE_ok hE
  obtain ⟨fa, fc, fs, oa, oc, os⟩ := R
  simp only [] at hedges hway hlf hokf hokF ⊢
  have hB : Below w.heap.size w (w.alloc (.cells #[.slice fa fs.length fc, .slice oa os.length oc] 25)) := (Below.refl _ _).alloc (Nat.le_refl _) _
  have kR := Blk.new w 25 #[.slice fa fs.length fc, .slice oa os.length oc]
  have HED := Lib.hid hedges
  have HWY := Lib.hid hway
  have HOK := Lib.hid hokf
  have HOF := Lib.hid hokF
  have HR := Lib.hid hR
  clear hR hedges hway hE hokf hokF
  go_enter Try.func61, Try.ntmps61
  go_wp2_with fail
  refine (HED.out _ (HR.out.below hB) hlf HOK.out HOF.out).mono ?_
  rintro e w2 ⟨v, rfl, hrow, hb2⟩
  have heds := isEds_of hrow
  have hlen := allR_len (fs := fs) (fun f hf => (HOK.out f hf).2) fs.length
  have hB2 := hB.trans (hb2.mono hB.size)
  have kR2 := kR.belowS hb2
  clear kR hB hb2 hrow
  obtain ⟨la, lcap, rfl, hn1, hn2, hn3⟩ := heds.shape
  have HN3 := Lib.hid hn3
  have hN : (allR fs fs.length).length = (allR fs fs.length).length := rfl
  generalize hNN : (allR fs fs.length).length = N at hN hn1 hlen ⊢
  have HNN := Lib.hid hNN
  clear hn3 hN hNN heds
  have lR := kR2.lt
  go_wp2_with fail
  go_loopw [3, 11, 5, 6, 7] (fun v i _ _ _ wr => ∃ t : Nat, t ≤ N ∧ i = .int .i64 t ∧ wr.ownsRow w2.heap.size 81 3 v (waysL fs ((allR fs fs.length).take t)).length (rowsW (waysL fs ((allR fs fs.length).take t))) ∧ Below w2.heap.size w2 wr) (fun _ i _ _ _ _ => N - (intOf i).toNat)
  case atStart => exact ⟨0, Nat.zero_le _, rfl, World.ownsRow_nil _ _ _ _, Below.refl _ _⟩
  case round =>
    obtain ⟨t, ht, rfl, hown, g2⟩ := hrel
    have HOWN := Lib.hid hown
    clear hown
    have hB3 := hB2.trans (g2.mono hB2.size)
    by_cases hlt : t < N
    · obtain ⟨x, hx⟩ : ∃ x, (allR fs fs.length)[t]? = some x := ⟨_, List.getElem?_eq_getElem (by have := HNN.out; omega)⟩
      obtain ⟨i, F, k, hil, hq, hkl, rfl, htt⟩ := allR_of (Nat.le_refl _) t x hx
      obtain ⟨g, rfl, hgl, hed⟩ := HN3.out t _ hx
      obtain ⟨e0, e1, e2, e3, e4⟩ := hed.below g2 hgl
      have hsu := waysL_succ (fs := fs) hx
      have hle := waysL_le fs ((allR fs fs.length).take t)
      rw [List.length_take] at hle
      have hwo : wayOf fs (edgR fs i F k) = if outB F (edgN F.cs k) = true then some ⟨i, k, kindW fs F (edgN F.cs k) (edgR fs i F k)⟩ else none := by
        unfold wayOf
        rw [edgR_face, edgR_number, Int.toNat_natCast, Int.toNat_natCast, hq]
      rw [hwo] at hsu
      have hfc := edgR_face fs i F k
      have hnb := edgR_number fs i F k
      have hwf := fun w' hr' => HWY.out i k F hq hkl w' hr'
      rw [edgR_face] at e0
      rw [edgR_number] at e1
      have ht0 : (0 : Int) ≤ (t : Int) := Int.natCast_nonneg _
      have ht1 : (t : Int) < (N : Int) := by omega
      have hi0 : (0 : Int) ≤ (i : Int) := Int.natCast_nonneg _
      have hi1 : (i : Int) < (fs.length : Int) := by omega
      obtain ⟨fb, fo, rfl, f2, f3, f4, hfaF, hfinF⟩ := (HR.out.below hB3).face hq
      simp only [] at f3 f4
      have hclF := (HOK.out F (List.mem_of_getElem? hq)).2
      have hokE := edgN_ok (HOK.out F (List.mem_of_getElem? hq)).1 k
      have hFok := HOF.out F (List.mem_of_getElem? hq)
      generalize kindW fs F (edgN F.cs k) (edgR fs i F k) = KW at *
      generalize edgR fs i F k = x at *
      have HSU := Lib.hid hsu
      have HWF := Lib.hid hwf
      have HIF := Lib.hid hfinF
      have HOE := Lib.hid hokE
      have hs1 := hFok.s1
      have hs4 := hFok.s4
      have kR3 := kR2.belowS g2
      have lR3 := kR3.lt
      have c0 := kR3.cell 0
      have c1 := kR3.cell 1
      simp only [List.getElem?_toArray, List.getElem?_cons_zero, List.getElem?_cons_succ] at c0 c1
      have hbx : Below wr.heap.size wr (wr.alloc (.cells #[.int .i64 i, .int .i64 k, .int .i64 x.kind, .int .i64 x.wth, .int .i64 x.at_] 51)) := (Below.refl _ _).alloc (Nat.le_refl _) _
      obtain ⟨d0, d1, d2, d3, d4, d5, d6⟩ := hfaF.below hbx f2
      clear hx hed hsu hwo hwf hfinF hokE hFok htt hfaF hq
      go_wp2_with fail
      have hbf : Below wr.heap.size wr ((wr.alloc (.cells #[.int .i64 i, .int .i64 k, .int .i64 x.kind, .int .i64 x.wth, .int .i64 x.at_] 51)).alloc (.cells #[.string F.name, .int .i64 F.side, .int .i64 F.foot, .int .i64 F.base, .int .i64 F.rise, .int .i64 F.run, .slice F.ca F.cs.length F.cc] 37)) := hbx.alloc hbx.size _
      have kF := Blk.new (wr.alloc (.cells #[.int .i64 i, .int .i64 k, .int .i64 x.kind, .int .i64 x.wth, .int .i64 x.at_] 51)) 37 #[.string F.name, .int .i64 F.side, .int .i64 F.foot, .int .i64 F.base, .int .i64 F.rise, .int .i64 F.run, .slice F.ca F.cs.length F.cc]
      have kX := (Blk.new wr 51 #[.int .i64 i, .int .i64 k, .int .i64 x.kind, .int .i64 x.wth, .int .i64 x.at_]).alloc (.cells #[.string F.name, .int .i64 F.side, .int .i64 F.foot, .int .i64 F.base, .int .i64 F.rise, .int .i64 F.run, .slice F.ca F.cs.length F.cc] 37)
      simp only [World.size_alloc] at kF
      refine (edgeAt_is F.ca F.cc k F.cs _ hkl hclF (HIF.out.1.below hbf)).mono ?_
      rintro e w5 ⟨rfl, hb5⟩
      have hb5' := hbf.trans (hb5.mono hbf.size)
      have kF5 := kF.belowS hb5
      have kX5 := kX.belowS hb5
      have hokE := HOE.out
      generalize edgN F.cs k = E at *
      have kE6 := Blk.new w5 122 #[.int .i64 E.a.x, .int .i64 E.a.y, .int .i64 E.b.x, .int .i64 E.b.y]
      have hb6' : Below wr.heap.size wr (w5.alloc (.cells #[.int .i64 E.a.x, .int .i64 E.a.y, .int .i64 E.b.x, .int .i64 E.b.y] 122)) := hb5'.alloc hb5'.size _
      have kX6 := kX5.alloc (.cells #[.int .i64 E.a.x, .int .i64 E.a.y, .int .i64 E.b.x, .int .i64 E.b.y] 122)
      have y0 := kF5.cell 0
      have y1 := kF5.cell 1
      have y2 := kF5.cell 2
      have y3 := kF5.cell 3
      have y4 := kF5.cell 4
      have y5 := kF5.cell 5
      have y6 := kF5.cell 6
      have ly := kF5.lt
      have lw5 : wr.heap.size + 1 < w5.heap.size := kF5.lt
      simp only [List.getElem?_toArray, List.getElem?_cons_zero, List.getElem?_cons_succ] at y0 y1 y2 y3 y4 y5 y6
      have HOE2 := Lib.hid hokE
      clear hokE kF kX hb5 kX5 hbf hbx d0 d1 d2 d3 d4 d5 d6 c0 c1 e0 e1 e2 e3 e4
      go_wp2_with fail
      refine (leadsOut_any F E hs1 hs4 HOE2.out _).mono ?_
      rintro r w6 ⟨rfl, hb6⟩
      have hb7' := hb6'.trans (hb6.mono hb6'.size)
      have kX7 := kX6.belowS hb6
      have kE7 := kE6.belowS hb6
      have kR7 := kR3.belowS hb7'
      have hown7 := ownsRow_below HOWN.out hb7'
      have HOW7 := Lib.hid hown7
      clear y0 y1 y2 y3 y4 y5 y6 ly hb6 hb6' kX6 kE6 kF5 hb5' hown7
      cases hob : outB F E with
      | false =>
        have hsu := HSU.out
        rw [hob, if_neg (by simp)] at hsu
        simp only [Option.toList_none, List.append_nil] at hsu
        have HS2 := Lib.hid hsu
        clear hob hsu
        go_wp2_with fail
        refine ⟨⟨t + 1, by omega, by simp, ?_, g2.trans (hb7'.mono g2.size)⟩, by simp [intOf]; omega⟩
        rw [HS2.out]
        exact HOW7.out
      | true =>
        have hsu := HSU.out
        rw [hob, if_pos rfl] at hsu
        have HS2 := Lib.hid hsu
        clear hob hsu
        generalize hn : (waysL fs ((allR fs fs.length).take t)).length = n at *
        generalize hxs : rowsW (waysL fs ((allR fs fs.length).take t)) = xs at *
        have HN := Lib.hid hn
        have HXS := Lib.hid hxs
        clear hn hxs
        have hx : HeldY w.heap.size wr.heap.size w5.heap.size (.slice (some ⟨fb, fo, none⟩) fs.length fc) (.slice oa os.length oc) ⟨i, k, x.kind, x.wth, x.at_⟩ E w6.drew :=
          ⟨⟨kR7.cell 0, kR7.cell 1⟩, ⟨kX7.cell 0, kX7.cell 1, kX7.cell 2, kX7.cell 3, kX7.cell 4⟩, kE7.cell 0, kE7.cell 1, kE7.cell 2, kE7.cell 3⟩
        have hB7 := hB3.trans (hb7'.mono hB3.size)
        have hrowlt := HOWN.out.lt
        have HRL := Lib.hid hrowlt
        have lX7 := kX7.lt
        have lE7 := kE7.lt
        have hsz7 := hb7'.size
        have hsz2 := g2.size
        clear hrowlt
        have hne : ∀ b, b < w2.heap.size ∨ wr.heap.size ≤ b → some b ≠ _ := fun b hb he => by
          obtain ⟨h1, h2⟩ := HRL.out b he.symm
          omega
        have HNE := Lib.hid hne
        have hn5 : n + 1 ≤ maxLen := by unfold maxLen; omega
        clear hne kX7 kE7 kR7
        go_wp2_with fail
        go_region_held3 (fun w' => (w'.cell? ⟨w.heap.size, 0, none⟩ = some (.slice (some ⟨fb, fo, none⟩) fs.length fc) ∧ w'.cell? ⟨w.heap.size, 1, none⟩ = some (.slice oa os.length oc)) ∧ (w'.cell? ⟨wr.heap.size, 0, none⟩ = some (.int .i64 i) ∧ w'.cell? ⟨wr.heap.size, 1, none⟩ = some (.int .i64 k) ∧ w'.cell? ⟨wr.heap.size, 2, none⟩ = some (.int .i64 x.kind) ∧ w'.cell? ⟨wr.heap.size, 3, none⟩ = some (.int .i64 x.wth) ∧ w'.cell? ⟨wr.heap.size, 4, none⟩ = some (.int .i64 x.at_)) ∧ (w'.cell? ⟨w5.heap.size, 0, none⟩ = some (.int .i64 E.a.x) ∧ w'.cell? ⟨w5.heap.size, 1, none⟩ = some (.int .i64 E.a.y) ∧ w'.cell? ⟨w5.heap.size, 2, none⟩ = some (.int .i64 E.b.x) ∧ w'.cell? ⟨w5.heap.size, 3, none⟩ = some (.int .i64 E.b.y)))
          (first | (with_reducible exact hx) | (refine HeldY.step (x := ⟨i, k, x.kind, x.wth, x.at_⟩) (e := E) hx ?_; first | (with_reducible exact hb8) | (with_reducible exact hb8.alloc hb8.size _)) | (refine HeldY.grow (x := ⟨i, k, x.kind, x.wth, x.at_⟩) (e := E) (HeldY.step hx (hb8.alloc hb8.size _)) hgrow (HNE.out _ (by omega)) (HNE.out _ (by omega)) (HNE.out _ (by omega))))
          (first
            | (go_at_call 99; (with_reducible refine (HWF.out _ (HR.out.below hB7.drew)).mono ?_); rintro r w8 ⟨rfl, hb8⟩)
            | (refine step_append_lies _ (by rfl) _ _ _ (by rfl) w2.heap.size 81 i0 _ 3 24 Try.underlying75 hi hz0 hz1 hz2 rfl (by omega) _ n xs (by rfl) ((ownsRow_below HOW7.out.drew hb8).alloc _)
                ⟨w8.heap.size, 0, none⟩ 1 1 [.int .i64 i, .int .i64 k, .int .i64 KW] (by rfl) (by rfl) (World.news_of_block (cs := #[.int .i64 i, .int .i64 k, .int .i64 KW]) (t := 81) (fr := (0, 0)) (heap_alloc_new w8 _)) (by simp [Value.oneCell'])
                (by omega) hn5 (by omega) (by have := hb8.size; simp at this ⊢; omega) (w8.heap.size + 1) (by simp) ?_; intro gg cap w9 hown9 hgrow hat hlt9))
        have hb10 := ((((hb7'.drew.trans (hb8.mono hb7'.size)).mono (show w2.heap.size ≤ wr.heap.size from hsz2)).alloc (by have := hb8.size; simp at this; omega) (.cells #[.int .i64 i, .int .i64 k, .int .i64 KW] 81)).grown hgrow (by have := hb8.size; simp at this ⊢; omega) (fun k e => (HRL.out k e).1))
        have HW9 := Lib.hid hown9
        clear hown9 hgrow hx hb8 hat hlt9
        go_wp2_with fail
        refine ⟨⟨t + 1, by omega, by simp, ?_, g2.trans hb10⟩, by simp [intOf]; omega⟩
        rw [HS2.out]
        have := HW9.out
        simp only [Option.toList_some, List.length_append, List.length_cons, List.length_nil, Nat.zero_add, rowsW_snoc, cellsW, HN.out, HXS.out]
        exact this
    · obtain rfl : t = N := by omega
      have htk : (allR fs fs.length).take t = allR fs fs.length := List.take_of_length_le (by have := HNN.out; omega)
      rw [htk] at HOWN
      go_wp2_with fail
      go_ret
      exact ⟨_, rfl, ownsRow_kept2 HOWN.out (by have := hB2.size; omega) (fun _ _ h _ => h), hB3⟩

/-- Ways in memory. -/
def WyAt (w : World) (g o : Nat) (x : WyR) : Prop :=
  w.cell? ⟨g, o, none⟩ = some (.int .i64 x.face) ∧ w.cell? ⟨g, o + 1, none⟩ = some (.int .i64 x.edge) ∧ w.cell? ⟨g, o + 2, none⟩ = some (.int .i64 x.kind)
def IsWys (w : World) (v : Value) (l : List WyR) : Prop :=
  (v = .slice none 0 0 ∧ l = []) ∨ ∃ g cap, v = .slice (some ⟨g, 0, none⟩) l.length cap ∧ g < w.heap.size ∧ l.length ≤ cap ∧ cap ≤ 9223372036854775807 ∧ ∀ j x, l[j]? = some x → WyAt w g (j * 3) x
theorem rowsW_at (l : List WyR) : ∀ (j i : Nat) (x : WyR), l[j]? = some x → i < 3 → (rowsW l)[j * 3 + i]? = (cellsW x)[i]? := by
  induction l with
  | nil => intro j i x h _; simp at h
  | cons y l ih =>
    intro j i x h hi
    have e : rowsW (y :: l) = cellsW y ++ rowsW l := by simp [rowsW]
    have hy : (cellsW y).length = 3 := rfl
    cases j with
    | zero =>
      obtain rfl : y = x := by simpa using h
      rw [e, List.getElem?_append_left (by rw [hy]; omega)]
      simp
    | succ j =>
      rw [e, List.getElem?_append_right (by rw [hy]; omega), hy, show (j + 1) * 3 + i - 3 = j * 3 + i by omega]
      exact ih j i x (by simpa using h) hi
theorem isWys_of {w : World} {base : Nat} {t : TypeId} {v : Value} {l : List WyR} (h : w.ownsRow base t 3 v l.length (rowsW l)) : IsWys w v l := by
  rcases h.2 with ⟨rfl, h0⟩ | ⟨g, cap, cur, hv, _, hg, h1, h2, h3, h4⟩
  · exact .inl ⟨rfl, List.eq_nil_of_length_eq_zero h0⟩
  · refine .inr ⟨g, cap, hv, (Array.getElem?_eq_some_iff.1 hg).1, h1, by unfold maxLen at h2; omega, fun j x hj => ?_⟩
    have hjl : j < l.length := (List.getElem?_eq_some_iff.1 hj).1
    have key : ∀ i, i < 3 → w.cell? ⟨g, j * 3 + i, none⟩ = (cellsW x)[i]? := by
      intro i hi
      have e1 : w.cell? ⟨g, j * 3 + i, none⟩ = cur[j * 3 + i]? := by simp [World.cell?, hg]
      have e2 : cur[j * 3 + i]? = (cur.toList.take (l.length * 3))[j * 3 + i]? := by
        rw [List.getElem?_take_of_lt (by omega)]
        simp
      rw [e1, e2, h4, rowsW_at l j i x hj hi]
    exact ⟨key 0 (by omega), key 1 (by omega), key 2 (by omega)⟩

/-- What Ways returns. -/
def WaysSaid (R : Roo) (w : World) (e : Ending) (w' : World) : Prop :=
  Below w.heap.size w w' ∧
    if ¬ checkE R = 0 then e = .returned (.tuple #[.slice none 0 0, .int .i64 (checkE R)]) else
      ∃ v, e = .returned (.tuple #[v, .int .i64 0]) ∧ IsWys w' v (waysL R.fs (allR R.fs R.fs.length))

set_option maxRecDepth 100000 in
set_option maxHeartbeats 2000000 in
theorem ways_any (R : Roo) (w : World) (hR : IsRoof w R) :
    Calls Try.prog 32 #[.agg #[.slice R.fa R.fs.length R.fc, .slice R.oa R.os.length R.oc]] w (WaysSaid R w) := by
  have hways := waysOf_any R
  obtain ⟨fa, fc, fs, oa, oc, os⟩ := R
  simp only [] at hways
  have hB : Below w.heap.size w (w.alloc (.cells #[.slice fa fs.length fc, .slice oa os.length oc] 25)) := (Below.refl _ _).alloc (Nat.le_refl _) _
  have kR := Blk.new w 25 #[.slice fa fs.length fc, .slice oa os.length oc]
  have HWY := Lib.hid hways
  have HR := Lib.hid hR
  clear hR hways
  go_enter Try.func32, Try.ntmps32
  go_wp2_with fail
  refine (check_any ⟨fa, fc, fs, oa, oc, os⟩ _ (HR.out.below hB)).mono ?_
  rintro e w1 ⟨rfl, hb1⟩
  have hB1 := hB.trans (hb1.mono hB.size)
  have kR1 := kR.belowS hb1
  clear kR hB hb1
  generalize hE : checkE ⟨fa, fc, fs, oa, oc, os⟩ = E
  have HE := Lib.hid hE
  clear hE
  by_cases h0 : E = 0
  · subst h0
    have hz : ((0 : Int) == 0) = true := rfl
    have c0 := kR1.cell 0
    have c1 := kR1.cell 1
    simp only [List.getElem?_toArray, List.getElem?_cons_zero, List.getElem?_cons_succ] at c0 c1
    go_wp2_with fail
    refine (HWY.out _ (HR.out.below hB1) HE.out).mono ?_
    rintro e w2 ⟨v, rfl, hrow, hb2⟩
    have HROW := Lib.hid hrow
    have hs1 := hB1.size
    clear hrow
    go_wp2_with fail
    go_ret2
    refine ⟨hB1.trans (hb2.mono hs1), ?_⟩
    rw [if_neg (by rw [HE.out]; simp)]
    exact ⟨v, rfl, isWys_of HROW.out⟩
  · have hz : (E == 0) = false := by simp [h0]
    have hz' : (E != 0) = true := by simp [h0]
    have H0 := Lib.hid h0
    clear h0
    go_wp2_with fail
    go_ret2
    refine ⟨hB1, ?_⟩
    rw [if_pos (by rw [HE.out]; exact H0.out), HE.out]
    rfl
end Go.Proofs.Ytpheaomlphggfaa
/- What a roof that may be says of the ways of water. -/
namespace Go.Proofs.Ytpheaomlphggfaa
open Go.RowKit

theorem waysL_split (fs : List Fac) (l : List EdR) (t : Nat) : waysL fs l = waysL fs (l.take t) ++ waysL fs (l.drop t) := by
  unfold waysL
  rw [← List.filterMap_append, List.take_append_drop]
theorem ways_next {fs : List Fac} {l : List EdR} {t : Nat} {x : EdR} {y : WyR} (h : l[t]? = some x) (hy : wayOf fs x = some y) : (waysL fs l)[(waysL fs (l.take t)).length]? = some y := by
  rw [waysL_split fs l t, List.getElem?_append_right (Nat.le_refl _), Nat.sub_self]
  have ht := (List.getElem?_eq_some_iff.1 h).1
  rw [List.drop_eq_getElem_cons ht]
  have hx : l[t] = x := by
    rw [List.getElem?_eq_getElem ht] at h
    exact Option.some.inj h
  rw [hx]
  unfold waysL
  rw [List.filterMap_cons, hy]
  rfl
theorem ways_later {fs : List Fac} {l : List EdR} {t : Nat} {x : EdR} {y : WyR} (h : l[t]? = some x) (hy : wayOf fs x = none) (hw : (waysL fs l)[(waysL fs (l.take t)).length]? = some y) : ∃ t' x', t < t' ∧ l[t']? = some x' ∧ wayOf fs x' = some y := by
  rw [waysL_split fs l t, List.getElem?_append_right (Nat.le_refl _), Nat.sub_self] at hw
  have ht := (List.getElem?_eq_some_iff.1 h).1
  rw [List.drop_eq_getElem_cons ht] at hw
  have hx : l[t] = x := by
    rw [List.getElem?_eq_getElem ht] at h
    exact Option.some.inj h
  rw [hx] at hw
  unfold waysL at hw
  rw [List.filterMap_cons, hy] at hw
  simp only [] at hw
  have hm : y ∈ (l.drop (t + 1)).filterMap (wayOf fs) := List.mem_of_getElem? hw
  obtain ⟨x', hx', hy'⟩ := List.mem_filterMap.1 hm
  obtain ⟨n, hn, he⟩ := List.getElem_of_mem hx'
  rw [List.getElem_drop] at he
  rw [List.length_drop] at hn
  exact ⟨t + 1 + n, x', by omega, by rw [List.getElem?_eq_getElem (by omega), he], hy'⟩
theorem wayOf_place {fs : List Fac} {x : EdR} {y : WyR} (h : wayOf fs x = some y) : y.face = x.face ∧ y.edge = x.number := by
  unfold wayOf at h
  split at h
  · split at h
    · cases h
      exact ⟨rfl, rfl⟩
    · cases h
  · cases h
theorem ways_other {fs : List Fac} {t i k : Nat} {F : Fac} {y : WyR} (ht : t = (allR fs i).length + k) (h : (allR fs fs.length)[t]? = some (edgR fs i F k)) (hn : wayOf fs (edgR fs i F k) = none)
    (hw : (waysL fs (allR fs fs.length))[(waysL fs ((allR fs fs.length).take t)).length]? = some y) : ¬ (y.face = i ∧ y.edge = k) := by
  rintro ⟨h1, h2⟩
  obtain ⟨t', x', hlt, hx', hy'⟩ := ways_later h hn hw
  obtain ⟨i', F', k', hi', hf', hk', rfl, ht'⟩ := allR_of (Nat.le_refl _) t' x' hx'
  obtain ⟨p1, p2⟩ := wayOf_place hy'
  rw [edgR_face] at p1
  rw [edgR_number] at p2
  obtain rfl : i = i' := by omega
  obtain rfl : k = k' := by omega
  omega

theorem outB_iff {f : Fac} {e : Edg} : outB f e = true ↔ 0 < seenU f.side e := by
  unfold outB sgn
  rw [decide_eq_true_eq]
  (repeat' split) <;> omega

theorem sgn_posI {n : Int} : 0 < sgn n ↔ 0 < n := by
  unfold sgn
  (repeat' split) <;> omega

/-- Two faces that water would leave over their edge, each of them: it is a valley. -/
theorem both_out {f g : Fac} {e : Edg} (hf : f.ok) (hg : g.ok) (h4 : kindB f g e ≠ 4) (h1 : outB f e = true) (h2 : outB g (bck e) = true) : kindB f g e = 7 := by
  rw [outB_iff] at h1 h2
  have hst : stepB f g e = false := by
    rw [Bool.eq_false_iff]
    exact fun h => h4 ((kindB_step f g e).2 h)
  have r0 := hf.r0
  have r1 := hg.r0
  have n0 := hf.n0
  have n1 := hg.n0
  have a1 := Int.mul_pos (Int.mul_pos (show 0 < f.rise by omega) h1) (show 0 < g.run by omega)
  have a2 := Int.mul_pos (Int.mul_pos (show 0 < g.rise by omega) h2) (show 0 < f.run by omega)
  have hs : 0 < sumB f g e := by
    unfold sumB
    show 0 < f.rise * seenU f.side e * g.run + g.rise * seenU g.side (bck e) * f.run
    omega
  unfold kindB
  rw [if_neg (by rw [hst]; simp)]
  unfold kindS
  have s1 := sgn_posI.2 hs
  have s2 := sgn_posI.2 h1
  have s3 := sgn_posI.2 h2
  show (if sgn (sumB f g e) = 0 then (8 : Int) else if sgn (seenU f.side e) < 0 ∧ sgn (seenU g.side (bck e)) < 0 then _ else if 0 < sgn (seenU f.side e) ∧ 0 < sgn (seenU g.side (bck e)) then 7 else 9) = 7
  rw [if_neg (by omega), if_neg (by omega), if_pos ⟨s2, s3⟩]

theorem level_cmp {f g : Fac} {p : Pnt} (h : levelB f g p = true) : cmpH f g p = 0 := by
  unfold levelB at h
  rw [decide_eq_true_eq] at h
  unfold cmpH
  rw [h.1, h.2]
  omega

/-- **What is told of a way over an edge that has a face beside it.** -/
theorem way_facts {f g : Fac} {e : Edg} (hf : f.ok) (hg : g.ok) (ho : outB f e = true) :
    2 ≤ wayB f g e (kindB f g e) ∧ wayB f g e (kindB f g e) ≤ 4 ∧
    (wayB f g e (kindB f g e) = 3 → kindB f g e = 7 ∧ seenV f.side e ≠ 0) ∧
    (wayB f g e (kindB f g e) = 2 → 0 ≤ cmpH f g e.a ∧ 0 ≤ cmpH f g e.b ∧ (kindB f g e ≠ 4 → outB g (bck e) = false)) := by
  have hb := kindB_step f g e
  unfold wayB
  by_cases h4 : kindB f g e = 4
  · have hs := hb.1 h4
    cases hbb : belowB f g e with
    | true =>
      rw [if_pos ⟨h4, rfl⟩]
      exact ⟨by omega, by omega, by omega, by omega⟩
    | false =>
      rw [if_neg (by simp), if_neg (by omega)]
      unfold belowB at hbb
      simp only [Bool.or_eq_false_iff] at hbb
      refine ⟨by omega, by omega, by omega, fun _ => ⟨?_, ?_, fun h => absurd h4 h⟩⟩
      · have := hbb.1
        rw [Bool.eq_false_iff, ne_eq, lowB_iff] at this
        omega
      · have := hbb.2
        rw [Bool.eq_false_iff, ne_eq, lowB_iff] at this
        omega
  · rw [if_neg (fun h => h4 h.1)]
    by_cases h7 : kindB f g e = 7
    · rw [if_pos h7]
      by_cases hv : seenV f.side e = 0
      · rw [if_pos hv]
        exact ⟨by omega, by omega, by omega, by omega⟩
      · rw [if_neg hv]
        exact ⟨by omega, by omega, fun _ => ⟨h7, hv⟩, by omega⟩
    · rw [if_neg h7]
      have hst : stepB f g e = false := by
        rw [Bool.eq_false_iff]
        exact fun h => h4 (hb.2 h)
      unfold stepB at hst
      simp only [Bool.or_eq_false_iff, Bool.not_eq_false'] at hst
      refine ⟨by omega, by omega, by omega, fun _ => ⟨?_, ?_, fun _ => ?_⟩⟩
      · rw [level_cmp hst.1]; omega
      · rw [level_cmp hst.2]; omega
      · rw [Bool.eq_false_iff]
        exact fun h => h7 (both_out hf hg h4 ho h)
/-- The cells that a call of 'ends' reads: the roof's box, an edge's box, a face. -/
abbrev HeldB (W : World) (B X b o : Nat) (s : Value) (i k : Int) (f : Fac) (w : World) : Prop := Below W.heap.size W w ∧
  (w.cell? ⟨B, 0, none⟩ = some s ∧ (w.cell? ⟨X, 0, none⟩ = some (.int .i64 i) ∧ w.cell? ⟨X, 1, none⟩ = some (.int .i64 k)) ∧
  (w.cell? ⟨b, o, none⟩ = some (.string f.name) ∧ w.cell? ⟨b, o + 1, none⟩ = some (.int .i64 f.side) ∧ w.cell? ⟨b, o + 2, none⟩ = some (.int .i64 f.foot) ∧ w.cell? ⟨b, o + 3, none⟩ = some (.int .i64 f.base) ∧
    w.cell? ⟨b, o + 4, none⟩ = some (.int .i64 f.rise) ∧ w.cell? ⟨b, o + 5, none⟩ = some (.int .i64 f.run) ∧ w.cell? ⟨b, o + 6, none⟩ = some (.slice f.ca f.cs.length f.cc)))
theorem HeldB.step {W w w' : World} {B X b o : Nat} {s : Value} {i k : Int} {f : Fac} (h : HeldB W B X b o s i k f w) (hB : B < W.heap.size) (hX : X < W.heap.size) (hb : b < W.heap.size) (hbe : Below W.heap.size w w') : HeldB W B X b o s i k f w' := by
  have c : ∀ b i, b < W.heap.size → w'.cell? ⟨b, i, none⟩ = w.cell? ⟨b, i, none⟩ := fun b i hb' => hbe.cell (p := ⟨b, i, none⟩) hb'
  obtain ⟨h0, h1, ⟨x0, x1⟩, a0, a1, a2, a3, a4, a5, a6⟩ := h
  exact ⟨h0.trans hbe, (c _ _ hB).trans h1, ⟨(c _ _ hX).trans x0, (c _ _ hX).trans x1⟩, (c _ _ hb).trans a0, (c _ _ hb).trans a1, (c _ _ hb).trans a2, (c _ _ hb).trans a3, (c _ _ hb).trans a4, (c _ _ hb).trans a5, (c _ _ hb).trans a6⟩

theorem bel_alloc {w w' : World} (h : Below w.heap.size w w') (o : Obj) : Below w.heap.size w (w'.alloc o) := h.alloc h.size o
theorem bel_call {w w' w2 : World} (h : Below w.heap.size w w') (hb : Below w'.heap.size w' w2) : Below w.heap.size w w2 := h.trans (hb.mono h.size)
theorem bel_set {w w' : World} (h : Below w.heap.size w w') {A o : Nat} (hA : w.heap.size ≤ A) (v : Value) : Below w.heap.size w (w'.setCell ⟨A, o, none⟩ v) := h.setCell hA v
theorem bel_drew {w w' : World} (h : Below w.heap.size w w') : Below w.heap.size w w'.drew := h.drew

theorem hgt_is (R : Roo) (hE : checkE R = 0) (i : Nat) (F : Fac) (hf : R.fs[i]? = some F) (p : Pnt) (hp : p.ok) (w : World) (hR : IsRoof w R) :
    Calls Try.prog 23 #[.agg #[.slice R.fa R.fs.length R.fc, .slice R.oa R.os.length R.oc], .int .i64 i, .agg #[.int .i64 p.x, .int .i64 p.y]] w fun e w' =>
      e = .returned (.tuple #[.agg #[.int .i64 (hgtN F p), .int .i64 (hgtD F p)], .int .i64 0]) ∧ Below w.heap.size w w' := by
  refine (height_any R i p w hR).mono ?_
  rintro e w' ⟨hb, h⟩
  have hi := (List.getElem?_eq_some_iff.1 hf).1
  have hh : hasB R (i : Int) = true := by simp [hasB, hi]
  rw [if_neg (by simpa using hE), if_neg (by rw [hh]; simp), if_neg (by rw [Pnt.okB_iff.2 hp]; simp)] at h
  obtain ⟨f, hf', rfl⟩ := h
  rw [Int.toNat_natCast, hf] at hf'
  obtain rfl := Option.some.inj hf'
  exact ⟨rfl, hb⟩

theorem edge_heights {f : Fac} (hf : f.ok) (E : Edg) : decide (hgtN f E.a = hgtN f E.b ∧ hgtD f E.a = hgtD f E.b) = (seenV f.side E == 0) := by
  rw [Bool.eq_iff_iff, decide_eq_true_eq, hgt_same hf, beq_iff_eq]
  unfold seenV
  omega
/-- The cells of the roof's box, of an edge's box and of two points. -/
structure HeldH (w : World) (B X A C : Nat) (s0 s1 : Value) (i k K wt : Int) (p q : Pnt) : Prop where
  r0 : w.cell? ⟨B, 0, none⟩ = some s0
  r1 : w.cell? ⟨B, 1, none⟩ = some s1
  x0 : w.cell? ⟨X, 0, none⟩ = some (.int .i64 i)
  x1 : w.cell? ⟨X, 1, none⟩ = some (.int .i64 k)
  x2 : w.cell? ⟨X, 2, none⟩ = some (.int .i64 K)
  x3 : w.cell? ⟨X, 3, none⟩ = some (.int .i64 wt)
  a0 : w.cell? ⟨A, 0, none⟩ = some (.int .i64 p.x)
  a1 : w.cell? ⟨A, 1, none⟩ = some (.int .i64 p.y)
  c0 : w.cell? ⟨C, 0, none⟩ = some (.int .i64 q.x)
  c1 : w.cell? ⟨C, 1, none⟩ = some (.int .i64 q.y)
theorem HeldH.below {w w' : World} {B X A C : Nat} {s0 s1 : Value} {i k K wt : Int} {p q : Pnt} (h : HeldH w B X A C s0 s1 i k K wt p q) (hb : Below w.heap.size w w') : HeldH w' B X A C s0 s1 i k K wt p q := by
  have c : ∀ b i v, w.cell? ⟨b, i, none⟩ = some v → w'.cell? ⟨b, i, none⟩ = some v := fun b i v hv => (hb.cell (p := ⟨b, i, none⟩) (World.block_lt_of_cell? _ _ hv)).trans hv
  exact ⟨c _ _ _ h.r0, c _ _ _ h.r1, c _ _ _ h.x0, c _ _ _ h.x1, c _ _ _ h.x2, c _ _ _ h.x3, c _ _ _ h.a0, c _ _ _ h.a1, c _ _ _ h.c0, c _ _ _ h.c1⟩

theorem HeldH.all {w : World} {B X A C : Nat} {s0 s1 : Value} {i k K wt : Int} {p q : Pnt} (h : HeldH w B X A C s0 s1 i k K wt p q) :
    w.cell? ⟨B, 0, none⟩ = some s0 ∧ w.cell? ⟨B, 1, none⟩ = some s1 ∧ w.cell? ⟨X, 0, none⟩ = some (.int .i64 i) ∧ w.cell? ⟨X, 1, none⟩ = some (.int .i64 k) ∧ w.cell? ⟨X, 2, none⟩ = some (.int .i64 K) ∧ w.cell? ⟨X, 3, none⟩ = some (.int .i64 wt) ∧
    w.cell? ⟨A, 0, none⟩ = some (.int .i64 p.x) ∧ w.cell? ⟨A, 1, none⟩ = some (.int .i64 p.y) ∧ w.cell? ⟨C, 0, none⟩ = some (.int .i64 q.x) ∧ w.cell? ⟨C, 1, none⟩ = some (.int .i64 q.y) ∧ B < w.heap.size ∧ X < w.heap.size ∧ A < w.heap.size ∧ C < w.heap.size :=
  ⟨h.r0, h.r1, h.x0, h.x1, h.x2, h.x3, h.a0, h.a1, h.c0, h.c1, World.block_lt_of_cell? _ _ h.r0, World.block_lt_of_cell? _ _ h.x0, World.block_lt_of_cell? _ _ h.a0, World.block_lt_of_cell? _ _ h.c0⟩


theorem fallP_bd (s : Int) : (-10000 ≤ (fallP s).x ∧ (fallP s).x ≤ 10000) ∧ -10000 ≤ (fallP s).y ∧ (fallP s).y ≤ 10000 := by
  unfold fallP
  (repeat' split) <;> simp only [] <;> omega
theorem comes_iff (f : Fac) (E : Edg) : decide ((E.b.x - E.a.x) * (fallP f.side).y - (E.b.y - E.a.y) * (fallP f.side).x < 0) = outB f E := by
  rw [fall_seen, Bool.eq_iff_iff, outB_iff, decide_eq_true_eq]
  omega
theorem IsWys.shape {w : World} {v : Value} {l : List WyR} (h : IsWys w v l) : ∃ a cap, v = .slice a l.length cap ∧ l.length ≤ cap ∧ cap ≤ 9223372036854775807 ∧
    ∀ (j : Nat) (x : WyR), l[j]? = some x → ∃ g, a = some ⟨g, 0, none⟩ ∧ g < w.heap.size ∧ WyAt w g (j * 3) x := by
  rcases h with ⟨rfl, rfl⟩ | ⟨g, cap, rfl, h2, h3, h4, h5⟩
  · exact ⟨none, 0, rfl, Nat.le_refl _, by omega, fun j x hx => by simp at hx⟩
  · exact ⟨some ⟨g, 0, none⟩, cap, rfl, h3, h4, fun j x hx => ⟨g, rfl, h2, h5 j x hx⟩⟩
theorem WyAt.below {w w' : World} {B b o : Nat} {f : WyR} (h : WyAt w b o f) (hb : Below B w w') (hlt : b < B) : WyAt w' b o f := by
  have c : ∀ i, w'.cell? ⟨b, i, none⟩ = w.cell? ⟨b, i, none⟩ := fun i => hb.cell (p := ⟨b, i, none⟩) hlt
  obtain ⟨h0, h1, h2⟩ := h
  exact ⟨(c _).trans h0, (c _).trans h1, (c _).trans h2⟩
theorem wayOf_at {fs : List Fac} {i k : Nat} {F : Fac} (hq : fs[i]? = some F) : wayOf fs (edgR fs i F k) = if outB F (edgN F.cs k) = true then some ⟨i, k, kindW fs F (edgN F.cs k) (edgR fs i F k)⟩ else none := by
  unfold wayOf
  rw [edgR_face, edgR_number, Int.toNat_natCast, Int.toNat_natCast, hq]
end Go.Proofs.Ytpheaomlphggfaa
