/- What is answered, or the error with which the answer panics: fault.Of and fault.Answer at Bounds' closure; Bounds of a skin that may be. -/
import Derived.Test.YtoigihmgjacbjaaDoorWL
import Derived.Defers
import Derived.Laws.Pointers
set_option linter.unusedSimpArgs false
namespace Go.Proofs.YtoigihmgjacbjaaDoor
open Go.RowKit

theorem assert_is (x : Int) (w : World) : (Instr.typeAssert (.iface 35 (.int .i64 x)) 20 35 true).run Tryd.prog w = .ok (.tuple #[.int .i64 x, .bool true]) w := by kernel_rfl
theorem assert_not (w : World) : (Instr.typeAssert .nilIface 20 35 true).run Tryd.prog w = .ok (.tuple #[.int .i64 0, .bool false]) w := by kernel_rfl
set_option maxRecDepth 100000 in
set_option maxHeartbeats 4000000 in
theorem catch_panicking (E : Nat) (x : Int) (older : List PanicEntry) (u0 : Value) (w : World) (k2 : Blk w E #[u0] 35) :
    CallsD Tryd.prog 63 #[.pointer (some ⟨E, 0, none⟩)] (.panicking ({ v := .iface 35 (.int .i64 x), recovered := false } :: older)) w fun e u' w' =>
      e = .returned (.tuple #[]) ∧ u' = .panicking ({ v := .iface 35 (.int .i64 x), recovered := true } :: older) ∧ w' = w.setCell ⟨E, 0, none⟩ (.int .i64 x) := by
  have d0 := k2.cell 0
  simp only [List.getElem?_toArray, List.getElem?_cons_zero, List.getElem?_cons_succ] at d0
  have y0 := k2.frozen 0
  refine callsD_of_wpS Tryd.func63 rfl fun c₀ cs hu => ?_
  apply wpS_seq
  apply wpS_region
  simp [wpOpsS, go_sem, recoverD, hu, Tryd.ntmps63, Exit.thenS, assert_is, assert_not]
  apply wpS_seq
  apply wpS_region
  simp [wpOpsS, go_sem, Exit.thenS]
  refine wpS_cond (t := true) (by simp [Act.eval, Array.replicate]) ?_
  simp only [if_true]
  apply wpS_region
  simp [wpOpsS, go_sem, d0, y0, bodyPostS, results, Tryd.results63]
set_option maxRecDepth 100000 in
set_option maxHeartbeats 4000000 in
theorem catch_idle (E : Nat) (w : World) :
    CallsD Tryd.prog 63 #[.pointer (some ⟨E, 0, none⟩)] .returning w fun e u' w' => e = .returned (.tuple #[]) ∧ u' = .returning ∧ w' = w := by
  refine callsD_of_wpS Tryd.func63 rfl fun c₀ cs hu => ?_
  apply wpS_seq
  apply wpS_region
  simp [wpOpsS, go_sem, recoverD, hu, Tryd.ntmps63, Exit.thenS, assert_is, assert_not]
  apply wpS_seq
  apply wpS_region
  simp [wpOpsS, go_sem, Exit.thenS]
  refine wpS_cond (t := false) (by simp [Act.eval, Array.replicate]) ?_
  simp only [Bool.false_eq_true, if_false]
  refine wpS_of_wp (wp_skip ?_)
  cases c₀
  simp_all [bodyPostS, results, Tryd.results63]


/-- What the closure does: it returns a span, or panics with an error. -/
def DoneSaid (x : Int) (b : Spn) (w : World) (e : Ending) (w' : World) : Prop := ((x = 0 ∧ e = .returned (.agg #[.int .i64 b.lo, .int .i64 b.hi])) ∨ (x ≠ 0 ∧ e = chain x)) ∧ Below w.heap.size w w'

set_option maxRecDepth 100000 in
set_option maxHeartbeats 4000000 in
theorem answerIn_any (A B p q : Nat) (x : Int) (U : Spn) (w : World) (kA : Blk w A #[.func (.func 47) #[] #[.pointer (some ⟨p, 0, none⟩), .pointer (some ⟨q, 0, none⟩)]] 88) (kB : Blk w B #[.int .i64 0, .int .i64 0] 27) (hdo : Calls Tryd.prog 47 #[.pointer (some ⟨p, 0, none⟩), .pointer (some ⟨q, 0, none⟩)] w (DoneSaid x U w)) :
    Calls Tryd.prog 73 #[.pointer (some ⟨A, 0, none⟩), .pointer (some ⟨B, 0, none⟩)] w fun e w' =>
      ((x = 0 ∧ e = .returned (.tuple #[]) ∧ Blk w' B #[.int .i64 U.lo, .int .i64 U.hi] 27) ∨ (x ≠ 0 ∧ e = chain x ∧ Blk w' B #[.int .i64 0, .int .i64 0] 27)) ∧ Turn (fun k => k = B) w w' := by
  have lA := kA.lt
  have a0 : w.cell? ⟨A, 0, none⟩ = some (.func (.func 47) #[] #[.pointer (some ⟨p, 0, none⟩), .pointer (some ⟨q, 0, none⟩)]) := kA.cell 0
  have HDO := Lib.hid hdo
  have KB := Lib.hid kB
  clear kA kB hdo
  go_enter Tryd.func73, Tryd.ntmps73
  go_wp2_with fail
  refine HDO.out.mono ?_
  rintro e w1 ⟨h, hb⟩
  have kB1 := KB.out.belowS hb
  have lB := kB1.lt
  have HB := Lib.hid hb
  clear a0 lA hb HDO KB
  rcases h with ⟨hx, rfl⟩ | ⟨hx, rfl⟩
  · obtain ⟨b0, b1⟩ := spn_cells (s := ⟨0, 0⟩) kB1
    have z0 := kB1.frozen 0
    have z1 := kB1.frozen 1
    have HX := Lib.hid hx
    have KB1 := Lib.hid kB1
    clear hx kB1
    go_wp2_with fail
    have kf : Blk ((w1.setCell ⟨B, 0, none⟩ (.int .i64 U.lo)).setCell ⟨B, 1, none⟩ (.int .i64 U.hi)) B #[.int .i64 U.lo, .int .i64 U.hi] 27 := ((KB1.out.set 0 (.int .i64 U.lo)).set 1 (.int .i64 U.hi))
    have ht : Turn (fun k => k = B) w1 ((w1.setCell ⟨B, 0, none⟩ (.int .i64 U.lo)).setCell ⟨B, 1, none⟩ (.int .i64 U.hi)) := (((Turn.of_below (X := fun k => k = B) (Below.refl _ w1)).setCell (B := B) rfl 0 (.int .i64 U.lo)).setCell (B := B) rfl 1 (.int .i64 U.hi))
    generalize ((w1.setCell ⟨B, 0, none⟩ (.int .i64 U.lo)).setCell ⟨B, 1, none⟩ (.int .i64 U.hi)) = wf at *
    go_end0
    exact ⟨.inl ⟨HX.out, rfl, kf⟩, (Turn.of_below HB.out).trans ht⟩
  · have HX := Lib.hid hx
    have KB1 := Lib.hid kB1
    clear hx kB1
    go_wp2_with fail
    exact ⟨rfl, .inr ⟨HX.out, rfl, KB1.out⟩, Turn.of_below HB.out⟩

set_option maxRecDepth 100000 in
set_option maxHeartbeats 4000000 in
theorem ofBounds_any (A B p q : Nat) (x : Int) (U : Spn) (w : World) (kA : Blk w A #[.func (.func 47) #[] #[.pointer (some ⟨p, 0, none⟩), .pointer (some ⟨q, 0, none⟩)]] 88) (kB : Blk w B #[.int .i64 0, .int .i64 0] 27) (hdo : ∀ w1, Below w.heap.size w w1 → Calls Tryd.prog 47 #[.pointer (some ⟨p, 0, none⟩), .pointer (some ⟨q, 0, none⟩)] w1 (DoneSaid x U w1)) :
    Calls Tryd.prog 33 #[.func (.func 73) #[] #[.pointer (some ⟨A, 0, none⟩), .pointer (some ⟨B, 0, none⟩)]] w fun e w' =>
      e = .returned (.int .i64 x) ∧ ((x = 0 ∧ Blk w' B #[.int .i64 U.lo, .int .i64 U.hi] 27) ∨ (x ≠ 0 ∧ Blk w' B #[.int .i64 0, .int .i64 0] 27)) ∧ Turn (fun k => k = B) w w' := by
  have hmf : ∀ (fn : Fn) (first cap : Array Value) (w : World), (Instr.makeFunc fn first cap).run Tryd.prog w = .ok (.func fn first cap) w := fun _ _ _ _ => rfl
  have hb1 : Below w.heap.size w (w.alloc (.cells #[.int .i64 0] 35)) := (Below.refl _ w).alloc (Nat.le_refl _) _
  have kE := Blk.new w 35 #[.int .i64 0]
  have HAN := Lib.hid (answerIn_any A B p q x U _ (kA.belowS hb1) (kB.belowS hb1) (hdo _ hb1))
  have HLB := Lib.hid kB.lt
  have HB1 := Lib.hid hb1
  clear kA kB hdo hb1
  go_enter_defers Tryd.func33, Tryd.ntmps33
  go_upto_region 1 with fail
  generalize w.alloc (.cells #[.int .i64 0] 35) = w1 at *
  have KE := Lib.hid kE
  clear kE
  go_wp2_with fail
  refine HAN.out.mono ?_
  rintro e w2 ⟨h, ht⟩
  have kE2 := ht.blk KE.out (fun e => by have := HLB.out; rw [show w.heap.size = B from e] at this; omega)
  have lE := kE2.lt
  have HT := Lib.hid ht
  clear ht HAN
  rcases h with ⟨hx, rfl, hUb⟩ | ⟨hx, rfl, hUb⟩
  · have c0 : w2.cell? ⟨w.heap.size, 0, none⟩ = some (.int .i64 0) := kE2.cell 0
    have z0 := kE2.frozen 0
    have KE2 := Lib.hid kE2
    have HX := Lib.hid hx
    have HUB := Lib.hid hUb
    clear kE2 hx hUb
    go_wp2_with fail
    have kf := KE2.out.set 0 (.int .i64 0)
    have kb := HUB.out.other (show B ≠ w.heap.size by have := HLB.out; omega) (i := 0) (.int .i64 0)
    have ht : Turn (fun k => k = w.heap.size) w2 (w2.setCell ⟨w.heap.size, 0, none⟩ (.int .i64 0)) := (Turn.of_below (X := fun k => k = w.heap.size) (Below.refl _ w2)).setCell (B := w.heap.size) rfl 0 (.int .i64 0)
    generalize w2.setCell ⟨w.heap.size, 0, none⟩ (.int .i64 0) = wf at *
    have g0 : wf.cell? ⟨w.heap.size, 0, none⟩ = some (.int .i64 0) := kf.cell 0
    clear c0 z0
    refine leaves_cons (f := 63) (args := #[.pointer (some ⟨w.heap.size, 0, none⟩)]) (by simp) (by simp [go_sem]) ?_
    refine (catch_idle w.heap.size _).mono ?_
    rintro e u' w'' ⟨rfl, rfl, rfl⟩
    simp [Leaves, settle, results, Tryd.results33, go_sem, g0]
    refine ⟨HX.out.symm, .inl ⟨HX.out, kb⟩, ?_⟩
    exact ((Turn.of_below (X := fun k => k = B ∨ k = w.heap.size) HB1.out).trans ((HT.out.mono (fun k _ e => .inl e)).trans (ht.mono (fun k _ e => .inr e)))).mono (fun k hk e => by
        rcases e with e | e
        · exact e
        · omega)
  · have KE2 := Lib.hid kE2
    have HX := Lib.hid hx
    have HUB := Lib.hid hUb
    clear kE2 hx hUb
    go_wp2_with fail
    refine leaves_cons (f := 63) (args := #[.pointer (some ⟨w.heap.size, 0, none⟩)]) (by simp) (by simp [go_sem]) ?_
    refine (catch_panicking w.heap.size x [] _ w2 KE2.out).mono ?_
    rintro e u' wf ⟨rfl, rfl, hwf⟩
    have g0 : wf.cell? ⟨w.heap.size, 0, none⟩ = some (.int .i64 x) := by rw [hwf]; exact (KE2.out.set 0 (.int .i64 x)).cell 0
    simp [Leaves, settle, results, Tryd.results33, go_sem, g0]
    have kb := HUB.out.other (show B ≠ w.heap.size by have := HLB.out; omega) (i := 0) (.int .i64 x)
    have ht : Turn (fun k => k = w.heap.size) w2 (w2.setCell ⟨w.heap.size, 0, none⟩ (.int .i64 x)) := (Turn.of_below (X := fun k => k = w.heap.size) (Below.refl _ w2)).setCell (B := w.heap.size) rfl 0 (.int .i64 x)
    rw [← hwf] at kb ht
    refine ⟨.inr ⟨HX.out, kb⟩, ?_⟩
    exact ((Turn.of_below (X := fun k => k = B ∨ k = w.heap.size) HB1.out).trans ((HT.out.mono (fun k _ e => .inl e)).trans (ht.mono (fun k _ e => .inr e)))).mono (fun k hk e => by
      rcases e with e | e
      · exact e
      · omega)

/-- The span that is told: what is answered, or none. -/
def endB (x : Int) (b : Spn) : Spn := if x = 0 then b else ⟨0, 0⟩
set_option maxRecDepth 100000 in
set_option maxHeartbeats 4000000 in
theorem answer_any (p q : Nat) (x : Int) (T : Spn) (w : World) (hdo : ∀ w1, Below w.heap.size w w1 → Calls Tryd.prog 47 #[.pointer (some ⟨p, 0, none⟩), .pointer (some ⟨q, 0, none⟩)] w1 (DoneSaid x T w1)) :
    Calls Tryd.prog 46 #[.func (.func 47) #[] #[.pointer (some ⟨p, 0, none⟩), .pointer (some ⟨q, 0, none⟩)]] w fun e w' => e = .returned (.tuple #[.agg #[.int .i64 (endB x T).lo, .int .i64 (endB x T).hi], .int .i64 x]) ∧ Below w.heap.size w w' := by
  have hmf : ∀ (fn : Fn) (first cap : Array Value) (w : World), (Instr.makeFunc fn first cap).run Tryd.prog w = .ok (.func fn first cap) w := fun _ _ _ _ => rfl
  have kA := (Blk.new w 88 #[.func (.func 47) #[] #[.pointer (some ⟨p, 0, none⟩), .pointer (some ⟨q, 0, none⟩)]]).alloc (.cells #[.int .i64 0, .int .i64 0] 27)
  have kB := Blk.new (w.alloc (.cells #[.func (.func 47) #[] #[.pointer (some ⟨p, 0, none⟩), .pointer (some ⟨q, 0, none⟩)]] 88)) 27 #[.int .i64 0, .int .i64 0]
  have hb1 : Below w.heap.size w ((w.alloc (.cells #[.func (.func 47) #[] #[.pointer (some ⟨p, 0, none⟩), .pointer (some ⟨q, 0, none⟩)]] 88)).alloc (.cells #[.int .i64 0, .int .i64 0] 27)) := ((Below.refl _ w).alloc (Nat.le_refl _) _).alloc (by simp) _
  rw [World.size_alloc] at kB
  have HDO := Lib.hid hdo
  clear hdo
  go_enter Tryd.func46, Tryd.ntmps46
  go_upto_region 1 with fail
  generalize ((w.alloc (.cells #[.func (.func 47) #[] #[.pointer (some ⟨p, 0, none⟩), .pointer (some ⟨q, 0, none⟩)]] 88)).alloc (.cells #[.int .i64 0, .int .i64 0] 27)) = w1 at *
  have HOF := Lib.hid (ofBounds_any w.heap.size (w.heap.size + 1) p q x T w1 kA kB (fun w2 h => HDO.out w2 (hb1.trans (h.mono hb1.size))))
  have HB1 := Lib.hid hb1
  clear kA kB hb1 HDO
  go_wp2_with fail
  refine HOF.out.mono ?_
  rintro e w2 ⟨rfl, h, ht⟩
  have HB2 := Lib.hid (HB1.out.trans (ht.below HB1.out.size (fun k e => by rw [show k = w.heap.size + 1 from e]; exact Nat.le_succ _)))
  clear ht HOF
  obtain ⟨U, hU, hUb⟩ : ∃ U, endB x T = U ∧ Blk w2 (w.heap.size + 1) #[.int .i64 U.lo, .int .i64 U.hi] 27 := by
    rcases h with ⟨hx, h1⟩ | ⟨hx, h1⟩
    · exact ⟨T, by unfold endB; rw [if_pos hx], h1⟩
    · exact ⟨⟨0, 0⟩, by unfold endB; rw [if_neg hx], h1⟩
  have HU := Lib.hid hU
  obtain ⟨b0, b1⟩ := spn_cells hUb
  have lB := hUb.lt
  have z0 := hUb.frozen 0
  have z1 := hUb.frozen 1
  have KB := Lib.hid hUb
  clear h hUb hU
  go_wp2_with fail
  have kf : Blk ((w2.setCell ⟨w.heap.size + 1, 0, none⟩ (.int .i64 U.lo)).setCell ⟨w.heap.size + 1, 1, none⟩ (.int .i64 U.hi)) (w.heap.size + 1) #[.int .i64 U.lo, .int .i64 U.hi] 27 := ((KB.out.set 0 (.int .i64 U.lo)).set 1 (.int .i64 U.hi))
  have ht : Turn (fun k => k = w.heap.size + 1) w2 ((w2.setCell ⟨w.heap.size + 1, 0, none⟩ (.int .i64 U.lo)).setCell ⟨w.heap.size + 1, 1, none⟩ (.int .i64 U.hi)) := (((Turn.of_below (X := fun k => k = w.heap.size + 1) (Below.refl _ w2)).setCell (B := w.heap.size + 1) rfl 0 (.int .i64 U.lo)).setCell (B := w.heap.size + 1) rfl 1 (.int .i64 U.hi))
  generalize ((w2.setCell ⟨w.heap.size + 1, 0, none⟩ (.int .i64 U.lo)).setCell ⟨w.heap.size + 1, 1, none⟩ (.int .i64 U.hi)) = wf at *
  clear b0 b1 z0 z1
  obtain ⟨g0, g1⟩ := spn_cells kf
  exact bodyPost_ret (v := .tuple #[.agg #[.int .i64 U.lo, .int .i64 U.hi], .int .i64 x]) (by simp [results, Tryd.results46, go_sem, g0, g1]) rfl ⟨by rw [HU.out], HB2.out.trans (ht.below HB2.out.size (fun k e => by rw [show k = w.heap.size + 1 from e]; exact Nat.le_succ _))⟩

set_option maxRecDepth 100000 in
set_option maxHeartbeats 4000000 in
theorem boundsIn_ok (P Q : Nat) (S : Skn) (p : Pnt) (w : World) (kP : Blk w P (sknC S) 30) (kQ : Blk w Q #[.int .i64 p.x, .int .i64 p.y] 45) (hS : IsSkn w S) (hg : Laid w) (hok : SkinOk S) (hp : inAreaM S.pts S.hs p = true) (hpp : pointB p = true) :
    Calls Tryd.prog 47 #[.pointer (some ⟨P, 0, none⟩), .pointer (some ⟨Q, 0, none⟩)] w (DoneSaid 0 (boundM S p) w) := by
  have k0 := Blk.new w 27 #[.int .i64 0, .int .i64 0]
  have hb1 : Below w.heap.size w (w.alloc (.cells #[.int .i64 0, .int .i64 0] 27)) := (Below.refl _ w).alloc (Nat.le_refl _) _
  have k1 := kP.belowS hb1
  have k2 := kQ.belowS hb1
  have HS := Lib.hid hS
  have HG := Lib.hid hg
  have HOK := Lib.hid hok
  have HP := Lib.hid hp
  have HPP := Lib.hid hpp
  clear hS hg hok hp hpp kP kQ
  go_enter Tryd.func47, Tryd.ntmps47
  go_upto_region 1 with fail
  generalize w.alloc (.cells #[.int .i64 0, .int .i64 0] 27) = w1 at *
  have HB1 := Lib.hid hb1
  have K0 := Lib.hid k0
  have K1 := Lib.hid k1
  have K2 := Lib.hid k2
  obtain ⟨s0, s1, s2, s3, s4, s5⟩ := skn_cells (S := S) k1
  obtain ⟨p0, p1⟩ := pnt_cells k2
  have l1 := k1.lt
  have l2 := k2.lt
  clear k0 k1 k2 hb1
  go_wp2_with fail
  refine (requirePoint_ok S p _ (HS.out.below HB1.out) (HG.out.below HB1.out) HOK.out HP.out).mono ?_
  rintro e w2 ⟨rfl, hb⟩
  have HB2 := Lib.hid (HB1.out.trans (hb.mono HB1.out.size))
  have K02 := Lib.hid (K0.out.belowS hb)
  have k12 := K1.out.belowS hb
  have k22 := K2.out.belowS hb
  clear s0 s1 s2 s3 s4 s5 p0 p1 l1 l2 hb
  obtain ⟨s0, s1, s2, s3, s4, s5⟩ := skn_cells (S := S) k12
  obtain ⟨p0, p1⟩ := pnt_cells k22
  have l1 := k12.lt
  have l2 := k22.lt
  clear k12 k22
  go_wp2_with fail
  refine (bounds_any S p _ (HS.out.below HB2.out) (HG.out.below HB2.out) HOK.out.steep HOK.out.marks HPP.out).mono ?_
  rintro e w3 ⟨rfl, hb⟩
  have HB3 := Lib.hid (HB2.out.trans (hb.mono HB2.out.size))
  have k03 := K02.out.belowS hb
  obtain ⟨U, hU⟩ : ∃ U, boundM S p = U := ⟨_, rfl⟩
  rw [hU]
  have HU := Lib.hid hU
  clear s0 s1 s2 s3 s4 s5 p0 p1 l1 l2 hb hU
  obtain ⟨b0, b1⟩ := spn_cells (s := ⟨0, 0⟩) k03
  have lB := k03.lt
  have z0 := k03.frozen 0
  have z1 := k03.frozen 1
  have KB := Lib.hid k03
  clear k03
  go_wp2_with fail
  have kf : Blk ((w3.setCell ⟨w.heap.size, 0, none⟩ (.int .i64 U.lo)).setCell ⟨w.heap.size, 1, none⟩ (.int .i64 U.hi)) w.heap.size #[.int .i64 U.lo, .int .i64 U.hi] 27 := ((KB.out.set 0 (.int .i64 U.lo)).set 1 (.int .i64 U.hi))
  have ht : Turn (fun k => k = w.heap.size) w3 ((w3.setCell ⟨w.heap.size, 0, none⟩ (.int .i64 U.lo)).setCell ⟨w.heap.size, 1, none⟩ (.int .i64 U.hi)) := (((Turn.of_below (X := fun k => k = w.heap.size) (Below.refl _ w3)).setCell (B := w.heap.size) rfl 0 (.int .i64 U.lo)).setCell (B := w.heap.size) rfl 1 (.int .i64 U.hi))
  generalize ((w3.setCell ⟨w.heap.size, 0, none⟩ (.int .i64 U.lo)).setCell ⟨w.heap.size, 1, none⟩ (.int .i64 U.hi)) = wf at *
  clear b0 b1 z0 z1
  obtain ⟨g0, g1⟩ := spn_cells kf
  exact bodyPost_ret (v := .agg #[.int .i64 U.lo, .int .i64 U.hi]) (by simp [results, Tryd.results47, go_sem, g0, g1]) rfl ⟨.inl ⟨rfl, by rw [HU.out]⟩, HB3.out.trans (ht.below HB3.out.size (fun k e => by rw [show k = w.heap.size from e]; exact Nat.le_refl _))⟩

set_option maxRecDepth 100000 in
set_option maxHeartbeats 4000000 in
theorem wearBounds_ok (S : Skn) (p : Pnt) (w : World) (hS : IsSkn w S) (hg : Laid w) (hok : SkinOk S) (hp : inAreaM S.pts S.hs p = true) (hpp : pointB p = true) :
    Calls Tryd.prog 20 #[.agg #[.slice S.pa S.pts.length S.pc, .slice S.ha S.hs.length S.hc, .int .i64 S.steep, .int .i64 S.th.lo, .int .i64 S.th.hi, .slice S.ma S.ms.length S.mc], .agg #[.int .i64 p.x, .int .i64 p.y]] w fun e w' => e = .returned (.tuple #[.agg #[.int .i64 (boundM S p).lo, .int .i64 (boundM S p).hi], .int .i64 0]) ∧ Below w.heap.size w w' := by
  have hmf : ∀ (fn : Fn) (first cap : Array Value) (w : World), (Instr.makeFunc fn first cap).run Tryd.prog w = .ok (.func fn first cap) w := fun _ _ _ _ => rfl
  have k1 := ((Blk.new w 30 #[.slice S.pa S.pts.length S.pc, .slice S.ha S.hs.length S.hc, .int .i64 S.steep, .int .i64 S.th.lo, .int .i64 S.th.hi, .slice S.ma S.ms.length S.mc]).alloc (.cells #[.int .i64 p.x, .int .i64 p.y] 45)).alloc (.cells #[.int .i64 0, .int .i64 0] 27)
  have k2 := (Blk.new (w.alloc (.cells #[.slice S.pa S.pts.length S.pc, .slice S.ha S.hs.length S.hc, .int .i64 S.steep, .int .i64 S.th.lo, .int .i64 S.th.hi, .slice S.ma S.ms.length S.mc] 30)) 45 #[.int .i64 p.x, .int .i64 p.y]).alloc (.cells #[.int .i64 0, .int .i64 0] 27)
  have k3 := Blk.new ((w.alloc (.cells #[.slice S.pa S.pts.length S.pc, .slice S.ha S.hs.length S.hc, .int .i64 S.steep, .int .i64 S.th.lo, .int .i64 S.th.hi, .slice S.ma S.ms.length S.mc] 30)).alloc (.cells #[.int .i64 p.x, .int .i64 p.y] 45)) 27 #[.int .i64 0, .int .i64 0]
  rw [World.size_alloc] at k2
  rw [World.size_alloc, World.size_alloc] at k3
  have hb1 : Below w.heap.size w (((w.alloc (.cells #[.slice S.pa S.pts.length S.pc, .slice S.ha S.hs.length S.hc, .int .i64 S.steep, .int .i64 S.th.lo, .int .i64 S.th.hi, .slice S.ma S.ms.length S.mc] 30)).alloc (.cells #[.int .i64 p.x, .int .i64 p.y] 45)).alloc (.cells #[.int .i64 0, .int .i64 0] 27)) := (((Below.refl _ w).alloc (Nat.le_refl _) _).alloc (by simp) _).alloc (by simp; omega) _
  have HS := Lib.hid hS
  have HG := Lib.hid hg
  have HOK := Lib.hid hok
  have HP := Lib.hid hp
  have HPP := Lib.hid hpp
  clear hS hg hok hp hpp
  go_enter Tryd.func20, Tryd.ntmps20
  go_upto_region 1 with fail
  generalize (((w.alloc (.cells #[.slice S.pa S.pts.length S.pc, .slice S.ha S.hs.length S.hc, .int .i64 S.steep, .int .i64 S.th.lo, .int .i64 S.th.hi, .slice S.ma S.ms.length S.mc] 30)).alloc (.cells #[.int .i64 p.x, .int .i64 p.y] 45)).alloc (.cells #[.int .i64 0, .int .i64 0] 27)) = w1 at *
  have HAN := Lib.hid (answer_any w.heap.size (w.heap.size + 1) 0 (boundM S p) w1 (fun w2 h => boundsIn_ok _ _ S p w2 (k1.belowS h) (k2.belowS h) (HS.out.below (hb1.trans (h.mono hb1.size))) (HG.out.below (hb1.trans (h.mono hb1.size))) HOK.out HP.out HPP.out))
  have HB1 := Lib.hid hb1
  have K3 := Lib.hid k3
  clear k1 k2 k3 hb1
  go_wp2_with fail
  refine HAN.out.mono ?_
  rintro e w2 ⟨rfl, hb⟩
  have HB2 := Lib.hid (HB1.out.trans (hb.mono HB1.out.size))
  have k32 := K3.out.belowS hb
  have hU0 : endB 0 (boundM S p) = boundM S p := rfl
  rw [hU0]
  obtain ⟨U, hU⟩ : ∃ U, boundM S p = U := ⟨_, rfl⟩
  rw [hU]
  have HU := Lib.hid hU
  clear hb hU hU0 HAN
  obtain ⟨b0, b1⟩ := spn_cells (s := ⟨0, 0⟩) k32
  have lB := k32.lt
  have z0 := k32.frozen 0
  have z1 := k32.frozen 1
  have KB := Lib.hid k32
  clear k32
  go_wp2_with fail
  have kf : Blk ((w2.setCell ⟨w.heap.size + 1 + 1, 0, none⟩ (.int .i64 U.lo)).setCell ⟨w.heap.size + 1 + 1, 1, none⟩ (.int .i64 U.hi)) (w.heap.size + 1 + 1) #[.int .i64 U.lo, .int .i64 U.hi] 27 := ((KB.out.set 0 (.int .i64 U.lo)).set 1 (.int .i64 U.hi))
  have ht : Turn (fun k => k = w.heap.size + 1 + 1) w2 ((w2.setCell ⟨w.heap.size + 1 + 1, 0, none⟩ (.int .i64 U.lo)).setCell ⟨w.heap.size + 1 + 1, 1, none⟩ (.int .i64 U.hi)) := (((Turn.of_below (X := fun k => k = w.heap.size + 1 + 1) (Below.refl _ w2)).setCell (B := w.heap.size + 1 + 1) rfl 0 (.int .i64 U.lo)).setCell (B := w.heap.size + 1 + 1) rfl 1 (.int .i64 U.hi))
  generalize ((w2.setCell ⟨w.heap.size + 1 + 1, 0, none⟩ (.int .i64 U.lo)).setCell ⟨w.heap.size + 1 + 1, 1, none⟩ (.int .i64 U.hi)) = wf at *
  clear b0 b1 z0 z1
  obtain ⟨g0, g1⟩ := spn_cells kf
  exact bodyPost_ret (v := .tuple #[.agg #[.int .i64 U.lo, .int .i64 U.hi], .int .i64 0]) (by simp [results, Tryd.results20, go_sem, g0, g1]) rfl ⟨by rw [HU.out], HB2.out.trans (ht.below HB2.out.size (fun k e => by rw [show k = w.heap.size + 1 + 1 from e]; omega))⟩
end Go.Proofs.YtoigihmgjacbjaaDoor
