/- Height, whole: what it returns of any roof, face and point. -/
import Derived.Test.YtpdgcajbdaleeaaZH
import Derived.Deep.RegionWith
namespace Go.Proofs.Ytpdgcajbdaleeaa
open Go.RowKit

def hasB (R : Roo) (i : Int) : Bool := decide (0 ≤ i) && decide (i < (R.fs.length : Int))

theorem hasFace_any (sa so : Option Addr) (la lc lo loc : Nat) (i : Int) (w : World) :
    Calls Try.prog 32 #[.agg #[.slice sa la lc, .slice so lo loc], .int .i64 i] w fun e w' => e = .returned (.bool (decide (0 ≤ i) && decide (i < (la : Int)))) ∧ Below w.heap.size w w' := by
  by_cases h : 0 ≤ i
  all_goals by_cases h2 : i < (la : Int)
  all_goals
    go_enter Try.func32, Try.ntmps32
    go_wp2
    all_goals go_ret
    all_goals refine ⟨?_, (Below.refl _ _).alloc (Nat.le_refl _) _⟩
    all_goals simp [h, h2]

/-- What Height returns. -/
def HeightSaid (R : Roo) (i : Int) (p : Pnt) (w : World) (e : Ending) (w' : World) : Prop :=
  Below w.heap.size w w' ∧
    if ¬ checkE R = 0 then e = .returned (.tuple #[.agg #[.int .i64 0, .int .i64 0], .int .i64 (checkE R)]) else if hasB R i = false then e = .returned (.tuple #[.agg #[.int .i64 0, .int .i64 0], .int .i64 7]) else
      if p.okB = false then e = .returned (.tuple #[.agg #[.int .i64 0, .int .i64 0], .int .i64 1]) else ∃ f, R.fs[i.toNat]? = some f ∧ e = .returned (.tuple #[.agg #[.int .i64 (hgtN f p), .int .i64 (hgtD f p)], .int .i64 0])

set_option maxRecDepth 100000 in
set_option maxHeartbeats 4000000 in
theorem height_any (R : Roo) (i : Int) (p : Pnt) (w : World) (hR : IsRoof w R) :
    Calls Try.prog 10 #[.agg #[.slice R.fa R.fs.length R.fc, .slice R.oa R.os.length R.oc], .int .i64 i, .agg #[.int .i64 p.x, .int .i64 p.y]] w (HeightSaid R i p w) := by
  obtain ⟨fa, fc, fs, oa, oc, os⟩ := R
  have hB : Below w.heap.size w (((w.alloc (.cells #[.slice fa fs.length fc, .slice oa os.length oc] 25)).alloc (.cells #[.int .i64 p.x, .int .i64 p.y] 27)).alloc (.cells #[.int .i64 0, .int .i64 0] 31)) := (((Below.refl _ _).alloc (Nat.le_refl _) _).alloc (by simp) _).alloc (by simp; omega) _
  have kR := ((Blk.new w 25 #[.slice fa fs.length fc, .slice oa os.length oc]).alloc (.cells #[.int .i64 p.x, .int .i64 p.y] 27)).alloc (.cells #[.int .i64 0, .int .i64 0] 31)
  have kP := (Blk.new (w.alloc (.cells #[.slice fa fs.length fc, .slice oa os.length oc] 25)) 27 #[.int .i64 p.x, .int .i64 p.y]).alloc (.cells #[.int .i64 0, .int .i64 0] 31)
  have kQ := Blk.new ((w.alloc (.cells #[.slice fa fs.length fc, .slice oa os.length oc] 25)).alloc (.cells #[.int .i64 p.x, .int .i64 p.y] 27)) 31 #[.int .i64 0, .int .i64 0]
  simp only [World.size_alloc] at kP kQ
  have hsz : (((w.alloc (.cells #[.slice fa fs.length fc, .slice oa os.length oc] 25)).alloc (.cells #[.int .i64 p.x, .int .i64 p.y] 27)).alloc (.cells #[.int .i64 0, .int .i64 0] 31)).heap.size = w.heap.size + 3 := by simp
  have HSZ := Lib.hid hsz
  have HR := Lib.hid hR
  clear hR hsz
  go_enter Try.func10, Try.ntmps10
  go_wp2_with fail
  refine (check_any ⟨fa, fc, fs, oa, oc, os⟩ _ (HR.out.below hB)).mono ?_
  rintro e w1 ⟨rfl, hb1⟩
  have hB1 := hB.trans (hb1.mono (by rw [HSZ.out]; omega))
  have kR1 := kR.belowS hb1
  have kP1 := kP.belowS hb1
  have kQ1 := kQ.belowS hb1
  clear kR kP kQ hB hb1 HSZ
  generalize hE : checkE ⟨fa, fc, fs, oa, oc, os⟩ = E
  have HE := Lib.hid hE
  clear hE
  have q0 := kQ1.cell 0
  have q1 := kQ1.cell 1
  have f0 := kQ1.frozen 0
  have f1 := kQ1.frozen 1
  have lq := kQ1.lt
  simp only [List.getElem?_toArray, List.getElem?_cons_zero, List.getElem?_cons_succ] at q0 q1
  by_cases h0 : E = 0
  · subst h0
    have hz : ((0 : Int) == 0) = true := rfl
    have c0 := kR1.cell 0
    have c1 := kR1.cell 1
    simp only [List.getElem?_toArray, List.getElem?_cons_zero, List.getElem?_cons_succ] at c0 c1
    have hl16 := (checkE_faces HE.out).1
    simp only [] at hl16
    go_wp2_with fail
    refine (hasFace_any fa oa fs.length fc os.length oc i _).mono ?_
    rintro e w2 ⟨rfl, hb2⟩
    have hB2 := hB1.trans (hb2.mono hB1.size)
    have kR2 := kR1.belowS hb2
    have kP2 := kP1.belowS hb2
    have kQ2 := kQ1.belowS hb2
    clear kR1 kP1 kQ1 hB1 hb2 c0 c1 q0 q1 f0 f1 lq
    have q0 := kQ2.cell 0
    have q1 := kQ2.cell 1
    have f0 := kQ2.frozen 0
    have f1 := kQ2.frozen 1
    have lq := kQ2.lt
    simp only [List.getElem?_toArray, List.getElem?_cons_zero, List.getElem?_cons_succ] at q0 q1
    cases hh : (decide (0 ≤ i) && decide (i < (fs.length : Int))) with
    | false =>
      have HH := Lib.hid hh
      clear hh
      go_wp2_with fail
      have kQ3 := (kQ2.set 0 (.int .i64 0)).set 1 (.int .i64 0)
      have t0 := kQ3.cell 0
      have t1 := kQ3.cell 1
      simp only [List.setIfInBounds_toArray, List.set_cons_zero, List.set_cons_succ, List.getElem?_toArray, List.getElem?_cons_zero, List.getElem?_cons_succ] at t0 t1
      refine bodyPost_ret (v := .tuple #[.agg #[.int .i64 0, .int .i64 0], .int .i64 7]) (by simp [results, Try.results10, go_sem, t0, t1]) rfl ⟨(hB2.setCell (p := ⟨w.heap.size + 1 + 1, 0, none⟩) (by simp; omega) _).setCell (p := ⟨w.heap.size + 1 + 1, 1, none⟩) (by simp; omega) _, ?_⟩
      rw [if_neg (by rw [HE.out]; simp), if_pos (show hasB ⟨fa, fc, fs, oa, oc, os⟩ i = false from HH.out)]
    | true =>
      have HH := Lib.hid hh
      have hh' := hh
      simp only [Bool.and_eq_true, decide_eq_true_eq] at hh'
      obtain ⟨hi0, hi1⟩ := hh'
      clear hh
      have p0 := kP2.cell 0
      have p1 := kP2.cell 1
      simp only [List.getElem?_toArray, List.getElem?_cons_zero, List.getElem?_cons_succ] at p0 p1
      go_wp2_with fail
      refine (inPlan_any p.x p.y _).mono ?_
      rintro e w3 ⟨rfl, hb3⟩
      have hB3 := hB2.trans (hb3.mono hB2.size)
      have kR3 := kR2.belowS hb3
      have kP3 := kP2.belowS hb3
      have kQ3 := kQ2.belowS hb3
      clear kR2 kP2 kQ2 hB2 hb3 p0 p1 q0 q1 f0 f1 lq
      have q0 := kQ3.cell 0
      have q1 := kQ3.cell 1
      have f0 := kQ3.frozen 0
      have f1 := kQ3.frozen 1
      have lq := kQ3.lt
      have p0 := kP3.cell 0
      have p1 := kP3.cell 1
      have c0 := kR3.cell 0
      simp only [List.getElem?_toArray, List.getElem?_cons_zero, List.getElem?_cons_succ] at q0 q1 p0 p1 c0
      cases hp : inPlanB p.x p.y with
      | false =>
        have HP := Lib.hid hp
        clear hp
        go_wp2_with fail
        have kQ4 := (kQ3.set 0 (.int .i64 0)).set 1 (.int .i64 0)
        have t0 := kQ4.cell 0
        have t1 := kQ4.cell 1
        simp only [List.setIfInBounds_toArray, List.set_cons_zero, List.set_cons_succ, List.getElem?_toArray, List.getElem?_cons_zero, List.getElem?_cons_succ] at t0 t1
        refine bodyPost_ret (v := .tuple #[.agg #[.int .i64 0, .int .i64 0], .int .i64 1]) (by simp [results, Try.results10, go_sem, t0, t1]) rfl ⟨(hB3.setCell (p := ⟨w.heap.size + 1 + 1, 0, none⟩) (by simp; omega) _).setCell (p := ⟨w.heap.size + 1 + 1, 1, none⟩) (by simp; omega) _, ?_⟩
        rw [if_neg (by rw [HE.out]; simp), if_neg (by rw [show hasB ⟨fa, fc, fs, oa, oc, os⟩ i = true from HH.out]; simp), if_pos (show p.okB = false from HP.out)]
      | true =>
        have HP := Lib.hid hp
        clear hp
        have hpok : p.ok := Pnt.okB_iff.1 HP.out
        obtain ⟨k, rfl⟩ := Int.eq_ofNat_of_zero_le hi0
        have hkl : k < fs.length := by omega
        rcases (HR.out.below hB3).1 with ⟨_, hn⟩ | ⟨b, off, c, h1, h2, h3, h4, h5⟩
        · simp only [] at hn
          rw [hn] at hkl
          simp at hkl
        have hq : fs[k]? = some fs[k] := List.getElem?_eq_getElem hkl
        have hfok := checkE_ok HE.out fs[k] (List.getElem_mem hkl)
        obtain ⟨⟨d0, d1, d2, d3, d4, d5, d6⟩, _⟩ := h5 k _ hq
        obtain ⟨rfl, _, rfl⟩ := slice_inj h1
        simp only [] at d0 d1 d2 d3 d4 d5 d6 h3 h4
        generalize fs[k] = F at *
        have HQ := Lib.hid hq
        clear hq h1 h5
        go_wp2_with fail
        go_region_with (first | (go_at_call 34; (with_reducible refine (heightAt_any F p hfok hpok _).mono ?_); rintro r w4 ⟨rfl, hb4⟩; have kQ4 := (show Blk w3.drew _ _ _ from kQ3).belowS hb4; have t0 := kQ4.cell 0; have t1 := kQ4.cell 1; have y0 := kQ4.frozen 0; have y1 := kQ4.frozen 1; have yl := kQ4.lt; simp only [List.getElem?_toArray, List.getElem?_cons_zero, List.getElem?_cons_succ] at t0 t1))
        all_goals
          have kQ5 := (kQ4.set 0 (.int .i64 (hgtN F p))).set 1 (.int .i64 (hgtD F p))
          have z0 := kQ5.cell 0
          have z1 := kQ5.cell 1
          simp only [List.setIfInBounds_toArray, List.set_cons_zero, List.set_cons_succ, List.getElem?_toArray, List.getElem?_cons_zero, List.getElem?_cons_succ] at z0 z1
          go_wp2_with fail
          refine bodyPost_ret (v := .tuple #[.agg #[.int .i64 (hgtN F p), .int .i64 (hgtD F p)], .int .i64 0]) (by simp [results, Try.results10, go_sem, z0, z1]) rfl ⟨((hB3.drew.trans (hb4.mono hB3.size)).setCell (p := ⟨w.heap.size + 1 + 1, 0, none⟩) (by simp; omega) _).setCell (p := ⟨w.heap.size + 1 + 1, 1, none⟩) (by simp; omega) _, ?_⟩
          rw [if_neg (by rw [HE.out]; simp), if_neg (by rw [show hasB ⟨_, fc, fs, oa, oc, os⟩ k = true from HH.out]; simp), if_neg (by rw [show p.okB = true from HP.out]; simp)]
          exact ⟨F, HQ.out, rfl⟩
  · have hz : (E == 0) = false := by simp [h0]
    have hz' : (E != 0) = true := by simp [h0]
    have H0 := Lib.hid h0
    clear h0
    go_wp2_with fail
    have kQ3 := (kQ1.set 0 (.int .i64 0)).set 1 (.int .i64 0)
    have t0 := kQ3.cell 0
    have t1 := kQ3.cell 1
    simp only [List.setIfInBounds_toArray, List.set_cons_zero, List.set_cons_succ, List.getElem?_toArray, List.getElem?_cons_zero, List.getElem?_cons_succ] at t0 t1
    refine bodyPost_ret (v := .tuple #[.agg #[.int .i64 0, .int .i64 0], .int .i64 E]) (by simp [results, Try.results10, go_sem, t0, t1]) rfl ⟨(hB1.setCell (p := ⟨w.heap.size + 1 + 1, 0, none⟩) (by simp; omega) _).setCell (p := ⟨w.heap.size + 1 + 1, 1, none⟩) (by simp; omega) _, ?_⟩
    rw [if_pos (by rw [HE.out]; exact H0.out), HE.out]
end Go.Proofs.Ytpdgcajbdaleeaa
