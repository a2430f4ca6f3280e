/- RoofPoints: what Height and Where return is what the specification's return. No condition but that the roof is one in memory. -/
import Derived.Test.YtpdgcajbdaleeaaEL
import Derived.Test.YtpdgcajbdaleeaaEM
import Derived.Test.YtpdgcajbdaleeaaZN
import Derived.Test.YtpdgcajbdaleeaaZO
set_option linter.unusedSimpArgs false
namespace Go.Proofs.Ytpdgcajbdaleeaa
open Go.RowKit

theorem height_one (R : Roo) (i : Int) (p : Pnt) : ∃ n d er : Int, ∀ w e w', HeightSaid R i p w e w' → e = .returned (.tuple #[.agg #[.int .i64 n, .int .i64 d], .int .i64 er]) ∧ Below w.heap.size w w' := by
  by_cases h1 : checkE R = 0
  rotate_left
  · exact ⟨0, 0, checkE R, fun w e w' h => ⟨by have := h.2; rwa [if_pos h1] at this, h.1⟩⟩
  by_cases h2 : hasB R i = false
  · exact ⟨0, 0, 7, fun w e w' h => ⟨by have := h.2; rwa [if_neg (by rw [h1]; simp), if_pos h2] at this, h.1⟩⟩
  by_cases h3 : p.okB = false
  · exact ⟨0, 0, 1, fun w e w' h => ⟨by have := h.2; rwa [if_neg (by rw [h1]; simp), if_neg h2, if_pos h3] at this, h.1⟩⟩
  cases hF : R.fs[i.toNat]? with
  | none =>
    refine ⟨0, 0, 0, fun w e w' h => ?_⟩
    have h4 := h.2
    rw [if_neg (by rw [h1]; simp), if_neg h2, if_neg h3] at h4
    obtain ⟨f, hf, -⟩ := h4
    rw [hF] at hf
    cases hf
  | some f =>
    refine ⟨hgtN f p, hgtD f p, 0, fun w e w' h => ⟨?_, h.1⟩⟩
    have h4 := h.2
    rw [if_neg (by rw [h1]; simp), if_neg h2, if_neg h3] at h4
    obtain ⟨g, hg, h5⟩ := h4
    obtain rfl : f = g := Option.some.inj (hF.symm.trans hg)
    exact h5
theorem where_one (R : Roo) (p : Pnt) : ∃ (l : List Int) (k er : Int), ∀ w e w', WhereSaid R p w e w' → ∃ a c, e = .returned (.tuple #[.slice a l.length c, .int .i64 k, .int .i64 er]) ∧ IsInts w' (.slice a l.length c) l ∧ Below w.heap.size w w' := by
  by_cases h1 : checkE R = 0
  rotate_left
  · exact ⟨[], 0, checkE R, fun w e w' h => ⟨none, 0, by have := h.2; rwa [if_pos h1] at this, .inl ⟨rfl, rfl⟩, h.1⟩⟩
  by_cases h3 : p.okB = false
  · exact ⟨[], 0, 1, fun w e w' h => ⟨none, 0, by have := h.2; rwa [if_neg (by rw [h1]; simp), if_pos h3] at this, .inl ⟨rfl, rfl⟩, h.1⟩⟩
  refine ⟨(whereL R.fs p R.fs.length).map (fun i : Nat => (i : Int)), openAtI R.os p, 0, fun w e w' h => ?_⟩
  have h4 := h.2
  rw [if_neg (by rw [h1]; simp), if_neg h3] at h4
  obtain ⟨v, he, hi⟩ := h4
  obtain ⟨a, c, rfl⟩ := hi.sh
  exact ⟨a, c, he, hi, h.1⟩

set_option maxRecDepth 100000 in
set_option maxHeartbeats 8000000 in
theorem roofPoints_any (R : Roo) (i : Int) (p : Pnt) (w : World) (hR : IsRoof w R) :
    Calls Try.prog 3 #[.agg #[.slice R.fa R.fs.length R.fc, .slice R.oa R.os.length R.oc], .int .i64 i, .agg #[.int .i64 p.x, .int .i64 p.y]] w fun e w' => e = .returned (.bool true) ∧ Below w.heap.size w w' := by
  have kR := (Blk.new w 25 #[.slice R.fa R.fs.length R.fc, .slice R.oa R.os.length R.oc]).alloc (.cells #[.int .i64 p.x, .int .i64 p.y] 27)
  have kP := Blk.new (w.alloc (.cells #[.slice R.fa R.fs.length R.fc, .slice R.oa R.os.length R.oc] 25)) 27 #[.int .i64 p.x, .int .i64 p.y]
  simp only [World.size_alloc] at kP
  have hb1 : Below w.heap.size w ((w.alloc (.cells #[.slice R.fa R.fs.length R.fc, .slice R.oa R.os.length R.oc] 25)).alloc (.cells #[.int .i64 p.x, .int .i64 p.y] 27)) := ((Below.refl _ _).alloc (Nat.le_refl _) _).alloc (by simp) _
  have HR1 := Lib.hid (hR.below hb1)
  obtain ⟨n, d, er, hh⟩ := height_one R i p
  obtain ⟨l, k, er2, hw⟩ := where_one R p
  have HH := Lib.hid hh
  have HW := Lib.hid hw
  have q2 : ∀ wx, (Op.equalIn 10000 31 (.agg #[.int .i64 n, .int .i64 d]) (.agg #[.int .i64 n, .int .i64 d])).run Try.prog wx = .ok true wx := fun wx => (run_equalIn_ratio 9998 _ _ _ _ _).trans (by simp)
  clear hR hh hw
  go_enter Try.func3, Try.ntmps3
  go_upto_region 1 with fail
  generalize ((w.alloc (.cells #[.slice R.fa R.fs.length R.fc, .slice R.oa R.os.length R.oc] 25)).alloc (.cells #[.int .i64 p.x, .int .i64 p.y] 27)) = w1 at *
  have HB1 := Lib.hid hb1
  have HKR := Lib.hid kR
  have HKP := Lib.hid kP
  have HB0 := Lib.hid (Below.refl w1.heap.size w1)
  clear hb1 kR kP
  have r0 := (HKR.out.belowS HB0.out).cell 0
  have r1 := (HKR.out.belowS HB0.out).cell 1
  have lr := (HKR.out.belowS HB0.out).lt
  simp only [List.getElem?_toArray, List.getElem?_cons_zero, List.getElem?_cons_succ] at r0 r1
  go_wp2_with fail
  refine (great_any R w1 HR1.out).mono ?_
  rintro e w2 ⟨hb2, b, rfl, -⟩
  have HB2 := Lib.hid hb2
  have HB2W := Lib.hid (HB1.out.trans (hb2.mono HB1.out.size))
  clear hb2 r0 r1 lr
  cases b with
  | true =>
    go_wp2_with fail
    refine (lives_any _).mono ?_
    rintro e w3 ⟨rfl, hb3⟩
    have HB3 := Lib.hid (HB2W.out.trans (hb3.mono HB2W.out.size))
    clear hb3
    go_wp2_with fail
    go_ret
    exact ⟨rfl, HB3.out⟩
  | false =>
  have r0 := (HKR.out.belowS HB2.out).cell 0
  have r1 := (HKR.out.belowS HB2.out).cell 1
  have lr := (HKR.out.belowS HB2.out).lt
  simp only [List.getElem?_toArray, List.getElem?_cons_zero, List.getElem?_cons_succ] at r0 r1
  have p0 := (HKP.out.belowS HB2.out).cell 0
  have p1 := (HKP.out.belowS HB2.out).cell 1
  have lp := (HKP.out.belowS HB2.out).lt
  simp only [List.getElem?_toArray, List.getElem?_cons_zero, List.getElem?_cons_succ] at p0 p1
  go_wp2_with fail
  refine (height_any R i p w2 (HR1.out.below HB2.out)).mono ?_
  rintro e w3 hs
  obtain ⟨rfl, hb⟩ := HH.out _ _ _ hs
  have HB3 := Lib.hid (HB2.out.trans (hb.mono HB2.out.size))
  clear hs hb
  clear r0 r1 lr p0 p1 lp
  go_upto_region 4 with fail
  have kz := Blk.new w3 31 #[.int .i64 n, .int .i64 d]
  have hbz : Below w3.heap.size w3 (w3.alloc (.cells #[.int .i64 n, .int .i64 d] 31)) := (Below.refl _ _).alloc (Nat.le_refl _) _
  have HB4 := Lib.hid (HB3.out.trans (hbz.mono HB3.out.size))
  obtain ⟨BX, hBX⟩ : ∃ B, w3.heap.size = B := ⟨_, rfl⟩
  rw [hBX] at kz ⊢
  generalize w3.alloc (.cells #[.int .i64 n, .int .i64 d] 31) = w4 at *
  have HK4 := Lib.hid kz
  clear kz hbz hBX
  have r0 := (HKR.out.belowS HB4.out).cell 0
  have r1 := (HKR.out.belowS HB4.out).cell 1
  have lr := (HKR.out.belowS HB4.out).lt
  simp only [List.getElem?_toArray, List.getElem?_cons_zero, List.getElem?_cons_succ] at r0 r1
  have p0 := (HKP.out.belowS HB4.out).cell 0
  have p1 := (HKP.out.belowS HB4.out).cell 1
  have lp := (HKP.out.belowS HB4.out).lt
  simp only [List.getElem?_toArray, List.getElem?_cons_zero, List.getElem?_cons_succ] at p0 p1
  go_wp2_with fail
  refine (refHeight_any R i p w4 (HR1.out.below HB4.out)).mono ?_
  rintro e w5 hs
  obtain ⟨rfl, hb⟩ := HH.out _ _ _ hs
  have HB5 := Lib.hid (HB4.out.trans (hb.mono HB4.out.size))
  have H45 := Lib.hid hb
  clear hs hb
  clear r0 r1 lr p0 p1 lp
  go_upto_region 5 with fail
  have kz := Blk.new w5 31 #[.int .i64 n, .int .i64 d]
  have hbz : Below w5.heap.size w5 (w5.alloc (.cells #[.int .i64 n, .int .i64 d] 31)) := (Below.refl _ _).alloc (Nat.le_refl _) _
  have HB6 := Lib.hid (HB5.out.trans (hbz.mono HB5.out.size))
  have H46 := Lib.hid (H45.out.trans (hbz.mono H45.out.size))
  obtain ⟨BY, hBX⟩ : ∃ B, w5.heap.size = B := ⟨_, rfl⟩
  rw [hBX] at kz ⊢
  generalize w5.alloc (.cells #[.int .i64 n, .int .i64 d] 31) = w6 at *
  have HK6 := Lib.hid kz
  clear kz hbz hBX
  have x1 := HK4.out.belowS ((show Below w4.heap.size w4 w6 from H46.out))
  obtain ⟨x0, x1'⟩ := And.intro (x1.cell 0) (x1.cell 1)
  obtain ⟨y0, y1⟩ := And.intro (HK6.out.cell 0) (HK6.out.cell 1)
  simp only [List.getElem?_toArray, List.getElem?_cons_zero, List.getElem?_cons_succ] at x0 x1' y0 y1
  have lx := x1.lt
  have ly := HK6.out.lt
  have hz1 : (er != er) = false := by simp
  clear x1
  go_upto_region 7 with fail
  clear x0 x1' y0 y1 lx ly hz1 q2
  have r0 := (HKR.out.belowS HB6.out).cell 0
  have r1 := (HKR.out.belowS HB6.out).cell 1
  have lr := (HKR.out.belowS HB6.out).lt
  simp only [List.getElem?_toArray, List.getElem?_cons_zero, List.getElem?_cons_succ] at r0 r1
  have p0 := (HKP.out.belowS HB6.out).cell 0
  have p1 := (HKP.out.belowS HB6.out).cell 1
  have lp := (HKP.out.belowS HB6.out).lt
  simp only [List.getElem?_toArray, List.getElem?_cons_zero, List.getElem?_cons_succ] at p0 p1
  go_wp2_with fail
  refine (where_any R p w6 (HR1.out.below HB6.out)).mono ?_
  rintro e w7 hs
  obtain ⟨a1, c1, rfl, hi, hb⟩ := HW.out _ _ _ hs
  have HB7 := Lib.hid (HB6.out.trans (hb.mono HB6.out.size))
  have HI1 := Lib.hid hi
  have Hw7 := Lib.hid hb
  clear hs hb hi
  clear r0 r1 lr p0 p1 lp
  have r0 := (HKR.out.belowS HB7.out).cell 0
  have r1 := (HKR.out.belowS HB7.out).cell 1
  have lr := (HKR.out.belowS HB7.out).lt
  simp only [List.getElem?_toArray, List.getElem?_cons_zero, List.getElem?_cons_succ] at r0 r1
  have p0 := (HKP.out.belowS HB7.out).cell 0
  have p1 := (HKP.out.belowS HB7.out).cell 1
  have lp := (HKP.out.belowS HB7.out).lt
  simp only [List.getElem?_toArray, List.getElem?_cons_zero, List.getElem?_cons_succ] at p0 p1
  go_wp2_with fail
  refine (refWhere_any R p w7 (HR1.out.below HB7.out)).mono ?_
  rintro e w8 hs
  obtain ⟨a2, c2, rfl, hi, hb⟩ := HW.out _ _ _ hs
  have HB8 := Lib.hid (HB7.out.trans (hb.mono HB7.out.size))
  have HI2 := Lib.hid hi
  have Hw8 := Lib.hid hb
  clear hs hb hi
  clear r0 r1 lr p0 p1 lp
  have HI3 := Lib.hid (HI1.out.bel Hw8.out)
  have hz2 : (k == k) = true := by simp
  have hz3 : (er2 == er2) = true := by simp
  have HB8W := Lib.hid (HB1.out.trans (HB8.out.mono HB1.out.size))
  go_wp2_with fail
  refine (sameInts_same l a1 a2 c1 c2 _ HI3.out HI2.out).mono ?_
  rintro e w9 ⟨rfl, hb9⟩
  have HB9 := Lib.hid (HB8W.out.trans (hb9.mono HB8W.out.size))
  clear hb9
  go_wp2_with fail
  refine (lives_any _).mono ?_
  rintro e w10 ⟨rfl, hb10⟩
  have HB10 := Lib.hid (HB9.out.trans (hb10.mono HB9.out.size))
  clear hb10
  go_wp2_with fail
  go_ret
  exact ⟨rfl, HB10.out⟩
end Go.Proofs.Ytpdgcajbdaleeaa
