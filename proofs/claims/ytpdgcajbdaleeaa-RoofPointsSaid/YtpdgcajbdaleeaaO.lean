/- checkOutline: the first error of an outline, checkFace: the first error of a face. -/
import Derived.Test.YtpdgcajbdaleeaaI
import Derived.Test.YtpdgcajbdaleeaaM
import Derived.Deep.RegionHeld3
namespace Go.Proofs.Ytpdgcajbdaleeaa

/-! ### checkOutline: the first error of an outline. -/
section
open Go.RowKit

/-- Some corner stands twice. -/
def twiceP (l : List Pnt) : Bool := (List.range l.length).any fun i => decide (l[i]?.getD ⟨0, 0⟩ ∈ l.take i)
def outlineE (l : List Pnt) : Int :=
  if 12 < l.length then 3 else if l.length < 3 then 1 else if l.all Pnt.okB = false then 1 else if twiceP l = true then 6 else if convexL l = false then 9 else 0

theorem outline_ok {l : List Pnt} (h : outlineE l = 0) : 3 ≤ l.length ∧ l.length ≤ 12 ∧ okPts l ∧ twiceP l = false ∧ convexL l = true := by
  unfold outlineE at h
  split at h
  · omega
  split at h
  · omega
  split at h
  · omega
  rename_i h1
  split at h
  · omega
  rename_i h2
  split at h
  · omega
  rename_i h3
  exact ⟨by omega, by omega, fun p hp => Pnt.okB_iff.1 (List.all_eq_true.1 (by simpa using h1) p hp), by simpa using h2, by simpa using h3⟩

/-- The cells of a point's box. -/
abbrev HeldP (W : World) (B : Nat) (q : Pnt) (w : World) : Prop := Below W.heap.size W w ∧ (w.cell? ⟨B, 0, none⟩ = some (.int .i64 q.x) ∧ w.cell? ⟨B, 1, none⟩ = some (.int .i64 q.y))
theorem HeldP.step {W w w' : World} {B : Nat} {q : Pnt} (h : HeldP W B q w) (hB : B < W.heap.size) (hb : Below w.heap.size w w') : HeldP W B q w' :=
  ⟨h.1.trans (hb.mono h.1.size), (hb.cell (p := ⟨B, 0, none⟩) (Nat.lt_of_lt_of_le hB h.1.size)).trans h.2.1, (hb.cell (p := ⟨B, 1, none⟩) (Nat.lt_of_lt_of_le hB h.1.size)).trans h.2.2⟩

set_option maxRecDepth 100000 in
set_option maxHeartbeats 2000000 in
theorem checkOutline_any (sa : Option Addr) (slen cap : Nat) (l : List Pnt) (w : World) (hs : IsPts w (.slice sa slen cap) l) (hbig : l.length ≤ 9223372036854775807) :
    Calls Try.prog 81 #[.slice sa slen cap] w fun e w' => e = .returned (.int .i64 (outlineE l)) ∧ Below w.heap.size w w' := by
  have hlen : slen = l.length := by
    rcases hs with ⟨⟨_, _, h1⟩, rfl⟩ | ⟨b, off, c, h1, _⟩
    · exact (slice_inj h1).2.1
    · exact (slice_inj h1).2.1
  subst hlen
  by_cases h1 : 12 < l.length
  · have hv : outlineE l = 3 := by simp [outlineE, h1]
    have HV := Lib.hid hv
    clear hv
    go_enter Try.func81, Try.ntmps81
    go_wp2_with fail
    go_ret
    exact ⟨by rw [HV.out]; rfl, Below.refl _ _⟩
  by_cases h2 : l.length < 3
  · have hv : outlineE l = 1 := by simp [outlineE, h1, h2]
    have HV := Lib.hid hv
    clear hv
    go_enter Try.func81, Try.ntmps81
    go_wp2_with fail
    go_ret
    exact ⟨by rw [HV.out]; rfl, Below.refl _ _⟩
  rcases hs with ⟨hx1, hx2⟩ | ⟨b, off, c, hx1, hx2, hx3, hx4, hx5⟩
  · subst hx2
    simp at h2
  obtain ⟨rfl, _, rfl⟩ := slice_inj hx1
  clear hx1
  go_enter Try.func81, Try.ntmps81
  go_wp2_with fail
  go_loopw [15, 4] (fun i _ wr => ∃ j : Nat, j ≤ l.length ∧ i = .int .i64 j ∧ (l.take j).all Pnt.okB = true ∧ Below w.heap.size w wr) (fun i _ _ => l.length - (intOf i).toNat)
  case atStart => exact ⟨0, Nat.zero_le _, rfl, by simp, Below.refl _ _⟩
  case round =>
    obtain ⟨j, hj, rfl, hall, g2⟩ := hrel
    by_cases hlj : j < l.length
    · have hq : l[j]? = some l[j] := List.getElem?_eq_getElem hlj
      obtain ⟨q0, q1⟩ := hx5.below g2 hx2 j _ hq
      have ht := take_all_succ l Pnt.okB j _ hq
      rw [hall] at ht
      have hm : l[j] ∈ l := List.getElem_mem hlj
      have hbs : b < wr.heap.size := Nat.lt_of_lt_of_le hx2 g2.size
      generalize l[j] = q at *
      have HT := Lib.hid ht
      have HM := Lib.hid hm
      clear hq ht hm hall
      have hb0 : Below wr.heap.size wr (wr.alloc (.cells #[.int .i64 q.x, .int .i64 q.y] 27)) := (Below.refl _ wr).alloc (Nat.le_refl _) _
      go_wp2_with fail
      refine (inPlan_any q.x q.y _).mono ?_
      rintro e w1 ⟨rfl, hb1⟩
      have hb2 := (g2.trans (hb0.mono g2.size)).trans (hb1.mono (by have := g2.size; simp; omega))
      cases hok : inPlanB q.x q.y with
      | true =>
        have HO := Lib.hid hok
        go_wp2_with fail
        refine ⟨⟨j + 1, by omega, by simp, ?_, hb2⟩, by simp [intOf]; omega⟩
        rw [HT.out]
        exact HO.out
      | false =>
        have hv : outlineE l = 1 := by
          have : l.all Pnt.okB = false := by
            rw [Bool.eq_false_iff]
            intro h
            have := List.all_eq_true.1 h q HM.out
            rw [Pnt.okB, hok] at this
            cases this
          simp [outlineE, h1, this]
        have HV := Lib.hid hv
        clear hv
        go_wp2_with fail
        go_ret
        exact ⟨by rw [HV.out]; rfl, hb2⟩
    · obtain rfl : j = l.length := by omega
      rw [List.take_length] at hall
      have hokp : okPts l := fun p hp => Pnt.okB_iff.1 (List.all_eq_true.1 hall p hp)
      have HA := Lib.hid hall
      clear hall
      go_wp2_with fail
      go_loopw [25, 5, 6] (fun i _ _ wr => ∃ j : Nat, j ≤ l.length ∧ i = .int .i64 j ∧ (∀ k, k < j → decide (l[k]?.getD ⟨0, 0⟩ ∈ l.take k) = false) ∧ Below w.heap.size w wr) (fun i _ _ _ => l.length - (intOf i).toNat)
      case atStart => exact ⟨0, Nat.zero_le _, rfl, fun k h => by omega, g2⟩
      case round =>
        obtain ⟨j, hj, rfl, hno, g3⟩ := hrel
        by_cases hlj : j < l.length
        · have hq : l[j]? = some l[j] := List.getElem?_eq_getElem hlj
          obtain ⟨q0, q1⟩ := hx5.below g3 hx2 j _ hq
          have hbs : b < wr.heap.size := Nat.lt_of_lt_of_le hx2 g3.size
          have hpre : IsPts wr (.slice (some ⟨b, off, none⟩) j cap) (l.take j) := by
            refine .inr ⟨b, off, cap, ?_, hbs, ?_, hx4, ?_⟩
            · rw [List.length_take, Nat.min_eq_left hj]
            · rw [List.length_take]; omega
            · intro i p hi
              rw [List.getElem?_take] at hi
              split at hi
              · exact hx5.below g3 hx2 i p hi
              · cases hi
          generalize l[j] = q at *
          have HQ := Lib.hid hq
          have HN := Lib.hid hno
          have HP := Lib.hid hpre
          clear hq hno hpre
          have hb0 : Below wr.heap.size wr (wr.alloc (.cells #[.int .i64 q.x, .int .i64 q.y] 27)) := (Below.refl _ wr).alloc (Nat.le_refl _) _
          have hj0 : (0 : Int) ≤ (j : Int) := Int.natCast_nonneg _
          have hj1 : (j : Int) ≤ (l.length : Int) := by omega
          have hj2 : (j : Int) ≤ (cap : Int) := by omega
          have hx : HeldP (wr.alloc (.cells #[.int .i64 q.x, .int .i64 q.y] 27)) wr.heap.size q (wr.alloc (.cells #[.int .i64 q.x, .int .i64 q.y] 27)).drew :=
            ⟨(Below.refl _ _).drew, (Blk.new wr 27 #[.int .i64 q.x, .int .i64 q.y]).cell 0, (Blk.new wr 27 #[.int .i64 q.x, .int .i64 q.y]).cell 1⟩
          have hB1 : wr.heap.size < (wr.alloc (.cells #[.int .i64 q.x, .int .i64 q.y] 27)).heap.size := by simp
          have hpr : IsPts (wr.alloc (.cells #[.int .i64 q.x, .int .i64 q.y] 27)).drew (.slice (some ⟨b, off, none⟩) j cap) (l.take j) := HP.out.below (hb0.drew)
          have hl' : (l.take j).length ≤ 1000 := by rw [List.length_take]; omega
          go_wp2_with fail
          go_region_held3 (fun w' => Below (wr.alloc (.cells #[.int .i64 q.x, .int .i64 q.y] 27)).heap.size (wr.alloc (.cells #[.int .i64 q.x, .int .i64 q.y] 27)) w' ∧ (w'.cell? ⟨wr.heap.size, 0, none⟩ = some (.int .i64 q.x) ∧ w'.cell? ⟨wr.heap.size, 1, none⟩ = some (.int .i64 q.y)))
            (first | (with_reducible exact hx) | (with_reducible refine HeldP.step ?_ hB1 hb3; with_reducible assumption))
            (first | (go_at_call 113; (with_reducible refine (containsP_any (some ⟨b, off, none⟩) j cap (l.take j) q _ hpr hl').mono ?_); rintro r w3 ⟨rfl, hb3⟩))
          have hb5 := (g3.trans (hb0.mono g3.size)).trans ((Below.refl _ _).drew.trans (hb3.mono (by have := g3.size; simp; omega)))
          have hqd : l[j]?.getD ⟨0, 0⟩ = q := by rw [HQ.out]; rfl
          have HQD := Lib.hid hqd
          clear hqd hx hpr hb3
          generalize hd : decide (q ∈ l.take j) = d
          have HD := Lib.hid hd
          clear hd
          cases d with
          | true =>
            have hv : outlineE l = 6 := by
              have ht : twiceP l = true := List.any_eq_true.2 ⟨j, by simpa using hlj, by rw [HQD.out]; exact HD.out⟩
              simp [outlineE, h1, h2, HA.out, ht]
            have HV := Lib.hid hv
            clear hv
            go_wp2_with fail
            go_ret
            exact ⟨by rw [HV.out]; rfl, hb5⟩
          | false =>
            go_wp2_with fail
            refine ⟨⟨j + 1, by omega, by simp, ?_, hb5⟩, by simp [intOf]; omega⟩
            intro k hk
            by_cases hkj : k = j
            · subst hkj
              rw [HQD.out]
              exact HD.out
            · exact HN.out k (by omega)
        · obtain rfl : j = l.length := by omega
          have ht : twiceP l = false := by
            rw [Bool.eq_false_iff]
            intro h
            obtain ⟨k, hk, h'⟩ := List.any_eq_true.1 h
            rw [hno k (by simpa using hk)] at h'
            cases h'
          have HT := Lib.hid ht
          clear ht hno
          have hsp : IsPts wr (.slice (some ⟨b, off, none⟩) l.length cap) l := .inr ⟨b, off, cap, rfl, Nat.lt_of_lt_of_le hx2 g3.size, hx3, hx4, hx5.below g3 hx2⟩
          go_wp2_with fail
          refine (isConvex_any _ _ _ l _ hsp (by omega) hokp).mono ?_
          rintro e w1 ⟨rfl, hb1⟩
          have hb5 := g3.trans (hb1.mono g3.size)
          cases hc : convexL l with
          | true =>
            have hv : outlineE l = 0 := by simp [outlineE, h1, h2, HA.out, HT.out, hc]
            have HV := Lib.hid hv
            clear hv
            go_wp2_with fail
            go_ret
            exact ⟨by rw [HV.out]; rfl, hb5⟩
          | false =>
            have hv : outlineE l = 9 := by simp [outlineE, h1, h2, HA.out, HT.out, hc]
            have HV := Lib.hid hv
            clear hv
            go_wp2_with fail
            go_ret
            exact ⟨by rw [HV.out]; rfl, hb5⟩
end

/-! ### checkFace: the first error of a face. -/
section
open Go.RowKit

def faceE (f : Fac) (ahead : List Fac) : Int :=
  if nameB f.name = false then 5 else if decide (0 ≤ idxF ahead f.name) = true then 6 else if isFromB f.side 1 4 = false then 1 else
    if isFromB f.foot 0 10000 = false then 1 else if isFromB f.base 0 10000 = false then 1 else if isFromB f.rise 1 100 = false then 1 else if isFromB f.run 1 100 = false then 1 else outlineE f.cs

def facC (f : Fac) : Array Value := #[.string f.name, .int .i64 f.side, .int .i64 f.foot, .int .i64 f.base, .int .i64 f.rise, .int .i64 f.run, .slice f.ca f.cs.length f.cc]
theorem fac_cells {W : World} {B : Nat} {f : Fac} {t : TypeId} (h : Blk W B (facC f) t) : FacAt W B 0 f := ⟨h.cell 0, h.cell 1, h.cell 2, h.cell 3, h.cell 4, h.cell 5, h.cell 6⟩

set_option maxRecDepth 100000 in
set_option maxHeartbeats 2000000 in
theorem checkFace_any (f : Fac) (sa : Option Addr) (slen cap : Nat) (l : List Fac) (w : World) (hf : FacIn w f) (hs : IsFacs w (.slice sa slen cap) l) (hl : l.length ≤ 100000) :
    Calls Try.prog 48 #[.agg #[.string f.name, .int .i64 f.side, .int .i64 f.foot, .int .i64 f.base, .int .i64 f.rise, .int .i64 f.run, .slice f.ca f.cs.length f.cc], .slice sa slen cap] w
      fun e w' => e = .returned (.int .i64 (faceE f l)) ∧ Below w.heap.size w w' := by
  have hB : Below w.heap.size w (w.alloc (.cells (facC f) 72)) := (Below.refl _ _).alloc (Nat.le_refl _) _
  have hbk : Blk (w.alloc (.cells (facC f) 72)) w.heap.size (facC f) 72 := Blk.new _ _ _
  have hlen : f.cs.length ≤ 9223372036854775807 := by
    rcases hf.1 with ⟨h1, h2⟩ | ⟨b, off, c, h1, h2, h3, h4, _⟩
    · rw [h2]; simp
    · omega
  have hname := hf.2
  have HF := Lib.hid hf
  have HS := Lib.hid hs
  clear hf hs
  obtain ⟨c0, c1, c2, c3, c4, c5, c6⟩ := fac_cells hbk
  unfold facC at c0 c1 c2 c3 c4 c5 c6
  simp only [Nat.zero_add] at c1 c2 c3 c4 c5 c6
  clear c0 c1 c2 c3 c4 c5 c6
  go_enter Try.func48, Try.ntmps48
  go_wp2_with fail
  refine (isName_any f.name _ hname).mono ?_
  rintro e w1 ⟨rfl, rfl⟩
  cases hn : nameB f.name with
  | false =>
    have hv : faceE f l = 5 := by simp [faceE, hn]
    have HV := Lib.hid hv
    clear hv
    go_wp2_with fail
    go_ret
    exact ⟨by rw [HV.out]; rfl, hB⟩
  | true =>
  go_wp2_with fail
  refine (findFace_any sa slen cap l f.name _ (HS.out.below hB) hl).mono ?_
  rintro e w1 ⟨rfl, hb1⟩
  have hb2 := hB.trans (hb1.mono (by simp))
  have hbk1 := hbk.belowS hb1
  obtain ⟨c0, c1, c2, c3, c4, c5, c6⟩ := fac_cells hbk1
  simp only [Nat.zero_add] at c1 c2 c3 c4 c5 c6
  have hsp := HF.out.1.below hb2
  generalize hidx : idxF l f.name = x
  have HX := Lib.hid hidx
  have HN := Lib.hid hn
  clear hidx hb1 hbk hbk1 hn
  by_cases hx : 0 ≤ x
  · have hv : faceE f l = 6 := by simp [faceE, HN.out, HX.out, hx]
    have HV := Lib.hid hv
    clear hv
    go_wp2_with fail
    go_ret
    exact ⟨by rw [HV.out]; rfl, hb2⟩
  go_wp2_with fail
  refine (isFromSide_any f.side 1 4 _).mono ?_
  rintro e w2 ⟨rfl, rfl⟩
  cases hside : isFromB f.side 1 4 with
  | false =>
    have hv : faceE f l = 1 := by simp [faceE, HN.out, HX.out, hx, hside]
    have HV := Lib.hid hv
    clear hv
    go_wp2_with fail
    go_ret
    exact ⟨by rw [HV.out]; rfl, hb2⟩
  | true =>
  have Hside := Lib.hid hside
  go_wp2_with fail
  refine (isFrom_any f.foot 0 10000 _).mono ?_
  rintro e w3 ⟨rfl, rfl⟩
  cases hfoot : isFromB f.foot 0 10000 with
  | false =>
    have hv : faceE f l = 1 := by simp [faceE, HN.out, HX.out, hx, Hside.out, hfoot]
    have HV := Lib.hid hv
    clear hv
    go_wp2_with fail
    go_ret
    exact ⟨by rw [HV.out]; rfl, hb2⟩
  | true =>
  have Hfoot := Lib.hid hfoot
  go_wp2_with fail
  refine (isFrom_any f.base 0 10000 _).mono ?_
  rintro e w4 ⟨rfl, rfl⟩
  cases hbase : isFromB f.base 0 10000 with
  | false =>
    have hv : faceE f l = 1 := by simp [faceE, HN.out, HX.out, hx, Hside.out, Hfoot.out, hbase]
    have HV := Lib.hid hv
    clear hv
    go_wp2_with fail
    go_ret
    exact ⟨by rw [HV.out]; rfl, hb2⟩
  | true =>
  have Hbase := Lib.hid hbase
  go_wp2_with fail
  refine (isFrom_any f.rise 1 100 _).mono ?_
  rintro e w5 ⟨rfl, rfl⟩
  cases hrise : isFromB f.rise 1 100 with
  | false =>
    have hv : faceE f l = 1 := by simp [faceE, HN.out, HX.out, hx, Hside.out, Hfoot.out, Hbase.out, hrise]
    have HV := Lib.hid hv
    clear hv
    go_wp2_with fail
    go_ret
    exact ⟨by rw [HV.out]; rfl, hb2⟩
  | true =>
  have Hrise := Lib.hid hrise
  go_wp2_with fail
  refine (isFrom_any f.run 1 100 _).mono ?_
  rintro e w6 ⟨rfl, rfl⟩
  cases hrun : isFromB f.run 1 100 with
  | false =>
    have hv : faceE f l = 1 := by simp [faceE, HN.out, HX.out, hx, Hside.out, Hfoot.out, Hbase.out, Hrise.out, hrun]
    have HV := Lib.hid hv
    clear hv
    go_wp2_with fail
    go_ret
    exact ⟨by rw [HV.out]; rfl, hb2⟩
  | true =>
  have Hrun := Lib.hid hrun
  have hx0 : ¬ 0 ≤ x := by omega
  have hv : faceE f l = outlineE f.cs := by simp [faceE, HN.out, HX.out, hx0, Hside.out, Hfoot.out, Hbase.out, Hrise.out, Hrun.out]
  have HV := Lib.hid hv
  clear hv hx0
  go_wp2_with fail
  refine (checkOutline_any f.ca f.cs.length f.cc f.cs _ hsp hlen).mono ?_
  rintro e w9 ⟨rfl, hb9⟩
  go_wp2_with fail
  go_ret
  exact ⟨by rw [HV.out]; rfl, hb2.trans (hb9.mono hb2.size)⟩
end
end Go.Proofs.Ytpdgcajbdaleeaa
