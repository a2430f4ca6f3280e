/- slices.Index and Contains over points; plane.CheckCorners. (genWJ.py makes it out of the roof's texts) No condition. -/
import Derived.Test.YtoigihmgjacbjaaDoorWI
import Derived.Deep.QuietTactic
import Derived.BigQuiet
import Derived.Deep.RegionHeld3
set_option linter.unusedSimpArgs false
namespace Go.Proofs.YtoigihmgjacbjaaDoor
open Go.RowKit

theorem run_equalIn_at (d : Nat) (p q : Pnt) (w : World) : (Op.equalIn (d + 2) 45 (.agg #[.int .i64 p.x, .int .i64 p.y]) (.agg #[.int .i64 q.x, .int .i64 q.y])).run Tryd.prog w = .ok (decide (p = q)) w := by
  rw [run_equalIn_struct w (d + 1) 45 _ _ (by kernel_rfl) (by kernel_rfl)]
  obtain ⟨px, py⟩ := p
  obtain ⟨qx, qy⟩ := q
  by_cases h1 : px = qx <;> by_cases h2 : py = qy
  all_goals simp [Program.fieldsOf, Tryd.underlying45, Op.eqFields, go_sem, h1, h2]
theorem run_eql_at (e o : Pnt) (w : World) : (binOp .eql 45 (.agg #[.int .i64 e.x, .int .i64 e.y]) (.agg #[.int .i64 o.x, .int .i64 o.y])).run Tryd.prog w = .ok (.bool (decide (e = o))) w := by
  simp [binOp, Op.equal, Op.maxDepth, run_equalIn_at 9998]
/-- The first index of a point, or -1. -/
def idxP (l : List Pnt) (p : Pnt) : Int := match l.findIdx? (fun q => decide (p = q)) with | some k => k | none => -1

theorem findIdx_none_take {α : Type} (l : List α) (f : α → Bool) (h : ∀ x ∈ l, f x = false) : l.findIdx? f = none := by
  rw [List.findIdx?_eq_none_iff]
  exact h
theorem findIdx_at {α : Type} (l : List α) (f : α → Bool) (j : Nat) (x : α) (hj : l[j]? = some x) (hx : f x = true) (h : ∀ y ∈ l.take j, f y = false) : l.findIdx? f = some j := by
  obtain ⟨hlt, hx'⟩ := List.getElem?_eq_some_iff.1 hj
  rw [List.findIdx?_eq_some_iff_getElem]
  refine ⟨hlt, by rw [hx']; exact hx, fun i hi => ?_⟩
  have := h (l[i]'(by omega)) (by rw [List.mem_take_iff_getElem]; exact ⟨i, by omega, rfl⟩)
  simp [this]

theorem below_drewN (B : Nat) (w : World) (n : Nat) : Below B w (w.drewN n) := ⟨rfl, rfl, rfl, Nat.le_refl _, fun _ _ => rfl⟩

set_option maxRecDepth 100000 in
set_option maxHeartbeats 1000000 in
theorem indexP_any (sa : Option Addr) (slen cap : Nat) (l : List Pnt) (p : Pnt) (w : World) (hs : IsPts w (.slice sa slen cap) l) (hl : l.length ≤ 1000) :
    Calls Tryd.prog 98 #[.slice sa slen cap, .agg #[.int .i64 p.x, .int .i64 p.y]] w fun e w' => e = .returned (.int .i64 (idxP l p)) ∧ Below w.heap.size w w' := by
  rcases hs with ⟨⟨_, _, h1⟩, rfl⟩ | ⟨b, off, c, h1, h2, h3, h4, h5⟩
  · obtain ⟨rfl, rfl, rfl⟩ := slice_inj h1
    clear h1
    go_enter Tryd.func98, Tryd.ntmps98
    go_wp2
    go_loopw [8, 5] (fun i _ wr => i = .int .i64 0 ∧ Below w.heap.size w wr) (fun _ _ _ => 0)
    case atStart => exact ⟨rfl, (Below.refl _ _).alloc (Nat.le_refl _) _⟩
    case round =>
      obtain ⟨rfl, hb⟩ := hrel
      go_wp2
      go_ret
      exact ⟨rfl, hb⟩
  · obtain ⟨rfl, rfl, rfl⟩ := slice_inj h1
    clear h1
    have bP := Blk.new w 45 #[.int .i64 p.x, .int .i64 p.y]
    go_enter Tryd.func98, Tryd.ntmps98
    go_wp2
    go_loopw [8, 5] (fun i _ wr => ∃ j : Nat, j ≤ l.length ∧ i = .int .i64 j ∧ (∀ q ∈ l.take j, decide (p = q) = false) ∧ Blk wr w.heap.size #[.int .i64 p.x, .int .i64 p.y] 45 ∧ Below w.heap.size w wr) (fun i _ _ => l.length - (intOf i).toNat)
    case atStart => exact ⟨0, Nat.zero_le _, rfl, by simp, bP, (Below.refl _ _).alloc (Nat.le_refl _) _⟩
    case round =>
      obtain ⟨j, hj, rfl, hno, g1, g2⟩ := hrel
      by_cases hlj : j < l.length
      · have hq : l[j]? = some l[j] := List.getElem?_eq_getElem hlj
        have hcc := h5.below g2 h2 j _ hq
        have htk : l.take (j + 1) = l.take j ++ [l[j]] := by rw [List.take_add_one, hq]; rfl
        generalize l[j] = q at *
        have HQ := Lib.hid hq
        have HT := Lib.hid htk
        have HN := Lib.hid hno
        clear hq htk hno
        have q0 := hcc.1
        have q1 := hcc.2
        clear hcc
        have p0 := g1.cell 0
        have p1 := g1.cell 1
        simp only [List.getElem?_toArray, List.getElem?_cons_zero, List.getElem?_cons_succ] at p0 p1
        by_cases hpq : p = q
        · subst hpq
          have he : ∀ w, (Op.equalIn 10000 45 (.agg #[.int .i64 p.x, .int .i64 p.y]) (.agg #[.int .i64 p.x, .int .i64 p.y])).run Tryd.prog w = .ok true w := fun w => (run_equalIn_at 9998 p p w).trans (by simp)
          have hj0 : (0 : Int) ≤ (j : Int) := Int.natCast_nonneg _
          have hj1 : (j : Int) < (l.length : Int) := by omega
          go_wp2
          go_quiet (fail)
          go_wp2
          go_ret
          refine ⟨?_, g2.trans (below_drewN _ _ _)⟩
          rw [idxP, findIdx_at l _ j p HQ.out (by simp) HN.out]
          rfl
        · have he : ∀ w, (Op.equalIn 10000 45 (.agg #[.int .i64 p.x, .int .i64 p.y]) (.agg #[.int .i64 q.x, .int .i64 q.y])).run Tryd.prog w = .ok false w := fun w => (run_equalIn_at 9998 p q w).trans (by simp [hpq])
          have hj0 : (0 : Int) ≤ (j : Int) := Int.natCast_nonneg _
          have hj1 : (j : Int) < (l.length : Int) := by omega
          have HPQ := Lib.hid hpq
          clear hpq
          go_wp2
          go_quiet (fail)
          go_wp2
          refine ⟨⟨j + 1, by omega, by simp, ?_, g1, g2.trans (below_drewN _ _ _)⟩, by simp [intOf]; omega⟩
          intro x hx
          rw [HT.out] at hx
          rcases List.mem_append.1 hx with hx | hx
          · exact HN.out x hx
          · obtain rfl := List.mem_singleton.1 hx
            exact decide_eq_false HPQ.out
      · obtain rfl : j = l.length := by omega
        rw [List.take_length] at hno
        have hv : idxP l p = -1 := by rw [idxP, findIdx_none_take l _ hno]
        have HV := Lib.hid hv
        clear hv hno
        go_wp2
        go_ret
        exact ⟨by rw [HV.out]; rfl, g2⟩

theorem idxP_mem (l : List Pnt) (p : Pnt) : decide (0 ≤ idxP l p) = decide (p ∈ l) := by
  unfold idxP
  cases h : l.findIdx? (fun q => decide (p = q)) with
  | none =>
    rw [List.findIdx?_eq_none_iff] at h
    have : p ∉ l := fun hp => by simpa using h p hp
    simp [this]
  | some k =>
    obtain ⟨hk, h1, _⟩ := List.findIdx?_eq_some_iff_getElem.1 h
    have : p ∈ l := by
      have e : p = l[k] := by simpa using h1
      rw [e]; exact List.getElem_mem hk
    simp [this]

theorem containsP_any (sa : Option Addr) (slen cap : Nat) (l : List Pnt) (p : Pnt) (w : World) (hs : IsPts w (.slice sa slen cap) l) (hl : l.length ≤ 1000) :
    Calls Tryd.prog 90 #[.slice sa slen cap, .agg #[.int .i64 p.x, .int .i64 p.y]] w fun e w' => e = .returned (.bool (decide (p ∈ l))) ∧ Below w.heap.size w w' := by
  have hB : Below w.heap.size w (w.alloc (.cells #[.int .i64 p.x, .int .i64 p.y] 45)) := (Below.refl _ _).alloc (Nat.le_refl _) _
  have hm := Lib.hid (idxP_mem l p)
  go_enter Tryd.func90, Tryd.ntmps90
  go_wp2_with fail
  refine (indexP_any sa slen cap l p _ (hs.below hB) hl).mono ?_
  rintro e w1 ⟨rfl, hb1⟩
  go_wp2
  go_ret
  exact ⟨by rw [← hm.out]; rfl, hB.trans (hb1.mono (by simp))⟩
/-- Some corner stands twice. -/
def twiceP (l : List Pnt) : Bool := (List.range l.length).any fun i => decide (l[i]?.getD ⟨0, 0⟩ ∈ l.take i)
def cornE (l : List Pnt) : Int := if l.all pointB = false then 1 else if twiceP l = true then 6 else if convexL l = false then 9 else 0
/-- The cells of a point's box. -/
abbrev HeldP (W : World) (B : Nat) (q : Pnt) (w : World) : Prop := Below W.heap.size W w ∧ (w.cell? ⟨B, 0, none⟩ = some (.int .i64 q.x) ∧ w.cell? ⟨B, 1, none⟩ = some (.int .i64 q.y))
theorem HeldP.step {W w w' : World} {B : Nat} {q : Pnt} (h : HeldP W B q w) (hB : B < W.heap.size) (hb : Below w.heap.size w w') : HeldP W B q w' :=
  ⟨h.1.trans (hb.mono h.1.size), (hb.cell (p := ⟨B, 0, none⟩) (Nat.lt_of_lt_of_le hB h.1.size)).trans h.2.1, (hb.cell (p := ⟨B, 1, none⟩) (Nat.lt_of_lt_of_le hB h.1.size)).trans h.2.2⟩

set_option maxRecDepth 100000 in
set_option maxHeartbeats 2000000 in
theorem checkCorners_any (sa : Option Addr) (slen cap : Nat) (l : List Pnt) (w : World) (hs : IsPts w (.slice sa slen cap) l) (hn1 : 1 ≤ l.length) (h12 : l.length ≤ 1000) :
    Calls Tryd.prog 84 #[.slice sa slen cap] w fun e w' => e = .returned (.int .i64 (cornE l)) ∧ Below w.heap.size w w' := by
  have hlen : slen = l.length := by
    rcases hs with ⟨⟨_, _, h1⟩, rfl⟩ | ⟨b, off, c, h1, _⟩
    · exact (slice_inj h1).2.1
    · exact (slice_inj h1).2.1
  subst hlen
  rcases hs with ⟨hx1, hx2⟩ | ⟨b, off, c, hx1, hx2, hx3, hx4, hx5⟩
  · subst hx2
    simp at hn1
  obtain ⟨rfl, _, rfl⟩ := slice_inj hx1
  clear hx1
  go_enter Tryd.func84, Tryd.ntmps84
  go_wp2_with fail
  go_loopw [9, 4] (fun i _ wr => ∃ j : Nat, j ≤ l.length ∧ i = .int .i64 j ∧ (l.take j).all pointB = true ∧ Below w.heap.size w wr) (fun i _ _ => l.length - (intOf i).toNat)
  case atStart => exact ⟨0, Nat.zero_le _, rfl, by simp, Below.refl _ _⟩
  case round =>
    obtain ⟨j, hj, rfl, hall, g2⟩ := hrel
    by_cases hlj : j < l.length
    · have hq : l[j]? = some l[j] := List.getElem?_eq_getElem hlj
      obtain ⟨q0, q1⟩ := hx5.below g2 hx2 j _ hq
      have ht := take_all_succ' l pointB j _ hq
      rw [hall] at ht
      have hm : l[j] ∈ l := List.getElem_mem hlj
      have hbs : b < wr.heap.size := Nat.lt_of_lt_of_le hx2 g2.size
      generalize l[j] = q at *
      have HT := Lib.hid ht
      have HM := Lib.hid hm
      clear hq ht hm hall
      have hb0 : Below wr.heap.size wr (wr.alloc (.cells #[.int .i64 q.x, .int .i64 q.y] 45)) := (Below.refl _ wr).alloc (Nat.le_refl _) _
      go_wp2_with fail
      refine (planePoint_any q _).mono ?_
      rintro e w1 ⟨rfl, hb1⟩
      have hb2 := (g2.trans (hb0.mono g2.size)).trans (hb1.mono (by have := g2.size; simp; omega))
      cases hok : pointB q with
      | true =>
        have HO := Lib.hid hok
        go_wp2_with fail
        refine ⟨⟨j + 1, by omega, by simp, ?_, hb2⟩, by simp [intOf]; omega⟩
        rw [HT.out]
        exact HO.out
      | false =>
        have hv : cornE l = 1 := by
          have : l.all pointB = false := by
            rw [Bool.eq_false_iff]
            intro h
            have := List.all_eq_true.1 h q HM.out
            rw [hok] at this
            cases this
          simp [cornE, this]
        have HV := Lib.hid hv
        clear hv
        go_wp2_with fail
        go_ret
        exact ⟨by rw [HV.out]; rfl, hb2⟩
    · obtain rfl : j = l.length := by omega
      rw [List.take_length] at hall
      have hokp : okPts4 l := fun p hp => List.all_eq_true.1 hall p hp
      have HA := Lib.hid hall
      clear hall
      go_wp2_with fail
      go_loopw [19, 5, 6] (fun i _ _ wr => ∃ j : Nat, j ≤ l.length ∧ i = .int .i64 j ∧ (∀ k, k < j → decide (l[k]?.getD ⟨0, 0⟩ ∈ l.take k) = false) ∧ Below w.heap.size w wr) (fun i _ _ _ => l.length - (intOf i).toNat)
      case atStart => exact ⟨0, Nat.zero_le _, rfl, fun k h => by omega, g2⟩
      case round =>
        obtain ⟨j, hj, rfl, hno, g3⟩ := hrel
        by_cases hlj : j < l.length
        · have hq : l[j]? = some l[j] := List.getElem?_eq_getElem hlj
          obtain ⟨q0, q1⟩ := hx5.below g3 hx2 j _ hq
          have hbs : b < wr.heap.size := Nat.lt_of_lt_of_le hx2 g3.size
          have hpre : IsPts wr (.slice (some ⟨b, off, none⟩) j cap) (l.take j) := by
            refine .inr ⟨b, off, cap, ?_, hbs, ?_, hx4, ?_⟩
            · rw [List.length_take, Nat.min_eq_left hj]
            · rw [List.length_take]; omega
            · intro i p hi
              rw [List.getElem?_take] at hi
              split at hi
              · exact hx5.below g3 hx2 i p hi
              · cases hi
          generalize l[j] = q at *
          have HQ := Lib.hid hq
          have HN := Lib.hid hno
          have HP := Lib.hid hpre
          clear hq hno hpre
          have hb0 : Below wr.heap.size wr (wr.alloc (.cells #[.int .i64 q.x, .int .i64 q.y] 45)) := (Below.refl _ wr).alloc (Nat.le_refl _) _
          have hj0 : (0 : Int) ≤ (j : Int) := Int.natCast_nonneg _
          have hj1 : (j : Int) ≤ (l.length : Int) := by omega
          have hj2 : (j : Int) ≤ (cap : Int) := by omega
          have hx : HeldP (wr.alloc (.cells #[.int .i64 q.x, .int .i64 q.y] 45)) wr.heap.size q (wr.alloc (.cells #[.int .i64 q.x, .int .i64 q.y] 45)).drew :=
            ⟨(Below.refl _ _).drew, (Blk.new wr 45 #[.int .i64 q.x, .int .i64 q.y]).cell 0, (Blk.new wr 45 #[.int .i64 q.x, .int .i64 q.y]).cell 1⟩
          have hB1 : wr.heap.size < (wr.alloc (.cells #[.int .i64 q.x, .int .i64 q.y] 45)).heap.size := by simp
          have hpr : IsPts (wr.alloc (.cells #[.int .i64 q.x, .int .i64 q.y] 45)).drew (.slice (some ⟨b, off, none⟩) j cap) (l.take j) := HP.out.below (hb0.drew)
          have hl' : (l.take j).length ≤ 1000 := by rw [List.length_take]; omega
          go_wp2_with fail
          go_region_held3 (fun w' => Below (wr.alloc (.cells #[.int .i64 q.x, .int .i64 q.y] 45)).heap.size (wr.alloc (.cells #[.int .i64 q.x, .int .i64 q.y] 45)) w' ∧ (w'.cell? ⟨wr.heap.size, 0, none⟩ = some (.int .i64 q.x) ∧ w'.cell? ⟨wr.heap.size, 1, none⟩ = some (.int .i64 q.y)))
            (first | (with_reducible exact hx) | (with_reducible refine HeldP.step ?_ hB1 hb3; with_reducible assumption))
            (first | (go_at_call 90; (with_reducible refine (containsP_any (some ⟨b, off, none⟩) j cap (l.take j) q _ hpr hl').mono ?_); rintro r w3 ⟨rfl, hb3⟩))
          have hb5 := (g3.trans (hb0.mono g3.size)).trans ((Below.refl _ _).drew.trans (hb3.mono (by have := g3.size; simp; omega)))
          have hqd : l[j]?.getD ⟨0, 0⟩ = q := by rw [HQ.out]; rfl
          have HQD := Lib.hid hqd
          clear hqd hx hpr hb3
          generalize hd : decide (q ∈ l.take j) = d
          have HD := Lib.hid hd
          clear hd
          cases d with
          | true =>
            have hv : cornE l = 6 := by
              have ht : twiceP l = true := List.any_eq_true.2 ⟨j, by simpa using hlj, by rw [HQD.out]; exact HD.out⟩
              simp [cornE, HA.out, ht]
            have HV := Lib.hid hv
            clear hv
            go_wp2_with fail
            go_ret
            exact ⟨by rw [HV.out]; rfl, hb5⟩
          | false =>
            go_wp2_with fail
            refine ⟨⟨j + 1, by omega, by simp, ?_, hb5⟩, by simp [intOf]; omega⟩
            intro k hk
            by_cases hkj : k = j
            · subst hkj
              rw [HQD.out]
              exact HD.out
            · exact HN.out k (by omega)
        · obtain rfl : j = l.length := by omega
          have ht : twiceP l = false := by
            rw [Bool.eq_false_iff]
            intro h
            obtain ⟨k, hk, h'⟩ := List.any_eq_true.1 h
            rw [hno k (by simpa using hk)] at h'
            cases h'
          have HT := Lib.hid ht
          clear ht hno
          have hsp : IsPts wr (.slice (some ⟨b, off, none⟩) l.length cap) l := .inr ⟨b, off, cap, rfl, Nat.lt_of_lt_of_le hx2 g3.size, hx3, hx4, hx5.below g3 hx2⟩
          go_wp2_with fail
          refine (isConvex_any _ _ _ l _ hsp (by omega) hokp).mono ?_
          rintro e w1 ⟨rfl, hb1⟩
          have hb5 := g3.trans (hb1.mono g3.size)
          cases hc : convexL l with
          | true =>
            have hv : cornE l = 0 := by simp [cornE, HA.out, HT.out, hc]
            have HV := Lib.hid hv
            clear hv
            go_wp2_with fail
            go_ret
            exact ⟨by rw [HV.out]; rfl, hb5⟩
          | false =>
            have hv : cornE l = 9 := by simp [cornE, HA.out, HT.out, hc]
            have HV := Lib.hid hv
            clear hv
            go_wp2_with fail
            go_ret
            exact ⟨by rw [HV.out]; rfl, hb5⟩
end Go.Proofs.YtoigihmgjacbjaaDoor
