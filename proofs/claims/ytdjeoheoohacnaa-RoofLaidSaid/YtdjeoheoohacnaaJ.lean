/- slices.Index and Contains over points; names. -/
import Derived.Test.YtdjeoheoohacnaaH
import Derived.Deep.QuietTactic
import Derived.BigQuiet
namespace Go.Proofs.Ytdjeoheoohacnaa
open Go.RowKit

/-- The first index of a point, or -1. -/
def idxP (l : List Pnt) (p : Pnt) : Int := match l.findIdx? (fun q => decide (p = q)) with | some k => k | none => -1

theorem findIdx_none_take {α : Type} (l : List α) (f : α → Bool) (h : ∀ x ∈ l, f x = false) : l.findIdx? f = none := by
  rw [List.findIdx?_eq_none_iff]
  exact h
theorem findIdx_at {α : Type} (l : List α) (f : α → Bool) (j : Nat) (x : α) (hj : l[j]? = some x) (hx : f x = true) (h : ∀ y ∈ l.take j, f y = false) : l.findIdx? f = some j := by
  obtain ⟨hlt, hx'⟩ := List.getElem?_eq_some_iff.1 hj
  rw [List.findIdx?_eq_some_iff_getElem]
  refine ⟨hlt, by rw [hx']; exact hx, fun i hi => ?_⟩
  have := h (l[i]'(by omega)) (by rw [List.mem_take_iff_getElem]; exact ⟨i, by omega, rfl⟩)
  simp [this]

theorem below_drewN (B : Nat) (w : World) (n : Nat) : Below B w (w.drewN n) := ⟨rfl, rfl, rfl, Nat.le_refl _, fun _ _ => rfl⟩

set_option maxRecDepth 100000 in
set_option maxHeartbeats 1000000 in
theorem indexP_any (sa : Option Addr) (slen cap : Nat) (l : List Pnt) (p : Pnt) (w : World) (hs : IsPts w (.slice sa slen cap) l) (hl : l.length ≤ 1000) :
    Calls Try.prog 114 #[.slice sa slen cap, .agg #[.int .i64 p.x, .int .i64 p.y]] w fun e w' => e = .returned (.int .i64 (idxP l p)) ∧ Below w.heap.size w w' := by
  rcases hs with ⟨⟨_, _, h1⟩, rfl⟩ | ⟨b, off, c, h1, h2, h3, h4, h5⟩
  · obtain ⟨rfl, rfl, rfl⟩ := slice_inj h1
    clear h1
    go_enter Try.func114, Try.ntmps114
    go_wp2
    go_loopw [8, 5] (fun i _ wr => i = .int .i64 0 ∧ Below w.heap.size w wr) (fun _ _ _ => 0)
    case atStart => exact ⟨rfl, (Below.refl _ _).alloc (Nat.le_refl _) _⟩
    case round =>
      obtain ⟨rfl, hb⟩ := hrel
      go_wp2
      go_ret
      exact ⟨rfl, hb⟩
  · obtain ⟨rfl, rfl, rfl⟩ := slice_inj h1
    clear h1
    have bP := Blk.new w 27 #[.int .i64 p.x, .int .i64 p.y]
    go_enter Try.func114, Try.ntmps114
    go_wp2
    go_loopw [8, 5] (fun i _ wr => ∃ j : Nat, j ≤ l.length ∧ i = .int .i64 j ∧ (∀ q ∈ l.take j, decide (p = q) = false) ∧ Blk wr w.heap.size #[.int .i64 p.x, .int .i64 p.y] 27 ∧ Below w.heap.size w wr) (fun i _ _ => l.length - (intOf i).toNat)
    case atStart => exact ⟨0, Nat.zero_le _, rfl, by simp, bP, (Below.refl _ _).alloc (Nat.le_refl _) _⟩
    case round =>
      obtain ⟨j, hj, rfl, hno, g1, g2⟩ := hrel
      by_cases hlj : j < l.length
      · have hq : l[j]? = some l[j] := List.getElem?_eq_getElem hlj
        have hcc := h5.below g2 h2 j _ hq
        have htk : l.take (j + 1) = l.take j ++ [l[j]] := by rw [List.take_add_one, hq]; rfl
        generalize l[j] = q at *
        have HQ := Lib.hid hq
        have HT := Lib.hid htk
        have HN := Lib.hid hno
        clear hq htk hno
        have q0 := hcc.1
        have q1 := hcc.2
        clear hcc
        have p0 := g1.cell 0
        have p1 := g1.cell 1
        simp only [List.getElem?_toArray, List.getElem?_cons_zero, List.getElem?_cons_succ] at p0 p1
        by_cases hpq : p = q
        · subst hpq
          have he : ∀ w, (Op.equalIn 10000 27 (.agg #[.int .i64 p.x, .int .i64 p.y]) (.agg #[.int .i64 p.x, .int .i64 p.y])).run Try.prog w = .ok true w := fun w => (run_equalIn_at 9998 p p w).trans (by simp)
          have hj0 : (0 : Int) ≤ (j : Int) := Int.natCast_nonneg _
          have hj1 : (j : Int) < (l.length : Int) := by omega
          go_wp2
          go_quiet (fail)
          go_wp2
          go_ret
          refine ⟨?_, g2.trans (below_drewN _ _ _)⟩
          rw [idxP, findIdx_at l _ j p HQ.out (by simp) HN.out]
          rfl
        · have he : ∀ w, (Op.equalIn 10000 27 (.agg #[.int .i64 p.x, .int .i64 p.y]) (.agg #[.int .i64 q.x, .int .i64 q.y])).run Try.prog w = .ok false w := fun w => (run_equalIn_at 9998 p q w).trans (by simp [hpq])
          have hj0 : (0 : Int) ≤ (j : Int) := Int.natCast_nonneg _
          have hj1 : (j : Int) < (l.length : Int) := by omega
          have HPQ := Lib.hid hpq
          clear hpq
          go_wp2
          go_quiet (fail)
          go_wp2
          refine ⟨⟨j + 1, by omega, by simp, ?_, g1, g2.trans (below_drewN _ _ _)⟩, by simp [intOf]; omega⟩
          intro x hx
          rw [HT.out] at hx
          rcases List.mem_append.1 hx with hx | hx
          · exact HN.out x hx
          · obtain rfl := List.mem_singleton.1 hx
            exact decide_eq_false HPQ.out
      · obtain rfl : j = l.length := by omega
        rw [List.take_length] at hno
        have hv : idxP l p = -1 := by rw [idxP, findIdx_none_take l _ hno]
        have HV := Lib.hid hv
        clear hv hno
        go_wp2
        go_ret
        exact ⟨by rw [HV.out]; rfl, g2⟩

theorem idxP_mem (l : List Pnt) (p : Pnt) : decide (0 ≤ idxP l p) = decide (p ∈ l) := by
  unfold idxP
  cases h : l.findIdx? (fun q => decide (p = q)) with
  | none =>
    rw [List.findIdx?_eq_none_iff] at h
    have : p ∉ l := fun hp => by simpa using h p hp
    simp [this]
  | some k =>
    obtain ⟨hk, h1, _⟩ := List.findIdx?_eq_some_iff_getElem.1 h
    have : p ∈ l := by
      have e : p = l[k] := by simpa using h1
      rw [e]; exact List.getElem_mem hk
    simp [this]

theorem containsP_any (sa : Option Addr) (slen cap : Nat) (l : List Pnt) (p : Pnt) (w : World) (hs : IsPts w (.slice sa slen cap) l) (hl : l.length ≤ 1000) :
    Calls Try.prog 93 #[.slice sa slen cap, .agg #[.int .i64 p.x, .int .i64 p.y]] w fun e w' => e = .returned (.bool (decide (p ∈ l))) ∧ Below w.heap.size w w' := by
  have hB : Below w.heap.size w (w.alloc (.cells #[.int .i64 p.x, .int .i64 p.y] 27)) := (Below.refl _ _).alloc (Nat.le_refl _) _
  have hm := Lib.hid (idxP_mem l p)
  go_enter Try.func93, Try.ntmps93
  go_wp2_with fail
  refine (indexP_any sa slen cap l p _ (hs.below hB) hl).mono ?_
  rintro e w1 ⟨rfl, hb1⟩
  go_wp2
  go_ret
  exact ⟨by rw [← hm.out]; rfl, hB.trans (hb1.mono (by simp))⟩
end Go.Proofs.Ytdjeoheoohacnaa
