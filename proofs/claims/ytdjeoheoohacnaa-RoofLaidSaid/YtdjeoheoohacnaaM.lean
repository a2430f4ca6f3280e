/- Openings: names and boxes compared; slices.ContainsFunc over openings. -/
import Derived.Test.YtdjeoheoohacnaaL
namespace Go.Proofs.Ytdjeoheoohacnaa
open Go.RowKit

def meetB (a b : Opn) : Bool := decide (a.lo.x ≤ b.hi.x) && (decide (b.lo.x ≤ a.hi.x) && (decide (a.lo.y ≤ b.hi.y) && decide (b.lo.y ≤ a.hi.y)))

set_option maxHeartbeats 1000000 in
theorem boxesMeet_any (a b : Opn) (w : World) :
    Calls Try.prog 63 #[.agg #[.string a.name, .int .i64 a.face, .int .i64 a.lo.x, .int .i64 a.lo.y, .int .i64 a.hi.x, .int .i64 a.hi.y], .agg #[.string b.name, .int .i64 b.face, .int .i64 b.lo.x, .int .i64 b.lo.y, .int .i64 b.hi.x, .int .i64 b.hi.y]] w
      fun e w' => e = .returned (.bool (meetB a b)) ∧ Below w.heap.size w w' := by
  by_cases h1 : a.lo.x ≤ b.hi.x
  · by_cases h2 : b.lo.x ≤ a.hi.x
    · by_cases h3 : a.lo.y ≤ b.hi.y
      · have hv : meetB a b = decide (b.lo.y ≤ a.hi.y) := by simp [meetB, h1, h2, h3]
        have HV := Lib.hid hv
        clear hv
        go_enter Try.func63, Try.ntmps63
        go_wp2_with fail
        go_ret
        exact ⟨by rw [HV.out]; rfl, ((Below.refl _ _).alloc (Nat.le_refl _) _).alloc (by simp) _⟩
      · have hv : meetB a b = false := by simp [meetB, h3]
        have HV := Lib.hid hv
        clear hv
        go_enter Try.func63, Try.ntmps63
        go_wp2_with fail
        go_ret
        exact ⟨by rw [HV.out]; rfl, ((Below.refl _ _).alloc (Nat.le_refl _) _).alloc (by simp) _⟩
    · have hv : meetB a b = false := by simp [meetB, h2]
      have HV := Lib.hid hv
      clear hv
      go_enter Try.func63, Try.ntmps63
      go_wp2_with fail
      go_ret
      exact ⟨by rw [HV.out]; rfl, ((Below.refl _ _).alloc (Nat.le_refl _) _).alloc (by simp) _⟩
  · have hv : meetB a b = false := by simp [meetB, h1]
    have HV := Lib.hid hv
    clear hv
    go_enter Try.func63, Try.ntmps63
    go_wp2_with fail
    go_ret
    exact ⟨by rw [HV.out]; rfl, ((Below.refl _ _).alloc (Nat.le_refl _) _).alloc (by simp) _⟩

def opnC (o : Opn) : Array Value := #[.string o.name, .int .i64 o.face, .int .i64 o.lo.x, .int .i64 o.lo.y, .int .i64 o.hi.x, .int .i64 o.hi.y]

theorem checkOpen1_any (a o : Opn) (B : Nat) (w : World) (hm : Blk w B (opnC o) 43) :
    Calls Try.prog 60 #[.agg #[.string a.name, .int .i64 a.face, .int .i64 a.lo.x, .int .i64 a.lo.y, .int .i64 a.hi.x, .int .i64 a.hi.y], .pointer (some ⟨B, 0, none⟩)] w
      fun e w' => e = .returned (.bool (strB a.name o.name)) ∧ Below w.heap.size w w' := by
  have hlt := hm.lt
  have c0 : w.cell? ⟨B, 0, none⟩ = some (.string o.name) := hm.cell 0
  go_enter Try.func60, Try.ntmps60
  go_wp2
  go_ret
  exact ⟨rfl, (Below.refl _ _).alloc (Nat.le_refl _) _⟩

theorem checkOpen2_any (a o : Opn) (B : Nat) (w : World) (hm : Blk w B (opnC o) 43) :
    Calls Try.prog 62 #[.agg #[.string a.name, .int .i64 a.face, .int .i64 a.lo.x, .int .i64 a.lo.y, .int .i64 a.hi.x, .int .i64 a.hi.y], .pointer (some ⟨B, 0, none⟩)] w
      fun e w' => e = .returned (.bool (meetB a o)) ∧ Below w.heap.size w w' := by
  have hlt := hm.lt
  have hB : Below w.heap.size w (w.alloc (.cells (opnC a) 43)) := (Below.refl _ _).alloc (Nat.le_refl _) _
  have c0 : w.cell? ⟨B, 0, none⟩ = some (.string o.name) := hm.cell 0
  have c1 : w.cell? ⟨B, 1, none⟩ = some (.int .i64 o.face) := hm.cell 1
  have c2 : w.cell? ⟨B, 2, none⟩ = some (.int .i64 o.lo.x) := hm.cell 2
  have c3 : w.cell? ⟨B, 3, none⟩ = some (.int .i64 o.lo.y) := hm.cell 3
  have c4 : w.cell? ⟨B, 4, none⟩ = some (.int .i64 o.hi.x) := hm.cell 4
  have c5 : w.cell? ⟨B, 5, none⟩ = some (.int .i64 o.hi.y) := hm.cell 5
  go_enter Try.func62, Try.ntmps62
  go_wp2_with fail
  refine (boxesMeet_any a o _).mono ?_
  rintro e w1 ⟨rfl, hb1⟩
  go_wp2_with fail
  go_ret
  exact ⟨rfl, hB.trans (hb1.mono (by simp))⟩

/-- The first opening, or -1. -/
def idxO (l : List Opn) (m : Opn) : Int := match l.findIdx? (fun f => strB f.name m.name) with | some k => k | none => -1

set_option maxRecDepth 100000 in
set_option maxHeartbeats 1000000 in
theorem indexO_any (sa : Option Addr) (slen cap B : Nat) (l : List Opn) (m : Opn) (w : World) (hs : IsOpns w (.slice sa slen cap) l) (hl : l.length ≤ 100000) (hm : Blk w B (opnC m) 43) :
    Calls Try.prog 95 #[.slice sa slen cap, .func (.func 60) #[] #[.pointer (some ⟨B, 0, none⟩)]] w fun e w' => e = .returned (.int .i64 (idxO l m)) ∧ Below w.heap.size w w' := by
  have hB : B < w.heap.size := hm.lt
  rcases hs with ⟨h1, rfl⟩ | ⟨b, off, c, h1, h2, h3, h4, h5⟩
  · obtain ⟨rfl, rfl, rfl⟩ := slice_inj h1
    clear h1
    go_enter Try.func95, Try.ntmps95
    go_wp2_with fail
    go_loopw [8, 5] (fun i _ wr => i = .int .i64 0 ∧ Below w.heap.size w wr) (fun _ _ _ => 0)
    case atStart => exact ⟨rfl, Below.refl _ _⟩
    case round =>
      obtain ⟨rfl, hb⟩ := hrel
      go_wp2_with fail
      go_ret
      exact ⟨rfl, hb⟩
  · obtain ⟨rfl, rfl, rfl⟩ := slice_inj h1
    clear h1
    go_enter Try.func95, Try.ntmps95
    go_wp2_with fail
    go_loopw [8, 5] (fun i _ wr => ∃ j : Nat, j ≤ l.length ∧ i = .int .i64 j ∧ (∀ f ∈ l.take j, strB f.name m.name = false) ∧ Below w.heap.size w wr) (fun i _ _ => l.length - (intOf i).toNat)
    case atStart => exact ⟨0, Nat.zero_le _, rfl, by simp, Below.refl _ _⟩
    case round =>
      obtain ⟨j, hj, rfl, hno, g2⟩ := hrel
      have hmr := hm.below g2 hB
      by_cases hlj : j < l.length
      · have hq : l[j]? = some l[j] := List.getElem?_eq_getElem hlj
        obtain ⟨c0, c1, c2, c3, c4, c5⟩ := (h5 j _ hq).1.below g2 h2
        have htk : l.take (j + 1) = l.take j ++ [l[j]] := by rw [List.take_add_one, hq]; rfl
        generalize l[j] = q at *
        have HQ := Lib.hid hq
        have HT := Lib.hid htk
        have HN := Lib.hid hno
        have H5 := Lib.hid h5
        clear hq htk hno h5
        have hj0 : (0 : Int) ≤ (j : Int) := Int.natCast_nonneg _
        have hj1 : (j : Int) < (l.length : Int) := by omega
        go_wp2_with fail
        refine (checkOpen1_any q m B _ hmr).mono ?_
        rintro e w1 ⟨rfl, hb1⟩
        have hb2 := g2.trans (hb1.mono g2.size)
        cases hst : strB q.name m.name with
        | true =>
          have hv : idxO l m = j := by rw [idxO, findIdx_at l _ j q HQ.out hst HN.out]
          have HV := Lib.hid hv
          clear hv
          go_wp2_with fail
          go_ret
          exact ⟨by rw [HV.out]; rfl, hb2⟩
        | false =>
          have HS := Lib.hid hst
          go_wp2_with fail
          refine ⟨⟨j + 1, by omega, by simp, ?_, hb2⟩, by simp [intOf]; omega⟩
          intro x hx
          rw [HT.out] at hx
          rcases List.mem_append.1 hx with hx | hx
          · exact HN.out x hx
          · obtain rfl := List.mem_singleton.1 hx
            exact HS.out
      · obtain rfl : j = l.length := by omega
        rw [List.take_length] at hno
        have hv : idxO l m = -1 := by rw [idxO, findIdx_none_take l _ hno]
        have HV := Lib.hid hv
        clear hv hno
        go_wp2_with fail
        go_ret
        exact ⟨by rw [HV.out]; rfl, g2⟩


/-- The first opening, or -1. -/
def idxM (l : List Opn) (m : Opn) : Int := match l.findIdx? (fun f => meetB f m) with | some k => k | none => -1

set_option maxRecDepth 100000 in
set_option maxHeartbeats 1000000 in
theorem indexM_any (sa : Option Addr) (slen cap B : Nat) (l : List Opn) (m : Opn) (w : World) (hs : IsOpns w (.slice sa slen cap) l) (hl : l.length ≤ 100000) (hm : Blk w B (opnC m) 43) :
    Calls Try.prog 95 #[.slice sa slen cap, .func (.func 62) #[] #[.pointer (some ⟨B, 0, none⟩)]] w fun e w' => e = .returned (.int .i64 (idxM l m)) ∧ Below w.heap.size w w' := by
  have hB : B < w.heap.size := hm.lt
  rcases hs with ⟨h1, rfl⟩ | ⟨b, off, c, h1, h2, h3, h4, h5⟩
  · obtain ⟨rfl, rfl, rfl⟩ := slice_inj h1
    clear h1
    go_enter Try.func95, Try.ntmps95
    go_wp2_with fail
    go_loopw [8, 5] (fun i _ wr => i = .int .i64 0 ∧ Below w.heap.size w wr) (fun _ _ _ => 0)
    case atStart => exact ⟨rfl, Below.refl _ _⟩
    case round =>
      obtain ⟨rfl, hb⟩ := hrel
      go_wp2_with fail
      go_ret
      exact ⟨rfl, hb⟩
  · obtain ⟨rfl, rfl, rfl⟩ := slice_inj h1
    clear h1
    go_enter Try.func95, Try.ntmps95
    go_wp2_with fail
    go_loopw [8, 5] (fun i _ wr => ∃ j : Nat, j ≤ l.length ∧ i = .int .i64 j ∧ (∀ f ∈ l.take j, meetB f m = false) ∧ Below w.heap.size w wr) (fun i _ _ => l.length - (intOf i).toNat)
    case atStart => exact ⟨0, Nat.zero_le _, rfl, by simp, Below.refl _ _⟩
    case round =>
      obtain ⟨j, hj, rfl, hno, g2⟩ := hrel
      have hmr := hm.below g2 hB
      by_cases hlj : j < l.length
      · have hq : l[j]? = some l[j] := List.getElem?_eq_getElem hlj
        obtain ⟨c0, c1, c2, c3, c4, c5⟩ := (h5 j _ hq).1.below g2 h2
        have htk : l.take (j + 1) = l.take j ++ [l[j]] := by rw [List.take_add_one, hq]; rfl
        generalize l[j] = q at *
        have HQ := Lib.hid hq
        have HT := Lib.hid htk
        have HN := Lib.hid hno
        have H5 := Lib.hid h5
        clear hq htk hno h5
        have hj0 : (0 : Int) ≤ (j : Int) := Int.natCast_nonneg _
        have hj1 : (j : Int) < (l.length : Int) := by omega
        go_wp2_with fail
        refine (checkOpen2_any q m B _ hmr).mono ?_
        rintro e w1 ⟨rfl, hb1⟩
        have hb2 := g2.trans (hb1.mono g2.size)
        cases hst : meetB q m with
        | true =>
          have hv : idxM l m = j := by rw [idxM, findIdx_at l _ j q HQ.out hst HN.out]
          have HV := Lib.hid hv
          clear hv
          go_wp2_with fail
          go_ret
          exact ⟨by rw [HV.out]; rfl, hb2⟩
        | false =>
          have HS := Lib.hid hst
          go_wp2_with fail
          refine ⟨⟨j + 1, by omega, by simp, ?_, hb2⟩, by simp [intOf]; omega⟩
          intro x hx
          rw [HT.out] at hx
          rcases List.mem_append.1 hx with hx | hx
          · exact HN.out x hx
          · obtain rfl := List.mem_singleton.1 hx
            exact HS.out
      · obtain rfl : j = l.length := by omega
        rw [List.take_length] at hno
        have hv : idxM l m = -1 := by rw [idxM, findIdx_none_take l _ hno]
        have HV := Lib.hid hv
        clear hv hno
        go_wp2_with fail
        go_ret
        exact ⟨by rw [HV.out]; rfl, g2⟩


theorem containsO_any (sa : Option Addr) (slen cap B : Nat) (l : List Opn) (m : Opn) (w : World) (hs : IsOpns w (.slice sa slen cap) l) (hl : l.length ≤ 100000) (hm : Blk w B (opnC m) 43) :
    Calls Try.prog 59 #[.slice sa slen cap, .func (.func 60) #[] #[.pointer (some ⟨B, 0, none⟩)]] w fun e w' => e = .returned (.bool (decide (0 ≤ idxO l m))) ∧ Below w.heap.size w w' := by
  go_enter Try.func59, Try.ntmps59
  go_wp2_with fail
  refine (indexO_any sa slen cap B l m _ hs hl hm).mono ?_
  rintro e w1 ⟨rfl, hb1⟩
  go_wp2
  go_ret
  exact ⟨rfl, hb1⟩

theorem containsM_any (sa : Option Addr) (slen cap B : Nat) (l : List Opn) (m : Opn) (w : World) (hs : IsOpns w (.slice sa slen cap) l) (hl : l.length ≤ 100000) (hm : Blk w B (opnC m) 43) :
    Calls Try.prog 59 #[.slice sa slen cap, .func (.func 62) #[] #[.pointer (some ⟨B, 0, none⟩)]] w fun e w' => e = .returned (.bool (decide (0 ≤ idxM l m))) ∧ Below w.heap.size w w' := by
  go_enter Try.func59, Try.ntmps59
  go_wp2_with fail
  refine (indexM_any sa slen cap B l m _ hs hl hm).mono ?_
  rintro e w1 ⟨rfl, hb1⟩
  go_wp2
  go_ret
  exact ⟨rfl, hb1⟩
end Go.Proofs.Ytdjeoheoohacnaa
