/- Heaps: a heap found by its name, the crops of its parts, isHeap. -/
import Derived.Test.YtfhalmlpnoepcaaGreatGB
namespace Go.Proofs.YtfhalmlpnoepcaaGreat
open Go.RowKit

abbrev hepV (h : Hep) : Value := .agg #[.string h.name, .int .i64 h.crop, .int .i64 h.stage, .slice h.pa h.parts.length h.pc, .int .i64 h.per, .int .i64 h.wlo, .int .i64 h.whi]


theorem isFromStage_any (n lo hi : Int) (w : World) :
    Calls Tryz.prog 101 #[.int .i64 n, .int .i64 lo, .int .i64 hi] w fun e w' => e = .returned (.bool (isFromB n lo hi)) ∧ w = w' := by
  by_cases h : lo ≤ n
  all_goals by_cases h2 : n ≤ hi
  all_goals
    go_enter Tryz.func101, Tryz.ntmps101
    go_wp2
    all_goals go_ret
    all_goals refine ⟨?_, rfl⟩
    all_goals simp [isFromB, h, h2]

theorem heapName_any (h : Hep) (nm : ByteArray) (B : Nat) (w : World) (hm : Blk w B #[.string nm] 9) :
    Calls Tryz.prog 100 #[.agg #[.string h.name, .int .i64 h.crop, .int .i64 h.stage, .slice h.pa h.parts.length h.pc, .int .i64 h.per, .int .i64 h.wlo, .int .i64 h.whi], .pointer (some ⟨B, 0, none⟩)] w
      fun e w' => e = .returned (.bool (strB h.name nm)) ∧ Below w.heap.size w w' := by
  have hlt : B < w.heap.size := hm.lt
  have c0 : w.cell? ⟨B, 0, none⟩ = some (.string nm) := hm.cell 0
  go_enter Tryz.func100, Tryz.ntmps100
  go_wp2
  go_ret
  exact ⟨rfl, (Below.refl _ _).alloc (Nat.le_refl _) _⟩

/-- The first heap of a name, or -1. -/
def idxH (l : List Hep) (nm : ByteArray) : Int := match l.findIdx? (fun h => strB h.name nm) with | some k => k | none => -1

set_option maxRecDepth 100000 in
set_option maxHeartbeats 1000000 in
theorem indexH_any (a : Option Addr) (cap B : Nat) (l : List Hep) (nm : ByteArray) (w : World) (hs : IsHeps w a cap l) (hm : Blk w B #[.string nm] 9) :
    Calls Tryz.prog 99 #[.slice a l.length cap, .func (.func 100) #[] #[.pointer (some ⟨B, 0, none⟩)]] w fun e w' => e = .returned (.int .i64 (idxH l nm)) ∧ Below w.heap.size w w' := by
  have hB : B < w.heap.size := hm.lt
  have HS := Lib.hid hs
  have HM := Lib.hid hm
  clear hm hs
  go_enter Tryz.func99, Tryz.ntmps99
  go_wp2_with fail
  go_loopw [8, 5] (fun i _ wr => ∃ j : Nat, j ≤ l.length ∧ i = .int .i64 j ∧ (∀ f ∈ l.take j, strB f.name nm = false) ∧ Below w.heap.size w wr) (fun i _ _ => l.length - (intOf i).toNat)
  case atStart => exact ⟨0, Nat.zero_le _, rfl, by simp, Below.refl _ _⟩
  case round =>
    obtain ⟨j, hj, rfl, hno, g2⟩ := hrel
    by_cases hlj : j < l.length
    · have hq : l[j]? = some l[j] := List.getElem?_eq_getElem hlj
      have htk : l.take (j + 1) = l.take j ++ [l[j]] := by rw [List.take_add_one, hq]; rfl
      obtain ⟨b, off, hea, hblt, hcap, hcx, ⟨c0, c1, c2, c3, c4, c5, c6⟩, _, _⟩ := (HS.out.belowS g2).at hq
      subst hea
      generalize l[j] = q at *
      have HQ := Lib.hid hq
      have HT := Lib.hid htk
      have HN := Lib.hid hno
      clear hq htk hno
      have hj0 : (0 : Int) ≤ (j : Int) := Int.natCast_nonneg _
      have hj1 : (j : Int) < (l.length : Int) := by omega
      go_wp2_with fail
      refine (heapName_any q nm B _ (HM.out.belowS g2)).mono ?_
      rintro e w1 ⟨rfl, hb1⟩
      have hb2 := g2.trans (hb1.mono g2.size)
      cases hst : strB q.name nm with
      | true =>
        have hv : idxH l nm = j := by rw [idxH, findIdx_at l _ j q HQ.out hst HN.out]
        have HV := Lib.hid hv
        clear hv
        go_wp2_with fail
        go_ret
        exact ⟨by rw [HV.out]; rfl, hb2⟩
      | false =>
        have HSt := Lib.hid hst
        go_wp2_with fail
        refine ⟨⟨j + 1, by omega, by simp, ?_, hb2⟩, by simp [intOf]; omega⟩
        intro x hx
        rw [HT.out] at hx
        rcases List.mem_append.1 hx with hx | hx
        · exact HN.out x hx
        · obtain rfl := List.mem_singleton.1 hx
          exact HSt.out
    · obtain rfl : j = l.length := by omega
      rw [List.take_length] at hno
      have hv : idxH l nm = -1 := by rw [idxH, findIdx_none_take l _ hno]
      have HV := Lib.hid hv
      clear hv hno
      go_wp2_with fail
      go_ret
      exact ⟨by rw [HV.out]; rfl, g2⟩

theorem findHeap_any (a : Option Addr) (cap : Nat) (l : List Hep) (nm : ByteArray) (w : World) (hs : IsHeps w a cap l) :
    Calls Tryz.prog 81 #[.slice a l.length cap, .string nm] w fun e w' => e = .returned (.int .i64 (idxH l nm)) ∧ Below w.heap.size w w' := by
  have hB : Below w.heap.size w (w.alloc (.cells #[.string nm] 9)) := (Below.refl _ _).alloc (Nat.le_refl _) _
  have hk := Blk.new w 9 #[.string nm]
  have HS := Lib.hid hs
  clear hs
  go_enter Tryz.func81, Tryz.ntmps81
  go_wp2_with fail
  refine (indexH_any a cap w.heap.size l nm _ (HS.out.belowS hB) hk).mono ?_
  rintro e w1 ⟨rfl, hb1⟩
  have hb2 := hB.trans (hb1.mono hB.size)
  go_wp2_with fail
  go_ret
  exact ⟨rfl, hb2⟩

theorem idxH_none {l : List Hep} {nm : ByteArray} (h : ∀ f ∈ l, strB f.name nm = false) : decide (0 ≤ idxH l nm) = false := by
  rw [idxH, findIdx_none_take l _ h]
  rfl
theorem idxH_some {l : List Hep} {nm : ByteArray} {q : Hep} {k : Nat} (hk : l[k]? = some q) (h : strB q.name nm = true) : decide (0 ≤ idxH l nm) = true := by
  unfold idxH
  cases hf : l.findIdx? (fun f => strB f.name nm) with
  | none =>
    rw [List.findIdx?_eq_none_iff] at hf
    rw [hf q (List.mem_of_getElem? hk)] at h
    cases h
  | some i => simp

/-- The crop of a field, by its number. -/
def cropAt (ps : List Plt) (k : Int) : Int := match ps[k.toNat]? with | some q => q.crop | none => 0
/-- A part is of another crop. -/
def offB (ps : List Plt) (c : Int) (p : Prt) : Bool := !(cropAt ps p.plot == c)
def cropsB (ps : List Plt) (c : Int) (l : List Prt) : Bool := l.all fun p => !offB ps c p
theorem IsPlts.at {w : World} {a : Option Addr} {cap : Nat} {l : List Plt} (h : IsPlts w (.slice a l.length cap) l) {j : Nat} {x : Plt} (hj : l[j]? = some x) :
    ∃ b off, a = some ⟨b, off, none⟩ ∧ b < w.heap.size ∧ l.length ≤ cap ∧ cap ≤ 9223372036854775807 ∧ PltAt w b (off + j * 9) x := by
  rcases h with ⟨_, rfl⟩ | ⟨b, off, c, e, hl, hc, hc', hp⟩
  · simp at hj
  · obtain ⟨rfl, _, rfl⟩ := slice_inj e
    exact ⟨b, off, rfl, hl, hc, hc', (hp j x hj).1⟩

set_option maxRecDepth 100000 in
set_option maxHeartbeats 4000000 in
theorem partOff_any (F : Frm) (h : Hep) (p : Prt) (B D : Nat) (w : World) (hF : IsFarm w F) (hB : Blk w B #[.slice F.pa F.ps.length F.pc, .int .i64 F.dry] 24) (hD : Blk w D (hepC h) 53) (hp : p.ok F.ps.length) (_ : F.ps.length ≤ 12) :
    Calls Tryz.prog 103 #[.agg #[.int .i64 p.plot, .int .i64 p.loads], .pointer (some ⟨B, 0, none⟩), .pointer (some ⟨D, 0, none⟩)] w
      fun e w' => e = .returned (.bool (offB F.ps h.crop p)) ∧ Below w.heap.size w w' := by
  obtain ⟨⟨h0, h1⟩, _⟩ := hp
  obtain ⟨k, hk⟩ : ∃ k : Nat, p.plot = (k : Int) := ⟨p.plot.toNat, by omega⟩
  have hkl : k < F.ps.length := by omega
  have hq : F.ps[k]? = some F.ps[k] := List.getElem?_eq_getElem hkl
  have hv : offB F.ps h.crop p = !(F.ps[k].crop == h.crop) := by rw [offB, cropAt, hk, Int.toNat_natCast, hq]
  rw [hv, hk]
  have kP := Blk.new w 79 #[.int .i64 (k : Int), .int .i64 p.loads]
  have hb : Below w.heap.size w (w.alloc (.cells #[.int .i64 (k : Int), .int .i64 p.loads] 79)) := (Below.refl _ _).alloc (Nat.le_refl _) _
  have hF1 := IsFarm.below hF hb
  obtain ⟨b, off, hea, hblt, hcap, hcx, p0, p1, _⟩ := IsPlts.at hF1 hq
  have kB := hB.belowS hb
  have kD := hD.belowS hb
  have l1 := kB.lt
  have l2 := kD.lt
  have l3 := kP.lt
  have hneq : ∀ x y : Int, (x != y) = !(x == y) := fun _ _ => rfl
  rw [hea] at kB
  have e0 := kB.cell 0
  have e1 := kD.cell 1
  have e2 := kP.cell 0
  simp only [List.getElem?_toArray, List.getElem?_cons_zero, List.getElem?_cons_succ] at e0 e1 e2
  have hk0 : (0 : Int) ≤ (k : Int) := Int.natCast_nonneg _
  have hk1 : (k : Int) < (F.ps.length : Int) := by omega
  generalize F.ps[k] = q at *
  clear hv hF hF1 hB hD kB kD kP hq
  go_enter Tryz.func103, Tryz.ntmps103
  go_upto_region 1 with fail
  generalize (w.alloc (.cells #[.int .i64 (k : Int), .int .i64 p.loads] 79)) = w1 at *
  go_quiet (fail)
  go_wp2_with fail
  go_ret
  exact ⟨rfl, hb.trans (below_drewN' _ _ _)⟩
end Go.Proofs.YtfhalmlpnoepcaaGreat
