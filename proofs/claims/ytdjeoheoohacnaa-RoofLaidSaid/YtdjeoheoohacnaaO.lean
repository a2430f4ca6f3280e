/- checkFace: the first error of a face. -/
import Derived.Test.YtdjeoheoohacnaaN
namespace Go.Proofs.Ytdjeoheoohacnaa
open Go.RowKit

def faceE (f : Fac) (ahead : List Fac) : Int :=
  if nameB f.name = false then 5 else if decide (0 ≤ idxF ahead f.name) = true then 6 else if isFromB f.side 1 4 = false then 1 else
    if isFromB f.foot 0 10000 = false then 1 else if isFromB f.base 0 10000 = false then 1 else if isFromB f.rise 1 100 = false then 1 else if isFromB f.run 1 100 = false then 1 else outlineE f.cs

def facC (f : Fac) : Array Value := #[.string f.name, .int .i64 f.side, .int .i64 f.foot, .int .i64 f.base, .int .i64 f.rise, .int .i64 f.run, .slice f.ca f.cs.length f.cc]
theorem fac_cells {W : World} {B : Nat} {f : Fac} {t : TypeId} (h : Blk W B (facC f) t) : FacAt W B 0 f := ⟨h.cell 0, h.cell 1, h.cell 2, h.cell 3, h.cell 4, h.cell 5, h.cell 6⟩

set_option maxRecDepth 100000 in
set_option maxHeartbeats 2000000 in
theorem checkFace_any (f : Fac) (sa : Option Addr) (slen cap : Nat) (l : List Fac) (w : World) (hf : FacIn w f) (hs : IsFacs w (.slice sa slen cap) l) (hl : l.length ≤ 100000) :
    Calls Try.prog 35 #[.agg #[.string f.name, .int .i64 f.side, .int .i64 f.foot, .int .i64 f.base, .int .i64 f.rise, .int .i64 f.run, .slice f.ca f.cs.length f.cc], .slice sa slen cap] w
      fun e w' => e = .returned (.int .i64 (faceE f l)) ∧ Below w.heap.size w w' := by
  have hB : Below w.heap.size w (w.alloc (.cells (facC f) 37)) := (Below.refl _ _).alloc (Nat.le_refl _) _
  have hbk : Blk (w.alloc (.cells (facC f) 37)) w.heap.size (facC f) 37 := Blk.new _ _ _
  have hlen : f.cs.length ≤ 9223372036854775807 := by
    rcases hf.1 with ⟨h1, h2⟩ | ⟨b, off, c, h1, h2, h3, h4, _⟩
    · rw [h2]; simp
    · omega
  have hname := hf.2
  have HF := Lib.hid hf
  have HS := Lib.hid hs
  clear hf hs
  obtain ⟨c0, c1, c2, c3, c4, c5, c6⟩ := fac_cells hbk
  unfold facC at c0 c1 c2 c3 c4 c5 c6
  simp only [Nat.zero_add] at c1 c2 c3 c4 c5 c6
  clear c0 c1 c2 c3 c4 c5 c6
  go_enter Try.func35, Try.ntmps35
  go_wp2_with fail
  refine (isName_any f.name _ hname).mono ?_
  rintro e w1 ⟨rfl, rfl⟩
  cases hn : nameB f.name with
  | false =>
    have hv : faceE f l = 5 := by simp [faceE, hn]
    have HV := Lib.hid hv
    clear hv
    go_wp2_with fail
    go_ret
    exact ⟨by rw [HV.out]; rfl, hB⟩
  | true =>
  go_wp2_with fail
  refine (findFace_any sa slen cap l f.name _ (HS.out.below hB) hl).mono ?_
  rintro e w1 ⟨rfl, hb1⟩
  have hb2 := hB.trans (hb1.mono (by simp))
  have hbk1 := hbk.belowS hb1
  obtain ⟨c0, c1, c2, c3, c4, c5, c6⟩ := fac_cells hbk1
  simp only [Nat.zero_add] at c1 c2 c3 c4 c5 c6
  have hsp := HF.out.1.below hb2
  generalize hidx : idxF l f.name = x
  have HX := Lib.hid hidx
  have HN := Lib.hid hn
  clear hidx hb1 hbk hbk1 hn
  by_cases hx : 0 ≤ x
  · have hv : faceE f l = 6 := by simp [faceE, HN.out, HX.out, hx]
    have HV := Lib.hid hv
    clear hv
    go_wp2_with fail
    go_ret
    exact ⟨by rw [HV.out]; rfl, hb2⟩
  go_wp2_with fail
  refine (isFromSide_any f.side 1 4 _).mono ?_
  rintro e w2 ⟨rfl, rfl⟩
  cases hside : isFromB f.side 1 4 with
  | false =>
    have hv : faceE f l = 1 := by simp [faceE, HN.out, HX.out, hx, hside]
    have HV := Lib.hid hv
    clear hv
    go_wp2_with fail
    go_ret
    exact ⟨by rw [HV.out]; rfl, hb2⟩
  | true =>
  have Hside := Lib.hid hside
  go_wp2_with fail
  refine (isFrom_any f.foot 0 10000 _).mono ?_
  rintro e w3 ⟨rfl, rfl⟩
  cases hfoot : isFromB f.foot 0 10000 with
  | false =>
    have hv : faceE f l = 1 := by simp [faceE, HN.out, HX.out, hx, Hside.out, hfoot]
    have HV := Lib.hid hv
    clear hv
    go_wp2_with fail
    go_ret
    exact ⟨by rw [HV.out]; rfl, hb2⟩
  | true =>
  have Hfoot := Lib.hid hfoot
  go_wp2_with fail
  refine (isFrom_any f.base 0 10000 _).mono ?_
  rintro e w4 ⟨rfl, rfl⟩
  cases hbase : isFromB f.base 0 10000 with
  | false =>
    have hv : faceE f l = 1 := by simp [faceE, HN.out, HX.out, hx, Hside.out, Hfoot.out, hbase]
    have HV := Lib.hid hv
    clear hv
    go_wp2_with fail
    go_ret
    exact ⟨by rw [HV.out]; rfl, hb2⟩
  | true =>
  have Hbase := Lib.hid hbase
  go_wp2_with fail
  refine (isFrom_any f.rise 1 100 _).mono ?_
  rintro e w5 ⟨rfl, rfl⟩
  cases hrise : isFromB f.rise 1 100 with
  | false =>
    have hv : faceE f l = 1 := by simp [faceE, HN.out, HX.out, hx, Hside.out, Hfoot.out, Hbase.out, hrise]
    have HV := Lib.hid hv
    clear hv
    go_wp2_with fail
    go_ret
    exact ⟨by rw [HV.out]; rfl, hb2⟩
  | true =>
  have Hrise := Lib.hid hrise
  go_wp2_with fail
  refine (isFrom_any f.run 1 100 _).mono ?_
  rintro e w6 ⟨rfl, rfl⟩
  cases hrun : isFromB f.run 1 100 with
  | false =>
    have hv : faceE f l = 1 := by simp [faceE, HN.out, HX.out, hx, Hside.out, Hfoot.out, Hbase.out, Hrise.out, hrun]
    have HV := Lib.hid hv
    clear hv
    go_wp2_with fail
    go_ret
    exact ⟨by rw [HV.out]; rfl, hb2⟩
  | true =>
  have Hrun := Lib.hid hrun
  have hx0 : ¬ 0 ≤ x := by omega
  have hv : faceE f l = outlineE f.cs := by simp [faceE, HN.out, HX.out, hx0, Hside.out, Hfoot.out, Hbase.out, Hrise.out, Hrun.out]
  have HV := Lib.hid hv
  clear hv hx0
  go_wp2_with fail
  refine (checkOutline_any f.ca f.cs.length f.cc f.cs _ hsp hlen).mono ?_
  rintro e w9 ⟨rfl, hb9⟩
  go_wp2_with fail
  go_ret
  exact ⟨by rw [HV.out]; rfl, hb2.trans (hb9.mono hb2.size)⟩
end Go.Proofs.Ytdjeoheoohacnaa
