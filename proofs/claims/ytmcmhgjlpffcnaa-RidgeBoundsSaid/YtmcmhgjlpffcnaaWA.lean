/- Leaf functions of packages wear and plane: what each call returns, and that nothing that lay before it has turned. No condition. -/
import Derived.Test.YtmcmhgjlpffcnaaC
import Derived.Recover
import Derived.WalkSmall
import Derived.Deep.RegionHeld3
import Derived.Deep.DeepCutAuto
import Derived.Deep.CutRange
import Derived.Deep.RegionWith
set_option linter.unusedSimpArgs false
namespace Go.Proofs.Ytmcmhgjlpffcnaa
open Go.RowKit

/-! ### What is required -/
abbrev chain (x : Int) : Ending := .panicked [{ v := .iface 28 (.int .i64 x), recovered := false }]
theorem require_yes (x : Int) (w : World) : Calls Try.prog 60 #[.bool true, .int .i64 x] w fun e w' => e = .returned (.tuple #[]) ∧ w' = w := by
  go_enter Try.func60, Try.ntmps60
  go_wp2
  go_end0
  exact ⟨rfl, rfl⟩
theorem require_no (x : Int) (w : World) : Calls Try.prog 60 #[.bool false, .int .i64 x] w fun e w' => e = .panicked [{ v := .iface 28 (.int .i64 x), recovered := false }] ∧ w' = w := by
  go_enter Try.func60, Try.ntmps60
  go_wp2
  exact ⟨rfl, rfl, rfl⟩
theorem require_any (b : Bool) (x : Int) (w : World) : Calls Try.prog 60 #[.bool b, .int .i64 x] w fun e w' =>
    ((b = true ∧ e = .returned (.tuple #[])) ∨ (b = false ∧ e = chain x)) ∧ w' = w := by
  cases b with
  | true => exact (require_yes x w).mono fun _ _ ⟨h, h2⟩ => ⟨.inl ⟨rfl, h⟩, h2⟩
  | false => exact (require_no x w).mono fun _ _ ⟨h, h2⟩ => ⟨.inr ⟨rfl, h⟩, h2⟩

/-! ### Points -/
def pointB (p : Pnt) : Bool := isFromB p.x 0 400 && isFromB p.y 0 400
theorem pointB_iff {p : Pnt} : pointB p = true ↔ (0 ≤ p.x ∧ p.x ≤ 400) ∧ 0 ≤ p.y ∧ p.y ≤ 400 := by simp [pointB, isFromB]
theorem side_bd {a b p : Pnt} (ha : pointB a = true) (hb : pointB b = true) (hp : pointB p = true) : -320000 ≤ (Edg.mk a b).side p ∧ (Edg.mk a b).side p ≤ 320000 := by
  obtain ⟨⟨h1, h2⟩, h3, h4⟩ := pointB_iff.1 ha
  obtain ⟨⟨h5, h6⟩, h7, h8⟩ := pointB_iff.1 hb
  obtain ⟨⟨h9, h10⟩, h11, h12⟩ := pointB_iff.1 hp
  have b1 := mul_bd (a := b.x - a.x) (b := p.y - a.y) (m := 400) (n := 400) (by omega) (by omega) (by omega) (by omega)
  have b2 := mul_bd (a := b.y - a.y) (b := p.x - a.x) (m := 400) (n := 400) (by omega) (by omega) (by omega) (by omega)
  simp only [Edg.side]
  omega
/-! ### Spans -/
structure Spn where
  lo : Int
  hi : Int
deriving DecidableEq
abbrev spnV (s : Spn) : Value := .agg #[.int .i64 s.lo, .int .i64 s.hi]
def isSpanB (s : Spn) (lo hi : Int) : Bool := decide (lo ≤ s.lo) && (decide (s.lo ≤ s.hi) && decide (s.hi ≤ hi))
theorem isSpanB_iff {s : Spn} {lo hi : Int} : isSpanB s lo hi = true ↔ lo ≤ s.lo ∧ s.lo ≤ s.hi ∧ s.hi ≤ hi := by simp [isSpanB]
def nothingS : Spn := ⟨0, -1⟩
def comM (a b : Spn) : Spn := if min a.hi b.hi < max a.lo b.lo then nothingS else ⟨max a.lo b.lo, min a.hi b.hi⟩
def widM (s : Spn) (by' : Int) : Spn := ⟨s.lo - by', s.hi + by'⟩
def distM (p q : Pnt) : Int := max (p.x - q.x) (q.x - p.x) + max (p.y - q.y) (q.y - p.y)

theorem dist_bd {p q : Pnt} (hp : pointB p = true) (hq : pointB q = true) : 0 ≤ distM p q ∧ distM p q ≤ 800 := by
  obtain ⟨⟨h1, h2⟩, h3, h4⟩ := pointB_iff.1 hp
  obtain ⟨⟨h5, h6⟩, h7, h8⟩ := pointB_iff.1 hq
  unfold distM
  omega
/-- The package's own variable: what two spans have in common that have nothing in common. -/
def Laid (w : World) : Prop := w.cell? ⟨0, 0, none⟩ = some (.int .i64 0) ∧ w.cell? ⟨0, 1, none⟩ = some (.int .i64 (-1)) ∧ 0 < w.heap.size
theorem Laid.below {w w' : World} (h : Laid w) (hb : Below w.heap.size w w') : Laid w' :=
  ⟨(hb.cell (p := ⟨0, 0, none⟩) h.2.2).trans h.1, (hb.cell (p := ⟨0, 1, none⟩) h.2.2).trans h.2.1, Nat.lt_of_lt_of_le h.2.2 hb.size⟩
end Go.Proofs.Ytmcmhgjlpffcnaa
