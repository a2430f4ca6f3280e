/- The chore of a year: the hand's box counts on, nothing else turns; or a limit. -/
import Derived.Test.YtfhalmlpnoepcaaGreatJG
import Derived.Test.YtfhalmlpnoepcaaGreatJI
namespace Go.Proofs.YtfhalmlpnoepcaaGreat
open Go.RowKit

/-- What a chore that writes the hand's box alone leaves. -/
theorem grown_set {w w' : World} {B : Nat} (h : Below w.heap.size w w') (i : Nat) (v : Value) : w.grownBy (w'.setCell ⟨B, i, none⟩ v) (some B) := by
  refine ⟨h.os, h.tape, h.output, ?_, fun k hk hne => ?_⟩
  · show w.heap.size ≤ (w'.heap.modify B _).size
    rw [Array.size_modify]
    exact h.size
  · have hkB : k ≠ B := fun e => hne (by rw [e])
    show (w'.heap.modify B _)[k]? = _
    rw [Array.getElem?_modify, if_neg (fun e => hkB e.symm)]
    exact h.block k hk
theorem grown_below {w w' : World} (h : Below w.heap.size w w') (B : Nat) : w.grownBy w' (some B) := ⟨h.os, h.tape, h.output, h.size, fun k hk _ => h.block k hk⟩

def YearSaid (F : Frm) (S : Sto) (B : Nat) (w : World) (e : Ending) (w' : World) : Prop :=
  ((S.year < 100 ∧ e = .returned (.tuple #[]) ∧ Blk w' B (handC F { S with year := S.year + 1 }) 63) ∨ (¬ S.year < 100 ∧ e = chain 3)) ∧ w.grownBy w' (some B)

set_option maxRecDepth 100000 in
set_option maxHeartbeats 4000000 in
theorem year_any (F : Frm) (S : Sto) (a : Chr) (B : Nat) (w : World) (hB : Blk w B (handC F S) 63) (hy : 0 ≤ S.year) :
    Calls Tryz.prog 61 #[.pointer (some ⟨B, 0, none⟩), .agg (chrC a)] w (YearSaid F S B w) := by
  have lB := hB.lt
  have hb1 : Below w.heap.size w (w.alloc (.cells (chrC a) 34)) := (Below.refl _ w).alloc (Nat.le_refl _) _
  have kB := hB.belowS hb1
  unfold chrC at hb1 kB ⊢
  go_enter Tryz.func61, Tryz.ntmps61
  go_upto_region 1 with fail
  generalize w.alloc (.cells #[.int .i64 a.kind, .int .i64 a.plot, .int .i64 a.loads, .string a.name, .string a.other, .int .i64 a.days, .int .i64 a.per, .int .i64 a.rlo, .int .i64 a.rhi] 34) = w1 at *
  have lB1 := kB.lt
  have d2 : w1.cell? ⟨B, 2, none⟩ = some (.int .i64 S.year) := kB.cell 2
  have z2 := kB.frozen 2
  have KB := Lib.hid kB
  have HB1 := Lib.hid hb1
  clear hB kB hb1
  by_cases hi : S.year < 100
  · have HI := Lib.hid hi
    have q : decide (S.year < 100) = true := by simp [hi]
    have y1 : S.year ≤ 100 := by omega
    go_wp2_with fail
    refine (require_any _ 3 _).mono ?_
    rintro e w2 ⟨h, rfl⟩
    rcases h with ⟨_, rfl⟩ | ⟨h, rfl⟩
    · go_wp2_with fail
      go_end0
      refine ⟨.inl ⟨HI.out, rfl, ?_⟩, grown_set HB1.out 2 _⟩
      have := KB.out.set 2 (.int .i64 (S.year + 1))
      simpa using this
    · simp at h
  · have HI := Lib.hid hi
    have q : decide (S.year < 100) = false := by simp [hi]
    go_wp2_with fail
    refine (require_any _ 3 _).mono ?_
    rintro e w2 ⟨h, rfl⟩
    rcases h with ⟨h, rfl⟩ | ⟨_, rfl⟩
    · simp at h
    · go_wp2_with fail
      exact ⟨rfl, .inr ⟨by have := HI.out; omega, rfl⟩, grown_below HB1.out B⟩

end Go.Proofs.YtfhalmlpnoepcaaGreat
