/- A hand: how it finds a heap, asks for a new name, and whether a heap is dry. -/
import Derived.Test.YtfhalmlpnoepcaaGreatGD
import Derived.Test.YtfhalmlpnoepcaaGreatJH
namespace Go.Proofs.YtfhalmlpnoepcaaGreat
open Go.RowKit

/-- A hand's box: the farm and the store. -/
abbrev handC (F : Frm) (S : Sto) : Array Value := #[.slice F.pa F.ps.length F.pc, .int .i64 F.dry, .int .i64 S.year, .slice S.la S.last.length S.lc, .slice S.ga S.given.length S.gc, .slice S.ha S.heaps.length S.hc, .slice S.ua S.used.length S.uc, .slice S.wa S.waste.length S.wc]
abbrev chain (x : Int) : Ending := .panicked [{ v := .iface 38 (.int .i64 x), recovered := false }]

theorem find_any (F : Frm) (S : Sto) (nm : ByteArray) (B : Nat) (w : World) (hB : Blk w B (handC F S) 63) (hS : IsHeps w S.ha S.hc S.heaps) :
    Calls Tryz.prog 86 #[.pointer (some ⟨B, 0, none⟩), .string nm] w fun e w' => ((0 ≤ idxH S.heaps nm ∧ e = .returned (.int .i64 (idxH S.heaps nm))) ∨ (idxH S.heaps nm < 0 ∧ e = chain 7)) ∧ Below w.heap.size w w' := by
  have lB := hB.lt
  have d5 : w.cell? ⟨B, 5, none⟩ = some (.slice S.ha S.heaps.length S.hc) := hB.cell 5
  have HS := Lib.hid hS
  clear hS hB
  go_enter Tryz.func86, Tryz.ntmps86
  go_wp2_with fail
  refine (findHeap_any S.ha S.hc S.heaps nm _ HS.out).mono ?_
  rintro e w1 ⟨rfl, hb⟩
  by_cases hi : 0 ≤ idxH S.heaps nm
  · have HI := Lib.hid hi
    have q : decide (0 ≤ idxH S.heaps nm) = true := by simp [hi]
    clear d5
    go_wp2_with fail
    refine (require_any _ 7 _).mono ?_
    rintro e w2 ⟨h, rfl⟩
    rcases h with ⟨_, rfl⟩ | ⟨h, rfl⟩
    · go_wp2_with fail
      go_ret
      exact ⟨.inl ⟨HI.out, rfl⟩, hb⟩
    · simp at h
  · have HI := Lib.hid (Int.not_le.1 hi)
    have q : decide (0 ≤ idxH S.heaps nm) = false := by simp [hi]
    clear d5
    go_wp2_with fail
    refine (require_any _ 7 _).mono ?_
    rintro e w2 ⟨h, rfl⟩
    rcases h with ⟨h, rfl⟩ | ⟨_, rfl⟩
    · simp at h
    · go_wp2_with fail
      exact ⟨rfl, .inr ⟨HI.out, rfl⟩, hb⟩

theorem requireNew_any (F : Frm) (S : Sto) (nm : ByteArray) (B : Nat) (w : World) (hB : Blk w B (handC F S) 63) (hS : IsHeps w S.ha S.hc S.heaps) (hnm : nm.size ≤ maxLen) :
    Calls Tryz.prog 84 #[.pointer (some ⟨B, 0, none⟩), .string nm] w fun e w' => ((nameB nm = true ∧ idxH S.heaps nm < 0 ∧ e = .returned (.tuple #[])) ∨ (nameB nm = false ∧ e = chain 5) ∨ (nameB nm = true ∧ 0 ≤ idxH S.heaps nm ∧ e = chain 6)) ∧ Below w.heap.size w w' := by
  have lB := hB.lt
  have d5 : w.cell? ⟨B, 5, none⟩ = some (.slice S.ha S.heaps.length S.hc) := hB.cell 5
  have HS := Lib.hid hS
  clear hS hB
  go_enter Tryz.func84, Tryz.ntmps84
  go_wp2_with fail
  refine (isName_any nm _ hnm).mono ?_
  rintro e w1 ⟨rfl, rfl⟩
  go_wp2_with fail
  refine (require_any _ 5 _).mono ?_
  rintro e w2 ⟨h, rfl⟩
  rcases h with ⟨h1, rfl⟩ | ⟨h1, rfl⟩
  · have H1 := Lib.hid h1
    clear h1
    go_wp2_with fail
    refine (findHeap_any S.ha S.hc S.heaps nm _ HS.out).mono ?_
    rintro e w1 ⟨rfl, hb⟩
    clear d5
    by_cases hi : idxH S.heaps nm < 0
    · have HI := Lib.hid hi
      have q : decide (idxH S.heaps nm < 0) = true := by simp [hi]
      go_wp2_with fail
      refine (require_any _ 6 _).mono ?_
      rintro e w2 ⟨h, rfl⟩
      rcases h with ⟨_, rfl⟩ | ⟨h, rfl⟩
      · go_wp2_with fail
        go_end0
        exact ⟨.inl ⟨H1.out, HI.out, rfl⟩, hb⟩
      · simp at h
    · have HI := Lib.hid (Int.not_lt.1 hi)
      have q : decide (idxH S.heaps nm < 0) = false := by simp [hi]
      go_wp2_with fail
      refine (require_any _ 6 _).mono ?_
      rintro e w2 ⟨h, rfl⟩
      rcases h with ⟨h, rfl⟩ | ⟨_, rfl⟩
      · simp at h
      · go_wp2_with fail
        exact ⟨rfl, .inr (.inr ⟨H1.out, HI.out, rfl⟩), hb⟩
  · have H1 := Lib.hid h1
    clear h1
    go_wp2_with fail
    exact ⟨rfl, .inr (.inl ⟨H1.out, rfl⟩), Below.refl _ _⟩

theorem isDry_any (F : Frm) (S : Sto) (h : Hep) (B : Nat) (w : World) (hB : Blk w B (handC F S) 63) :
    Calls Tryz.prog 88 #[.pointer (some ⟨B, 0, none⟩), .agg #[.string h.name, .int .i64 h.crop, .int .i64 h.stage, .slice h.pa h.parts.length h.pc, .int .i64 h.per, .int .i64 h.wlo, .int .i64 h.whi]] w fun e w' => e = .returned (.bool (decide (h.whi ≤ F.dry))) ∧ Below w.heap.size w w' := by
  have hb1 : Below w.heap.size w (w.alloc (.cells #[.string h.name, .int .i64 h.crop, .int .i64 h.stage, .slice h.pa h.parts.length h.pc, .int .i64 h.per, .int .i64 h.wlo, .int .i64 h.whi] 53)) := (Below.refl _ w).alloc (Nat.le_refl _) _
  have kH := Blk.new w 53 #[.string h.name, .int .i64 h.crop, .int .i64 h.stage, .slice h.pa h.parts.length h.pc, .int .i64 h.per, .int .i64 h.wlo, .int .i64 h.whi]
  have kB := hB.belowS hb1
  go_enter Tryz.func88, Tryz.ntmps88
  go_upto_region 1 with fail
  generalize w.alloc (.cells #[.string h.name, .int .i64 h.crop, .int .i64 h.stage, .slice h.pa h.parts.length h.pc, .int .i64 h.per, .int .i64 h.wlo, .int .i64 h.whi] 53) = w1 at *
  have lB := kB.lt
  have lH := kH.lt
  have d1 : w1.cell? ⟨B, 1, none⟩ = some (.int .i64 F.dry) := kB.cell 1
  have d6 : w1.cell? ⟨w.heap.size, 6, none⟩ = some (.int .i64 h.whi) := kH.cell 6
  clear hB kB kH
  go_quiet (fail)
  go_wp2_with fail
  go_ret
  exact ⟨rfl, hb1.trans (below_drewN' _ _ _)⟩

end Go.Proofs.YtfhalmlpnoepcaaGreat
