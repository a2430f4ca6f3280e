/- some: a number that a row of a ridge has, by any number. No condition but that lengths are below 2^63. -/
import Derived.Test.YtmcmhgjlpffcnaaQD
set_option linter.unusedSimpArgs false
namespace Go.Proofs.Ytmcmhgjlpffcnaa
open Go.RowKit

def someB (R : Rdg) (k : Int) : Bool := decide (waysE R = 0 ∧ 1 ≤ waysN R ∧ 0 ≤ k)
def someV (R : Rdg) (k : Int) : Int := if someB R k = true then k % (waysN R : Int) else 0
set_option maxRecDepth 100000 in
set_option maxHeartbeats 8000000 in
theorem some_any (R : Rdg) (k : Int) (w : World) (hR : IsRdg w R) (hbig : R.ps.length ≤ 1000000000) (hk : k ≤ 9223372036854775807) :
    Calls Try.prog 37 #[.agg #[.int .i64 R.len, .int .i64 R.st, .int .i64 R.en, .slice R.pa R.ps.length R.pc], .int .i64 k] w fun e w' => e = .returned (.tuple #[.int .i64 (someV R k), .bool (someB R k)]) ∧ Below w.heap.size w w' := by
  have k1 := Blk.new w 24 #[.int .i64 R.len, .int .i64 R.st, .int .i64 R.en, .slice R.pa R.ps.length R.pc]
  have hb1 : Below w.heap.size w (w.alloc (.cells #[.int .i64 R.len, .int .i64 R.st, .int .i64 R.en, .slice R.pa R.ps.length R.pc] 24)) := (Below.refl _ w).alloc (Nat.le_refl _) _
  have HR := Lib.hid hR
  clear hR
  go_enter Try.func37, Try.ntmps37
  go_upto_region 1 with fail
  generalize w.alloc (.cells #[.int .i64 R.len, .int .i64 R.st, .int .i64 R.en, .slice R.pa R.ps.length R.pc] 24) = w1 at *
  have HB1 := Lib.hid hb1
  obtain ⟨r0, r1, r2, r3⟩ := rdg_cells (R := R) k1
  have hl1 := k1.lt
  clear k1 hb1
  go_wp2_with fail
  refine (ways_any R _ (HR.out.belowS HB1.out).row hbig HR.out.names).mono ?_
  rintro e w2 ⟨rfl, hb2⟩
  have HB2 := Lib.hid (HB1.out.trans (hb2.mono HB1.out.size))
  clear r0 r1 r2 r3 hl1 hb2
  by_cases hE : waysE R = 0
  rotate_left
  · have hv : someB R k = false := by unfold someB; exact decide_eq_false (fun h => hE h.1)
    have hv2 : someV R k = 0 := by unfold someV; rw [hv]; rfl
    have HV := Lib.hid (And.intro hv hv2)
    clear hv hv2
    generalize waysE R = eR at *
    go_wp2_with fail
    exact bodyPost_ret (v := .tuple #[.int .i64 0, .bool false]) (by simp [results, Try.results37, go_sem]) rfl ⟨by rw [HV.out.1, HV.out.2], HB2.out⟩
  rw [hE, show endI 0 ((waysN R : Nat) : Int) = (waysN R : Nat) from rfl]
  by_cases hn : 1 ≤ waysN R ∧ 0 ≤ k
  rotate_left
  · have hv : someB R k = false := by unfold someB; exact decide_eq_false (fun h => hn h.2)
    have hv2 : someV R k = 0 := by unfold someV; rw [hv]; rfl
    have HV := Lib.hid (And.intro hv hv2)
    clear hv hv2 hE
    generalize waysN R = N at *
    by_cases h1 : ((N : Nat) : Int) < 1
    · go_wp2_with fail
      exact bodyPost_ret (v := .tuple #[.int .i64 0, .bool false]) (by simp [results, Try.results37, go_sem]) rfl ⟨by rw [HV.out.1, HV.out.2], HB2.out⟩
    · have hk0 : k < 0 := by omega
      go_wp2_with fail
      exact bodyPost_ret (v := .tuple #[.int .i64 0, .bool false]) (by simp [results, Try.results37, go_sem]) rfl ⟨by rw [HV.out.1, HV.out.2], HB2.out⟩
  · have hv : someB R k = true := by unfold someB; exact decide_eq_true ⟨hE, hn⟩
    have hv2 : someV R k = k % (waysN R : Int) := by unfold someV; rw [hv]; rfl
    have HV := Lib.hid (And.intro hv hv2)
    clear hv hv2 hE
    obtain ⟨hn1, hn2⟩ := hn
    have h1 : ¬ ((waysN R : Nat) : Int) < 1 := by omega
    have h2 : ¬ k < 0 := by omega
    have e1 : k.tmod (waysN R : Int) = k % (waysN R : Int) := Int.tmod_eq_emod_of_nonneg hn2
    obtain ⟨N, hN⟩ : ∃ N : Nat, waysN R = N := ⟨_, rfl⟩
    rw [hN] at h1 e1 hn1 ⊢
    have HN := Lib.hid hN
    clear hN
    go_wp2_with fail
    exact bodyPost_ret (v := .tuple #[.int .i64 (k % (N : Int)), .bool true]) (by simp [results, Try.results37, go_sem]) rfl ⟨by rw [HV.out.1, HV.out.2, HN.out], HB2.out⟩
end Go.Proofs.Ytmcmhgjlpffcnaa
