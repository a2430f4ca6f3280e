/- The single cuts of rods, as the specification lists them (single). No condition but that the rods may be. -/
import Derived.Test.YtmcmhgjlpffcnaaRN
import Derived.Test.YtmcmhgjlpffcnaaQI
import Derived.Deep.AppendLies
set_option linter.unusedSimpArgs false
namespace Go.Proofs.Ytmcmhgjlpffcnaa
open Go.RowKit

def sglI (l : List Nat) : List Int := l.map fun (n : Nat) => (n : Int)
theorem sglI_len (l : List Nat) : (sglI l).length = l.length := by simp [sglI]
/-- The memory of single: the rods, the row that is made. -/
structure SMem (w wl : World) (r : Rds) (a : Option Addr) (c : Nat) (l : List Int) (W : World) : Prop where
  below : Below w.heap.size w W
  size : wl.heap.size ≤ W.heap.size
  box : Blk W w.heap.size #[.int .i64 r.stock, .int .i64 r.kerf, .slice r.ca r.cs.length r.cc] 43
  own : W.ownsRow wl.heap.size 3 1 (.slice a l.length c) l.length (l.flatMap cellsI)
theorem SMem.after {w wl : World} {r : Rds} {a : Option Addr} {c : Nat} {l : List Int} {W W' : World} (h : SMem w wl r a c l W) (hb : Below W.heap.size W W') : SMem w wl r a c l W' :=
  ⟨h.below.trans (hb.mono h.below.size), Nat.le_trans h.size hb.size, h.box.belowS hb, own_below h.own hb⟩
theorem SMem.push {w wl : World} {r : Rds} {a a' : Option Addr} {c c' : Nat} {l : List Int} {W W' : World} (h : SMem w wl r a c l W) (hw : w.heap.size < wl.heap.size) (n : Int) (hg : W.grownBy W' (Value.slice a l.length c).ownBlock) (hown : W'.ownsRow wl.heap.size 3 1 (.slice a' (l.length + 1) c') (l.length + 1) (l.flatMap cellsI ++ [.int .i64 n])) :
    SMem w wl r a' c' (l ++ [n]) W' := by
  have far : ∀ q, q < wl.heap.size → some q ≠ (Value.slice a l.length c).ownBlock := fun q hq e => by have := (own_lt h.own e.symm).1; omega
  refine ⟨h.below.grown hg h.below.size (fun k e => by have := (own_lt h.own e).1; omega), Nat.le_trans h.size hg.size, h.box.kept hg (far _ hw), ?_⟩
  rw [List.length_append, List.flatMap_append]
  exact hown
def sglK (cs : List Cut) (i k : Nat) : List Int := sglI (sglTo cs i) ++ List.replicate k (i : Int)
theorem sglK_zero (cs : List Cut) (i : Nat) : sglK cs i 0 = sglI (sglTo cs i) := by simp [sglK]
theorem sglK_succ (cs : List Cut) (i k : Nat) : sglK cs i k ++ [(i : Int)] = sglK cs i (k + 1) := by simp only [sglK, List.append_assoc, List.replicate_succ']
theorem sglK_full {cs : List Cut} {i k : Nat} (h : mnAt cs i = (k : Int)) : sglK cs i k = sglI (sglTo cs (i + 1)) := by
  rw [sglTo, h, Int.toNat_natCast]
  simp [sglK, sglI]

set_option maxRecDepth 100000 in
set_option maxHeartbeats 16000000 in
theorem refSingle_any (r : Rds) (w : World) (hr : r.ok) (hrow : IsCts w r.ca r.cc r.cs) :
    Calls Try.prog 94 #[.agg #[.int .i64 r.stock, .int .i64 r.kerf, .slice r.ca r.cs.length r.cc]] w fun e w' => ∃ a c, e = .returned (.slice a (sglI (sgl r.cs)).length c) ∧ IsInts w' a c (sglI (sgl r.cs)) ∧ Below w.heap.size w w' := by
  have k1 := Blk.new w 43 #[.int .i64 r.stock, .int .i64 r.kerf, .slice r.ca r.cs.length r.cc]
  have hb1 : Below w.heap.size w (w.alloc (.cells #[.int .i64 r.stock, .int .i64 r.kerf, .slice r.ca r.cs.length r.cc] 43)) := (Below.refl _ w).alloc (Nat.le_refl _) _
  have HR := Lib.hid hr
  have HROW := Lib.hid hrow
  have hl8 := hr.len
  clear hr hrow
  go_enter Try.func94, Try.ntmps94
  go_upto_region 1 with fail
  have hw := k1.lt
  generalize w.alloc (.cells #[.int .i64 r.stock, .int .i64 r.kerf, .slice r.ca r.cs.length r.cc] 43) = wl at *
  have K1 := Lib.hid k1
  have HB1 := Lib.hid hb1
  obtain ⟨i0, hi, hz0, hz1, hz2⟩ := info_int
  clear k1 hb1
  go_wp2_with fail
  go_loopw [3, 4, 5] (fun s3 s4 _ wv => ∃ (i : Nat) (a : Option Addr) (c : Nat), i ≤ r.cs.length ∧ s4 = .int .i64 i ∧ s3 = .slice a (sglI (sglTo r.cs i)).length c ∧ SMem w wl r a c (sglI (sglTo r.cs i)) wv) (fun _ s4 _ _ => r.cs.length - (intOf s4).toNat)
  case atStart => exact ⟨0, none, 0, Nat.zero_le _, rfl, rfl, HB1.out, Nat.le_refl _, K1.out, World.ownsRow_nil _ _ _ _⟩
  case round =>
    obtain ⟨i, a, c, hi', rfl, rfl, hD⟩ := hrel
    have HD := Lib.hid hD
    obtain ⟨wo, rfl⟩ : ∃ wo : World, wo = wr := ⟨_, rfl⟩
    have hi0 : (0 : Int) ≤ (i : Int) := Int.natCast_nonneg _
    obtain ⟨r0, r1, r2⟩ := rds_cells (r := r) hD.box
    have hlr := hD.box.lt
    by_cases hil : i < r.cs.length
    rotate_left
    · obtain rfl : i = r.cs.length := by omega
      have hjj : ¬ (r.cs.length : Int) < (r.cs.length : Int) := by omega
      clear hD hil hi'
      go_wp2_with fail
      go_ret
      exact ⟨a, c, rfl, isInts_own HD.out.own, HD.out.below⟩
    have hi1 : (i : Int) < (r.cs.length : Int) := by omega
    have hq : r.cs[i]? = some r.cs[i] := List.getElem?_eq_getElem hil
    have hxo := HR.out.cuts _ (List.mem_of_getElem? hq)
    have hmn : mnAt r.cs i = r.cs[i].mn := by unfold mnAt; rw [hq]
    obtain ⟨m, hm⟩ : ∃ m : Nat, r.cs[i].mn = (m : Int) := ⟨r.cs[i].mn.toNat, by omega⟩
    have hm12 : m ≤ 12 := by omega
    rw [hm] at hmn
    have HFUL := Lib.hid (sglK_full hmn)
    have HLEN := Lib.hid ((sgl_ok HR.out).2 i (by omega))
    have HQ := Lib.hid (And.intro hq hm)
    rw [← sglK_zero r.cs i] at *
    clear hD hq hm hmn hxo
    go_wp2_with fail
    go_loopw [3, 5] (fun s3 s5 wv => ∃ (k : Nat) (a : Option Addr) (c : Nat), k ≤ m ∧ s5 = .int .i64 k ∧ s3 = .slice a (sglK r.cs i k).length c ∧ SMem w wl r a c (sglK r.cs i k) wv) (fun _ s5 _ => m - (intOf s5).toNat)
    case atStart => exact ⟨0, a, c, Nat.zero_le _, rfl, rfl, HD.out⟩
    case round =>
      clear r0 r1 r2 hlr
      obtain ⟨k, a2, c2, hk', rfl, rfl, hD2⟩ := hrel
      have HD2 := Lib.hid hD2
      obtain ⟨wi, rfl⟩ : ∃ wi : World, wi = wr := ⟨_, rfl⟩
      have hk0 : (0 : Int) ≤ (k : Int) := Int.natCast_nonneg _
      obtain ⟨r0, r1, r2⟩ := rds_cells (r := r) hD2.box
      have hlr := hD2.box.lt
      obtain ⟨b, off, e, hbl, hc1, hc2, hp⟩ := (HROW.out.belowS hD2.below).at HQ.out.1
      have c1 : wi.cell? ⟨b, off + i * 2 + 1, none⟩ = some (.int .i64 (m : Int)) := by rw [← HQ.out.2]; exact hp.2
      rw [e] at r2
      clear hD2 hp e
      by_cases hkm : k < m
      rotate_left
      · obtain rfl : k = m := by omega
        have hjj : ¬ (k : Int) < (k : Int) := by omega
        rw [HFUL.out] at HD2 ⊢
        clear hkm hk'
        go_wp2_with fail
        exact ⟨⟨i + 1, a2, c2, by omega, by simp, rfl, HD2.out⟩, by simp [intOf]; omega⟩
      have hkk : (k : Int) < (m : Int) := by omega
      have hlk : (sglK r.cs i k).length ≤ 24 := by
        have := HLEN.out
        simp only [sglK, List.length_append, List.length_replicate, sglI_len]
        omega
      have HSU := Lib.hid (sglK_succ r.cs i k)
      obtain ⟨L, hL⟩ : ∃ L, sglK r.cs i k = L := ⟨_, rfl⟩
      rw [hL] at HSU HD2 hlk ⊢
      have hmx : L.length + 1 ≤ maxLen := by unfold maxLen; omega
      have kE := Blk.new wi 3 #[.int .i64 (i : Int)]
      have hb3 : Below wi.heap.size wi (wi.alloc (.cells #[.int .i64 (i : Int)] 3)) := (Below.refl _ wi).alloc (Nat.le_refl _) _
      have HD3 := Lib.hid (HD2.out.after hb3)
      have hbs : wl.heap.size ≤ (wi.alloc (.cells #[.int .i64 (i : Int)] 3)).heap.size := HD3.out.size
      clear hb3 hL
      go_upto_region 8 with fail
      go_wp2_with (at_builtin; refine wpList_append_lies _ rfl _ _ 25 rfl wl.heap.size 3 i0 (.int .i64 0) 1 8 Try.underlying25 hi hz0 hz1 hz2 rfl (by decide) (.slice a2 L.length c2) L.length _ rfl HD3.out.own ⟨wi.heap.size, 0, none⟩ 1 1 [.int .i64 (i : Int)] rfl rfl (World.news_of_block kE) (by simp [Value.oneCell']) (by decide) hmx (by omega) hbs _ rfl ?_; intro gg cap w6 hown6 hgrow hat hlt6; have HP6 := Lib.hid (HD3.out.push hw (i : Int) hgrow hown6); clear hown6 hgrow hat hlt6 kE r0 r1 r2 hlr hbl c1)
      have HP7 := Lib.hid (show SMem w wl r (some ⟨gg, 0, none⟩) cap (sglK r.cs i (k + 1)) w6 by rw [← HSU.out]; exact HP6.out)
      exact ⟨⟨k + 1, _, _, by omega, by simp, by rw [← HSU.out, List.length_append]; rfl, HP7.out⟩, by simp [intOf]; omega⟩
end Go.Proofs.Ytmcmhgjlpffcnaa
