/- What a row needs: needs, Needs, the specification's Needs. No condition but the bounds of what is given. -/
import Derived.Test.YtmcmhgjlpffcnaaQN
import Derived.Deep.OwnRows
set_option linter.unusedSimpArgs false
namespace Go.Proofs.Ytmcmhgjlpffcnaa
open Go.RowKit

/-! ### A list of numbers as cells -/
def intsArr (l : List Int) : Array Value := (l.map fun n => Value.int .i64 n).toArray
theorem intsArr_get {l : List Int} {i : Nat} {x : Int} (h : l[i]? = some x) : (intsArr l)[i]? = some (.int .i64 x) := by
  simp [intsArr, h]
theorem intsArr_size (l : List Int) : (intsArr l).size = l.length := by simp [intsArr]
theorem intsArr_set (l : List Int) (i : Nat) (x : Int) : (intsArr l).setIfInBounds i (.int .i64 x) = intsArr (l.set i x) := by
  unfold intsArr
  rw [List.setIfInBounds_toArray, List.map_set]
theorem intsArr_zero (n : Nat) : madeCells #[.int .i64 0] n = intsArr (List.replicate n 0) := by
  apply Array.ext_getElem?
  intro i
  by_cases h : i < n
  · rw [intsArr_get (x := 0) (by simp [h])]
    simp [madeCells, h, Nat.mod_one]
  · simp [madeCells, intsArr, h]
theorem ints_blk {W : World} {B c : Nat} {l : List Int} (h : Blk W B (intsArr l) 3) (hc : l.length ≤ c) (hc2 : c ≤ 9223372036854775807) : IsInts W (some ⟨B, 0, none⟩) c l := by
  refine .inr ⟨B, 0, rfl, h.lt, hc, hc2, fun i x hi => ?_⟩
  have := h.cell i
  rw [intsArr_get hi] at this
  simpa [IntAt] using this

/-! ### How often each piece stands in a row -/
def needS (l : List Int) (n : Int) : List Int := l.set n.toNat (l.getD n.toNat 0 + 1)
def needL (k : Nat) (row : List Int) : List Int := row.foldl needS (List.replicate k 0)
theorem needS_len (l : List Int) (n : Int) : (needS l n).length = l.length := by simp [needS]
theorem needL_snoc (k : Nat) (row : List Int) (n : Int) : needL k (row ++ [n]) = needS (needL k row) n := by simp [needL, List.foldl_append]
theorem needF_len (row : List Int) : ∀ l : List Int, (row.foldl needS l).length = l.length := by
  induction row with
  | nil => intro l; rfl
  | cons n row ih => intro l; rw [List.foldl_cons, ih, needS_len]
theorem needL_len (k : Nat) (row : List Int) : (needL k row).length = k := by rw [needL, needF_len]; simp
theorem needL_bd (k : Nat) (row : List Int) (m : Nat) : ∀ (i : Nat), 0 ≤ (needL k (row.take m)).getD i 0 ∧ (needL k (row.take m)).getD i 0 ≤ (m : Int) := by
  induction m with
  | zero =>
    intro i
    simp only [List.take_zero, needL, List.foldl_nil]
    rw [List.getD_eq_getElem?_getD, List.getElem?_replicate]
    split <;> simp
  | succ m ih =>
    intro i
    by_cases hm : m < row.length
    · rw [List.take_add_one, List.getElem?_eq_getElem hm, Option.toList_some, needL_snoc, needS]
      have h1 := ih i
      have h2 := ih row[m].toNat
      rw [List.getD_eq_getElem?_getD] at h1 ⊢
      rw [List.getElem?_set]
      split
      · rename_i e
        subst e
        split
        · simp only [Option.getD_some]
          omega
        · simp
          omega
      · omega
    · rw [List.take_of_length_le (by omega)]
      have := ih i
      rw [List.take_of_length_le (by omega)] at this
      omega
theorem runG_in {ps : List Pce} : ∀ (row : List Int) (g h : Gp), runG ps g row = some h → InR ps row := by
  intro row
  induction row with
  | nil => intro g h _ n hn; cases hn
  | cons a row ih =>
    intro g h e n hn
    rw [runG, List.foldlM_cons] at e
    cases hs : stepG ps g a with
    | none => rw [hs] at e; cases e
    | some g2 =>
      rw [hs] at e
      obtain ⟨x, ha, -⟩ := stepG_some hs
      rcases List.mem_cons.1 hn with rfl | hn
      · omega
      · exact ih _ _ e n hn
theorem fits_in {R : Rdg} {row : List Int} (h : fitsB R row = true) : InR R.ps row := runG_in row _ _ (fitsB_iff.1 h)

set_option maxRecDepth 100000 in
set_option maxHeartbeats 8000000 in
theorem needs_any (R : Rdg) (sa : Option Addr) (c : Nat) (row : List Int) (w : World) (hl10 : R.ps.length ≤ 10) (hin : InR R.ps row) (hns : IsInts w sa c row) :
    Calls Try.prog 49 #[.agg #[.int .i64 R.len, .int .i64 R.st, .int .i64 R.en, .slice R.pa R.ps.length R.pc], .slice sa row.length c] w fun e w' => ∃ B, e = .returned (.slice (some ⟨B, 0, none⟩) R.ps.length R.ps.length) ∧ w.heap.size ≤ B ∧ Blk w' B (intsArr (needL R.ps.length row)) 3 ∧ Below w.heap.size w w' := by
  have hmk := run_make_row' (P := Try.prog) 25 3 (.int .i64 0) 8 (by kernel_rfl) (by kernel_rfl) rfl .i64 .i64 R.ps.length (by omega) (by omega)
  have hrl := ints_le hns
  have k1 := (Blk.new w 24 #[.int .i64 R.len, .int .i64 R.st, .int .i64 R.en, .slice R.pa R.ps.length R.pc]).alloc (.cells (madeCells #[.int .i64 0] R.ps.length) 3)
  have k2 := Blk.new (w.alloc (.cells #[.int .i64 R.len, .int .i64 R.st, .int .i64 R.en, .slice R.pa R.ps.length R.pc] 24)) 3 (madeCells #[.int .i64 0] R.ps.length)
  have hb1 : Below w.heap.size w ((w.alloc (.cells #[.int .i64 R.len, .int .i64 R.st, .int .i64 R.en, .slice R.pa R.ps.length R.pc] 24)).alloc (.cells (madeCells #[.int .i64 0] R.ps.length) 3)) := ((Below.refl _ w).alloc (Nat.le_refl _) _).alloc (by simp) _
  rw [World.size_alloc] at k2
  have HNS := Lib.hid hns
  have HIN := Lib.hid hin
  clear hns hin
  obtain ⟨r0, r1, r2, r3⟩ := rdg_cells (R := R) (Blk.new w 24 #[.int .i64 R.len, .int .i64 R.st, .int .i64 R.en, .slice R.pa R.ps.length R.pc])
  go_enter Try.func49, Try.ntmps49
  go_upto_region 2 with fail
  clear r0 r1 r2 r3 hmk
  generalize ((w.alloc (.cells #[.int .i64 R.len, .int .i64 R.st, .int .i64 R.en, .slice R.pa R.ps.length R.pc] 24)).alloc (.cells (madeCells #[.int .i64 0] R.ps.length) 3)) = w1 at *
  rw [intsArr_zero] at k2
  have K2 := Lib.hid k2
  have HB1 := Lib.hid hb1
  clear k1 k2 hb1
  go_wp2_with fail
  go_loopw [14, 7] (fun i _ wr => ∃ j : Nat, j ≤ row.length ∧ i = .int .i64 j ∧ Blk wr (w.heap.size + 1) (intsArr (needL R.ps.length (row.take j))) 3 ∧ Below w.heap.size w wr) (fun i _ _ => row.length - (intOf i).toNat)
  case atStart => exact ⟨0, Nat.zero_le _, rfl, by rw [List.take_zero]; exact K2.out, HB1.out⟩
  case round =>
    obtain ⟨j, hj, rfl, hk, g2⟩ := hrel
    have HK := Lib.hid hk
    have HBW := Lib.hid g2
    by_cases hlj : j < row.length
    · have hq : row[j]? = some row[j] := List.getElem?_eq_getElem hlj
      obtain ⟨b, off, e, hbw, hc1, hc2, hp⟩ := HNS.out.at hq
      have hbl : b < wr.heap.size := Nat.lt_of_lt_of_le hbw g2.size
      have hnr := HIN.out _ (List.mem_of_getElem? hq)
      have hta : row.take (j + 1) = row.take j ++ [row[j]] := by rw [List.take_add_one, hq]; rfl
      generalize row[j] = n at *
      have c0 : wr.cell? ⟨b, off + j * 1, none⟩ = some (.int .i64 n) := (g2.cell (p := ⟨b, off + j * 1, none⟩) hbw).trans hp
      rw [Nat.mul_one] at c0
      have hst := needL_snoc R.ps.length (row.take j) n
      rw [← hta, needS] at hst
      have hbd := needL_bd R.ps.length row j n.toNat
      have hll := needL_len R.ps.length (row.take j)
      obtain ⟨L, hL⟩ : ∃ L : List Int, needL R.ps.length (row.take j) = L := ⟨_, rfl⟩
      rw [hL] at hst hbd hll hk HK
      obtain ⟨m, rfl⟩ : ∃ m : Nat, n = (m : Int) := ⟨n.toNat, by omega⟩
      rw [Int.toNat_natCast] at hst hbd
      have hml : m < L.length := by omega
      have hqm : L[m]? = some L[m] := List.getElem?_eq_getElem hml
      rw [List.getD_eq_getElem?_getD, hqm, Option.getD_some] at hst hbd
      have kc := hk.cell m
      rw [intsArr_get hqm] at kc
      generalize L[m] = v at *
      have kz := hk.frozen m
      have kl := hk.lt
      have e1 : IntKind.i64.wrap (v + 1) = v + 1 := by rw [IntKind.wrap_i64]; omega
      have hm0 : (0 : Int) ≤ (m : Int) := Int.natCast_nonneg _
      have hm1 : (m : Int) < (R.ps.length : Int) := by omega
      have hj0 : (0 : Int) ≤ (j : Int) := Int.natCast_nonneg _
      have hj1 : (j : Int) < (row.length : Int) := by omega
      have HST := Lib.hid hst
      subst e
      clear hk g2 hq hst hta hp hbd hll hqm hL hnr
      go_wp2_with fail
      have kf := HK.out.set m (.int .i64 (v + 1))
      rw [intsArr_set, ← HST.out] at kf
      have hbf : Below w.heap.size w (wr.setCell ⟨w.heap.size + 1, m, none⟩ (.int .i64 (v + 1))) := HBW.out.setCell (by show w.heap.size ≤ w.heap.size + 1; omega) _
      exact ⟨⟨j + 1, by omega, by simp, kf, hbf⟩, by simp [intOf]; omega⟩
    · obtain rfl : j = row.length := by omega
      rw [List.take_of_length_le (Nat.le_refl _)] at HK
      go_wp2_with fail
      go_ret
      exact ⟨_, rfl, by omega, HK.out, HBW.out⟩

/-- What both sides answer. -/
def needE (R : Rdg) (row : List Int) : Int := if rdgE R ≠ 0 then rdgE R else if fitsB R row = false then 8 else 0
def needV (R : Rdg) (row : List Int) : List Int := if needE R row = 0 then needL R.ps.length row else []
def NeedSaid (R : Rdg) (row : List Int) (w : World) (e : Ending) (w' : World) : Prop := ∃ a c, e = .returned (.tuple #[.slice a (needV R row).length c, .int .i64 (needE R row)]) ∧ IsInts w' a c (needV R row) ∧ Below w.heap.size w w'
theorem NeedSaid.no {R : Rdg} {row : List Int} {w w' : World} {x : Int} (h : needE R row = x) (hx : x ≠ 0) (hb : Below w.heap.size w w') : NeedSaid R row w (.returned (.tuple #[.slice none 0 0, .int .i64 x])) w' := by
  have hv : needV R row = [] := by unfold needV; rw [if_neg (by rw [h]; exact hx)]
  exact ⟨none, 0, by rw [hv, h]; rfl, by rw [hv]; exact .inl rfl, hb⟩
theorem NeedSaid.yes {R : Rdg} {row : List Int} {w w' : World} {B : Nat} (h : needE R row = 0) (hl : R.ps.length ≤ 10) (hk : Blk w' B (intsArr (needL R.ps.length row)) 3) (hb : Below w.heap.size w w') : NeedSaid R row w (.returned (.tuple #[.slice (some ⟨B, 0, none⟩) R.ps.length R.ps.length, .int .i64 0])) w' := by
  have hv : needV R row = needL R.ps.length row := by unfold needV; rw [if_pos h]
  exact ⟨some ⟨B, 0, none⟩, R.ps.length, by rw [hv, h, needL_len], by rw [hv]; exact ints_blk hk (by rw [needL_len]; exact Nat.le_refl _) (by omega), hb⟩

set_option maxRecDepth 100000 in
set_option maxHeartbeats 8000000 in
theorem needsPub_any (R : Rdg) (sa : Option Addr) (c : Nat) (row : List Int) (w : World) (hR : IsRdg w R) (hbig : R.ps.length ≤ 1000000000) (hns : IsInts w sa c row) :
    Calls Try.prog 19 #[.agg #[.int .i64 R.len, .int .i64 R.st, .int .i64 R.en, .slice R.pa R.ps.length R.pc], .slice sa row.length c] w (NeedSaid R row w) := by
  have k1 := Blk.new w 24 #[.int .i64 R.len, .int .i64 R.st, .int .i64 R.en, .slice R.pa R.ps.length R.pc]
  have hb1 : Below w.heap.size w (w.alloc (.cells #[.int .i64 R.len, .int .i64 R.st, .int .i64 R.en, .slice R.pa R.ps.length R.pc] 24)) := (Below.refl _ w).alloc (Nat.le_refl _) _
  have HR := Lib.hid hR
  have HNS := Lib.hid hns
  clear hR hns
  go_enter Try.func19, Try.ntmps19
  go_upto_region 1 with fail
  generalize w.alloc (.cells #[.int .i64 R.len, .int .i64 R.st, .int .i64 R.en, .slice R.pa R.ps.length R.pc] 24) = w1 at *
  have K1 := Lib.hid k1
  have HB1 := Lib.hid hb1
  obtain ⟨r0, r1, r2, r3⟩ := rdg_cells (R := R) k1
  have hlr := k1.lt
  clear k1 hb1
  go_wp2_with fail
  refine (check_any R _ (HR.out.belowS HB1.out).row hbig HR.out.names).mono ?_
  rintro e w2 ⟨rfl, hb2⟩
  have K2 := Lib.hid (K1.out.belowS hb2)
  have HB2 := Lib.hid (HB1.out.trans (hb2.mono HB1.out.size))
  clear r0 r1 r2 r3 hlr hb2
  by_cases hE : rdgE R = 0
  rotate_left
  · have HV := Lib.hid (show needE R row = rdgE R by unfold needE; rw [if_pos hE])
    have HE := Lib.hid hE
    have q : (rdgE R != 0) = true := by simpa using hE
    generalize rdgE R = eR at *
    clear hE
    go_wp2_with fail
    exact bodyPost_ret (v := .tuple #[.slice none 0 0, .int .i64 eR]) (by simp [results, Try.results19, go_sem]) rfl (NeedSaid.no HV.out HE.out HB2.out)
  have HE := Lib.hid hE
  have hl10 := (rdgE_ridge hE).2.2.2.1
  rw [hE]
  clear hE
  obtain ⟨r0, r1, r2, r3⟩ := rdg_cells (R := R) K2.out
  have hlr := K2.out.lt
  go_wp2_with fail
  refine (fits_any R sa c row _ (rdgE_ridge HE.out) (HR.out.belowS HB2.out).row (HNS.out.belowS HB2.out)).mono ?_
  rintro e w3 ⟨rfl, hb3⟩
  have K3 := Lib.hid (K2.out.belowS hb3)
  have HB3 := Lib.hid (HB2.out.trans (hb3.mono HB2.out.size))
  clear r0 r1 r2 r3 hlr hb3
  obtain ⟨r0, r1, r2, r3⟩ := rdg_cells (R := R) K3.out
  have hlr := K3.out.lt
  cases hF : fitsB R row with
  | false =>
    have HV := Lib.hid (show needE R row = 8 by unfold needE; rw [if_neg (by rw [HE.out]; simp), if_pos hF])
    clear hF
    go_wp2_with fail
    exact bodyPost_ret (v := .tuple #[.slice none 0 0, .int .i64 8]) (by simp [results, Try.results19, go_sem]) rfl (NeedSaid.no HV.out (by decide) HB3.out)
  | true =>
    have HV := Lib.hid (show needE R row = 0 by unfold needE; rw [if_neg (by rw [HE.out]; simp), if_neg (by rw [hF]; simp)])
    have HIN := Lib.hid (fits_in hF)
    clear hF
    go_wp2_with fail
    refine (needs_any R sa c row _ hl10 HIN.out (HNS.out.belowS HB3.out)).mono ?_
    rintro e w4 ⟨B, rfl, hB, hk, hb4⟩
    have HK := Lib.hid hk
    have HB4 := Lib.hid (HB3.out.trans (hb4.mono HB3.out.size))
    clear r0 r1 r2 r3 hlr hb4 hk
    go_wp2_with fail
    exact bodyPost_ret (v := .tuple #[.slice (some ⟨B, 0, none⟩) R.ps.length R.ps.length, .int .i64 0]) (by simp [results, Try.results19, go_sem]) rfl (NeedSaid.yes HV.out hl10 HK.out HB4.out)
set_option maxRecDepth 100000 in
set_option maxHeartbeats 8000000 in
theorem refNeeds_any (R : Rdg) (sa : Option Addr) (c : Nat) (row : List Int) (w : World) (hR : IsRdg w R) (hbig : R.ps.length ≤ 1000000000) (hns : IsInts w sa c row) :
    Calls Try.prog 20 #[.agg #[.int .i64 R.len, .int .i64 R.st, .int .i64 R.en, .slice R.pa R.ps.length R.pc], .slice sa row.length c] w (NeedSaid R row w) := by
  have k1 := Blk.new w 24 #[.int .i64 R.len, .int .i64 R.st, .int .i64 R.en, .slice R.pa R.ps.length R.pc]
  have hb1 : Below w.heap.size w (w.alloc (.cells #[.int .i64 R.len, .int .i64 R.st, .int .i64 R.en, .slice R.pa R.ps.length R.pc] 24)) := (Below.refl _ w).alloc (Nat.le_refl _) _
  have hrl := ints_le hns
  have HR := Lib.hid hR
  have HNS := Lib.hid hns
  clear hR hns
  go_enter Try.func20, Try.ntmps20
  go_upto_region 1 with fail
  generalize w.alloc (.cells #[.int .i64 R.len, .int .i64 R.st, .int .i64 R.en, .slice R.pa R.ps.length R.pc] 24) = w1 at *
  have K1 := Lib.hid k1
  have HB1 := Lib.hid hb1
  obtain ⟨r0, r1, r2, r3⟩ := rdg_cells (R := R) k1
  have hlr := k1.lt
  clear k1 hb1
  go_wp2_with fail
  refine (refCheck_any R _ (HR.out.belowS HB1.out).row hbig HR.out.names).mono ?_
  rintro e w2 ⟨rfl, hb2⟩
  have K2 := Lib.hid (K1.out.belowS hb2)
  have HB2 := Lib.hid (HB1.out.trans (hb2.mono HB1.out.size))
  clear r0 r1 r2 r3 hlr hb2
  by_cases hE : rdgE R = 0
  rotate_left
  · have HV := Lib.hid (show needE R row = rdgE R by unfold needE; rw [if_pos hE])
    have HE := Lib.hid hE
    have q : (rdgE R != 0) = true := by simpa using hE
    have q2 : (rdgE R == 0) = false := by simpa using hE
    generalize rdgE R = eR at *
    clear hE
    go_wp2_with fail
    exact bodyPost_ret (v := .tuple #[.slice none 0 0, .int .i64 eR]) (by simp [results, Try.results20, go_sem]) rfl (NeedSaid.no HV.out HE.out HB2.out)
  have HE := Lib.hid hE
  have hl10 := (rdgE_ridge hE).2.2.2.1
  rw [hE]
  clear hE
  obtain ⟨r0, r1, r2, r3⟩ := rdg_cells (R := R) K2.out
  have hlr := K2.out.lt
  go_wp2_with fail
  refine (refFits_any R sa c row _ (rdgE_ridge HE.out) (HR.out.belowS HB2.out).row (HNS.out.belowS HB2.out)).mono ?_
  rintro e w3 ⟨rfl, hb3⟩
  have K3 := Lib.hid (K2.out.belowS hb3)
  have HB3 := Lib.hid (HB2.out.trans (hb3.mono HB2.out.size))
  clear r0 r1 r2 r3 hlr hb3
  obtain ⟨r0, r1, r2, r3⟩ := rdg_cells (R := R) K3.out
  have hlr := K3.out.lt
  cases hF : fitsB R row with
  | false =>
    have HV := Lib.hid (show needE R row = 8 by unfold needE; rw [if_neg (by rw [HE.out]; simp), if_pos hF])
    clear hF
    go_wp2_with fail
    exact bodyPost_ret (v := .tuple #[.slice none 0 0, .int .i64 8]) (by simp [results, Try.results20, go_sem]) rfl (NeedSaid.no HV.out (by decide) HB3.out)
  | true =>
    have HV := Lib.hid (show needE R row = 0 by unfold needE; rw [if_neg (by rw [HE.out]; simp), if_neg (by rw [hF]; simp)])
    have HIN := Lib.hid (fits_in hF)
    have hmk := run_make_row' (P := Try.prog) 25 3 (.int .i64 0) 8 (by kernel_rfl) (by kernel_rfl) rfl .i64 .i64 R.ps.length (by omega) (by omega)
    have k2 := Blk.new w3 3 (madeCells #[.int .i64 0] R.ps.length)
    have hb4 : Below w.heap.size w (w3.alloc (.cells (madeCells #[.int .i64 0] R.ps.length) 3)) := HB3.out.alloc HB3.out.size _
    have HS3 := Lib.hid HB3.out.size
    clear hF
    go_upto_region 7 with fail
    clear r0 r1 r2 r3 hlr hmk
    generalize w3.alloc (.cells (madeCells #[.int .i64 0] R.ps.length) 3) = w4 at *
    rw [intsArr_zero] at k2
    generalize w3.heap.size = M at *
    have K4 := Lib.hid k2
    have HB4 := Lib.hid hb4
    clear k2 hb4
    go_wp2_with fail
    go_loopw [8] (fun i wr => ∃ j : Nat, j ≤ row.length ∧ i = .int .i64 j ∧ Blk wr M (intsArr (needL R.ps.length (row.take j))) 3 ∧ Below w.heap.size w wr) (fun i _ => row.length - (intOf i).toNat)
    case atStart => exact ⟨0, Nat.zero_le _, rfl, by rw [List.take_zero]; exact K4.out, HB4.out⟩
    case round =>
      obtain ⟨j, hj, rfl, hk, g2⟩ := hrel
      have HK := Lib.hid hk
      have HBW := Lib.hid g2
      by_cases hlj : j < row.length
      · have hq : row[j]? = some row[j] := List.getElem?_eq_getElem hlj
        obtain ⟨b, off, e, hbw, hc1, hc2, hp⟩ := HNS.out.at hq
        have hbl : b < wr.heap.size := Nat.lt_of_lt_of_le hbw g2.size
        have hnr := HIN.out _ (List.mem_of_getElem? hq)
        have hta : row.take (j + 1) = row.take j ++ [row[j]] := by rw [List.take_add_one, hq]; rfl
        generalize row[j] = n at *
        have c0 : wr.cell? ⟨b, off + j * 1, none⟩ = some (.int .i64 n) := (g2.cell (p := ⟨b, off + j * 1, none⟩) hbw).trans hp
        rw [Nat.mul_one] at c0
        have hst := needL_snoc R.ps.length (row.take j) n
        rw [← hta, needS] at hst
        have hbd := needL_bd R.ps.length row j n.toNat
        have hll := needL_len R.ps.length (row.take j)
        obtain ⟨L, hL⟩ : ∃ L : List Int, needL R.ps.length (row.take j) = L := ⟨_, rfl⟩
        rw [hL] at hst hbd hll hk HK
        obtain ⟨m, rfl⟩ : ∃ m : Nat, n = (m : Int) := ⟨n.toNat, by omega⟩
        rw [Int.toNat_natCast] at hst hbd
        have hml : m < L.length := by omega
        have hqm : L[m]? = some L[m] := List.getElem?_eq_getElem hml
        rw [List.getD_eq_getElem?_getD, hqm, Option.getD_some] at hst hbd
        have kc := hk.cell m
        rw [intsArr_get hqm] at kc
        generalize L[m] = v at *
        have kz := hk.frozen m
        have kl := hk.lt
        have e1 : IntKind.i64.wrap (v + 1) = v + 1 := by rw [IntKind.wrap_i64]; omega
        have hm0 : (0 : Int) ≤ (m : Int) := Int.natCast_nonneg _
        have hm1 : (m : Int) < (R.ps.length : Int) := by omega
        have hj0 : (0 : Int) ≤ (j : Int) := Int.natCast_nonneg _
        have hj1 : (j : Int) < (row.length : Int) := by omega
        have HST := Lib.hid hst
        subst e
        clear hk g2 hq hst hta hp hbd hll hqm hL hnr
        go_wp2_with fail
        have kf := HK.out.set m (.int .i64 (v + 1))
        rw [intsArr_set, ← HST.out] at kf
        have hbf : Below w.heap.size w (wr.setCell ⟨M, m, none⟩ (.int .i64 (v + 1))) := HBW.out.setCell HS3.out _
        exact ⟨⟨j + 1, by omega, by simp, kf, hbf⟩, by simp [intOf]; omega⟩
      · obtain rfl : j = row.length := by omega
        rw [List.take_of_length_le (Nat.le_refl _)] at HK
        go_wp2_with fail
        exact bodyPost_ret (v := .tuple #[.slice (some ⟨M, 0, none⟩) R.ps.length R.ps.length, .int .i64 0]) (by simp [results, Try.results20, go_sem]) rfl (NeedSaid.yes HV.out hl10 HK.out HBW.out)

theorem refFitsPub_any (R : Rdg) (sa : Option Addr) (c : Nat) (row : List Int) (w : World) (hR : IsRdg w R) (hbig : R.ps.length ≤ 1000000000) (hns : IsInts w sa c row) :
    Calls Try.prog 16 #[.agg #[.int .i64 R.len, .int .i64 R.st, .int .i64 R.en, .slice R.pa R.ps.length R.pc], .slice sa row.length c] w fun e w' => e = .returned (.tuple #[.bool (fitsV R row), .int .i64 (rdgE R)]) ∧ Below w.heap.size w w' := by
  have k1 := Blk.new w 24 #[.int .i64 R.len, .int .i64 R.st, .int .i64 R.en, .slice R.pa R.ps.length R.pc]
  have hb1 : Below w.heap.size w (w.alloc (.cells #[.int .i64 R.len, .int .i64 R.st, .int .i64 R.en, .slice R.pa R.ps.length R.pc] 24)) := (Below.refl _ w).alloc (Nat.le_refl _) _
  have HR := Lib.hid hR
  have HNS := Lib.hid hns
  clear hR hns
  go_enter Try.func16, Try.ntmps16
  go_upto_region 1 with fail
  generalize w.alloc (.cells #[.int .i64 R.len, .int .i64 R.st, .int .i64 R.en, .slice R.pa R.ps.length R.pc] 24) = w1 at *
  have K1 := Lib.hid k1
  have HB1 := Lib.hid hb1
  obtain ⟨r0, r1, r2, r3⟩ := rdg_cells (R := R) k1
  have hlr := k1.lt
  clear k1 hb1
  go_wp2_with fail
  refine (refCheck_any R _ (HR.out.belowS HB1.out).row hbig HR.out.names).mono ?_
  rintro e w2 ⟨rfl, hb2⟩
  have K2 := Lib.hid (K1.out.belowS hb2)
  have HB2 := Lib.hid (HB1.out.trans (hb2.mono HB1.out.size))
  clear r0 r1 r2 r3 hlr hb2
  by_cases hE : rdgE R = 0
  rotate_left
  · have HV := Lib.hid (show fitsV R row = false by unfold fitsV; rw [if_neg hE])
    have q : (rdgE R != 0) = true := by simpa using hE
    obtain ⟨eR, hR⟩ : ∃ eR, rdgE R = eR := ⟨_, rfl⟩
    rw [hR] at q ⊢
    have HRR := Lib.hid hR
    clear hE hR
    go_wp2_with fail
    exact bodyPost_ret (v := .tuple #[.bool false, .int .i64 eR]) (by simp [results, Try.results16, go_sem]) rfl ⟨by rw [HV.out, HRR.out], HB2.out⟩
  have HE := Lib.hid hE
  have HV := Lib.hid (show fitsV R row = fitsB R row by unfold fitsV; rw [if_pos hE])
  rw [hE]
  clear hE
  obtain ⟨r0, r1, r2, r3⟩ := rdg_cells (R := R) K2.out
  have hlr := K2.out.lt
  go_wp2_with fail
  refine (refFits_any R sa c row _ (rdgE_ridge HE.out) (HR.out.belowS HB2.out).row (HNS.out.belowS HB2.out)).mono ?_
  rintro e w3 ⟨rfl, hb3⟩
  have HB3 := Lib.hid (HB2.out.trans (hb3.mono HB2.out.size))
  clear r0 r1 r2 r3 hlr hb3
  go_wp2_with fail
  exact bodyPost_ret (v := .tuple #[.bool (fitsB R row), .int .i64 0]) (by simp [results, Try.results16, go_sem]) rfl ⟨by rw [HV.out, HE.out], HB3.out⟩
end Go.Proofs.Ytmcmhgjlpffcnaa
