/- What is required of a ridge (requireRidge). No condition but the bounds of what is given. -/
import Derived.Test.YtmcmhgjlpffcnaaPH
set_option linter.unusedSimpArgs false
namespace Go.Proofs.Ytmcmhgjlpffcnaa
open Go.RowKit

/-- The first error among some. -/
def firstE (f : Nat → Int) : Nat → Int
  | 0 => 0
  | n + 1 => if firstE f n ≠ 0 then firstE f n else f n
theorem firstE_zero {f : Nat → Int} : ∀ {n : Nat}, (∀ i, i < n → f i = 0) → firstE f n = 0
  | 0, _ => rfl
  | n + 1, h => by
    have := firstE_zero (n := n) (fun i hi => h i (by omega))
    simp [firstE, this, h n (by omega)]
theorem firstE_at {f : Nat → Int} {k : Nat} (h : ∀ i, i < k → f i = 0) (hk : f k ≠ 0) : ∀ {n : Nat}, k < n → firstE f n = f k
  | 0, h2 => by omega
  | n + 1, h2 => by
    by_cases e : k = n
    · subst e
      simp [firstE, firstE_zero h]
    · have := firstE_at h hk (n := n) (by omega)
      simp [firstE, this, hk]
theorem firstE_all {f : Nat → Int} : ∀ {n : Nat}, firstE f n = 0 → ∀ i, i < n → f i = 0
  | 0, _, i, hi => by omega
  | n + 1, h, i, hi => by
    by_cases h2 : firstE f n = 0
    · simp only [firstE, h2, ne_eq, not_true_eq_false, if_false] at h
      by_cases e : i = n
      · rw [e]; exact h
      · exact firstE_all h2 i (by omega)
    · simp only [firstE, ne_eq, h2, not_false_eq_true, if_true] at h
def pceB (x : Pce) : Bool := isFromB x.wd 1 2000 && (isFromB x.lf 0 9 && isFromB x.rt 0 9)
def pceE (l : List Pce) (i : Nat) (x : Pce) : Int := if nameB x.name = false then 5 else if ((l.take i).any fun f => strB f.name x.name) = true then 6 else if pceB x = false then 1 else 0
def pE (l : List Pce) (i : Nat) : Int := match l[i]? with | some x => pceE l i x | none => 0
def mirE (l : List Pce) (i : Nat) (x : Pce) : Int := if isFromB x.mr 0 ((l.length : Int) - 1) = false then 7 else match l[x.mr.toNat]? with | some y => if areM (i : Int) x y = false then 10 else 0 | none => 0
def mE (l : List Pce) (i : Nat) : Int := match l[i]? with | some x => mirE l i x | none => 0
def rdgB (R : Rdg) : Bool := isFromB R.len 0 2000 && (isFromB R.st 0 9 && isFromB R.en 0 9)
/-- The first error of a ridge, or 0. -/
def rdgE (R : Rdg) : Int := if rdgB R = false then 1 else if ¬ R.ps.length ≤ 10 then 3 else if firstE (pE R.ps) R.ps.length ≠ 0 then firstE (pE R.ps) R.ps.length else firstE (mE R.ps) R.ps.length
theorem rdgE_first {R : Rdg} {k : Nat} (h1 : rdgB R = true) (h2 : R.ps.length ≤ 10) (h3 : ∀ i, i < k → pE R.ps i = 0) (hk : k < R.ps.length) (h4 : pE R.ps k ≠ 0) : rdgE R = pE R.ps k := by
  have := firstE_at h3 h4 hk
  simp [rdgE, h1, h2, this, h4]
theorem rdgE_second {R : Rdg} {k : Nat} (h1 : rdgB R = true) (h2 : R.ps.length ≤ 10) (h3 : ∀ i, i < R.ps.length → pE R.ps i = 0) (h5 : ∀ i, i < k → mE R.ps i = 0) (hk : k < R.ps.length) (h4 : mE R.ps k ≠ 0) : rdgE R = mE R.ps k := by
  simp [rdgE, h1, h2, firstE_zero h3, firstE_at h5 h4 hk]
theorem rdgE_ok {R : Rdg} (h1 : rdgB R = true) (h2 : R.ps.length ≤ 10) (h3 : ∀ i, i < R.ps.length → pE R.ps i = 0) (h5 : ∀ i, i < R.ps.length → mE R.ps i = 0) : rdgE R = 0 := by
  simp [rdgE, h1, h2, firstE_zero h3, firstE_zero h5]
theorem rdgE_nums {R : Rdg} {k : Nat} {x : Pce} (h1 : rdgB R = true) (h2 : R.ps.length ≤ 10) (h3 : ∀ i, i < k → pE R.ps i = 0) (hk : k < R.ps.length) (hq : R.ps[k]? = some x) (hn : nameB x.name = true) (ha : ((R.ps.take k).any fun f => strB f.name x.name) = false) (hb : pceB x = false) : rdgE R = 1 := by
  have h : pE R.ps k = 1 := by simp [pE, hq, pceE, hn, ha, hb]
  rw [rdgE_first h1 h2 h3 hk (by rw [h]; decide), h]
theorem rdgE_zero {R : Rdg} (h : rdgE R = 0) : rdgB R = true ∧ R.ps.length ≤ 10 ∧ (∀ i, i < R.ps.length → pE R.ps i = 0) ∧ ∀ i, i < R.ps.length → mE R.ps i = 0 := by
  unfold rdgE at h
  split at h
  · omega
  rename_i h1
  split at h
  · omega
  rename_i h2
  split at h
  · rename_i h3
    exact absurd h h3
  rename_i h3
  exact ⟨by simpa using h1, by omega, firstE_all (by omega), firstE_all h⟩
theorem pE_ok {l : List Pce} {i : Nat} {x : Pce} (hx : l[i]? = some x) (h : pE l i = 0) : x.ok ∧ nameB x.name = true := by
  unfold pE at h
  rw [hx] at h
  simp only [pceE] at h
  split at h
  · omega
  rename_i h1
  split at h
  · omega
  split at h
  · omega
  rename_i h2
  simp only [pceB, Bool.not_eq_false, Bool.and_eq_true, isFromB_iff] at h2
  exact ⟨⟨h2.1, h2.2.1, h2.2.2⟩, by simpa using h1⟩
theorem rdgE_ridge {R : Rdg} (h : rdgE R = 0) : R.ok := by
  obtain ⟨h1, h2, h3, _⟩ := rdgE_zero h
  simp only [rdgB, Bool.and_eq_true, isFromB_iff] at h1
  refine ⟨h1.1, h1.2.1, h1.2.2, h2, fun x hx => ?_⟩
  obtain ⟨i, hi⟩ := List.getElem?_of_mem hx
  exact (pE_ok hi (h3 i (List.getElem?_eq_some_iff.1 hi).1)).1

def ReqSaid (x : Int) (w : World) (e : Ending) (w' : World) : Prop := ((x = 0 ∧ e = .returned (.tuple #[])) ∨ (x ≠ 0 ∧ e = chain x)) ∧ Below w.heap.size w w'
theorem ReqSaid.no {x k : Int} {w w' : World} (h : x = k) (hk : k ≠ 0) (hb : Below w.heap.size w w') : ReqSaid x w (chain k) w' := by subst h; exact ⟨.inr ⟨hk, rfl⟩, hb⟩

set_option maxRecDepth 100000 in
set_option maxHeartbeats 16000000 in
theorem requireRidge_any (R : Rdg) (w : World) (hrow : IsPcs w R.pa R.pc R.ps) (hbig : R.ps.length ≤ 1000000000) (hnm : ∀ x ∈ R.ps, x.name.size ≤ maxLen) :
    Calls Try.prog 46 #[.agg #[.int .i64 R.len, .int .i64 R.st, .int .i64 R.en, .slice R.pa R.ps.length R.pc]] w (ReqSaid (rdgE R) w) := by
  have k1 := Blk.new w 24 #[.int .i64 R.len, .int .i64 R.st, .int .i64 R.en, .slice R.pa R.ps.length R.pc]
  have hb1 : Below w.heap.size w (w.alloc (.cells #[.int .i64 R.len, .int .i64 R.st, .int .i64 R.en, .slice R.pa R.ps.length R.pc] 24)) := (Below.refl _ w).alloc (Nat.le_refl _) _
  have hrow1 := hrow.belowS hb1
  have HNM := Lib.hid hnm
  clear hrow hnm
  go_enter Try.func46, Try.ntmps46
  go_upto_region 1 with fail
  generalize w.alloc (.cells #[.int .i64 R.len, .int .i64 R.st, .int .i64 R.en, .slice R.pa R.ps.length R.pc] 24) = w1 at *
  have K1 := Lib.hid k1
  have HB1 := Lib.hid hb1
  have HROW := Lib.hid hrow1
  obtain ⟨r0, r1, r2, r3⟩ := rdg_cells (R := R) k1
  have hlr := k1.lt
  clear k1 hb1 hrow1
  go_wp2_with fail
  refine (isFrom_any _ _ _ _).mono ?_
  rintro e w' ⟨rfl, rfl⟩
  cases h1 : isFromB R.len 0 2000 with
  | false =>
    have HV := Lib.hid (show rdgE R = 1 by simp [rdgE, rdgB, h1])
    clear h1
    go_wp2_with fail
    refine (require_no 1 _).mono ?_
    rintro e w' ⟨rfl, rfl⟩
    exact ⟨rfl, ReqSaid.no HV.out (by decide) HB1.out⟩
  | true =>
    have H1 := Lib.hid h1
    clear h1
    go_wp2_with fail
    refine (isProfile_any _ _).mono ?_
    rintro e w' ⟨rfl, rfl⟩
    cases h2 : isFromB R.st 0 9 with
    | false =>
      have HV := Lib.hid (show rdgE R = 1 by simp [rdgE, rdgB, h2])
      clear h2
      go_wp2_with fail
      refine (require_no 1 _).mono ?_
      rintro e w' ⟨rfl, rfl⟩
      exact ⟨rfl, ReqSaid.no HV.out (by decide) HB1.out⟩
    | true =>
      have H2 := Lib.hid h2
      clear h2
      go_wp2_with fail
      refine (isProfile_any _ _).mono ?_
      rintro e w' ⟨rfl, rfl⟩
      cases h3 : isFromB R.en 0 9 with
      | false =>
        have HV := Lib.hid (show rdgE R = 1 by simp [rdgE, rdgB, h3])
        clear h3
        go_wp2_with fail
        refine (require_no 1 _).mono ?_
        rintro e w' ⟨rfl, rfl⟩
        exact ⟨rfl, ReqSaid.no HV.out (by decide) HB1.out⟩
      | true =>
        have H3 := Lib.hid h3
        clear h3
        go_wp2_with fail
        refine (require_yes 1 _).mono ?_
        rintro e w' ⟨rfl, rfl⟩
        have HRB := Lib.hid (show rdgB R = true by simp [rdgB, H1.out, H2.out, H3.out])
        clear H1 H2 H3
        by_cases hl10 : R.ps.length ≤ 10
        rotate_left
        · have HV := Lib.hid (show rdgE R = 3 by simp [rdgE, HRB.out, hl10])
          have hd : decide ((R.ps.length : Int) ≤ 10) = false := by simp; omega
          clear hl10
          go_wp2_with fail
          refine (require_no 3 _).mono ?_
          rintro e w' ⟨rfl, rfl⟩
          exact ⟨rfl, ReqSaid.no HV.out (by decide) HB1.out⟩
        have hd : decide ((R.ps.length : Int) ≤ 10) = true := by simp; omega
        have HL := Lib.hid hl10
        clear hl10 hbig
        go_wp2_with fail
        refine (require_yes 3 _).mono ?_
        rintro e w' ⟨rfl, rfl⟩
        go_wp2_with fail
        clear hd
        go_loopw [28, 2, 3] (fun i _ _ wr => ∃ j : Nat, j ≤ R.ps.length ∧ i = .int .i64 j ∧ (∀ k, k < j → pE R.ps k = 0) ∧ Below w'.heap.size w' wr) (fun i _ _ _ => R.ps.length - (intOf i).toNat)
        case atStart => exact ⟨0, Nat.zero_le _, rfl, fun k h => by omega, Below.refl _ _⟩
        case round =>
          obtain ⟨j, hj, rfl, hno, g2⟩ := hrel
          have KW := Lib.hid (K1.out.belowS g2)
          have g2' := Lib.hid g2
          have HBW := Lib.hid (HB1.out.trans (g2.mono HB1.out.size))
          have HNO := Lib.hid hno
          clear hno r0 r1 r2 r3 hlr
          by_cases hlj : j < R.ps.length
          · have hq : R.ps[j]? = some R.ps[j] := List.getElem?_eq_getElem hlj
            have hmem := List.getElem_mem hlj
            obtain ⟨b, off, e, hbl, hc1, hc2, hp⟩ := (HROW.out.belowS g2).at hq
            generalize R.ps[j] = x at *
            obtain ⟨c0, c1, c2, c3, c4⟩ := hp
            have hnx := HNM.out x hmem
            have HQ := Lib.hid hq
            have HG := Lib.hid g2
            have HNX := Lib.hid hnx
            have HE := Lib.hid e
            have r3' : wr.cell? ⟨w.heap.size, 3, none⟩ = some (.slice (some ⟨b, off, none⟩) R.ps.length R.pc) := by rw [← e]; exact KW.out.cell 3
            rw [e]
            have hj0 : (0 : Int) ≤ (j : Int) := Int.natCast_nonneg _
            have hj1 : (j : Int) < (R.ps.length : Int) := by omega
            clear hq hmem g2 hnx e
            go_wp2_with fail
            have kX := Blk.new wr 54 #[.string x.name, .int .i64 x.wd, .int .i64 x.lf, .int .i64 x.rt, .int .i64 x.mr]
            have hbx : Below wr.heap.size wr (wr.alloc (.cells #[.string x.name, .int .i64 x.wd, .int .i64 x.lf, .int .i64 x.rt, .int .i64 x.mr] 54)) := (Below.refl _ wr).alloc (Nat.le_refl _) _
            have kR := KW.out.belowS hbx
            have hbw := HBW.out.trans (hbx.mono HBW.out.size)
            have hrx := HROW.out.belowS (g2'.out.trans (hbx.mono g2'.out.size))
            generalize wr.alloc (.cells #[.string x.name, .int .i64 x.wd, .int .i64 x.lf, .int .i64 x.rt, .int .i64 x.mr] 54) = wx at *
            have KX := Lib.hid kX
            have KR := Lib.hid kR
            have HBX := Lib.hid hbx
            have HB2 := Lib.hid hbw
            have HRX := Lib.hid hrx
            clear hbw hrx c0 c1 c2 c3 c4
            refine (isName_any x.name _ HNX.out).mono ?_
            rintro e w2 ⟨rfl, rfl⟩
            obtain ⟨r0, r1, r2, r3⟩ := rdg_cells (R := R) kR
            obtain ⟨x0, x1, x2, x3, x4⟩ := pce_cells (x := x) kX
            have lR := kR.lt
            have lX := kX.lt
            clear kX kR hbx
            cases hN : nameB x.name with
            | false =>
              have HV := Lib.hid (show rdgE R = 5 by
                have h : pE R.ps j = 5 := by simp [pE, HQ.out, pceE, hN]
                rw [rdgE_first HRB.out HL.out HNO.out hlj (by rw [h]; decide), h])
              clear hN
              go_wp2_with fail
              refine (require_no 5 _).mono ?_
              rintro e w2 ⟨rfl, rfl⟩
              exact ⟨rfl, ReqSaid.no HV.out (by decide) HB2.out⟩
            | true =>
            have HN := Lib.hid hN
            clear hN
            go_wp2_with fail
            refine (require_yes 5 _).mono ?_
            rintro e w2 ⟨rfl, rfl⟩
            have HFP : ∀ W, Below w2.heap.size w2 W → Calls Try.prog 79 #[.slice (some ⟨b, off, none⟩) j R.pc, .string x.name] W fun e w' => e = .returned (.int .i64 (idxN (R.ps.take j) x.name)) ∧ Below W.heap.size W w' := fun W hb => by
              have h := findPiece_any R.pa R.pc (R.ps.take j) x.name W ((HRX.out.belowS hb).pre j)
              rw [List.length_take, Nat.min_eq_left hj, HE.out] at h
              exact h
            have HFI := Lib.hid HFP
            have hmk : ∀ w', Below w2.heap.size w2 w' → (Below w2.heap.size w2 w' ∧ (w'.cell? ⟨w.heap.size, 3, none⟩ = some (.slice (some ⟨b, off, none⟩) R.ps.length R.pc) ∧ w'.cell? ⟨wr.heap.size, 0, none⟩ = some (.string x.name))) := fun w' h =>
              ⟨h, (h.cell (p := ⟨w.heap.size, 3, none⟩) lR).trans (r3.trans (by rw [HE.out])), (h.cell (p := ⟨wr.heap.size, 0, none⟩) lX).trans x0⟩
            have HMK := Lib.hid hmk
            have hin : decide (idxN (R.ps.take j) x.name < 0) = !((R.ps.take j).any fun f => strB f.name x.name) := idxN_neg _ _
            obtain ⟨iv, hiv⟩ : ∃ iv, idxN (R.ps.take j) x.name = iv := ⟨_, rfl⟩
            obtain ⟨bt, hbt⟩ : ∃ bt, (!((R.ps.take j).any fun f => strB f.name x.name)) = bt := ⟨_, rfl⟩
            rw [hiv, hbt] at hin
            have HIV := Lib.hid hiv
            have HBTT := Lib.hid hbt
            have hjc : j ≤ R.pc := by omega
            have hjc2 : (j : Int) ≤ (R.pc : Int) := by omega
            clear hiv hbt HFP hmk r0 r1 r2 r3 x0 x1 x2 x3 x4
            go_wp2_with fail
            refine wp_region_E 9 (fun w' => Below w2.heap.size w2 w' ∧ (w'.cell? ⟨w.heap.size, 3, none⟩ = some (.slice (some ⟨b, off, none⟩) R.ps.length R.pc) ∧ w'.cell? ⟨wr.heap.size, 0, none⟩ = some (.string x.name))) (by kernel_rfl) ?_
            have hx0 := HMK.out w2.drew (Below.refl _ _).drew
            refine E_takeR (i := 0) (oi := _) (v := ?v1) rfl (by kernel_rfl) (by kernel_rfl) (by kernel_rfl) (by decide) (fun _ _ _ h => h) hx0 (Or.inl ⟨by rfl, ?y1⟩) ?r1
            case y1 => (intro w' hSw; (try dsimp only at hSw); go_simp; try with_reducible rfl)
            try simp only [Act.put, List.getElem_toArray, List.getElem_cons_zero, List.getElem_cons_succ, List.setIfInBounds_toArray, List.set_cons_zero, List.set_cons_succ]
            refine E_takeR (i := 1) (oi := _) (v := ?v2) rfl (by kernel_rfl) (by kernel_rfl) (by kernel_rfl) (by decide) (fun _ _ _ h => h) hx0 (Or.inl ⟨by rfl, ?y2⟩) ?r2
            case y2 => (intro w' hSw; (try dsimp only at hSw); go_simp; try with_reducible rfl)
            try simp only [Act.put, List.getElem_toArray, List.getElem_cons_zero, List.getElem_cons_succ, List.setIfInBounds_toArray, List.set_cons_zero, List.set_cons_succ]
            refine E_takeR (i := 2) (oi := _) (v := ?v3) rfl (by kernel_rfl) (by kernel_rfl) (by kernel_rfl) (by decide) (fun _ _ _ h => h) hx0 (Or.inl ⟨by rfl, ?y3⟩) ?r3
            case y3 => (intro w' hSw; (try dsimp only at hSw); go_simp; try with_reducible rfl)
            try simp only [Act.put, List.getElem_toArray, List.getElem_cons_zero, List.getElem_cons_succ, List.setIfInBounds_toArray, List.set_cons_zero, List.set_cons_succ]
            refine E_takeR (i := 3) (oi := _) (v := ?v4) rfl (by kernel_rfl) (by kernel_rfl) (by kernel_rfl) (by decide) (fun _ _ _ h => h) hx0 (Or.inl ⟨by rfl, ?y4⟩) ?r4
            case y4 => (intro w' hSw; (try dsimp only at hSw); go_simp; try with_reducible rfl)
            try simp only [Act.put, List.getElem_toArray, List.getElem_cons_zero, List.getElem_cons_succ, List.setIfInBounds_toArray, List.set_cons_zero, List.set_cons_succ]
            refine E_takeR (i := 4) (oi := _) (v := ?v5) rfl (by kernel_rfl) (by kernel_rfl) (by kernel_rfl) (by decide) (fun _ _ _ h => h) hx0 (Or.inl ⟨by rfl, ?y5⟩) ?r5
            case y5 => (intro w' hSw; (try dsimp only at hSw); go_simp; try with_reducible rfl)
            try simp only [Act.put, List.getElem_toArray, List.getElem_cons_zero, List.getElem_cons_succ, List.setIfInBounds_toArray, List.set_cons_zero, List.set_cons_succ]
            refine E_takeR (i := 5) (oi := _) (v := ?v6) rfl (by kernel_rfl) (by kernel_rfl) (by kernel_rfl) (by decide) (fun _ _ _ h => h) hx0 (Or.inl ⟨by rfl, ?y6⟩) ?r6
            case y6 => (intro w' hSw; (try dsimp only at hSw); go_simp; try with_reducible rfl)
            try simp only [Act.put, List.getElem_toArray, List.getElem_cons_zero, List.getElem_cons_succ, List.setIfInBounds_toArray, List.set_cons_zero, List.set_cons_succ]
            refine E_step (i := 6) (o := _) (by kernel_rfl) rfl (fun K hK => ?_)
            go_simp
            refine (HFI.out _ (Below.refl _ w2).drew).mono ?_
            rintro e w6 ⟨rfl, hb6⟩
            dsimp only
            have hB6 := (Below.refl w2.heap.size w2).drew.trans hb6
            have hx6 := HMK.out w6 hB6
            refine hK.out _ _ (fun _ => hx6) ?_
            clear hK K
            try simp only [Act.put, List.getElem_toArray, List.getElem_cons_zero, List.getElem_cons_succ, List.setIfInBounds_toArray, List.set_cons_zero, List.set_cons_succ]
            rw [HIV.out]
            refine E_takeR (i := 7) (oi := _) (v := ?v7) rfl (by kernel_rfl) (by kernel_rfl) (by kernel_rfl) (by decide) (fun _ _ _ h => h) hx6 (Or.inl ⟨by rfl, ?y7⟩) ?r7
            case y7 => (intro w' hSw; (try dsimp only at hSw); go_simp; try with_reducible rfl)
            try simp only [Act.put, List.getElem_toArray, List.getElem_cons_zero, List.getElem_cons_succ, List.setIfInBounds_toArray, List.set_cons_zero, List.set_cons_succ]
            refine E_step (i := 8) (o := _) (by kernel_rfl) rfl (fun K hK => ?_)
            go_simp
            refine (require_any bt 6 _).mono ?_
            rintro e w7 ⟨h, rfl⟩
            have HB7 := Lib.hid (HB2.out.trans (hB6.mono HB2.out.size))
            rcases h with ⟨rfl, rfl⟩ | ⟨rfl, rfl⟩
            rotate_left
            · dsimp only
              have hv : rdgE R = 6 := by
                have h : pE R.ps j = 6 := by
                  have := HBTT.out
                  simp only [Bool.not_eq_false'] at this
                  simp [pE, HQ.out, pceE, HN.out, this]
                rw [rdgE_first HRB.out HL.out HNO.out hlj (by rw [h]; decide), h]
              exact ⟨rfl, ReqSaid.no hv (by decide) HB7.out⟩
            dsimp only
            refine hK.out _ _ (fun _ => hx6) ?_
            clear hK K
            try simp only [Act.put, List.getElem_toArray, List.getElem_cons_zero, List.getElem_cons_succ, List.setIfInBounds_toArray, List.set_cons_zero, List.set_cons_succ]
            refine E_done (by kernel_rfl) ?_ _
            have KX7 := Lib.hid (KX.out.below hB6 KX.out.lt)
            obtain ⟨x0, x1, x2, x3, x4⟩ := pce_cells (x := x) KX7.out
            have lX := KX7.out.lt
            have HBS := Lib.hid hB6
            clear hx0 hx6 hb6 hB6 hin
            have HAN := Lib.hid (show ((R.ps.take j).any fun f => strB f.name x.name) = false by have := HBTT.out; simpa using this)
            have HBF := Lib.hid ((g2'.out.trans (HBX.out.mono g2'.out.size)).trans (HBS.out.mono (Nat.le_trans g2'.out.size HBX.out.size)))
            go_wp2_with fail
            refine (isFrom_any _ _ _ _).mono ?_
            rintro e wz ⟨rfl, rfl⟩
            cases h1 : isFromB x.wd 1 2000 with
            | false =>
              have HV := Lib.hid (show rdgE R = 1 by exact rdgE_nums HRB.out HL.out HNO.out hlj HQ.out HN.out HAN.out (by simp [pceB, h1]))
              clear h1
              go_wp2_with fail
              refine (require_no 1 _).mono ?_
              rintro e wz ⟨rfl, rfl⟩
              exact ⟨rfl, ReqSaid.no HV.out (by decide) HB7.out⟩
            | true =>
              have H1 := Lib.hid h1
              clear h1
              go_wp2_with fail
              refine (isProfile_any _ _).mono ?_
              rintro e wz ⟨rfl, rfl⟩
              cases h2 : isFromB x.lf 0 9 with
              | false =>
                have HV := Lib.hid (show rdgE R = 1 by exact rdgE_nums HRB.out HL.out HNO.out hlj HQ.out HN.out HAN.out (by simp [pceB, h2]))
                clear h2
                go_wp2_with fail
                refine (require_no 1 _).mono ?_
                rintro e wz ⟨rfl, rfl⟩
                exact ⟨rfl, ReqSaid.no HV.out (by decide) HB7.out⟩
              | true =>
                have H2 := Lib.hid h2
                clear h2
                go_wp2_with fail
                refine (isProfile_any _ _).mono ?_
                rintro e wz ⟨rfl, rfl⟩
                cases h3 : isFromB x.rt 0 9 with
                | false =>
                  have HV := Lib.hid (show rdgE R = 1 by exact rdgE_nums HRB.out HL.out HNO.out hlj HQ.out HN.out HAN.out (by simp [pceB, h3]))
                  clear h3
                  go_wp2_with fail
                  refine (require_no 1 _).mono ?_
                  rintro e wz ⟨rfl, rfl⟩
                  exact ⟨rfl, ReqSaid.no HV.out (by decide) HB7.out⟩
                | true =>
                  have H3 := Lib.hid h3
                  clear h3
                  go_wp2_with fail
                  refine (require_yes 1 _).mono ?_
                  rintro e wz ⟨rfl, rfl⟩
                  go_wp2_with fail
                  refine ⟨⟨j + 1, by omega, by simp, fun k hk => ?_, HBF.out⟩, by simp [intOf]; omega⟩
                  by_cases e : k = j
                  · subst e; simp [pE, HQ.out, pceE, HN.out, HAN.out, pceB, H1.out, H2.out, H3.out]
                  · exact HNO.out k (by omega)
          · obtain rfl : j = R.ps.length := by omega
            obtain ⟨r0, r1, r2, r3⟩ := rdg_cells (R := R) KW.out
            have lR := KW.out.lt
            have HNP := Lib.hid HNO.out
            go_wp2_with fail
            clear r0 r1 r2 r3 lR
            obtain ⟨wo, rfl⟩ : ∃ wo : World, wo = wr := ⟨_, rfl⟩
            go_loopw [64, 4, 5] (fun i _ _ wv => ∃ j : Nat, j ≤ R.ps.length ∧ i = .int .i64 j ∧ (∀ k, k < j → mE R.ps k = 0) ∧ Below wo.heap.size wo wv) (fun i _ _ _ => R.ps.length - (intOf i).toNat)
            case atStart => exact ⟨0, Nat.zero_le _, rfl, fun k h => by omega, Below.refl _ _⟩
            case round =>
              obtain ⟨j, hj, rfl, hno, g3⟩ := hrel
              have HNO := Lib.hid hno
              have G3 := Lib.hid g3
              have KV := Lib.hid (KW.out.belowS g3)
              have HBV := Lib.hid (HBW.out.trans (g3.mono HBW.out.size))
              have hrv := HROW.out.belowS (g2'.out.trans (g3.mono g2'.out.size))
              clear hno g3
              by_cases hlj : j < R.ps.length
              · have hq : R.ps[j]? = some R.ps[j] := List.getElem?_eq_getElem hlj
                generalize R.ps[j] = x at *
                obtain ⟨b, off, e, hbl, hc1, hc2, hp⟩ := hrv.at hq
                obtain ⟨c0, c1, c2, c3, c4⟩ := hp
                have HQ := Lib.hid hq
                have HRV := Lib.hid hrv
                have HE := Lib.hid e
                rw [e]
                have hj0 : (0 : Int) ≤ (j : Int) := Int.natCast_nonneg _
                have hj1 : (j : Int) < (R.ps.length : Int) := by omega
                obtain ⟨r0, r1, r2, r3⟩ := rdg_cells (R := R) KV.out
                rw [HE.out] at r3
                have lR := KV.out.lt
                clear hq hrv e
                go_wp2_with fail
                clear r0 r1 r2 r3 lR
                have kX := Blk.new wr 54 #[.string x.name, .int .i64 x.wd, .int .i64 x.lf, .int .i64 x.rt, .int .i64 x.mr]
                have hbx : Below wr.heap.size wr (wr.alloc (.cells #[.string x.name, .int .i64 x.wd, .int .i64 x.lf, .int .i64 x.rt, .int .i64 x.mr] 54)) := (Below.refl _ wr).alloc (Nat.le_refl _) _
                have kR := KV.out.belowS hbx
                have hbw := HBV.out.trans (hbx.mono HBV.out.size)
                generalize wr.alloc (.cells #[.string x.name, .int .i64 x.wd, .int .i64 x.lf, .int .i64 x.rt, .int .i64 x.mr] 54) = wx at *
                have KX := Lib.hid kX
                have KR := Lib.hid kR
                have HBX := Lib.hid hbx
                have HB2 := Lib.hid hbw
                obtain ⟨r0, r1, r2, r3⟩ := rdg_cells (R := R) kR
                rw [HE.out] at r3
                obtain ⟨x0, x1, x2, x3, x4⟩ := pce_cells (x := x) kX
                have lR := kR.lt
                have lX := kX.lt
                have HIP := Lib.hid (show ∀ W, Calls Try.prog 72 #[.agg #[.int .i64 R.len, .int .i64 R.st, .int .i64 R.en, .slice (some ⟨b, off, none⟩) R.ps.length R.pc], .int .i64 x.mr] W fun e w' => e = .returned (.bool (isFromB x.mr 0 ((R.ps.length : Int) - 1))) ∧ Below W.heap.size W w' from fun W => by
                  have := isPiece_any R x.mr W (by have := HL.out; omega)
                  rwa [HE.out] at this)
                clear kX kR hbx hbw c0 c1 c2 c3 c4
                refine (HIP.out _).mono ?_
                rintro e w3 ⟨rfl, hb3⟩
                have HB3 := Lib.hid hb3
                have HB4 := Lib.hid (HB2.out.trans (hb3.mono HB2.out.size))
                clear r0 r1 r2 r3 x0 x1 x2 x3 x4 lR lX hb3 HIP
                cases hM : isFromB x.mr 0 ((R.ps.length : Int) - 1) with
                | false =>
                  have HV := Lib.hid (show rdgE R = 7 by
                    have h : mE R.ps j = 7 := by simp [mE, HQ.out, mirE, hM]
                    rw [rdgE_second HRB.out HL.out HNP.out HNO.out hlj (by rw [h]; decide), h])
                  clear hM
                  go_wp2_with fail
                  refine (require_no 7 _).mono ?_
                  rintro e w4 ⟨rfl, rfl⟩
                  exact ⟨rfl, ReqSaid.no HV.out (by decide) HB4.out⟩
                | true =>
                  obtain ⟨hm1, hm2⟩ := isFromB_iff.1 hM
                  obtain ⟨m, hm⟩ : ∃ m : Nat, x.mr = (m : Int) := ⟨x.mr.toNat, by omega⟩
                  have hml : m < R.ps.length := by omega
                  have hqy : R.ps[m]? = some R.ps[m] := List.getElem?_eq_getElem hml
                  generalize R.ps[m] = y at *
                  have HQY := Lib.hid hqy
                  have HMR := Lib.hid hm
                  have HMB := Lib.hid hM
                  have g0 : (0 : Int) ≤ (m : Int) := by omega
                  have g1 : (m : Int) < (R.ps.length : Int) := by omega
                  clear hM hm1 hm2 hm hqy
                  go_wp2_with fail
                  refine (require_yes 7 _).mono ?_
                  rintro e w4 ⟨rfl, rfl⟩
                  have hR4 := KR.out.belowS HB3.out
                  have hX4 := KX.out.belowS HB3.out
                  have hrow4 := HRV.out.belowS (HBX.out.trans (HB3.out.mono HBX.out.size))
                  obtain ⟨b', off', e', hbl', _, _, hp'⟩ := hrow4.at HQY.out
                  rw [HE.out] at e'
                  obtain ⟨rfl, rfl⟩ : b' = b ∧ off' = off := by cases e'; exact ⟨rfl, rfl⟩
                  obtain ⟨q0, q1, q2, q3, q4⟩ := hp'
                  obtain ⟨x0, x1, x2, x3, x4⟩ := pce_cells (x := x) hX4
                  have r3 := hR4.cell 3
                  have lR := hR4.lt
                  have lX := hX4.lt
                  simp only [List.getElem?_toArray, List.getElem?_cons_zero, List.getElem?_cons_succ] at r3
                  rw [HE.out] at r3
                  rw [HMR.out] at x4
                  have hmk : ∀ w', Below w4.heap.size w4 w' → (Below w4.heap.size w4 w' ∧ ((w'.cell? ⟨wr.heap.size, 0, none⟩ = some (.string x.name) ∧ w'.cell? ⟨wr.heap.size, 1, none⟩ = some (.int .i64 x.wd) ∧ w'.cell? ⟨wr.heap.size, 2, none⟩ = some (.int .i64 x.lf) ∧ w'.cell? ⟨wr.heap.size, 3, none⟩ = some (.int .i64 x.rt) ∧ w'.cell? ⟨wr.heap.size, 4, none⟩ = some (.int .i64 (m : Int))) ∧ w'.cell? ⟨w.heap.size, 3, none⟩ = some (.slice (some ⟨b', off', none⟩) R.ps.length R.pc) ∧ w'.cell? ⟨b', off' + m * 5, none⟩ = some (.string y.name) ∧ w'.cell? ⟨b', off' + m * 5 + 1, none⟩ = some (.int .i64 y.wd) ∧ w'.cell? ⟨b', off' + m * 5 + 2, none⟩ = some (.int .i64 y.lf) ∧ w'.cell? ⟨b', off' + m * 5 + 3, none⟩ = some (.int .i64 y.rt) ∧ w'.cell? ⟨b', off' + m * 5 + 4, none⟩ = some (.int .i64 y.mr))) := fun w' h => ⟨h, ⟨(h.cell (p := ⟨wr.heap.size, 0, none⟩) lX).trans x0, (h.cell (p := ⟨wr.heap.size, 1, none⟩) lX).trans x1, (h.cell (p := ⟨wr.heap.size, 2, none⟩) lX).trans x2, (h.cell (p := ⟨wr.heap.size, 3, none⟩) lX).trans x3, (h.cell (p := ⟨wr.heap.size, 4, none⟩) lX).trans x4⟩, (h.cell (p := ⟨w.heap.size, 3, none⟩) lR).trans r3, (h.cell (p := ⟨b', _, none⟩) hbl').trans q0, (h.cell (p := ⟨b', _, none⟩) hbl').trans q1, (h.cell (p := ⟨b', _, none⟩) hbl').trans q2, (h.cell (p := ⟨b', _, none⟩) hbl').trans q3, (h.cell (p := ⟨b', _, none⟩) hbl').trans q4⟩
                  have HMK := Lib.hid hmk
                  have HAM := Lib.hid (show ∀ W, Calls Try.prog 80 #[.int .i64 (j : Int), .agg #[.string x.name, .int .i64 x.wd, .int .i64 x.lf, .int .i64 x.rt, .int .i64 (m : Int)], .agg #[.string y.name, .int .i64 y.wd, .int .i64 y.lf, .int .i64 y.rt, .int .i64 y.mr]] W fun e w' => e = .returned (.bool (areM (j : Int) x y)) ∧ Below W.heap.size W w' from fun W => by
                    have := areMirrors_any (j : Int) x y W
                    rwa [HMR.out] at this)
                  obtain ⟨bt, hbt⟩ : ∃ bt, areM (j : Int) x y = bt := ⟨_, rfl⟩
                  have HBT := Lib.hid hbt
                  clear hR4 hX4 hrow4 hmk x0 x1 x2 x3 x4 q0 q1 q2 q3 q4 r3 lR lX hbt e'
                  go_wp2_with fail
                  refine wp_region_E 10 (fun w' => Below w4.heap.size w4 w' ∧ ((w'.cell? ⟨wr.heap.size, 0, none⟩ = some (.string x.name) ∧ w'.cell? ⟨wr.heap.size, 1, none⟩ = some (.int .i64 x.wd) ∧ w'.cell? ⟨wr.heap.size, 2, none⟩ = some (.int .i64 x.lf) ∧ w'.cell? ⟨wr.heap.size, 3, none⟩ = some (.int .i64 x.rt) ∧ w'.cell? ⟨wr.heap.size, 4, none⟩ = some (.int .i64 (m : Int))) ∧ w'.cell? ⟨w.heap.size, 3, none⟩ = some (.slice (some ⟨b', off', none⟩) R.ps.length R.pc) ∧ w'.cell? ⟨b', off' + m * 5, none⟩ = some (.string y.name) ∧ w'.cell? ⟨b', off' + m * 5 + 1, none⟩ = some (.int .i64 y.wd) ∧ w'.cell? ⟨b', off' + m * 5 + 2, none⟩ = some (.int .i64 y.lf) ∧ w'.cell? ⟨b', off' + m * 5 + 3, none⟩ = some (.int .i64 y.rt) ∧ w'.cell? ⟨b', off' + m * 5 + 4, none⟩ = some (.int .i64 y.mr))) (by kernel_rfl) ?_
                  have hx0 := HMK.out w4.drew (Below.refl _ _).drew
                  refine E_takeR (i := 0) (oi := _) (v := ?v8) rfl (by kernel_rfl) (by kernel_rfl) (by kernel_rfl) (by decide) (fun _ _ _ h => h) hx0 (Or.inl ⟨by rfl, ?y8⟩) ?r8
                  case y8 => (intro w' hSw; (try dsimp only at hSw); go_simp; try with_reducible rfl)
                  try simp only [Act.put, List.getElem_toArray, List.getElem_cons_zero, List.getElem_cons_succ, List.setIfInBounds_toArray, List.set_cons_zero, List.set_cons_succ]
                  refine E_takeR (i := 1) (oi := _) (v := ?v9) rfl (by kernel_rfl) (by kernel_rfl) (by kernel_rfl) (by decide) (fun _ _ _ h => h) hx0 (Or.inl ⟨by rfl, ?y9⟩) ?r9
                  case y9 => (intro w' hSw; (try dsimp only at hSw); go_simp; try with_reducible rfl)
                  try simp only [Act.put, List.getElem_toArray, List.getElem_cons_zero, List.getElem_cons_succ, List.setIfInBounds_toArray, List.set_cons_zero, List.set_cons_succ]
                  refine E_takeR (i := 2) (oi := _) (v := ?v10) rfl (by kernel_rfl) (by kernel_rfl) (by kernel_rfl) (by decide) (fun _ _ _ h => h) hx0 (Or.inl ⟨by rfl, ?y10⟩) ?r10
                  case y10 => (intro w' hSw; (try dsimp only at hSw); go_simp; try with_reducible rfl)
                  try simp only [Act.put, List.getElem_toArray, List.getElem_cons_zero, List.getElem_cons_succ, List.setIfInBounds_toArray, List.set_cons_zero, List.set_cons_succ]
                  refine E_takeR (i := 3) (oi := _) (v := ?v11) rfl (by kernel_rfl) (by kernel_rfl) (by kernel_rfl) (by decide) (fun _ _ _ h => h) hx0 (Or.inl ⟨by rfl, ?y11⟩) ?r11
                  case y11 => (intro w' hSw; (try dsimp only at hSw); go_simp; try with_reducible rfl)
                  try simp only [Act.put, List.getElem_toArray, List.getElem_cons_zero, List.getElem_cons_succ, List.setIfInBounds_toArray, List.set_cons_zero, List.set_cons_succ]
                  refine E_takeR (i := 4) (oi := _) (v := ?v12) rfl (by kernel_rfl) (by kernel_rfl) (by kernel_rfl) (by decide) (fun _ _ _ h => h) hx0 (Or.inl ⟨by rfl, ?y12⟩) ?r12
                  case y12 => (intro w' hSw; (try dsimp only at hSw); go_simp; try with_reducible rfl)
                  try simp only [Act.put, List.getElem_toArray, List.getElem_cons_zero, List.getElem_cons_succ, List.setIfInBounds_toArray, List.set_cons_zero, List.set_cons_succ]
                  refine E_takeR (i := 5) (oi := _) (v := ?v13) rfl (by kernel_rfl) (by kernel_rfl) (by kernel_rfl) (by decide) (fun _ _ _ h => h) hx0 (Or.inl ⟨by rfl, ?y13⟩) ?r13
                  case y13 => (intro w' hSw; (try dsimp only at hSw); go_simp; try with_reducible rfl)
                  try simp only [Act.put, List.getElem_toArray, List.getElem_cons_zero, List.getElem_cons_succ, List.setIfInBounds_toArray, List.set_cons_zero, List.set_cons_succ]
                  refine E_takeR (i := 6) (oi := _) (v := ?v14) rfl (by kernel_rfl) (by kernel_rfl) (by kernel_rfl) (by decide) (fun _ _ _ h => h) hx0 (Or.inl ⟨by rfl, ?y14⟩) ?r14
                  case y14 => (intro w' hSw; (try dsimp only at hSw); go_simp; try with_reducible rfl)
                  try simp only [Act.put, List.getElem_toArray, List.getElem_cons_zero, List.getElem_cons_succ, List.setIfInBounds_toArray, List.set_cons_zero, List.set_cons_succ]
                  refine E_takeR (i := 7) (oi := _) (v := ?v15) rfl (by kernel_rfl) (by kernel_rfl) (by kernel_rfl) (by decide) (fun _ _ _ h => h) hx0 (Or.inl ⟨by rfl, ?y15⟩) ?r15
                  case y15 => (intro w' hSw; (try dsimp only at hSw); go_simp; try with_reducible rfl)
                  try simp only [Act.put, List.getElem_toArray, List.getElem_cons_zero, List.getElem_cons_succ, List.setIfInBounds_toArray, List.set_cons_zero, List.set_cons_succ]
                  refine E_step (i := 8) (o := _) (by kernel_rfl) rfl (fun K hK => ?_)
                  go_simp
                  refine (HAM.out _).mono ?_
                  rintro e w6 ⟨rfl, hb6⟩
                  dsimp only
                  have hB6 := (Below.refl w4.heap.size w4).drew.trans hb6
                  have hx6 := HMK.out w6 hB6
                  refine hK.out _ _ (fun _ => hx6) ?_
                  clear hK K
                  try simp only [Act.put, List.getElem_toArray, List.getElem_cons_zero, List.getElem_cons_succ, List.setIfInBounds_toArray, List.set_cons_zero, List.set_cons_succ]
                  rw [HBT.out]
                  refine E_step (i := 9) (o := _) (by kernel_rfl) rfl (fun K hK => ?_)
                  go_simp
                  refine (require_any bt 10 _).mono ?_
                  rintro e w7 ⟨h, rfl⟩
                  have HB7 := Lib.hid (HB4.out.trans (hB6.mono HB4.out.size))
                  have hmev : mE R.ps j = if areM (j : Int) x y = false then 10 else 0 := by
                    have hmb := HMB.out
                    rw [HMR.out] at hmb
                    simp [mE, HQ.out, mirE, hmb, HMR.out, HQY.out]
                  rw [HBT.out] at hmev
                  rcases h with ⟨rfl, rfl⟩ | ⟨rfl, rfl⟩
                  rotate_left
                  · dsimp only
                    have hv : rdgE R = 10 := by
                      rw [rdgE_second HRB.out HL.out HNP.out HNO.out hlj (by rw [hmev]; decide), hmev]; rfl
                    exact ⟨rfl, ReqSaid.no hv (by decide) HB7.out⟩
                  dsimp only
                  refine hK.out _ _ (fun _ => hx6) ?_
                  clear hK K
                  try simp only [Act.put, List.getElem_toArray, List.getElem_cons_zero, List.getElem_cons_succ, List.setIfInBounds_toArray, List.set_cons_zero, List.set_cons_succ]
                  refine E_done (by kernel_rfl) ?_ _
                  have HME := Lib.hid hmev
                  have HBS := Lib.hid (((G3.out.trans (HBX.out.mono G3.out.size)).trans (HB3.out.mono (Nat.le_trans G3.out.size HBX.out.size))).trans (hB6.mono (Nat.le_trans G3.out.size (Nat.le_trans HBX.out.size HB3.out.size))))
                  clear hx0 hx6 hb6 hB6 hmev g0 g1
                  go_wp2_with fail
                  refine ⟨⟨j + 1, by omega, by simp, fun k hk => ?_, HBS.out⟩, by simp [intOf]; omega⟩
                  by_cases e : k = j
                  · subst e; exact HME.out
                  · exact HNO.out k (by omega)
              · obtain rfl : j = R.ps.length := by omega
                go_wp2_with fail
                go_end0
                exact ⟨.inl ⟨rdgE_ok HRB.out HL.out HNP.out HNO.out, rfl⟩, HBV.out⟩
end Go.Proofs.Ytmcmhgjlpffcnaa
