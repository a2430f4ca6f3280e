/- ledgerOf: what each field gave, and where that is. -/
import Derived.Test.YtfhalmlpnoepcaaGreatGF
import Derived.StillTailTactics
namespace Go.Proofs.YtfhalmlpnoepcaaGreat
open Go.RowKit

/-- A row of numbers. -/
def rowI (n : Nat) (g : Nat → Int) : Array Value := ((List.range n).map fun k => Value.int .i64 (g k)).toArray
theorem rowI_at {n : Nat} {g : Nat → Int} {k : Nat} (h : k < n) : (rowI n g)[k]? = some (.int .i64 (g k)) := by simp [rowI, h]
theorem rowI_set (n : Nat) (g : Nat → Int) (j : Nat) (x : Int) : (rowI n g).setIfInBounds j (.int .i64 x) = rowI n (fun k => if k = j then x else g k) := by
  apply Array.ext_getElem?
  intro i
  rw [Array.getElem?_setIfInBounds]
  unfold rowI
  by_cases hi : i < n
  · by_cases hj : j = i
    · subst hj; simp [hi]
    · simp [hi, hj, show ¬ i = j from fun h => hj h.symm]
  · by_cases hj : j = i
    · subst hj; simp [hi]
    · simp [hi, hj]
theorem rowI_made4 (n : Nat) : madeCells (Value.agg #[.int .i64 0, .int .i64 0, .int .i64 0, .int .i64 0]).cells (n * 4) = rowI (n * 4) (fun _ => 0) := by
  apply Array.ext_getElem?
  intro i
  unfold madeCells rowI
  by_cases hi : i < n * 4
  · have h4 : i % 4 = 0 ∨ i % 4 = 1 ∨ i % 4 = 2 ∨ i % 4 = 3 := by omega
    rcases h4 with h | h | h | h <;> simp [hi, Value.cells, h]
  · simp [hi, Value.cells]
/-- The cells of counts, one behind the other. -/
def cntF (G U L Z : Nat → Int) (i : Nat) : Int := if i % 4 = 0 then G (i / 4) else if i % 4 = 1 then U (i / 4) else if i % 4 = 2 then L (i / 4) else Z (i / 4)
theorem cntF_0 (G U L Z : Nat → Int) (k : Nat) : cntF G U L Z (k * 4) = G k := by unfold cntF; rw [if_pos (by omega), show k * 4 / 4 = k by omega]
theorem cntF_1 (G U L Z : Nat → Int) (k : Nat) : cntF G U L Z (k * 4 + 1) = U k := by unfold cntF; rw [if_neg (by omega), if_pos (by omega), show (k * 4 + 1) / 4 = k by omega]
theorem cntF_2 (G U L Z : Nat → Int) (k : Nat) : cntF G U L Z (k * 4 + 2) = L k := by unfold cntF; rw [if_neg (by omega), if_neg (by omega), if_pos (by omega), show (k * 4 + 2) / 4 = k by omega]
theorem cntF_3 (G U L Z : Nat → Int) (k : Nat) : cntF G U L Z (k * 4 + 3) = Z k := by unfold cntF; rw [if_neg (by omega), if_neg (by omega), if_neg (by omega), show (k * 4 + 3) / 4 = k by omega]
def upd (g : Nat → Int) (j : Nat) (x : Int) : Nat → Int := fun k => if k = j then x else g k
theorem cntF_set0 (G U L Z : Nat → Int) (n j : Nat) (x : Int) : (rowI n (cntF G U L Z)).setIfInBounds (j * 4) (.int .i64 x) = rowI n (cntF (upd G j x) U L Z) := by
  rw [rowI_set]
  congr 1
  funext k
  by_cases hk : k = j * 4
  · subst hk
    rw [if_pos rfl, cntF_0, upd, if_pos rfl]
  · rw [if_neg hk]
    have h4 : k % 4 = 0 ∨ k % 4 = 1 ∨ k % 4 = 2 ∨ k % 4 = 3 := by omega
    unfold cntF upd
    rcases h4 with h | h | h | h
    all_goals first | (simp [h]; done) | (have hne : k / 4 ≠ j := by omega
                                          simp [h, hne])
theorem cntF_set1 (G U L Z : Nat → Int) (n j : Nat) (x : Int) : (rowI n (cntF G U L Z)).setIfInBounds (j * 4 + 1) (.int .i64 x) = rowI n (cntF G (upd U j x) L Z) := by
  rw [rowI_set]
  congr 1
  funext k
  by_cases hk : k = j * 4 + 1
  · subst hk
    rw [if_pos rfl, cntF_1, upd, if_pos rfl]
  · rw [if_neg hk]
    have h4 : k % 4 = 0 ∨ k % 4 = 1 ∨ k % 4 = 2 ∨ k % 4 = 3 := by omega
    unfold cntF upd
    rcases h4 with h | h | h | h
    all_goals first | (simp [h]; done) | (have hne : k / 4 ≠ j := by omega
                                          simp [h, hne])
theorem cntF_set2 (G U L Z : Nat → Int) (n j : Nat) (x : Int) : (rowI n (cntF G U L Z)).setIfInBounds (j * 4 + 2) (.int .i64 x) = rowI n (cntF G U (upd L j x) Z) := by
  rw [rowI_set]
  congr 1
  funext k
  by_cases hk : k = j * 4 + 2
  · subst hk
    rw [if_pos rfl, cntF_2, upd, if_pos rfl]
  · rw [if_neg hk]
    have h4 : k % 4 = 0 ∨ k % 4 = 1 ∨ k % 4 = 2 ∨ k % 4 = 3 := by omega
    unfold cntF upd
    rcases h4 with h | h | h | h
    all_goals first | (simp [h]; done) | (have hne : k / 4 ≠ j := by omega
                                          simp [h, hne])
theorem cntF_set3 (G U L Z : Nat → Int) (n j : Nat) (x : Int) : (rowI n (cntF G U L Z)).setIfInBounds (j * 4 + 3) (.int .i64 x) = rowI n (cntF G U L (upd Z j x)) := by
  rw [rowI_set]
  congr 1
  funext k
  by_cases hk : k = j * 4 + 3
  · subst hk
    rw [if_pos rfl, cntF_3, upd, if_pos rfl]
  · rw [if_neg hk]
    have h4 : k % 4 = 0 ∨ k % 4 = 1 ∨ k % 4 = 2 ∨ k % 4 = 3 := by omega
    unfold cntF upd
    rcases h4 with h | h | h | h
    all_goals first | (simp [h]; done) | (have hne : k / 4 ≠ j := by omega
                                          simp [h, hne])
theorem cntF_zero : (fun _ => 0 : Nat → Int) = cntF (fun _ => 0) (fun _ => 0) (fun _ => 0) (fun _ => 0) := by
  funext k
  unfold cntF
  split <;> (try rfl) <;> split <;> (try rfl) <;> split <;> rfl

def givenAt (l : List Int) (k : Nat) : Int := l[k]?.getD 0
theorem upd_given {l : List Int} {j : Nat} {x : Int} (h : l[j]? = some x) : upd (givenAt (l.take j)) j x = givenAt (l.take (j + 1)) := by
  funext k
  unfold upd givenAt
  by_cases hk : k = j
  · subst hk
    rw [if_pos rfl, List.getElem?_take, if_pos (by omega), h]
    rfl
  · rw [if_neg hk, List.getElem?_take, List.getElem?_take]
    by_cases hkj : k < j
    · rw [if_pos hkj, if_pos (by omega)]
    · rw [if_neg hkj, if_neg (by omega)]
theorem upd_of {l : List Prt} {p : Prt} {j m : Nat} (h : l[j]? = some p) (hp : p.plot = (m : Int)) : upd (fun k => ofM k (l.take j)) m (ofM m (l.take j) + p.loads) = fun (k : Nat) => ofM k (l.take (j + 1)) := by
  funext k
  unfold upd
  rw [take_snoc' h, ofM_append]
  by_cases hk : k = m
  · subst hk
    rw [if_pos rfl]
    simp only [ofM, hp, if_true]
    omega
  · rw [if_neg hk]
    simp only [ofM]
    rw [if_neg (by omega)]
    omega
theorem upd_ofL {l : List Prt} {L : Nat → Int} {p : Prt} {j m : Nat} (h : l[j]? = some p) (hp : p.plot = (m : Int)) : upd (fun k => L k + ofM k (l.take j)) m (L m + ofM m (l.take j) + p.loads) = fun (k : Nat) => L k + ofM k (l.take (j + 1)) := by
  have := upd_of h hp
  funext k
  have := congrFun this k
  unfold upd at this ⊢
  by_cases hk : k = m
  · subst hk
    rw [if_pos rfl] at this ⊢
    omega
  · rw [if_neg hk] at this ⊢
    have this' : ofM k (l.take j) = ofM k (l.take (j + 1)) := this
    show L k + ofM k (l.take j) = _
    rw [this']
theorem leftM_bd {n : Nat} (i : Int) {l : List Hep} (h : ∀ x ∈ l, ∀ p ∈ x.parts, p.ok n) (hl : ∀ x ∈ l, x.parts.length ≤ 1000) : 0 ≤ leftM i l ∧ leftM i l ≤ 100000000 * l.length := by
  induction l with
  | nil => simp [leftM]
  | cons x l ih =>
    have h1 := ofM_bd i (h x (by simp))
    have h2 := hl x (by simp)
    obtain ⟨h3, h4⟩ := ih (fun q hq => h q (by simp [hq])) (fun q hq => hl q (by simp [hq]))
    simp only [leftM, List.length_cons]
    push_cast
    omega

theorem info_count : ((Tryz.prog : Program).info? 118).map (fun i => (i.zero, i.size, i.bytes)) = some (some (.agg #[.int .i64 0, .int .i64 0, .int .i64 0, .int .i64 0]), 4, 32) := by kernel_rfl

set_option maxRecDepth 100000 in
set_option maxHeartbeats 8000000 in
theorem ledgerOf_any (n : Nat) (year : Int) (la ga ha ua wa : Option Addr) (lc gc hc uc wc ll : Nat) (given : List Int) (heaps : List Hep) (used waste : List Prt) (w : World) (hG : IsNums w ga gc given) (hH : IsHeps w ha hc heaps) (hU : IsPrts w ua uc used) (hW : IsPrts w wa wc waste)
    (hgl : given.length = n) (hn : n ≤ 12) (huk : ∀ p ∈ used, p.ok n) (hul : used.length ≤ 1000) (hwk : ∀ p ∈ waste, p.ok n) (hwl : waste.length ≤ 1000) (hhk : ∀ h ∈ heaps, ∀ p ∈ h.parts, p.ok n) (hhp : ∀ h ∈ heaps, h.parts.length ≤ 1000) (hhl : heaps.length ≤ 1000) :
    Calls Tryz.prog 83 #[.agg #[.int .i64 year, .slice la ll lc, .slice ga given.length gc, .slice ha heaps.length hc, .slice ua used.length uc, .slice wa waste.length wc]] w
      fun e w' => (∃ K, e = .returned (.slice (some ⟨K, 0, none⟩) n n) ∧ Blk w' K (rowI (n * 4) (cntF (givenAt given) (fun k => ofM k used) (fun k => leftM k heaps) (fun k => ofM k waste))) 118) ∧ Below w.heap.size w w' := by
  subst hgl
  obtain ⟨i0, hi, hz0, hz1, hz2⟩ := info_parts info_count
  have HG := Lib.hid hG
  have HH := Lib.hid hH
  have HU := Lib.hid hU
  have HW := Lib.hid hW
  have HUK := Lib.hid huk
  have HWK := Lib.hid hwk
  have HHK := Lib.hid hhk
  have HHP := Lib.hid hhp
  clear hG hH hU hW huk hwk hhk hhp
  have kB := Blk.new w 29 #[.int .i64 year, .slice la ll lc, .slice ga given.length gc, .slice ha heaps.length hc, .slice ua used.length uc, .slice wa waste.length wc]
  have hB : Below w.heap.size w (w.alloc (.cells #[.int .i64 year, .slice la ll lc, .slice ga given.length gc, .slice ha heaps.length hc, .slice ua used.length uc, .slice wa waste.length wc] 29)) := (Below.refl _ w).alloc (by simp) _
  go_enter Tryz.func83, Tryz.ntmps83
  go_upto_region 1 with fail
  generalize w.alloc (.cells #[.int .i64 year, .slice la ll lc, .slice ga given.length gc, .slice ha heaps.length hc, .slice ua used.length uc, .slice wa waste.length wc] 29) = w1 at *
  have hmk := fun w => run_make (P := Tryz.prog) w 115 118 i0 (.agg #[.int .i64 0, .int .i64 0, .int .i64 0, .int .i64 0]) Tryz.underlying115 hi hz0 .i64 .i64 (given.length : Int) (given.length : Int) (by omega) (by omega) (by rw [hz2]; omega) (by omega)
  simp only [Int.toNat_natCast, hz1, rowI_made4] at hmk
  have hltB := kB.lt
  have d2 : w1.cell? ⟨w.heap.size, 2, none⟩ = some (.slice ga given.length gc) := kB.cell 2
  go_upto_region 2 with (rw [hmk])
  clear hmk
  have kA := Blk.new w1 118 (rowI (given.length * 4) (fun _ => 0))
  have hb2 : Below w1.heap.size w1 (w1.alloc (.cells (rowI (given.length * 4) (fun _ => 0)) 118)) := (Below.refl _ _).alloc (Nat.le_refl _) _
  have kB2 := Lib.hid (kB.belowS hb2)
  generalize w1.alloc (.cells (rowI (given.length * 4) (fun _ => 0)) 118) = w2 at *
  rw [cntF_zero] at kA
  have KB := Lib.hid kB
  have hKB := kB.lt
  have HB := Lib.hid hB
  have lB2 := kB2.out.lt
  have d2' := kB2.out.cell 2
  simp only [List.getElem?_toArray, List.getElem?_cons_zero, List.getElem?_cons_succ] at d2'
  clear d2 kB hltB
  go_wp2_with fail
  go_loopw [21, 4, 5] (fun i _ _ wr => ∃ j : Nat, j ≤ given.length ∧ i = .int .i64 j ∧ Blk wr w1.heap.size (rowI (given.length * 4) (cntF (givenAt (given.take j)) (fun _ => 0) (fun _ => 0) (fun _ => 0))) 118 ∧ Below w1.heap.size w1 wr) (fun i _ _ _ => given.length - (intOf i).toNat)
  case atStart => exact ⟨0, Nat.zero_le _, rfl, by rw [show givenAt (given.take 0) = fun _ => 0 from by funext k; simp [givenAt]]; exact kA, hb2⟩
  case round =>
    obtain ⟨j, hj, rfl, g1, g2⟩ := hrel
    clear kA hb2 d2' lB2
    by_cases hlj : j < given.length
    · have hq : given[j]? = some given[j] := List.getElem?_eq_getElem hlj
      obtain ⟨b, off, hea, hblt, hcap, hcx, p0⟩ := (HG.out.belowS (HB.out.trans (g2.mono HB.out.size))).at hq
      have p0' : wr.cell? ⟨b, off + j * 1, none⟩ = some (.int .i64 given[j]) := p0
      rw [Nat.mul_one] at p0'
      have hup := upd_given hq
      generalize given[j] = q at *
      subst hea
      have HUP := Lib.hid hup
      clear hq p0 hup
      have hj0 : (0 : Int) ≤ (j : Int) := Int.natCast_nonneg _
      have hj1 : (j : Int) < (given.length : Int) := by omega
      have a2 := (g1.cell (j * 4)).trans (rowI_at (by omega))
      have a3 := g1.frozen (j * 4)
      have lA := g1.lt
      rw [cntF_0] at a2
      go_wp2_with fail
      refine ⟨⟨j + 1, by omega, by simp, ?_, g2.setCell (p := ⟨w1.heap.size, j * 4, none⟩) (Nat.le_refl _) _⟩, by simp [intOf]; omega⟩
      have := g1.set (j * 4) (.int .i64 q)
      rw [cntF_set0, HUP.out] at this
      exact this
    · obtain rfl : j = given.length := by omega
      rw [List.take_length] at g1
      have kB3 := KB.out.belowS g2
      have d4 := kB3.cell 4
      have lB3 := kB3.lt
      simp only [List.getElem?_toArray, List.getElem?_cons_zero, List.getElem?_cons_succ] at d4
      clear kB3
      have g3 := g2
      obtain ⟨wz, rfl⟩ : ∃ wz : World, wz = wr := ⟨_, rfl⟩
      go_wp2_with fail
      go_loopw [35, 7] (fun i _ wr => ∃ j : Nat, j ≤ used.length ∧ i = .int .i64 j ∧ Blk wr w1.heap.size (rowI (given.length * 4) (cntF (givenAt given) (fun k => ofM k (used.take j)) (fun _ => 0) (fun _ => 0))) 118 ∧ Below w1.heap.size w1 wr) (fun i _ _ => used.length - (intOf i).toNat)
      case atStart => exact ⟨0, Nat.zero_le _, rfl, by simp only [List.take_zero, ofM]; exact g1, g3⟩
      case round =>
        obtain ⟨j, hj, rfl, h1, h2⟩ := hrel
        by_cases hlj : j < used.length
        · have hq : used[j]? = some used[j] := List.getElem?_eq_getElem hlj
          have hp := HUK.out _ (List.getElem_mem hlj)
          obtain ⟨b, off, hea, hblt, hcap, hcx, p0, p1⟩ := (HU.out.belowS (HB.out.trans (h2.mono HB.out.size))).at hq
          generalize used[j] = p at *
          obtain ⟨pl, ld⟩ := p
          obtain ⟨⟨y0, y1⟩, y2, y3⟩ := hp
          dsimp only at y0 y1 y2 y3 p0 p1
          obtain ⟨m, rfl⟩ : ∃ m : Nat, pl = (m : Int) := ⟨pl.toNat, by omega⟩
          have hup := upd_of hq (rfl : (Prt.mk (m : Int) ld).plot = (m : Int))
          have hbd := ofM_bd m (ok_take HUK.out j)
          rw [take_len_of hj] at hbd
          obtain ⟨y4, y5⟩ := hbd
          try dsimp only at hup
          subst hea
          have HUP := Lib.hid hup
          clear hq hup
          have hj0 : (0 : Int) ≤ (j : Int) := Int.natCast_nonneg _
          have hj1 : (j : Int) < (used.length : Int) := by omega
          have hb3 : Below wr.heap.size wr (wr.alloc (.cells #[.int .i64 (m : Int), .int .i64 ld] 79)) := (Below.refl _ _).alloc (Nat.le_refl _) _
          have kP := Blk.new wr 79 #[.int .i64 (m : Int), .int .i64 ld]
          have h4 := h1.belowS hb3
          have h5 := h2.trans (hb3.mono h2.size)
          go_upto_region 10 with fail
          generalize wr.alloc (.cells #[.int .i64 (m : Int), .int .i64 ld] 79) = W3 at *
          have lP := kP.lt
          have lA := h4.lt
          have e0 := kP.cell 0
          have e1 := kP.cell 1
          simp only [List.getElem?_toArray, List.getElem?_cons_zero, List.getElem?_cons_succ] at e0 e1
          have a2 := (h4.cell (m * 4 + 1)).trans (rowI_at (by omega))
          rw [cntF_1] at a2
          have a3 := h4.frozen (m * 4 + 1)
          clear h1 h2 hb3 kP p0 p1
          go_still_tail 11, (by kernel_rfl)
          change wpList _ _ _ _ _ W3.drew
          have h6 := h4.drew
          have h7 := h5.drew
          generalize W3.drew = W4 at *
          have a4 := (h6.cell (m * 4 + 1)).trans (rowI_at (by omega))
          rw [cntF_1] at a4
          have a5 := h6.frozen (m * 4 + 1)
          have lA6 := h6.lt
          go_wp2_with fail
          refine ⟨⟨j + 1, by omega, by simp, ?_, h7.setCell (p := ⟨w1.heap.size, m * 4 + 1, none⟩) (Nat.le_refl _) _⟩, by simp [intOf]; omega⟩
          have := h6.set (m * 4 + 1) (.int .i64 (ofM m (used.take j) + ld))
          rw [cntF_set1] at this
          rw [HUP.out] at this
          exact this
        · obtain rfl : j = used.length := by omega
          rw [List.take_length] at h1
          have kB3 := KB.out.belowS h2
          have d4 := kB3.cell 3
          have lB3 := kB3.lt
          simp only [List.getElem?_toArray, List.getElem?_cons_zero, List.getElem?_cons_succ] at d4
          clear kB3
          have g3 := h2
          have g1 := h1
          clear h1 h2
          obtain ⟨wz, rfl⟩ : ∃ wz : World, wz = wr := ⟨_, rfl⟩
          go_wp2_with fail
          go_loopw [54, 9, 61, 11] (fun i _ _ _ wr => ∃ t : Nat, t ≤ heaps.length ∧ i = .int .i64 t ∧ Blk wr w1.heap.size (rowI (given.length * 4) (cntF (givenAt given) (fun k => ofM k used) (fun k => leftM k (heaps.take t)) (fun _ => 0))) 118 ∧ Below w1.heap.size w1 wr) (fun i _ _ _ _ => heaps.length - (intOf i).toNat)
          case atStart => exact ⟨0, Nat.zero_le _, rfl, by simp only [List.take_zero, leftM]; exact g1, g3⟩
          case round =>
            obtain ⟨t, ht, rfl, x1, x2⟩ := hrel
            by_cases hlt : t < heaps.length
            · have hq : heaps[t]? = some heaps[t] := List.getElem?_eq_getElem hlt
              have hhk := HHK.out _ (List.getElem_mem hlt)
              have hpw : IsPrts w heaps[t].pa heaps[t].pc heaps[t].parts := by obtain ⟨_, _, _, _, _, _, _, z, _⟩ := HH.out.at hq; exact z
              have hpl := HHP.out _ (List.getElem_mem hlt)
              have hsn : (fun k : Nat => leftM k (heaps.take t) + ofM k heaps[t].parts) = fun k : Nat => leftM k (heaps.take (t + 1)) := by funext k; rw [take_snoc' hq, leftM_append]; simp [leftM]
              obtain ⟨b, off, hea, hblt, hcap, hcx, ⟨c0, c1, c2, c3, c4, c5, c6⟩, hpp, _⟩ := (HH.out.belowS (HB.out.trans (x2.mono HB.out.size))).at hq
              subst hea
              generalize heaps[t] = h at *
              obtain ⟨hnm, hcr, hst, pa, pc, parts, hper, hwlo, hwhi⟩ := h
              dsimp only at hhk hpl hsn hpw c0 c1 c2 c3 c4 c5 c6 hpp
              have HSN := Lib.hid hsn
              have HPPW := Lib.hid hpw
              have HPK := Lib.hid hhk
              clear hq hsn hpp hhk hpw
              have ht0 : (0 : Int) ≤ (t : Int) := Int.natCast_nonneg _
              have ht1 : (t : Int) < (heaps.length : Int) := by omega
              have hb3 : Below wr.heap.size wr (wr.alloc (.cells #[.string hnm, .int .i64 hcr, .int .i64 hst, .slice pa parts.length pc, .int .i64 hper, .int .i64 hwlo, .int .i64 hwhi] 53)) := (Below.refl _ _).alloc (Nat.le_refl _) _
              have kH := Blk.new wr 53 #[.string hnm, .int .i64 hcr, .int .i64 hst, .slice pa parts.length pc, .int .i64 hper, .int .i64 hwlo, .int .i64 hwhi]
              have x4 := x1.belowS hb3
              have x5 := x2.trans (hb3.mono x2.size)
              go_upto_region 15 with fail
              generalize wr.alloc (.cells #[.string hnm, .int .i64 hcr, .int .i64 hst, .slice pa parts.length pc, .int .i64 hper, .int .i64 hwlo, .int .i64 hwhi] 53) = W3 at *
              have lH := kH.lt
              have e3 := kH.cell 3
              simp only [List.getElem?_toArray, List.getElem?_cons_zero, List.getElem?_cons_succ] at e3
              have KX := Lib.hid x4
              have HX5 := Lib.hid x5
              clear x1 x2 hb3 kH c0 c1 c2 c3 c4 c5 c6
              obtain ⟨wq, rfl⟩ : ∃ wq : World, wq = wr := ⟨_, rfl⟩
              go_wp2_with fail
              go_loopw [61, 11] (fun i _ wr => ∃ j : Nat, j ≤ parts.length ∧ i = .int .i64 j ∧ Blk wr w1.heap.size (rowI (given.length * 4) (cntF (givenAt given) (fun k => ofM k used) (fun k => leftM k (heaps.take t) + ofM k (parts.take j)) (fun _ => 0))) 118 ∧ Below w1.heap.size w1 wr) (fun i _ _ => parts.length - (intOf i).toNat)
              case atStart => exact ⟨0, Nat.zero_le _, rfl, by simp only [List.take_zero, ofM, Int.add_zero]; exact KX.out, HX5.out⟩
              case round =>
                obtain ⟨j, hj, rfl, h1, h2⟩ := hrel
                by_cases hlj : j < parts.length
                · have hq : parts[j]? = some parts[j] := List.getElem?_eq_getElem hlj
                  have hp := HPK.out _ (List.getElem_mem hlj)
                  obtain ⟨b, off, hea, hblt, hcap, hcx, p0, p1⟩ := (HPPW.out.belowS (HB.out.trans (h2.mono HB.out.size))).at hq
                  generalize parts[j] = p at *
                  obtain ⟨pl, ld⟩ := p
                  obtain ⟨⟨y0, y1⟩, y2, y3⟩ := hp
                  dsimp only at y0 y1 y2 y3 p0 p1
                  obtain ⟨m, rfl⟩ : ∃ m : Nat, pl = (m : Int) := ⟨pl.toNat, by omega⟩
                  have hup := upd_ofL (L := fun k => leftM k (heaps.take t)) hq (rfl : (Prt.mk (m : Int) ld).plot = (m : Int))
                  have hbd := ofM_bd m (ok_take HPK.out j)
                  rw [take_len_of hj] at hbd
                  obtain ⟨y4, y5⟩ := hbd
                  try dsimp only at hup
                  subst hea
                  have HUP := Lib.hid hup
                  clear hq hup
                  have hj0 : (0 : Int) ≤ (j : Int) := Int.natCast_nonneg _
                  have hj1 : (j : Int) < (parts.length : Int) := by omega
                  have hb3 : Below wr.heap.size wr (wr.alloc (.cells #[.int .i64 (m : Int), .int .i64 ld] 79)) := (Below.refl _ _).alloc (Nat.le_refl _) _
                  have kP := Blk.new wr 79 #[.int .i64 (m : Int), .int .i64 ld]
                  have h4 := h1.belowS hb3
                  have h5 := h2.trans (hb3.mono h2.size)
                  go_upto_region 18 with fail
                  generalize wr.alloc (.cells #[.int .i64 (m : Int), .int .i64 ld] 79) = W3 at *
                  have lP := kP.lt
                  have lA := h4.lt
                  have e0 := kP.cell 0
                  have e1 := kP.cell 1
                  simp only [List.getElem?_toArray, List.getElem?_cons_zero, List.getElem?_cons_succ] at e0 e1
                  have a2 := (h4.cell (m * 4 + 2)).trans (rowI_at (by omega))
                  rw [cntF_2] at a2
                  have a3 := h4.frozen (m * 4 + 2)
                  clear h1 h2 hb3 kP p0 p1
                  have hlb := leftM_bd (n := given.length) m (l := heaps.take t) (fun x hx => HHK.out x (List.mem_of_mem_take hx)) (fun x hx => HHP.out x (List.mem_of_mem_take hx))
                  obtain ⟨y6, y7⟩ := hlb
                  rw [List.length_take] at y7
                  have y8 : leftM (m : Int) (heaps.take t) ≤ 100000000000 := by omega
                  go_still_tail 11, (by kernel_rfl)
                  change wpList _ _ _ _ _ W3.drew
                  have h6 := h4.drew
                  have h7 := h5.drew
                  generalize W3.drew = W4 at *
                  have a4 := (h6.cell (m * 4 + 2)).trans (rowI_at (by omega))
                  rw [cntF_2] at a4
                  have a5 := h6.frozen (m * 4 + 2)
                  have lA6 := h6.lt
                  go_wp2_with fail
                  refine ⟨⟨j + 1, by omega, by simp, ?_, h7.setCell (p := ⟨w1.heap.size, m * 4 + 2, none⟩) (Nat.le_refl _) _⟩, by simp [intOf]; omega⟩
                  have := h6.set (m * 4 + 2) (.int .i64 (leftM m (heaps.take t) + ofM m (parts.take j) + ld))
                  rw [cntF_set2] at this
                  rw [HUP.out] at this
                  exact this
                · obtain rfl : j = parts.length := by omega
                  rw [List.take_length] at h1
                  rw [HSN.out] at h1
                  have g5 := h2
                  have g6 := h1
                  clear h1 h2
                  go_wp2_with fail
                  exact ⟨⟨t + 1, by omega, by simp, g6, g5⟩, by simp [intOf]; omega⟩
            · obtain rfl : t = heaps.length := by omega
              rw [List.take_length] at x1
              have h1 := x1
              have h2 := x2
              clear x1 x2
              have kB3 := KB.out.belowS h2
              have d4 := kB3.cell 5
              have lB3 := kB3.lt
              simp only [List.getElem?_toArray, List.getElem?_cons_zero, List.getElem?_cons_succ] at d4
              clear kB3
              have g3 := h2
              have g1 := h1
              clear h1 h2
              obtain ⟨wz, rfl⟩ : ∃ wz : World, wz = wr := ⟨_, rfl⟩
              go_wp2_with fail
              go_loopw [81, 13] (fun i _ wr => ∃ j : Nat, j ≤ waste.length ∧ i = .int .i64 j ∧ Blk wr w1.heap.size (rowI (given.length * 4) (cntF (givenAt given) (fun k => ofM k used) (fun k => leftM k heaps) (fun k => ofM k (waste.take j)))) 118 ∧ Below w1.heap.size w1 wr) (fun i _ _ => waste.length - (intOf i).toNat)
              case atStart => exact ⟨0, Nat.zero_le _, rfl, by simp only [List.take_zero, ofM]; exact g1, g3⟩
              case round =>
                obtain ⟨j, hj, rfl, h1, h2⟩ := hrel
                by_cases hlj : j < waste.length
                · have hq : waste[j]? = some waste[j] := List.getElem?_eq_getElem hlj
                  have hp := HWK.out _ (List.getElem_mem hlj)
                  obtain ⟨b, off, hea, hblt, hcap, hcx, p0, p1⟩ := (HW.out.belowS (HB.out.trans (h2.mono HB.out.size))).at hq
                  generalize waste[j] = p at *
                  obtain ⟨pl, ld⟩ := p
                  obtain ⟨⟨y0, y1⟩, y2, y3⟩ := hp
                  dsimp only at y0 y1 y2 y3 p0 p1
                  obtain ⟨m, rfl⟩ : ∃ m : Nat, pl = (m : Int) := ⟨pl.toNat, by omega⟩
                  have hup := upd_of hq (rfl : (Prt.mk (m : Int) ld).plot = (m : Int))
                  have hbd := ofM_bd m (ok_take HWK.out j)
                  rw [take_len_of hj] at hbd
                  obtain ⟨y4, y5⟩ := hbd
                  try dsimp only at hup
                  subst hea
                  have HUP := Lib.hid hup
                  clear hq hup
                  have hj0 : (0 : Int) ≤ (j : Int) := Int.natCast_nonneg _
                  have hj1 : (j : Int) < (waste.length : Int) := by omega
                  have hb3 : Below wr.heap.size wr (wr.alloc (.cells #[.int .i64 (m : Int), .int .i64 ld] 79)) := (Below.refl _ _).alloc (Nat.le_refl _) _
                  have kP := Blk.new wr 79 #[.int .i64 (m : Int), .int .i64 ld]
                  have h4 := h1.belowS hb3
                  have h5 := h2.trans (hb3.mono h2.size)
                  go_upto_region 24 with fail
                  generalize wr.alloc (.cells #[.int .i64 (m : Int), .int .i64 ld] 79) = W3 at *
                  have lP := kP.lt
                  have lA := h4.lt
                  have e0 := kP.cell 0
                  have e1 := kP.cell 1
                  simp only [List.getElem?_toArray, List.getElem?_cons_zero, List.getElem?_cons_succ] at e0 e1
                  have a2 := (h4.cell (m * 4 + 3)).trans (rowI_at (by omega))
                  rw [cntF_3] at a2
                  have a3 := h4.frozen (m * 4 + 3)
                  clear h1 h2 hb3 kP p0 p1
                  go_still_tail 11, (by kernel_rfl)
                  change wpList _ _ _ _ _ W3.drew
                  have h6 := h4.drew
                  have h7 := h5.drew
                  generalize W3.drew = W4 at *
                  have a4 := (h6.cell (m * 4 + 3)).trans (rowI_at (by omega))
                  rw [cntF_3] at a4
                  have a5 := h6.frozen (m * 4 + 3)
                  have lA6 := h6.lt
                  go_wp2_with fail
                  refine ⟨⟨j + 1, by omega, by simp, ?_, h7.setCell (p := ⟨w1.heap.size, m * 4 + 3, none⟩) (Nat.le_refl _) _⟩, by simp [intOf]; omega⟩
                  have := h6.set (m * 4 + 3) (.int .i64 (ofM m (waste.take j) + ld))
                  rw [cntF_set3] at this
                  rw [HUP.out] at this
                  exact this
                · obtain rfl : j = waste.length := by omega
                  rw [List.take_length] at h1
                  have h3 := HB.out.trans (h2.mono HB.out.size)
                  go_wp2_with fail
                  go_ret
                  exact ⟨⟨_, rfl, h1⟩, h3⟩
end Go.Proofs.YtfhalmlpnoepcaaGreat
