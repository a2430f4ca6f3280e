/- Chores: bind. -/
import Derived.Test.YtfhalmlpnoepcaaGreatJW
set_option linter.unusedSimpArgs false
namespace Go.Proofs.YtfhalmlpnoepcaaGreat
open Go.RowKit

theorem rem_of {v per : Int} (hv : 0 ≤ v) (hp : 1 ≤ per) : v.tmod per = v % per ∧ 0 ≤ v % per ∧ v % per ≤ v := by
  refine ⟨Int.tmod_eq_emod_of_nonneg hv, Int.emod_nonneg _ (by omega), ?_⟩
  have h1 := Int.emod_add_mul_ediv v per
  have h2 : 0 ≤ per * (v / per) := Int.mul_nonneg (by omega) (Int.ediv_nonneg hv (by omega))
  omega
theorem putL_cutT {l : List Prt} (h : ∀ p ∈ l, 1 ≤ p.loads) (ha : ap none l) {n : Int} (hn : 0 ≤ n) : putL [] (cutT n l) = cutT n l := by
  have h1 := put_taken (skip := 0) (left := n) h (by omega) hn ha
  rwa [taken_cut h (by omega) hn, cutR_zero h] at h1
theorem putL_nil {F : Frm} {base B i : Nat} {n : Int} {S R : Sto} {h : Hep} {a0 : Option Addr} {w : World} (hp : ∀ p ∈ h.parts, 1 ≤ p.loads) (ha : ap none h.parts) (hn : 0 ≤ n) : MoveSaid F base B i n S R [] h a0 w =
    fun e w' => (∃ (a : Option Addr) (c : Nat), e = .returned (.slice a (cutT n h.parts).length c) ∧ w'.ownsRow base 79 2 (.slice a (cutT n h.parts).length c) (cutT n h.parts).length ((cutT n h.parts).flatMap cellsPrt) ∧
    ∃ H : List Hep, sameH H (moveH S.heaps i n) ∧ Hand F base B w' { S with heaps := H } { R with heaps := H } ∧ ∀ k, a.map (·.block) = some k → k ∉ rowsOf { R with heaps := H } ∧ k ≠ B) ∧ Turn (TurnM S B a0) w w' := by
  funext e w'
  unfold MoveSaid
  rw [putL_cutT hp ha hn]
theorem not_row {w : World} {base D n c m : Nat} {a : Option Addr} {xs : List Value} {cs : Array Value} (h : w.ownsRow base 79 2 (.slice a n c) m xs) (hD : Blk w D cs 53) : a.map (·.block) ≠ some D := by
  intro e
  rcases h.2 with ⟨e0, _⟩ | ⟨g, cap, cur, e0, _, hg, _⟩
  · obtain ⟨rfl, _, _⟩ := slice_inj e0
    cases e
  · obtain ⟨rfl, _, _⟩ := slice_inj e0
    obtain rfl : g = D := by simpa using e
    rw [show w.heap[g]? = some (.cells cs 53 (0, 0)) from hD] at hg
    injection hg with hg
    injection hg with _ ht _
    exact absurd ht (by decide)
theorem not_rows {F : Frm} {base B D N : Nat} {w : World} {S : Sto} {H : List Hep} {cs : Array Value} (hH : Hand F base B w { S with heaps := H } { S with heaps := H }) (hD : Blk w D cs 53) (hlt : ∀ k ∈ rowsOf S, k < N) (hN : N ≤ D) : D ∉ rowsOf { S with heaps := H } := by
  intro hk
  simp only [rowsOf, List.mem_filterMap, List.mem_append, List.mem_map] at hk
  obtain ⟨z, hz, e⟩ := hk
  rcases hz with hz | ⟨x, hx, rfl⟩
  · have := hlt D (List.mem_filterMap.2 ⟨z, List.mem_append_left _ hz, e⟩)
    omega
  · exact not_row (hH.own.parts x hx) hD e
theorem moveH_len (hs : List Hep) (i : Nat) (n : Int) : (moveH hs i n).length ≤ hs.length := by
  unfold moveH
  split
  · split
    · rw [List.length_eraseIdx]; split <;> omega
    · rw [List.length_set]; exact Nat.le_refl _
  · exact Nat.le_refl _
/-- A new heap behind the others. -/
theorem push_hand {F : Frm} {base B : Nat} {w w' : World} {S : Sto} {a : Option Addr} {c : Nat} {y : Hep} (hH : Hand F base B w S S) (hT : Turn (TurnH S B) w w') (hb : Blk w' B (handC F { S with ha := a, hc := c, heaps := S.heaps ++ [y] }) 63)
    (hrow : w'.ownsRow base 53 7 (.slice a (S.heaps ++ [y]).length c) (S.heaps ++ [y]).length ((S.heaps ++ [y]).flatMap cellsHep)) (hat : ∀ k, a.map (·.block) = some k → S.ha.map (·.block) = some k ∨ w.heap.size ≤ k)
    (hp : w.ownsRow base 79 2 (.slice y.pa y.parts.length y.pc) y.parts.length (y.parts.flatMap cellsPrt)) (hpo : ∀ k, y.pa.map (·.block) = some k → k ∉ rowsOf S ∧ k ≠ B) (hn : y.name.size ≤ maxLen) :
    Hand F base B w' { S with ha := a, hc := c, heaps := S.heaps ++ [y] } { S with ha := a, hc := c, heaps := S.heaps ++ [y] } := by
  have hlt : ∀ k ∈ rowsOf S, k < w.heap.size := fun k hk => (hH.own.ge k hk).2
  have hno : ∀ k, TurnH S B k → k ∉ rowsOf { S with ha := none } := fun k e => by
    rcases e with rfl | e
    · exact fun h => hH.out (rows_noha _ h)
    · exact out_ha hH.own.apart k e
  have hyl : ∀ k, y.pa.map (·.block) = some k → k < w.heap.size := fun k e => (hp.lt k (by rw [rowOf_own']; exact e)).2
  have hn1 : ∀ k, a.map (·.block) = some k → k ∉ rowsOf { S with ha := none } := fun k e hk => by
    rcases hat k e with h1 | h1
    · exact out_ha hH.own.apart k h1 hk
    · have := hlt k (rows_noha k hk); omega
  have hn2 : ∀ k, a.map (·.block) = some k → y.pa.map (·.block) ≠ some k := fun k e e2 => by
    rcases hat k e with h1 | h1
    · exact (hpo k e2).1 (rows_ha h1)
    · have := hyl k e2; omega
  refine ⟨hb, ?_, ?_, hH.le, rfl, rfl, rfl⟩
  · refine OwnSto.setHeaps (a := a) (c := c) hH.own (fun k hk => hT.block k (hlt k (rows_noha k (rows_noheaps k hk))) fun e => hno k e (rows_noheaps k hk)) hrow (fun x hx => ?_) (fun x hx => ?_) ?_
    · rcases List.mem_append.1 hx with hm | hm
      · exact hT.row (hH.own.parts x hm) fun k hk e => hno k hk (rows_pa (S := { S with ha := none }) hm e)
      · obtain rfl := List.mem_singleton.1 hm
        refine hT.row hp fun k hk e => ?_
        rcases hk with rfl | hk
        · exact (hpo k e).2 rfl
        · exact (hpo k e).1 (rows_ha hk)
    · rcases List.mem_append.1 hx with hm | hm
      · exact hH.own.names x hm
      · obtain rfl := List.mem_singleton.1 hm
        exact hn
    · have h1 : (rowsOf { S with ha := a }).Nodup := apart_ha hH.own.apart hn1
      refine apart_push (S := { S with ha := a }) h1 (fun k e hk => ?_)
      simp only [rowsOf, List.mem_filterMap, List.mem_append, List.mem_cons] at hk
      obtain ⟨z, hz, e2⟩ := hk
      by_cases hza : z = a
      · subst hza; exact hn2 k e2 e
      · refine (hpo k e).1 (List.mem_filterMap.2 ⟨z, ?_, e2⟩)
        simp only [List.mem_append, List.mem_cons]
        rcases hz with (h | h | h | h | h | h) | h
        · exact .inl (.inl h)
        · exact .inl (.inr (.inl h))
        · exact absurd h hza
        · exact .inl (.inr (.inr (.inr (.inl h))))
        · exact .inl (.inr (.inr (.inr (.inr (.inl h)))))
        · exact .inl (.inr (.inr (.inr (.inr (.inr h)))))
        · exact .inr h
  · intro hk
    simp only [rowsOf, List.mem_filterMap, List.mem_append, List.mem_cons, List.map_append, List.map_cons, List.map_nil] at hk
    obtain ⟨z, hz, e2⟩ := hk
    have hBl := hH.box.lt
    have hBa : a.map (·.block) ≠ some B := fun e => by
      rcases hat B e with h1 | h1
      · exact hH.out (rows_ha h1)
      · omega
    by_cases hza : z = a
    · subst hza; exact hBa e2
    by_cases hzy : z = y.pa
    · subst hzy; exact (hpo B e2).2 rfl
    · refine hH.out (List.mem_filterMap.2 ⟨z, ?_, e2⟩)
      simp only [List.mem_append, List.mem_cons]
      rcases hz with (h | h | h | h | h | h) | (h | h)
      · exact .inl (.inl h)
      · exact .inl (.inr (.inl h))
      · exact absurd h hza
      · exact .inl (.inr (.inr (.inr (.inl h))))
      · exact .inl (.inr (.inr (.inr (.inr (.inl h)))))
      · exact .inl (.inr (.inr (.inr (.inr (.inr h)))))
      · exact .inr h
      · exact absurd (by simpa using h) hzy

set_option maxRecDepth 100000 in
set_option maxHeartbeats 8000000 in
theorem bind_any (F : Frm) (S : Sto) (a : Chr) (base B : Nat) (w : World) (hH : Hand F base B w S S) (hE : storeE F S = 0) (hfit : S.fit) (hbw : base ≤ w.heap.size) (hno : a.other.size ≤ maxLen) :
    Calls Tryz.prog 66 #[.pointer (some ⟨B, 0, none⟩), .agg (chrC a)] w (ChoreSaid F base B (bindD F S a) w) := by
  obtain ⟨hs1, hs2, hs3, hs4, hs5⟩ := store_ok hE
  have hheap := fun h hm => heap_ok hE hfit (h := h) hm
  obtain ⟨hf1, hf2, hf3, hf4⟩ := hfit
  have hb1 : Below w.heap.size w (w.alloc (.cells (chrC a) 34)) := (Below.refl _ w).alloc (Nat.le_refl _) _
  have kA := Blk.new w 34 (chrC a)
  have hH1 := hH.below hb1
  have hBw := hH.box.lt
  have hrows := fun k hk => (hH.own.ge k hk).2
  have HROWS := Lib.hid hrows
  have hge := fun k hk => (hH.own.ge k hk).1
  have HGE := Lib.hid hge
  have hbB := hH.le
  clear hrows hge
  have hbb := Lib.hid (hb1.mono hbw)
  unfold chrC at hb1 kA hH1 ⊢
  go_enter Tryz.func66, Tryz.ntmps66
  go_upto_region 1 with fail
  generalize w.alloc (.cells #[.int .i64 a.kind, .int .i64 a.plot, .int .i64 a.loads, .string a.name, .string a.other, .int .i64 a.days, .int .i64 a.per, .int .i64 a.rlo, .int .i64 a.rhi] 34) = w1 at *
  have e3 : w1.cell? ⟨w.heap.size, 3, none⟩ = some (.string a.name) := kA.cell 3
  have lA := kA.lt
  have HH1 := Lib.hid hH1
  have HB1 := Lib.hid hb1
  have KA := Lib.hid kA
  have HHEAP := Lib.hid hheap
  clear hH hH1 hb1 kA hheap
  go_wp2_with fail
  refine (find_any F S a.name B _ HH1.out.box HH1.out.isHeps).mono ?_
  rintro e w2 ⟨hf, hb2⟩
  rcases hf with ⟨hix, rfl⟩ | ⟨hix, rfl⟩
  rotate_left
  · go_wp2_with fail
    exact ⟨rfl, ChoreSaid.err 7 (by simp [bindD, hix]) (by decide) (hbb.out.trans (hb2.mono (Nat.le_trans hbw HB1.out.size)))⟩
  have hH2' := HH1.out.below hb2
  have kA2' := KA.out.belowS hb2
  have hsz2' := Nat.le_trans HB1.out.size hb2.size
  have HBB2' := Lib.hid (hbb.out.trans (hb2.mono (Nat.le_trans hbw HB1.out.size)))
  have e4 : w2.cell? ⟨w.heap.size, 4, none⟩ = some (.string a.other) := kA2'.cell 4
  have lA2 := kA2'.lt
  have HH2' := Lib.hid hH2'
  have KA2' := Lib.hid kA2'
  have HIX := Lib.hid hix
  clear hb2 e3 lA hix hH2' kA2'
  go_wp2_with fail
  refine (requireNew_any F S a.other B _ HH2'.out.box HH2'.out.isHeps hno).mono ?_
  rintro e w3 ⟨hf, hb3⟩
  rcases hf with ⟨hn1, hn2, rfl⟩ | ⟨hn1, rfl⟩ | ⟨hn1, hn2, rfl⟩
  rotate_left
  · have HV := Lib.hid (show (bindD F S a).1 = 5 by unfold bindD; rw [if_neg (by have := HIX.out; omega), if_pos hn1])
    clear hn1
    go_wp2_with fail
    exact ⟨rfl, ChoreSaid.err 5 HV.out (by decide) (HBB2'.out.trans (hb3.mono (Nat.le_trans hbw hsz2')))⟩
  · have HV := Lib.hid (show (bindD F S a).1 = 6 by unfold bindD; rw [if_neg (by have := HIX.out; omega), if_neg (by rw [hn1]; simp), if_pos hn2])
    clear hn1 hn2
    go_wp2_with fail
    exact ⟨rfl, ChoreSaid.err 6 HV.out (by decide) (HBB2'.out.trans (hb3.mono (Nat.le_trans hbw hsz2')))⟩
  obtain ⟨i, h, hie, hil, hih, _⟩ := idxH_at HIX.out
  have hat := hepAt_of hie hih
  rw [hie]
  have hH2 := HH2'.out.below hb3
  have kA2 := KA2'.out.belowS hb3
  obtain ⟨hok, hpa, hlen, ⟨hl0, hl1⟩, hper, hwet⟩ := HHEAP.out h (List.mem_of_getElem? hih)
  obtain ⟨gb, goff, hea, hgl, hcap, hcx, ⟨c0, c1, c2, c3, c4, c5, c6⟩, _, _⟩ := hH2.isHeps.at hih
  have d5 : w3.cell? ⟨B, 5, none⟩ = some (.slice S.ha S.heaps.length S.hc) := hH2.box.cell 5
  rw [hea] at d5
  have lB := hH2.box.lt
  have hi0 : (0 : Int) ≤ (i : Int) := Int.natCast_nonneg _
  have hi1 : (i : Int) < (S.heaps.length : Int) := by omega
  have hsz2 := Nat.le_trans hsz2' hb3.size
  have HBB2 := Lib.hid (HBB2'.out.trans (hb3.mono (Nat.le_trans hbw hsz2')))
  have HIE := Lib.hid hie
  have HIH := Lib.hid hih
  have HAT := Lib.hid hat
  have HEA := Lib.hid hea
  have HOK := Lib.hid hok
  have HPA := Lib.hid hpa
  have HH2 := Lib.hid hH2
  have KA2 := Lib.hid kA2
  have hbv : bindD F S a = (if ¬ (h.stage = 2 ∧ h.whi ≤ F.dry) then (8, S) else if isFromB a.per 1 100 = false then (1, S) else if loadsM h.parts < a.per then (9, S) else if ¬ (loadsM h.parts % a.per = 0 ∨ (S.heaps.length : Int) < 16) then (3, S) else
    (0, { S with heaps := moveH S.heaps i (loadsM h.parts - loadsM h.parts % a.per) ++ [⟨a.other, h.crop, 3, none, 0, cutT (loadsM h.parts - loadsM h.parts % a.per) h.parts, a.per, h.wlo, h.whi⟩] })) := by
    unfold bindD; rw [if_neg (by have := HIX.out; omega), if_neg (by rw [hn1]; simp), if_neg (by omega), HAT.out, HIE.out]; rfl
  have HBV := Lib.hid hbv
  have HN2 := Lib.hid hn2
  clear hie hih hat hea hok hpa hH2 kA2 hb3 e4 lA2 hbv hn1 hn2
  obtain ⟨w2, rfl⟩ : ∃ w2 : World, w2 = w3 := ⟨_, rfl⟩
  have hb3 : Below w2.heap.size w2 (w2.alloc (.cells #[.string h.name, .int .i64 h.crop, .int .i64 h.stage, .slice h.pa h.parts.length h.pc, .int .i64 h.per, .int .i64 h.wlo, .int .i64 h.whi] 53)) := (Below.refl _ w2).alloc (Nat.le_refl _) _
  have kC := Blk.new w2 53 #[.string h.name, .int .i64 h.crop, .int .i64 h.stage, .slice h.pa h.parts.length h.pc, .int .i64 h.per, .int .i64 h.wlo, .int .i64 h.whi]
  go_upto_region 4 with fail
  generalize w2.alloc (.cells #[.string h.name, .int .i64 h.crop, .int .i64 h.stage, .slice h.pa h.parts.length h.pc, .int .i64 h.per, .int .i64 h.wlo, .int .i64 h.whi] 53) = w3 at *
  have hH3 := HH2.out.below hb3
  have kA3 := KA2.out.belowS hb3
  have HBB3 := Lib.hid (HBB2.out.trans (hb3.mono (Nat.le_trans hbw hsz2)))
  have hsz3 := Nat.le_trans hsz2 hb3.size
  clear c0 c1 c2 c3 c4 c5 c6 d5 lB hgl hb3
  have lC := kC.lt
  have lA := kA3.lt
  have lB := hH3.box.lt
  have HH3 := Lib.hid hH3
  have KA3 := Lib.hid kA3
  have KC := Lib.hid kC
  have g2 : w3.cell? ⟨w2.heap.size, 2, none⟩ = some (.int .i64 h.stage) := kC.cell 2
  have g3 : w3.cell? ⟨w2.heap.size, 3, none⟩ = some (.slice h.pa h.parts.length h.pc) := kC.cell 3
  have g4 : w3.cell? ⟨w2.heap.size, 4, none⟩ = some (.int .i64 h.per) := kC.cell 4
  clear hH3 kA3 kC
  have g0 : w3.cell? ⟨w2.heap.size, 0, none⟩ = some (.string h.name) := KC.out.cell 0
  have g1 : w3.cell? ⟨w2.heap.size, 1, none⟩ = some (.int .i64 h.crop) := KC.out.cell 1
  have g5 : w3.cell? ⟨w2.heap.size, 5, none⟩ = some (.int .i64 h.wlo) := KC.out.cell 5
  have g6 : w3.cell? ⟨w2.heap.size, 6, none⟩ = some (.int .i64 h.whi) := KC.out.cell 6
  by_cases h2 : h.stage = 2
  rotate_left
  · have q2 : (h.stage == 2) = false := by simp [h2]
    have HV := Lib.hid (show (bindD F S a).1 = 8 by rw [HBV.out, if_pos (fun e => h2 e.1)])
    clear h2
    go_wp2_with fail
    refine (require_no 8 _).mono ?_
    rintro e w4 ⟨rfl, rfl⟩
    go_wp2_with fail
    exact ⟨rfl, ChoreSaid.err 8 HV.out (by decide) HBB3.out⟩
  have q2 : (h.stage == 2) = true := by simp [h2]
  have H2 := Lib.hid h2
  clear h2
  go_wp2_with fail
  refine (isDry_any F S h B _ HH3.out.box).mono ?_
  rintro e w4 ⟨rfl, hb4⟩
  have hH4 := HH3.out.below hb4
  have kA4 := KA3.out.belowS hb4
  have kC4 := KC.out.belowS hb4
  have HBB4 := Lib.hid (HBB3.out.trans (hb4.mono (Nat.le_trans hbw hsz3)))
  have hsz4 := Nat.le_trans hsz3 hb4.size
  have HH4 := Lib.hid hH4
  have KA4 := Lib.hid kA4
  have KC4 := Lib.hid kC4
  have hCl4 : w2.heap.size < w4.heap.size := kC4.lt
  clear g0 g1 g2 g3 g4 g5 g6 lA lB lC hH4 kA4 kC4 hb4
  by_cases h3 : h.whi ≤ F.dry
  rotate_left
  · have q3 : decide (h.whi ≤ F.dry) = false := by simp [h3]
    have HV := Lib.hid (show (bindD F S a).1 = 8 by rw [HBV.out, if_pos (fun e => h3 e.2)])
    clear h3
    rw [q3]
    go_wp2_with fail
    refine (require_no 8 _).mono ?_
    rintro e w5 ⟨rfl, rfl⟩
    go_wp2_with fail
    exact ⟨rfl, ChoreSaid.err 8 HV.out (by decide) HBB4.out⟩
  have q3 : decide (h.whi ≤ F.dry) = true := by simp [h3]
  have H3 := Lib.hid h3
  rw [q3]
  clear h3
  have a6 : w4.cell? ⟨w.heap.size, 6, none⟩ = some (.int .i64 a.per) := KA4.out.cell 6
  have a4 : w4.cell? ⟨w.heap.size, 4, none⟩ = some (.string a.other) := KA4.out.cell 4
  have lA := KA4.out.lt
  go_wp2_with fail
  refine (require_yes 8 _).mono ?_
  rintro e w5 ⟨rfl, rfl⟩
  go_wp2_with fail
  refine (isFrom_any a.per 1 100 _).mono ?_
  rintro e w6 ⟨rfl, rfl⟩
  cases h9 : isFromB a.per 1 100 with
  | false =>
    have HV := Lib.hid (show (bindD F S a).1 = 1 by rw [HBV.out, if_neg (fun e => e ⟨H2.out, H3.out⟩), if_pos h9])
    clear h9
    go_wp2_with fail
    refine (require_no 1 _).mono ?_
    rintro e w6 ⟨rfl, rfl⟩
    go_wp2_with fail
    exact ⟨rfl, ChoreSaid.err 1 HV.out (by decide) HBB4.out⟩
  | true =>
  obtain ⟨hp1, hp2⟩ := isFromB_iff.1 h9
  have H9 := Lib.hid h9
  clear h9
  go_wp2_with fail
  refine (require_yes 1 _).mono ?_
  rintro e w6 ⟨rfl, rfl⟩
  have g3 : w6.cell? ⟨w2.heap.size, 3, none⟩ = some (.slice h.pa h.parts.length h.pc) := KC4.out.cell 3
  go_wp2_with fail
  refine (loadsOf_any F.ps.length h.pa h.pc h.parts _ (isPrts_own (HH4.out.own.parts h (List.mem_of_getElem? HIH.out))) HOK.out hlen).mono ?_
  rintro e w7 ⟨rfl, hb7⟩
  have hH7 := HH4.out.below hb7
  have kA7 := KA4.out.belowS hb7
  have kC7 := KC4.out.belowS hb7
  have HBB7 := Lib.hid (HBB4.out.trans (hb7.mono (Nat.le_trans hbw hsz4)))
  have hsz7 := Nat.le_trans hsz4 hb7.size
  have hCl7 : w2.heap.size < w7.heap.size := kC7.lt
  obtain ⟨htm, hr0, hr1⟩ := rem_of (per := a.per) hl0 hp1
  have hp0 : ¬ a.per = 0 := by omega
  have hp0' : (a.per == 0) = false := by simp [hp0]
  have b6 : w7.cell? ⟨w.heap.size, 6, none⟩ = some (.int .i64 a.per) := kA7.cell 6
  have b4 : w7.cell? ⟨w.heap.size, 4, none⟩ = some (.string a.other) := kA7.cell 4
  have lA7 := kA7.lt
  have lC7 := kC7.lt
  have lB7 := hH7.box.lt
  have d57 : w7.cell? ⟨B, 5, none⟩ = some (.slice S.ha S.heaps.length S.hc) := hH7.box.cell 5
  have HH7 := Lib.hid hH7
  have KA7 := Lib.hid kA7
  have KC7 := Lib.hid kC7
  clear hH7 kA7 kC7 hb7 a6 a4 lA g3
  generalize hov : loadsM h.parts % a.per = ov at *
  generalize hld : loadsM h.parts = ld at *
  have HLD := Lib.hid hld
  have hwo : IntKind.i64.wrap ov = ov := IntWalk.i64_in _ (by omega)
  have hwm : IntKind.i64.wrap (ld - ov) = ld - ov := IntWalk.i64_in _ (by omega)
  clear hld hov
  by_cases hge : ld < a.per
  · have q4 : decide (a.per ≤ ld) = false := by simp; omega
    have HV := Lib.hid (show (bindD F S a).1 = 9 by rw [HBV.out, if_neg (fun e => e ⟨H2.out, H3.out⟩), if_neg (by rw [H9.out]; simp), if_pos hge])
    clear hge
    go_wp2_with fail
    refine (require_no 9 _).mono ?_
    rintro e w8 ⟨rfl, rfl⟩
    go_wp2_with fail
    exact ⟨rfl, ChoreSaid.err 9 HV.out (by decide) HBB7.out⟩
  have q4 : decide (a.per ≤ ld) = true := by simp; omega
  have HGEQ := Lib.hid hge
  have HGE2 := Lib.hid (show a.per ≤ ld by omega)
  clear hge
  go_wp2_with fail
  refine (require_yes 9 _).mono ?_
  rintro e w8 ⟨rfl, rfl⟩
  have hlim : (¬ (ov = 0 ∨ (S.heaps.length : Int) < 16) → (bindD F S a).1 = 3) ∧ ((ov = 0 ∨ (S.heaps.length : Int) < 16) → bindD F S a = (0, { S with heaps := moveH S.heaps i (ld - ov) ++ [⟨a.other, h.crop, 3, none, 0, cutT (ld - ov) h.parts, a.per, h.wlo, h.whi⟩] })) := by
    constructor
    · intro e
      rw [HBV.out, if_neg (fun e => e ⟨H2.out, H3.out⟩), if_neg (by rw [H9.out]; simp), if_neg (by have := HGEQ.out; omega), if_pos e]
    · intro e
      rw [HBV.out, if_neg (fun e => e ⟨H2.out, H3.out⟩), if_neg (by rw [H9.out]; simp), if_neg (by have := HGEQ.out; omega), if_neg (fun e' => e' e)]
  obtain ⟨hlim1, hlim2⟩ := hlim
  have HL1 := Lib.hid hlim1
  have HL2 := Lib.hid hlim2
  clear hlim1 hlim2
  have c18 : w8.cell? ⟨w2.heap.size, 1, none⟩ = some (.int .i64 h.crop) := KC7.out.cell 1
  have c58 : w8.cell? ⟨w2.heap.size, 5, none⟩ = some (.int .i64 h.wlo) := KC7.out.cell 5
  have c68 : w8.cell? ⟨w2.heap.size, 6, none⟩ = some (.int .i64 h.whi) := KC7.out.cell 6
  by_cases hov0 : ov = 0
  · have q5 : (ov == 0) = true := by simp [hov0]
    have HV := Lib.hid (HL2.out (.inl hov0))
    clear hov0
    go_wp2_with fail
    refine (require_yes 3 _).mono ?_
    rintro e w9 ⟨rfl, rfl⟩
    have hbD : Below w9.heap.size w9 (w9.alloc (.cells #[.string a.other, .int .i64 h.crop, .int .i64 3, .slice none 0 0, .int .i64 a.per, .int .i64 h.wlo, .int .i64 h.whi] 53)) := (Below.refl _ w9).alloc (Nat.le_refl _) _
    have kD := Blk.new w9 53 #[.string a.other, .int .i64 h.crop, .int .i64 3, .slice none 0 0, .int .i64 a.per, .int .i64 h.wlo, .int .i64 h.whi]
    go_upto_region 11 with fail
    generalize w9.alloc (.cells #[.string a.other, .int .i64 h.crop, .int .i64 3, .slice none 0 0, .int .i64 a.per, .int .i64 h.wlo, .int .i64 h.whi] 53) = w10 at *
    have hH10 := HH7.out.below hbD
    have hsz10 := Nat.le_trans hsz7 hbD.size
    have HBB10 := Lib.hid (HBB7.out.trans (hbD.mono (Nat.le_trans hbw hsz7)))
    have hmv := move_any F S S base B i (ld - ov) h none 0 [] 0 w10 hH10 HIH.out (Nat.le_trans hbw hsz10) (World.ownsRow_nil _ _ _ _) (fun k e => by cases e) (fun q hq => by cases hq) (by omega) (by omega) (by simp) F.ps.length HOK.out HPA.out hlen (by omega) (by rw [HLD.out]; omega) (by rw [HLD.out]; omega)
    rw [putL_nil (fun p hp => (HOK.out p hp).2.1) HPA.out (show 0 ≤ ld - ov by omega)] at hmv
    have HMV := Lib.hid hmv
    have KD := Lib.hid kD
    have hDs : ¬ TurnM S B none w9.heap.size := fun e => by
      rcases e with e | e | e
      · omega
      · have := HROWS.out _ (rows_ha e); omega
      · cases e
    clear hH10 hmv kD hbD c18 c58 c68 d57 b6 b4 lA7 lC7
    go_wp2_with fail
    refine HMV.out.mono ?_
    rintro e w11 ⟨⟨a2, c2, rfl, hrow2, H, hsame, hH11, hap11⟩, hT11⟩
    generalize hN : cutT (ld - ov) h.parts = N at *
    have kD11 := hT11.blk KD.out hDs
    have hBD : B ≠ w9.heap.size := by omega
    have hDr := not_rows (S := S) hH11 kD11 (fun k hk => HROWS.out k hk) (by omega : w.heap.size ≤ w9.heap.size)
    have hDa := not_row hrow2 kD11
    have hTD : Turn (fun k => k = w9.heap.size) w11 (w11.setCell ⟨w9.heap.size, 3, none⟩ (.slice a2 N.length c2)) := (Turn.of_below (X := fun k => k = w9.heap.size) (Below.refl _ w11)).setCell (B := w9.heap.size) rfl _ _
    have hH12 := hH11.turn hTD (fun k e => by rw [show k = w9.heap.size from e]; exact ⟨hDr, fun e => hBD e.symm⟩)
    have hrow12 := hTD.row hrow2 (fun k e => by rw [show k = w9.heap.size from e]; exact hDa)
    have kD12 : Blk (w11.setCell ⟨w9.heap.size, 3, none⟩ (.slice a2 N.length c2)) w9.heap.size #[.string a.other, .int .i64 h.crop, .int .i64 3, .slice a2 N.length c2, .int .i64 a.per, .int .i64 h.wlo, .int .i64 h.whi] 53 := by
      have := kD11.set 3 (.slice a2 N.length c2)
      simpa using this
    have z3 := kD11.frozen 3
    have y3 : w11.cell? ⟨w9.heap.size, 3, none⟩ = some (.slice none 0 0) := kD11.cell 3
    have lD11 := kD11.lt
    have hb11 : Below base w10 w11 := hT11.below (Nat.le_trans hbw hsz10) (fun k e => by
      rcases e with rfl | e | e
      · exact hbB
      · exact HGE.out k (rows_ha e)
      · cases e)
    have hb12 : Below base w11 (w11.setCell ⟨w9.heap.size, 3, none⟩ (.slice a2 N.length c2)) := (Below.refl _ w11).setCell (p := ⟨w9.heap.size, 3, none⟩) (by show base ≤ w9.heap.size; omega) _
    have HBB12 := Lib.hid (HBB10.out.trans (hb11.trans hb12))
    have hsz12 : w.heap.size ≤ (w11.setCell ⟨w9.heap.size, 3, none⟩ (.slice a2 N.length c2)).heap.size := by have := hT11.size; have := hTD.size; omega
    have hHl := hsame.1
    have hml := moveH_len S.heaps i (ld - ov)
    have HSA := Lib.hid hsame
    have HH12 := Lib.hid hH12
    have KD12 := Lib.hid kD12
    have HR12 := Lib.hid hrow12
    have HA12 := Lib.hid hap11
    have HNN := Lib.hid hN
    clear hrow2 hsame hH11 hap11 hT11 kD11 hH12 kD12 hrow12 hDr hDa hTD hb11 hb12 hN
    go_upto_region 12 with fail
    generalize w11.setCell ⟨w9.heap.size, 3, none⟩ (.slice a2 N.length c2) = W at *
    clear z3 y3 lD11
    have hlen1 : H.length ≤ 1000 := by omega
    clear hHl hml
    obtain ⟨i0, hi, hz0, hz1, hz2⟩ := info_parts info_heap
    have y5 : W.cell? ⟨B, 5, none⟩ = some (.slice S.ha H.length S.hc) := HH12.out.box.cell 5
    have z5 := HH12.out.box.frozen 5
    have lB12 := HH12.out.box.lt
    have kDW := KD12.out
    have lDW := kDW.lt
    have hDh : S.ha.map (·.block) ≠ some w9.heap.size := fun e => by have := HROWS.out _ (rows_ha e); omega
    have hBh : S.ha.map (·.block) ≠ some B := fun e => HH12.out.out (rows_ha (S := { S with heaps := H }) e)
    have hstep : ∀ w', Turn (fun k => S.ha.map (·.block) = some k) W w' → Turn (fun k => S.ha.map (·.block) = some k) W w' ∧ (w'.cell? ⟨w9.heap.size, 0, none⟩ = some (.string a.other) ∧ w'.cell? ⟨w9.heap.size, 1, none⟩ = some (.int .i64 h.crop) ∧ w'.cell? ⟨w9.heap.size, 2, none⟩ = some (.int .i64 3) ∧ w'.cell? ⟨w9.heap.size, 3, none⟩ = some (.slice a2 N.length c2) ∧ w'.cell? ⟨w9.heap.size, 4, none⟩ = some (.int .i64 a.per) ∧ w'.cell? ⟨w9.heap.size, 5, none⟩ = some (.int .i64 h.wlo) ∧ w'.cell? ⟨w9.heap.size, 6, none⟩ = some (.int .i64 h.whi) ∧ w'.cell? ⟨B, 5, none⟩ = some (.slice S.ha H.length S.hc)) :=
      fun w' ht => by
        have k1 := ht.blk kDW hDh
        have k2 := ht.blk HH12.out.box hBh
        exact ⟨ht, k1.cell 0, k1.cell 1, k1.cell 2, k1.cell 3, k1.cell 4, k1.cell 5, k1.cell 6, k2.cell 5⟩
    have HST := Lib.hid hstep
    have hx := hstep W.drew (Turn.of_below ((Below.refl _ W).drew))
    clear hstep kDW
    refine wp_region_E 12 (fun w' : World => Turn (fun k => S.ha.map (·.block) = some k) W w' ∧ (w'.cell? ⟨w9.heap.size, 0, none⟩ = some (.string a.other) ∧ w'.cell? ⟨w9.heap.size, 1, none⟩ = some (.int .i64 h.crop) ∧ w'.cell? ⟨w9.heap.size, 2, none⟩ = some (.int .i64 3) ∧ w'.cell? ⟨w9.heap.size, 3, none⟩ = some (.slice a2 N.length c2) ∧ w'.cell? ⟨w9.heap.size, 4, none⟩ = some (.int .i64 a.per) ∧ w'.cell? ⟨w9.heap.size, 5, none⟩ = some (.int .i64 h.wlo) ∧ w'.cell? ⟨w9.heap.size, 6, none⟩ = some (.int .i64 h.whi) ∧ w'.cell? ⟨B, 5, none⟩ = some (.slice S.ha H.length S.hc))) (by kernel_rfl) ?_
    refine tk 0 rfl hx (v := ?v62) (.inl ⟨by rfl, ?y62⟩) ?r62
    case y62 => intro w' h; (try dsimp only at h); go_simp; try with_reducible rfl
    refine tk 1 rfl hx (v := ?v63) (.inl ⟨by rfl, ?y63⟩) ?r63
    case y63 => intro w' h; (try dsimp only at h); go_simp; try with_reducible rfl
    refine tk 2 rfl hx (v := ?v64) (.inl ⟨by rfl, ?y64⟩) ?r64
    case y64 => intro w' h; (try dsimp only at h); go_simp; try with_reducible rfl
    try simp only [Act.put, List.getElem_toArray, List.getElem_cons_zero, List.getElem_cons_succ, List.setIfInBounds_toArray, List.set_cons_zero, List.set_cons_succ]
    refine tk 3 rfl hx (v := ?v65) (.inl ⟨by rfl, ?y65⟩) ?r65
    case y65 => intro w' h; (try dsimp only at h); go_simp; try with_reducible rfl
    refine tk 4 rfl hx (v := ?v66) (.inl ⟨by rfl, ?y66⟩) ?r66
    case y66 => intro w' h; (try dsimp only at h); go_simp; try with_reducible rfl
    refine tk 5 rfl hx (v := ?v67) (.inl ⟨by rfl, ?y67⟩) ?r67
    case y67 => intro w' h; (try dsimp only at h); go_simp; try with_reducible rfl
    try simp only [Act.put, List.getElem_toArray, List.getElem_cons_zero, List.getElem_cons_succ, List.setIfInBounds_toArray, List.set_cons_zero, List.set_cons_succ]
    refine tk 6 rfl hx (v := ?v68) (.inl ⟨by rfl, ?y68⟩) ?r68
    case y68 => intro w' h; (try dsimp only at h); go_simp; try with_reducible rfl
    try simp only [Act.put, List.getElem_toArray, List.getElem_cons_zero, List.getElem_cons_succ, List.setIfInBounds_toArray, List.set_cons_zero, List.set_cons_succ]
    refine E_step (i := 7) (o := _) (by kernel_rfl) rfl (fun K hK => ?_)
    go_simp
    have hb13 : Below W.heap.size W (W.drew.alloc (.cells #[.string a.other, .int .i64 h.crop, .int .i64 3, .slice a2 N.length c2, .int .i64 a.per, .int .i64 h.wlo, .int .i64 h.whi] 53)) := ((Below.refl _ W).drew).alloc (Nat.le_refl _) _
    have hown13 : (W.drew.alloc (.cells #[.string a.other, .int .i64 h.crop, .int .i64 3, .slice a2 N.length c2, .int .i64 a.per, .int .i64 h.wlo, .int .i64 h.whi] 53)).ownsRow base 53 7 (.slice S.ha H.length S.hc) H.length (H.flatMap cellsHep) := own_below HH12.out.own.heaps hb13
    refine hK.out _ _ (fun _ => HST.out _ (Turn.of_below hb13)) ?_
    clear hK K
    try simp only [Act.put, List.getElem_toArray, List.getElem_cons_zero, List.getElem_cons_succ, List.setIfInBounds_toArray, List.set_cons_zero, List.set_cons_succ]
    refine E_step (i := 8) (o := _) (by kernel_rfl) rfl (fun K hK => ?_)
    refine step_append_lies _ (by rfl) _ _ _ (by rfl) base 53 i0 _ 7 80 Tryz.underlying26 hi hz0 hz1 hz2 rfl (by omega) (.slice S.ha H.length S.hc) H.length (H.flatMap cellsHep) (by rfl) hown13
      ⟨W.drew.heap.size, 0, none⟩ 1 1 [.string a.other, .int .i64 h.crop, .int .i64 3, .slice a2 N.length c2, .int .i64 a.per, .int .i64 h.wlo, .int .i64 h.whi] (by rfl) (by rfl) (World.news_of_block (cs := #[.string a.other, .int .i64 h.crop, .int .i64 3, .slice a2 N.length c2, .int .i64 a.per, .int .i64 h.wlo, .int .i64 h.whi]) (t := 53) (fr := (0, 0)) (heap_alloc_new W.drew _)) (by simp [Value.oneCell'])
      (by omega) (by unfold maxLen; omega) (by omega) (Nat.le_trans (Nat.le_trans hbw hsz12) hb13.size) (W.heap.size + 1) (by simp) ?_
    intro gg cap w14 hown14 hgrow hat hlt14
    have hT14 : Turn (fun k => S.ha.map (·.block) = some k) W w14 := (Turn.of_below hb13).trans ((Turn.of_grown hgrow).mono fun k _ e => by rw [rowOf_own'] at e; exact e)
    have hx14 := HST.out w14 hT14
    have hat2 : ∀ k, (some (⟨gg, 0, none⟩ : Addr)).map (·.block) = some k → S.ha.map (·.block) = some k ∨ W.heap.size ≤ k := fun k e => by
      obtain rfl : gg = k := by simpa using e
      rcases hat with h9 | h9
      · rw [rowOf_own'] at h9; exact .inl h9
      · exact .inr (by omega)
    refine hK.out _ _ (fun _ => hx14) ?_
    clear hK K
    try simp only [Act.put, List.getElem_toArray, List.getElem_cons_zero, List.getElem_cons_succ, List.setIfInBounds_toArray, List.set_cons_zero, List.set_cons_succ]
    refine E_step (i := 9) (o := _) (by kernel_rfl) rfl (fun K hK => ?_)
    go_simp
    refine hK.out _ _ (fun _ => hx14) ?_
    clear hK K
    try simp only [Act.put, List.getElem_toArray, List.getElem_cons_zero, List.getElem_cons_succ, List.setIfInBounds_toArray, List.set_cons_zero, List.set_cons_succ]
    refine E_step (i := 10) (o := _) (by kernel_rfl) rfl (fun K hK => ?_)
    go_simp
    refine hK.out _ _ (fun _ => hx14) ?_
    clear hK K
    try simp only [Act.put, List.getElem_toArray, List.getElem_cons_zero, List.getElem_cons_succ, List.setIfInBounds_toArray, List.set_cons_zero, List.set_cons_succ]
    refine E_step (i := 11) (o := _) (by kernel_rfl) rfl (fun K hK => ?_)
    go_simp
    refine hK.out _ _ (fun _ => hx14) ?_
    clear hK K
    try simp only [Act.put, List.getElem_toArray, List.getElem_cons_zero, List.getElem_cons_succ, List.setIfInBounds_toArray, List.set_cons_zero, List.set_cons_succ]
    have kB14 := hT14.blk HH12.out.box hBh
    have lB14 := kB14.lt
    have y514 := hx14.2.2.2.2.2.2.2.2
    have z514 := kB14.frozen 5
    have HO14 := Lib.hid hown14
    have HT14 := Lib.hid hT14
    have HAT2 := Lib.hid hat2
    have KB14 := Lib.hid kB14
    clear hx hx14 hown14 hgrow hat hT14 hat2 kB14 hown13 hb13
    refine E_step (i := 12) (o := _) (by kernel_rfl) rfl (fun K hK => ?_)
    go_simp
    refine hK.out _ _ (fun h => absurd rfl h) ?_
    clear hK K
    try simp only [Act.put, List.getElem_toArray, List.getElem_cons_zero, List.getElem_cons_succ, List.setIfInBounds_toArray, List.set_cons_zero, List.set_cons_succ]
    refine E_done (by kernel_rfl) ?_ _
    have hla : (H ++ [(⟨a.other, h.crop, 3, a2, c2, N, a.per, h.wlo, h.whi⟩ : Hep)]).length = H.length + 1 := by simp
    have hfl : (H ++ [(⟨a.other, h.crop, 3, a2, c2, N, a.per, h.wlo, h.whi⟩ : Hep)]).flatMap cellsHep = H.flatMap cellsHep ++ [.string a.other, .int .i64 h.crop, .int .i64 3, .slice a2 N.length c2, .int .i64 a.per, .int .i64 h.wlo, .int .i64 h.whi] := by simp [cellsHep]
    have hTF : Turn (TurnH { S with heaps := H } B) W (w14.setCell ⟨B, 5, none⟩ (.slice (some ⟨gg, 0, none⟩) (H.length + 1) cap)) := (HT14.out.mono fun k _ e => .inr e).setCell (B := B) (.inl rfl) _ _
    have hBg : (some (⟨gg, 0, none⟩ : Addr)).map (·.block) ≠ some B := fun e => by
      rcases HAT2.out B e with h9 | h9
      · exact hBh h9
      · omega
    have hFin := push_hand (a := some ⟨gg, 0, none⟩) (c := cap) (y := ⟨a.other, h.crop, 3, a2, c2, N, a.per, h.wlo, h.whi⟩) HH12.out hTF (by
        have := KB14.out.set 5 (.slice (some ⟨gg, 0, none⟩) (H.length + 1) cap)
        show Blk _ _ #[_, _, _, _, _, .slice (some ⟨gg, 0, none⟩) (H ++ [_]).length cap, _, _] _
        rw [hla]
        exact this)
      (by
        rw [hfl, hla]
        exact Turn.row (X := fun k => k = B) ((Turn.of_below (X := fun k => k = B) (Below.refl _ w14)).setCell (B := B) rfl _ _) HO14.out (fun k e => by rw [show k = B from e]; exact hBg))
      HAT2.out HR12.out HA12.out hno
    go_end0
    refine ⟨.inl ⟨by rw [HV.out], rfl, _, ?_, hFin⟩, HBB12.out.trans (hTF.below (Nat.le_trans hbw hsz12) ?_)⟩
    · rw [HV.out]
      have hs : sameH (H ++ [⟨a.other, h.crop, 3, a2, c2, N, a.per, h.wlo, h.whi⟩]) (moveH S.heaps i (ld - ov) ++ [⟨a.other, h.crop, 3, none, 0, N, a.per, h.wlo, h.whi⟩]) := sameH.append HSA.out ⟨rfl, rfl, rfl, rfl, rfl, rfl, rfl⟩
      exact ⟨rfl, rfl, rfl, rfl, rfl, hs.1, hs.2⟩
    · intro k e
      rcases e with rfl | e
      · exact hbB
      · exact HGE.out k (rows_ha e)
  have q5 : (ov == 0) = false := by simp [hov0]
  by_cases hov1 : (S.heaps.length : Int) < 16
  · have q6 : decide ((S.heaps.length : Int) < 16) = true := by simp [hov1]
    have HV := Lib.hid (HL2.out (.inr hov1))
    clear hov0 hov1
    go_wp2_with fail
    refine (require_yes 3 _).mono ?_
    rintro e w9 ⟨rfl, rfl⟩
    have hbD : Below w9.heap.size w9 (w9.alloc (.cells #[.string a.other, .int .i64 h.crop, .int .i64 3, .slice none 0 0, .int .i64 a.per, .int .i64 h.wlo, .int .i64 h.whi] 53)) := (Below.refl _ w9).alloc (Nat.le_refl _) _
    have kD := Blk.new w9 53 #[.string a.other, .int .i64 h.crop, .int .i64 3, .slice none 0 0, .int .i64 a.per, .int .i64 h.wlo, .int .i64 h.whi]
    go_upto_region 11 with fail
    generalize w9.alloc (.cells #[.string a.other, .int .i64 h.crop, .int .i64 3, .slice none 0 0, .int .i64 a.per, .int .i64 h.wlo, .int .i64 h.whi] 53) = w10 at *
    have hH10 := HH7.out.below hbD
    have hsz10 := Nat.le_trans hsz7 hbD.size
    have HBB10 := Lib.hid (HBB7.out.trans (hbD.mono (Nat.le_trans hbw hsz7)))
    have hmv := move_any F S S base B i (ld - ov) h none 0 [] 0 w10 hH10 HIH.out (Nat.le_trans hbw hsz10) (World.ownsRow_nil _ _ _ _) (fun k e => by cases e) (fun q hq => by cases hq) (by omega) (by omega) (by simp) F.ps.length HOK.out HPA.out hlen (by omega) (by rw [HLD.out]; omega) (by rw [HLD.out]; omega)
    rw [putL_nil (fun p hp => (HOK.out p hp).2.1) HPA.out (show 0 ≤ ld - ov by omega)] at hmv
    have HMV := Lib.hid hmv
    have KD := Lib.hid kD
    have hDs : ¬ TurnM S B none w9.heap.size := fun e => by
      rcases e with e | e | e
      · omega
      · have := HROWS.out _ (rows_ha e); omega
      · cases e
    clear hH10 hmv kD hbD c18 c58 c68 d57 b6 b4 lA7 lC7
    go_wp2_with fail
    refine HMV.out.mono ?_
    rintro e w11 ⟨⟨a2, c2, rfl, hrow2, H, hsame, hH11, hap11⟩, hT11⟩
    generalize hN : cutT (ld - ov) h.parts = N at *
    have kD11 := hT11.blk KD.out hDs
    have hBD : B ≠ w9.heap.size := by omega
    have hDr := not_rows (S := S) hH11 kD11 (fun k hk => HROWS.out k hk) (by omega : w.heap.size ≤ w9.heap.size)
    have hDa := not_row hrow2 kD11
    have hTD : Turn (fun k => k = w9.heap.size) w11 (w11.setCell ⟨w9.heap.size, 3, none⟩ (.slice a2 N.length c2)) := (Turn.of_below (X := fun k => k = w9.heap.size) (Below.refl _ w11)).setCell (B := w9.heap.size) rfl _ _
    have hH12 := hH11.turn hTD (fun k e => by rw [show k = w9.heap.size from e]; exact ⟨hDr, fun e => hBD e.symm⟩)
    have hrow12 := hTD.row hrow2 (fun k e => by rw [show k = w9.heap.size from e]; exact hDa)
    have kD12 : Blk (w11.setCell ⟨w9.heap.size, 3, none⟩ (.slice a2 N.length c2)) w9.heap.size #[.string a.other, .int .i64 h.crop, .int .i64 3, .slice a2 N.length c2, .int .i64 a.per, .int .i64 h.wlo, .int .i64 h.whi] 53 := by
      have := kD11.set 3 (.slice a2 N.length c2)
      simpa using this
    have z3 := kD11.frozen 3
    have y3 : w11.cell? ⟨w9.heap.size, 3, none⟩ = some (.slice none 0 0) := kD11.cell 3
    have lD11 := kD11.lt
    have hb11 : Below base w10 w11 := hT11.below (Nat.le_trans hbw hsz10) (fun k e => by
      rcases e with rfl | e | e
      · exact hbB
      · exact HGE.out k (rows_ha e)
      · cases e)
    have hb12 : Below base w11 (w11.setCell ⟨w9.heap.size, 3, none⟩ (.slice a2 N.length c2)) := (Below.refl _ w11).setCell (p := ⟨w9.heap.size, 3, none⟩) (by show base ≤ w9.heap.size; omega) _
    have HBB12 := Lib.hid (HBB10.out.trans (hb11.trans hb12))
    have hsz12 : w.heap.size ≤ (w11.setCell ⟨w9.heap.size, 3, none⟩ (.slice a2 N.length c2)).heap.size := by have := hT11.size; have := hTD.size; omega
    have hHl := hsame.1
    have hml := moveH_len S.heaps i (ld - ov)
    have HSA := Lib.hid hsame
    have HH12 := Lib.hid hH12
    have KD12 := Lib.hid kD12
    have HR12 := Lib.hid hrow12
    have HA12 := Lib.hid hap11
    have HNN := Lib.hid hN
    clear hrow2 hsame hH11 hap11 hT11 kD11 hH12 kD12 hrow12 hDr hDa hTD hb11 hb12 hN
    go_upto_region 12 with fail
    generalize w11.setCell ⟨w9.heap.size, 3, none⟩ (.slice a2 N.length c2) = W at *
    clear z3 y3 lD11
    have hlen1 : H.length ≤ 1000 := by omega
    clear hHl hml
    obtain ⟨i0, hi, hz0, hz1, hz2⟩ := info_parts info_heap
    have y5 : W.cell? ⟨B, 5, none⟩ = some (.slice S.ha H.length S.hc) := HH12.out.box.cell 5
    have z5 := HH12.out.box.frozen 5
    have lB12 := HH12.out.box.lt
    have kDW := KD12.out
    have lDW := kDW.lt
    have hDh : S.ha.map (·.block) ≠ some w9.heap.size := fun e => by have := HROWS.out _ (rows_ha e); omega
    have hBh : S.ha.map (·.block) ≠ some B := fun e => HH12.out.out (rows_ha (S := { S with heaps := H }) e)
    have hstep : ∀ w', Turn (fun k => S.ha.map (·.block) = some k) W w' → Turn (fun k => S.ha.map (·.block) = some k) W w' ∧ (w'.cell? ⟨w9.heap.size, 0, none⟩ = some (.string a.other) ∧ w'.cell? ⟨w9.heap.size, 1, none⟩ = some (.int .i64 h.crop) ∧ w'.cell? ⟨w9.heap.size, 2, none⟩ = some (.int .i64 3) ∧ w'.cell? ⟨w9.heap.size, 3, none⟩ = some (.slice a2 N.length c2) ∧ w'.cell? ⟨w9.heap.size, 4, none⟩ = some (.int .i64 a.per) ∧ w'.cell? ⟨w9.heap.size, 5, none⟩ = some (.int .i64 h.wlo) ∧ w'.cell? ⟨w9.heap.size, 6, none⟩ = some (.int .i64 h.whi) ∧ w'.cell? ⟨B, 5, none⟩ = some (.slice S.ha H.length S.hc)) :=
      fun w' ht => by
        have k1 := ht.blk kDW hDh
        have k2 := ht.blk HH12.out.box hBh
        exact ⟨ht, k1.cell 0, k1.cell 1, k1.cell 2, k1.cell 3, k1.cell 4, k1.cell 5, k1.cell 6, k2.cell 5⟩
    have HST := Lib.hid hstep
    have hx := hstep W.drew (Turn.of_below ((Below.refl _ W).drew))
    clear hstep kDW
    refine wp_region_E 12 (fun w' : World => Turn (fun k => S.ha.map (·.block) = some k) W w' ∧ (w'.cell? ⟨w9.heap.size, 0, none⟩ = some (.string a.other) ∧ w'.cell? ⟨w9.heap.size, 1, none⟩ = some (.int .i64 h.crop) ∧ w'.cell? ⟨w9.heap.size, 2, none⟩ = some (.int .i64 3) ∧ w'.cell? ⟨w9.heap.size, 3, none⟩ = some (.slice a2 N.length c2) ∧ w'.cell? ⟨w9.heap.size, 4, none⟩ = some (.int .i64 a.per) ∧ w'.cell? ⟨w9.heap.size, 5, none⟩ = some (.int .i64 h.wlo) ∧ w'.cell? ⟨w9.heap.size, 6, none⟩ = some (.int .i64 h.whi) ∧ w'.cell? ⟨B, 5, none⟩ = some (.slice S.ha H.length S.hc))) (by kernel_rfl) ?_
    refine tk 0 rfl hx (v := ?v69) (.inl ⟨by rfl, ?y69⟩) ?r69
    case y69 => intro w' h; (try dsimp only at h); go_simp; try with_reducible rfl
    refine tk 1 rfl hx (v := ?v70) (.inl ⟨by rfl, ?y70⟩) ?r70
    case y70 => intro w' h; (try dsimp only at h); go_simp; try with_reducible rfl
    refine tk 2 rfl hx (v := ?v71) (.inl ⟨by rfl, ?y71⟩) ?r71
    case y71 => intro w' h; (try dsimp only at h); go_simp; try with_reducible rfl
    try simp only [Act.put, List.getElem_toArray, List.getElem_cons_zero, List.getElem_cons_succ, List.setIfInBounds_toArray, List.set_cons_zero, List.set_cons_succ]
    refine tk 3 rfl hx (v := ?v72) (.inl ⟨by rfl, ?y72⟩) ?r72
    case y72 => intro w' h; (try dsimp only at h); go_simp; try with_reducible rfl
    refine tk 4 rfl hx (v := ?v73) (.inl ⟨by rfl, ?y73⟩) ?r73
    case y73 => intro w' h; (try dsimp only at h); go_simp; try with_reducible rfl
    refine tk 5 rfl hx (v := ?v74) (.inl ⟨by rfl, ?y74⟩) ?r74
    case y74 => intro w' h; (try dsimp only at h); go_simp; try with_reducible rfl
    try simp only [Act.put, List.getElem_toArray, List.getElem_cons_zero, List.getElem_cons_succ, List.setIfInBounds_toArray, List.set_cons_zero, List.set_cons_succ]
    refine tk 6 rfl hx (v := ?v75) (.inl ⟨by rfl, ?y75⟩) ?r75
    case y75 => intro w' h; (try dsimp only at h); go_simp; try with_reducible rfl
    try simp only [Act.put, List.getElem_toArray, List.getElem_cons_zero, List.getElem_cons_succ, List.setIfInBounds_toArray, List.set_cons_zero, List.set_cons_succ]
    refine E_step (i := 7) (o := _) (by kernel_rfl) rfl (fun K hK => ?_)
    go_simp
    have hb13 : Below W.heap.size W (W.drew.alloc (.cells #[.string a.other, .int .i64 h.crop, .int .i64 3, .slice a2 N.length c2, .int .i64 a.per, .int .i64 h.wlo, .int .i64 h.whi] 53)) := ((Below.refl _ W).drew).alloc (Nat.le_refl _) _
    have hown13 : (W.drew.alloc (.cells #[.string a.other, .int .i64 h.crop, .int .i64 3, .slice a2 N.length c2, .int .i64 a.per, .int .i64 h.wlo, .int .i64 h.whi] 53)).ownsRow base 53 7 (.slice S.ha H.length S.hc) H.length (H.flatMap cellsHep) := own_below HH12.out.own.heaps hb13
    refine hK.out _ _ (fun _ => HST.out _ (Turn.of_below hb13)) ?_
    clear hK K
    try simp only [Act.put, List.getElem_toArray, List.getElem_cons_zero, List.getElem_cons_succ, List.setIfInBounds_toArray, List.set_cons_zero, List.set_cons_succ]
    refine E_step (i := 8) (o := _) (by kernel_rfl) rfl (fun K hK => ?_)
    refine step_append_lies _ (by rfl) _ _ _ (by rfl) base 53 i0 _ 7 80 Tryz.underlying26 hi hz0 hz1 hz2 rfl (by omega) (.slice S.ha H.length S.hc) H.length (H.flatMap cellsHep) (by rfl) hown13
      ⟨W.drew.heap.size, 0, none⟩ 1 1 [.string a.other, .int .i64 h.crop, .int .i64 3, .slice a2 N.length c2, .int .i64 a.per, .int .i64 h.wlo, .int .i64 h.whi] (by rfl) (by rfl) (World.news_of_block (cs := #[.string a.other, .int .i64 h.crop, .int .i64 3, .slice a2 N.length c2, .int .i64 a.per, .int .i64 h.wlo, .int .i64 h.whi]) (t := 53) (fr := (0, 0)) (heap_alloc_new W.drew _)) (by simp [Value.oneCell'])
      (by omega) (by unfold maxLen; omega) (by omega) (Nat.le_trans (Nat.le_trans hbw hsz12) hb13.size) (W.heap.size + 1) (by simp) ?_
    intro gg cap w14 hown14 hgrow hat hlt14
    have hT14 : Turn (fun k => S.ha.map (·.block) = some k) W w14 := (Turn.of_below hb13).trans ((Turn.of_grown hgrow).mono fun k _ e => by rw [rowOf_own'] at e; exact e)
    have hx14 := HST.out w14 hT14
    have hat2 : ∀ k, (some (⟨gg, 0, none⟩ : Addr)).map (·.block) = some k → S.ha.map (·.block) = some k ∨ W.heap.size ≤ k := fun k e => by
      obtain rfl : gg = k := by simpa using e
      rcases hat with h9 | h9
      · rw [rowOf_own'] at h9; exact .inl h9
      · exact .inr (by omega)
    refine hK.out _ _ (fun _ => hx14) ?_
    clear hK K
    try simp only [Act.put, List.getElem_toArray, List.getElem_cons_zero, List.getElem_cons_succ, List.setIfInBounds_toArray, List.set_cons_zero, List.set_cons_succ]
    refine E_step (i := 9) (o := _) (by kernel_rfl) rfl (fun K hK => ?_)
    go_simp
    refine hK.out _ _ (fun _ => hx14) ?_
    clear hK K
    try simp only [Act.put, List.getElem_toArray, List.getElem_cons_zero, List.getElem_cons_succ, List.setIfInBounds_toArray, List.set_cons_zero, List.set_cons_succ]
    refine E_step (i := 10) (o := _) (by kernel_rfl) rfl (fun K hK => ?_)
    go_simp
    refine hK.out _ _ (fun _ => hx14) ?_
    clear hK K
    try simp only [Act.put, List.getElem_toArray, List.getElem_cons_zero, List.getElem_cons_succ, List.setIfInBounds_toArray, List.set_cons_zero, List.set_cons_succ]
    refine E_step (i := 11) (o := _) (by kernel_rfl) rfl (fun K hK => ?_)
    go_simp
    refine hK.out _ _ (fun _ => hx14) ?_
    clear hK K
    try simp only [Act.put, List.getElem_toArray, List.getElem_cons_zero, List.getElem_cons_succ, List.setIfInBounds_toArray, List.set_cons_zero, List.set_cons_succ]
    have kB14 := hT14.blk HH12.out.box hBh
    have lB14 := kB14.lt
    have y514 := hx14.2.2.2.2.2.2.2.2
    have z514 := kB14.frozen 5
    have HO14 := Lib.hid hown14
    have HT14 := Lib.hid hT14
    have HAT2 := Lib.hid hat2
    have KB14 := Lib.hid kB14
    clear hx hx14 hown14 hgrow hat hT14 hat2 kB14 hown13 hb13
    refine E_step (i := 12) (o := _) (by kernel_rfl) rfl (fun K hK => ?_)
    go_simp
    refine hK.out _ _ (fun h => absurd rfl h) ?_
    clear hK K
    try simp only [Act.put, List.getElem_toArray, List.getElem_cons_zero, List.getElem_cons_succ, List.setIfInBounds_toArray, List.set_cons_zero, List.set_cons_succ]
    refine E_done (by kernel_rfl) ?_ _
    have hla : (H ++ [(⟨a.other, h.crop, 3, a2, c2, N, a.per, h.wlo, h.whi⟩ : Hep)]).length = H.length + 1 := by simp
    have hfl : (H ++ [(⟨a.other, h.crop, 3, a2, c2, N, a.per, h.wlo, h.whi⟩ : Hep)]).flatMap cellsHep = H.flatMap cellsHep ++ [.string a.other, .int .i64 h.crop, .int .i64 3, .slice a2 N.length c2, .int .i64 a.per, .int .i64 h.wlo, .int .i64 h.whi] := by simp [cellsHep]
    have hTF : Turn (TurnH { S with heaps := H } B) W (w14.setCell ⟨B, 5, none⟩ (.slice (some ⟨gg, 0, none⟩) (H.length + 1) cap)) := (HT14.out.mono fun k _ e => .inr e).setCell (B := B) (.inl rfl) _ _
    have hBg : (some (⟨gg, 0, none⟩ : Addr)).map (·.block) ≠ some B := fun e => by
      rcases HAT2.out B e with h9 | h9
      · exact hBh h9
      · omega
    have hFin := push_hand (a := some ⟨gg, 0, none⟩) (c := cap) (y := ⟨a.other, h.crop, 3, a2, c2, N, a.per, h.wlo, h.whi⟩) HH12.out hTF (by
        have := KB14.out.set 5 (.slice (some ⟨gg, 0, none⟩) (H.length + 1) cap)
        show Blk _ _ #[_, _, _, _, _, .slice (some ⟨gg, 0, none⟩) (H ++ [_]).length cap, _, _] _
        rw [hla]
        exact this)
      (by
        rw [hfl, hla]
        exact Turn.row (X := fun k => k = B) ((Turn.of_below (X := fun k => k = B) (Below.refl _ w14)).setCell (B := B) rfl _ _) HO14.out (fun k e => by rw [show k = B from e]; exact hBg))
      HAT2.out HR12.out HA12.out hno
    go_end0
    refine ⟨.inl ⟨by rw [HV.out], rfl, _, ?_, hFin⟩, HBB12.out.trans (hTF.below (Nat.le_trans hbw hsz12) ?_)⟩
    · rw [HV.out]
      have hs : sameH (H ++ [⟨a.other, h.crop, 3, a2, c2, N, a.per, h.wlo, h.whi⟩]) (moveH S.heaps i (ld - ov) ++ [⟨a.other, h.crop, 3, none, 0, N, a.per, h.wlo, h.whi⟩]) := sameH.append HSA.out ⟨rfl, rfl, rfl, rfl, rfl, rfl, rfl⟩
      exact ⟨rfl, rfl, rfl, rfl, rfl, hs.1, hs.2⟩
    · intro k e
      rcases e with rfl | e
      · exact hbB
      · exact HGE.out k (rows_ha e)
  · have q6 : decide ((S.heaps.length : Int) < 16) = false := by simp [hov1]
    have HV := Lib.hid (HL1.out (by omega))
    clear hov0 hov1
    go_wp2_with fail
    refine (require_no 3 _).mono ?_
    rintro e w9 ⟨rfl, rfl⟩
    go_wp2_with fail
    exact ⟨rfl, ChoreSaid.err 3 HV.out (by decide) HBB7.out⟩

end Go.Proofs.YtfhalmlpnoepcaaGreat
