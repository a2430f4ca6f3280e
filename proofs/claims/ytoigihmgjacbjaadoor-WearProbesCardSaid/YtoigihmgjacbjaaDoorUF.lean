/- thatchref07.point, on: whether a point is one of an area's. No condition. -/
import Derived.Test.YtoigihmgjacbjaaDoorUE
import Derived.Test.YtoigihmgjacbjaaDoorVJ
set_option linter.unusedSimpArgs false
namespace Go.Proofs.YtoigihmgjacbjaaDoor
open Go.RowKit

theorem minF_neg (l : List Pnt) (p : Pnt) (pre : List (Fin l.length)) : minF l p pre < 0 ↔ ∃ k ∈ pre, (edgN l k.1).side p < 0 := by
  have key : ∀ (pre : List (Fin l.length)) (m : Int), pre.foldl (fun m k => min m ((edgN l k.1).side p)) m < 0 ↔ m < 0 ∨ ∃ k ∈ pre, (edgN l k.1).side p < 0 := by
    intro pre
    induction pre with
    | nil => intro m; simp
    | cons x t ih =>
      intro m
      simp only [List.foldl_cons, ih, List.mem_cons, exists_eq_or_imp]
      constructor
      · rintro (h | h)
        · by_cases hm : m < 0
          · exact .inl hm
          · exact .inr (.inl (by omega))
        · exact .inr (.inr h)
      · rintro (h | h | h)
        · exact .inl (by omega)
        · exact .inl (by omega)
        · exact .inr h
  unfold minF
  rw [key]
  simp
theorem insM_neg {l : List Pnt} {p : Pnt} (hp : pointB p = true) : insM l p < 0 ↔ ∃ k, k < l.length ∧ (edgN l k).side p < 0 := by
  unfold insM
  rw [if_pos hp, minF_neg]
  exact ⟨fun ⟨k, _, h⟩ => ⟨k.1, k.2, h⟩, fun ⟨k, hk, h⟩ => ⟨⟨k, hk⟩, List.mem_finRange _, h⟩⟩

set_option maxRecDepth 100000 in
set_option maxHeartbeats 8000000 in
theorem refPoint_any (pa : Option Addr) (pc : Nat) (ha : Option Addr) (hc : Nat) (l : List Pnt) (hs : List Hol) (p : Pnt) (w : World) (hl : IsPts w (.slice pa l.length pc) l) (hll : l.length ≤ 1000) (hok : okPts4 l) (hh : IsRow4 holC w ha hc hs) (hp : pointB p = true) :
    Calls Tryd.prog 75 #[.agg #[.slice pa l.length pc, .slice ha hs.length hc], .agg #[.int .i64 p.x, .int .i64 p.y]] w fun e w' => e = .returned (.bool (inAreaM l hs p)) ∧ Below w.heap.size w w' := by
  have k1 := (Blk.new w 25 #[.slice pa l.length pc, .slice ha hs.length hc]).alloc (.cells #[.int .i64 p.x, .int .i64 p.y] 45)
  have k2 := Blk.new (w.alloc (.cells #[.slice pa l.length pc, .slice ha hs.length hc] 25)) 45 #[.int .i64 p.x, .int .i64 p.y]
  rw [World.size_alloc] at k2
  have hb1 : Below w.heap.size w ((w.alloc (.cells #[.slice pa l.length pc, .slice ha hs.length hc] 25)).alloc (.cells #[.int .i64 p.x, .int .i64 p.y] 45)) := ((Below.refl _ w).alloc (Nat.le_refl _) _).alloc (by simp) _
  have HL := Lib.hid hl
  have HH := Lib.hid hh
  have HP := Lib.hid hp
  have HOK := Lib.hid hok
  have HN := Lib.hid hll
  have hlen := hh.len
  clear hl hh hp hok
  go_enter Tryd.func75, Tryd.ntmps75
  go_upto_region 1 with fail
  generalize ((w.alloc (.cells #[.slice pa l.length pc, .slice ha hs.length hc] 25)).alloc (.cells #[.int .i64 p.x, .int .i64 p.y] 45)) = w1 at *
  have HB1 := Lib.hid hb1
  have K1 := Lib.hid k1
  have K2 := Lib.hid k2
  clear k1 k2 hb1
  obtain ⟨a0, a1⟩ := (show w1.cell? ⟨w.heap.size, 0, none⟩ = some (.slice pa l.length pc) ∧ w1.cell? ⟨w.heap.size, 1, none⟩ = some (.slice ha hs.length hc) from ⟨K1.out.cell 0, K1.out.cell 1⟩)
  obtain ⟨p0, p1⟩ := pnt_cells K2.out
  have l1 := K1.out.lt
  have l2 := K2.out.lt
  go_wp2_with fail
  go_loopw [6] (fun s6 wr => ∃ j : Nat, j ≤ l.length ∧ s6 = .int .i64 j ∧ (∀ k, k < j → ¬ (edgN l k).side p < 0) ∧ Below w1.heap.size w1 wr) (fun i _ => l.length - (intOf i).toNat)
  case atStart => exact ⟨0, Nat.zero_le _, rfl, fun k hk => by omega, Below.refl _ _⟩
  case round =>
  clear a0 a1 p0 p1 l1 l2
  obtain ⟨j, hj, rfl, hall, hb⟩ := hrel
  obtain ⟨w3, rfl⟩ : ∃ w3 : World, w3 = wr := ⟨_, rfl⟩
  have HB3 := Lib.hid (HB1.out.trans (hb.mono HB1.out.size))
  have K13 := Lib.hid (K1.out.belowS hb)
  have K23 := Lib.hid (K2.out.belowS hb)
  have HB13 := Lib.hid hb
  have HALL := Lib.hid hall
  clear hall hb
  by_cases hlj : j < l.length
  · have hlj' : (j : Int) < (l.length : Int) := by omega
    have hj0 : (0 : Int) ≤ (j : Int) := Int.natCast_nonneg _
    have hjs : IntKind.i64.wrap ((j : Int) + 1) = ((j + 1 : Nat) : Int) := by rw [IntKind.wrap_i64]; omega
    obtain ⟨k, hk⟩ : ∃ k, k = (j + 1) % l.length := ⟨_, rfl⟩
    have hkl : k < l.length := by rw [hk]; exact Nat.mod_lt _ (by omega)
    have hq : l[j]? = some l[j] := List.getElem?_eq_getElem hlj
    have hr : l[k]? = some l[k] := List.getElem?_eq_getElem hkl
    obtain ⟨b, off, hea, hbl, hcap, hcx, y0, y1⟩ := pts_at (HL.out.below HB3.out) hq
    obtain ⟨b2, off2, hea2, _, _, _, v0, v1⟩ := pts_at (HL.out.below HB3.out) hr
    rw [hea] at hea2
    simp only [Option.some.injEq, Addr.mk.injEq, and_true] at hea2
    obtain ⟨rfl, rfl⟩ := hea2
    have HQQ := Lib.hid (HOK.out _ (List.getElem_mem hlj))
    have HRR := Lib.hid (HOK.out _ (List.getElem_mem hkl))
    have HED := Lib.hid (show edgN l j = ⟨l[j], l[k]⟩ by unfold edgN; rw [← hk, hq, hr]; rfl)
    have HLJ := Lib.hid hlj
    have hnz : ((l.length : Int) == 0) = false := by rw [beq_eq_false_iff_ne]; omega
    have hnz' : ¬ ((l.length : Int) = 0) := by omega
    have hne0 : ¬ (l = []) := fun e => by rw [e] at hlj; simp at hlj
    have hmd : ((j : Int) + 1).tmod (l.length : Int) = (k : Int) := by rw [Int.tmod_eq_emod_of_nonneg (by omega), hk, Int.natCast_emod, Int.natCast_add]; rfl
    have hmd' : ((j : Int) + 1) % (l.length : Int) = (k : Int) := by rw [hk, Int.natCast_emod, Int.natCast_add]; rfl
    have hk0 : (0 : Int) ≤ (k : Int) := Int.natCast_nonneg _
    have hkl' : (k : Int) < (l.length : Int) := by omega
    generalize l[j] = q at *
    generalize l[k] = r at *
    have HROW := Lib.hid (And.intro hbl (And.intro hcap hcx))
    subst hea
    have hst : ∀ w', Below w3.heap.size w3 w' → (fun w' : World => Below w3.heap.size w3 w' ∧ (w'.cell? ⟨w.heap.size, 0, none⟩ = some (.slice (some ⟨b, off, none⟩) l.length pc) ∧ w'.cell? ⟨w.heap.size, 1, none⟩ = some (.slice ha hs.length hc) ∧ w'.cell? ⟨w.heap.size + 1, 0, none⟩ = some (.int .i64 p.x) ∧ w'.cell? ⟨w.heap.size + 1, 1, none⟩ = some (.int .i64 p.y) ∧ w'.cell? ⟨b, off + j * 2, none⟩ = some (.int .i64 q.x) ∧ w'.cell? ⟨b, off + j * 2 + 1, none⟩ = some (.int .i64 q.y) ∧ w'.cell? ⟨b, off + k * 2, none⟩ = some (.int .i64 r.x) ∧ w'.cell? ⟨b, off + k * 2 + 1, none⟩ = some (.int .i64 r.y))) w' := fun w' hb => by
      have x1 := K13.out.belowS hb
      have x2 := K23.out.belowS hb
      have e : ∀ o, w'.cell? ⟨b, o, none⟩ = w3.cell? ⟨b, o, none⟩ := fun o => hb.cell (p := ⟨b, o, none⟩) HROW.out.1
      exact ⟨hb, x1.cell 0, x1.cell 1, x2.cell 0, x2.cell 1, (e _).trans y0, (e _).trans y1, (e _).trans v0, (e _).trans v1⟩
    have HST := Lib.hid hst
    clear hst y0 y1 v0 v1 hq hr hk hlj hj hkl
    go_upto_region 5 with fail
    have hx := HST.out w3.drew ((Below.refl _ w3).drew)
    refine wp_region_E 16 (fun w' : World => Below w3.heap.size w3 w' ∧ (w'.cell? ⟨w.heap.size, 0, none⟩ = some (.slice (some ⟨b, off, none⟩) l.length pc) ∧ w'.cell? ⟨w.heap.size, 1, none⟩ = some (.slice ha hs.length hc) ∧ w'.cell? ⟨w.heap.size + 1, 0, none⟩ = some (.int .i64 p.x) ∧ w'.cell? ⟨w.heap.size + 1, 1, none⟩ = some (.int .i64 p.y) ∧ w'.cell? ⟨b, off + j * 2, none⟩ = some (.int .i64 q.x) ∧ w'.cell? ⟨b, off + j * 2 + 1, none⟩ = some (.int .i64 q.y) ∧ w'.cell? ⟨b, off + k * 2, none⟩ = some (.int .i64 r.x) ∧ w'.cell? ⟨b, off + k * 2 + 1, none⟩ = some (.int .i64 r.y))) (by kernel_rfl) ?_
    refine E_takeR (i := 0) (oi := _) (v := ?vt10) rfl (by kernel_rfl) (by kernel_rfl) (by kernel_rfl) (by decide) (fun _ _ _ h => h) hx (Or.inl ⟨by rfl, ?yt10⟩) ?rt10
    case yt10 => (intro w' hSw; (try dsimp only at hSw); go_simp; try with_reducible rfl)
    try simp only [Act.put, List.getElem_toArray, List.getElem_cons_zero, List.getElem_cons_succ, List.setIfInBounds_toArray, List.set_cons_zero, List.set_cons_succ]
    refine E_takeR (i := 1) (oi := _) (v := ?vt11) rfl (by kernel_rfl) (by kernel_rfl) (by kernel_rfl) (by decide) (fun _ _ _ h => h) hx (Or.inl ⟨by rfl, ?yt11⟩) ?rt11
    case yt11 => (intro w' hSw; (try dsimp only at hSw); go_simp; try with_reducible rfl)
    try simp only [Act.put, List.getElem_toArray, List.getElem_cons_zero, List.getElem_cons_succ, List.setIfInBounds_toArray, List.set_cons_zero, List.set_cons_succ]
    refine E_takeR (i := 2) (oi := _) (v := ?vt12) rfl (by kernel_rfl) (by kernel_rfl) (by kernel_rfl) (by decide) (fun _ _ _ h => h) hx (Or.inl ⟨by rfl, ?yt12⟩) ?rt12
    case yt12 => (intro w' hSw; (try dsimp only at hSw); go_simp; try with_reducible rfl)
    try simp only [Act.put, List.getElem_toArray, List.getElem_cons_zero, List.getElem_cons_succ, List.setIfInBounds_toArray, List.set_cons_zero, List.set_cons_succ]
    refine E_takeR (i := 3) (oi := _) (v := ?vt13) rfl (by kernel_rfl) (by kernel_rfl) (by kernel_rfl) (by decide) (fun _ _ _ h => h) hx (Or.inl ⟨by rfl, ?yt13⟩) ?rt13
    case yt13 => (intro w' hSw; (try dsimp only at hSw); go_simp; try with_reducible rfl)
    try simp only [Act.put, List.getElem_toArray, List.getElem_cons_zero, List.getElem_cons_succ, List.setIfInBounds_toArray, List.set_cons_zero, List.set_cons_succ]
    refine E_takeR (i := 4) (oi := _) (v := ?vt14) rfl (by kernel_rfl) (by kernel_rfl) (by kernel_rfl) (by decide) (fun _ _ _ h => h) hx (Or.inl ⟨by rfl, ?yt14⟩) ?rt14
    case yt14 => (intro w' hSw; (try dsimp only at hSw); go_simp; try with_reducible rfl)
    try simp only [Act.put, List.getElem_toArray, List.getElem_cons_zero, List.getElem_cons_succ, List.setIfInBounds_toArray, List.set_cons_zero, List.set_cons_succ]
    refine E_takeR (i := 5) (oi := _) (v := ?vt15) rfl (by kernel_rfl) (by kernel_rfl) (by kernel_rfl) (by decide) (fun _ _ _ h => h) hx (Or.inl ⟨by rfl, ?yt15⟩) ?rt15
    case yt15 => (intro w' hSw; (try dsimp only at hSw); go_simp; try with_reducible rfl)
    try simp only [Act.put, List.getElem_toArray, List.getElem_cons_zero, List.getElem_cons_succ, List.setIfInBounds_toArray, List.set_cons_zero, List.set_cons_succ]
    refine E_takeR (i := 6) (oi := _) (v := ?vt16) rfl (by kernel_rfl) (by kernel_rfl) (by kernel_rfl) (by decide) (fun _ _ _ h => h) hx (Or.inl ⟨by rfl, ?yt16⟩) ?rt16
    case yt16 => (intro w' hSw; (try dsimp only at hSw); go_simp; try with_reducible rfl)
    try simp only [Act.put, List.getElem_toArray, List.getElem_cons_zero, List.getElem_cons_succ, List.setIfInBounds_toArray, List.set_cons_zero, List.set_cons_succ]
    refine E_takeR (i := 7) (oi := _) (v := ?vt17) rfl (by kernel_rfl) (by kernel_rfl) (by kernel_rfl) (by decide) (fun _ _ _ h => h) hx (Or.inl ⟨by rfl, ?yt17⟩) ?rt17
    case yt17 => (intro w' hSw; (try dsimp only at hSw); go_simp; try with_reducible rfl)
    try simp only [Act.put, List.getElem_toArray, List.getElem_cons_zero, List.getElem_cons_succ, List.setIfInBounds_toArray, List.set_cons_zero, List.set_cons_succ]
    refine E_takeR (i := 8) (oi := _) (v := ?vt18) rfl (by kernel_rfl) (by kernel_rfl) (by kernel_rfl) (by decide) (fun _ _ _ h => h) hx (Or.inl ⟨by rfl, ?yt18⟩) ?rt18
    case yt18 => (intro w' hSw; (try dsimp only at hSw); go_simp; try with_reducible rfl)
    try simp only [Act.put, List.getElem_toArray, List.getElem_cons_zero, List.getElem_cons_succ, List.setIfInBounds_toArray, List.set_cons_zero, List.set_cons_succ]
    refine E_takeR (i := 9) (oi := _) (v := ?vt19) rfl (by kernel_rfl) (by kernel_rfl) (by kernel_rfl) (by decide) (fun _ _ _ h => h) hx (Or.inl ⟨by rfl, ?yt19⟩) ?rt19
    case yt19 => (intro w' hSw; (try dsimp only at hSw); go_simp; try with_reducible rfl)
    try simp only [Act.put, List.getElem_toArray, List.getElem_cons_zero, List.getElem_cons_succ, List.setIfInBounds_toArray, List.set_cons_zero, List.set_cons_succ]
    refine E_takeR (i := 10) (oi := _) (v := ?vt20) rfl (by kernel_rfl) (by kernel_rfl) (by kernel_rfl) (by decide) (fun _ _ _ h => h) hx (Or.inl ⟨by rfl, ?yt20⟩) ?rt20
    case yt20 => (intro w' hSw; (try dsimp only at hSw); go_simp; try with_reducible rfl)
    try simp only [Act.put, List.getElem_toArray, List.getElem_cons_zero, List.getElem_cons_succ, List.setIfInBounds_toArray, List.set_cons_zero, List.set_cons_succ]
    refine E_takeR (i := 11) (oi := _) (v := ?vt21) rfl (by kernel_rfl) (by kernel_rfl) (by kernel_rfl) (by decide) (fun _ _ _ h => h) hx (Or.inl ⟨by rfl, ?yt21⟩) ?rt21
    case yt21 => (intro w' hSw; (try dsimp only at hSw); go_simp; try with_reducible rfl)
    try simp only [Act.put, List.getElem_toArray, List.getElem_cons_zero, List.getElem_cons_succ, List.setIfInBounds_toArray, List.set_cons_zero, List.set_cons_succ]
    refine E_takeR (i := 12) (oi := _) (v := ?vt22) rfl (by kernel_rfl) (by kernel_rfl) (by kernel_rfl) (by decide) (fun _ _ _ h => h) hx (Or.inl ⟨by rfl, ?yt22⟩) ?rt22
    case yt22 => (intro w' hSw; (try dsimp only at hSw); go_simp; try with_reducible rfl)
    try simp only [Act.put, List.getElem_toArray, List.getElem_cons_zero, List.getElem_cons_succ, List.setIfInBounds_toArray, List.set_cons_zero, List.set_cons_succ]
    refine E_takeR (i := 13) (oi := _) (v := ?vt23) rfl (by kernel_rfl) (by kernel_rfl) (by kernel_rfl) (by decide) (fun _ _ _ h => h) hx (Or.inl ⟨by rfl, ?yt23⟩) ?rt23
    case yt23 => (intro w' hSw; (try dsimp only at hSw); go_simp; try with_reducible rfl)
    try simp only [Act.put, List.getElem_toArray, List.getElem_cons_zero, List.getElem_cons_succ, List.setIfInBounds_toArray, List.set_cons_zero, List.set_cons_succ]
    refine E_step (i := 14) (o := _) (by kernel_rfl) rfl (fun K hK => ?_)
    go_simp
    refine (refLeft_any q r p HQQ.out HRR.out HP.out _).mono ?_
    rintro e w4 ⟨rfl, hb4⟩
    (try dsimp only)
    have hb34 : Below w3.heap.size w3 w4 := hx.1.trans (hb4.mono hx.1.size)
    refine hK.out _ _ (fun _ => HST.out w4 hb34) ?_
    clear hK K
    try simp only [Act.put, List.getElem_toArray, List.getElem_cons_zero, List.getElem_cons_succ, List.setIfInBounds_toArray, List.set_cons_zero, List.set_cons_succ]
    have hx4 := HST.out w4 hb34
    refine E_takeR (i := 15) (oi := _) (v := ?vt24) rfl (by kernel_rfl) (by kernel_rfl) (by kernel_rfl) (by decide) (fun _ _ _ h => h) hx4 (Or.inl ⟨by rfl, ?yt24⟩) ?rt24
    case yt24 => (intro w' hSw; (try dsimp only at hSw); go_simp; try with_reducible rfl)
    try simp only [Act.put, List.getElem_toArray, List.getElem_cons_zero, List.getElem_cons_succ, List.setIfInBounds_toArray, List.set_cons_zero, List.set_cons_succ]
    refine E_done (by kernel_rfl) ?_ _
    have HB4 := Lib.hid (HB3.out.trans (hb34.mono HB3.out.size))
    have HB14 := Lib.hid (HB13.out.trans (hb34.mono HB13.out.size))
    clear hx hx4 hb4 hb34
    rw [← HED.out]
    by_cases hsd : (edgN l j).side p < 0
    · have HV := Lib.hid (show inAreaM l hs p = false by
        have h : insM l p < 0 := (insM_neg HP.out).2 ⟨j, HLJ.out, hsd⟩
        unfold inAreaM
        rw [decide_eq_true h]
        rfl)
      go_wp2_with fail
      go_ret
      exact ⟨by rw [HV.out]; rfl, HB4.out⟩
    · have HSD := Lib.hid hsd
      go_wp2_with fail
      exact ⟨⟨j + 1, by have := HLJ.out; omega, by simp, fun i hi => by
        by_cases hij : i < j
        · exact HALL.out i hij
        · obtain rfl : i = j := by omega
          exact HSD.out, HB14.out⟩, by have := HLJ.out; simp [intOf]; omega⟩
  obtain rfl : j = l.length := by omega
  have hlj' : ¬ (l.length : Int) < (l.length : Int) := by omega
  have HV := Lib.hid (show inAreaM l hs p = hs.all fun h => !inHole p h by
    have h : ¬ insM l p < 0 := fun h => by
      obtain ⟨k, hk, h⟩ := (insM_neg HP.out).1 h
      exact HALL.out k hk h
    unfold inAreaM
    rw [decide_eq_false h]
    rfl)
  clear hlj hj
  obtain ⟨a0, a1⟩ := (show w3.cell? ⟨w.heap.size, 0, none⟩ = some (.slice pa l.length pc) ∧ w3.cell? ⟨w.heap.size, 1, none⟩ = some (.slice ha hs.length hc) from ⟨K13.out.cell 0, K13.out.cell 1⟩)
  obtain ⟨p0, p1⟩ := pnt_cells K23.out
  have l1 := K13.out.lt
  have l2 := K23.out.lt
  go_wp2_with fail
  go_loopw [7, 8] (fun s7 _ wr => ∃ j : Nat, j ≤ hs.length ∧ s7 = .int .i64 j ∧ ((hs.take j).all fun h => !inHole p h) = true ∧ Below w3.heap.size w3 wr) (fun i _ _ => hs.length - (intOf i).toNat)
  case atStart => exact ⟨0, Nat.zero_le _, rfl, by simp, Below.refl _ _⟩
  case round =>
  clear a0 a1 p0 p1 l1 l2
  obtain ⟨j, hj, rfl, hall, hb⟩ := hrel
  obtain ⟨w5, rfl⟩ : ∃ w5 : World, w5 = wr := ⟨_, rfl⟩
  have HB5 := Lib.hid (HB3.out.trans (hb.mono HB3.out.size))
  have HB35 := Lib.hid hb
  have K15 := Lib.hid (K13.out.belowS hb)
  have K25 := Lib.hid (K23.out.belowS hb)
  have HAL := Lib.hid hall
  clear hall hb
  by_cases hlj : j < hs.length
  rotate_left
  · obtain rfl : j = hs.length := by omega
    have hlj' : ¬ (hs.length : Int) < (hs.length : Int) := by omega
    have HA := Lib.hid (show (hs.all fun h => !inHole p h) = true by have := HAL.out; rwa [List.take_of_length_le (Nat.le_refl _)] at this)
    clear hlj hj
    obtain ⟨a0, a1⟩ := (show w5.cell? ⟨w.heap.size, 0, none⟩ = some (.slice pa l.length pc) ∧ w5.cell? ⟨w.heap.size, 1, none⟩ = some (.slice ha hs.length hc) from ⟨K15.out.cell 0, K15.out.cell 1⟩)
    obtain ⟨p0, p1⟩ := pnt_cells K25.out
    have l1 := K15.out.lt
    have l2 := K25.out.lt
    go_wp2_with fail
    go_ret
    exact ⟨by rw [HV.out, HA.out]; rfl, HB5.out⟩
  have hlj' : (j : Int) < (hs.length : Int) := by omega
  have hj0 : (0 : Int) ≤ (j : Int) := Int.natCast_nonneg _
  have hjs : IntKind.i64.wrap ((j : Int) + 1) = ((j + 1 : Nat) : Int) := by rw [IntKind.wrap_i64]; omega
  have hq : hs[j]? = some hs[j] := List.getElem?_eq_getElem hlj
  obtain ⟨b, off, hea, hbl, hcap, hcx, x0, x1, x2, x3⟩ := (HH.out.below HB5.out).at hq
  have HA := Lib.hid (all_take_succ hs (fun h => !inHole p h) j _ hq)
  have HX := Lib.hid (fun h : inHole p hs[j] = true => show (hs.all fun h => !inHole p h) = false from by
    rw [List.all_eq_false]
    exact ⟨_, List.getElem_mem hlj, by simp [h]⟩)
  generalize hs[j] = h at *
  simp only [holC, List.getElem?_toArray, List.getElem?_cons_zero, List.getElem?_cons_succ] at x0 x1 x2 x3
  have HLJ := Lib.hid hlj
  obtain ⟨a0, a1⟩ := (show w5.cell? ⟨w.heap.size, 0, none⟩ = some (.slice pa l.length pc) ∧ w5.cell? ⟨w.heap.size, 1, none⟩ = some (.slice ha hs.length hc) from ⟨K15.out.cell 0, K15.out.cell 1⟩)
  obtain ⟨p0, p1⟩ := pnt_cells K25.out
  have l1 := K15.out.lt
  have l2 := K25.out.lt
  subst hea
  have kH := Blk.new w5 64 #[.int .i64 h.a.x, .int .i64 h.a.y, .int .i64 h.b.x, .int .i64 h.b.y]
  have hb6 : Below w5.heap.size w5 (w5.alloc (.cells #[.int .i64 h.a.x, .int .i64 h.a.y, .int .i64 h.b.x, .int .i64 h.b.y] 64)) := (Below.refl _ w5).alloc (Nat.le_refl _) _
  have HB6 := Lib.hid (HB5.out.trans (hb6.mono HB5.out.size))
  have HB36 := Lib.hid (HB35.out.trans (hb6.mono HB35.out.size))
  have K26 := Lib.hid (K25.out.belowS hb6)
  clear hq hlj hj hb6
  go_upto_region 11 with fail
  clear a0 a1 p0 p1 l1 l2
  clear x0 x1 x2 x3 hbl hcap hcx
  generalize w5.alloc (.cells #[.int .i64 h.a.x, .int .i64 h.a.y, .int .i64 h.b.x, .int .i64 h.b.y] 64) = w6 at *
  obtain ⟨x0, x1, x2, x3⟩ := (show w6.cell? ⟨w5.heap.size, 0, none⟩ = some (.int .i64 h.a.x) ∧ w6.cell? ⟨w5.heap.size, 1, none⟩ = some (.int .i64 h.a.y) ∧ w6.cell? ⟨w5.heap.size, 2, none⟩ = some (.int .i64 h.b.x) ∧ w6.cell? ⟨w5.heap.size, 3, none⟩ = some (.int .i64 h.b.y) from ⟨kH.cell 0, kH.cell 1, kH.cell 2, kH.cell 3⟩)
  have lh := kH.lt
  clear kH
  obtain ⟨p0, p1⟩ := pnt_cells K26.out
  have l2 := K26.out.lt
  by_cases c0 : h.a.x < p.x
  rotate_left
  · have HIH := Lib.hid (show inHole p h = false by simp [inHole]; omega)
    go_wp2_with fail
    exact ⟨⟨j + 1, by have := HLJ.out; omega, by simp, by rw [HA.out, HAL.out, HIH.out]; rfl, HB36.out⟩, by have := HLJ.out; simp [intOf]; omega⟩
  by_cases c1 : p.x < h.b.x
  rotate_left
  · have HIH := Lib.hid (show inHole p h = false by simp [inHole]; omega)
    go_wp2_with fail
    exact ⟨⟨j + 1, by have := HLJ.out; omega, by simp, by rw [HA.out, HAL.out, HIH.out]; rfl, HB36.out⟩, by have := HLJ.out; simp [intOf]; omega⟩
  by_cases c2 : h.a.y < p.y
  rotate_left
  · have HIH := Lib.hid (show inHole p h = false by simp [inHole]; omega)
    go_wp2_with fail
    exact ⟨⟨j + 1, by have := HLJ.out; omega, by simp, by rw [HA.out, HAL.out, HIH.out]; rfl, HB36.out⟩, by have := HLJ.out; simp [intOf]; omega⟩
  by_cases c3 : p.y < h.b.y
  rotate_left
  · have HIH := Lib.hid (show inHole p h = false by simp [inHole]; omega)
    go_wp2_with fail
    exact ⟨⟨j + 1, by have := HLJ.out; omega, by simp, by rw [HA.out, HAL.out, HIH.out]; rfl, HB36.out⟩, by have := HLJ.out; simp [intOf]; omega⟩
  have HIH := Lib.hid (show inHole p h = true by simp [inHole]; omega)
  go_wp2_with fail
  go_ret
  exact ⟨by rw [HV.out, HX.out HIH.out]; rfl, HB6.out⟩

set_option maxRecDepth 100000 in
set_option maxHeartbeats 8000000 in
theorem refOn_any (pa : Option Addr) (pc : Nat) (ha : Option Addr) (hc : Nat) (l : List Pnt) (hs : List Hol) (p : Pnt) (w : World) (hl : IsPts w (.slice pa l.length pc) l) (hll : l.length ≤ 1000) (hok : okPts4 l) (hh : IsRow4 holC w ha hc hs) :
    Calls Tryd.prog 49 #[.agg #[.slice pa l.length pc, .slice ha hs.length hc], .agg #[.int .i64 p.x, .int .i64 p.y]] w fun e w' => e = .returned (.bool (inAreaM l hs p)) ∧ Below w.heap.size w w' := by
  have k1 := (Blk.new w 25 #[.slice pa l.length pc, .slice ha hs.length hc]).alloc (.cells #[.int .i64 p.x, .int .i64 p.y] 45)
  have k2 := Blk.new (w.alloc (.cells #[.slice pa l.length pc, .slice ha hs.length hc] 25)) 45 #[.int .i64 p.x, .int .i64 p.y]
  rw [World.size_alloc] at k2
  have hb1 : Below w.heap.size w ((w.alloc (.cells #[.slice pa l.length pc, .slice ha hs.length hc] 25)).alloc (.cells #[.int .i64 p.x, .int .i64 p.y] 45)) := ((Below.refl _ w).alloc (Nat.le_refl _) _).alloc (by simp) _
  have HL := Lib.hid hl
  have HH := Lib.hid hh
  have HOK := Lib.hid hok
  have HN := Lib.hid hll
  have HNO := Lib.hid (show pointB p = false → inAreaM l hs p = false from fun h => by
    unfold inAreaM insM
    rw [if_neg (by rw [h]; decide)]
    rfl)
  clear hl hh hok hll
  go_enter Tryd.func49, Tryd.ntmps49
  go_upto_region 1 with fail
  generalize ((w.alloc (.cells #[.slice pa l.length pc, .slice ha hs.length hc] 25)).alloc (.cells #[.int .i64 p.x, .int .i64 p.y] 45)) = w1 at *
  have HB1 := Lib.hid hb1
  have K1 := Lib.hid k1
  have K2 := Lib.hid k2
  clear k1 k2 hb1
  obtain ⟨a0, a1⟩ := (show w1.cell? ⟨w.heap.size, 0, none⟩ = some (.slice pa l.length pc) ∧ w1.cell? ⟨w.heap.size, 1, none⟩ = some (.slice ha hs.length hc) from ⟨K1.out.cell 0, K1.out.cell 1⟩)
  obtain ⟨p0, p1⟩ := pnt_cells K2.out
  have l1 := K1.out.lt
  have l2 := K2.out.lt
  go_wp2_with fail
  refine (refIn_any _ _ _ _).mono ?_
  rintro e w2 ⟨rfl, rfl⟩
  obtain ⟨b1, hb1⟩ : ∃ b1, isFromB p.x 0 400 = b1 := ⟨_, rfl⟩
  rw [hb1]
  cases b1 with
  | false =>
    have HV := Lib.hid (HNO.out (by unfold pointB; rw [hb1]; rfl))
    go_wp2_with fail
    go_ret
    exact ⟨by rw [HV.out]; rfl, HB1.out⟩
  | true =>
  have HX1 := Lib.hid hb1
  clear hb1
  go_wp2_with fail
  refine (refIn_any _ _ _ _).mono ?_
  rintro e w2 ⟨rfl, rfl⟩
  obtain ⟨b2, hb2⟩ : ∃ b2, isFromB p.y 0 400 = b2 := ⟨_, rfl⟩
  rw [hb2]
  cases b2 with
  | false =>
    have HV := Lib.hid (HNO.out (by unfold pointB; rw [hb2, HX1.out]; rfl))
    go_wp2_with fail
    go_ret
    exact ⟨by rw [HV.out]; rfl, HB1.out⟩
  | true =>
  have HPB := Lib.hid (show pointB p = true by unfold pointB; rw [hb2, HX1.out]; rfl)
  clear hb2
  go_wp2_with fail
  refine (refPoint_any pa pc ha hc l hs p _ (HL.out.below HB1.out) HN.out HOK.out (HH.out.below HB1.out) HPB.out).mono ?_
  rintro e w3 ⟨rfl, hb⟩
  have HB3 := Lib.hid (HB1.out.trans (hb.mono HB1.out.size))
  obtain ⟨b3, hb3⟩ : ∃ b3, inAreaM l hs p = b3 := ⟨_, rfl⟩
  rw [hb3]
  have HV := Lib.hid hb3
  clear hb hb3
  clear a0 a1 p0 p1 l1 l2
  go_wp2_with fail
  go_ret
  exact ⟨by rw [HV.out]; rfl, HB3.out⟩
end Go.Proofs.YtoigihmgjacbjaaDoor
