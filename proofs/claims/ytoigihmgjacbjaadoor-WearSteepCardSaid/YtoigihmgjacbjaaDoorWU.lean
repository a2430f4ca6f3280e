/- What is required of any skin: it returns, or panics with the skin's first error. No condition but the package's variable. -/
import Derived.Test.YtoigihmgjacbjaaDoorWT
set_option linter.unusedSimpArgs false
namespace Go.Proofs.YtoigihmgjacbjaaDoor
open Go.RowKit

def ordB : List Mrk → Bool
  | a :: b :: t => decide (pcmp a.at_ b.at_ < 0) && ordB (b :: t)
  | _ => true
theorem ordB_iff : ∀ l : List Mrk, ordB l = true ↔ ∀ (i : Nat) (a b : Mrk), l[i]? = some a → l[i + 1]? = some b → pcmp a.at_ b.at_ < 0
  | [] => by simp [ordB]
  | [a] => by simp [ordB]
  | a :: b :: t => by
    simp only [ordB, Bool.and_eq_true, decide_eq_true_eq, ordB_iff (b :: t)]
    constructor
    · rintro ⟨h1, h2⟩ i x y hx hy
      cases i with
      | zero =>
        simp at hx hy
        subst hx hy
        exact h1
      | succ i => exact h2 i x y (by simpa using hx) (by simpa using hy)
    · intro h
      exact ⟨h 0 a b rfl rfl, fun i x y hx hy => h (i + 1) x y (by simpa using hx) (by simpa using hy)⟩
set_option maxRecDepth 100000 in
set_option maxHeartbeats 8000000 in
theorem areInOrder_any (ma : Option Addr) (mc : Nat) (ms : List Mrk) (w : World) (hm : IsRow4 mrkC w ma mc ms) :
    Calls Tryd.prog 66 #[.slice ma ms.length mc, .func (.func 67) #[] #[]] w fun e w' => e = .returned (.bool (ordB ms)) ∧ Below w.heap.size w w' := by
  have HM := Lib.hid hm
  have hlen := hm.len
  clear hm
  go_enter Tryd.func66, Tryd.ntmps66
  go_wp2
  go_loopw [5] (fun s5 wr => ∃ k j : Nat, j = k + 1 ∧ s5 = .int .i64 j ∧ (∀ (i : Nat) (a b : Mrk), i < k → ms[i]? = some a → ms[i + 1]? = some b → pcmp a.at_ b.at_ < 0) ∧ Below w.heap.size w wr) (fun i _ => ms.length - (intOf i).toNat)
  case atStart => exact ⟨0, 1, rfl, rfl, fun i a b h => by omega, Below.refl _ _⟩
  case round =>
  obtain ⟨k, j, hjk, rfl, hord, hb3⟩ := hrel
  obtain ⟨w3, rfl⟩ : ∃ w3 : World, w3 = wr := ⟨_, rfl⟩
  by_cases hlj : j < ms.length
  rotate_left
  · have hlj' : ¬ (j : Int) < (ms.length : Int) := by omega
    have HV := Lib.hid (show ordB ms = true from (ordB_iff ms).2 fun i a b ha hb => hord i a b (by
      have := (List.getElem?_eq_some_iff.1 hb).1
      omega) ha hb)
    have HB3 := Lib.hid hb3
    clear hlj hord hb3
    go_wp2_with fail
    go_ret
    exact ⟨by rw [HV.out]; rfl, HB3.out⟩
  have hlj' : (j : Int) < (ms.length : Int) := by omega
  have hkj' : (k : Int) < (ms.length : Int) := by omega
  have hk0 : (0 : Int) ≤ (k : Int) := Int.natCast_nonneg _
  have hjs : IntKind.i64.wrap ((j : Int) + 1) = ((j + 1 : Nat) : Int) := by rw [IntKind.wrap_i64]; omega
  have hsub : IntKind.i64.wrap ((j : Int) - 1) = (k : Int) := by rw [IntKind.wrap_i64]; omega
  have hq : ms[j]? = some ms[j] := List.getElem?_eq_getElem hlj
  have hqk : ms[k]? = some (ms[k]'(by omega)) := List.getElem?_eq_getElem (by omega)
  obtain ⟨b, off, hea, hbl, hcap, hcx, y0, y1, y2, y3⟩ := (HM.out.below hb3).at hq
  obtain ⟨b', off', hea', _, _, _, x0, x1, x2, x3⟩ := (HM.out.below hb3).at hqk
  rw [hea] at hea'
  simp only [Option.some.injEq, Addr.mk.injEq, and_true] at hea'
  obtain ⟨rfl, rfl⟩ := hea'
  have HQ := Lib.hid hq
  have HQK := Lib.hid hqk
  generalize ms[j] = d at *
  generalize (ms[k]'(by omega)) = a at *
  simp only [mrkC, List.getElem?_toArray, List.getElem?_cons_zero, List.getElem?_cons_succ] at x0 x1 x2 x3 y0 y1 y2 y3
  subst hea
  have HJK := Lib.hid hjk
  have HORD := Lib.hid hord
  have HB3 := Lib.hid hb3
  have HLJ := Lib.hid hlj
  have hst : ∀ w', Below w3.heap.size w3 w' → (fun w' : World => Below w3.heap.size w3 w' ∧ (w'.cell? ⟨b, off + k * 4, none⟩ = some (.int .i64 a.at_.x) ∧ w'.cell? ⟨b, off + k * 4 + 1, none⟩ = some (.int .i64 a.at_.y) ∧ w'.cell? ⟨b, off + k * 4 + 2, none⟩ = some (.int .i64 a.th.lo) ∧ w'.cell? ⟨b, off + k * 4 + 3, none⟩ = some (.int .i64 a.th.hi) ∧ w'.cell? ⟨b, off + j * 4, none⟩ = some (.int .i64 d.at_.x) ∧ w'.cell? ⟨b, off + j * 4 + 1, none⟩ = some (.int .i64 d.at_.y) ∧ w'.cell? ⟨b, off + j * 4 + 2, none⟩ = some (.int .i64 d.th.lo) ∧ w'.cell? ⟨b, off + j * 4 + 3, none⟩ = some (.int .i64 d.th.hi))) w' := fun w' hb => by
    have c : ∀ i, w'.cell? ⟨b, i, none⟩ = w3.cell? ⟨b, i, none⟩ := fun i => hb.cell (p := ⟨b, i, none⟩) hbl
    exact ⟨hb, (c _).trans x0, (c _).trans x1, (c _).trans x2, (c _).trans x3, (c _).trans y0, (c _).trans y1, (c _).trans y2, (c _).trans y3⟩
  have HSTE := Lib.hid hst
  clear hq hqk hord hb3 hlj hjk hst x0 x1 x2 x3 y0 y1 y2 y3
  go_upto_region 4 with fail
  have hx := HSTE.out w3.drew ((Below.refl _ w3).drew)
  refine wp_region_E 12 (fun w' : World => Below w3.heap.size w3 w' ∧ (w'.cell? ⟨b, off + k * 4, none⟩ = some (.int .i64 a.at_.x) ∧ w'.cell? ⟨b, off + k * 4 + 1, none⟩ = some (.int .i64 a.at_.y) ∧ w'.cell? ⟨b, off + k * 4 + 2, none⟩ = some (.int .i64 a.th.lo) ∧ w'.cell? ⟨b, off + k * 4 + 3, none⟩ = some (.int .i64 a.th.hi) ∧ w'.cell? ⟨b, off + j * 4, none⟩ = some (.int .i64 d.at_.x) ∧ w'.cell? ⟨b, off + j * 4 + 1, none⟩ = some (.int .i64 d.at_.y) ∧ w'.cell? ⟨b, off + j * 4 + 2, none⟩ = some (.int .i64 d.th.lo) ∧ w'.cell? ⟨b, off + j * 4 + 3, none⟩ = some (.int .i64 d.th.hi))) (by kernel_rfl) ?_
  refine E_takeR (i := 0) (oi := _) (v := ?vt10) rfl (by kernel_rfl) (by kernel_rfl) (by kernel_rfl) (by decide) (fun _ _ _ h => h) hx (Or.inl ⟨by rfl, ?yt10⟩) ?rt10
  case yt10 => (intro w' hSw; (try dsimp only at hSw); go_simp; try with_reducible rfl)
  try simp only [Act.put, List.getElem_toArray, List.getElem_cons_zero, List.getElem_cons_succ, List.setIfInBounds_toArray, List.set_cons_zero, List.set_cons_succ]
  refine E_takeR (i := 1) (oi := _) (v := ?vt11) rfl (by kernel_rfl) (by kernel_rfl) (by kernel_rfl) (by decide) (fun _ _ _ h => h) hx (Or.inl ⟨by rfl, ?yt11⟩) ?rt11
  case yt11 => (intro w' hSw; (try dsimp only at hSw); go_simp; try with_reducible rfl)
  try simp only [Act.put, List.getElem_toArray, List.getElem_cons_zero, List.getElem_cons_succ, List.setIfInBounds_toArray, List.set_cons_zero, List.set_cons_succ]
  refine E_takeR (i := 2) (oi := _) (v := ?vt12) rfl (by kernel_rfl) (by kernel_rfl) (by kernel_rfl) (by decide) (fun _ _ _ h => h) hx (Or.inl ⟨by rfl, ?yt12⟩) ?rt12
  case yt12 => (intro w' hSw; (try dsimp only at hSw); go_simp; try with_reducible rfl)
  try simp only [Act.put, List.getElem_toArray, List.getElem_cons_zero, List.getElem_cons_succ, List.setIfInBounds_toArray, List.set_cons_zero, List.set_cons_succ]
  refine E_takeR (i := 3) (oi := _) (v := ?vt13) rfl (by kernel_rfl) (by kernel_rfl) (by kernel_rfl) (by decide) (fun _ _ _ h => h) hx (Or.inl ⟨by rfl, ?yt13⟩) ?rt13
  case yt13 => (intro w' hSw; (try dsimp only at hSw); go_simp; try with_reducible rfl)
  try simp only [Act.put, List.getElem_toArray, List.getElem_cons_zero, List.getElem_cons_succ, List.setIfInBounds_toArray, List.set_cons_zero, List.set_cons_succ]
  refine E_takeR (i := 4) (oi := _) (v := ?vt14) rfl (by kernel_rfl) (by kernel_rfl) (by kernel_rfl) (by decide) (fun _ _ _ h => h) hx (Or.inl ⟨by rfl, ?yt14⟩) ?rt14
  case yt14 => (intro w' hSw; (try dsimp only at hSw); go_simp; try with_reducible rfl)
  try simp only [Act.put, List.getElem_toArray, List.getElem_cons_zero, List.getElem_cons_succ, List.setIfInBounds_toArray, List.set_cons_zero, List.set_cons_succ]
  refine E_takeR (i := 5) (oi := _) (v := ?vt15) rfl (by kernel_rfl) (by kernel_rfl) (by kernel_rfl) (by decide) (fun _ _ _ h => h) hx (Or.inl ⟨by rfl, ?yt15⟩) ?rt15
  case yt15 => (intro w' hSw; (try dsimp only at hSw); go_simp; try with_reducible rfl)
  try simp only [Act.put, List.getElem_toArray, List.getElem_cons_zero, List.getElem_cons_succ, List.setIfInBounds_toArray, List.set_cons_zero, List.set_cons_succ]
  refine E_takeR (i := 6) (oi := _) (v := ?vt16) rfl (by kernel_rfl) (by kernel_rfl) (by kernel_rfl) (by decide) (fun _ _ _ h => h) hx (Or.inl ⟨by rfl, ?yt16⟩) ?rt16
  case yt16 => (intro w' hSw; (try dsimp only at hSw); go_simp; try with_reducible rfl)
  try simp only [Act.put, List.getElem_toArray, List.getElem_cons_zero, List.getElem_cons_succ, List.setIfInBounds_toArray, List.set_cons_zero, List.set_cons_succ]
  refine E_takeR (i := 7) (oi := _) (v := ?vt17) rfl (by kernel_rfl) (by kernel_rfl) (by kernel_rfl) (by decide) (fun _ _ _ h => h) hx (Or.inl ⟨by rfl, ?yt17⟩) ?rt17
  case yt17 => (intro w' hSw; (try dsimp only at hSw); go_simp; try with_reducible rfl)
  try simp only [Act.put, List.getElem_toArray, List.getElem_cons_zero, List.getElem_cons_succ, List.setIfInBounds_toArray, List.set_cons_zero, List.set_cons_succ]
  refine E_takeR (i := 8) (oi := _) (v := ?vt18) rfl (by kernel_rfl) (by kernel_rfl) (by kernel_rfl) (by decide) (fun _ _ _ h => h) hx (Or.inl ⟨by rfl, ?yt18⟩) ?rt18
  case yt18 => (intro w' hSw; (try dsimp only at hSw); go_simp; try with_reducible rfl)
  try simp only [Act.put, List.getElem_toArray, List.getElem_cons_zero, List.getElem_cons_succ, List.setIfInBounds_toArray, List.set_cons_zero, List.set_cons_succ]
  refine E_takeR (i := 9) (oi := _) (v := ?vt19) rfl (by kernel_rfl) (by kernel_rfl) (by kernel_rfl) (by decide) (fun _ _ _ h => h) hx (Or.inl ⟨by rfl, ?yt19⟩) ?rt19
  case yt19 => (intro w' hSw; (try dsimp only at hSw); go_simp; try with_reducible rfl)
  try simp only [Act.put, List.getElem_toArray, List.getElem_cons_zero, List.getElem_cons_succ, List.setIfInBounds_toArray, List.set_cons_zero, List.set_cons_succ]
  refine E_step (i := 10) (o := _) (by kernel_rfl) rfl (fun K hK => ?_)
  go_simp
  refine (compareMarks_any a d _).mono ?_
  rintro e w4 ⟨rfl, hb4⟩
  (try dsimp only)
  have hb34 : Below w3.heap.size w3 w4 := hx.1.trans (hb4.mono hx.1.size)
  refine hK.out _ _ (fun _ => HSTE.out w4 hb34) ?_
  clear hK K
  try simp only [Act.put, List.getElem_toArray, List.getElem_cons_zero, List.getElem_cons_succ, List.setIfInBounds_toArray, List.set_cons_zero, List.set_cons_succ]
  have hx4 := HSTE.out w4 hb34
  refine E_takeR (i := 11) (oi := _) (v := ?vt20) rfl (by kernel_rfl) (by kernel_rfl) (by kernel_rfl) (by decide) (fun _ _ _ h => h) hx4 (Or.inl ⟨by rfl, ?yt20⟩) ?rt20
  case yt20 => (intro w' hSw; (try dsimp only at hSw); go_simp; try with_reducible rfl)
  try simp only [Act.put, List.getElem_toArray, List.getElem_cons_zero, List.getElem_cons_succ, List.setIfInBounds_toArray, List.set_cons_zero, List.set_cons_succ]
  refine E_done (by kernel_rfl) ?_ _
  have HB34 := Lib.hid (HB3.out.trans (hb34.mono HB3.out.size))
  clear hx hx4 hb4 hb34
  by_cases hp : pcmp a.at_ d.at_ < 0
  · have HP := Lib.hid hp
    have q : ¬ (0 : Int) ≤ pcmp a.at_ d.at_ := by omega
    clear hp
    go_wp2_with fail
    refine ⟨⟨k + 1, j + 1, by have := HJK.out; omega, rfl, ?_, HB34.out⟩, by have := HLJ.out; simp [intOf]; omega⟩
    intro i x y hi hx hy
    by_cases hik : i = k
    · subst hik
      rw [HQK.out] at hx
      rw [show i + 1 = j by have := HJK.out; omega, HQ.out] at hy
      cases hx
      cases hy
      exact HP.out
    · exact HORD.out i x y (by omega) hx hy
  · have HV := Lib.hid (show ordB ms = false by
      rw [Bool.eq_false_iff]
      intro h
      exact hp ((ordB_iff ms).1 h k a d HQK.out (by rw [show k + 1 = j by have := HJK.out; omega]; exact HQ.out)))
    have q : (0 : Int) ≤ pcmp a.at_ d.at_ := by omega
    clear hp
    go_wp2_with fail
    go_ret
    exact ⟨by rw [HV.out]; rfl, HB34.out⟩
end Go.Proofs.YtoigihmgjacbjaaDoor
