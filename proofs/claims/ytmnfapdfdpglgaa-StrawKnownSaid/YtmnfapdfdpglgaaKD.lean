/- A hand does a chore. -/
import Derived.Test.YtmnfapdfdpglgaaKB
import Derived.Test.YtmnfapdfdpglgaaKC
import Derived.Test.YtmnfapdfdpglgaaJX
import Derived.Test.YtmnfapdfdpglgaaJZ
set_option linter.unusedSimpArgs false
namespace Go.Proofs.Ytmnfapdfdpglgaa
open Go.RowKit

theorem run_equalIn_span (d : Nat) (a b a' b' : Int) (w : World) : (Op.equalIn (d + 2) 32 (.agg #[.int .i64 a, .int .i64 b]) (.agg #[.int .i64 a', .int .i64 b'])).run Try.prog w = .ok (a == a' && b == b') w := by
  rw [run_equalIn_struct w (d + 1) 32 _ _ (by kernel_rfl) (by kernel_rfl)]
  by_cases e1 : a = a' <;> by_cases e2 : b = b'
  all_goals simp [Program.fieldsOf, Try.underlying32, Op.eqFields, go_sem, e1, e2]
set_option maxHeartbeats 2000000 in
theorem run_equalIn_chore (d : Nat) (a b : Chr) (w : World) : (Op.equalIn (d + 3) 34 (.agg (chrC a)) (.agg (chrC b))).run Try.prog w = .ok (chrB a b) w := by
  rw [run_equalIn_struct w (d + 2) 34 _ _ (by kernel_rfl) (by kernel_rfl)]
  have h1 := run_equalIn_span d a.rlo a.rhi b.rlo b.rhi
  obtain ⟨a1, a2, a3, a4, a5, a6, a7, a8, a9⟩ := a
  obtain ⟨b1, b2, b3, b4, b5, b6, b7, b8, b9⟩ := b
  simp only [chrB, strB] at h1 ⊢
  by_cases e1 : a1 = b1
  rotate_left
  · simp [Program.fieldsOf, Try.underlying34, Op.eqFields, go_sem, e1]
  subst e1
  by_cases e2 : a2 = b2
  rotate_left
  · simp [Program.fieldsOf, Try.underlying34, Op.eqFields, go_sem, e2]
  subst e2
  by_cases e3 : a3 = b3
  rotate_left
  · simp [Program.fieldsOf, Try.underlying34, Op.eqFields, go_sem, e3]
  subst e3
  cases e4 : (a4.toList == b4.toList) with
  | false => simp [Program.fieldsOf, Try.underlying34, Op.eqFields, go_sem, e4]
  | true =>
  cases e5 : (a5.toList == b5.toList) with
  | false => simp [Program.fieldsOf, Try.underlying34, Op.eqFields, go_sem, e5, e4]
  | true =>
  by_cases e6 : a6 = b6
  rotate_left
  · simp [Program.fieldsOf, Try.underlying34, Op.eqFields, go_sem, e4, e5, e6]
  subst e6
  by_cases e7 : a7 = b7
  rotate_left
  · simp [Program.fieldsOf, Try.underlying34, Op.eqFields, go_sem, e4, e5, e7]
  subst e7
  simp [Program.fieldsOf, Try.underlying34, Op.eqFields, go_sem, e4, e5, h1]
  by_cases e8 : a8 = b8 <;> by_cases e9 : a9 = b9 <;> simp [e8, e9]
/-! do -/
/-- What a hand does at a chore. -/
def stepD (F : Frm) (S : Sto) (a : Chr) : Int × Sto := if ¬ (1 ≤ a.kind ∧ a.kind ≤ 8 ∧ chrB a (namedM a) = true) then (1, S) else choreD F S a
theorem year_chore (F : Frm) (S : Sto) (a : Chr) (base B : Nat) (w : World) (hH : Hand F base B w S S) (hE : storeE F S = 0) (hbw : base ≤ w.heap.size) :
    Calls Try.prog 82 #[.pointer (some ⟨B, 0, none⟩), .agg (chrC a)] w (ChoreSaid F base B (yearD S) w) := by
  refine (year_any F S a B w hH.box (years_ok hE).1.1).mono ?_
  rintro e w' ⟨h, hg⟩
  have hT := Turn.of_grown hg
  have hb : Below base w w' := hT.below hbw (fun k e => by have e' : B = k := by injection e
                                                           rw [← e']; exact hH.le)
  rcases h with ⟨h1, rfl, hB⟩ | ⟨h1, rfl⟩
  · refine ⟨.inl ⟨by simp [yearD, h1], rfl, { S with year := S.year + 1 }, by simp only [yearD, if_pos h1]; exact SameSto.refl _, hB, OwnSto.setYear (hH.own.turn hT fun k e => ?_) _, hH.out, hH.le, rfl, rfl, rfl⟩, hb⟩
    have e' : B = k := by injection e
    rw [← e']; exact hH.out
  · exact ⟨.inr ⟨by simp [yearD, h1], by simp [yearD, h1]⟩, hb⟩
theorem chore_any (F : Frm) (S : Sto) (a : Chr) (base B : Nat) (w : World) (hH : Hand F base B w S S) (hE : storeE F S = 0) (hfit : S.fit) (hbw : base ≤ w.heap.size) (hF : IsFarm w F) (hnm : a.name.size ≤ maxLen) (hno : a.other.size ≤ maxLen) (hk : 1 ≤ a.kind ∧ a.kind ≤ 8) :
    Calls Try.prog (chN a.kind) #[.pointer (some ⟨B, 0, none⟩), .agg (chrC a)] w (ChoreSaid F base B (choreD F S a) w) := by
  unfold choreD chN
  rcases (show a.kind = 1 ∨ a.kind = 2 ∨ a.kind = 3 ∨ a.kind = 4 ∨ a.kind = 5 ∨ a.kind = 6 ∨ a.kind = 7 ∨ a.kind = 8 by omega) with h | h | h | h | h | h | h | h
  all_goals rw [h]
  all_goals simp only [if_true, if_false, Int.reduceEq]
  · exact year_chore F S a base B w hH hE hbw
  · exact cut_any F S a base B w hH hE hfit hbw hF hnm
  · exact dry_any F S a base B w hH hE hfit hbw
  · exact comb_any F S a base B w hH hE hfit hbw
  · exact join_any F S a base B w hH hE hfit hbw
  · exact bind_any F S a base B w hH hE hfit hbw hno
  · exact use_any F S a base B w hH hE hfit hbw
  · exact rot_any F S a base B w hH hE hfit hbw
theorem chN_enter (k : Int) (args : Array Value) (w : World) : (callFunc (chN k) args).run Try.prog w = .ok (.enter (chN k) args) w := by
  unfold chN
  repeat' split
  · exact enters_of Try.func82 (by kernel_rfl) rfl args w
  · exact enters_of Try.func83 (by kernel_rfl) rfl args w
  · exact enters_of Try.func84 (by kernel_rfl) rfl args w
  · exact enters_of Try.func85 (by kernel_rfl) rfl args w
  · exact enters_of Try.func86 (by kernel_rfl) rfl args w
  · exact enters_of Try.func87 (by kernel_rfl) rfl args w
  · exact enters_of Try.func88 (by kernel_rfl) rfl args w
  · exact enters_of Try.func89 (by kernel_rfl) rfl args w

set_option maxRecDepth 100000 in
set_option maxHeartbeats 8000000 in
theorem do_any (F : Frm) (S : Sto) (a : Chr) (base B : Nat) (w : World) (hH : Hand F base B w S S) (hE : storeE F S = 0) (hfit : S.fit) (hbw : base ≤ w.heap.size) (hF : IsFarm w F) (hnm : a.name.size ≤ maxLen) (hno : a.other.size ≤ maxLen) :
    Calls Try.prog 33 #[.pointer (some ⟨B, 0, none⟩), .agg (chrC a)] w (ChoreSaid F base B (stepD F S a) w) := by
  have hb1 : Below w.heap.size w (w.alloc (.cells (chrC a) 34)) := (Below.refl _ w).alloc (Nat.le_refl _) _
  have kA := Blk.new w 34 (chrC a)
  have hH1 := hH.below hb1
  have hF1 := hF.below hb1
  have hbb := Lib.hid (hb1.mono hbw)
  have hbs := hb1.size
  have hlook1 := look_hit (x := a.kind)
  have hlook2 := look_miss (x := a.kind)
  have hent := chN_enter a.kind
  have hcho : ∀ w', Hand F base B w' S S → base ≤ w'.heap.size → IsFarm w' F → (1 ≤ a.kind ∧ a.kind ≤ 8) → Calls Try.prog (chN a.kind) #[.pointer (some ⟨B, 0, none⟩), .agg (chrC a)] w' (ChoreSaid F base B (choreD F S a) w') := fun w' h1 h2 h3 h4 => chore_any F S a base B w' h1 hE hfit h2 h3 hnm hno h4
  have hnam := fun w' => named_any a w'
  have heq : ∀ w, (Op.equalIn 10000 34 (.agg (chrC a)) (.agg (chrC (namedM a)))).run Try.prog w = .ok (chrB a (namedM a)) w := run_equalIn_chore 9997 a (namedM a)
  generalize chN a.kind = NC at *
  unfold chrC at hb1 kA hH1 hF1 ⊢
  go_enter Try.func33, Try.ntmps33
  go_upto_region 1 with fail
  generalize w.alloc (.cells #[.int .i64 a.kind, .int .i64 a.plot, .int .i64 a.loads, .string a.name, .string a.other, .int .i64 a.days, .int .i64 a.per, .int .i64 a.rlo, .int .i64 a.rhi] 34) = w1 at *
  have lA := kA.lt
  have hstep : ∀ w', Below w1.heap.size w1 w' → Below w1.heap.size w1 w' ∧ (w'.cell? ⟨w.heap.size, 0, none⟩ = some (.int .i64 a.kind) ∧ w'.cell? ⟨w.heap.size, 1, none⟩ = some (.int .i64 a.plot) ∧ w'.cell? ⟨w.heap.size, 2, none⟩ = some (.int .i64 a.loads) ∧ w'.cell? ⟨w.heap.size, 3, none⟩ = some (.string a.name) ∧ w'.cell? ⟨w.heap.size, 4, none⟩ = some (.string a.other) ∧ w'.cell? ⟨w.heap.size, 5, none⟩ = some (.int .i64 a.days) ∧ w'.cell? ⟨w.heap.size, 6, none⟩ = some (.int .i64 a.per) ∧ w'.cell? ⟨w.heap.size, 7, none⟩ = some (.int .i64 a.rlo) ∧ w'.cell? ⟨w.heap.size, 8, none⟩ = some (.int .i64 a.rhi)) := fun w' hb => by
    have k := kA.belowS hb
    exact ⟨hb, k.cell 0, k.cell 1, k.cell 2, k.cell 3, k.cell 4, k.cell 5, k.cell 6, k.cell 7, k.cell 8⟩
  have HST := Lib.hid hstep
  have hx := hstep w1.drew ((Below.refl _ w1).drew)
  have HH1 := Lib.hid hH1
  have HF1 := Lib.hid hF1
  have HB1 := Lib.hid hb1
  have HCHO := Lib.hid hcho
  have HNAM := Lib.hid hnam
  have HL1 := Lib.hid hlook1
  have HL2 := Lib.hid hlook2
  have HEQ := Lib.hid heq
  have HEN := Lib.hid hent
  clear hH hF hH1 hF1 hb1 kA hstep hcho hnam hlook1 hlook2 heq hent
  refine wp_region_E 9 (fun w' : World => Below w1.heap.size w1 w' ∧ (w'.cell? ⟨w.heap.size, 0, none⟩ = some (.int .i64 a.kind) ∧ w'.cell? ⟨w.heap.size, 1, none⟩ = some (.int .i64 a.plot) ∧ w'.cell? ⟨w.heap.size, 2, none⟩ = some (.int .i64 a.loads) ∧ w'.cell? ⟨w.heap.size, 3, none⟩ = some (.string a.name) ∧ w'.cell? ⟨w.heap.size, 4, none⟩ = some (.string a.other) ∧ w'.cell? ⟨w.heap.size, 5, none⟩ = some (.int .i64 a.days) ∧ w'.cell? ⟨w.heap.size, 6, none⟩ = some (.int .i64 a.per) ∧ w'.cell? ⟨w.heap.size, 7, none⟩ = some (.int .i64 a.rlo) ∧ w'.cell? ⟨w.heap.size, 8, none⟩ = some (.int .i64 a.rhi))) (by kernel_rfl) ?_
  refine E_takeR (i := 1) (oi := _) (v := ?v62) rfl (by kernel_rfl) (by kernel_rfl) (by kernel_rfl) (by decide) (fun _ _ _ h => h) hx (Or.inl ⟨by rfl, ?y62⟩) ?r62
  case y62 => (intro w' hSw; (try dsimp only at hSw); go_simp; try with_reducible rfl)
  try simp only [Act.put, List.getElem_toArray, List.getElem_cons_zero, List.getElem_cons_succ, List.setIfInBounds_toArray, List.set_cons_zero, List.set_cons_succ]
  refine E_takeR (i := 2) (oi := _) (v := ?v63) rfl (by kernel_rfl) (by kernel_rfl) (by kernel_rfl) (by decide) (fun _ _ _ h => h) hx (Or.inl ⟨by rfl, ?y63⟩) ?r63
  case y63 => (intro w' hSw; (try dsimp only at hSw); go_simp; try with_reducible rfl)
  try simp only [Act.put, List.getElem_toArray, List.getElem_cons_zero, List.getElem_cons_succ, List.setIfInBounds_toArray, List.set_cons_zero, List.set_cons_succ]
  refine E_step (i := 0) (o := _) (by kernel_rfl) rfl (fun K hK => ?_)
  go_simp
  refine (chores_any _).mono ?_
  rintro r w2 ⟨rfl, hw2⟩
  dsimp only
  have hb2 : Below w1.heap.size w1 w2 := by rw [hw2]; exact ((Below.refl _ w1).drew).alloc (by show w1.heap.size ≤ w1.heap.size; exact Nat.le_refl _) _
  have hmap : w2.heap[w1.heap.size]? = some (.map chEs 8) := by rw [hw2]; exact heap_alloc_new w1.drew _
  have hx2 := HST.out w2 hb2
  refine hK.out _ _ (fun _ => hx2) ?_
  clear hK K hw2
  try simp only [Act.put, List.getElem_toArray, List.getElem_cons_zero, List.getElem_cons_succ, List.setIfInBounds_toArray, List.set_cons_zero, List.set_cons_succ]
  by_cases hkn : 1 ≤ a.kind ∧ a.kind ≤ 8
  rotate_left
  · have hlk := HL2.out w2 _ hmap hkn
    have HV := Lib.hid (show (stepD F S a).1 = 1 by unfold stepD; rw [if_pos (fun e => hkn ⟨e.1, e.2.1⟩)])
    clear hkn
    refine E_step (i := 3) (o := _) (by kernel_rfl) rfl (fun K hK => ?_)
    go_simp
    refine hK.out _ _ (fun _ => hx2) ?_
    clear hK K
    try simp only [Act.put, List.getElem_toArray, List.getElem_cons_zero, List.getElem_cons_succ, List.setIfInBounds_toArray, List.set_cons_zero, List.set_cons_succ]
    refine E_takeR (i := 4) (oi := _) (v := ?v64) rfl (by kernel_rfl) (by kernel_rfl) (by kernel_rfl) (by decide) (fun _ _ _ h => h) hx2 (Or.inl ⟨by rfl, ?y64⟩) ?r64
    case y64 => (intro w' hSw; (try dsimp only at hSw); go_simp; try with_reducible rfl)
    try simp only [Act.put, List.getElem_toArray, List.getElem_cons_zero, List.getElem_cons_succ, List.setIfInBounds_toArray, List.set_cons_zero, List.set_cons_succ]
    refine E_takeR (i := 5) (oi := _) (v := ?v65) rfl (by kernel_rfl) (by kernel_rfl) (by kernel_rfl) (by decide) (fun _ _ _ h => h) hx2 (Or.inl ⟨by rfl, ?y65⟩) ?r65
    case y65 => (intro w' hSw; (try dsimp only at hSw); go_simp; try with_reducible rfl)
    try simp only [Act.put, List.getElem_toArray, List.getElem_cons_zero, List.getElem_cons_succ, List.setIfInBounds_toArray, List.set_cons_zero, List.set_cons_succ]
    refine E_takeR (i := 6) (oi := _) (v := ?v66) rfl (by kernel_rfl) (by kernel_rfl) (by kernel_rfl) (by decide) (fun _ _ _ h => h) hx2 (Or.inl ⟨by rfl, ?y66⟩) ?r66
    case y66 => (intro w' hSw; (try dsimp only at hSw); go_simp; try with_reducible rfl)
    try simp only [Act.put, List.getElem_toArray, List.getElem_cons_zero, List.getElem_cons_succ, List.setIfInBounds_toArray, List.set_cons_zero, List.set_cons_succ]
    refine E_takeR (i := 7) (oi := _) (v := ?v67) rfl (by kernel_rfl) (by kernel_rfl) (by kernel_rfl) (by decide) (fun _ _ _ h => h) hx2 (Or.inl ⟨by rfl, ?y67⟩) ?r67
    case y67 => (intro w' hSw; (try dsimp only at hSw); go_simp; try with_reducible rfl)
    try simp only [Act.put, List.getElem_toArray, List.getElem_cons_zero, List.getElem_cons_succ, List.setIfInBounds_toArray, List.set_cons_zero, List.set_cons_succ]
    refine E_takeR (i := 8) (oi := _) (v := ?v68) rfl (by kernel_rfl) (by kernel_rfl) (by kernel_rfl) (by decide) (fun _ _ _ h => h) hx2 (Or.inl ⟨by rfl, ?y68⟩) ?r68
    case y68 => (intro w' hSw; (try dsimp only at hSw); go_simp; try with_reducible rfl)
    try simp only [Act.put, List.getElem_toArray, List.getElem_cons_zero, List.getElem_cons_succ, List.setIfInBounds_toArray, List.set_cons_zero, List.set_cons_succ]
    refine E_done (by kernel_rfl) ?_ _
    have hx := HST.out w2.drew (hx2.1.trans ((Below.refl w2.heap.size w2).drew.mono hx2.1.size))
    go_upto_region 2 with fail
    refine wp_region_E 8 (fun w' : World => Below w1.heap.size w1 w' ∧ (w'.cell? ⟨w.heap.size, 0, none⟩ = some (.int .i64 a.kind) ∧ w'.cell? ⟨w.heap.size, 1, none⟩ = some (.int .i64 a.plot) ∧ w'.cell? ⟨w.heap.size, 2, none⟩ = some (.int .i64 a.loads) ∧ w'.cell? ⟨w.heap.size, 3, none⟩ = some (.string a.name) ∧ w'.cell? ⟨w.heap.size, 4, none⟩ = some (.string a.other) ∧ w'.cell? ⟨w.heap.size, 5, none⟩ = some (.int .i64 a.days) ∧ w'.cell? ⟨w.heap.size, 6, none⟩ = some (.int .i64 a.per) ∧ w'.cell? ⟨w.heap.size, 7, none⟩ = some (.int .i64 a.rlo) ∧ w'.cell? ⟨w.heap.size, 8, none⟩ = some (.int .i64 a.rhi))) (by kernel_rfl) ?_
    refine E_takeR (i := 0) (oi := _) (v := ?v69) rfl (by kernel_rfl) (by kernel_rfl) (by kernel_rfl) (by decide) (fun _ _ _ h => h) hx (Or.inl ⟨by rfl, ?y69⟩) ?r69
    case y69 => (intro w' hSw; (try dsimp only at hSw); go_simp; try with_reducible rfl)
    try simp only [Act.put, List.getElem_toArray, List.getElem_cons_zero, List.getElem_cons_succ, List.setIfInBounds_toArray, List.set_cons_zero, List.set_cons_succ]
    refine E_takeR (i := 1) (oi := _) (v := ?v70) rfl (by kernel_rfl) (by kernel_rfl) (by kernel_rfl) (by decide) (fun _ _ _ h => h) hx (Or.inl ⟨by rfl, ?y70⟩) ?r70
    case y70 => (intro w' hSw; (try dsimp only at hSw); go_simp; try with_reducible rfl)
    try simp only [Act.put, List.getElem_toArray, List.getElem_cons_zero, List.getElem_cons_succ, List.setIfInBounds_toArray, List.set_cons_zero, List.set_cons_succ]
    refine E_takeR (i := 2) (oi := _) (v := undef) rfl (by kernel_rfl) (by kernel_rfl) (by kernel_rfl) (by decide) (fun _ _ _ h => h) hx (Or.inr ⟨by rfl, rfl⟩) ?r71
    try simp only [Act.put, List.getElem_toArray, List.getElem_cons_zero, List.getElem_cons_succ, List.setIfInBounds_toArray, List.set_cons_zero, List.set_cons_succ]
    refine E_takeR (i := 3) (oi := _) (v := undef) rfl (by kernel_rfl) (by kernel_rfl) (by kernel_rfl) (by decide) (fun _ _ _ h => h) hx (Or.inr ⟨by rfl, rfl⟩) ?r72
    try simp only [Act.put, List.getElem_toArray, List.getElem_cons_zero, List.getElem_cons_succ, List.setIfInBounds_toArray, List.set_cons_zero, List.set_cons_succ]
    refine E_step (i := 4) (o := _) (by kernel_rfl) rfl (fun K hK => ?_)
    go_simp
    refine hK.out _ _ (fun _ => hx) ?_
    clear hK K
    try simp only [Act.put, List.getElem_toArray, List.getElem_cons_zero, List.getElem_cons_succ, List.setIfInBounds_toArray, List.set_cons_zero, List.set_cons_succ]
    refine E_takeR (i := 5) (oi := _) (v := undef) rfl (by kernel_rfl) (by kernel_rfl) (by kernel_rfl) (by decide) (fun _ _ _ h => h) hx (Or.inr ⟨by rfl, rfl⟩) ?r73
    try simp only [Act.put, List.getElem_toArray, List.getElem_cons_zero, List.getElem_cons_succ, List.setIfInBounds_toArray, List.set_cons_zero, List.set_cons_succ]
    refine E_takeR (i := 6) (oi := _) (v := ?v74) rfl (by kernel_rfl) (by kernel_rfl) (by kernel_rfl) (by decide) (fun _ _ _ h => h) hx (Or.inl ⟨by rfl, ?y74⟩) ?r74
    case y74 => (intro w' hSw; (try dsimp only at hSw); go_simp; try with_reducible rfl)
    try simp only [Act.put, List.getElem_toArray, List.getElem_cons_zero, List.getElem_cons_succ, List.setIfInBounds_toArray, List.set_cons_zero, List.set_cons_succ]
    refine E_step (i := 7) (o := _) (by kernel_rfl) rfl (fun K hK => ?_)
    go_simp
    refine (require_no 1 _).mono ?_
    rintro r w7 ⟨rfl, rfl⟩
    dsimp only
    exact ⟨rfl, ChoreSaid.err 1 HV.out (by decide) (hbb.out.trans (hx.1.mono (Nat.le_trans hbw HB1.out.size)))⟩
  have hlk := HL1.out w2 _ hmap hkn
  have HKN := Lib.hid hkn
  refine E_step (i := 3) (o := _) (by kernel_rfl) rfl (fun K hK => ?_)
  go_simp
  refine hK.out _ _ (fun _ => hx2) ?_
  clear hK K
  try simp only [Act.put, List.getElem_toArray, List.getElem_cons_zero, List.getElem_cons_succ, List.setIfInBounds_toArray, List.set_cons_zero, List.set_cons_succ]
  refine E_takeR (i := 4) (oi := _) (v := ?v75) rfl (by kernel_rfl) (by kernel_rfl) (by kernel_rfl) (by decide) (fun _ _ _ h => h) hx2 (Or.inl ⟨by rfl, ?y75⟩) ?r75
  case y75 => (intro w' hSw; (try dsimp only at hSw); go_simp; try with_reducible rfl)
  try simp only [Act.put, List.getElem_toArray, List.getElem_cons_zero, List.getElem_cons_succ, List.setIfInBounds_toArray, List.set_cons_zero, List.set_cons_succ]
  refine E_takeR (i := 5) (oi := _) (v := ?v76) rfl (by kernel_rfl) (by kernel_rfl) (by kernel_rfl) (by decide) (fun _ _ _ h => h) hx2 (Or.inl ⟨by rfl, ?y76⟩) ?r76
  case y76 => (intro w' hSw; (try dsimp only at hSw); go_simp; try with_reducible rfl)
  try simp only [Act.put, List.getElem_toArray, List.getElem_cons_zero, List.getElem_cons_succ, List.setIfInBounds_toArray, List.set_cons_zero, List.set_cons_succ]
  refine E_takeR (i := 6) (oi := _) (v := ?v77) rfl (by kernel_rfl) (by kernel_rfl) (by kernel_rfl) (by decide) (fun _ _ _ h => h) hx2 (Or.inl ⟨by rfl, ?y77⟩) ?r77
  case y77 => (intro w' hSw; (try dsimp only at hSw); go_simp; try with_reducible rfl)
  try simp only [Act.put, List.getElem_toArray, List.getElem_cons_zero, List.getElem_cons_succ, List.setIfInBounds_toArray, List.set_cons_zero, List.set_cons_succ]
  refine E_takeR (i := 7) (oi := _) (v := ?v78) rfl (by kernel_rfl) (by kernel_rfl) (by kernel_rfl) (by decide) (fun _ _ _ h => h) hx2 (Or.inl ⟨by rfl, ?y78⟩) ?r78
  case y78 => (intro w' hSw; (try dsimp only at hSw); go_simp; try with_reducible rfl)
  try simp only [Act.put, List.getElem_toArray, List.getElem_cons_zero, List.getElem_cons_succ, List.setIfInBounds_toArray, List.set_cons_zero, List.set_cons_succ]
  refine E_takeR (i := 8) (oi := _) (v := ?v79) rfl (by kernel_rfl) (by kernel_rfl) (by kernel_rfl) (by decide) (fun _ _ _ h => h) hx2 (Or.inl ⟨by rfl, ?y79⟩) ?r79
  case y79 => (intro w' hSw; (try dsimp only at hSw); go_simp; try with_reducible rfl)
  try simp only [Act.put, List.getElem_toArray, List.getElem_cons_zero, List.getElem_cons_succ, List.setIfInBounds_toArray, List.set_cons_zero, List.set_cons_succ]
  refine E_done (by kernel_rfl) ?_ _
  have hx := HST.out w2.drew (hx2.1.trans ((Below.refl w2.heap.size w2).drew.mono hx2.1.size))
  clear hkn
  go_upto_region 2 with fail
  refine wp_region_E 8 (fun w' : World => Below w1.heap.size w1 w' ∧ (w'.cell? ⟨w.heap.size, 0, none⟩ = some (.int .i64 a.kind) ∧ w'.cell? ⟨w.heap.size, 1, none⟩ = some (.int .i64 a.plot) ∧ w'.cell? ⟨w.heap.size, 2, none⟩ = some (.int .i64 a.loads) ∧ w'.cell? ⟨w.heap.size, 3, none⟩ = some (.string a.name) ∧ w'.cell? ⟨w.heap.size, 4, none⟩ = some (.string a.other) ∧ w'.cell? ⟨w.heap.size, 5, none⟩ = some (.int .i64 a.days) ∧ w'.cell? ⟨w.heap.size, 6, none⟩ = some (.int .i64 a.per) ∧ w'.cell? ⟨w.heap.size, 7, none⟩ = some (.int .i64 a.rlo) ∧ w'.cell? ⟨w.heap.size, 8, none⟩ = some (.int .i64 a.rhi))) (by kernel_rfl) ?_
  refine E_takeR (i := 0) (oi := _) (v := ?v80) rfl (by kernel_rfl) (by kernel_rfl) (by kernel_rfl) (by decide) (fun _ _ _ h => h) hx (Or.inl ⟨by rfl, ?y80⟩) ?r80
  case y80 => (intro w' hSw; (try dsimp only at hSw); go_simp; try with_reducible rfl)
  try simp only [Act.put, List.getElem_toArray, List.getElem_cons_zero, List.getElem_cons_succ, List.setIfInBounds_toArray, List.set_cons_zero, List.set_cons_succ]
  refine E_takeR (i := 1) (oi := _) (v := ?v81) rfl (by kernel_rfl) (by kernel_rfl) (by kernel_rfl) (by decide) (fun _ _ _ h => h) hx (Or.inl ⟨by rfl, ?y81⟩) ?r81
  case y81 => (intro w' hSw; (try dsimp only at hSw); go_simp; try with_reducible rfl)
  try simp only [Act.put, List.getElem_toArray, List.getElem_cons_zero, List.getElem_cons_succ, List.setIfInBounds_toArray, List.set_cons_zero, List.set_cons_succ]
  refine E_takeR (i := 2) (oi := _) (v := ?v82) rfl (by kernel_rfl) (by kernel_rfl) (by kernel_rfl) (by decide) (fun _ _ _ h => h) hx (Or.inl ⟨by rfl, ?y82⟩) ?r82
  case y82 => (intro w' hSw; (try dsimp only at hSw); go_simp; try with_reducible rfl)
  try simp only [Act.put, List.getElem_toArray, List.getElem_cons_zero, List.getElem_cons_succ, List.setIfInBounds_toArray, List.set_cons_zero, List.set_cons_succ]
  refine E_takeR (i := 3) (oi := _) (v := ?v83) rfl (by kernel_rfl) (by kernel_rfl) (by kernel_rfl) (by decide) (fun _ _ _ h => h) hx (Or.inl ⟨by rfl, ?y83⟩) ?r83
  case y83 => (intro w' hSw; (try dsimp only at hSw); go_simp; try with_reducible rfl)
  try simp only [Act.put, List.getElem_toArray, List.getElem_cons_zero, List.getElem_cons_succ, List.setIfInBounds_toArray, List.set_cons_zero, List.set_cons_succ]
  refine E_step (i := 4) (o := _) (by kernel_rfl) rfl (fun K hK => ?_)
  go_simp
  refine (HNAM.out _).mono ?_
  rintro r w3 ⟨rfl, hb3⟩
  dsimp only
  have hx3 := HST.out w3 (hx.1.trans (hb3.mono hx.1.size))
  refine hK.out _ _ (fun _ => hx3) ?_
  clear hK K
  try simp only [Act.put, List.getElem_toArray, List.getElem_cons_zero, List.getElem_cons_succ, List.setIfInBounds_toArray, List.set_cons_zero, List.set_cons_succ]
  have heq : ∀ w, (Op.equalIn 10000 34 (.agg #[.int .i64 a.kind, .int .i64 a.plot, .int .i64 a.loads, .string a.name, .string a.other, .int .i64 a.days, .int .i64 a.per, .int .i64 a.rlo, .int .i64 a.rhi]) (.agg (chrC (namedM a)))).run Try.prog w = .ok (chrB a (namedM a)) w := HEQ.out
  refine E_takeR (i := 5) (oi := _) (v := ?v84) rfl (by kernel_rfl) (by kernel_rfl) (by kernel_rfl) (by decide) (fun _ _ _ h => h) hx3 (Or.inl ⟨by rfl, ?y84⟩) ?r84
  case y84 => (intro w' hSw; (try dsimp only at hSw); go_simp; try with_reducible rfl)
  try simp only [Act.put, List.getElem_toArray, List.getElem_cons_zero, List.getElem_cons_succ, List.setIfInBounds_toArray, List.set_cons_zero, List.set_cons_succ]
  cases hch : chrB a (namedM a) with
  | false =>
    have HV := Lib.hid (show (stepD F S a).1 = 1 by unfold stepD; rw [if_pos (fun e => by have := e.2.2; rw [hch] at this; cases this)])
    clear hch
    refine E_takeR (i := 6) (oi := _) (v := ?v85) rfl (by kernel_rfl) (by kernel_rfl) (by kernel_rfl) (by decide) (fun _ _ _ h => h) hx3 (Or.inl ⟨by rfl, ?y85⟩) ?r85
    case y85 => (intro w' hSw; (try dsimp only at hSw); go_simp; try with_reducible rfl)
    try simp only [Act.put, List.getElem_toArray, List.getElem_cons_zero, List.getElem_cons_succ, List.setIfInBounds_toArray, List.set_cons_zero, List.set_cons_succ]
    refine E_step (i := 7) (o := _) (by kernel_rfl) rfl (fun K hK => ?_)
    go_simp
    refine (require_no 1 _).mono ?_
    rintro r w7 ⟨rfl, rfl⟩
    dsimp only
    exact ⟨rfl, ChoreSaid.err 1 HV.out (by decide) (hbb.out.trans (hx3.1.mono (Nat.le_trans hbw HB1.out.size)))⟩
  | true =>
  have hv : stepD F S a = choreD F S a := by unfold stepD; rw [if_neg (fun e => e ⟨HKN.out.1, HKN.out.2, hch⟩)]
  have HV := Lib.hid hv
  clear hch hv heq
  refine E_takeR (i := 6) (oi := _) (v := ?v86) rfl (by kernel_rfl) (by kernel_rfl) (by kernel_rfl) (by decide) (fun _ _ _ h => h) hx3 (Or.inl ⟨by rfl, ?y86⟩) ?r86
  case y86 => (intro w' hSw; (try dsimp only at hSw); go_simp; try with_reducible rfl)
  try simp only [Act.put, List.getElem_toArray, List.getElem_cons_zero, List.getElem_cons_succ, List.setIfInBounds_toArray, List.set_cons_zero, List.set_cons_succ]
  refine E_step (i := 7) (o := _) (by kernel_rfl) rfl (fun K hK => ?_)
  go_simp
  refine (require_yes 1 _).mono ?_
  rintro r w4 ⟨rfl, rfl⟩
  dsimp only
  refine hK.out _ _ (fun _ => hx3) ?_
  clear hK K
  try simp only [Act.put, List.getElem_toArray, List.getElem_cons_zero, List.getElem_cons_succ, List.setIfInBounds_toArray, List.set_cons_zero, List.set_cons_succ]
  refine E_done (by kernel_rfl) ?_ _
  obtain ⟨hb4, k0, k1, k2, k3, k4, k5, k6, k7, k8⟩ := hx3
  have HB4 := Lib.hid hb4
  have lA4 := Nat.lt_of_lt_of_le lA hb4.size
  have hent := HEN.out
  clear hx hx2 hmap hlk hb3 hb2 lA hb4
  go_wp2_with fail
  refine (HCHO.out _ (HH1.out.below HB4.out) (Nat.le_trans hbw (Nat.le_trans HB1.out.size HB4.out.size)) (HF1.out.below HB4.out) HKN.out).mono ?_
  rintro r w9 ⟨hs, hb9⟩
  have HBF := Lib.hid ((hbb.out.trans (HB4.out.mono (Nat.le_trans hbw HB1.out.size))).trans hb9)
  rcases hs with ⟨h1, rfl, h2⟩ | ⟨h1, rfl⟩
  · have H1 := Lib.hid h1
    have H2 := Lib.hid h2
    clear h1 h2 hb9
    go_wp2_with fail
    go_end0
    exact ⟨.inl ⟨by rw [HV.out]; exact H1.out, rfl, by rw [HV.out]; exact H2.out⟩, HBF.out⟩
  · have H1 := Lib.hid h1
    clear h1 hb9
    go_wp2_with fail
    exact ⟨rfl, .inr ⟨by rw [HV.out]; exact H1.out, by rw [HV.out]⟩, HBF.out⟩

end Go.Proofs.Ytmnfapdfdpglgaa
