/- A hand does a chore. What is done with a store, and may panic with an error: fault.Of and fault.Answer at Do's closure. What chores do hangs on what a store reads, not on where it lies. -/
import Derived.Test.YtghepojnimlafaaKBQ
import Derived.Test.YtghepojnimlafaaQJY
import Derived.Test.YtghepojnimlafaaJZQ
import Derived.Test.YtghepojnimlafaaQJR
import Derived.Test.YtghepojnimlafaaQJQ
import Derived.Test.YtghepojnimlafaaQGG
import Derived.Defers
import Derived.Recover
import Derived.WalkSmall
import Derived.Laws.Pointers
namespace Go.Proofs.Ytghepojnimlafaa
section
set_option linter.unusedSimpArgs false
open Go.RowKit

theorem run_equalIn_span (d : Nat) (a b a' b' : Int) (w : World) : (Op.equalIn (d + 2) 35 (.agg #[.int .i64 a, .int .i64 b]) (.agg #[.int .i64 a', .int .i64 b'])).run Try.prog w = .ok (a == a' && b == b') w := by
  rw [run_equalIn_struct w (d + 1) 35 _ _ (by kernel_rfl) (by kernel_rfl)]
  by_cases e1 : a = a' <;> by_cases e2 : b = b'
  all_goals simp [Program.fieldsOf, Try.underlying35, Op.eqFields, go_sem, e1, e2]
set_option maxHeartbeats 2000000 in
theorem run_equalIn_chore (d : Nat) (a b : Chr) (w : World) : (Op.equalIn (d + 3) 40 (.agg (chrC a)) (.agg (chrC b))).run Try.prog w = .ok (chrB a b) w := by
  rw [run_equalIn_struct w (d + 2) 40 _ _ (by kernel_rfl) (by kernel_rfl)]
  have h1 := run_equalIn_span d a.rlo a.rhi b.rlo b.rhi
  obtain ⟨a1, a2, a3, a4, a5, a6, a7, a8, a9⟩ := a
  obtain ⟨b1, b2, b3, b4, b5, b6, b7, b8, b9⟩ := b
  simp only [chrB, strB] at h1 ⊢
  by_cases e1 : a1 = b1
  rotate_left
  · simp [Program.fieldsOf, Try.underlying40, Op.eqFields, go_sem, e1]
  subst e1
  by_cases e2 : a2 = b2
  rotate_left
  · simp [Program.fieldsOf, Try.underlying40, Op.eqFields, go_sem, e2]
  subst e2
  by_cases e3 : a3 = b3
  rotate_left
  · simp [Program.fieldsOf, Try.underlying40, Op.eqFields, go_sem, e3]
  subst e3
  cases e4 : (a4.toList == b4.toList) with
  | false => simp [Program.fieldsOf, Try.underlying40, Op.eqFields, go_sem, e4]
  | true =>
  cases e5 : (a5.toList == b5.toList) with
  | false => simp [Program.fieldsOf, Try.underlying40, Op.eqFields, go_sem, e5, e4]
  | true =>
  by_cases e6 : a6 = b6
  rotate_left
  · simp [Program.fieldsOf, Try.underlying40, Op.eqFields, go_sem, e4, e5, e6]
  subst e6
  by_cases e7 : a7 = b7
  rotate_left
  · simp [Program.fieldsOf, Try.underlying40, Op.eqFields, go_sem, e4, e5, e7]
  subst e7
  simp [Program.fieldsOf, Try.underlying40, Op.eqFields, go_sem, e4, e5, h1]
  by_cases e8 : a8 = b8 <;> by_cases e9 : a9 = b9 <;> simp [e8, e9]
/-! do -/
/-- What a hand does at a chore. -/
def stepD (F : Frm) (S : Sto) (a : Chr) : Int × Sto := if ¬ (1 ≤ a.kind ∧ a.kind ≤ 8 ∧ chrB a (namedM a) = true) then (1, S) else choreD F S a
theorem year_chore (F : Frm) (S : Sto) (a : Chr) (base B : Nat) (w : World) (hH : Hand F base B w S S) (hE : storeE F S = 0) (hbw : base ≤ w.heap.size) :
    Calls Try.prog 50 #[.pointer (some ⟨B, 0, none⟩), .agg (chrC a)] w (ChoreSaid F base B (yearD S) w) := by
  refine (year_any F S a B w hH.box (years_ok hE).1.1).mono ?_
  rintro e w' ⟨h, hg⟩
  have hT := Turn.of_grown hg
  have hb : Below base w w' := hT.below hbw (fun k e => by have e' : B = k := by injection e
                                                           rw [← e']; exact hH.le)
  rcases h with ⟨h1, rfl, hB⟩ | ⟨h1, rfl⟩
  · refine ⟨.inl ⟨by simp [yearD, h1], rfl, { S with year := S.year + 1 }, by simp only [yearD, if_pos h1]; exact SameSto.refl _, hB, OwnSto.setYear (hH.own.turn hT fun k e => ?_) _, hH.out, hH.le, rfl, rfl, rfl⟩, hb⟩
    have e' : B = k := by injection e
    rw [← e']; exact hH.out
  · exact ⟨.inr ⟨by simp [yearD, h1], by simp [yearD, h1]⟩, hb⟩
theorem chore_any (F : Frm) (S : Sto) (a : Chr) (base B : Nat) (w : World) (hH : Hand F base B w S S) (hE : storeE F S = 0) (hfit : S.fit) (hbw : base ≤ w.heap.size) (hF : IsFarm w F) (hnm : a.name.size ≤ maxLen) (hno : a.other.size ≤ maxLen) (hk : 1 ≤ a.kind ∧ a.kind ≤ 8) :
    Calls Try.prog (chN a.kind) #[.pointer (some ⟨B, 0, none⟩), .agg (chrC a)] w (ChoreSaid F base B (choreD F S a) w) := by
  unfold choreD chN
  rcases (show a.kind = 1 ∨ a.kind = 2 ∨ a.kind = 3 ∨ a.kind = 4 ∨ a.kind = 5 ∨ a.kind = 6 ∨ a.kind = 7 ∨ a.kind = 8 by omega) with h | h | h | h | h | h | h | h
  all_goals rw [h]
  all_goals simp only [if_true, if_false, Int.reduceEq]
  · exact year_chore F S a base B w hH hE hbw
  · exact cut_any F S a base B w hH hE hfit hbw hF hnm
  · exact dry_any F S a base B w hH hE hfit hbw
  · exact comb_any F S a base B w hH hE hfit hbw
  · exact join_any F S a base B w hH hE hfit hbw
  · exact bind_any F S a base B w hH hE hfit hbw hno
  · exact use_any F S a base B w hH hE hfit hbw
  · exact rot_any F S a base B w hH hE hfit hbw
theorem chN_enter (k : Int) (args : Array Value) (w : World) : (callFunc (chN k) args).run Try.prog w = .ok (.enter (chN k) args) w := by
  unfold chN
  repeat' split
  · exact enters_of Try.func50 (by kernel_rfl) rfl args w
  · exact enters_of Try.func51 (by kernel_rfl) rfl args w
  · exact enters_of Try.func52 (by kernel_rfl) rfl args w
  · exact enters_of Try.func53 (by kernel_rfl) rfl args w
  · exact enters_of Try.func54 (by kernel_rfl) rfl args w
  · exact enters_of Try.func55 (by kernel_rfl) rfl args w
  · exact enters_of Try.func56 (by kernel_rfl) rfl args w
  · exact enters_of Try.func57 (by kernel_rfl) rfl args w

set_option maxRecDepth 100000 in
set_option maxHeartbeats 8000000 in
theorem do_any (F : Frm) (S : Sto) (a : Chr) (base B : Nat) (w : World) (hH : Hand F base B w S S) (hE : storeE F S = 0) (hfit : S.fit) (hbw : base ≤ w.heap.size) (hF : IsFarm w F) (hnm : a.name.size ≤ maxLen) (hno : a.other.size ≤ maxLen) :
    Calls Try.prog 31 #[.pointer (some ⟨B, 0, none⟩), .agg (chrC a)] w (ChoreSaid F base B (stepD F S a) w) := by
  have hb1 : Below w.heap.size w (w.alloc (.cells (chrC a) 40)) := (Below.refl _ w).alloc (Nat.le_refl _) _
  have kA := Blk.new w 40 (chrC a)
  have hH1 := hH.below hb1
  have hF1 := hF.below hb1
  have hbb := Lib.hid (hb1.mono hbw)
  have hbs := hb1.size
  have hlook1 := look_hit (x := a.kind)
  have hlook2 := look_miss (x := a.kind)
  have hent := chN_enter a.kind
  have hcho : ∀ w', Hand F base B w' S S → base ≤ w'.heap.size → IsFarm w' F → (1 ≤ a.kind ∧ a.kind ≤ 8) → Calls Try.prog (chN a.kind) #[.pointer (some ⟨B, 0, none⟩), .agg (chrC a)] w' (ChoreSaid F base B (choreD F S a) w') := fun w' h1 h2 h3 h4 => chore_any F S a base B w' h1 hE hfit h2 h3 hnm hno h4
  have hnam := fun w' => named_any a w'
  have heq : ∀ w, (Op.equalIn 10000 40 (.agg (chrC a)) (.agg (chrC (namedM a)))).run Try.prog w = .ok (chrB a (namedM a)) w := run_equalIn_chore 9997 a (namedM a)
  generalize chN a.kind = NC at *
  unfold chrC at hb1 kA hH1 hF1 ⊢
  go_enter Try.func31, Try.ntmps31
  go_upto_region 1 with fail
  generalize w.alloc (.cells #[.int .i64 a.kind, .int .i64 a.plot, .int .i64 a.loads, .string a.name, .string a.other, .int .i64 a.days, .int .i64 a.per, .int .i64 a.rlo, .int .i64 a.rhi] 40) = w1 at *
  have lA := kA.lt
  have hstep : ∀ w', Below w1.heap.size w1 w' → Below w1.heap.size w1 w' ∧ (w'.cell? ⟨w.heap.size, 0, none⟩ = some (.int .i64 a.kind) ∧ w'.cell? ⟨w.heap.size, 1, none⟩ = some (.int .i64 a.plot) ∧ w'.cell? ⟨w.heap.size, 2, none⟩ = some (.int .i64 a.loads) ∧ w'.cell? ⟨w.heap.size, 3, none⟩ = some (.string a.name) ∧ w'.cell? ⟨w.heap.size, 4, none⟩ = some (.string a.other) ∧ w'.cell? ⟨w.heap.size, 5, none⟩ = some (.int .i64 a.days) ∧ w'.cell? ⟨w.heap.size, 6, none⟩ = some (.int .i64 a.per) ∧ w'.cell? ⟨w.heap.size, 7, none⟩ = some (.int .i64 a.rlo) ∧ w'.cell? ⟨w.heap.size, 8, none⟩ = some (.int .i64 a.rhi)) := fun w' hb => by
    have k := kA.belowS hb
    exact ⟨hb, k.cell 0, k.cell 1, k.cell 2, k.cell 3, k.cell 4, k.cell 5, k.cell 6, k.cell 7, k.cell 8⟩
  have HST := Lib.hid hstep
  have hx := hstep w1.drew ((Below.refl _ w1).drew)
  have HH1 := Lib.hid hH1
  have HF1 := Lib.hid hF1
  have HB1 := Lib.hid hb1
  have HCHO := Lib.hid hcho
  have HNAM := Lib.hid hnam
  have HL1 := Lib.hid hlook1
  have HL2 := Lib.hid hlook2
  have HEQ := Lib.hid heq
  have HEN := Lib.hid hent
  clear hH hF hH1 hF1 hb1 kA hstep hcho hnam hlook1 hlook2 heq hent
  refine wp_region_E 9 (fun w' : World => Below w1.heap.size w1 w' ∧ (w'.cell? ⟨w.heap.size, 0, none⟩ = some (.int .i64 a.kind) ∧ w'.cell? ⟨w.heap.size, 1, none⟩ = some (.int .i64 a.plot) ∧ w'.cell? ⟨w.heap.size, 2, none⟩ = some (.int .i64 a.loads) ∧ w'.cell? ⟨w.heap.size, 3, none⟩ = some (.string a.name) ∧ w'.cell? ⟨w.heap.size, 4, none⟩ = some (.string a.other) ∧ w'.cell? ⟨w.heap.size, 5, none⟩ = some (.int .i64 a.days) ∧ w'.cell? ⟨w.heap.size, 6, none⟩ = some (.int .i64 a.per) ∧ w'.cell? ⟨w.heap.size, 7, none⟩ = some (.int .i64 a.rlo) ∧ w'.cell? ⟨w.heap.size, 8, none⟩ = some (.int .i64 a.rhi))) (by kernel_rfl) ?_
  refine E_takeR (i := 1) (oi := _) (v := ?v62) rfl (by kernel_rfl) (by kernel_rfl) (by kernel_rfl) (by decide) (fun _ _ _ h => h) hx (Or.inl ⟨by rfl, ?y62⟩) ?r62
  case y62 => (intro w' hSw; (try dsimp only at hSw); go_simp; try with_reducible rfl)
  try simp only [Act.put, List.getElem_toArray, List.getElem_cons_zero, List.getElem_cons_succ, List.setIfInBounds_toArray, List.set_cons_zero, List.set_cons_succ]
  refine E_takeR (i := 2) (oi := _) (v := ?v63) rfl (by kernel_rfl) (by kernel_rfl) (by kernel_rfl) (by decide) (fun _ _ _ h => h) hx (Or.inl ⟨by rfl, ?y63⟩) ?r63
  case y63 => (intro w' hSw; (try dsimp only at hSw); go_simp; try with_reducible rfl)
  try simp only [Act.put, List.getElem_toArray, List.getElem_cons_zero, List.getElem_cons_succ, List.setIfInBounds_toArray, List.set_cons_zero, List.set_cons_succ]
  refine E_step (i := 0) (o := _) (by kernel_rfl) rfl (fun K hK => ?_)
  go_simp
  refine (chores_any _).mono ?_
  rintro r w2 ⟨rfl, hw2⟩
  dsimp only
  have hb2 : Below w1.heap.size w1 w2 := by rw [hw2]; exact ((Below.refl _ w1).drew).alloc (by show w1.heap.size ≤ w1.heap.size; exact Nat.le_refl _) _
  have hmap : w2.heap[w1.heap.size]? = some (.map chEs 8) := by rw [hw2]; exact heap_alloc_new w1.drew _
  have hx2 := HST.out w2 hb2
  refine hK.out _ _ (fun _ => hx2) ?_
  clear hK K hw2
  try simp only [Act.put, List.getElem_toArray, List.getElem_cons_zero, List.getElem_cons_succ, List.setIfInBounds_toArray, List.set_cons_zero, List.set_cons_succ]
  by_cases hkn : 1 ≤ a.kind ∧ a.kind ≤ 8
  rotate_left
  · have hlk := HL2.out w2 _ hmap hkn
    have HV := Lib.hid (show (stepD F S a).1 = 1 by unfold stepD; rw [if_pos (fun e => hkn ⟨e.1, e.2.1⟩)])
    clear hkn
    refine E_step (i := 3) (o := _) (by kernel_rfl) rfl (fun K hK => ?_)
    go_simp
    refine hK.out _ _ (fun _ => hx2) ?_
    clear hK K
    try simp only [Act.put, List.getElem_toArray, List.getElem_cons_zero, List.getElem_cons_succ, List.setIfInBounds_toArray, List.set_cons_zero, List.set_cons_succ]
    refine E_takeR (i := 4) (oi := _) (v := ?v64) rfl (by kernel_rfl) (by kernel_rfl) (by kernel_rfl) (by decide) (fun _ _ _ h => h) hx2 (Or.inl ⟨by rfl, ?y64⟩) ?r64
    case y64 => (intro w' hSw; (try dsimp only at hSw); go_simp; try with_reducible rfl)
    try simp only [Act.put, List.getElem_toArray, List.getElem_cons_zero, List.getElem_cons_succ, List.setIfInBounds_toArray, List.set_cons_zero, List.set_cons_succ]
    refine E_takeR (i := 5) (oi := _) (v := ?v65) rfl (by kernel_rfl) (by kernel_rfl) (by kernel_rfl) (by decide) (fun _ _ _ h => h) hx2 (Or.inl ⟨by rfl, ?y65⟩) ?r65
    case y65 => (intro w' hSw; (try dsimp only at hSw); go_simp; try with_reducible rfl)
    try simp only [Act.put, List.getElem_toArray, List.getElem_cons_zero, List.getElem_cons_succ, List.setIfInBounds_toArray, List.set_cons_zero, List.set_cons_succ]
    refine E_takeR (i := 6) (oi := _) (v := ?v66) rfl (by kernel_rfl) (by kernel_rfl) (by kernel_rfl) (by decide) (fun _ _ _ h => h) hx2 (Or.inl ⟨by rfl, ?y66⟩) ?r66
    case y66 => (intro w' hSw; (try dsimp only at hSw); go_simp; try with_reducible rfl)
    try simp only [Act.put, List.getElem_toArray, List.getElem_cons_zero, List.getElem_cons_succ, List.setIfInBounds_toArray, List.set_cons_zero, List.set_cons_succ]
    refine E_takeR (i := 7) (oi := _) (v := ?v67) rfl (by kernel_rfl) (by kernel_rfl) (by kernel_rfl) (by decide) (fun _ _ _ h => h) hx2 (Or.inl ⟨by rfl, ?y67⟩) ?r67
    case y67 => (intro w' hSw; (try dsimp only at hSw); go_simp; try with_reducible rfl)
    try simp only [Act.put, List.getElem_toArray, List.getElem_cons_zero, List.getElem_cons_succ, List.setIfInBounds_toArray, List.set_cons_zero, List.set_cons_succ]
    refine E_takeR (i := 8) (oi := _) (v := ?v68) rfl (by kernel_rfl) (by kernel_rfl) (by kernel_rfl) (by decide) (fun _ _ _ h => h) hx2 (Or.inl ⟨by rfl, ?y68⟩) ?r68
    case y68 => (intro w' hSw; (try dsimp only at hSw); go_simp; try with_reducible rfl)
    try simp only [Act.put, List.getElem_toArray, List.getElem_cons_zero, List.getElem_cons_succ, List.setIfInBounds_toArray, List.set_cons_zero, List.set_cons_succ]
    refine E_done (by kernel_rfl) ?_ _
    have hx := HST.out w2.drew (hx2.1.trans ((Below.refl w2.heap.size w2).drew.mono hx2.1.size))
    go_upto_region 2 with fail
    refine wp_region_E 8 (fun w' : World => Below w1.heap.size w1 w' ∧ (w'.cell? ⟨w.heap.size, 0, none⟩ = some (.int .i64 a.kind) ∧ w'.cell? ⟨w.heap.size, 1, none⟩ = some (.int .i64 a.plot) ∧ w'.cell? ⟨w.heap.size, 2, none⟩ = some (.int .i64 a.loads) ∧ w'.cell? ⟨w.heap.size, 3, none⟩ = some (.string a.name) ∧ w'.cell? ⟨w.heap.size, 4, none⟩ = some (.string a.other) ∧ w'.cell? ⟨w.heap.size, 5, none⟩ = some (.int .i64 a.days) ∧ w'.cell? ⟨w.heap.size, 6, none⟩ = some (.int .i64 a.per) ∧ w'.cell? ⟨w.heap.size, 7, none⟩ = some (.int .i64 a.rlo) ∧ w'.cell? ⟨w.heap.size, 8, none⟩ = some (.int .i64 a.rhi))) (by kernel_rfl) ?_
    refine E_takeR (i := 0) (oi := _) (v := ?v69) rfl (by kernel_rfl) (by kernel_rfl) (by kernel_rfl) (by decide) (fun _ _ _ h => h) hx (Or.inl ⟨by rfl, ?y69⟩) ?r69
    case y69 => (intro w' hSw; (try dsimp only at hSw); go_simp; try with_reducible rfl)
    try simp only [Act.put, List.getElem_toArray, List.getElem_cons_zero, List.getElem_cons_succ, List.setIfInBounds_toArray, List.set_cons_zero, List.set_cons_succ]
    refine E_takeR (i := 1) (oi := _) (v := ?v70) rfl (by kernel_rfl) (by kernel_rfl) (by kernel_rfl) (by decide) (fun _ _ _ h => h) hx (Or.inl ⟨by rfl, ?y70⟩) ?r70
    case y70 => (intro w' hSw; (try dsimp only at hSw); go_simp; try with_reducible rfl)
    try simp only [Act.put, List.getElem_toArray, List.getElem_cons_zero, List.getElem_cons_succ, List.setIfInBounds_toArray, List.set_cons_zero, List.set_cons_succ]
    refine E_takeR (i := 2) (oi := _) (v := undef) rfl (by kernel_rfl) (by kernel_rfl) (by kernel_rfl) (by decide) (fun _ _ _ h => h) hx (Or.inr ⟨by rfl, rfl⟩) ?r71
    try simp only [Act.put, List.getElem_toArray, List.getElem_cons_zero, List.getElem_cons_succ, List.setIfInBounds_toArray, List.set_cons_zero, List.set_cons_succ]
    refine E_takeR (i := 3) (oi := _) (v := undef) rfl (by kernel_rfl) (by kernel_rfl) (by kernel_rfl) (by decide) (fun _ _ _ h => h) hx (Or.inr ⟨by rfl, rfl⟩) ?r72
    try simp only [Act.put, List.getElem_toArray, List.getElem_cons_zero, List.getElem_cons_succ, List.setIfInBounds_toArray, List.set_cons_zero, List.set_cons_succ]
    refine E_step (i := 4) (o := _) (by kernel_rfl) rfl (fun K hK => ?_)
    go_simp
    refine hK.out _ _ (fun _ => hx) ?_
    clear hK K
    try simp only [Act.put, List.getElem_toArray, List.getElem_cons_zero, List.getElem_cons_succ, List.setIfInBounds_toArray, List.set_cons_zero, List.set_cons_succ]
    refine E_takeR (i := 5) (oi := _) (v := undef) rfl (by kernel_rfl) (by kernel_rfl) (by kernel_rfl) (by decide) (fun _ _ _ h => h) hx (Or.inr ⟨by rfl, rfl⟩) ?r73
    try simp only [Act.put, List.getElem_toArray, List.getElem_cons_zero, List.getElem_cons_succ, List.setIfInBounds_toArray, List.set_cons_zero, List.set_cons_succ]
    refine E_takeR (i := 6) (oi := _) (v := ?v74) rfl (by kernel_rfl) (by kernel_rfl) (by kernel_rfl) (by decide) (fun _ _ _ h => h) hx (Or.inl ⟨by rfl, ?y74⟩) ?r74
    case y74 => (intro w' hSw; (try dsimp only at hSw); go_simp; try with_reducible rfl)
    try simp only [Act.put, List.getElem_toArray, List.getElem_cons_zero, List.getElem_cons_succ, List.setIfInBounds_toArray, List.set_cons_zero, List.set_cons_succ]
    refine E_step (i := 7) (o := _) (by kernel_rfl) rfl (fun K hK => ?_)
    go_simp
    refine (require_no 1 _).mono ?_
    rintro r w7 ⟨rfl, rfl⟩
    dsimp only
    exact ⟨rfl, ChoreSaid.err 1 HV.out (by decide) (hbb.out.trans (hx.1.mono (Nat.le_trans hbw HB1.out.size)))⟩
  have hlk := HL1.out w2 _ hmap hkn
  have HKN := Lib.hid hkn
  refine E_step (i := 3) (o := _) (by kernel_rfl) rfl (fun K hK => ?_)
  go_simp
  refine hK.out _ _ (fun _ => hx2) ?_
  clear hK K
  try simp only [Act.put, List.getElem_toArray, List.getElem_cons_zero, List.getElem_cons_succ, List.setIfInBounds_toArray, List.set_cons_zero, List.set_cons_succ]
  refine E_takeR (i := 4) (oi := _) (v := ?v75) rfl (by kernel_rfl) (by kernel_rfl) (by kernel_rfl) (by decide) (fun _ _ _ h => h) hx2 (Or.inl ⟨by rfl, ?y75⟩) ?r75
  case y75 => (intro w' hSw; (try dsimp only at hSw); go_simp; try with_reducible rfl)
  try simp only [Act.put, List.getElem_toArray, List.getElem_cons_zero, List.getElem_cons_succ, List.setIfInBounds_toArray, List.set_cons_zero, List.set_cons_succ]
  refine E_takeR (i := 5) (oi := _) (v := ?v76) rfl (by kernel_rfl) (by kernel_rfl) (by kernel_rfl) (by decide) (fun _ _ _ h => h) hx2 (Or.inl ⟨by rfl, ?y76⟩) ?r76
  case y76 => (intro w' hSw; (try dsimp only at hSw); go_simp; try with_reducible rfl)
  try simp only [Act.put, List.getElem_toArray, List.getElem_cons_zero, List.getElem_cons_succ, List.setIfInBounds_toArray, List.set_cons_zero, List.set_cons_succ]
  refine E_takeR (i := 6) (oi := _) (v := ?v77) rfl (by kernel_rfl) (by kernel_rfl) (by kernel_rfl) (by decide) (fun _ _ _ h => h) hx2 (Or.inl ⟨by rfl, ?y77⟩) ?r77
  case y77 => (intro w' hSw; (try dsimp only at hSw); go_simp; try with_reducible rfl)
  try simp only [Act.put, List.getElem_toArray, List.getElem_cons_zero, List.getElem_cons_succ, List.setIfInBounds_toArray, List.set_cons_zero, List.set_cons_succ]
  refine E_takeR (i := 7) (oi := _) (v := ?v78) rfl (by kernel_rfl) (by kernel_rfl) (by kernel_rfl) (by decide) (fun _ _ _ h => h) hx2 (Or.inl ⟨by rfl, ?y78⟩) ?r78
  case y78 => (intro w' hSw; (try dsimp only at hSw); go_simp; try with_reducible rfl)
  try simp only [Act.put, List.getElem_toArray, List.getElem_cons_zero, List.getElem_cons_succ, List.setIfInBounds_toArray, List.set_cons_zero, List.set_cons_succ]
  refine E_takeR (i := 8) (oi := _) (v := ?v79) rfl (by kernel_rfl) (by kernel_rfl) (by kernel_rfl) (by decide) (fun _ _ _ h => h) hx2 (Or.inl ⟨by rfl, ?y79⟩) ?r79
  case y79 => (intro w' hSw; (try dsimp only at hSw); go_simp; try with_reducible rfl)
  try simp only [Act.put, List.getElem_toArray, List.getElem_cons_zero, List.getElem_cons_succ, List.setIfInBounds_toArray, List.set_cons_zero, List.set_cons_succ]
  refine E_done (by kernel_rfl) ?_ _
  have hx := HST.out w2.drew (hx2.1.trans ((Below.refl w2.heap.size w2).drew.mono hx2.1.size))
  clear hkn
  go_upto_region 2 with fail
  refine wp_region_E 8 (fun w' : World => Below w1.heap.size w1 w' ∧ (w'.cell? ⟨w.heap.size, 0, none⟩ = some (.int .i64 a.kind) ∧ w'.cell? ⟨w.heap.size, 1, none⟩ = some (.int .i64 a.plot) ∧ w'.cell? ⟨w.heap.size, 2, none⟩ = some (.int .i64 a.loads) ∧ w'.cell? ⟨w.heap.size, 3, none⟩ = some (.string a.name) ∧ w'.cell? ⟨w.heap.size, 4, none⟩ = some (.string a.other) ∧ w'.cell? ⟨w.heap.size, 5, none⟩ = some (.int .i64 a.days) ∧ w'.cell? ⟨w.heap.size, 6, none⟩ = some (.int .i64 a.per) ∧ w'.cell? ⟨w.heap.size, 7, none⟩ = some (.int .i64 a.rlo) ∧ w'.cell? ⟨w.heap.size, 8, none⟩ = some (.int .i64 a.rhi))) (by kernel_rfl) ?_
  refine E_takeR (i := 0) (oi := _) (v := ?v80) rfl (by kernel_rfl) (by kernel_rfl) (by kernel_rfl) (by decide) (fun _ _ _ h => h) hx (Or.inl ⟨by rfl, ?y80⟩) ?r80
  case y80 => (intro w' hSw; (try dsimp only at hSw); go_simp; try with_reducible rfl)
  try simp only [Act.put, List.getElem_toArray, List.getElem_cons_zero, List.getElem_cons_succ, List.setIfInBounds_toArray, List.set_cons_zero, List.set_cons_succ]
  refine E_takeR (i := 1) (oi := _) (v := ?v81) rfl (by kernel_rfl) (by kernel_rfl) (by kernel_rfl) (by decide) (fun _ _ _ h => h) hx (Or.inl ⟨by rfl, ?y81⟩) ?r81
  case y81 => (intro w' hSw; (try dsimp only at hSw); go_simp; try with_reducible rfl)
  try simp only [Act.put, List.getElem_toArray, List.getElem_cons_zero, List.getElem_cons_succ, List.setIfInBounds_toArray, List.set_cons_zero, List.set_cons_succ]
  refine E_takeR (i := 2) (oi := _) (v := ?v82) rfl (by kernel_rfl) (by kernel_rfl) (by kernel_rfl) (by decide) (fun _ _ _ h => h) hx (Or.inl ⟨by rfl, ?y82⟩) ?r82
  case y82 => (intro w' hSw; (try dsimp only at hSw); go_simp; try with_reducible rfl)
  try simp only [Act.put, List.getElem_toArray, List.getElem_cons_zero, List.getElem_cons_succ, List.setIfInBounds_toArray, List.set_cons_zero, List.set_cons_succ]
  refine E_takeR (i := 3) (oi := _) (v := ?v83) rfl (by kernel_rfl) (by kernel_rfl) (by kernel_rfl) (by decide) (fun _ _ _ h => h) hx (Or.inl ⟨by rfl, ?y83⟩) ?r83
  case y83 => (intro w' hSw; (try dsimp only at hSw); go_simp; try with_reducible rfl)
  try simp only [Act.put, List.getElem_toArray, List.getElem_cons_zero, List.getElem_cons_succ, List.setIfInBounds_toArray, List.set_cons_zero, List.set_cons_succ]
  refine E_step (i := 4) (o := _) (by kernel_rfl) rfl (fun K hK => ?_)
  go_simp
  refine (HNAM.out _).mono ?_
  rintro r w3 ⟨rfl, hb3⟩
  dsimp only
  have hx3 := HST.out w3 (hx.1.trans (hb3.mono hx.1.size))
  refine hK.out _ _ (fun _ => hx3) ?_
  clear hK K
  try simp only [Act.put, List.getElem_toArray, List.getElem_cons_zero, List.getElem_cons_succ, List.setIfInBounds_toArray, List.set_cons_zero, List.set_cons_succ]
  have heq : ∀ w, (Op.equalIn 10000 40 (.agg #[.int .i64 a.kind, .int .i64 a.plot, .int .i64 a.loads, .string a.name, .string a.other, .int .i64 a.days, .int .i64 a.per, .int .i64 a.rlo, .int .i64 a.rhi]) (.agg (chrC (namedM a)))).run Try.prog w = .ok (chrB a (namedM a)) w := HEQ.out
  refine E_takeR (i := 5) (oi := _) (v := ?v84) rfl (by kernel_rfl) (by kernel_rfl) (by kernel_rfl) (by decide) (fun _ _ _ h => h) hx3 (Or.inl ⟨by rfl, ?y84⟩) ?r84
  case y84 => (intro w' hSw; (try dsimp only at hSw); go_simp; try with_reducible rfl)
  try simp only [Act.put, List.getElem_toArray, List.getElem_cons_zero, List.getElem_cons_succ, List.setIfInBounds_toArray, List.set_cons_zero, List.set_cons_succ]
  cases hch : chrB a (namedM a) with
  | false =>
    have HV := Lib.hid (show (stepD F S a).1 = 1 by unfold stepD; rw [if_pos (fun e => by have := e.2.2; rw [hch] at this; cases this)])
    clear hch
    refine E_takeR (i := 6) (oi := _) (v := ?v85) rfl (by kernel_rfl) (by kernel_rfl) (by kernel_rfl) (by decide) (fun _ _ _ h => h) hx3 (Or.inl ⟨by rfl, ?y85⟩) ?r85
    case y85 => (intro w' hSw; (try dsimp only at hSw); go_simp; try with_reducible rfl)
    try simp only [Act.put, List.getElem_toArray, List.getElem_cons_zero, List.getElem_cons_succ, List.setIfInBounds_toArray, List.set_cons_zero, List.set_cons_succ]
    refine E_step (i := 7) (o := _) (by kernel_rfl) rfl (fun K hK => ?_)
    go_simp
    refine (require_no 1 _).mono ?_
    rintro r w7 ⟨rfl, rfl⟩
    dsimp only
    exact ⟨rfl, ChoreSaid.err 1 HV.out (by decide) (hbb.out.trans (hx3.1.mono (Nat.le_trans hbw HB1.out.size)))⟩
  | true =>
  have hv : stepD F S a = choreD F S a := by unfold stepD; rw [if_neg (fun e => e ⟨HKN.out.1, HKN.out.2, hch⟩)]
  have HV := Lib.hid hv
  clear hch hv heq
  refine E_takeR (i := 6) (oi := _) (v := ?v86) rfl (by kernel_rfl) (by kernel_rfl) (by kernel_rfl) (by decide) (fun _ _ _ h => h) hx3 (Or.inl ⟨by rfl, ?y86⟩) ?r86
  case y86 => (intro w' hSw; (try dsimp only at hSw); go_simp; try with_reducible rfl)
  try simp only [Act.put, List.getElem_toArray, List.getElem_cons_zero, List.getElem_cons_succ, List.setIfInBounds_toArray, List.set_cons_zero, List.set_cons_succ]
  refine E_step (i := 7) (o := _) (by kernel_rfl) rfl (fun K hK => ?_)
  go_simp
  refine (require_yes 1 _).mono ?_
  rintro r w4 ⟨rfl, rfl⟩
  dsimp only
  refine hK.out _ _ (fun _ => hx3) ?_
  clear hK K
  try simp only [Act.put, List.getElem_toArray, List.getElem_cons_zero, List.getElem_cons_succ, List.setIfInBounds_toArray, List.set_cons_zero, List.set_cons_succ]
  refine E_done (by kernel_rfl) ?_ _
  obtain ⟨hb4, k0, k1, k2, k3, k4, k5, k6, k7, k8⟩ := hx3
  have HB4 := Lib.hid hb4
  have lA4 := Nat.lt_of_lt_of_le lA hb4.size
  have hent := HEN.out
  clear hx hx2 hmap hlk hb3 hb2 lA hb4
  go_wp2_with fail
  refine (HCHO.out _ (HH1.out.below HB4.out) (Nat.le_trans hbw (Nat.le_trans HB1.out.size HB4.out.size)) (HF1.out.below HB4.out) HKN.out).mono ?_
  rintro r w9 ⟨hs, hb9⟩
  have HBF := Lib.hid ((hbb.out.trans (HB4.out.mono (Nat.le_trans hbw HB1.out.size))).trans hb9)
  rcases hs with ⟨h1, rfl, h2⟩ | ⟨h1, rfl⟩
  · have H1 := Lib.hid h1
    have H2 := Lib.hid h2
    clear h1 h2 hb9
    go_wp2_with fail
    go_end0
    exact ⟨.inl ⟨by rw [HV.out]; exact H1.out, rfl, by rw [HV.out]; exact H2.out⟩, HBF.out⟩
  · have H1 := Lib.hid h1
    clear h1 hb9
    go_wp2_with fail
    exact ⟨rfl, .inr ⟨by rw [HV.out]; exact H1.out, by rw [HV.out]⟩, HBF.out⟩
end
end Go.Proofs.Ytghepojnimlafaa
namespace Go.Proofs.Ytghepojnimlafaa
section
set_option linter.unusedSimpArgs false
open Go.RowKit

theorem assert_is (x : Int) (w : World) : (Instr.typeAssert (.iface 30 (.int .i64 x)) 20 30 true).run Try.prog w = .ok (.tuple #[.int .i64 x, .bool true]) w := by kernel_rfl
theorem assert_not (w : World) : (Instr.typeAssert .nilIface 20 30 true).run Try.prog w = .ok (.tuple #[.int .i64 0, .bool false]) w := by kernel_rfl
abbrev zeroS : Array Value := #[.int .i64 0, .slice none 0 0, .slice none 0 0, .slice none 0 0, .slice none 0 0, .slice none 0 0]
def emptyS : Sto := ⟨0, none, 0, [], none, 0, [], none, 0, [], none, 0, [], none, 0, []⟩
theorem empty_own (base : Nat) (w : World) : OwnSto base w emptyS :=
  ⟨World.ownsRow_nil _ _ _ _, World.ownsRow_nil _ _ _ _, World.ownsRow_nil _ _ _ _, fun h hh => (by cases hh), World.ownsRow_nil _ _ _ _, World.ownsRow_nil _ _ _ _, fun h hh => (by cases hh), (by simp [rowsOf, emptyS])⟩

set_option maxRecDepth 100000 in
set_option maxHeartbeats 4000000 in
theorem catch_panicking (E : Nat) (x : Int) (older : List PanicEntry) (u0 : Value) (w : World) (k2 : Blk w E #[u0] 30) :
    CallsD Try.prog 49 #[.pointer (some ⟨E, 0, none⟩)] (.panicking ({ v := .iface 30 (.int .i64 x), recovered := false } :: older)) w fun e u' w' =>
      e = .returned (.tuple #[]) ∧ u' = .panicking ({ v := .iface 30 (.int .i64 x), recovered := true } :: older) ∧ w' = w.setCell ⟨E, 0, none⟩ (.int .i64 x) := by
  have d0 := k2.cell 0
  simp only [List.getElem?_toArray, List.getElem?_cons_zero, List.getElem?_cons_succ] at d0
  have y0 := k2.frozen 0
  refine callsD_of_wpS Try.func49 rfl fun c₀ cs hu => ?_
  apply wpS_seq
  apply wpS_region
  simp [wpOpsS, go_sem, recoverD, hu, Try.ntmps49, Exit.thenS, assert_is, assert_not]
  apply wpS_seq
  apply wpS_region
  simp [wpOpsS, go_sem, Exit.thenS]
  refine wpS_cond (t := true) (by simp [Act.eval, Array.replicate]) ?_
  simp only [if_true]
  apply wpS_region
  simp [wpOpsS, go_sem, d0, y0, bodyPostS, results, Try.results49]
set_option maxRecDepth 100000 in
set_option maxHeartbeats 4000000 in
theorem catch_idle (E : Nat) (w : World) :
    CallsD Try.prog 49 #[.pointer (some ⟨E, 0, none⟩)] .returning w fun e u' w' => e = .returned (.tuple #[]) ∧ u' = .returning ∧ w' = w := by
  refine callsD_of_wpS Try.func49 rfl fun c₀ cs hu => ?_
  apply wpS_seq
  apply wpS_region
  simp [wpOpsS, go_sem, recoverD, hu, Try.ntmps49, Exit.thenS, assert_is, assert_not]
  apply wpS_seq
  apply wpS_region
  simp [wpOpsS, go_sem, Exit.thenS]
  refine wpS_cond (t := false) (by simp [Act.eval, Array.replicate]) ?_
  simp only [Bool.false_eq_true, if_false]
  refine wpS_of_wp (wp_skip ?_)
  cases c₀
  simp_all [bodyPostS, results, Try.results49]

/-- What Do's closure does: it returns a store, or panics with an error. -/
def DoneSaid (x : Int) (T : Sto) (w : World) (e : Ending) (w' : World) : Prop :=
  ((x = 0 ∧ ∃ U, e = .returned (stoV U) ∧ OwnSto w.heap.size w' U ∧ SameSto U T) ∨ (x ≠ 0 ∧ e = chain x)) ∧ Below w.heap.size w w'

set_option maxRecDepth 100000 in
set_option maxHeartbeats 4000000 in
theorem answerIn_any (A B p q r : Nat) (x : Int) (T : Sto) (w : World) (kA : Blk w A #[.func (.func 30) #[] #[.pointer (some ⟨p, 0, none⟩), .pointer (some ⟨q, 0, none⟩), .pointer (some ⟨r, 0, none⟩)]] 85) (kB : Blk w B zeroS 45) (hdo : Calls Try.prog 30 #[.pointer (some ⟨p, 0, none⟩), .pointer (some ⟨q, 0, none⟩), .pointer (some ⟨r, 0, none⟩)] w (DoneSaid x T w)) :
    Calls Try.prog 43 #[.pointer (some ⟨A, 0, none⟩), .pointer (some ⟨B, 0, none⟩)] w fun e w' =>
      ((x = 0 ∧ e = .returned (.tuple #[]) ∧ ∃ U, Blk w' B (stoC U) 45 ∧ OwnSto w.heap.size w' U ∧ SameSto U T) ∨ (x ≠ 0 ∧ e = chain x ∧ Blk w' B zeroS 45)) ∧ Turn (fun k => k = B) w w' := by
  have lA := kA.lt
  have a0 : w.cell? ⟨A, 0, none⟩ = some (.func (.func 30) #[] #[.pointer (some ⟨p, 0, none⟩), .pointer (some ⟨q, 0, none⟩), .pointer (some ⟨r, 0, none⟩)]) := kA.cell 0
  have HDO := Lib.hid hdo
  have KB := Lib.hid kB
  clear kA kB hdo
  go_enter Try.func43, Try.ntmps43
  go_wp2_with fail
  refine HDO.out.mono ?_
  rintro e w1 ⟨h, hb⟩
  have kB1 := KB.out.belowS hb
  have lB := kB1.lt
  have HB := Lib.hid hb
  have HLT := Lib.hid KB.out.lt
  clear a0 lA hb HDO KB
  rcases h with ⟨hx, U, rfl, hU, hs⟩ | ⟨hx, rfl⟩
  · obtain ⟨b0, b1, b2, b3, b4, b5⟩ := sto_cells (S := emptyS) (show Blk w1 B (stoC emptyS) 45 from kB1)
    simp only [emptyS, List.length_nil] at b0 b1 b2 b3 b4 b5
    have z0 := kB1.frozen 0
    have z1 := kB1.frozen 1
    have z2 := kB1.frozen 2
    have z3 := kB1.frozen 3
    have z4 := kB1.frozen 4
    have z5 := kB1.frozen 5
    have HX := Lib.hid hx
    have HU := Lib.hid hU
    have HS := Lib.hid hs
    have KB1 := Lib.hid kB1
    clear hx hU hs kB1
    go_wp2_with fail
    have kf : Blk ((((((w1.setCell ⟨B, 0, none⟩ (.int .i64 U.year)).setCell ⟨B, 1, none⟩ (.slice U.la U.last.length U.lc)).setCell ⟨B, 2, none⟩ (.slice U.ga U.given.length U.gc)).setCell ⟨B, 3, none⟩ (.slice U.ha U.heaps.length U.hc)).setCell ⟨B, 4, none⟩ (.slice U.ua U.used.length U.uc)).setCell ⟨B, 5, none⟩ (.slice U.wa U.waste.length U.wc)) B (stoC U) 45 := ((((((KB1.out.set 0 (.int .i64 U.year)).set 1 (.slice U.la U.last.length U.lc)).set 2 (.slice U.ga U.given.length U.gc)).set 3 (.slice U.ha U.heaps.length U.hc)).set 4 (.slice U.ua U.used.length U.uc)).set 5 (.slice U.wa U.waste.length U.wc))
    have ht : Turn (fun k => k = B) w1 ((((((w1.setCell ⟨B, 0, none⟩ (.int .i64 U.year)).setCell ⟨B, 1, none⟩ (.slice U.la U.last.length U.lc)).setCell ⟨B, 2, none⟩ (.slice U.ga U.given.length U.gc)).setCell ⟨B, 3, none⟩ (.slice U.ha U.heaps.length U.hc)).setCell ⟨B, 4, none⟩ (.slice U.ua U.used.length U.uc)).setCell ⟨B, 5, none⟩ (.slice U.wa U.waste.length U.wc)) := (((((((Turn.of_below (X := fun k => k = B) (Below.refl _ w1)).setCell (B := B) rfl 0 (.int .i64 U.year)).setCell (B := B) rfl 1 (.slice U.la U.last.length U.lc)).setCell (B := B) rfl 2 (.slice U.ga U.given.length U.gc)).setCell (B := B) rfl 3 (.slice U.ha U.heaps.length U.hc)).setCell (B := B) rfl 4 (.slice U.ua U.used.length U.uc)).setCell (B := B) rfl 5 (.slice U.wa U.waste.length U.wc))
    generalize ((((((w1.setCell ⟨B, 0, none⟩ (.int .i64 U.year)).setCell ⟨B, 1, none⟩ (.slice U.la U.last.length U.lc)).setCell ⟨B, 2, none⟩ (.slice U.ga U.given.length U.gc)).setCell ⟨B, 3, none⟩ (.slice U.ha U.heaps.length U.hc)).setCell ⟨B, 4, none⟩ (.slice U.ua U.used.length U.uc)).setCell ⟨B, 5, none⟩ (.slice U.wa U.waste.length U.wc)) = wf at *
    go_end0
    exact ⟨.inl ⟨HX.out, rfl, U, kf, HU.out.turn ht (fun k e hk => by have := (HU.out.ge k hk).1; have := HLT.out; rw [show k = B from e] at *; omega), HS.out⟩, (Turn.of_below HB.out).trans ht⟩
  · have HX := Lib.hid hx
    have KB1 := Lib.hid kB1
    clear hx kB1
    go_wp2_with fail
    exact ⟨rfl, .inr ⟨HX.out, rfl, KB1.out⟩, Turn.of_below HB.out⟩

set_option maxRecDepth 100000 in
set_option maxHeartbeats 4000000 in
theorem ofDo_any (A B p q r : Nat) (x : Int) (T : Sto) (w : World) (kA : Blk w A #[.func (.func 30) #[] #[.pointer (some ⟨p, 0, none⟩), .pointer (some ⟨q, 0, none⟩), .pointer (some ⟨r, 0, none⟩)]] 85) (kB : Blk w B zeroS 45) (hdo : ∀ w1, Below w.heap.size w w1 → Calls Try.prog 30 #[.pointer (some ⟨p, 0, none⟩), .pointer (some ⟨q, 0, none⟩), .pointer (some ⟨r, 0, none⟩)] w1 (DoneSaid x T w1)) :
    Calls Try.prog 42 #[.func (.func 43) #[] #[.pointer (some ⟨A, 0, none⟩), .pointer (some ⟨B, 0, none⟩)]] w fun e w' =>
      e = .returned (.int .i64 x) ∧ ((x = 0 ∧ ∃ U, Blk w' B (stoC U) 45 ∧ OwnSto w.heap.size w' U ∧ SameSto U T) ∨ (x ≠ 0 ∧ Blk w' B zeroS 45)) ∧ Turn (fun k => k = B) w w' := by
  have hmf : ∀ (fn : Fn) (first cap : Array Value) (w : World), (Instr.makeFunc fn first cap).run Try.prog w = .ok (.func fn first cap) w := fun _ _ _ _ => rfl
  have hb1 : Below w.heap.size w (w.alloc (.cells #[.int .i64 0] 30)) := (Below.refl _ w).alloc (Nat.le_refl _) _
  have kE := Blk.new w 30 #[.int .i64 0]
  have HAN := Lib.hid (answerIn_any A B p q r x T _ (kA.belowS hb1) (kB.belowS hb1) (hdo _ hb1))
  have HLB := Lib.hid kB.lt
  have HB1 := Lib.hid hb1
  clear kA kB hdo hb1
  go_enter_defers Try.func42, Try.ntmps42
  go_upto_region 1 with fail
  have hsz : (w.alloc (.cells #[.int .i64 0] 30)).heap.size = w.heap.size + 1 := World.size_alloc _ _
  have HSZ := Lib.hid hsz
  clear hsz
  generalize w.alloc (.cells #[.int .i64 0] 30) = w1 at *
  have KE := Lib.hid kE
  clear kE
  go_wp2_with fail
  refine HAN.out.mono ?_
  rintro e w2 ⟨h, ht⟩
  have kE2 := ht.blk KE.out (fun e => by have := HLB.out; rw [show w.heap.size = B from e] at this; omega)
  have lE := kE2.lt
  have HT := Lib.hid ht
  clear ht HAN
  rcases h with ⟨hx, rfl, U, hUb, hU, hs⟩ | ⟨hx, rfl, hUb⟩
  · have c0 : w2.cell? ⟨w.heap.size, 0, none⟩ = some (.int .i64 0) := kE2.cell 0
    have z0 := kE2.frozen 0
    have KE2 := Lib.hid kE2
    have HX := Lib.hid hx
    have HUB := Lib.hid hUb
    have HU := Lib.hid hU
    have HS := Lib.hid hs
    clear kE2 hx hUb hU hs
    go_wp2_with fail
    have kf := KE2.out.set 0 (.int .i64 0)
    have kb := HUB.out.other (show B ≠ w.heap.size by have := HLB.out; omega) (i := 0) (.int .i64 0)
    have ht : Turn (fun k => k = w.heap.size) w2 (w2.setCell ⟨w.heap.size, 0, none⟩ (.int .i64 0)) := (Turn.of_below (X := fun k => k = w.heap.size) (Below.refl _ w2)).setCell (B := w.heap.size) rfl 0 (.int .i64 0)
    generalize w2.setCell ⟨w.heap.size, 0, none⟩ (.int .i64 0) = wf at *
    have g0 : wf.cell? ⟨w.heap.size, 0, none⟩ = some (.int .i64 0) := kf.cell 0
    clear c0 z0
    refine leaves_cons (f := 49) (args := #[.pointer (some ⟨w.heap.size, 0, none⟩)]) (by simp) (by simp [go_sem]) ?_
    refine (catch_idle w.heap.size _).mono ?_
    rintro e u' w'' ⟨rfl, rfl, rfl⟩
    simp [Leaves, settle, results, Try.results42, go_sem, g0]
    refine ⟨HX.out.symm, .inl ⟨HX.out, U, kb, (HU.out.turn ht (fun k e hk => ?_)).mono (by rw [HSZ.out]; exact Nat.le_succ _), HS.out⟩, ?_⟩
    · have := (HU.out.ge k hk).1
      rw [HSZ.out, show k = w.heap.size from e] at this
      omega
    · exact ((Turn.of_below (X := fun k => k = B ∨ k = w.heap.size) HB1.out).trans ((HT.out.mono (fun k _ e => .inl e)).trans (ht.mono (fun k _ e => .inr e)))).mono (fun k hk e => by
        rcases e with e | e
        · exact e
        · omega)
  · have KE2 := Lib.hid kE2
    have HX := Lib.hid hx
    have HUB := Lib.hid hUb
    clear kE2 hx hUb
    go_wp2_with fail
    refine leaves_cons (f := 49) (args := #[.pointer (some ⟨w.heap.size, 0, none⟩)]) (by simp) (by simp [go_sem]) ?_
    refine (catch_panicking w.heap.size x [] _ w2 KE2.out).mono ?_
    rintro e u' wf ⟨rfl, rfl, hwf⟩
    have g0 : wf.cell? ⟨w.heap.size, 0, none⟩ = some (.int .i64 x) := by rw [hwf]; exact (KE2.out.set 0 (.int .i64 x)).cell 0
    simp [Leaves, settle, results, Try.results42, go_sem, g0]
    have kb := HUB.out.other (show B ≠ w.heap.size by have := HLB.out; omega) (i := 0) (.int .i64 x)
    have ht : Turn (fun k => k = w.heap.size) w2 (w2.setCell ⟨w.heap.size, 0, none⟩ (.int .i64 x)) := (Turn.of_below (X := fun k => k = w.heap.size) (Below.refl _ w2)).setCell (B := w.heap.size) rfl 0 (.int .i64 x)
    rw [← hwf] at kb ht
    refine ⟨.inr ⟨HX.out, kb⟩, ?_⟩
    exact ((Turn.of_below (X := fun k => k = B ∨ k = w.heap.size) HB1.out).trans ((HT.out.mono (fun k _ e => .inl e)).trans (ht.mono (fun k _ e => .inr e)))).mono (fun k hk e => by
      rcases e with e | e
      · exact e
      · omega)

/-- The store that is told: that of what is done, or none. -/
def endS (x : Int) (T : Sto) : Sto := if x = 0 then T else emptyS
set_option maxRecDepth 100000 in
set_option maxHeartbeats 4000000 in
theorem answer_any (p q r : Nat) (x : Int) (T : Sto) (w : World) (hdo : ∀ w1, Below w.heap.size w w1 → Calls Try.prog 30 #[.pointer (some ⟨p, 0, none⟩), .pointer (some ⟨q, 0, none⟩), .pointer (some ⟨r, 0, none⟩)] w1 (DoneSaid x T w1)) :
    Calls Try.prog 29 #[.func (.func 30) #[] #[.pointer (some ⟨p, 0, none⟩), .pointer (some ⟨q, 0, none⟩), .pointer (some ⟨r, 0, none⟩)]] w fun e w' =>
      (∃ U, e = .returned (.tuple #[stoV U, .int .i64 x]) ∧ OwnSto w.heap.size w' U ∧ SameSto U (endS x T)) ∧ Below w.heap.size w w' := by
  have hmf : ∀ (fn : Fn) (first cap : Array Value) (w : World), (Instr.makeFunc fn first cap).run Try.prog w = .ok (.func fn first cap) w := fun _ _ _ _ => rfl
  have kA := (Blk.new w 85 #[.func (.func 30) #[] #[.pointer (some ⟨p, 0, none⟩), .pointer (some ⟨q, 0, none⟩), .pointer (some ⟨r, 0, none⟩)]]).alloc (.cells zeroS 45)
  have kB := Blk.new (w.alloc (.cells #[.func (.func 30) #[] #[.pointer (some ⟨p, 0, none⟩), .pointer (some ⟨q, 0, none⟩), .pointer (some ⟨r, 0, none⟩)]] 85)) 45 zeroS
  have hb1 : Below w.heap.size w ((w.alloc (.cells #[.func (.func 30) #[] #[.pointer (some ⟨p, 0, none⟩), .pointer (some ⟨q, 0, none⟩), .pointer (some ⟨r, 0, none⟩)]] 85)).alloc (.cells zeroS 45)) := ((Below.refl _ w).alloc (Nat.le_refl _) _).alloc (by simp) _
  have hsz : ((w.alloc (.cells #[.func (.func 30) #[] #[.pointer (some ⟨p, 0, none⟩), .pointer (some ⟨q, 0, none⟩), .pointer (some ⟨r, 0, none⟩)]] 85)).alloc (.cells zeroS 45)).heap.size = w.heap.size + 1 + 1 := by rw [World.size_alloc, World.size_alloc]
  rw [World.size_alloc] at kB
  have HDO := Lib.hid hdo
  have HSZ := Lib.hid hsz
  clear hdo hsz
  go_enter Try.func29, Try.ntmps29
  go_upto_region 1 with fail
  generalize (w.alloc (.cells #[.func (.func 30) #[] #[.pointer (some ⟨p, 0, none⟩), .pointer (some ⟨q, 0, none⟩), .pointer (some ⟨r, 0, none⟩)]] 85)).alloc (.cells zeroS 45) = w1 at *
  have HOF := Lib.hid (ofDo_any w.heap.size (w.heap.size + 1) p q r x T w1 kA kB (fun w2 h => HDO.out w2 (hb1.trans (h.mono hb1.size))))
  have HB1 := Lib.hid hb1
  clear kA kB hb1 HDO
  go_wp2_with fail
  refine HOF.out.mono ?_
  rintro e w2 ⟨rfl, h, ht⟩
  have HB2 := Lib.hid (HB1.out.trans (ht.below HB1.out.size (fun k e => by rw [show k = w.heap.size + 1 from e]; exact Nat.le_succ _)))
  have HT := Lib.hid ht.size
  clear ht HOF
  obtain ⟨U, hUb, hU, hs⟩ : ∃ U, Blk w2 (w.heap.size + 1) (stoC U) 45 ∧ OwnSto w1.heap.size w2 U ∧ SameSto U (endS x T) := by
    rcases h with ⟨hx, U, h1, h2, h3⟩ | ⟨hx, h1⟩
    · exact ⟨U, h1, h2, by unfold endS; rw [if_pos hx]; exact h3⟩
    · exact ⟨emptyS, h1, empty_own _ _, by unfold endS; rw [if_neg hx]; exact SameSto.refl _⟩
  obtain ⟨b0, b1, b2, b3, b4, b5⟩ := sto_cells hUb
  have lB := hUb.lt
  have z0 := hUb.frozen 0
  have z1 := hUb.frozen 1
  have z2 := hUb.frozen 2
  have z3 := hUb.frozen 3
  have z4 := hUb.frozen 4
  have z5 := hUb.frozen 5
  have KB := Lib.hid hUb
  have HU := Lib.hid hU
  have HS := Lib.hid hs
  clear h hUb hU hs
  go_wp2_with fail
  have kf : Blk ((((((w2.setCell ⟨w.heap.size + 1, 0, none⟩ (.int .i64 U.year)).setCell ⟨w.heap.size + 1, 1, none⟩ (.slice U.la U.last.length U.lc)).setCell ⟨w.heap.size + 1, 2, none⟩ (.slice U.ga U.given.length U.gc)).setCell ⟨w.heap.size + 1, 3, none⟩ (.slice U.ha U.heaps.length U.hc)).setCell ⟨w.heap.size + 1, 4, none⟩ (.slice U.ua U.used.length U.uc)).setCell ⟨w.heap.size + 1, 5, none⟩ (.slice U.wa U.waste.length U.wc)) (w.heap.size + 1) (stoC U) 45 := ((((((KB.out.set 0 (.int .i64 U.year)).set 1 (.slice U.la U.last.length U.lc)).set 2 (.slice U.ga U.given.length U.gc)).set 3 (.slice U.ha U.heaps.length U.hc)).set 4 (.slice U.ua U.used.length U.uc)).set 5 (.slice U.wa U.waste.length U.wc))
  have ht : Turn (fun k => k = w.heap.size + 1) w2 ((((((w2.setCell ⟨w.heap.size + 1, 0, none⟩ (.int .i64 U.year)).setCell ⟨w.heap.size + 1, 1, none⟩ (.slice U.la U.last.length U.lc)).setCell ⟨w.heap.size + 1, 2, none⟩ (.slice U.ga U.given.length U.gc)).setCell ⟨w.heap.size + 1, 3, none⟩ (.slice U.ha U.heaps.length U.hc)).setCell ⟨w.heap.size + 1, 4, none⟩ (.slice U.ua U.used.length U.uc)).setCell ⟨w.heap.size + 1, 5, none⟩ (.slice U.wa U.waste.length U.wc)) := (((((((Turn.of_below (X := fun k => k = w.heap.size + 1) (Below.refl _ w2)).setCell (B := w.heap.size + 1) rfl 0 (.int .i64 U.year)).setCell (B := w.heap.size + 1) rfl 1 (.slice U.la U.last.length U.lc)).setCell (B := w.heap.size + 1) rfl 2 (.slice U.ga U.given.length U.gc)).setCell (B := w.heap.size + 1) rfl 3 (.slice U.ha U.heaps.length U.hc)).setCell (B := w.heap.size + 1) rfl 4 (.slice U.ua U.used.length U.uc)).setCell (B := w.heap.size + 1) rfl 5 (.slice U.wa U.waste.length U.wc))
  generalize ((((((w2.setCell ⟨w.heap.size + 1, 0, none⟩ (.int .i64 U.year)).setCell ⟨w.heap.size + 1, 1, none⟩ (.slice U.la U.last.length U.lc)).setCell ⟨w.heap.size + 1, 2, none⟩ (.slice U.ga U.given.length U.gc)).setCell ⟨w.heap.size + 1, 3, none⟩ (.slice U.ha U.heaps.length U.hc)).setCell ⟨w.heap.size + 1, 4, none⟩ (.slice U.ua U.used.length U.uc)).setCell ⟨w.heap.size + 1, 5, none⟩ (.slice U.wa U.waste.length U.wc)) = wf at *
  clear b0 b1 b2 b3 b4 b5 z0 z1 z2 z3 z4 z5
  obtain ⟨g0, g1, g2, g3, g4, g5⟩ := sto_cells kf
  refine bodyPost_ret (v := .tuple #[stoV U, .int .i64 x]) (by simp [results, Try.results29, go_sem, g0, g1, g2, g3, g4, g5]) rfl ⟨⟨U, rfl, (HU.out.turn ht (fun k e hk => ?_)).mono HB1.out.size, HS.out⟩, HB2.out.trans (ht.below HB2.out.size (fun k e => by rw [show k = w.heap.size + 1 from e]; exact Nat.le_succ _))⟩
  have := (HU.out.ge k hk).1
  rw [HSZ.out, show k = w.heap.size + 1 from e] at this
  omega
end
end Go.Proofs.Ytghepojnimlafaa
namespace Go.Proofs.Ytghepojnimlafaa
section
set_option linter.unusedSimpArgs false
open Go.RowKit

theorem sameH_cons {x y : Hep} {l m : List Hep} (h : sameH (x :: l) (y :: m)) : SameHep x y ∧ sameH l m :=
  ⟨h.2 0 x y rfl rfl, by simpa using h.1, fun i g k hg hk => h.2 (i + 1) g k (by simpa using hg) (by simpa using hk)⟩
theorem sameH_fold {α : Type} (f : Hep → α) (hf : ∀ x y, SameHep x y → f x = f y) : ∀ {l m : List Hep}, sameH l m → l.map f = m.map f
  | [], [], _ => rfl
  | [], _ :: _, h => by have := h.1; simp at this
  | _ :: _, [], h => by have := h.1; simp at this
  | x :: l, y :: m, h => by
    obtain ⟨h1, h2⟩ := sameH_cons h
    rw [List.map_cons, List.map_cons, hf x y h1, sameH_fold f hf h2]
theorem same_idx {l m : List Hep} (h : sameH l m) (nm : ByteArray) : idxH l nm = idxH m nm := by
  have h1 := sameH_fold (fun x : Hep => x.name) (fun _ _ k => k.name) h
  have key : ∀ l : List Hep, l.findIdx? (fun h => strB h.name nm) = (l.map (·.name)).findIdx? (fun s => strB s nm) := fun l => by rw [List.findIdx?_map]; rfl
  unfold idxH
  rw [key l, key m, h1]
theorem same_left {l m : List Hep} (h : sameH l m) (i : Int) : leftM i l = leftM i m := by
  induction l generalizing m with
  | nil => cases m with
    | nil => rfl
    | cons _ _ => have := h.1; simp at this
  | cons x l ih => cases m with
    | nil => have := h.1; simp at this
    | cons y m =>
      obtain ⟨h1, h2⟩ := sameH_cons h
      simp only [leftM, h1.parts, ih h2]
theorem same_heaps {l m : List Hep} (h : sameH l m) : heapsM l = heapsM m := by
  induction l generalizing m with
  | nil => cases m with
    | nil => rfl
    | cons _ _ => have := h.1; simp at this
  | cons x l ih => cases m with
    | nil => have := h.1; simp at this
    | cons y m =>
      obtain ⟨h1, h2⟩ := sameH_cons h
      simp only [heapsM, h1.parts, ih h2]
theorem sameH.take {l m : List Hep} (h : sameH l m) (i : Nat) : Go.Proofs.Ytghepojnimlafaa.sameH (l.take i) (m.take i) := by
  refine ⟨by rw [List.length_take, List.length_take, h.1], fun j g k hg hk => ?_⟩
  rw [List.getElem?_take] at hg hk
  split at hg
  · next e => rw [if_pos e] at hk; exact h.2 j g k hg hk
  · cases hg
theorem same_heapB {ps : List Plt} {x y : Hep} (h : SameHep x y) : heapB ps x = heapB ps y := by
  unfold heapB
  rw [h.name, h.crop, h.stage, h.wlo, h.whi, h.parts, h.per]
theorem same_heapsB {ps : List Plt} {l m : List Hep} (h : sameH l m) : heapsB ps l = heapsB ps m := by
  unfold heapsB
  rw [h.1]
  congr 1
  have : heapAt ps l = heapAt ps m := by
    funext i
    unfold heapAt
    cases hl : l[i]? with
    | none =>
      have : m[i]? = none := by rw [List.getElem?_eq_none_iff] at hl ⊢; rw [← h.1]; exact hl
      rw [this]
    | some x =>
      obtain ⟨y, hy, hxy⟩ := h.get hl
      rw [hy]
      simp only [same_idx (h.take i), hxy.name, same_heapB hxy]
  rw [this]
theorem same_there {l m : List Hep} (h : sameH l m) (used waste : List Prt) : thereM used l waste = thereM used m waste := by
  funext i
  unfold thereM
  rw [same_left h]
theorem same_storeE {F : Frm} {S T : Sto} (h : SameSto S T) : storeE F S = storeE F T := by
  unfold storeE mayB balB
  rw [h.year, h.last, h.given, h.used, h.waste, same_heapsB h.sameH, same_there h.sameH]
theorem same_fit {S T : Sto} (h : SameSto S T) (hf : T.fit) : S.fit :=
  ⟨by rw [h.used]; exact hf.used, by rw [h.waste]; exact hf.waste, by rw [h.many]; exact hf.heaps, fun x hx => by
    obtain ⟨i, hi, rfl⟩ := List.getElem_of_mem hx
    obtain ⟨y, hy, hxy⟩ := h.sameH.get (List.getElem?_eq_getElem hi)
    rw [hxy.parts]
    exact hf.parts y (List.mem_of_getElem? hy)⟩
theorem same_hep {S T : Sto} (h : SameSto S T) (nm : ByteArray) : SameHep (hepAt S nm) (hepAt T nm) := by
  unfold hepAt
  rw [same_idx h.sameH nm]
  cases hl : S.heaps[(idxH T.heaps nm).toNat]? with
  | none =>
    have : T.heaps[(idxH T.heaps nm).toNat]? = none := by rw [List.getElem?_eq_none_iff] at hl ⊢; rw [← h.many]; exact hl
    rw [this]
    exact SameHep.refl _
  | some x =>
    obtain ⟨y, hy, hxy⟩ := h.sameH.get hl
    rw [hy]
    exact hxy
def SameR (r q : Int × Sto) : Prop := r.1 = q.1 ∧ SameSto r.2 q.2
theorem SameSto.withHeaps {S T : Sto} (h : SameSto S T) {l m : List Hep} (hl : Go.Proofs.Ytghepojnimlafaa.sameH l m) : SameSto { S with heaps := l } { T with heaps := m } := ⟨h.year, h.last, h.given, h.used, h.waste, hl.1, hl.2⟩
theorem same_all {S T : Sto} (h : SameSto S T) : allM S = allM T := by unfold allM; rw [h.used, h.waste, same_heaps h.sameH]
theorem same_year {S T : Sto} (h : SameSto S T) : SameR (yearD S) (yearD T) := by
  unfold yearD SameR
  rw [h.year]
  split
  · exact ⟨rfl, rfl, h.last, h.given, h.used, h.waste, h.many, h.heaps⟩
  · exact ⟨rfl, h⟩
theorem same_cut {F : Frm} {S T : Sto} (h : SameSto S T) (a : Chr) : SameR (cutD F S a) (cutD F T a) := by
  unfold cutD SameR
  rw [same_idx h.sameH, h.last, h.given, h.year, h.many, same_all h]
  repeat' split
  all_goals first
    | exact ⟨rfl, h⟩
    | exact ⟨rfl, rfl, rfl, rfl, h.used, h.waste, (h.sameH.append (SameHep.refl _)).1, (h.sameH.append (SameHep.refl _)).2⟩
theorem same_dry {S T : Sto} (h : SameSto S T) (a : Chr) : SameR (dryD S a) (dryD T a) := by
  have hh := same_hep h a.name
  unfold dryD SameR
  rw [same_idx h.sameH, hh.stage, hh.wlo, hh.whi]
  repeat' split
  all_goals first
    | exact ⟨rfl, h⟩
    | exact ⟨rfl, h.withHeaps (h.sameH.set _ ⟨hh.name, hh.crop, hh.stage, hh.parts, hh.per, rfl, rfl⟩)⟩
theorem same_comb {F : Frm} {S T : Sto} (h : SameSto S T) (a : Chr) : SameR (combD F S a) (combD F T a) := by
  have hh := same_hep h a.name
  unfold combD SameR
  rw [same_idx h.sameH, hh.stage, hh.whi, hh.parts, h.waste]
  have hm : sameH (moveH (S.heaps.set (idxH T.heaps a.name).toNat { hepAt S a.name with stage := 2 }) (idxH T.heaps a.name).toNat a.loads) (moveH (T.heaps.set (idxH T.heaps a.name).toNat { hepAt T a.name with stage := 2 }) (idxH T.heaps a.name).toNat a.loads) :=
    sameH.move (sameH.set h.sameH _ (x := { hepAt S a.name with stage := 2 }) (y := { hepAt T a.name with stage := 2 }) ⟨hh.name, hh.crop, rfl, hh.parts, hh.per, hh.wlo, hh.whi⟩) _ _
  repeat' split
  all_goals first
    | exact ⟨rfl, h⟩
    | exact ⟨rfl, h.year, h.last, h.given, h.used, rfl, hm.1, hm.2⟩
theorem same_join {S T : Sto} (h : SameSto S T) (a : Chr) : SameR (joinD S a) (joinD T a) := by
  have hh := same_hep h a.name
  have hk := same_hep h a.other
  unfold joinD SameR
  rw [same_idx h.sameH a.name, same_idx h.sameH a.other, hh.stage, hh.crop, hk.stage, hk.crop, hh.parts, hk.parts, hh.wlo, hh.whi, hk.wlo, hk.whi]
  repeat' split
  all_goals first
    | exact ⟨rfl, h⟩
    | (refine ⟨rfl, h.withHeaps (sameH.erase (sameH.set h.sameH _ ?_) _)⟩; exact ⟨hh.name, hh.crop, hh.stage, rfl, hh.per, rfl, rfl⟩)
theorem same_bind {F : Frm} {S T : Sto} (h : SameSto S T) (a : Chr) : SameR (bindD F S a) (bindD F T a) := by
  have hh := same_hep h a.name
  unfold bindD SameR
  rw [same_idx h.sameH a.name, same_idx h.sameH a.other, hh.stage, hh.crop, hh.parts, hh.wlo, hh.whi, h.many]
  repeat' split
  all_goals first
    | exact ⟨rfl, h⟩
    | exact ⟨rfl, h.withHeaps ((h.sameH.move _ _).append (SameHep.refl _))⟩
theorem same_use {S T : Sto} (h : SameSto S T) (a : Chr) : SameR (useD S a) (useD T a) := by
  have hh := same_hep h a.name
  unfold useD SameR
  rw [same_idx h.sameH a.name, hh.stage, hh.parts, hh.per, h.used]
  have hm := h.sameH.move (idxH T.heaps a.name).toNat (a.loads * (hepAt T a.name).per)
  repeat' split
  all_goals first
    | exact ⟨rfl, h⟩
    | exact ⟨rfl, h.year, h.last, h.given, rfl, h.waste, hm.1, hm.2⟩
theorem same_rot {F : Frm} {S T : Sto} (h : SameSto S T) (a : Chr) : SameR (rotD F S a) (rotD F T a) := by
  have hh := same_hep h a.name
  unfold rotD SameR
  rw [same_idx h.sameH a.name, hh.whi, hh.parts, h.waste]
  have hm := h.sameH.move (idxH T.heaps a.name).toNat (loadsM (hepAt T a.name).parts)
  repeat' split
  all_goals first
    | exact ⟨rfl, h⟩
    | exact ⟨rfl, h.year, h.last, h.given, h.used, rfl, hm.1, hm.2⟩
theorem same_chore {F : Frm} {S T : Sto} (h : SameSto S T) (a : Chr) : SameR (choreD F S a) (choreD F T a) := by
  unfold choreD
  repeat' split
  · exact same_year h
  · exact same_cut h a
  · exact same_dry h a
  · exact same_comb h a
  · exact same_join h a
  · exact same_bind h a
  · exact same_use h a
  · exact same_rot h a
theorem same_do {F : Frm} {S T : Sto} (h : SameSto S T) (a : Chr) : SameR (doD F S a) (doD F T a) := by
  unfold doD
  rw [same_storeE h]
  split
  · exact ⟨rfl, h⟩
  · split
    · exact ⟨rfl, h⟩
    · exact same_chore h a
end
end Go.Proofs.Ytghepojnimlafaa
