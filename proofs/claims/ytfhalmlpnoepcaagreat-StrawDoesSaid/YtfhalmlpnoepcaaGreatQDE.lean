/- A hand does a chore. copyStore: a store with rows of its own. What is done with a store, and may panic with an error: fault.Of and fault.Answer at Do's closure. What chores do hangs on what a store reads, not on where it lies. Do: the store behind a chore, or an error. -/
import Derived.Test.YtfhalmlpnoepcaaGreatKB
import Derived.Test.YtfhalmlpnoepcaaGreatKC
import Derived.Test.YtfhalmlpnoepcaaGreatJX
import Derived.Test.YtfhalmlpnoepcaaGreatJZ
import Derived.Test.YtfhalmlpnoepcaaGreatJU
import Derived.Test.YtfhalmlpnoepcaaGreatJN
import Derived.Test.YtfhalmlpnoepcaaGreatJT
import Derived.Test.YtfhalmlpnoepcaaGreatJR
import Derived.Test.YtfhalmlpnoepcaaGreatGL
import Derived.Test.YtfhalmlpnoepcaaGreatGF
import Derived.Defers
import Derived.Recover
import Derived.WalkSmall
import Derived.Laws.Pointers
import Derived.Deep.RegionHeld3
import Derived.Deep.DeepCutAuto
namespace Go.Proofs.YtfhalmlpnoepcaaGreat
section
set_option linter.unusedSimpArgs false
open Go.RowKit

theorem run_equalIn_span (d : Nat) (a b a' b' : Int) (w : World) : (Op.equalIn (d + 2) 32 (.agg #[.int .i64 a, .int .i64 b]) (.agg #[.int .i64 a', .int .i64 b'])).run Tryz.prog w = .ok (a == a' && b == b') w := by
  rw [run_equalIn_struct w (d + 1) 32 _ _ (by kernel_rfl) (by kernel_rfl)]
  by_cases e1 : a = a' <;> by_cases e2 : b = b'
  all_goals simp [Program.fieldsOf, Tryz.underlying32, Op.eqFields, go_sem, e1, e2]
set_option maxHeartbeats 2000000 in
theorem run_equalIn_chore (d : Nat) (a b : Chr) (w : World) : (Op.equalIn (d + 3) 34 (.agg (chrC a)) (.agg (chrC b))).run Tryz.prog w = .ok (chrB a b) w := by
  rw [run_equalIn_struct w (d + 2) 34 _ _ (by kernel_rfl) (by kernel_rfl)]
  have h1 := run_equalIn_span d a.rlo a.rhi b.rlo b.rhi
  obtain ⟨a1, a2, a3, a4, a5, a6, a7, a8, a9⟩ := a
  obtain ⟨b1, b2, b3, b4, b5, b6, b7, b8, b9⟩ := b
  simp only [chrB, strB] at h1 ⊢
  by_cases e1 : a1 = b1
  rotate_left
  · simp [Program.fieldsOf, Tryz.underlying34, Op.eqFields, go_sem, e1]
  subst e1
  by_cases e2 : a2 = b2
  rotate_left
  · simp [Program.fieldsOf, Tryz.underlying34, Op.eqFields, go_sem, e2]
  subst e2
  by_cases e3 : a3 = b3
  rotate_left
  · simp [Program.fieldsOf, Tryz.underlying34, Op.eqFields, go_sem, e3]
  subst e3
  cases e4 : (a4.toList == b4.toList) with
  | false => simp [Program.fieldsOf, Tryz.underlying34, Op.eqFields, go_sem, e4]
  | true =>
  cases e5 : (a5.toList == b5.toList) with
  | false => simp [Program.fieldsOf, Tryz.underlying34, Op.eqFields, go_sem, e5, e4]
  | true =>
  by_cases e6 : a6 = b6
  rotate_left
  · simp [Program.fieldsOf, Tryz.underlying34, Op.eqFields, go_sem, e4, e5, e6]
  subst e6
  by_cases e7 : a7 = b7
  rotate_left
  · simp [Program.fieldsOf, Tryz.underlying34, Op.eqFields, go_sem, e4, e5, e7]
  subst e7
  simp [Program.fieldsOf, Tryz.underlying34, Op.eqFields, go_sem, e4, e5, h1]
  by_cases e8 : a8 = b8 <;> by_cases e9 : a9 = b9 <;> simp [e8, e9]
/-! do -/
/-- What a hand does at a chore. -/
def stepD (F : Frm) (S : Sto) (a : Chr) : Int × Sto := if ¬ (1 ≤ a.kind ∧ a.kind ≤ 8 ∧ chrB a (namedM a) = true) then (1, S) else choreD F S a
theorem year_chore (F : Frm) (S : Sto) (a : Chr) (base B : Nat) (w : World) (hH : Hand F base B w S S) (hE : storeE F S = 0) (hbw : base ≤ w.heap.size) :
    Calls Tryz.prog 61 #[.pointer (some ⟨B, 0, none⟩), .agg (chrC a)] w (ChoreSaid F base B (yearD S) w) := by
  refine (year_any F S a B w hH.box (years_ok hE).1.1).mono ?_
  rintro e w' ⟨h, hg⟩
  have hT := Turn.of_grown hg
  have hb : Below base w w' := hT.below hbw (fun k e => by have e' : B = k := by injection e
                                                           rw [← e']; exact hH.le)
  rcases h with ⟨h1, rfl, hB⟩ | ⟨h1, rfl⟩
  · refine ⟨.inl ⟨by simp [yearD, h1], rfl, { S with year := S.year + 1 }, by simp only [yearD, if_pos h1]; exact SameSto.refl _, hB, OwnSto.setYear (hH.own.turn hT fun k e => ?_) _, hH.out, hH.le, rfl, rfl, rfl⟩, hb⟩
    have e' : B = k := by injection e
    rw [← e']; exact hH.out
  · exact ⟨.inr ⟨by simp [yearD, h1], by simp [yearD, h1]⟩, hb⟩
theorem chore_any (F : Frm) (S : Sto) (a : Chr) (base B : Nat) (w : World) (hH : Hand F base B w S S) (hE : storeE F S = 0) (hfit : S.fit) (hbw : base ≤ w.heap.size) (hF : IsFarm w F) (hnm : a.name.size ≤ maxLen) (hno : a.other.size ≤ maxLen) (hk : 1 ≤ a.kind ∧ a.kind ≤ 8) :
    Calls Tryz.prog (chN a.kind) #[.pointer (some ⟨B, 0, none⟩), .agg (chrC a)] w (ChoreSaid F base B (choreD F S a) w) := by
  unfold choreD chN
  rcases (show a.kind = 1 ∨ a.kind = 2 ∨ a.kind = 3 ∨ a.kind = 4 ∨ a.kind = 5 ∨ a.kind = 6 ∨ a.kind = 7 ∨ a.kind = 8 by omega) with h | h | h | h | h | h | h | h
  all_goals rw [h]
  all_goals simp only [if_true, if_false, Int.reduceEq]
  · exact year_chore F S a base B w hH hE hbw
  · exact cut_any F S a base B w hH hE hfit hbw hF hnm
  · exact dry_any F S a base B w hH hE hfit hbw
  · exact comb_any F S a base B w hH hE hfit hbw
  · exact join_any F S a base B w hH hE hfit hbw
  · exact bind_any F S a base B w hH hE hfit hbw hno
  · exact use_any F S a base B w hH hE hfit hbw
  · exact rot_any F S a base B w hH hE hfit hbw
theorem chN_enter (k : Int) (args : Array Value) (w : World) : (callFunc (chN k) args).run Tryz.prog w = .ok (.enter (chN k) args) w := by
  unfold chN
  repeat' split
  · exact enters_of Tryz.func61 (by kernel_rfl) rfl args w
  · exact enters_of Tryz.func62 (by kernel_rfl) rfl args w
  · exact enters_of Tryz.func63 (by kernel_rfl) rfl args w
  · exact enters_of Tryz.func64 (by kernel_rfl) rfl args w
  · exact enters_of Tryz.func65 (by kernel_rfl) rfl args w
  · exact enters_of Tryz.func66 (by kernel_rfl) rfl args w
  · exact enters_of Tryz.func67 (by kernel_rfl) rfl args w
  · exact enters_of Tryz.func68 (by kernel_rfl) rfl args w

set_option maxRecDepth 100000 in
set_option maxHeartbeats 8000000 in
theorem do_any (F : Frm) (S : Sto) (a : Chr) (base B : Nat) (w : World) (hH : Hand F base B w S S) (hE : storeE F S = 0) (hfit : S.fit) (hbw : base ≤ w.heap.size) (hF : IsFarm w F) (hnm : a.name.size ≤ maxLen) (hno : a.other.size ≤ maxLen) :
    Calls Tryz.prog 20 #[.pointer (some ⟨B, 0, none⟩), .agg (chrC a)] w (ChoreSaid F base B (stepD F S a) w) := by
  have hb1 : Below w.heap.size w (w.alloc (.cells (chrC a) 34)) := (Below.refl _ w).alloc (Nat.le_refl _) _
  have kA := Blk.new w 34 (chrC a)
  have hH1 := hH.below hb1
  have hF1 := hF.below hb1
  have hbb := Lib.hid (hb1.mono hbw)
  have hbs := hb1.size
  have hlook1 := look_hit (x := a.kind)
  have hlook2 := look_miss (x := a.kind)
  have hent := chN_enter a.kind
  have hcho : ∀ w', Hand F base B w' S S → base ≤ w'.heap.size → IsFarm w' F → (1 ≤ a.kind ∧ a.kind ≤ 8) → Calls Tryz.prog (chN a.kind) #[.pointer (some ⟨B, 0, none⟩), .agg (chrC a)] w' (ChoreSaid F base B (choreD F S a) w') := fun w' h1 h2 h3 h4 => chore_any F S a base B w' h1 hE hfit h2 h3 hnm hno h4
  have hnam := fun w' => named_any a w'
  have heq : ∀ w, (Op.equalIn 10000 34 (.agg (chrC a)) (.agg (chrC (namedM a)))).run Tryz.prog w = .ok (chrB a (namedM a)) w := run_equalIn_chore 9997 a (namedM a)
  generalize chN a.kind = NC at *
  unfold chrC at hb1 kA hH1 hF1 ⊢
  go_enter Tryz.func20, Tryz.ntmps20
  go_upto_region 1 with fail
  generalize w.alloc (.cells #[.int .i64 a.kind, .int .i64 a.plot, .int .i64 a.loads, .string a.name, .string a.other, .int .i64 a.days, .int .i64 a.per, .int .i64 a.rlo, .int .i64 a.rhi] 34) = w1 at *
  have lA := kA.lt
  have hstep : ∀ w', Below w1.heap.size w1 w' → Below w1.heap.size w1 w' ∧ (w'.cell? ⟨w.heap.size, 0, none⟩ = some (.int .i64 a.kind) ∧ w'.cell? ⟨w.heap.size, 1, none⟩ = some (.int .i64 a.plot) ∧ w'.cell? ⟨w.heap.size, 2, none⟩ = some (.int .i64 a.loads) ∧ w'.cell? ⟨w.heap.size, 3, none⟩ = some (.string a.name) ∧ w'.cell? ⟨w.heap.size, 4, none⟩ = some (.string a.other) ∧ w'.cell? ⟨w.heap.size, 5, none⟩ = some (.int .i64 a.days) ∧ w'.cell? ⟨w.heap.size, 6, none⟩ = some (.int .i64 a.per) ∧ w'.cell? ⟨w.heap.size, 7, none⟩ = some (.int .i64 a.rlo) ∧ w'.cell? ⟨w.heap.size, 8, none⟩ = some (.int .i64 a.rhi)) := fun w' hb => by
    have k := kA.belowS hb
    exact ⟨hb, k.cell 0, k.cell 1, k.cell 2, k.cell 3, k.cell 4, k.cell 5, k.cell 6, k.cell 7, k.cell 8⟩
  have HST := Lib.hid hstep
  have hx := hstep w1.drew ((Below.refl _ w1).drew)
  have HH1 := Lib.hid hH1
  have HF1 := Lib.hid hF1
  have HB1 := Lib.hid hb1
  have HCHO := Lib.hid hcho
  have HNAM := Lib.hid hnam
  have HL1 := Lib.hid hlook1
  have HL2 := Lib.hid hlook2
  have HEQ := Lib.hid heq
  have HEN := Lib.hid hent
  clear hH hF hH1 hF1 hb1 kA hstep hcho hnam hlook1 hlook2 heq hent
  refine wp_region_E 9 (fun w' : World => Below w1.heap.size w1 w' ∧ (w'.cell? ⟨w.heap.size, 0, none⟩ = some (.int .i64 a.kind) ∧ w'.cell? ⟨w.heap.size, 1, none⟩ = some (.int .i64 a.plot) ∧ w'.cell? ⟨w.heap.size, 2, none⟩ = some (.int .i64 a.loads) ∧ w'.cell? ⟨w.heap.size, 3, none⟩ = some (.string a.name) ∧ w'.cell? ⟨w.heap.size, 4, none⟩ = some (.string a.other) ∧ w'.cell? ⟨w.heap.size, 5, none⟩ = some (.int .i64 a.days) ∧ w'.cell? ⟨w.heap.size, 6, none⟩ = some (.int .i64 a.per) ∧ w'.cell? ⟨w.heap.size, 7, none⟩ = some (.int .i64 a.rlo) ∧ w'.cell? ⟨w.heap.size, 8, none⟩ = some (.int .i64 a.rhi))) (by kernel_rfl) ?_
  refine tR 1 rfl hx (v := ?v62) (.inl ⟨by rfl, ?y62⟩) ?r62
  case y62 => intro w' h; (try dsimp only at h); go_simp; try with_reducible rfl
  refine tR 2 rfl hx (v := ?v63) (.inl ⟨by rfl, ?y63⟩) ?r63
  case y63 => intro w' h; (try dsimp only at h); go_simp; try with_reducible rfl
  try simp only [Act.put, List.getElem_toArray, List.getElem_cons_zero, List.getElem_cons_succ, List.setIfInBounds_toArray, List.set_cons_zero, List.set_cons_succ]
  refine E_step (i := 0) (o := _) (by kernel_rfl) rfl (fun K hK => ?_)
  go_simp
  refine (chores_any _).mono ?_
  rintro r w2 ⟨rfl, hw2⟩
  dsimp only
  have hb2 : Below w1.heap.size w1 w2 := by rw [hw2]; exact ((Below.refl _ w1).drew).alloc (by show w1.heap.size ≤ w1.heap.size; exact Nat.le_refl _) _
  have hmap : w2.heap[w1.heap.size]? = some (.map chEs 8) := by rw [hw2]; exact heap_alloc_new w1.drew _
  have hx2 := HST.out w2 hb2
  refine hK.out _ _ (fun _ => hx2) ?_
  clear hK K hw2
  try simp only [Act.put, List.getElem_toArray, List.getElem_cons_zero, List.getElem_cons_succ, List.setIfInBounds_toArray, List.set_cons_zero, List.set_cons_succ]
  by_cases hkn : 1 ≤ a.kind ∧ a.kind ≤ 8
  rotate_left
  · have hlk := HL2.out w2 _ hmap hkn
    have HV := Lib.hid (show (stepD F S a).1 = 1 by unfold stepD; rw [if_pos (fun e => hkn ⟨e.1, e.2.1⟩)])
    clear hkn
    refine E_step (i := 3) (o := _) (by kernel_rfl) rfl (fun K hK => ?_)
    go_simp
    refine hK.out _ _ (fun _ => hx2) ?_
    clear hK K
    try simp only [Act.put, List.getElem_toArray, List.getElem_cons_zero, List.getElem_cons_succ, List.setIfInBounds_toArray, List.set_cons_zero, List.set_cons_succ]
    refine tR 4 rfl hx2 (v := ?v64) (.inl ⟨by rfl, ?y64⟩) ?r64
    case y64 => intro w' h; (try dsimp only at h); go_simp; try with_reducible rfl
    refine tR 5 rfl hx2 (v := ?v65) (.inl ⟨by rfl, ?y65⟩) ?r65
    case y65 => intro w' h; (try dsimp only at h); go_simp; try with_reducible rfl
    refine tR 6 rfl hx2 (v := ?v66) (.inl ⟨by rfl, ?y66⟩) ?r66
    case y66 => intro w' h; (try dsimp only at h); go_simp; try with_reducible rfl
    try simp only [Act.put, List.getElem_toArray, List.getElem_cons_zero, List.getElem_cons_succ, List.setIfInBounds_toArray, List.set_cons_zero, List.set_cons_succ]
    refine tR 7 rfl hx2 (v := ?v67) (.inl ⟨by rfl, ?y67⟩) ?r67
    case y67 => intro w' h; (try dsimp only at h); go_simp; try with_reducible rfl
    refine tR 8 rfl hx2 (v := ?v68) (.inl ⟨by rfl, ?y68⟩) ?r68
    case y68 => intro w' h; (try dsimp only at h); go_simp; try with_reducible rfl
    try simp only [Act.put, List.getElem_toArray, List.getElem_cons_zero, List.getElem_cons_succ, List.setIfInBounds_toArray, List.set_cons_zero, List.set_cons_succ]
    refine E_done (by kernel_rfl) ?_ _
    have hx := HST.out w2.drew (hx2.1.trans ((Below.refl w2.heap.size w2).drew.mono hx2.1.size))
    go_upto_region 2 with fail
    refine wp_region_E 8 (fun w' : World => Below w1.heap.size w1 w' ∧ (w'.cell? ⟨w.heap.size, 0, none⟩ = some (.int .i64 a.kind) ∧ w'.cell? ⟨w.heap.size, 1, none⟩ = some (.int .i64 a.plot) ∧ w'.cell? ⟨w.heap.size, 2, none⟩ = some (.int .i64 a.loads) ∧ w'.cell? ⟨w.heap.size, 3, none⟩ = some (.string a.name) ∧ w'.cell? ⟨w.heap.size, 4, none⟩ = some (.string a.other) ∧ w'.cell? ⟨w.heap.size, 5, none⟩ = some (.int .i64 a.days) ∧ w'.cell? ⟨w.heap.size, 6, none⟩ = some (.int .i64 a.per) ∧ w'.cell? ⟨w.heap.size, 7, none⟩ = some (.int .i64 a.rlo) ∧ w'.cell? ⟨w.heap.size, 8, none⟩ = some (.int .i64 a.rhi))) (by kernel_rfl) ?_
    refine tR 0 rfl hx (v := ?v69) (.inl ⟨by rfl, ?y69⟩) ?r69
    case y69 => intro w' h; (try dsimp only at h); go_simp; try with_reducible rfl
    refine tR 1 rfl hx (v := ?v70) (.inl ⟨by rfl, ?y70⟩) ?r70
    case y70 => intro w' h; (try dsimp only at h); go_simp; try with_reducible rfl
    refine tR 2 rfl hx (v := undef) (.inr ⟨by rfl, rfl⟩) ?r71
    try simp only [Act.put, List.getElem_toArray, List.getElem_cons_zero, List.getElem_cons_succ, List.setIfInBounds_toArray, List.set_cons_zero, List.set_cons_succ]
    refine tR 3 rfl hx (v := undef) (.inr ⟨by rfl, rfl⟩) ?r72
    try simp only [Act.put, List.getElem_toArray, List.getElem_cons_zero, List.getElem_cons_succ, List.setIfInBounds_toArray, List.set_cons_zero, List.set_cons_succ]
    refine E_step (i := 4) (o := _) (by kernel_rfl) rfl (fun K hK => ?_)
    go_simp
    refine hK.out _ _ (fun _ => hx) ?_
    clear hK K
    try simp only [Act.put, List.getElem_toArray, List.getElem_cons_zero, List.getElem_cons_succ, List.setIfInBounds_toArray, List.set_cons_zero, List.set_cons_succ]
    refine tR 5 rfl hx (v := undef) (.inr ⟨by rfl, rfl⟩) ?r73
    refine tR 6 rfl hx (v := ?v74) (.inl ⟨by rfl, ?y74⟩) ?r74
    case y74 => intro w' h; (try dsimp only at h); go_simp; try with_reducible rfl
    try simp only [Act.put, List.getElem_toArray, List.getElem_cons_zero, List.getElem_cons_succ, List.setIfInBounds_toArray, List.set_cons_zero, List.set_cons_succ]
    refine E_step (i := 7) (o := _) (by kernel_rfl) rfl (fun K hK => ?_)
    go_simp
    refine (require_no 1 _).mono ?_
    rintro r w7 ⟨rfl, rfl⟩
    dsimp only
    exact ⟨rfl, ChoreSaid.err 1 HV.out (by decide) (hbb.out.trans (hx.1.mono (Nat.le_trans hbw HB1.out.size)))⟩
  have hlk := HL1.out w2 _ hmap hkn
  have HKN := Lib.hid hkn
  refine E_step (i := 3) (o := _) (by kernel_rfl) rfl (fun K hK => ?_)
  go_simp
  refine hK.out _ _ (fun _ => hx2) ?_
  clear hK K
  try simp only [Act.put, List.getElem_toArray, List.getElem_cons_zero, List.getElem_cons_succ, List.setIfInBounds_toArray, List.set_cons_zero, List.set_cons_succ]
  refine tR 4 rfl hx2 (v := ?v75) (.inl ⟨by rfl, ?y75⟩) ?r75
  case y75 => intro w' h; (try dsimp only at h); go_simp; try with_reducible rfl
  refine tR 5 rfl hx2 (v := ?v76) (.inl ⟨by rfl, ?y76⟩) ?r76
  case y76 => intro w' h; (try dsimp only at h); go_simp; try with_reducible rfl
  refine tR 6 rfl hx2 (v := ?v77) (.inl ⟨by rfl, ?y77⟩) ?r77
  case y77 => intro w' h; (try dsimp only at h); go_simp; try with_reducible rfl
  try simp only [Act.put, List.getElem_toArray, List.getElem_cons_zero, List.getElem_cons_succ, List.setIfInBounds_toArray, List.set_cons_zero, List.set_cons_succ]
  refine tR 7 rfl hx2 (v := ?v78) (.inl ⟨by rfl, ?y78⟩) ?r78
  case y78 => intro w' h; (try dsimp only at h); go_simp; try with_reducible rfl
  refine tR 8 rfl hx2 (v := ?v79) (.inl ⟨by rfl, ?y79⟩) ?r79
  case y79 => intro w' h; (try dsimp only at h); go_simp; try with_reducible rfl
  try simp only [Act.put, List.getElem_toArray, List.getElem_cons_zero, List.getElem_cons_succ, List.setIfInBounds_toArray, List.set_cons_zero, List.set_cons_succ]
  refine E_done (by kernel_rfl) ?_ _
  have hx := HST.out w2.drew (hx2.1.trans ((Below.refl w2.heap.size w2).drew.mono hx2.1.size))
  clear hkn
  go_upto_region 2 with fail
  refine wp_region_E 8 (fun w' : World => Below w1.heap.size w1 w' ∧ (w'.cell? ⟨w.heap.size, 0, none⟩ = some (.int .i64 a.kind) ∧ w'.cell? ⟨w.heap.size, 1, none⟩ = some (.int .i64 a.plot) ∧ w'.cell? ⟨w.heap.size, 2, none⟩ = some (.int .i64 a.loads) ∧ w'.cell? ⟨w.heap.size, 3, none⟩ = some (.string a.name) ∧ w'.cell? ⟨w.heap.size, 4, none⟩ = some (.string a.other) ∧ w'.cell? ⟨w.heap.size, 5, none⟩ = some (.int .i64 a.days) ∧ w'.cell? ⟨w.heap.size, 6, none⟩ = some (.int .i64 a.per) ∧ w'.cell? ⟨w.heap.size, 7, none⟩ = some (.int .i64 a.rlo) ∧ w'.cell? ⟨w.heap.size, 8, none⟩ = some (.int .i64 a.rhi))) (by kernel_rfl) ?_
  refine tR 0 rfl hx (v := ?v80) (.inl ⟨by rfl, ?y80⟩) ?r80
  case y80 => intro w' h; (try dsimp only at h); go_simp; try with_reducible rfl
  refine tR 1 rfl hx (v := ?v81) (.inl ⟨by rfl, ?y81⟩) ?r81
  case y81 => intro w' h; (try dsimp only at h); go_simp; try with_reducible rfl
  refine tR 2 rfl hx (v := ?v82) (.inl ⟨by rfl, ?y82⟩) ?r82
  case y82 => intro w' h; (try dsimp only at h); go_simp; try with_reducible rfl
  try simp only [Act.put, List.getElem_toArray, List.getElem_cons_zero, List.getElem_cons_succ, List.setIfInBounds_toArray, List.set_cons_zero, List.set_cons_succ]
  refine tR 3 rfl hx (v := ?v83) (.inl ⟨by rfl, ?y83⟩) ?r83
  case y83 => intro w' h; (try dsimp only at h); go_simp; try with_reducible rfl
  try simp only [Act.put, List.getElem_toArray, List.getElem_cons_zero, List.getElem_cons_succ, List.setIfInBounds_toArray, List.set_cons_zero, List.set_cons_succ]
  refine E_step (i := 4) (o := _) (by kernel_rfl) rfl (fun K hK => ?_)
  go_simp
  refine (HNAM.out _).mono ?_
  rintro r w3 ⟨rfl, hb3⟩
  dsimp only
  have hx3 := HST.out w3 (hx.1.trans (hb3.mono hx.1.size))
  refine hK.out _ _ (fun _ => hx3) ?_
  clear hK K
  try simp only [Act.put, List.getElem_toArray, List.getElem_cons_zero, List.getElem_cons_succ, List.setIfInBounds_toArray, List.set_cons_zero, List.set_cons_succ]
  have heq : ∀ w, (Op.equalIn 10000 34 (.agg #[.int .i64 a.kind, .int .i64 a.plot, .int .i64 a.loads, .string a.name, .string a.other, .int .i64 a.days, .int .i64 a.per, .int .i64 a.rlo, .int .i64 a.rhi]) (.agg (chrC (namedM a)))).run Tryz.prog w = .ok (chrB a (namedM a)) w := HEQ.out
  refine tR 5 rfl hx3 (v := ?v84) (.inl ⟨by rfl, ?y84⟩) ?r84
  case y84 => intro w' h; (try dsimp only at h); go_simp; try with_reducible rfl
  try simp only [Act.put, List.getElem_toArray, List.getElem_cons_zero, List.getElem_cons_succ, List.setIfInBounds_toArray, List.set_cons_zero, List.set_cons_succ]
  cases hch : chrB a (namedM a) with
  | false =>
    have HV := Lib.hid (show (stepD F S a).1 = 1 by unfold stepD; rw [if_pos (fun e => by have := e.2.2; rw [hch] at this; cases this)])
    clear hch
    refine tR 6 rfl hx3 (v := ?v85) (.inl ⟨by rfl, ?y85⟩) ?r85
    case y85 => intro w' h; (try dsimp only at h); go_simp; try with_reducible rfl
    try simp only [Act.put, List.getElem_toArray, List.getElem_cons_zero, List.getElem_cons_succ, List.setIfInBounds_toArray, List.set_cons_zero, List.set_cons_succ]
    refine E_step (i := 7) (o := _) (by kernel_rfl) rfl (fun K hK => ?_)
    go_simp
    refine (require_no 1 _).mono ?_
    rintro r w7 ⟨rfl, rfl⟩
    dsimp only
    exact ⟨rfl, ChoreSaid.err 1 HV.out (by decide) (hbb.out.trans (hx3.1.mono (Nat.le_trans hbw HB1.out.size)))⟩
  | true =>
  have hv : stepD F S a = choreD F S a := by unfold stepD; rw [if_neg (fun e => e ⟨HKN.out.1, HKN.out.2, hch⟩)]
  have HV := Lib.hid hv
  clear hch hv heq
  refine tR 6 rfl hx3 (v := ?v86) (.inl ⟨by rfl, ?y86⟩) ?r86
  case y86 => intro w' h; (try dsimp only at h); go_simp; try with_reducible rfl
  try simp only [Act.put, List.getElem_toArray, List.getElem_cons_zero, List.getElem_cons_succ, List.setIfInBounds_toArray, List.set_cons_zero, List.set_cons_succ]
  refine E_step (i := 7) (o := _) (by kernel_rfl) rfl (fun K hK => ?_)
  go_simp
  refine (require_yes 1 _).mono ?_
  rintro r w4 ⟨rfl, rfl⟩
  dsimp only
  refine hK.out _ _ (fun _ => hx3) ?_
  clear hK K
  try simp only [Act.put, List.getElem_toArray, List.getElem_cons_zero, List.getElem_cons_succ, List.setIfInBounds_toArray, List.set_cons_zero, List.set_cons_succ]
  refine E_done (by kernel_rfl) ?_ _
  obtain ⟨hb4, k0, k1, k2, k3, k4, k5, k6, k7, k8⟩ := hx3
  have HB4 := Lib.hid hb4
  have lA4 := Nat.lt_of_lt_of_le lA hb4.size
  have hent := HEN.out
  clear hx hx2 hmap hlk hb3 hb2 lA hb4
  go_wp2_with fail
  refine (HCHO.out _ (HH1.out.below HB4.out) (Nat.le_trans hbw (Nat.le_trans HB1.out.size HB4.out.size)) (HF1.out.below HB4.out) HKN.out).mono ?_
  rintro r w9 ⟨hs, hb9⟩
  have HBF := Lib.hid ((hbb.out.trans (HB4.out.mono (Nat.le_trans hbw HB1.out.size))).trans hb9)
  rcases hs with ⟨h1, rfl, h2⟩ | ⟨h1, rfl⟩
  · have H1 := Lib.hid h1
    have H2 := Lib.hid h2
    clear h1 h2 hb9
    go_wp2_with fail
    go_end0
    exact ⟨.inl ⟨by rw [HV.out]; exact H1.out, rfl, by rw [HV.out]; exact H2.out⟩, HBF.out⟩
  · have H1 := Lib.hid h1
    clear h1 hb9
    go_wp2_with fail
    exact ⟨rfl, .inr ⟨by rw [HV.out]; exact H1.out, by rw [HV.out]⟩, HBF.out⟩
end
end Go.Proofs.YtfhalmlpnoepcaaGreat
namespace Go.Proofs.YtfhalmlpnoepcaaGreat
section
set_option linter.unusedSimpArgs false
open Go.RowKit

/-- A store without rows. -/
def Sto.bare (S : Sto) : Sto := { S with la := none, lc := 0, last := [], ga := none, gc := 0, given := [], ha := none, hc := 0, heaps := [], ua := none, uc := 0, used := [], wa := none, wc := 0, waste := [] }
theorem bare_own (base : Nat) (w : World) (S : Sto) : OwnSto base w S.bare :=
  ⟨World.ownsRow_nil _ _ _ _, World.ownsRow_nil _ _ _ _, World.ownsRow_nil _ _ _ _, fun h hh => (by cases hh), World.ownsRow_nil _ _ _ _, World.ownsRow_nil _ _ _ _, fun h hh => (by cases hh), (by simp [rowsOf, Sto.bare])⟩
/-- Where a new row lies. -/
theorem own_ge {w : World} {base n c m sz : Nat} {t : TypeId} {a : Option Addr} {xs : List Value} (h : w.ownsRow base t sz (.slice a n c) m xs) {k : Nat} (hk : a.map (·.block) = some k) : base ≤ k ∧ k < w.heap.size := h.lt k (by rw [rowOf_own']; exact hk)

/-- Between two rounds: the first heaps have parts of their own. -/
structure CopyI (base n0 j : Nat) (S : Sto) (a : Option Addr) (c : Nat) (hs : List Hep) (w : World) : Prop where
  same : sameH hs S.heaps
  row : w.ownsRow base 53 7 (.slice a hs.length c) hs.length (hs.flatMap cellsHep)
  rowlt : ∀ k, a.map (·.block) = some k → k < n0
  parts : ∀ (i : Nat) (x : Hep), i < j → hs[i]? = some x → w.ownsRow n0 79 2 (.slice x.pa x.parts.length x.pc) x.parts.length (x.parts.flatMap cellsPrt)
  apart : (((hs.take j).map (·.pa)).filterMap (·.map (·.block))).Nodup
  rest : ∀ i, j ≤ i → hs[i]? = S.heaps[i]?
theorem CopyI.start {base n0 : Nat} {S : Sto} {a : Option Addr} {c : Nat} {w : World} (h : w.ownsRow base 53 7 (.slice a S.heaps.length c) S.heaps.length (S.heaps.flatMap cellsHep)) (hn : w.heap.size ≤ n0) : CopyI base n0 0 S a c S.heaps w :=
  ⟨sameH.refl _, h, fun k hk => Nat.lt_of_lt_of_le (own_ge h hk).2 hn, fun i x hi => by omega, by simp, fun _ _ => rfl⟩
theorem CopyI.below {base n0 j : Nat} {S : Sto} {a : Option Addr} {c : Nat} {hs : List Hep} {w w' : World} (h : CopyI base n0 j S a c hs w) (hb : Below w.heap.size w w') : CopyI base n0 j S a c hs w' :=
  ⟨h.same, own_below h.row hb, h.rowlt, fun i x hi hx => own_below (h.parts i x hi hx) hb, h.apart, h.rest⟩
/-- One more heap. -/
theorem CopyI.next {base n0 j g : Nat} {S : Sto} {c : Nat} {hs : List Hep} {w w' : World} {x : Hep} {a2 : Option Addr} {c2 : Nat} (h : CopyI base n0 j S (some ⟨g, 0, none⟩) c hs w) (hb : Below w.heap.size w w') (hx : hs[j]? = some x) (hn : n0 ≤ w.heap.size)
    (hrow : w'.ownsRow w.heap.size 79 2 (.slice a2 x.parts.length c2) x.parts.length (x.parts.flatMap cellsPrt)) :
    CopyI base n0 (j + 1) S (some ⟨g, 0, none⟩) c (hs.set j { x with pa := a2, pc := c2 }) (w'.setCell ⟨g, j * 7 + 3, none⟩ (.slice a2 x.parts.length c2)) := by
  have hjl := (List.getElem?_eq_some_iff.1 hx).1
  have hg : g < n0 := h.rowlt g rfl
  have hT : Turn (fun k => k = g) w (w'.setCell ⟨g, j * 7 + 3, none⟩ (.slice a2 x.parts.length c2)) := (Turn.of_below (X := fun k => k = g) hb).setCell (B := g) rfl _ _
  have hT' : Turn (fun k => k = g) w' (w'.setCell ⟨g, j * 7 + 3, none⟩ (.slice a2 x.parts.length c2)) := (Turn.of_below (X := fun k => k = g) (Below.refl _ w')).setCell (B := g) rfl _ _
  have hnew : (w'.setCell ⟨g, j * 7 + 3, none⟩ (.slice a2 x.parts.length c2)).ownsRow w.heap.size 79 2 (.slice a2 x.parts.length c2) x.parts.length (x.parts.flatMap cellsPrt) :=
    hT'.row hrow fun k hk e => by have := (own_ge hrow e).1; have := (show k = g from hk); omega
  have hlen : (hs.set j { x with pa := a2, pc := c2 }).length = hs.length := List.length_set ..
  refine ⟨?_, ?_, h.rowlt, fun i y hi hy => ?_, ?_, fun i hi => ?_⟩
  · refine sameH.trans ?_ h.same
    have h1 : sameH (hs.set j { x with pa := a2, pc := c2 }) (hs.set j x) := (sameH.refl hs).set j ⟨rfl, rfl, rfl, rfl, rfl, rfl, rfl⟩
    rwa [show hs.set j x = hs by rw [← (List.getElem?_eq_some_iff.1 hx).2]; exact List.set_getElem_self _] at h1
  · have hr := ownsRow_setOwn (own_below h.row hb) (i := j * 7 + 3) (by omega) (.slice a2 x.parts.length c2)
    rw [flat_set cellsHep 7 (fun _ => rfl) hs j 3 x { x with pa := a2, pc := c2 } _ hx (by omega) rfl] at hr
    rw [hlen]
    exact hr
  · rw [List.getElem?_set] at hy
    split at hy
    · next e =>
      subst e
      first | (rw [if_pos hjl] at hy; cases hy) | cases hy
      exact hnew.mono hn
    · next e =>
      have h0 := h.parts i y (by omega) hy
      exact hT.row h0 fun k hk e2 => by have := (own_ge h0 e2).1; have := (show k = g from hk); omega
  · have e1 : (hs.set j { x with pa := a2, pc := c2 }).take (j + 1) = hs.take j ++ [{ x with pa := a2, pc := c2 }] := by
      rw [List.take_add_one, List.take_set_of_le (Nat.le_refl _)]
      simp [hjl]
    rw [e1, List.map_append]
    refine nodup_put (l2 := []) (by simpa using h.apart) (fun k hk hk2 => ?_)
    simp only [List.append_nil, List.mem_filterMap, List.mem_map] at hk2
    obtain ⟨_, ⟨y, hy, rfl⟩, e⟩ := hk2
    obtain ⟨i, hi, hyi⟩ := List.getElem_of_mem hy
    rw [List.length_take] at hi
    have hyi2 : hs[i]? = some y := by
      rw [← hyi, List.getElem_take]
      exact List.getElem?_eq_getElem (by omega)
    have := (own_ge (h.parts i y (by omega) hyi2) e).2
    have := (own_ge hrow hk).1
    omega
  · rw [List.getElem?_set, if_neg (by omega)]
    exact h.rest i (by omega)
/-- All heaps copied: the store that has them. -/
theorem CopyI.done {base n0 : Nat} {S T : Sto} {a : Option Addr} {c : Nat} {hs : List Hep} {w : World} (h : CopyI base n0 hs.length S a c hs w) (hT : OwnSto base w T) (hb : base ≤ n0) (hth : T.heaps = []) (htl : ∀ k ∈ rowsOf { T with ha := none }, k < n0 ∧ a.map (·.block) ≠ some k)
    (hnm : ∀ x ∈ hs, x.name.size ≤ maxLen) : OwnSto base w { T with ha := a, hc := c, heaps := hs } := by
  refine OwnSto.setHeaps hT (fun _ _ => rfl) h.row (fun x hx => ?_) hnm ?_
  · obtain ⟨i, hi, rfl⟩ := List.getElem_of_mem hx
    exact (h.parts i _ hi (List.getElem?_eq_getElem hi)).mono hb
  · have hap := h.apart
    rw [List.take_length] at hap
    have key : ∀ k, k ∈ (hs.map (·.pa)).filterMap (·.map (·.block)) → n0 ≤ k := fun k hk => by
      simp only [List.mem_filterMap, List.mem_map] at hk
      obtain ⟨_, ⟨y, hy, rfl⟩, e⟩ := hk
      obtain ⟨i, hi, rfl⟩ := List.getElem_of_mem hy
      exact (own_ge (h.parts i _ hi (List.getElem?_eq_getElem hi)) e).1
    have h0 := hT.apart
    have h1 : (rowsOf { T with ha := none }).Nodup := apart_ha h0 (fun j e => by cases e)
    simp only [rowsOf, hth, List.map_nil, List.append_nil] at h1 htl
    unfold rowsOf
    rw [List.filterMap_append]
    refine List.nodup_append.2 ⟨?_, hap, fun k hk k2 hk2 e => ?_⟩
    · exact nodup_put (l1 := [T.la, T.ga]) (l2 := [T.ua, T.wa]) (a := a) (nodup_out (l1 := [T.la, T.ga]) h1).1 (fun j e hj => by
        have : j ∈ ([T.la, T.ga, none, T.ua, T.wa] : List (Option Addr)).filterMap (·.map (·.block)) := by
          simp only [List.mem_filterMap] at hj ⊢
          obtain ⟨z, hz, e2⟩ := hj
          refine ⟨z, ?_, e2⟩
          simp only [List.cons_append, List.nil_append, List.mem_cons, List.not_mem_nil, or_false] at hz ⊢
          rcases hz with h | h | h | h
          · exact .inl h
          · exact .inr (.inl h)
          · exact .inr (.inr (.inr (.inl h)))
          · exact .inr (.inr (.inr (.inr h)))
        exact (htl j this).2 e)
    · subst e
      have h3 := key k hk2
      by_cases ha : a.map (·.block) = some k
      · have := h.rowlt k ha; omega
      · have : k ∈ ([T.la, T.ga, none, T.ua, T.wa] : List (Option Addr)).filterMap (·.map (·.block)) := by
          simp only [List.mem_filterMap, List.mem_cons, List.not_mem_nil, or_false] at hk ⊢
          obtain ⟨z, hz, e2⟩ := hk
          refine ⟨z, ?_, e2⟩
          rcases hz with h | h | h | h | h
          · exact .inl h
          · exact .inr (.inl h)
          · subst h; exact absurd e2 ha
          · exact .inr (.inr (.inr (.inl h)))
          · exact .inr (.inr (.inr (.inr h)))
        have := (htl k this).1
        omega

set_option maxRecDepth 100000 in
set_option maxHeartbeats 8000000 in
theorem copyStore_any (S : Sto) (w : World) (hS : IsStore w S) (hfit : S.fit) (hll : S.last.length ≤ 1000) (hgl : S.given.length ≤ 1000) :
    Calls Tryz.prog 19 #[stoV S] w fun e w' => (∃ T, e = .returned (stoV T) ∧ OwnSto w.heap.size w' T ∧ SameSto T S) ∧ Below w.heap.size w w' := by
  obtain ⟨hf1, hf2, hf3, hf4⟩ := hfit
  have hb1 : Below w.heap.size w ((w.alloc (.cells #[.int .i64 S.year, .slice S.la S.last.length S.lc, .slice S.ga S.given.length S.gc, .slice S.ha S.heaps.length S.hc, .slice S.ua S.used.length S.uc, .slice S.wa S.waste.length S.wc] 29)).alloc (.cells #[.int .i64 0, .slice none 0 0, .slice none 0 0, .slice none 0 0, .slice none 0 0, .slice none 0 0] 29)) := ((Below.refl _ w).alloc (Nat.le_refl _) _).alloc (by simp) _
  have kD1 : Blk ((w.alloc (.cells #[.int .i64 S.year, .slice S.la S.last.length S.lc, .slice S.ga S.given.length S.gc, .slice S.ha S.heaps.length S.hc, .slice S.ua S.used.length S.uc, .slice S.wa S.waste.length S.wc] 29)).alloc (.cells #[.int .i64 0, .slice none 0 0, .slice none 0 0, .slice none 0 0, .slice none 0 0, .slice none 0 0] 29)) w.heap.size #[.int .i64 S.year, .slice S.la S.last.length S.lc, .slice S.ga S.given.length S.gc, .slice S.ha S.heaps.length S.hc, .slice S.ua S.used.length S.uc, .slice S.wa S.waste.length S.wc] 29 := (Blk.new w 29 #[.int .i64 S.year, .slice S.la S.last.length S.lc, .slice S.ga S.given.length S.gc, .slice S.ha S.heaps.length S.hc, .slice S.ua S.used.length S.uc, .slice S.wa S.waste.length S.wc]).alloc _
  have kE1 : Blk ((w.alloc (.cells #[.int .i64 S.year, .slice S.la S.last.length S.lc, .slice S.ga S.given.length S.gc, .slice S.ha S.heaps.length S.hc, .slice S.ua S.used.length S.uc, .slice S.wa S.waste.length S.wc] 29)).alloc (.cells #[.int .i64 0, .slice none 0 0, .slice none 0 0, .slice none 0 0, .slice none 0 0, .slice none 0 0] 29)) (w.heap.size + 1) #[.int .i64 0, .slice none 0 0, .slice none 0 0, .slice none 0 0, .slice none 0 0, .slice none 0 0] 29 := by
    have := Blk.new (w.alloc (.cells #[.int .i64 S.year, .slice S.la S.last.length S.lc, .slice S.ga S.given.length S.gc, .slice S.ha S.heaps.length S.hc, .slice S.ua S.used.length S.uc, .slice S.wa S.waste.length S.wc] 29)) 29 #[.int .i64 0, .slice none 0 0, .slice none 0 0, .slice none 0 0, .slice none 0 0, .slice none 0 0]
    rwa [World.size_alloc] at this
  have HS := Lib.hid hS
  have HF4 := Lib.hid hf4
  clear hS hf4
  go_enter Tryz.func19, Tryz.ntmps19
  go_upto_region 1 with fail
  generalize (w.alloc (.cells #[.int .i64 S.year, .slice S.la S.last.length S.lc, .slice S.ga S.given.length S.gc, .slice S.ha S.heaps.length S.hc, .slice S.ua S.used.length S.uc, .slice S.wa S.waste.length S.wc] 29)).alloc (.cells #[.int .i64 0, .slice none 0 0, .slice none 0 0, .slice none 0 0, .slice none 0 0, .slice none 0 0] 29) = w1 at *
  have d1 : w1.cell? ⟨w.heap.size, 1, none⟩ = some (.slice S.la S.last.length S.lc) := kD1.cell 1
  have lD1 := kD1.lt
  have lE1 := kE1.lt
  go_wp2_with fail
  refine (cloneInts_any S.la S.lc S.last _ ((HS.out.below hb1).last) (by omega)).mono ?_
  rintro e w2 ⟨⟨a1, c1, rfl, r1⟩, hb2⟩
  have kD2 := kD1.belowS hb2
  have kE2 := kE1.belowS hb2
  have lD2 := kD2.lt
  have lE2 := kE2.lt
  have d2 : w2.cell? ⟨w.heap.size, 2, none⟩ = some (.slice S.ga S.given.length S.gc) := kD2.cell 2
  have e2 : w2.cell? ⟨w.heap.size, 1, none⟩ = some (.slice S.la S.last.length S.lc) := kD2.cell 1
  have z2 := kD2.frozen 1
  have hs1 := hb1.size
  have hs2 := hb2.size
  have o3 : OwnSto w.heap.size (w2.setCell ⟨w.heap.size, 1, none⟩ (.slice a1 S.last.length c1)) { S.bare with la := a1, lc := c1, last := S.last } :=
    OwnSto.setLast (a := a1) (c := c1) (l := S.last) (bare_own _ (w2.setCell ⟨w.heap.size, 1, none⟩ (.slice a1 S.last.length c1)) S) (fun _ _ => rfl) ((ownsRow_setCell_below r1 (a := ⟨w.heap.size, 1, none⟩) (by show w.heap.size < w1.heap.size; omega) _).mono (by omega)) (fun j e hj => by simp [rowsOf, Sto.bare] at hj)
  have b3 : Below w.heap.size w (w2.setCell ⟨w.heap.size, 1, none⟩ (.slice a1 S.last.length c1)) := (hb1.trans (hb2.mono hs1)).setCell (p := ⟨w.heap.size, 1, none⟩) (Nat.le_refl _) _
  have kD3 : Blk (w2.setCell ⟨w.heap.size, 1, none⟩ (.slice a1 S.last.length c1)) w.heap.size #[.int .i64 S.year, .slice a1 S.last.length c1, .slice S.ga S.given.length S.gc, .slice S.ha S.heaps.length S.hc, .slice S.ua S.used.length S.uc, .slice S.wa S.waste.length S.wc] 29 := kD2.set 1 _
  have kE3 := kE2.other (show w.heap.size + 1 ≠ w.heap.size by omega) (i := 1) (.slice a1 S.last.length c1)
  have s3 : (w2.setCell ⟨w.heap.size, 1, none⟩ (.slice a1 S.last.length c1)).heap.size = w2.heap.size := by simp [World.setCell]
  have lt3 : ∀ k ∈ rowsOf { S.bare with la := a1, lc := c1, last := S.last }, k < w2.heap.size ∧ w1.heap.size ≤ k := fun k hk => by
    simp only [rowsOf, Sto.bare, List.mem_filterMap, List.map_nil, List.append_nil, List.mem_cons, List.not_mem_nil, or_false] at hk
    obtain ⟨z, hz, e⟩ := hk
    rcases hz with rfl | rfl | rfl | rfl | rfl
    · have := own_ge r1 e; omega
    all_goals cases e
  have O3 := Lib.hid o3
  have B3 := Lib.hid b3
  have KD3 := Lib.hid kD3
  have KE3 := Lib.hid kE3
  have LT3 := Lib.hid lt3
  clear kD1 kE1 d1 kD2 kE2 r1 o3 b3 kD3 kE3 lt3 hb1 hb2
  go_upto_region 2 with fail
  generalize w2.setCell ⟨w.heap.size, 1, none⟩ (.slice a1 S.last.length c1) = w3 at *
  clear d2 e2 z2 lD2 lE2
  have kD3 := KD3.out
  have d2 : w3.cell? ⟨w.heap.size, 2, none⟩ = some (.slice S.ga S.given.length S.gc) := kD3.cell 2
  have lD3 := kD3.lt
  clear kD3
  go_wp2_with fail
  refine (cloneInts_any S.ga S.gc S.given _ ((HS.out.below B3.out).given) (by omega)).mono ?_
  rintro e w4 ⟨⟨a2, c2, rfl, r2⟩, hb4⟩
  have kD4 := KD3.out.belowS hb4
  have kE4 := KE3.out.belowS hb4
  have lD4 := kD4.lt
  have d4 : w4.cell? ⟨w.heap.size, 2, none⟩ = some (.slice S.ga S.given.length S.gc) := kD4.cell 2
  have z4 := kD4.frozen 2
  have hs4 := hb4.size
  have o5 : OwnSto w.heap.size (w4.setCell ⟨w.heap.size, 2, none⟩ (.slice a2 S.given.length c2)) { S.bare with la := a1, lc := c1, last := S.last, ga := a2, gc := c2, given := S.given } := by
    have hT : Turn (fun k => k = w.heap.size) w3 (w4.setCell ⟨w.heap.size, 2, none⟩ (.slice a2 S.given.length c2)) := (Turn.of_below (X := fun k => k = w.heap.size) hb4).setCell (B := w.heap.size) rfl _ _
    exact OwnSto.setGiven (a := a2) (c := c2) (l := S.given) (O3.out.turn hT (fun k e hk => by have := (LT3.out k hk).2; have := (show k = w.heap.size from e); omega)) (fun _ _ => rfl) ((ownsRow_setCell_below r2 (a := ⟨w.heap.size, 2, none⟩) (by show w.heap.size < w3.heap.size; omega) _).mono (by omega)) (fun j e hj => by
      have := own_ge r2 e
      have := LT3.out j (rows_noga (S := { S.bare with la := a1, lc := c1, last := S.last }) j hj)
      omega)
  have b5 : Below w.heap.size w (w4.setCell ⟨w.heap.size, 2, none⟩ (.slice a2 S.given.length c2)) := (B3.out.trans (hb4.mono B3.out.size)).setCell (p := ⟨w.heap.size, 2, none⟩) (Nat.le_refl _) _
  have kD5 : Blk (w4.setCell ⟨w.heap.size, 2, none⟩ (.slice a2 S.given.length c2)) w.heap.size #[.int .i64 S.year, .slice a1 S.last.length c1, .slice a2 S.given.length c2, .slice S.ha S.heaps.length S.hc, .slice S.ua S.used.length S.uc, .slice S.wa S.waste.length S.wc] 29 := kD4.set 2 _
  have kE5 := kE4.other (show w.heap.size + 1 ≠ w.heap.size by omega) (i := 2) (.slice a2 S.given.length c2)
  have s5 : (w4.setCell ⟨w.heap.size, 2, none⟩ (.slice a2 S.given.length c2)).heap.size = w4.heap.size := by simp [World.setCell]
  have lt5 : ∀ k ∈ rowsOf { S.bare with la := a1, lc := c1, last := S.last, ga := a2, gc := c2, given := S.given }, k < w4.heap.size ∧ w1.heap.size ≤ k := fun k hk => by
    have hk0 := hk
    simp only [rowsOf, Sto.bare, List.mem_filterMap, List.map_nil, List.append_nil, List.mem_cons, List.not_mem_nil, or_false] at hk
    obtain ⟨z, hz, e⟩ := hk
    rcases hz with rfl | rfl | rfl | rfl | rfl
    · have := LT3.out k (rows_la (S := { S.bare with la := z, lc := c1, last := S.last }) e); omega
    · have := own_ge r2 e; omega
    all_goals cases e
  have O5 := Lib.hid o5
  have B5 := Lib.hid b5
  have KD5 := Lib.hid kD5
  have KE5 := Lib.hid kE5
  have LT5 := Lib.hid lt5
  clear kD4 kE4 r2 o5 b5 kD5 kE5 lt5 hb4 lD3 d2
  go_upto_region 3 with fail
  generalize w4.setCell ⟨w.heap.size, 2, none⟩ (.slice a2 S.given.length c2) = w5 at *
  clear d4 z4 lD4
  have kD5 := KD5.out
  have d3 : w5.cell? ⟨w.heap.size, 3, none⟩ = some (.slice S.ha S.heaps.length S.hc) := kD5.cell 3
  have lD5 := kD5.lt
  clear kD5
  go_wp2_with fail
  refine (cloneHeps_any S.ha S.hc S.heaps _ ((HS.out.below B5.out).heaps) (by omega)).mono ?_
  rintro e w6 ⟨⟨a3, c3, rfl, r3⟩, hb6⟩
  have kD6 := KD5.out.belowS hb6
  have kE6 := KE5.out.belowS hb6
  have lD6 := kD6.lt
  have d6 : w6.cell? ⟨w.heap.size, 3, none⟩ = some (.slice S.ha S.heaps.length S.hc) := kD6.cell 3
  have z6 := kD6.frozen 3
  have hs6 := hb6.size
  have hT7 : Turn (fun k => k = w.heap.size) w5 (w6.setCell ⟨w.heap.size, 3, none⟩ (.slice a3 S.heaps.length c3)) := (Turn.of_below (X := fun k => k = w.heap.size) hb6).setCell (B := w.heap.size) rfl _ _
  have o7 := O5.out.turn hT7 (fun k e hk => by have := (LT5.out k hk).2; have := (show k = w.heap.size from e); omega)
  have r7 := ownsRow_setCell_below r3 (a := ⟨w.heap.size, 3, none⟩) (by show w.heap.size < w5.heap.size; omega) (.slice a3 S.heaps.length c3)
  have b7 : Below w.heap.size w (w6.setCell ⟨w.heap.size, 3, none⟩ (.slice a3 S.heaps.length c3)) := (B5.out.trans (hb6.mono B5.out.size)).setCell (p := ⟨w.heap.size, 3, none⟩) (Nat.le_refl _) _
  have kD7 : Blk (w6.setCell ⟨w.heap.size, 3, none⟩ (.slice a3 S.heaps.length c3)) w.heap.size #[.int .i64 S.year, .slice a1 S.last.length c1, .slice a2 S.given.length c2, .slice a3 S.heaps.length c3, .slice S.ua S.used.length S.uc, .slice S.wa S.waste.length S.wc] 29 := kD6.set 3 _
  have kE7 := kE6.other (show w.heap.size + 1 ≠ w.heap.size by omega) (i := 3) (.slice a3 S.heaps.length c3)
  have s7 : (w6.setCell ⟨w.heap.size, 3, none⟩ (.slice a3 S.heaps.length c3)).heap.size = w6.heap.size := by simp [World.setCell]
  have i7 : CopyI w.heap.size w6.heap.size 0 S a3 c3 S.heaps (w6.setCell ⟨w.heap.size, 3, none⟩ (.slice a3 S.heaps.length c3)) := CopyI.start (r7.mono (by omega)) (by omega)
  have na3 : ∀ k, a3.map (·.block) = some k → w5.heap.size ≤ k := fun k e => (own_ge r3 e).1
  have O7 := Lib.hid o7
  have B7 := Lib.hid b7
  have KD7 := Lib.hid kD7
  have KE7 := Lib.hid kE7
  have I7 := Lib.hid i7
  have NA3 := Lib.hid na3
  clear kD6 kE6 r3 r7 o7 b7 kD7 kE7 i7 hb6 hT7 lD5 d3 na3
  go_upto_region 4 with fail
  generalize w6.setCell ⟨w.heap.size, 3, none⟩ (.slice a3 S.heaps.length c3) = w7 at *
  clear d6 z6 lD6
  have kD7 := KD7.out
  have d3 : w7.cell? ⟨w.heap.size, 3, none⟩ = some (.slice a3 S.heaps.length c3) := kD7.cell 3
  have lD7 := kD7.lt
  clear kD7
  go_wp2_with fail
  clear d3 lD7
  go_loopw [20, 3, 4] (fun k i3 b4 wr => ∃ (j : Nat) (hs : List Hep), j ≤ S.heaps.length ∧ k = .int .i64 j ∧ CopyI w.heap.size w6.heap.size j S a3 c3 hs wr ∧ OwnSto w.heap.size wr { S.bare with la := a1, lc := c1, last := S.last, ga := a2, gc := c2, given := S.given } ∧
      Blk wr w.heap.size #[.int .i64 S.year, .slice a1 S.last.length c1, .slice a2 S.given.length c2, .slice a3 S.heaps.length c3, .slice S.ua S.used.length S.uc, .slice S.wa S.waste.length S.wc] 29 ∧ Blk wr (w.heap.size + 1) #[.int .i64 0, .slice none 0 0, .slice none 0 0, .slice none 0 0, .slice none 0 0, .slice none 0 0] 29 ∧ Below w.heap.size w wr ∧ w6.heap.size ≤ wr.heap.size) (fun k _ _ _ => S.heaps.length - (intOf k).toNat)
  case atStart => exact ⟨0, S.heaps, Nat.zero_le _, rfl, I7.out, O7.out, KD7.out, KE7.out, B7.out, by omega⟩
  case round =>
    obtain ⟨j, hs, hj, rfl, hC, hO, kD, kE, hB, hn⟩ := hrel
    by_cases hlj : j < S.heaps.length
    · have hq : S.heaps[j]? = some S.heaps[j] := List.getElem?_eq_getElem hlj
      obtain ⟨hb0, hoff, hea0, hbl0, hcap0, hcx0, _, hpp, hnm⟩ := ((HS.out.below hB).heaps).at hq
      have hqh : hs[j]? = some S.heaps[j] := by rw [hC.rest j (Nat.le_refl _)]; exact hq
      have hpl := HF4.out _ (List.mem_of_getElem? hq)
      generalize S.heaps[j] = h at *
      have hhl : hs.length = S.heaps.length := hC.same.1
      obtain ⟨g, gcap, gv, hgb, hgl9⟩ := hC.row.form (by omega)
      obtain ⟨rfl, _, rfl⟩ := slice_inj gv
      have hcapr : S.heaps.length ≤ c3 ∧ c3 ≤ 9223372036854775807 := by
        rcases hC.row.2 with ⟨e, _⟩ | ⟨_, _, _, e, _, _, h1, h2, _⟩
        · cases e
        · obtain ⟨_, _, rfl⟩ := slice_inj e
          unfold maxLen at h2
          omega
      obtain ⟨hcap, hcx⟩ := hcapr
      have hcell : ∀ i, i < 7 → wr.cell? ⟨g, j * 7 + i, none⟩ = (cellsHep h)[i]? := fun i hi => by
        rw [hC.row.cellAt _ (by omega)]
        exact flat_at cellsHep 7 (fun _ => rfl) hs j i h hqh hi
      have c0 : wr.cell? ⟨g, j * 7, none⟩ = some (.string h.name) := hcell 0 (by omega)
      have x1 : wr.cell? ⟨g, j * 7 + 1, none⟩ = some (.int .i64 h.crop) := hcell 1 (by omega)
      have x2 : wr.cell? ⟨g, j * 7 + 2, none⟩ = some (.int .i64 h.stage) := hcell 2 (by omega)
      have x3 : wr.cell? ⟨g, j * 7 + 3, none⟩ = some (.slice h.pa h.parts.length h.pc) := hcell 3 (by omega)
      have x4 : wr.cell? ⟨g, j * 7 + 4, none⟩ = some (.int .i64 h.per) := hcell 4 (by omega)
      have x5 : wr.cell? ⟨g, j * 7 + 5, none⟩ = some (.int .i64 h.wlo) := hcell 5 (by omega)
      have x6 : wr.cell? ⟨g, j * 7 + 6, none⟩ = some (.int .i64 h.whi) := hcell 6 (by omega)
      have hj0 : (0 : Int) ≤ (j : Int) := Int.natCast_nonneg _
      have hj1 : (j : Int) < (S.heaps.length : Int) := by omega
      have hbH : Below wr.heap.size wr (wr.alloc (.cells #[.string h.name, .int .i64 h.crop, .int .i64 h.stage, .slice h.pa h.parts.length h.pc, .int .i64 h.per, .int .i64 h.wlo, .int .i64 h.whi] 53)) := (Below.refl _ wr).alloc (Nat.le_refl _) _
      have kH := Blk.new wr 53 #[.string h.name, .int .i64 h.crop, .int .i64 h.stage, .slice h.pa h.parts.length h.pc, .int .i64 h.per, .int .i64 h.wlo, .int .i64 h.whi]
      have HC := Lib.hid hC
      have HO := Lib.hid hO
      have KD := Lib.hid kD
      have KE := Lib.hid kE
      have HB := Lib.hid hB
      have HPP := Lib.hid hpp
      have HQH := Lib.hid hqh
      have HHL := Lib.hid hhl
      have hgD : w.heap.size < g := by have := NA3.out g rfl; omega
      have hgD2 : w.heap.size + 1 < g := by have := NA3.out g rfl; omega
      clear hq hqh hhl hC hO kD kE hB hpp gv hcell hbl0 hcap0 hcx0 hea0
      go_upto_region 7 with fail
      generalize wr.alloc (.cells #[.string h.name, .int .i64 h.crop, .int .i64 h.stage, .slice h.pa h.parts.length h.pc, .int .i64 h.per, .int .i64 h.wlo, .int .i64 h.whi] 53) = wa at *
      clear c0 x1 x2 x3 x4 x5 x6
      have kDa := KD.out.belowS hbH
      have y3 : wa.cell? ⟨w.heap.size, 3, none⟩ = some (.slice (some ⟨g, 0, none⟩) S.heaps.length c3) := kDa.cell 3
      have h3 : wa.cell? ⟨wr.heap.size, 3, none⟩ = some (.slice h.pa h.parts.length h.pc) := kH.cell 3
      have lDa := kDa.lt
      have lHa := kH.lt
      have hga := Nat.lt_of_lt_of_le hgl9 hbH.size
      have hstep : ∀ w', Below wa.heap.size wa w' → Below wa.heap.size wa w' ∧ (w'.cell? ⟨w.heap.size, 3, none⟩ = some (.slice (some ⟨g, 0, none⟩) S.heaps.length c3) ∧ w'.cell? ⟨wr.heap.size, 3, none⟩ = some (.slice h.pa h.parts.length h.pc)) :=
        fun w' hb => ⟨hb, (hb.cell (p := ⟨w.heap.size, 3, none⟩) lDa).trans y3, (hb.cell (p := ⟨wr.heap.size, 3, none⟩) lHa).trans h3⟩
      have hx := hstep wa.drew ((Below.refl _ wa).drew)
      have HST := Lib.hid hstep
      have KDA := Lib.hid kDa
      have HBH := Lib.hid hbH
      clear hstep kDa kH y3 h3 hbH
      refine wp_region_E 8 (fun w' : World => Below wa.heap.size wa w' ∧ (w'.cell? ⟨w.heap.size, 3, none⟩ = some (.slice (some ⟨g, 0, none⟩) S.heaps.length c3) ∧ w'.cell? ⟨wr.heap.size, 3, none⟩ = some (.slice h.pa h.parts.length h.pc))) (by kernel_rfl) ?_
      refine tk 0 rfl hx (v := ?v62) (.inl ⟨by rfl, ?y62⟩) ?r62
      case y62 => intro w' h; (try dsimp only at h); go_simp; try with_reducible rfl
      refine tk 1 rfl hx (v := ?v63) (.inl ⟨by rfl, ?y63⟩) ?r63
      case y63 => intro w' h; (try dsimp only at h); go_simp; try with_reducible rfl
      refine tk 2 rfl hx (v := ?v64) (.inl ⟨by rfl, ?y64⟩) ?r64
      case y64 => intro w' h; (try dsimp only at h); go_simp; try with_reducible rfl
      try simp only [Act.put, List.getElem_toArray, List.getElem_cons_zero, List.getElem_cons_succ, List.setIfInBounds_toArray, List.set_cons_zero, List.set_cons_succ]
      refine tk 3 rfl hx (v := ?v65) (.inl ⟨by rfl, ?y65⟩) ?r65
      case y65 => intro w' h; (try dsimp only at h); go_simp; try with_reducible rfl
      refine tk 4 rfl hx (v := ?v66) (.inl ⟨by rfl, ?y66⟩) ?r66
      case y66 => intro w' h; (try dsimp only at h); go_simp; try with_reducible rfl
      try simp only [Act.put, List.getElem_toArray, List.getElem_cons_zero, List.getElem_cons_succ, List.setIfInBounds_toArray, List.set_cons_zero, List.set_cons_succ]
      refine E_step (i := 5) (o := _) (by kernel_rfl) rfl (fun K hK => ?_)
      go_simp
      refine (clonePrts_any h.pa h.pc h.parts _ ((HPP.out.belowS HBH.out).belowS hx.1) (by omega)).mono ?_
      rintro r wb ⟨⟨a9, c9, rfl, r9⟩, hb9⟩
      dsimp only
      have hb9' : Below wa.heap.size wa wb := hx.1.trans hb9
      have hx9 := HST.out wb hb9'
      refine hK.out _ _ (fun _ => hx9) ?_
      clear hK K
      try simp only [Act.put, List.getElem_toArray, List.getElem_cons_zero, List.getElem_cons_succ, List.setIfInBounds_toArray, List.set_cons_zero, List.set_cons_succ]
      refine E_step (i := 6) (o := _) (by kernel_rfl) rfl (fun K hK => ?_)
      go_simp
      refine hK.out _ _ (fun _ => hx9) ?_
      clear hK K
      try simp only [Act.put, List.getElem_toArray, List.getElem_cons_zero, List.getElem_cons_succ, List.setIfInBounds_toArray, List.set_cons_zero, List.set_cons_succ]
      refine E_step (i := 7) (o := _) (by kernel_rfl) rfl (fun K hK => ?_)
      go_simp
      refine hK.out _ _ (fun _ => hx9) ?_
      clear hK K
      try simp only [Act.put, List.getElem_toArray, List.getElem_cons_zero, List.getElem_cons_succ, List.setIfInBounds_toArray, List.set_cons_zero, List.set_cons_succ]
      have hCa := HC.out.below HBH.out
      have hrz : wb.frozen? ⟨g, j * 7 + 3, none⟩ = false := (own_below hCa.row hb9').frozenAt _
      have hrc : wb.cell? ⟨g, j * 7 + 3, none⟩ = some (.slice h.pa h.parts.length h.pc) := by
        rw [(own_below hCa.row hb9').cellAt _ (by have := HHL.out; omega)]
        exact flat_at cellsHep 7 (fun _ => rfl) hs j 3 h HQH.out (by omega)
      have hgb9 := Nat.lt_of_lt_of_le hga hb9'.size
      have hNX := hCa.next hb9' HQH.out (Nat.le_trans hn HBH.out.size) r9
      have hTa : Turn (fun k => k = g) wr (wb.setCell ⟨g, j * 7 + 3, none⟩ (.slice a9 h.parts.length c9)) := ((Turn.of_below (X := fun k => k = g) HBH.out).trans (Turn.of_below hb9')).setCell (B := g) rfl _ _
      have hOn := HO.out.turn hTa (fun k e hk => by
        rw [show k = g from e] at hk
        have h1 := NA3.out g rfl
        have h2 := (LT5.out g hk).1
        omega)
      have kDn := hTa.blk KD.out (fun e => by have : w.heap.size = g := e; omega)
      have kEn := hTa.blk KE.out (fun e => by have : w.heap.size + 1 = g := e; omega)
      have hBn : Below w.heap.size w (wb.setCell ⟨g, j * 7 + 3, none⟩ (.slice a9 h.parts.length c9)) := HB.out.trans (hTa.below HB.out.size (fun k e => by rw [show k = g from e]; omega))
      have hNX2 := Lib.hid hNX
      have hTs := hTa.size
      have HON := Lib.hid hOn
      have KDN := Lib.hid kDn
      have KEN := Lib.hid kEn
      have HBN := Lib.hid hBn
      clear hx hx9 hb9 hb9' hCa hNX hTa hOn kDn kEn hBn r9
      refine E_step (i := 8) (o := _) (by kernel_rfl) rfl (fun K hK => ?_)
      go_simp
      refine hK.out _ _ (fun h => absurd rfl h) ?_
      clear hK K
      try simp only [Act.put, List.getElem_toArray, List.getElem_cons_zero, List.getElem_cons_succ, List.setIfInBounds_toArray, List.set_cons_zero, List.set_cons_succ]
      refine E_done (by kernel_rfl) ?_ _
      go_wp2_with fail
      have hbs : w6.heap.size ≤ wb.heap.size := by
        rw [show (wb.setCell ⟨g, j * 7 + 3, none⟩ (.slice a9 h.parts.length c9)).heap.size = wb.heap.size by simp [World.setCell]] at hTs
        omega
      have hbs2 : w6.heap.size ≤ (wb.setCell ⟨g, j * 7 + 3, none⟩ (.slice a9 h.parts.length c9)).heap.size := by simp [World.setCell]; omega
      refine ⟨?_, by simp [intOf]; omega⟩
      first
        | exact ⟨_, _, _, ⟨j + 1, _, by omega, rfl, hNX2.out, HON.out, KDN.out, KEN.out, HBN.out, by first | exact hbs | exact hbs2⟩, rfl, rfl, by simp⟩
        | exact ⟨j + 1, _, by omega, by simp, hNX2.out, HON.out, KDN.out, KEN.out, HBN.out, by first | exact hbs | exact hbs2⟩
        | exact ⟨_, _, _, ⟨j + 1, by omega, rfl, ⟨_, hNX2.out⟩, HON.out, KDN.out, KEN.out, HBN.out, by first | exact hbs | exact hbs2⟩, rfl, rfl, by simp⟩
        | trace_state
    · obtain rfl : j = S.heaps.length := by omega
      have hnm : ∀ x ∈ hs, x.name.size ≤ maxLen := fun x hx => by
        obtain ⟨i, hi, rfl⟩ := List.getElem_of_mem hx
        obtain ⟨y, hy, hxy⟩ := hC.same.get (List.getElem?_eq_getElem hi)
        obtain ⟨_, _, _, _, _, _, _, _, hny⟩ := ((HS.out.below hB).heaps).at hy
        rw [hxy.name]; exact hny
      have hC' : CopyI w.heap.size w6.heap.size hs.length S a3 c3 hs wr := by rw [hC.same.1]; exact hC
      have hod := hC'.done hO (by omega) rfl (fun k hk => by
        have h1 := LT5.out k (rows_noha (S := { S.bare with la := a1, lc := c1, last := S.last, ga := a2, gc := c2, given := S.given }) k hk)
        exact ⟨by omega, fun e => by have := NA3.out k e; omega⟩) hnm
      have hrows : ∀ k ∈ rowsOf { S.bare with la := a1, lc := c1, last := S.last, ga := a2, gc := c2, given := S.given, ha := a3, hc := c3, heaps := hs }, k < wr.heap.size ∧ w1.heap.size ≤ k := fun k hk => by
        refine ⟨(hod.ge k hk).2, ?_⟩
        have hk0 := hk
        simp only [rowsOf, List.mem_filterMap, List.mem_append, List.mem_cons, List.mem_map, List.not_mem_nil, or_false] at hk
        obtain ⟨z, hz, e⟩ := hk
        rcases hz with (rfl | rfl | rfl | h | h) | ⟨x, hx, rfl⟩
        · exact (LT5.out k (rows_la (S := { S.bare with la := z, lc := c1, last := S.last, ga := a2, gc := c2, given := S.given }) e)).2
        · exact (LT5.out k (rows_ga (S := { S.bare with la := a1, lc := c1, last := S.last, ga := z, gc := c2, given := S.given }) e)).2
        · have := NA3.out k e; omega
        · rw [h] at e; cases e
        · rw [h] at e; cases e
        · obtain ⟨i, hi, rfl⟩ := List.getElem_of_mem hx
          have := (own_ge (hC'.parts i _ hi (List.getElem?_eq_getElem hi)) e).1
          omega
      have hsame := hC.same
      have HSA := Lib.hid hsame
      have hhl : hs.length = S.heaps.length := hsame.1
      rw [← hhl] at kD
      have HOD := Lib.hid hod
      have HRW := Lib.hid hrows
      have HB := Lib.hid hB
      have KE := Lib.hid kE
      have KD := Lib.hid kD
      have d4 : wr.cell? ⟨w.heap.size, 4, none⟩ = some (.slice S.ua S.used.length S.uc) := kD.cell 4
      have lDr := kD.lt
      clear hC hC' hO hod hrows hsame hhl hnm kD kE hB hlj hj
      generalize hN : S.heaps.length = NN at *
      clear hN
      go_wp2_with fail
      refine (clonePrts_any S.ua S.uc S.used _ ((HS.out.below HB.out).used) (by omega)).mono ?_
      rintro e w8 ⟨⟨a4, c4, rfl, r4⟩, hb8⟩
      have kD8 := KD.out.belowS hb8
      have kE8 := KE.out.belowS hb8
      have lD8 := kD8.lt
      have d8 : w8.cell? ⟨w.heap.size, 4, none⟩ = some (.slice S.ua S.used.length S.uc) := kD8.cell 4
      have z8 := kD8.frozen 4
      have hs8 := hb8.size
      have hT9 : Turn (fun k => k = w.heap.size) wr (w8.setCell ⟨w.heap.size, 4, none⟩ (.slice a4 S.used.length c4)) := (Turn.of_below (X := fun k => k = w.heap.size) hb8).setCell (B := w.heap.size) rfl _ _
      have o9 := OwnSto.setUsed (a := a4) (c := c4) (l := S.used) (HOD.out.turn hT9 (fun k e hk => by have := (HRW.out k hk).2; have := (show k = w.heap.size from e); omega)) (fun _ _ => rfl) ((ownsRow_setCell_below r4 (a := ⟨w.heap.size, 4, none⟩) (by show w.heap.size < wr.heap.size; omega) (.slice a4 S.used.length c4)).mono (by omega)) (fun j e hj => by
        have h1 := own_ge r4 e
        have h2 := HRW.out j (rows_noua (S := { S.bare with la := a1, lc := c1, last := S.last, ga := a2, gc := c2, given := S.given, ha := a3, hc := c3, heaps := hs }) j hj)
        omega)
      have b9 : Below w.heap.size w (w8.setCell ⟨w.heap.size, 4, none⟩ (.slice a4 S.used.length c4)) := (HB.out.trans (hb8.mono HB.out.size)).setCell (p := ⟨w.heap.size, 4, none⟩) (Nat.le_refl _) _
      have kD9 : Blk (w8.setCell ⟨w.heap.size, 4, none⟩ (.slice a4 S.used.length c4)) w.heap.size #[.int .i64 S.year, .slice a1 S.last.length c1, .slice a2 S.given.length c2, .slice a3 hs.length c3, .slice a4 S.used.length c4, .slice S.wa S.waste.length S.wc] 29 := kD8.set 4 _
      have kE9 := kE8.other (show w.heap.size + 1 ≠ w.heap.size by omega) (i := 4) (.slice a4 S.used.length c4)
      have s9 : (w8.setCell ⟨w.heap.size, 4, none⟩ (.slice a4 S.used.length c4)).heap.size = w8.heap.size := by simp [World.setCell]
      have rw9 : ∀ k ∈ rowsOf { S.bare with la := a1, lc := c1, last := S.last, ga := a2, gc := c2, given := S.given, ha := a3, hc := c3, heaps := hs, ua := a4, uc := c4, used := S.used }, k < w8.heap.size ∧ w1.heap.size ≤ k := fun k hk => by
        have h1 := (o9.ge k hk).2
        refine ⟨by omega, ?_⟩
        by_cases h2 : a4.map (·.block) = some k
        · have := own_ge r4 h2; omega
        · simp only [rowsOf, List.mem_filterMap, List.mem_append, List.mem_cons] at hk
          obtain ⟨z, hz, e⟩ := hk
          by_cases hza : z = a4
          · subst hza; exact absurd e h2
          · refine (HRW.out k (List.mem_filterMap.2 ⟨z, ?_, e⟩)).2
            simp only [List.mem_append, List.mem_cons]
            rcases hz with (h | h | h | h | h | h) | h
            · exact .inl (.inl h)
            · exact .inl (.inr (.inl h))
            · exact .inl (.inr (.inr (.inl h)))
            · exact absurd h hza
            · exact .inl (.inr (.inr (.inr (.inr (.inl h)))))
            · exact .inl (.inr (.inr (.inr (.inr (.inr h)))))
            · exact .inr h
      have O9 := Lib.hid o9
      have B9 := Lib.hid b9
      have KD9 := Lib.hid kD9
      have KE9 := Lib.hid kE9
      have RW9 := Lib.hid rw9
      clear kD8 kE8 r4 o9 b9 kD9 kE9 rw9 hb8 hT9 d4 lDr
      go_upto_region 10 with fail
      generalize w8.setCell ⟨w.heap.size, 4, none⟩ (.slice a4 S.used.length c4) = w9 at *
      clear d8 z8 lD8
      have kD9 := KD9.out
      have d5 : w9.cell? ⟨w.heap.size, 5, none⟩ = some (.slice S.wa S.waste.length S.wc) := kD9.cell 5
      have lD9 := kD9.lt
      clear kD9
      go_wp2_with fail
      refine (clonePrts_any S.wa S.wc S.waste _ ((HS.out.below B9.out).waste) (by omega)).mono ?_
      rintro e w10 ⟨⟨a5, c5, rfl, r5⟩, hb10⟩
      have kD10 := KD9.out.belowS hb10
      have kE10 := KE9.out.belowS hb10
      have lD10 := kD10.lt
      have d10 : w10.cell? ⟨w.heap.size, 5, none⟩ = some (.slice S.wa S.waste.length S.wc) := kD10.cell 5
      have z10 := kD10.frozen 5
      have hs10 := hb10.size
      have hT11 : Turn (fun k => k = w.heap.size) w9 (w10.setCell ⟨w.heap.size, 5, none⟩ (.slice a5 S.waste.length c5)) := (Turn.of_below (X := fun k => k = w.heap.size) hb10).setCell (B := w.heap.size) rfl _ _
      have o11 := OwnSto.setWaste (a := a5) (c := c5) (l := S.waste) (O9.out.turn hT11 (fun k e hk => by have := (RW9.out k hk).2; have := (show k = w.heap.size from e); omega)) (fun _ _ => rfl) ((ownsRow_setCell_below r5 (a := ⟨w.heap.size, 5, none⟩) (by show w.heap.size < w9.heap.size; omega) (.slice a5 S.waste.length c5)).mono (by omega)) (fun j e hj => by
        have h1 := own_ge r5 e
        have h2 := RW9.out j (rows_nowa (S := { S.bare with la := a1, lc := c1, last := S.last, ga := a2, gc := c2, given := S.given, ha := a3, hc := c3, heaps := hs, ua := a4, uc := c4, used := S.used }) j hj)
        omega)
      have b11 : Below w.heap.size w (w10.setCell ⟨w.heap.size, 5, none⟩ (.slice a5 S.waste.length c5)) := (B9.out.trans (hb10.mono B9.out.size)).setCell (p := ⟨w.heap.size, 5, none⟩) (Nat.le_refl _) _
      have kD11 : Blk (w10.setCell ⟨w.heap.size, 5, none⟩ (.slice a5 S.waste.length c5)) w.heap.size #[.int .i64 S.year, .slice a1 S.last.length c1, .slice a2 S.given.length c2, .slice a3 hs.length c3, .slice a4 S.used.length c4, .slice a5 S.waste.length c5] 29 := kD10.set 5 _
      have kE11 := kE10.other (show w.heap.size + 1 ≠ w.heap.size by omega) (i := 5) (.slice a5 S.waste.length c5)
      have rg11 : ∀ k ∈ rowsOf { S.bare with la := a1, lc := c1, last := S.last, ga := a2, gc := c2, given := S.given, ha := a3, hc := c3, heaps := hs, ua := a4, uc := c4, used := S.used, wa := a5, wc := c5, waste := S.waste }, w1.heap.size ≤ k := fun k hk => by
        by_cases h2 : a5.map (·.block) = some k
        · have := own_ge r5 h2; omega
        · simp only [rowsOf, List.mem_filterMap, List.mem_append, List.mem_cons] at hk
          obtain ⟨z, hz, e⟩ := hk
          by_cases hza : z = a5
          · subst hza; exact absurd e h2
          · refine (RW9.out k (List.mem_filterMap.2 ⟨z, ?_, e⟩)).2
            simp only [List.mem_append, List.mem_cons]
            rcases hz with (h | h | h | h | h | h) | h
            · exact .inl (.inl h)
            · exact .inl (.inr (.inl h))
            · exact .inl (.inr (.inr (.inl h)))
            · exact .inl (.inr (.inr (.inr (.inl h))))
            · exact absurd h hza
            · exact .inl (.inr (.inr (.inr (.inr (.inr h)))))
            · exact .inr h
      have O11 := Lib.hid o11
      have B11 := Lib.hid b11
      have KD11 := Lib.hid kD11
      have KE11 := Lib.hid kE11
      have RG11 := Lib.hid rg11
      clear kD10 kE10 r5 o11 b11 kD11 kE11 rg11 hb10 hT11 d5 lD9
      go_upto_region 11 with fail
      generalize w10.setCell ⟨w.heap.size, 5, none⟩ (.slice a5 S.waste.length c5) = w11 at *
      clear d10 z10 lD10
      have kD11 := KD11.out
      have kE11 := KE11.out
      have lD11 := kD11.lt
      have lE11 := kE11.lt
      obtain ⟨m0, m1, m2, m3, m4, m5⟩ := (show w11.cell? ⟨w.heap.size, 0, none⟩ = some (.int .i64 S.year) ∧ w11.cell? ⟨w.heap.size, 1, none⟩ = some (.slice a1 S.last.length c1) ∧ w11.cell? ⟨w.heap.size, 2, none⟩ = some (.slice a2 S.given.length c2) ∧ w11.cell? ⟨w.heap.size, 3, none⟩ = some (.slice a3 hs.length c3) ∧ w11.cell? ⟨w.heap.size, 4, none⟩ = some (.slice a4 S.used.length c4) ∧ w11.cell? ⟨w.heap.size, 5, none⟩ = some (.slice a5 S.waste.length c5) from ⟨kD11.cell 0, kD11.cell 1, kD11.cell 2, kD11.cell 3, kD11.cell 4, kD11.cell 5⟩)
      obtain ⟨f0, f1, f2, f3, f4, f5⟩ := (show w11.cell? ⟨w.heap.size + 1, 0, none⟩ = some (.int .i64 0) ∧ w11.cell? ⟨w.heap.size + 1, 1, none⟩ = some (.slice none 0 0) ∧ w11.cell? ⟨w.heap.size + 1, 2, none⟩ = some (.slice none 0 0) ∧ w11.cell? ⟨w.heap.size + 1, 3, none⟩ = some (.slice none 0 0) ∧ w11.cell? ⟨w.heap.size + 1, 4, none⟩ = some (.slice none 0 0) ∧ w11.cell? ⟨w.heap.size + 1, 5, none⟩ = some (.slice none 0 0) from ⟨kE11.cell 0, kE11.cell 1, kE11.cell 2, kE11.cell 3, kE11.cell 4, kE11.cell 5⟩)
      have y0 := kE11.frozen 0
      have y1 := kE11.frozen 1
      have y2 := kE11.frozen 2
      have y3 := kE11.frozen 3
      have y4 := kE11.frozen 4
      have y5 := kE11.frozen 5
      clear kD11 kE11
      go_wp2_with fail
      have kf := (((((KE11.out.set 0 (.int .i64 S.year)).set 1 (.slice a1 S.last.length c1)).set 2 (.slice a2 S.given.length c2)).set 3 (.slice a3 hs.length c3)).set 4 (.slice a4 S.used.length c4)).set 5 (.slice a5 S.waste.length c5)
      have hTf : Turn (fun k => k = w.heap.size + 1) w11 ((((((w11.setCell ⟨w.heap.size + 1, 0, none⟩ (.int .i64 S.year)).setCell ⟨w.heap.size + 1, 1, none⟩ (.slice a1 S.last.length c1)).setCell ⟨w.heap.size + 1, 2, none⟩ (.slice a2 S.given.length c2)).setCell ⟨w.heap.size + 1, 3, none⟩ (.slice a3 hs.length c3)).setCell ⟨w.heap.size + 1, 4, none⟩ (.slice a4 S.used.length c4)).setCell ⟨w.heap.size + 1, 5, none⟩ (.slice a5 S.waste.length c5)) :=
        ((((((Turn.of_below (X := fun k => k = w.heap.size + 1) (Below.refl _ w11)).setCell (B := w.heap.size + 1) rfl _ _).setCell (B := w.heap.size + 1) rfl _ _).setCell (B := w.heap.size + 1) rfl _ _).setCell (B := w.heap.size + 1) rfl _ _).setCell (B := w.heap.size + 1) rfl _ _).setCell (B := w.heap.size + 1) rfl _ _
      generalize ((((((w11.setCell ⟨w.heap.size + 1, 0, none⟩ (.int .i64 S.year)).setCell ⟨w.heap.size + 1, 1, none⟩ (.slice a1 S.last.length c1)).setCell ⟨w.heap.size + 1, 2, none⟩ (.slice a2 S.given.length c2)).setCell ⟨w.heap.size + 1, 3, none⟩ (.slice a3 hs.length c3)).setCell ⟨w.heap.size + 1, 4, none⟩ (.slice a4 S.used.length c4)).setCell ⟨w.heap.size + 1, 5, none⟩ (.slice a5 S.waste.length c5)) = wf at *
      have kf2 : Blk wf (w.heap.size + 1) #[.int .i64 S.year, .slice a1 S.last.length c1, .slice a2 S.given.length c2, .slice a3 hs.length c3, .slice a4 S.used.length c4, .slice a5 S.waste.length c5] 29 := kf
      clear kf f0 f1 f2 f3 f4 f5 y0 y1 y2 y3 y4 y5 m0 m1 m2 m3 m4 m5
      have f0 := kf2.cell 0
      have f1 := kf2.cell 1
      have f2 := kf2.cell 2
      have f3 := kf2.cell 3
      have f4 := kf2.cell 4
      have f5 := kf2.cell 5
      simp only [List.getElem?_toArray, List.getElem?_cons_zero, List.getElem?_cons_succ] at f0 f1 f2 f3 f4 f5
      refine bodyPost_ret (v := .agg #[.int .i64 S.year, .slice a1 S.last.length c1, .slice a2 S.given.length c2, .slice a3 hs.length c3, .slice a4 S.used.length c4, .slice a5 S.waste.length c5]) ?_ rfl ⟨⟨{ S.bare with la := a1, lc := c1, last := S.last, ga := a2, gc := c2, given := S.given, ha := a3, hc := c3, heaps := hs, ua := a4, uc := c4, used := S.used, wa := a5, wc := c5, waste := S.waste }, rfl, O11.out.turn hTf (fun k e hk => by have := RG11.out k hk; have := (show k = w.heap.size + 1 from e); omega), ⟨rfl, rfl, rfl, rfl, rfl, HSA.out.1, HSA.out.2⟩⟩, B11.out.trans (hTf.below B11.out.size (fun k e => by rw [show k = w.heap.size + 1 from e]; omega))⟩
      simp [results, Tryz.results19, go_sem, f0, f1, f2, f3, f4, f5]
end
end Go.Proofs.YtfhalmlpnoepcaaGreat
namespace Go.Proofs.YtfhalmlpnoepcaaGreat
section
set_option linter.unusedSimpArgs false
open Go.RowKit

theorem assert_is (x : Int) (w : World) : (Instr.typeAssert (.iface 38 (.int .i64 x)) 20 38 true).run Tryz.prog w = .ok (.tuple #[.int .i64 x, .bool true]) w := by kernel_rfl
theorem assert_not (w : World) : (Instr.typeAssert .nilIface 20 38 true).run Tryz.prog w = .ok (.tuple #[.int .i64 0, .bool false]) w := by kernel_rfl
abbrev zeroS : Array Value := #[.int .i64 0, .slice none 0 0, .slice none 0 0, .slice none 0 0, .slice none 0 0, .slice none 0 0]
def emptyS : Sto := ⟨0, none, 0, [], none, 0, [], none, 0, [], none, 0, [], none, 0, []⟩
theorem empty_own (base : Nat) (w : World) : OwnSto base w emptyS :=
  ⟨World.ownsRow_nil _ _ _ _, World.ownsRow_nil _ _ _ _, World.ownsRow_nil _ _ _ _, fun h hh => (by cases hh), World.ownsRow_nil _ _ _ _, World.ownsRow_nil _ _ _ _, fun h hh => (by cases hh), (by simp [rowsOf, emptyS])⟩

set_option maxRecDepth 100000 in
set_option maxHeartbeats 4000000 in
theorem catch_panicking (E : Nat) (x : Int) (older : List PanicEntry) (u0 : Value) (w : World) (k2 : Blk w E #[u0] 38) :
    CallsD Tryz.prog 60 #[.pointer (some ⟨E, 0, none⟩)] (.panicking ({ v := .iface 38 (.int .i64 x), recovered := false } :: older)) w fun e u' w' =>
      e = .returned (.tuple #[]) ∧ u' = .panicking ({ v := .iface 38 (.int .i64 x), recovered := true } :: older) ∧ w' = w.setCell ⟨E, 0, none⟩ (.int .i64 x) := by
  have d0 := k2.cell 0
  simp only [List.getElem?_toArray, List.getElem?_cons_zero, List.getElem?_cons_succ] at d0
  have y0 := k2.frozen 0
  refine callsD_of_wpS Tryz.func60 rfl fun c₀ cs hu => ?_
  apply wpS_seq
  apply wpS_region
  simp [wpOpsS, go_sem, recoverD, hu, Tryz.ntmps60, Exit.thenS, assert_is, assert_not]
  apply wpS_seq
  apply wpS_region
  simp [wpOpsS, go_sem, Exit.thenS]
  refine wpS_cond (t := true) (by simp [Act.eval, Array.replicate]) ?_
  simp only [if_true]
  apply wpS_region
  simp [wpOpsS, go_sem, d0, y0, bodyPostS, results, Tryz.results60]
set_option maxRecDepth 100000 in
set_option maxHeartbeats 4000000 in
theorem catch_idle (E : Nat) (w : World) :
    CallsD Tryz.prog 60 #[.pointer (some ⟨E, 0, none⟩)] .returning w fun e u' w' => e = .returned (.tuple #[]) ∧ u' = .returning ∧ w' = w := by
  refine callsD_of_wpS Tryz.func60 rfl fun c₀ cs hu => ?_
  apply wpS_seq
  apply wpS_region
  simp [wpOpsS, go_sem, recoverD, hu, Tryz.ntmps60, Exit.thenS, assert_is, assert_not]
  apply wpS_seq
  apply wpS_region
  simp [wpOpsS, go_sem, Exit.thenS]
  refine wpS_cond (t := false) (by simp [Act.eval, Array.replicate]) ?_
  simp only [Bool.false_eq_true, if_false]
  refine wpS_of_wp (wp_skip ?_)
  cases c₀
  simp_all [bodyPostS, results, Tryz.results60]

/-- What Do's closure does: it returns a store, or panics with an error. -/
def DoneSaid (x : Int) (T : Sto) (w : World) (e : Ending) (w' : World) : Prop :=
  ((x = 0 ∧ ∃ U, e = .returned (stoV U) ∧ OwnSto w.heap.size w' U ∧ SameSto U T) ∨ (x ≠ 0 ∧ e = chain x)) ∧ Below w.heap.size w w'

set_option maxRecDepth 100000 in
set_option maxHeartbeats 4000000 in
theorem answerIn_any (A B p q r : Nat) (x : Int) (T : Sto) (w : World) (kA : Blk w A #[.func (.func 18) #[] #[.pointer (some ⟨p, 0, none⟩), .pointer (some ⟨q, 0, none⟩), .pointer (some ⟨r, 0, none⟩)]] 65) (kB : Blk w B zeroS 29) (hdo : Calls Tryz.prog 18 #[.pointer (some ⟨p, 0, none⟩), .pointer (some ⟨q, 0, none⟩), .pointer (some ⟨r, 0, none⟩)] w (DoneSaid x T w)) :
    Calls Tryz.prog 32 #[.pointer (some ⟨A, 0, none⟩), .pointer (some ⟨B, 0, none⟩)] w fun e w' =>
      ((x = 0 ∧ e = .returned (.tuple #[]) ∧ ∃ U, Blk w' B (stoC U) 29 ∧ OwnSto w.heap.size w' U ∧ SameSto U T) ∨ (x ≠ 0 ∧ e = chain x ∧ Blk w' B zeroS 29)) ∧ Turn (fun k => k = B) w w' := by
  have lA := kA.lt
  have a0 : w.cell? ⟨A, 0, none⟩ = some (.func (.func 18) #[] #[.pointer (some ⟨p, 0, none⟩), .pointer (some ⟨q, 0, none⟩), .pointer (some ⟨r, 0, none⟩)]) := kA.cell 0
  have HDO := Lib.hid hdo
  have KB := Lib.hid kB
  clear kA kB hdo
  go_enter Tryz.func32, Tryz.ntmps32
  go_wp2_with fail
  refine HDO.out.mono ?_
  rintro e w1 ⟨h, hb⟩
  have kB1 := KB.out.belowS hb
  have lB := kB1.lt
  have HB := Lib.hid hb
  have HLT := Lib.hid KB.out.lt
  clear a0 lA hb HDO KB
  rcases h with ⟨hx, U, rfl, hU, hs⟩ | ⟨hx, rfl⟩
  · obtain ⟨b0, b1, b2, b3, b4, b5⟩ := sto_cells (S := emptyS) (show Blk w1 B (stoC emptyS) 29 from kB1)
    simp only [emptyS, List.length_nil] at b0 b1 b2 b3 b4 b5
    have z0 := kB1.frozen 0
    have z1 := kB1.frozen 1
    have z2 := kB1.frozen 2
    have z3 := kB1.frozen 3
    have z4 := kB1.frozen 4
    have z5 := kB1.frozen 5
    have HX := Lib.hid hx
    have HU := Lib.hid hU
    have HS := Lib.hid hs
    have KB1 := Lib.hid kB1
    clear hx hU hs kB1
    go_wp2_with fail
    have kf : Blk ((((((w1.setCell ⟨B, 0, none⟩ (.int .i64 U.year)).setCell ⟨B, 1, none⟩ (.slice U.la U.last.length U.lc)).setCell ⟨B, 2, none⟩ (.slice U.ga U.given.length U.gc)).setCell ⟨B, 3, none⟩ (.slice U.ha U.heaps.length U.hc)).setCell ⟨B, 4, none⟩ (.slice U.ua U.used.length U.uc)).setCell ⟨B, 5, none⟩ (.slice U.wa U.waste.length U.wc)) B (stoC U) 29 := ((((((KB1.out.set 0 (.int .i64 U.year)).set 1 (.slice U.la U.last.length U.lc)).set 2 (.slice U.ga U.given.length U.gc)).set 3 (.slice U.ha U.heaps.length U.hc)).set 4 (.slice U.ua U.used.length U.uc)).set 5 (.slice U.wa U.waste.length U.wc))
    have ht : Turn (fun k => k = B) w1 ((((((w1.setCell ⟨B, 0, none⟩ (.int .i64 U.year)).setCell ⟨B, 1, none⟩ (.slice U.la U.last.length U.lc)).setCell ⟨B, 2, none⟩ (.slice U.ga U.given.length U.gc)).setCell ⟨B, 3, none⟩ (.slice U.ha U.heaps.length U.hc)).setCell ⟨B, 4, none⟩ (.slice U.ua U.used.length U.uc)).setCell ⟨B, 5, none⟩ (.slice U.wa U.waste.length U.wc)) := (((((((Turn.of_below (X := fun k => k = B) (Below.refl _ w1)).setCell (B := B) rfl 0 (.int .i64 U.year)).setCell (B := B) rfl 1 (.slice U.la U.last.length U.lc)).setCell (B := B) rfl 2 (.slice U.ga U.given.length U.gc)).setCell (B := B) rfl 3 (.slice U.ha U.heaps.length U.hc)).setCell (B := B) rfl 4 (.slice U.ua U.used.length U.uc)).setCell (B := B) rfl 5 (.slice U.wa U.waste.length U.wc))
    generalize ((((((w1.setCell ⟨B, 0, none⟩ (.int .i64 U.year)).setCell ⟨B, 1, none⟩ (.slice U.la U.last.length U.lc)).setCell ⟨B, 2, none⟩ (.slice U.ga U.given.length U.gc)).setCell ⟨B, 3, none⟩ (.slice U.ha U.heaps.length U.hc)).setCell ⟨B, 4, none⟩ (.slice U.ua U.used.length U.uc)).setCell ⟨B, 5, none⟩ (.slice U.wa U.waste.length U.wc)) = wf at *
    go_end0
    exact ⟨.inl ⟨HX.out, rfl, U, kf, HU.out.turn ht (fun k e hk => by have := (HU.out.ge k hk).1; have := HLT.out; rw [show k = B from e] at *; omega), HS.out⟩, (Turn.of_below HB.out).trans ht⟩
  · have HX := Lib.hid hx
    have KB1 := Lib.hid kB1
    clear hx kB1
    go_wp2_with fail
    exact ⟨rfl, .inr ⟨HX.out, rfl, KB1.out⟩, Turn.of_below HB.out⟩

set_option maxRecDepth 100000 in
set_option maxHeartbeats 4000000 in
theorem ofDo_any (A B p q r : Nat) (x : Int) (T : Sto) (w : World) (kA : Blk w A #[.func (.func 18) #[] #[.pointer (some ⟨p, 0, none⟩), .pointer (some ⟨q, 0, none⟩), .pointer (some ⟨r, 0, none⟩)]] 65) (kB : Blk w B zeroS 29) (hdo : ∀ w1, Below w.heap.size w w1 → Calls Tryz.prog 18 #[.pointer (some ⟨p, 0, none⟩), .pointer (some ⟨q, 0, none⟩), .pointer (some ⟨r, 0, none⟩)] w1 (DoneSaid x T w1)) :
    Calls Tryz.prog 31 #[.func (.func 32) #[] #[.pointer (some ⟨A, 0, none⟩), .pointer (some ⟨B, 0, none⟩)]] w fun e w' =>
      e = .returned (.int .i64 x) ∧ ((x = 0 ∧ ∃ U, Blk w' B (stoC U) 29 ∧ OwnSto w.heap.size w' U ∧ SameSto U T) ∨ (x ≠ 0 ∧ Blk w' B zeroS 29)) ∧ Turn (fun k => k = B) w w' := by
  have hmf : ∀ (fn : Fn) (first cap : Array Value) (w : World), (Instr.makeFunc fn first cap).run Tryz.prog w = .ok (.func fn first cap) w := fun _ _ _ _ => rfl
  have hb1 : Below w.heap.size w (w.alloc (.cells #[.int .i64 0] 38)) := (Below.refl _ w).alloc (Nat.le_refl _) _
  have kE := Blk.new w 38 #[.int .i64 0]
  have HAN := Lib.hid (answerIn_any A B p q r x T _ (kA.belowS hb1) (kB.belowS hb1) (hdo _ hb1))
  have HLB := Lib.hid kB.lt
  have HB1 := Lib.hid hb1
  clear kA kB hdo hb1
  go_enter_defers Tryz.func31, Tryz.ntmps31
  go_upto_region 1 with fail
  have hsz : (w.alloc (.cells #[.int .i64 0] 38)).heap.size = w.heap.size + 1 := World.size_alloc _ _
  have HSZ := Lib.hid hsz
  clear hsz
  generalize w.alloc (.cells #[.int .i64 0] 38) = w1 at *
  have KE := Lib.hid kE
  clear kE
  go_wp2_with fail
  refine HAN.out.mono ?_
  rintro e w2 ⟨h, ht⟩
  have kE2 := ht.blk KE.out (fun e => by have := HLB.out; rw [show w.heap.size = B from e] at this; omega)
  have lE := kE2.lt
  have HT := Lib.hid ht
  clear ht HAN
  rcases h with ⟨hx, rfl, U, hUb, hU, hs⟩ | ⟨hx, rfl, hUb⟩
  · have c0 : w2.cell? ⟨w.heap.size, 0, none⟩ = some (.int .i64 0) := kE2.cell 0
    have z0 := kE2.frozen 0
    have KE2 := Lib.hid kE2
    have HX := Lib.hid hx
    have HUB := Lib.hid hUb
    have HU := Lib.hid hU
    have HS := Lib.hid hs
    clear kE2 hx hUb hU hs
    go_wp2_with fail
    have kf := KE2.out.set 0 (.int .i64 0)
    have kb := HUB.out.other (show B ≠ w.heap.size by have := HLB.out; omega) (i := 0) (.int .i64 0)
    have ht : Turn (fun k => k = w.heap.size) w2 (w2.setCell ⟨w.heap.size, 0, none⟩ (.int .i64 0)) := (Turn.of_below (X := fun k => k = w.heap.size) (Below.refl _ w2)).setCell (B := w.heap.size) rfl 0 (.int .i64 0)
    generalize w2.setCell ⟨w.heap.size, 0, none⟩ (.int .i64 0) = wf at *
    have g0 : wf.cell? ⟨w.heap.size, 0, none⟩ = some (.int .i64 0) := kf.cell 0
    clear c0 z0
    refine leaves_cons (f := 60) (args := #[.pointer (some ⟨w.heap.size, 0, none⟩)]) (by simp) (by simp [go_sem]) ?_
    refine (catch_idle w.heap.size _).mono ?_
    rintro e u' w'' ⟨rfl, rfl, rfl⟩
    simp [Leaves, settle, results, Tryz.results31, go_sem, g0]
    refine ⟨HX.out.symm, .inl ⟨HX.out, U, kb, (HU.out.turn ht (fun k e hk => ?_)).mono (by rw [HSZ.out]; exact Nat.le_succ _), HS.out⟩, ?_⟩
    · have := (HU.out.ge k hk).1
      rw [HSZ.out, show k = w.heap.size from e] at this
      omega
    · exact ((Turn.of_below (X := fun k => k = B ∨ k = w.heap.size) HB1.out).trans ((HT.out.mono (fun k _ e => .inl e)).trans (ht.mono (fun k _ e => .inr e)))).mono (fun k hk e => by
        rcases e with e | e
        · exact e
        · omega)
  · have KE2 := Lib.hid kE2
    have HX := Lib.hid hx
    have HUB := Lib.hid hUb
    clear kE2 hx hUb
    go_wp2_with fail
    refine leaves_cons (f := 60) (args := #[.pointer (some ⟨w.heap.size, 0, none⟩)]) (by simp) (by simp [go_sem]) ?_
    refine (catch_panicking w.heap.size x [] _ w2 KE2.out).mono ?_
    rintro e u' wf ⟨rfl, rfl, hwf⟩
    have g0 : wf.cell? ⟨w.heap.size, 0, none⟩ = some (.int .i64 x) := by rw [hwf]; exact (KE2.out.set 0 (.int .i64 x)).cell 0
    simp [Leaves, settle, results, Tryz.results31, go_sem, g0]
    have kb := HUB.out.other (show B ≠ w.heap.size by have := HLB.out; omega) (i := 0) (.int .i64 x)
    have ht : Turn (fun k => k = w.heap.size) w2 (w2.setCell ⟨w.heap.size, 0, none⟩ (.int .i64 x)) := (Turn.of_below (X := fun k => k = w.heap.size) (Below.refl _ w2)).setCell (B := w.heap.size) rfl 0 (.int .i64 x)
    rw [← hwf] at kb ht
    refine ⟨.inr ⟨HX.out, kb⟩, ?_⟩
    exact ((Turn.of_below (X := fun k => k = B ∨ k = w.heap.size) HB1.out).trans ((HT.out.mono (fun k _ e => .inl e)).trans (ht.mono (fun k _ e => .inr e)))).mono (fun k hk e => by
      rcases e with e | e
      · exact e
      · omega)

/-- The store that is told: that of what is done, or none. -/
def endS (x : Int) (T : Sto) : Sto := if x = 0 then T else emptyS
set_option maxRecDepth 100000 in
set_option maxHeartbeats 4000000 in
theorem answer_any (p q r : Nat) (x : Int) (T : Sto) (w : World) (hdo : ∀ w1, Below w.heap.size w w1 → Calls Tryz.prog 18 #[.pointer (some ⟨p, 0, none⟩), .pointer (some ⟨q, 0, none⟩), .pointer (some ⟨r, 0, none⟩)] w1 (DoneSaid x T w1)) :
    Calls Tryz.prog 17 #[.func (.func 18) #[] #[.pointer (some ⟨p, 0, none⟩), .pointer (some ⟨q, 0, none⟩), .pointer (some ⟨r, 0, none⟩)]] w fun e w' =>
      (∃ U, e = .returned (.tuple #[stoV U, .int .i64 x]) ∧ OwnSto w.heap.size w' U ∧ SameSto U (endS x T)) ∧ Below w.heap.size w w' := by
  have hmf : ∀ (fn : Fn) (first cap : Array Value) (w : World), (Instr.makeFunc fn first cap).run Tryz.prog w = .ok (.func fn first cap) w := fun _ _ _ _ => rfl
  have kA := (Blk.new w 65 #[.func (.func 18) #[] #[.pointer (some ⟨p, 0, none⟩), .pointer (some ⟨q, 0, none⟩), .pointer (some ⟨r, 0, none⟩)]]).alloc (.cells zeroS 29)
  have kB := Blk.new (w.alloc (.cells #[.func (.func 18) #[] #[.pointer (some ⟨p, 0, none⟩), .pointer (some ⟨q, 0, none⟩), .pointer (some ⟨r, 0, none⟩)]] 65)) 29 zeroS
  have hb1 : Below w.heap.size w ((w.alloc (.cells #[.func (.func 18) #[] #[.pointer (some ⟨p, 0, none⟩), .pointer (some ⟨q, 0, none⟩), .pointer (some ⟨r, 0, none⟩)]] 65)).alloc (.cells zeroS 29)) := ((Below.refl _ w).alloc (Nat.le_refl _) _).alloc (by simp) _
  have hsz : ((w.alloc (.cells #[.func (.func 18) #[] #[.pointer (some ⟨p, 0, none⟩), .pointer (some ⟨q, 0, none⟩), .pointer (some ⟨r, 0, none⟩)]] 65)).alloc (.cells zeroS 29)).heap.size = w.heap.size + 1 + 1 := by rw [World.size_alloc, World.size_alloc]
  rw [World.size_alloc] at kB
  have HDO := Lib.hid hdo
  have HSZ := Lib.hid hsz
  clear hdo hsz
  go_enter Tryz.func17, Tryz.ntmps17
  go_upto_region 1 with fail
  generalize (w.alloc (.cells #[.func (.func 18) #[] #[.pointer (some ⟨p, 0, none⟩), .pointer (some ⟨q, 0, none⟩), .pointer (some ⟨r, 0, none⟩)]] 65)).alloc (.cells zeroS 29) = w1 at *
  have HOF := Lib.hid (ofDo_any w.heap.size (w.heap.size + 1) p q r x T w1 kA kB (fun w2 h => HDO.out w2 (hb1.trans (h.mono hb1.size))))
  have HB1 := Lib.hid hb1
  clear kA kB hb1 HDO
  go_wp2_with fail
  refine HOF.out.mono ?_
  rintro e w2 ⟨rfl, h, ht⟩
  have HB2 := Lib.hid (HB1.out.trans (ht.below HB1.out.size (fun k e => by rw [show k = w.heap.size + 1 from e]; exact Nat.le_succ _)))
  have HT := Lib.hid ht.size
  clear ht HOF
  obtain ⟨U, hUb, hU, hs⟩ : ∃ U, Blk w2 (w.heap.size + 1) (stoC U) 29 ∧ OwnSto w1.heap.size w2 U ∧ SameSto U (endS x T) := by
    rcases h with ⟨hx, U, h1, h2, h3⟩ | ⟨hx, h1⟩
    · exact ⟨U, h1, h2, by unfold endS; rw [if_pos hx]; exact h3⟩
    · exact ⟨emptyS, h1, empty_own _ _, by unfold endS; rw [if_neg hx]; exact SameSto.refl _⟩
  obtain ⟨b0, b1, b2, b3, b4, b5⟩ := sto_cells hUb
  have lB := hUb.lt
  have z0 := hUb.frozen 0
  have z1 := hUb.frozen 1
  have z2 := hUb.frozen 2
  have z3 := hUb.frozen 3
  have z4 := hUb.frozen 4
  have z5 := hUb.frozen 5
  have KB := Lib.hid hUb
  have HU := Lib.hid hU
  have HS := Lib.hid hs
  clear h hUb hU hs
  go_wp2_with fail
  have kf : Blk ((((((w2.setCell ⟨w.heap.size + 1, 0, none⟩ (.int .i64 U.year)).setCell ⟨w.heap.size + 1, 1, none⟩ (.slice U.la U.last.length U.lc)).setCell ⟨w.heap.size + 1, 2, none⟩ (.slice U.ga U.given.length U.gc)).setCell ⟨w.heap.size + 1, 3, none⟩ (.slice U.ha U.heaps.length U.hc)).setCell ⟨w.heap.size + 1, 4, none⟩ (.slice U.ua U.used.length U.uc)).setCell ⟨w.heap.size + 1, 5, none⟩ (.slice U.wa U.waste.length U.wc)) (w.heap.size + 1) (stoC U) 29 := ((((((KB.out.set 0 (.int .i64 U.year)).set 1 (.slice U.la U.last.length U.lc)).set 2 (.slice U.ga U.given.length U.gc)).set 3 (.slice U.ha U.heaps.length U.hc)).set 4 (.slice U.ua U.used.length U.uc)).set 5 (.slice U.wa U.waste.length U.wc))
  have ht : Turn (fun k => k = w.heap.size + 1) w2 ((((((w2.setCell ⟨w.heap.size + 1, 0, none⟩ (.int .i64 U.year)).setCell ⟨w.heap.size + 1, 1, none⟩ (.slice U.la U.last.length U.lc)).setCell ⟨w.heap.size + 1, 2, none⟩ (.slice U.ga U.given.length U.gc)).setCell ⟨w.heap.size + 1, 3, none⟩ (.slice U.ha U.heaps.length U.hc)).setCell ⟨w.heap.size + 1, 4, none⟩ (.slice U.ua U.used.length U.uc)).setCell ⟨w.heap.size + 1, 5, none⟩ (.slice U.wa U.waste.length U.wc)) := (((((((Turn.of_below (X := fun k => k = w.heap.size + 1) (Below.refl _ w2)).setCell (B := w.heap.size + 1) rfl 0 (.int .i64 U.year)).setCell (B := w.heap.size + 1) rfl 1 (.slice U.la U.last.length U.lc)).setCell (B := w.heap.size + 1) rfl 2 (.slice U.ga U.given.length U.gc)).setCell (B := w.heap.size + 1) rfl 3 (.slice U.ha U.heaps.length U.hc)).setCell (B := w.heap.size + 1) rfl 4 (.slice U.ua U.used.length U.uc)).setCell (B := w.heap.size + 1) rfl 5 (.slice U.wa U.waste.length U.wc))
  generalize ((((((w2.setCell ⟨w.heap.size + 1, 0, none⟩ (.int .i64 U.year)).setCell ⟨w.heap.size + 1, 1, none⟩ (.slice U.la U.last.length U.lc)).setCell ⟨w.heap.size + 1, 2, none⟩ (.slice U.ga U.given.length U.gc)).setCell ⟨w.heap.size + 1, 3, none⟩ (.slice U.ha U.heaps.length U.hc)).setCell ⟨w.heap.size + 1, 4, none⟩ (.slice U.ua U.used.length U.uc)).setCell ⟨w.heap.size + 1, 5, none⟩ (.slice U.wa U.waste.length U.wc)) = wf at *
  clear b0 b1 b2 b3 b4 b5 z0 z1 z2 z3 z4 z5
  obtain ⟨g0, g1, g2, g3, g4, g5⟩ := sto_cells kf
  refine bodyPost_ret (v := .tuple #[stoV U, .int .i64 x]) (by simp [results, Tryz.results17, go_sem, g0, g1, g2, g3, g4, g5]) rfl ⟨⟨U, rfl, (HU.out.turn ht (fun k e hk => ?_)).mono HB1.out.size, HS.out⟩, HB2.out.trans (ht.below HB2.out.size (fun k e => by rw [show k = w.heap.size + 1 from e]; exact Nat.le_succ _))⟩
  have := (HU.out.ge k hk).1
  rw [HSZ.out, show k = w.heap.size + 1 from e] at this
  omega
end
end Go.Proofs.YtfhalmlpnoepcaaGreat
namespace Go.Proofs.YtfhalmlpnoepcaaGreat
section
set_option linter.unusedSimpArgs false
open Go.RowKit

theorem sameH_cons {x y : Hep} {l m : List Hep} (h : sameH (x :: l) (y :: m)) : SameHep x y ∧ sameH l m :=
  ⟨h.2 0 x y rfl rfl, by simpa using h.1, fun i g k hg hk => h.2 (i + 1) g k (by simpa using hg) (by simpa using hk)⟩
theorem sameH_fold {α : Type} (f : Hep → α) (hf : ∀ x y, SameHep x y → f x = f y) : ∀ {l m : List Hep}, sameH l m → l.map f = m.map f
  | [], [], _ => rfl
  | [], _ :: _, h => by have := h.1; simp at this
  | _ :: _, [], h => by have := h.1; simp at this
  | x :: l, y :: m, h => by
    obtain ⟨h1, h2⟩ := sameH_cons h
    rw [List.map_cons, List.map_cons, hf x y h1, sameH_fold f hf h2]
theorem same_idx {l m : List Hep} (h : sameH l m) (nm : ByteArray) : idxH l nm = idxH m nm := by
  have h1 := sameH_fold (fun x : Hep => x.name) (fun _ _ k => k.name) h
  have key : ∀ l : List Hep, l.findIdx? (fun h => strB h.name nm) = (l.map (·.name)).findIdx? (fun s => strB s nm) := fun l => by rw [List.findIdx?_map]; rfl
  unfold idxH
  rw [key l, key m, h1]
theorem same_left {l m : List Hep} (h : sameH l m) (i : Int) : leftM i l = leftM i m := by
  induction l generalizing m with
  | nil => cases m with
    | nil => rfl
    | cons _ _ => have := h.1; simp at this
  | cons x l ih => cases m with
    | nil => have := h.1; simp at this
    | cons y m =>
      obtain ⟨h1, h2⟩ := sameH_cons h
      simp only [leftM, h1.parts, ih h2]
theorem same_heaps {l m : List Hep} (h : sameH l m) : heapsM l = heapsM m := by
  induction l generalizing m with
  | nil => cases m with
    | nil => rfl
    | cons _ _ => have := h.1; simp at this
  | cons x l ih => cases m with
    | nil => have := h.1; simp at this
    | cons y m =>
      obtain ⟨h1, h2⟩ := sameH_cons h
      simp only [heapsM, h1.parts, ih h2]
theorem sameH.take {l m : List Hep} (h : sameH l m) (i : Nat) : Go.Proofs.YtfhalmlpnoepcaaGreat.sameH (l.take i) (m.take i) := by
  refine ⟨by rw [List.length_take, List.length_take, h.1], fun j g k hg hk => ?_⟩
  rw [List.getElem?_take] at hg hk
  split at hg
  · next e => rw [if_pos e] at hk; exact h.2 j g k hg hk
  · cases hg
theorem same_heapB {ps : List Plt} {x y : Hep} (h : SameHep x y) : heapB ps x = heapB ps y := by
  unfold heapB
  rw [h.name, h.crop, h.stage, h.wlo, h.whi, h.parts, h.per]
theorem same_heapsB {ps : List Plt} {l m : List Hep} (h : sameH l m) : heapsB ps l = heapsB ps m := by
  unfold heapsB
  rw [h.1]
  congr 1
  have : heapAt ps l = heapAt ps m := by
    funext i
    unfold heapAt
    cases hl : l[i]? with
    | none =>
      have : m[i]? = none := by rw [List.getElem?_eq_none_iff] at hl ⊢; rw [← h.1]; exact hl
      rw [this]
    | some x =>
      obtain ⟨y, hy, hxy⟩ := h.get hl
      rw [hy]
      simp only [same_idx (h.take i), hxy.name, same_heapB hxy]
  rw [this]
theorem same_there {l m : List Hep} (h : sameH l m) (used waste : List Prt) : thereM used l waste = thereM used m waste := by
  funext i
  unfold thereM
  rw [same_left h]
theorem same_storeE {F : Frm} {S T : Sto} (h : SameSto S T) : storeE F S = storeE F T := by
  unfold storeE mayB balB
  rw [h.year, h.last, h.given, h.used, h.waste, same_heapsB h.sameH, same_there h.sameH]
theorem same_fit {S T : Sto} (h : SameSto S T) (hf : T.fit) : S.fit :=
  ⟨by rw [h.used]; exact hf.used, by rw [h.waste]; exact hf.waste, by rw [h.many]; exact hf.heaps, fun x hx => by
    obtain ⟨i, hi, rfl⟩ := List.getElem_of_mem hx
    obtain ⟨y, hy, hxy⟩ := h.sameH.get (List.getElem?_eq_getElem hi)
    rw [hxy.parts]
    exact hf.parts y (List.mem_of_getElem? hy)⟩
theorem same_hep {S T : Sto} (h : SameSto S T) (nm : ByteArray) : SameHep (hepAt S nm) (hepAt T nm) := by
  unfold hepAt
  rw [same_idx h.sameH nm]
  cases hl : S.heaps[(idxH T.heaps nm).toNat]? with
  | none =>
    have : T.heaps[(idxH T.heaps nm).toNat]? = none := by rw [List.getElem?_eq_none_iff] at hl ⊢; rw [← h.many]; exact hl
    rw [this]
    exact SameHep.refl _
  | some x =>
    obtain ⟨y, hy, hxy⟩ := h.sameH.get hl
    rw [hy]
    exact hxy
def SameR (r q : Int × Sto) : Prop := r.1 = q.1 ∧ SameSto r.2 q.2
theorem SameSto.withHeaps {S T : Sto} (h : SameSto S T) {l m : List Hep} (hl : Go.Proofs.YtfhalmlpnoepcaaGreat.sameH l m) : SameSto { S with heaps := l } { T with heaps := m } := ⟨h.year, h.last, h.given, h.used, h.waste, hl.1, hl.2⟩
theorem same_all {S T : Sto} (h : SameSto S T) : allM S = allM T := by unfold allM; rw [h.used, h.waste, same_heaps h.sameH]
theorem same_year {S T : Sto} (h : SameSto S T) : SameR (yearD S) (yearD T) := by
  unfold yearD SameR
  rw [h.year]
  split
  · exact ⟨rfl, rfl, h.last, h.given, h.used, h.waste, h.many, h.heaps⟩
  · exact ⟨rfl, h⟩
theorem same_cut {F : Frm} {S T : Sto} (h : SameSto S T) (a : Chr) : SameR (cutD F S a) (cutD F T a) := by
  unfold cutD SameR
  rw [same_idx h.sameH, h.last, h.given, h.year, h.many, same_all h]
  repeat' split
  all_goals first
    | exact ⟨rfl, h⟩
    | exact ⟨rfl, rfl, rfl, rfl, h.used, h.waste, (h.sameH.append (SameHep.refl _)).1, (h.sameH.append (SameHep.refl _)).2⟩
theorem same_dry {S T : Sto} (h : SameSto S T) (a : Chr) : SameR (dryD S a) (dryD T a) := by
  have hh := same_hep h a.name
  unfold dryD SameR
  rw [same_idx h.sameH, hh.stage, hh.wlo, hh.whi]
  repeat' split
  all_goals first
    | exact ⟨rfl, h⟩
    | exact ⟨rfl, h.withHeaps (h.sameH.set _ ⟨hh.name, hh.crop, hh.stage, hh.parts, hh.per, rfl, rfl⟩)⟩
theorem same_comb {F : Frm} {S T : Sto} (h : SameSto S T) (a : Chr) : SameR (combD F S a) (combD F T a) := by
  have hh := same_hep h a.name
  unfold combD SameR
  rw [same_idx h.sameH, hh.stage, hh.whi, hh.parts, h.waste]
  have hm : sameH (moveH (S.heaps.set (idxH T.heaps a.name).toNat { hepAt S a.name with stage := 2 }) (idxH T.heaps a.name).toNat a.loads) (moveH (T.heaps.set (idxH T.heaps a.name).toNat { hepAt T a.name with stage := 2 }) (idxH T.heaps a.name).toNat a.loads) :=
    sameH.move (sameH.set h.sameH _ (x := { hepAt S a.name with stage := 2 }) (y := { hepAt T a.name with stage := 2 }) ⟨hh.name, hh.crop, rfl, hh.parts, hh.per, hh.wlo, hh.whi⟩) _ _
  repeat' split
  all_goals first
    | exact ⟨rfl, h⟩
    | exact ⟨rfl, h.year, h.last, h.given, h.used, rfl, hm.1, hm.2⟩
theorem same_join {S T : Sto} (h : SameSto S T) (a : Chr) : SameR (joinD S a) (joinD T a) := by
  have hh := same_hep h a.name
  have hk := same_hep h a.other
  unfold joinD SameR
  rw [same_idx h.sameH a.name, same_idx h.sameH a.other, hh.stage, hh.crop, hk.stage, hk.crop, hh.parts, hk.parts, hh.wlo, hh.whi, hk.wlo, hk.whi]
  repeat' split
  all_goals first
    | exact ⟨rfl, h⟩
    | (refine ⟨rfl, h.withHeaps (sameH.erase (sameH.set h.sameH _ ?_) _)⟩; exact ⟨hh.name, hh.crop, hh.stage, rfl, hh.per, rfl, rfl⟩)
theorem same_bind {F : Frm} {S T : Sto} (h : SameSto S T) (a : Chr) : SameR (bindD F S a) (bindD F T a) := by
  have hh := same_hep h a.name
  unfold bindD SameR
  rw [same_idx h.sameH a.name, same_idx h.sameH a.other, hh.stage, hh.crop, hh.parts, hh.wlo, hh.whi, h.many]
  repeat' split
  all_goals first
    | exact ⟨rfl, h⟩
    | exact ⟨rfl, h.withHeaps ((h.sameH.move _ _).append (SameHep.refl _))⟩
theorem same_use {S T : Sto} (h : SameSto S T) (a : Chr) : SameR (useD S a) (useD T a) := by
  have hh := same_hep h a.name
  unfold useD SameR
  rw [same_idx h.sameH a.name, hh.stage, hh.parts, hh.per, h.used]
  have hm := h.sameH.move (idxH T.heaps a.name).toNat (a.loads * (hepAt T a.name).per)
  repeat' split
  all_goals first
    | exact ⟨rfl, h⟩
    | exact ⟨rfl, h.year, h.last, h.given, rfl, h.waste, hm.1, hm.2⟩
theorem same_rot {F : Frm} {S T : Sto} (h : SameSto S T) (a : Chr) : SameR (rotD F S a) (rotD F T a) := by
  have hh := same_hep h a.name
  unfold rotD SameR
  rw [same_idx h.sameH a.name, hh.whi, hh.parts, h.waste]
  have hm := h.sameH.move (idxH T.heaps a.name).toNat (loadsM (hepAt T a.name).parts)
  repeat' split
  all_goals first
    | exact ⟨rfl, h⟩
    | exact ⟨rfl, h.year, h.last, h.given, h.used, rfl, hm.1, hm.2⟩
theorem same_chore {F : Frm} {S T : Sto} (h : SameSto S T) (a : Chr) : SameR (choreD F S a) (choreD F T a) := by
  unfold choreD
  repeat' split
  · exact same_year h
  · exact same_cut h a
  · exact same_dry h a
  · exact same_comb h a
  · exact same_join h a
  · exact same_bind h a
  · exact same_use h a
  · exact same_rot h a
theorem same_do {F : Frm} {S T : Sto} (h : SameSto S T) (a : Chr) : SameR (doD F S a) (doD F T a) := by
  unfold doD
  rw [same_storeE h]
  split
  · exact ⟨rfl, h⟩
  · split
    · exact ⟨rfl, h⟩
    · exact same_chore h a
end
end Go.Proofs.YtfhalmlpnoepcaaGreat
namespace Go.Proofs.YtfhalmlpnoepcaaGreat
section
set_option linter.unusedSimpArgs false
open Go.RowKit

/-- What Do returns: the store behind the chore, or an error and no store. -/
def DoSaid (F : Frm) (S : Sto) (a : Chr) (w : World) (e : Ending) (w' : World) : Prop :=
  (∃ T, e = .returned (.tuple #[stoV T, .int .i64 (doD F S a).1]) ∧ OwnSto w.heap.size w' T ∧ SameSto T (if (doD F S a).1 = 0 then (doD F S a).2 else emptyS)) ∧ Below w.heap.size w w'
theorem doD_step {F : Frm} {S : Sto} {a : Chr} (h : storeE F S = 0) : doD F S a = stepD F S a := by unfold doD stepD; rw [if_neg (by simp [h])]
theorem doD_err {F : Frm} {S : Sto} {a : Chr} (h : ¬ storeE F S = 0) : doD F S a = (storeE F S, S) := by unfold doD; rw [if_pos h]

set_option maxRecDepth 100000 in
set_option maxHeartbeats 8000000 in
theorem doBody_any (F : Frm) (S : Sto) (a : Chr) (p q r : Nat) (w : World) (kF : Blk w p #[.slice F.pa F.ps.length F.pc, .int .i64 F.dry] 24) (kS : Blk w q (stoC S) 29) (kA : Blk w r (chrC a) 34)
    (hF : IsFarm w F) (hS : IsStore w S) (hE : storeE F S = 0) (hfit : S.fit) (hnm : a.name.size ≤ maxLen) (hno : a.other.size ≤ maxLen) :
    Calls Tryz.prog 18 #[.pointer (some ⟨p, 0, none⟩), .pointer (some ⟨q, 0, none⟩), .pointer (some ⟨r, 0, none⟩)] w (DoneSaid (stepD F S a).1 (stepD F S a).2 w) := by
  have kR := Blk.new w 29 zeroS
  have hb1 : Below w.heap.size w (w.alloc (.cells zeroS 29)) := (Below.refl _ w).alloc (Nat.le_refl _) _
  have HSZ := Lib.hid (World.size_alloc w (.cells zeroS 29))
  have KF2 := Lib.hid (kF.belowS hb1)
  have KS2 := Lib.hid (kS.belowS hb1)
  have KA2 := Lib.hid (kA.belowS hb1)
  have HF := Lib.hid hF
  have HS := Lib.hid hS
  have HFIT := Lib.hid hfit
  have HE := Lib.hid hE
  clear kF kS kA hF hS hfit hE
  go_enter Tryz.func18, Tryz.ntmps18
  go_upto_region 1 with fail
  generalize w.alloc (.cells zeroS 29) = w2 at *
  have HB2 := Lib.hid hb1
  have KR := Lib.hid kR
  clear kR hb1
  have hyr := years_ok HE.out
  obtain ⟨hs1, hs2, _⟩ := store_ok HE.out
  have hcp : ∀ w', Below w2.heap.size w2 w' → Calls Tryz.prog 19 #[.agg #[.int .i64 S.year, .slice S.la S.last.length S.lc, .slice S.ga S.given.length S.gc, .slice S.ha S.heaps.length S.hc, .slice S.ua S.used.length S.uc, .slice S.wa S.waste.length S.wc]] w' fun e w'' => (∃ T, e = .returned (stoV T) ∧ OwnSto w'.heap.size w'' T ∧ SameSto T S) ∧ Below w'.heap.size w' w'' :=
    fun w' hb => copyStore_any S w' (HS.out.below (HB2.out.trans (hb.mono HB2.out.size))) HFIT.out (by omega) (by omega)
  have hstep : ∀ w', Below w2.heap.size w2 w' → (fun w' : World => Below w2.heap.size w2 w' ∧ (w'.cell? ⟨p, 0, none⟩ = some (.slice F.pa F.ps.length F.pc) ∧ w'.cell? ⟨p, 1, none⟩ = some (.int .i64 F.dry) ∧ w'.cell? ⟨q, 0, none⟩ = some (.int .i64 S.year) ∧ w'.cell? ⟨q, 1, none⟩ = some (.slice S.la S.last.length S.lc) ∧ w'.cell? ⟨q, 2, none⟩ = some (.slice S.ga S.given.length S.gc) ∧ w'.cell? ⟨q, 3, none⟩ = some (.slice S.ha S.heaps.length S.hc) ∧ w'.cell? ⟨q, 4, none⟩ = some (.slice S.ua S.used.length S.uc) ∧ w'.cell? ⟨q, 5, none⟩ = some (.slice S.wa S.waste.length S.wc))) w' := fun w' hb => by
    have k0 := KF2.out.belowS hb
    have k1 := KS2.out.belowS hb
    exact ⟨hb, k0.cell 0, k0.cell 1, k1.cell 0, k1.cell 1, k1.cell 2, k1.cell 3, k1.cell 4, k1.cell 5⟩
  have HCP := Lib.hid hcp
  have HST := Lib.hid hstep
  have hx := hstep w2.drew ((Below.refl _ w2).drew)
  clear hcp hstep hyr hs1 hs2
  go_cut [4] from 5 to 8 (fun b wx => ∃ (B : Nat) (T : Sto), b = .pointer (some ⟨B, 0, none⟩) ∧ Hand F w2.heap.size B wx T T ∧ SameSto T S ∧ Below w2.heap.size w2 wx)
  case first =>
    refine wp_region_noPanic ?_
    refine wp_region_E 5 (fun w' : World => Below w2.heap.size w2 w' ∧ (w'.cell? ⟨p, 0, none⟩ = some (.slice F.pa F.ps.length F.pc) ∧ w'.cell? ⟨p, 1, none⟩ = some (.int .i64 F.dry) ∧ w'.cell? ⟨q, 0, none⟩ = some (.int .i64 S.year) ∧ w'.cell? ⟨q, 1, none⟩ = some (.slice S.la S.last.length S.lc) ∧ w'.cell? ⟨q, 2, none⟩ = some (.slice S.ga S.given.length S.gc) ∧ w'.cell? ⟨q, 3, none⟩ = some (.slice S.ha S.heaps.length S.hc) ∧ w'.cell? ⟨q, 4, none⟩ = some (.slice S.ua S.used.length S.uc) ∧ w'.cell? ⟨q, 5, none⟩ = some (.slice S.wa S.waste.length S.wc))) (by kernel_rfl) ?_
    refine tk 0 rfl hx (v := ?v63) (.inl ⟨by rfl, ?y63⟩) ?r63
    case y63 => intro w' h; (try dsimp only at h); go_simp; try with_reducible rfl
    refine tk 1 rfl hx (v := ?v64) (.inl ⟨by rfl, ?y64⟩) ?r64
    case y64 => intro w' h; (try dsimp only at h); go_simp; try with_reducible rfl
    try simp only [Act.put, List.getElem_toArray, List.getElem_cons_zero, List.getElem_cons_succ, List.setIfInBounds_toArray, List.set_cons_zero, List.set_cons_succ]
    refine E_step2 (i := 2) (i' := 4) (o := _) (o' := _) (by kernel_rfl) rfl rfl (fun K hK => ?_) (fun K hK => ?_)
    · go_simp
      refine (HCP.out _ hx.1).mono ?_
      rintro r w5 ⟨⟨T, rfl, hoT, hsT⟩, hb5⟩
      dsimp only
      have hb5' : Below w2.heap.size w2 w5 := hx.1.trans (hb5.mono hx.1.size)
      have hx5 := HST.out w5 hb5'
      refine hK.out _ _ (fun _ => hx5) ?_
      clear hK K
      try simp only [Act.put, List.getElem_toArray, List.getElem_cons_zero, List.getElem_cons_succ, List.setIfInBounds_toArray, List.set_cons_zero, List.set_cons_succ]
      refine tk 3 rfl hx5 (v := ?v62) (.inl ⟨by rfl, ?y62⟩) ?r62
      case y62 => intro w' h; (try dsimp only at h); go_simp; try with_reducible rfl
      try simp only [Act.put, List.getElem_toArray, List.getElem_cons_zero, List.getElem_cons_succ, List.setIfInBounds_toArray, List.set_cons_zero, List.set_cons_succ]
      refine E_step (i := 4) (o := _) (by kernel_rfl) rfl (fun K hK => ?_)
      go_simp
      have hbB : Below w2.heap.size w2 (w5.alloc (.cells #[.slice none 0 0, .int .i64 0, .int .i64 0, .slice none 0 0, .slice none 0 0, .slice none 0 0, .slice none 0 0, .slice none 0 0] 63)) := hb5'.alloc hb5'.size _
      refine hK.out _ _ (fun _ => HST.out _ hbB) ?_
      clear hK K
      try simp only [Act.put, List.getElem_toArray, List.getElem_cons_zero, List.getElem_cons_succ, List.setIfInBounds_toArray, List.set_cons_zero, List.set_cons_succ]
      refine E_step (i := 5) (o := _) (by kernel_rfl) rfl (fun K hK => ?_)
      go_simp
      refine hK.out _ _ (fun h => absurd rfl h) ?_
      clear hK K
      try simp only [Act.put, List.getElem_toArray, List.getElem_cons_zero, List.getElem_cons_succ, List.setIfInBounds_toArray, List.set_cons_zero, List.set_cons_succ]
      refine E_done (by kernel_rfl) ?_ _
      refine NoPanic.normal ?_
      have kB := Blk.new w5 63 (handC F T)
      have hbF : Below w2.heap.size w2 (w5.alloc (.cells (handC F T) 63)) := hb5'.alloc hb5'.size _
      have hH : Hand F w2.heap.size w5.heap.size (w5.alloc (.cells (handC F T) 63)) T T :=
        ⟨kB, (hoT.mono (show w2.heap.size ≤ w2.drew.heap.size from Nat.le_refl _)).below ((Below.refl _ w5).alloc (Nat.le_refl _) _), fun hk => Nat.lt_irrefl _ (hoT.ge _ hk).2, hb5'.size, rfl, rfl, rfl⟩
      have HHX := Lib.hid hH
      have HBX := Lib.hid hbF
      have HSX := Lib.hid hsT
      clear hx hx5 hb5 hb5' hbB hoT hsT kB hH hbF
      go_wp2_with fail
      go_meet
      exact ⟨_, T, rfl, HHX.out, HSX.out, HBX.out⟩
    · go_simp
      have hbB : Below w2.heap.size w2 (w2.drew.alloc (.cells #[.slice none 0 0, .int .i64 0, .int .i64 0, .slice none 0 0, .slice none 0 0, .slice none 0 0, .slice none 0 0, .slice none 0 0] 63)) := hx.1.alloc hx.1.size _
      have kB := Blk.new w2.drew 63 #[.slice none 0 0, .int .i64 0, .int .i64 0, .slice none 0 0, .slice none 0 0, .slice none 0 0, .slice none 0 0, .slice none 0 0]
      refine hK.out _ _ (fun _ => HST.out _ hbB) ?_
      clear hK K
      try simp only [Act.put, List.getElem_toArray, List.getElem_cons_zero, List.getElem_cons_succ, List.setIfInBounds_toArray, List.set_cons_zero, List.set_cons_succ]
      refine E_step (i := 2) (o := _) (by kernel_rfl) rfl (fun K hK => ?_)
      go_simp
      refine (HCP.out _ hbB).mono ?_
      rintro r w5 ⟨⟨T, rfl, hoT, hsT⟩, hb5⟩
      dsimp only
      have hb5' : Below w2.heap.size w2 w5 := hbB.trans (hb5.mono hbB.size)
      have kB5 := kB.belowS hb5
      have hx5 := HST.out w5 hb5'
      refine hK.out _ _ (fun _ => hx5) ?_
      clear hK K
      try simp only [Act.put, List.getElem_toArray, List.getElem_cons_zero, List.getElem_cons_succ, List.setIfInBounds_toArray, List.set_cons_zero, List.set_cons_succ]
      refine tk 3 rfl hx5 (v := ?v65) (.inl ⟨by rfl, ?y65⟩) ?r65
      case y65 => intro w' h; (try dsimp only at h); go_simp; try with_reducible rfl
      try simp only [Act.put, List.getElem_toArray, List.getElem_cons_zero, List.getElem_cons_succ, List.setIfInBounds_toArray, List.set_cons_zero, List.set_cons_succ]
      obtain ⟨q0, q1, q2, q3, q4, q5, q6, q7⟩ := (show w5.cell? ⟨w2.heap.size, 0, none⟩ = some (.slice none 0 0) ∧ w5.cell? ⟨w2.heap.size, 1, none⟩ = some (.int .i64 0) ∧ w5.cell? ⟨w2.heap.size, 2, none⟩ = some (.int .i64 0) ∧ w5.cell? ⟨w2.heap.size, 3, none⟩ = some (.slice none 0 0) ∧ w5.cell? ⟨w2.heap.size, 4, none⟩ = some (.slice none 0 0) ∧ w5.cell? ⟨w2.heap.size, 5, none⟩ = some (.slice none 0 0) ∧ w5.cell? ⟨w2.heap.size, 6, none⟩ = some (.slice none 0 0) ∧ w5.cell? ⟨w2.heap.size, 7, none⟩ = some (.slice none 0 0) from ⟨kB5.cell 0, kB5.cell 1, kB5.cell 2, kB5.cell 3, kB5.cell 4, kB5.cell 5, kB5.cell 6, kB5.cell 7⟩)
      obtain ⟨r0, r1, r2, r3, r4, r5, r6, r7⟩ := (show w5.frozen? ⟨w2.heap.size, 0, none⟩ = false ∧ w5.frozen? ⟨w2.heap.size, 1, none⟩ = false ∧ w5.frozen? ⟨w2.heap.size, 2, none⟩ = false ∧ w5.frozen? ⟨w2.heap.size, 3, none⟩ = false ∧ w5.frozen? ⟨w2.heap.size, 4, none⟩ = false ∧ w5.frozen? ⟨w2.heap.size, 5, none⟩ = false ∧ w5.frozen? ⟨w2.heap.size, 6, none⟩ = false ∧ w5.frozen? ⟨w2.heap.size, 7, none⟩ = false from ⟨kB5.frozen 0, kB5.frozen 1, kB5.frozen 2, kB5.frozen 3, kB5.frozen 4, kB5.frozen 5, kB5.frozen 6, kB5.frozen 7⟩)
      refine E_step (i := 5) (o := _) (by kernel_rfl) rfl (fun K hK => ?_)
      go_simp
      refine hK.out _ _ (fun h => absurd rfl h) ?_
      clear hK K
      try simp only [Act.put, List.getElem_toArray, List.getElem_cons_zero, List.getElem_cons_succ, List.setIfInBounds_toArray, List.set_cons_zero, List.set_cons_succ]
      refine E_done (by kernel_rfl) ?_ _
      refine NoPanic.normal ?_
      have kF9 : Blk ((((((((w5.setCell ⟨w2.heap.size, 0, none⟩ (.slice F.pa F.ps.length F.pc)).setCell ⟨w2.heap.size, 1, none⟩ (.int .i64 F.dry)).setCell ⟨w2.heap.size, 2, none⟩ (.int .i64 T.year)).setCell ⟨w2.heap.size, 3, none⟩ (.slice T.la T.last.length T.lc)).setCell ⟨w2.heap.size, 4, none⟩ (.slice T.ga T.given.length T.gc)).setCell ⟨w2.heap.size, 5, none⟩ (.slice T.ha T.heaps.length T.hc)).setCell ⟨w2.heap.size, 6, none⟩ (.slice T.ua T.used.length T.uc)).setCell ⟨w2.heap.size, 7, none⟩ (.slice T.wa T.waste.length T.wc)) w2.heap.size (handC F T) 63 := ((((((((kB5.set 0 (.slice F.pa F.ps.length F.pc)).set 1 (.int .i64 F.dry)).set 2 (.int .i64 T.year)).set 3 (.slice T.la T.last.length T.lc)).set 4 (.slice T.ga T.given.length T.gc)).set 5 (.slice T.ha T.heaps.length T.hc)).set 6 (.slice T.ua T.used.length T.uc)).set 7 (.slice T.wa T.waste.length T.wc))
      have hT9 : Turn (fun k => k = w2.heap.size) w5 ((((((((w5.setCell ⟨w2.heap.size, 0, none⟩ (.slice F.pa F.ps.length F.pc)).setCell ⟨w2.heap.size, 1, none⟩ (.int .i64 F.dry)).setCell ⟨w2.heap.size, 2, none⟩ (.int .i64 T.year)).setCell ⟨w2.heap.size, 3, none⟩ (.slice T.la T.last.length T.lc)).setCell ⟨w2.heap.size, 4, none⟩ (.slice T.ga T.given.length T.gc)).setCell ⟨w2.heap.size, 5, none⟩ (.slice T.ha T.heaps.length T.hc)).setCell ⟨w2.heap.size, 6, none⟩ (.slice T.ua T.used.length T.uc)).setCell ⟨w2.heap.size, 7, none⟩ (.slice T.wa T.waste.length T.wc)) := (((((((((Turn.of_below (X := fun k => k = w2.heap.size) (Below.refl _ w5)).setCell (B := w2.heap.size) rfl 0 (.slice F.pa F.ps.length F.pc)).setCell (B := w2.heap.size) rfl 1 (.int .i64 F.dry)).setCell (B := w2.heap.size) rfl 2 (.int .i64 T.year)).setCell (B := w2.heap.size) rfl 3 (.slice T.la T.last.length T.lc)).setCell (B := w2.heap.size) rfl 4 (.slice T.ga T.given.length T.gc)).setCell (B := w2.heap.size) rfl 5 (.slice T.ha T.heaps.length T.hc)).setCell (B := w2.heap.size) rfl 6 (.slice T.ua T.used.length T.uc)).setCell (B := w2.heap.size) rfl 7 (.slice T.wa T.waste.length T.wc))
      have hbF : Below w2.heap.size w2 ((((((((w5.setCell ⟨w2.heap.size, 0, none⟩ (.slice F.pa F.ps.length F.pc)).setCell ⟨w2.heap.size, 1, none⟩ (.int .i64 F.dry)).setCell ⟨w2.heap.size, 2, none⟩ (.int .i64 T.year)).setCell ⟨w2.heap.size, 3, none⟩ (.slice T.la T.last.length T.lc)).setCell ⟨w2.heap.size, 4, none⟩ (.slice T.ga T.given.length T.gc)).setCell ⟨w2.heap.size, 5, none⟩ (.slice T.ha T.heaps.length T.hc)).setCell ⟨w2.heap.size, 6, none⟩ (.slice T.ua T.used.length T.uc)).setCell ⟨w2.heap.size, 7, none⟩ (.slice T.wa T.waste.length T.wc)) := ((((((((hb5'.setCell (p := ⟨w2.heap.size, 0, none⟩) (Nat.le_refl _) (.slice F.pa F.ps.length F.pc)).setCell (p := ⟨w2.heap.size, 1, none⟩) (Nat.le_refl _) (.int .i64 F.dry)).setCell (p := ⟨w2.heap.size, 2, none⟩) (Nat.le_refl _) (.int .i64 T.year)).setCell (p := ⟨w2.heap.size, 3, none⟩) (Nat.le_refl _) (.slice T.la T.last.length T.lc)).setCell (p := ⟨w2.heap.size, 4, none⟩) (Nat.le_refl _) (.slice T.ga T.given.length T.gc)).setCell (p := ⟨w2.heap.size, 5, none⟩) (Nat.le_refl _) (.slice T.ha T.heaps.length T.hc)).setCell (p := ⟨w2.heap.size, 6, none⟩) (Nat.le_refl _) (.slice T.ua T.used.length T.uc)).setCell (p := ⟨w2.heap.size, 7, none⟩) (Nat.le_refl _) (.slice T.wa T.waste.length T.wc))
      generalize ((((((((w5.setCell ⟨w2.heap.size, 0, none⟩ (.slice F.pa F.ps.length F.pc)).setCell ⟨w2.heap.size, 1, none⟩ (.int .i64 F.dry)).setCell ⟨w2.heap.size, 2, none⟩ (.int .i64 T.year)).setCell ⟨w2.heap.size, 3, none⟩ (.slice T.la T.last.length T.lc)).setCell ⟨w2.heap.size, 4, none⟩ (.slice T.ga T.given.length T.gc)).setCell ⟨w2.heap.size, 5, none⟩ (.slice T.ha T.heaps.length T.hc)).setCell ⟨w2.heap.size, 6, none⟩ (.slice T.ua T.used.length T.uc)).setCell ⟨w2.heap.size, 7, none⟩ (.slice T.wa T.waste.length T.wc)) = w9 at *
      have hge : ∀ k ∈ rowsOf T, w2.heap.size + 1 ≤ k := fun k hk => by have := (hoT.ge k hk).1; rw [World.size_alloc] at this; exact this
      have hH : Hand F w2.heap.size w2.heap.size w9 T T :=
        ⟨kF9, (hoT.mono (by rw [World.size_alloc]; exact Nat.le_succ _)).turn hT9 (fun k e hk => by have := hge k hk; have := (show k = w2.heap.size from e); omega), fun hk => by have := hge _ hk; omega, Nat.le_refl _, rfl, rfl, rfl⟩
      have HHX := Lib.hid hH
      have HBX := Lib.hid hbF
      have HSX := Lib.hid hsT
      clear hx hx5 hb5 hb5' hbB hoT hsT kB kB5 hH hbF hT9 kF9 hge q0 q1 q2 q3 q4 q5 q6 q7 r0 r1 r2 r3 r4 r5 r6 r7
      go_wp2_with fail
      go_meet
      exact ⟨_, T, rfl, HHX.out, HSX.out, HBX.out⟩
  case rest =>
  obtain ⟨B, T, rfl, hH, hST, hbx⟩ := hcut
  obtain ⟨w6, rfl⟩ : ∃ w6 : World, w6 = wc := ⟨_, rfl⟩
  have hET : storeE F T = 0 := by rw [same_storeE hST]; exact HE.out
  have hfT := same_fit hST HFIT.out
  have hF6 := HF.out.below (HB2.out.trans (hbx.mono HB2.out.size))
  have kA6 := KA2.out.belowS hbx
  have k16 := KR.out.belowS hbx
  have hdo := do_any F T a w2.heap.size B w6 hH hET hfT hbx.size hF6 hnm hno
  have hsD := same_do (F := F) hST a
  rw [doD_step hET, doD_step HE.out] at hsD
  have hHl := hH.le
  unfold chrC at hdo
  have l6 : r < w6.heap.size := kA6.lt
  obtain ⟨a0, a1, a2, a3, a4, a5, a6, a7, a8⟩ := (show w6.cell? ⟨r, 0, none⟩ = some (.int .i64 a.kind) ∧ w6.cell? ⟨r, 1, none⟩ = some (.int .i64 a.plot) ∧ w6.cell? ⟨r, 2, none⟩ = some (.int .i64 a.loads) ∧ w6.cell? ⟨r, 3, none⟩ = some (.string a.name) ∧ w6.cell? ⟨r, 4, none⟩ = some (.string a.other) ∧ w6.cell? ⟨r, 5, none⟩ = some (.int .i64 a.days) ∧ w6.cell? ⟨r, 6, none⟩ = some (.int .i64 a.per) ∧ w6.cell? ⟨r, 7, none⟩ = some (.int .i64 a.rlo) ∧ w6.cell? ⟨r, 8, none⟩ = some (.int .i64 a.rhi) from ⟨kA6.cell 0, kA6.cell 1, kA6.cell 2, kA6.cell 3, kA6.cell 4, kA6.cell 5, kA6.cell 6, kA6.cell 7, kA6.cell 8⟩)
  have HDO := Lib.hid hdo
  have HSD := Lib.hid hsD
  have HB6 := Lib.hid (HB2.out.trans (hbx.mono HB2.out.size))
  have HBX := Lib.hid hbx
  have K16 := Lib.hid k16
  have HLR := Lib.hid KR.out.lt
  clear hx hH hST hET hfT hF6 kA6 k16 hdo hsD hbx
  go_wp2_with fail
  refine HDO.out.mono ?_
  rintro e w7 ⟨hs, hb7⟩
  have k17 := K16.out.below hb7 HLR.out
  have HB7 := Lib.hid (HB6.out.trans (hb7.mono HB2.out.size))
  have hs67 := hb7.size
  clear a0 a1 a2 a3 a4 a5 a6 a7 a8
  rcases hs with ⟨h1, rfl, U, hUs, hHU⟩ | ⟨h1, rfl⟩
  · obtain ⟨t0, t1, t2, t3, t4, t5⟩ := sto_cells (S := emptyS) (show Blk w7 w.heap.size (stoC emptyS) 29 from k17)
    have l1 := k17.lt
    have z0 := k17.frozen 0
    have z1 := k17.frozen 1
    have z2 := k17.frozen 2
    have z3 := k17.frozen 3
    have z4 := k17.frozen 4
    have z5 := k17.frozen 5
    simp only [emptyS, List.length_nil] at t0 t1 t2 t3 t4 t5
    have lB7 := hHU.box.lt
    obtain ⟨u0, u1, u2, u3, u4, u5⟩ := (show w7.cell? ⟨B, 2, none⟩ = some (.int .i64 U.year) ∧ w7.cell? ⟨B, 3, none⟩ = some (.slice U.la U.last.length U.lc) ∧ w7.cell? ⟨B, 4, none⟩ = some (.slice U.ga U.given.length U.gc) ∧ w7.cell? ⟨B, 5, none⟩ = some (.slice U.ha U.heaps.length U.hc) ∧ w7.cell? ⟨B, 6, none⟩ = some (.slice U.ua U.used.length U.uc) ∧ w7.cell? ⟨B, 7, none⟩ = some (.slice U.wa U.waste.length U.wc) from ⟨hHU.box.cell 2, hHU.box.cell 3, hHU.box.cell 4, hHU.box.cell 5, hHU.box.cell 6, hHU.box.cell 7⟩)
    have H1 := Lib.hid h1
    have HUS := Lib.hid hUs
    have HHU := Lib.hid hHU
    have K17 := Lib.hid k17
    clear h1 hUs hHU k17 hb7
    go_wp2_with fail
    have kf1 : Blk ((((((w7.setCell ⟨w.heap.size, 0, none⟩ (.int .i64 U.year)).setCell ⟨w.heap.size, 1, none⟩ (.slice U.la U.last.length U.lc)).setCell ⟨w.heap.size, 2, none⟩ (.slice U.ga U.given.length U.gc)).setCell ⟨w.heap.size, 3, none⟩ (.slice U.ha U.heaps.length U.hc)).setCell ⟨w.heap.size, 4, none⟩ (.slice U.ua U.used.length U.uc)).setCell ⟨w.heap.size, 5, none⟩ (.slice U.wa U.waste.length U.wc)) w.heap.size (stoC U) 29 := ((((((K17.out.set 0 (.int .i64 U.year)).set 1 (.slice U.la U.last.length U.lc)).set 2 (.slice U.ga U.given.length U.gc)).set 3 (.slice U.ha U.heaps.length U.hc)).set 4 (.slice U.ua U.used.length U.uc)).set 5 (.slice U.wa U.waste.length U.wc))
    have hTf : Turn (fun k => k = w.heap.size) w7 ((((((w7.setCell ⟨w.heap.size, 0, none⟩ (.int .i64 U.year)).setCell ⟨w.heap.size, 1, none⟩ (.slice U.la U.last.length U.lc)).setCell ⟨w.heap.size, 2, none⟩ (.slice U.ga U.given.length U.gc)).setCell ⟨w.heap.size, 3, none⟩ (.slice U.ha U.heaps.length U.hc)).setCell ⟨w.heap.size, 4, none⟩ (.slice U.ua U.used.length U.uc)).setCell ⟨w.heap.size, 5, none⟩ (.slice U.wa U.waste.length U.wc)) := (((((((Turn.of_below (X := fun k => k = w.heap.size) (Below.refl _ w7)).setCell (B := w.heap.size) rfl 0 (.int .i64 U.year)).setCell (B := w.heap.size) rfl 1 (.slice U.la U.last.length U.lc)).setCell (B := w.heap.size) rfl 2 (.slice U.ga U.given.length U.gc)).setCell (B := w.heap.size) rfl 3 (.slice U.ha U.heaps.length U.hc)).setCell (B := w.heap.size) rfl 4 (.slice U.ua U.used.length U.uc)).setCell (B := w.heap.size) rfl 5 (.slice U.wa U.waste.length U.wc))
    generalize ((((((w7.setCell ⟨w.heap.size, 0, none⟩ (.int .i64 U.year)).setCell ⟨w.heap.size, 1, none⟩ (.slice U.la U.last.length U.lc)).setCell ⟨w.heap.size, 2, none⟩ (.slice U.ga U.given.length U.gc)).setCell ⟨w.heap.size, 3, none⟩ (.slice U.ha U.heaps.length U.hc)).setCell ⟨w.heap.size, 4, none⟩ (.slice U.ua U.used.length U.uc)).setCell ⟨w.heap.size, 5, none⟩ (.slice U.wa U.waste.length U.wc)) = wf at *
    clear t0 t1 t2 t3 t4 t5 z0 z1 z2 z3 z4 z5 u0 u1 u2 u3 u4 u5
    have hfin : DoneSaid (stepD F S a).1 (stepD F S a).2 w (.returned (stoV U)) wf := by
      refine ⟨.inl ⟨HSD.out.1.symm.trans H1.out, U, rfl, (HHU.out.own.mono HB2.out.size).turn hTf (fun k e hk => ?_), HUS.out.trans HSD.out.2⟩, HB7.out.trans (hTf.below HB7.out.size (fun k e => by rw [show k = w.heap.size from e]; exact Nat.le_refl _))⟩
      have := (HHU.out.own.ge k hk).1
      have := HLR.out
      rw [show k = w.heap.size from e] at *
      omega
    obtain ⟨g0, g1, g2, g3, g4, g5⟩ := sto_cells kf1
    unfold stoV at hfin
    exact bodyPost_ret (v := .agg #[.int .i64 U.year, .slice U.la U.last.length U.lc, .slice U.ga U.given.length U.gc, .slice U.ha U.heaps.length U.hc, .slice U.ua U.used.length U.uc, .slice U.wa U.waste.length U.wc]) (by simp [results, Tryz.results18, go_sem, g0, g1, g2, g3, g4, g5]) rfl hfin
  · have H1 := Lib.hid h1
    clear h1 k17 hb7
    go_wp2_with fail
    exact ⟨rfl, .inr ⟨fun h => H1.out (HSD.out.1.trans h), congrArg chain HSD.out.1⟩, HB7.out⟩

set_option maxRecDepth 100000 in
set_option maxHeartbeats 8000000 in
theorem strawDo_any (F : Frm) (S : Sto) (a : Chr) (w : World) (hF : IsFarm w F) (hS : IsStore w S) (hfit : S.fit) (hnm : a.name.size ≤ maxLen) (hno : a.other.size ≤ maxLen) :
    Calls Tryz.prog 8 #[.agg #[.slice F.pa F.ps.length F.pc, .int .i64 F.dry], stoV S, .agg (chrC a)] w (DoSaid F S a w) := by
  have hmf : ∀ (fn : Fn) (first cap : Array Value) (w : World), (Instr.makeFunc fn first cap).run Tryz.prog w = .ok (.func fn first cap) w := fun _ _ _ _ => rfl
  have hcs := fun w' h1 h2 => checkStore_any F S w' h1 h2 hfit
  unfold stoV at hcs
  unfold stoV chrC
  have hb1 : Below w.heap.size w ((((w.alloc (.cells #[.slice F.pa F.ps.length F.pc, .int .i64 F.dry] 24)).alloc (.cells #[.int .i64 S.year, .slice S.la S.last.length S.lc, .slice S.ga S.given.length S.gc, .slice S.ha S.heaps.length S.hc, .slice S.ua S.used.length S.uc, .slice S.wa S.waste.length S.wc] 29)).alloc (.cells #[.int .i64 a.kind, .int .i64 a.plot, .int .i64 a.loads, .string a.name, .string a.other, .int .i64 a.days, .int .i64 a.per, .int .i64 a.rlo, .int .i64 a.rhi] 34)).alloc (.cells #[.int .i64 0, .slice none 0 0, .slice none 0 0, .slice none 0 0, .slice none 0 0, .slice none 0 0] 29)) := ((((Below.refl _ w).alloc (Nat.le_refl _) _).alloc (by simp) _).alloc (by simp; omega) _).alloc (by simp; omega) _
  have kF : Blk ((((w.alloc (.cells #[.slice F.pa F.ps.length F.pc, .int .i64 F.dry] 24)).alloc (.cells #[.int .i64 S.year, .slice S.la S.last.length S.lc, .slice S.ga S.given.length S.gc, .slice S.ha S.heaps.length S.hc, .slice S.ua S.used.length S.uc, .slice S.wa S.waste.length S.wc] 29)).alloc (.cells #[.int .i64 a.kind, .int .i64 a.plot, .int .i64 a.loads, .string a.name, .string a.other, .int .i64 a.days, .int .i64 a.per, .int .i64 a.rlo, .int .i64 a.rhi] 34)).alloc (.cells #[.int .i64 0, .slice none 0 0, .slice none 0 0, .slice none 0 0, .slice none 0 0, .slice none 0 0] 29)) w.heap.size #[.slice F.pa F.ps.length F.pc, .int .i64 F.dry] 24 := (((Blk.new w 24 #[.slice F.pa F.ps.length F.pc, .int .i64 F.dry]).alloc _).alloc _).alloc _
  have kS : Blk ((((w.alloc (.cells #[.slice F.pa F.ps.length F.pc, .int .i64 F.dry] 24)).alloc (.cells #[.int .i64 S.year, .slice S.la S.last.length S.lc, .slice S.ga S.given.length S.gc, .slice S.ha S.heaps.length S.hc, .slice S.ua S.used.length S.uc, .slice S.wa S.waste.length S.wc] 29)).alloc (.cells #[.int .i64 a.kind, .int .i64 a.plot, .int .i64 a.loads, .string a.name, .string a.other, .int .i64 a.days, .int .i64 a.per, .int .i64 a.rlo, .int .i64 a.rhi] 34)).alloc (.cells #[.int .i64 0, .slice none 0 0, .slice none 0 0, .slice none 0 0, .slice none 0 0, .slice none 0 0] 29)) (w.heap.size + 1) (stoC S) 29 := by
    have := ((Blk.new (w.alloc (.cells #[.slice F.pa F.ps.length F.pc, .int .i64 F.dry] 24)) 29 (stoC S)).alloc (.cells #[.int .i64 a.kind, .int .i64 a.plot, .int .i64 a.loads, .string a.name, .string a.other, .int .i64 a.days, .int .i64 a.per, .int .i64 a.rlo, .int .i64 a.rhi] 34)).alloc (.cells #[.int .i64 0, .slice none 0 0, .slice none 0 0, .slice none 0 0, .slice none 0 0, .slice none 0 0] 29)
    rw [World.size_alloc] at this
    exact this
  have kA : Blk ((((w.alloc (.cells #[.slice F.pa F.ps.length F.pc, .int .i64 F.dry] 24)).alloc (.cells #[.int .i64 S.year, .slice S.la S.last.length S.lc, .slice S.ga S.given.length S.gc, .slice S.ha S.heaps.length S.hc, .slice S.ua S.used.length S.uc, .slice S.wa S.waste.length S.wc] 29)).alloc (.cells #[.int .i64 a.kind, .int .i64 a.plot, .int .i64 a.loads, .string a.name, .string a.other, .int .i64 a.days, .int .i64 a.per, .int .i64 a.rlo, .int .i64 a.rhi] 34)).alloc (.cells #[.int .i64 0, .slice none 0 0, .slice none 0 0, .slice none 0 0, .slice none 0 0, .slice none 0 0] 29)) (w.heap.size + 1 + 1) (chrC a) 34 := by
    have := (Blk.new ((w.alloc (.cells #[.slice F.pa F.ps.length F.pc, .int .i64 F.dry] 24)).alloc (.cells #[.int .i64 S.year, .slice S.la S.last.length S.lc, .slice S.ga S.given.length S.gc, .slice S.ha S.heaps.length S.hc, .slice S.ua S.used.length S.uc, .slice S.wa S.waste.length S.wc] 29)) 34 (chrC a)).alloc (.cells #[.int .i64 0, .slice none 0 0, .slice none 0 0, .slice none 0 0, .slice none 0 0, .slice none 0 0] 29)
    rw [World.size_alloc, World.size_alloc] at this
    exact this
  have k1 : Blk ((((w.alloc (.cells #[.slice F.pa F.ps.length F.pc, .int .i64 F.dry] 24)).alloc (.cells #[.int .i64 S.year, .slice S.la S.last.length S.lc, .slice S.ga S.given.length S.gc, .slice S.ha S.heaps.length S.hc, .slice S.ua S.used.length S.uc, .slice S.wa S.waste.length S.wc] 29)).alloc (.cells #[.int .i64 a.kind, .int .i64 a.plot, .int .i64 a.loads, .string a.name, .string a.other, .int .i64 a.days, .int .i64 a.per, .int .i64 a.rlo, .int .i64 a.rhi] 34)).alloc (.cells #[.int .i64 0, .slice none 0 0, .slice none 0 0, .slice none 0 0, .slice none 0 0, .slice none 0 0] 29)) (w.heap.size + 1 + 1 + 1) zeroS 29 := by
    have := Blk.new (((w.alloc (.cells #[.slice F.pa F.ps.length F.pc, .int .i64 F.dry] 24)).alloc (.cells #[.int .i64 S.year, .slice S.la S.last.length S.lc, .slice S.ga S.given.length S.gc, .slice S.ha S.heaps.length S.hc, .slice S.ua S.used.length S.uc, .slice S.wa S.waste.length S.wc] 29)).alloc (.cells #[.int .i64 a.kind, .int .i64 a.plot, .int .i64 a.loads, .string a.name, .string a.other, .int .i64 a.days, .int .i64 a.per, .int .i64 a.rlo, .int .i64 a.rhi] 34)) 29 zeroS
    rw [World.size_alloc, World.size_alloc, World.size_alloc] at this
    exact this
  have HF := Lib.hid hF
  have HS := Lib.hid hS
  have HFIT := Lib.hid hfit
  have HCS := Lib.hid hcs
  clear hF hS hfit hcs
  go_enter Tryz.func8, Tryz.ntmps8
  go_upto_region 1 with fail
  generalize ((((w.alloc (.cells #[.slice F.pa F.ps.length F.pc, .int .i64 F.dry] 24)).alloc (.cells #[.int .i64 S.year, .slice S.la S.last.length S.lc, .slice S.ga S.given.length S.gc, .slice S.ha S.heaps.length S.hc, .slice S.ua S.used.length S.uc, .slice S.wa S.waste.length S.wc] 29)).alloc (.cells #[.int .i64 a.kind, .int .i64 a.plot, .int .i64 a.loads, .string a.name, .string a.other, .int .i64 a.days, .int .i64 a.per, .int .i64 a.rlo, .int .i64 a.rhi] 34)).alloc (.cells #[.int .i64 0, .slice none 0 0, .slice none 0 0, .slice none 0 0, .slice none 0 0, .slice none 0 0] 29)) = w1 at *
  have hn1 := k1.lt
  have f0 : w1.cell? ⟨w.heap.size, 0, none⟩ = some (.slice F.pa F.ps.length F.pc) := kF.cell 0
  have f1 : w1.cell? ⟨w.heap.size, 1, none⟩ = some (.int .i64 F.dry) := kF.cell 1
  obtain ⟨s0, s1, s2, s3, s4, s5⟩ := sto_cells kS
  have lF := kF.lt
  have lS := kS.lt
  have HB1 := Lib.hid hb1
  have KF := Lib.hid kF
  have KS := Lib.hid kS
  have KA := Lib.hid kA
  have K1 := Lib.hid k1
  clear hb1 kF kS kA k1
  go_wp2_with fail
  refine (HCS.out _ (HF.out.below HB1.out) (HS.out.below HB1.out)).mono ?_
  rintro e w2 ⟨rfl, hb2⟩
  have HB2 := Lib.hid (HB1.out.trans (hb2.mono HB1.out.size))
  have KF2 := Lib.hid (KF.out.belowS hb2)
  have KS2 := Lib.hid (KS.out.belowS hb2)
  have KA2 := Lib.hid (KA.out.belowS hb2)
  have K12 := Lib.hid (K1.out.belowS hb2)
  have hn2 := Nat.lt_of_lt_of_le hn1 hb2.size
  clear f0 f1 s0 s1 s2 s3 s4 s5 lF lS hb2
  by_cases hE : storeE F S = 0
  rotate_left
  · have HV := Lib.hid (doD_err (a := a) hE)
    have HE := Lib.hid hE
    have qE : (storeE F S == 0) = false := by simp [hE]
    have qE' : (storeE F S != 0) = true := by simp [hE]
    generalize hv : storeE F S = v at *
    have HVV := Lib.hid hv
    clear hv hE
    obtain ⟨t0, t1, t2, t3, t4, t5⟩ := sto_cells (S := emptyS) (show Blk w2 (w.heap.size + 1 + 1 + 1) (stoC emptyS) 29 from K12.out)
    have l1 := K12.out.lt
    have z0 := K12.out.frozen 0
    have z1 := K12.out.frozen 1
    have z2 := K12.out.frozen 2
    have z3 := K12.out.frozen 3
    have z4 := K12.out.frozen 4
    have z5 := K12.out.frozen 5
    simp only [emptyS, List.length_nil] at t0 t1 t2 t3 t4 t5
    go_wp2_with fail
    have kf1 : Blk ((((((w2.setCell ⟨w.heap.size + 1 + 1 + 1, 0, none⟩ (.int .i64 0)).setCell ⟨w.heap.size + 1 + 1 + 1, 1, none⟩ (.slice none 0 0)).setCell ⟨w.heap.size + 1 + 1 + 1, 2, none⟩ (.slice none 0 0)).setCell ⟨w.heap.size + 1 + 1 + 1, 3, none⟩ (.slice none 0 0)).setCell ⟨w.heap.size + 1 + 1 + 1, 4, none⟩ (.slice none 0 0)).setCell ⟨w.heap.size + 1 + 1 + 1, 5, none⟩ (.slice none 0 0)) (w.heap.size + 1 + 1 + 1) zeroS 29 := ((((((K12.out.set 0 (.int .i64 0)).set 1 (.slice none 0 0)).set 2 (.slice none 0 0)).set 3 (.slice none 0 0)).set 4 (.slice none 0 0)).set 5 (.slice none 0 0))
    have hTf : Turn (fun k => k = w.heap.size + 1 + 1 + 1) w2 ((((((w2.setCell ⟨w.heap.size + 1 + 1 + 1, 0, none⟩ (.int .i64 0)).setCell ⟨w.heap.size + 1 + 1 + 1, 1, none⟩ (.slice none 0 0)).setCell ⟨w.heap.size + 1 + 1 + 1, 2, none⟩ (.slice none 0 0)).setCell ⟨w.heap.size + 1 + 1 + 1, 3, none⟩ (.slice none 0 0)).setCell ⟨w.heap.size + 1 + 1 + 1, 4, none⟩ (.slice none 0 0)).setCell ⟨w.heap.size + 1 + 1 + 1, 5, none⟩ (.slice none 0 0)) := (((((((Turn.of_below (X := fun k => k = w.heap.size + 1 + 1 + 1) (Below.refl _ w2)).setCell (B := w.heap.size + 1 + 1 + 1) rfl 0 (.int .i64 0)).setCell (B := w.heap.size + 1 + 1 + 1) rfl 1 (.slice none 0 0)).setCell (B := w.heap.size + 1 + 1 + 1) rfl 2 (.slice none 0 0)).setCell (B := w.heap.size + 1 + 1 + 1) rfl 3 (.slice none 0 0)).setCell (B := w.heap.size + 1 + 1 + 1) rfl 4 (.slice none 0 0)).setCell (B := w.heap.size + 1 + 1 + 1) rfl 5 (.slice none 0 0))
    generalize ((((((w2.setCell ⟨w.heap.size + 1 + 1 + 1, 0, none⟩ (.int .i64 0)).setCell ⟨w.heap.size + 1 + 1 + 1, 1, none⟩ (.slice none 0 0)).setCell ⟨w.heap.size + 1 + 1 + 1, 2, none⟩ (.slice none 0 0)).setCell ⟨w.heap.size + 1 + 1 + 1, 3, none⟩ (.slice none 0 0)).setCell ⟨w.heap.size + 1 + 1 + 1, 4, none⟩ (.slice none 0 0)).setCell ⟨w.heap.size + 1 + 1 + 1, 5, none⟩ (.slice none 0 0)) = wf at *
    clear t0 t1 t2 t3 t4 t5 z0 z1 z2 z3 z4 z5
    have hfin : DoSaid F S a w (.returned (.tuple #[.agg #[.int .i64 0, .slice none 0 0, .slice none 0 0, .slice none 0 0, .slice none 0 0, .slice none 0 0], .int .i64 v])) wf := by
      refine ⟨⟨emptyS, by rw [HV.out]; rfl, empty_own _ _, by rw [HV.out, if_neg HE.out]; exact SameSto.refl _⟩, HB2.out.trans (hTf.below HB2.out.size (fun k e => by rw [show k = w.heap.size + 1 + 1 + 1 from e]; omega))⟩
    obtain ⟨g0, g1, g2, g3, g4, g5⟩ := sto_cells (S := emptyS) kf1
    simp only [emptyS, List.length_nil] at g0 g1 g2 g3 g4 g5
    exact bodyPost_ret (v := .tuple #[.agg #[.int .i64 0, .slice none 0 0, .slice none 0 0, .slice none 0 0, .slice none 0 0, .slice none 0 0], .int .i64 v]) (by simp [results, Tryz.results8, go_sem, g0, g1, g2, g3, g4, g5]) rfl hfin
  have HV := Lib.hid (doD_step (a := a) hE)
  have qE : (storeE F S == 0) = true := by simp [hE]
  have qE' : (storeE F S != 0) = false := by simp [hE]
  have HE := Lib.hid hE
  rw [hE]
  clear hE
  have HAN := Lib.hid (answer_any w.heap.size (w.heap.size + 1) (w.heap.size + 1 + 1) (stepD F S a).1 (stepD F S a).2 w2 (fun w3 h3 => doBody_any F S a _ _ _ w3 (KF2.out.belowS h3) (KS2.out.belowS h3) (KA2.out.belowS h3) (HF.out.below (HB2.out.trans (h3.mono HB2.out.size))) (HS.out.below (HB2.out.trans (h3.mono HB2.out.size))) HE.out HFIT.out hnm hno))
  go_wp2_with fail
  refine HAN.out.mono ?_
  rintro e w3 ⟨⟨U, rfl, hU, hs⟩, hb3⟩
  have k13 := K12.out.belowS hb3
  obtain ⟨t0, t1, t2, t3, t4, t5⟩ := sto_cells (S := emptyS) (show Blk w3 (w.heap.size + 1 + 1 + 1) (stoC emptyS) 29 from k13)
  have l1 := k13.lt
  have z0 := k13.frozen 0
  have z1 := k13.frozen 1
  have z2 := k13.frozen 2
  have z3 := k13.frozen 3
  have z4 := k13.frozen 4
  have z5 := k13.frozen 5
  simp only [emptyS, List.length_nil] at t0 t1 t2 t3 t4 t5
  have HU := Lib.hid hU
  have HS3 := Lib.hid hs
  have HB3 := Lib.hid (HB2.out.trans (hb3.mono HB2.out.size))
  have K13 := Lib.hid k13
  clear hU hs hb3 k13
  go_wp2_with fail
  have kf1 : Blk ((((((w3.setCell ⟨w.heap.size + 1 + 1 + 1, 0, none⟩ (.int .i64 U.year)).setCell ⟨w.heap.size + 1 + 1 + 1, 1, none⟩ (.slice U.la U.last.length U.lc)).setCell ⟨w.heap.size + 1 + 1 + 1, 2, none⟩ (.slice U.ga U.given.length U.gc)).setCell ⟨w.heap.size + 1 + 1 + 1, 3, none⟩ (.slice U.ha U.heaps.length U.hc)).setCell ⟨w.heap.size + 1 + 1 + 1, 4, none⟩ (.slice U.ua U.used.length U.uc)).setCell ⟨w.heap.size + 1 + 1 + 1, 5, none⟩ (.slice U.wa U.waste.length U.wc)) (w.heap.size + 1 + 1 + 1) (stoC U) 29 := ((((((K13.out.set 0 (.int .i64 U.year)).set 1 (.slice U.la U.last.length U.lc)).set 2 (.slice U.ga U.given.length U.gc)).set 3 (.slice U.ha U.heaps.length U.hc)).set 4 (.slice U.ua U.used.length U.uc)).set 5 (.slice U.wa U.waste.length U.wc))
  have hTf : Turn (fun k => k = w.heap.size + 1 + 1 + 1) w3 ((((((w3.setCell ⟨w.heap.size + 1 + 1 + 1, 0, none⟩ (.int .i64 U.year)).setCell ⟨w.heap.size + 1 + 1 + 1, 1, none⟩ (.slice U.la U.last.length U.lc)).setCell ⟨w.heap.size + 1 + 1 + 1, 2, none⟩ (.slice U.ga U.given.length U.gc)).setCell ⟨w.heap.size + 1 + 1 + 1, 3, none⟩ (.slice U.ha U.heaps.length U.hc)).setCell ⟨w.heap.size + 1 + 1 + 1, 4, none⟩ (.slice U.ua U.used.length U.uc)).setCell ⟨w.heap.size + 1 + 1 + 1, 5, none⟩ (.slice U.wa U.waste.length U.wc)) := (((((((Turn.of_below (X := fun k => k = w.heap.size + 1 + 1 + 1) (Below.refl _ w3)).setCell (B := w.heap.size + 1 + 1 + 1) rfl 0 (.int .i64 U.year)).setCell (B := w.heap.size + 1 + 1 + 1) rfl 1 (.slice U.la U.last.length U.lc)).setCell (B := w.heap.size + 1 + 1 + 1) rfl 2 (.slice U.ga U.given.length U.gc)).setCell (B := w.heap.size + 1 + 1 + 1) rfl 3 (.slice U.ha U.heaps.length U.hc)).setCell (B := w.heap.size + 1 + 1 + 1) rfl 4 (.slice U.ua U.used.length U.uc)).setCell (B := w.heap.size + 1 + 1 + 1) rfl 5 (.slice U.wa U.waste.length U.wc))
  generalize ((((((w3.setCell ⟨w.heap.size + 1 + 1 + 1, 0, none⟩ (.int .i64 U.year)).setCell ⟨w.heap.size + 1 + 1 + 1, 1, none⟩ (.slice U.la U.last.length U.lc)).setCell ⟨w.heap.size + 1 + 1 + 1, 2, none⟩ (.slice U.ga U.given.length U.gc)).setCell ⟨w.heap.size + 1 + 1 + 1, 3, none⟩ (.slice U.ha U.heaps.length U.hc)).setCell ⟨w.heap.size + 1 + 1 + 1, 4, none⟩ (.slice U.ua U.used.length U.uc)).setCell ⟨w.heap.size + 1 + 1 + 1, 5, none⟩ (.slice U.wa U.waste.length U.wc)) = wf at *
  clear t0 t1 t2 t3 t4 t5 z0 z1 z2 z3 z4 z5
  have hfin : DoSaid F S a w (.returned (.tuple #[.agg #[.int .i64 U.year, .slice U.la U.last.length U.lc, .slice U.ga U.given.length U.gc, .slice U.ha U.heaps.length U.hc, .slice U.ua U.used.length U.uc, .slice U.wa U.waste.length U.wc], .int .i64 (stepD F S a).1])) wf := by
    refine ⟨⟨U, by rw [HV.out], (HU.out.turn hTf (fun k e hk => ?_)).mono HB2.out.size, by rw [HV.out]; exact HS3.out⟩, HB3.out.trans (hTf.below HB3.out.size (fun k e => by rw [show k = w.heap.size + 1 + 1 + 1 from e]; omega))⟩
    have := (HU.out.ge k hk).1
    rw [show k = w.heap.size + 1 + 1 + 1 from e] at this
    omega
  obtain ⟨g0, g1, g2, g3, g4, g5⟩ := sto_cells kf1
  exact bodyPost_ret (v := .tuple #[.agg #[.int .i64 U.year, .slice U.la U.last.length U.lc, .slice U.ga U.given.length U.gc, .slice U.ha U.heaps.length U.hc, .slice U.ua U.used.length U.uc, .slice U.wa U.waste.length U.wc], .int .i64 (stepD F S a).1]) (by simp [results, Tryz.results8, go_sem, g0, g1, g2, g3, g4, g5]) rfl hfin
end
end Go.Proofs.YtfhalmlpnoepcaaGreat
