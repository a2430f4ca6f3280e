/- What is done whose error is caught (fault.Of), what is answered (fault.Answer); how many rows fit a ridge (Ways), and whether it may be (Check). No condition but the bounds of what is given. -/
import Derived.Test.YtmcmhgjlpffcnaaPI
set_option linter.unusedSimpArgs false
namespace Go.Proofs.Ytmcmhgjlpffcnaa
open Go.RowKit

theorem assert_is (x : Int) (w : World) : (Instr.typeAssert (.iface 28 (.int .i64 x)) 20 28 true).run Try.prog w = .ok (.tuple #[.int .i64 x, .bool true]) w := by kernel_rfl
theorem assert_not (w : World) : (Instr.typeAssert .nilIface 20 28 true).run Try.prog w = .ok (.tuple #[.int .i64 0, .bool false]) w := by kernel_rfl
set_option maxRecDepth 100000 in
set_option maxHeartbeats 4000000 in
theorem catch_panicking (E : Nat) (x : Int) (older : List PanicEntry) (u0 : Value) (w : World) (k2 : Blk w E #[u0] 28) :
    CallsD Try.prog 76 #[.pointer (some ⟨E, 0, none⟩)] (.panicking ({ v := .iface 28 (.int .i64 x), recovered := false } :: older)) w fun e u' w' =>
      e = .returned (.tuple #[]) ∧ u' = .panicking ({ v := .iface 28 (.int .i64 x), recovered := true } :: older) ∧ w' = w.setCell ⟨E, 0, none⟩ (.int .i64 x) := by
  have d0 := k2.cell 0
  simp only [List.getElem?_toArray, List.getElem?_cons_zero, List.getElem?_cons_succ] at d0
  have y0 := k2.frozen 0
  refine callsD_of_wpS Try.func76 rfl fun c₀ cs hu => ?_
  apply wpS_seq
  apply wpS_region
  simp [wpOpsS, go_sem, recoverD, hu, Try.ntmps76, Exit.thenS, assert_is, assert_not]
  apply wpS_seq
  apply wpS_region
  simp [wpOpsS, go_sem, Exit.thenS]
  refine wpS_cond (t := true) (by simp [Act.eval, Array.replicate]) ?_
  simp only [if_true]
  apply wpS_region
  simp [wpOpsS, go_sem, d0, y0, bodyPostS, results, Try.results76]
set_option maxRecDepth 100000 in
set_option maxHeartbeats 4000000 in
theorem catch_idle (E : Nat) (w : World) :
    CallsD Try.prog 76 #[.pointer (some ⟨E, 0, none⟩)] .returning w fun e u' w' => e = .returned (.tuple #[]) ∧ u' = .returning ∧ w' = w := by
  refine callsD_of_wpS Try.func76 rfl fun c₀ cs hu => ?_
  apply wpS_seq
  apply wpS_region
  simp [wpOpsS, go_sem, recoverD, hu, Try.ntmps76, Exit.thenS, assert_is, assert_not]
  apply wpS_seq
  apply wpS_region
  simp [wpOpsS, go_sem, Exit.thenS]
  refine wpS_cond (t := false) (by simp [Act.eval, Array.replicate]) ?_
  simp only [Bool.false_eq_true, if_false]
  refine wpS_of_wp (wp_skip ?_)
  cases c₀
  simp_all [bodyPostS, results, Try.results76]

theorem run_enter {F : FuncId} {fn : Func} {c : Code} (hf : Try.prog.funcs[F]? = some fn) (hname : (fn.name == "runtime.NumGoroutine") = false) (hb : fn.body = some c) (args : Array Value) (w : World) : (callFunc F args).run Try.prog w = .ok (.enter F args) w := by
  have h1 : fn.name ≠ "runtime.NumGoroutine" := by simpa using hname
  simp [callFunc, hf, h1, hb]
def Enters (N : FuncId) : Prop := ∀ (args : Array Value) (w : World), (callFunc N args).run Try.prog w = .ok (.enter N args) w

/-- What a closure does whose error is caught: it returns, or panics with an error; of the old blocks those of a set alone have turned. -/
def Tried (x : Int) (X : Nat → Prop) (Ψ : World → Prop) (w : World) (e : Ending) (w' : World) : Prop := ((x = 0 ∧ e = .returned (.tuple #[])) ∨ (x ≠ 0 ∧ e = chain x)) ∧ Ψ w' ∧ Turn X w w'
set_option maxRecDepth 100000 in
set_option maxHeartbeats 4000000 in
theorem of_any (N : FuncId) (cap : Array Value) (x : Int) (X : Nat → Prop) (Ψ : World → Prop) (w : World) (hen : Enters N) (hX : ∀ k, X k → k < w.heap.size) (hin : ∀ w1, Below w.heap.size w w1 → w.heap.size < w1.heap.size → Calls Try.prog N cap w1 (Tried x X Ψ w1)) :
    Calls Try.prog 44 #[.func (.func N) #[] cap] w fun e w' => e = .returned (.int .i64 x) ∧ (∃ w2, Ψ w2 ∧ Turn (fun k => k = w.heap.size) w2 w') ∧ Turn X w w' := by
  have hmf : ∀ (fn : Fn) (first cap : Array Value) (w : World), (Instr.makeFunc fn first cap).run Try.prog w = .ok (.func fn first cap) w := fun _ _ _ _ => rfl
  have hb1 : Below w.heap.size w (w.alloc (.cells #[.int .i64 0] 28)) := (Below.refl _ w).alloc (Nat.le_refl _) _
  have kE := Blk.new w 28 #[.int .i64 0]
  have HAN := Lib.hid (hin _ hb1 (by simp))
  have HXX := Lib.hid hX
  have HB1 := Lib.hid hb1
  unfold Enters at hen
  clear hin hb1 hX
  go_enter_defers Try.func44, Try.ntmps44
  go_upto_region 1 with fail
  generalize w.alloc (.cells #[.int .i64 0] 28) = w1 at *
  have KE := Lib.hid kE
  clear kE
  go_wp2_with fail
  refine HAN.out.mono ?_
  rintro e w2 ⟨h, hp, ht⟩
  have kE2 := ht.blk KE.out (fun e => by have := HXX.out _ e; omega)
  have lE := kE2.lt
  have HT := Lib.hid ht
  have HPS := Lib.hid hp
  clear ht hp HAN
  rcases h with ⟨hx, rfl⟩ | ⟨hx, rfl⟩
  · have c0 : w2.cell? ⟨w.heap.size, 0, none⟩ = some (.int .i64 0) := kE2.cell 0
    have z0 := kE2.frozen 0
    have KE2 := Lib.hid kE2
    have HX := Lib.hid hx
    clear kE2 hx
    go_wp2_with fail
    have kf := KE2.out.set 0 (.int .i64 0)
    have ht : Turn (fun k => k = w.heap.size) w2 (w2.setCell ⟨w.heap.size, 0, none⟩ (.int .i64 0)) := (Turn.of_below (X := fun k => k = w.heap.size) (Below.refl _ w2)).setCell (B := w.heap.size) rfl 0 (.int .i64 0)
    generalize w2.setCell ⟨w.heap.size, 0, none⟩ (.int .i64 0) = wf at *
    have g0 : wf.cell? ⟨w.heap.size, 0, none⟩ = some (.int .i64 0) := kf.cell 0
    clear c0 z0
    refine leaves_cons (f := 76) (args := #[.pointer (some ⟨w.heap.size, 0, none⟩)]) (by simp) (by simp [go_sem]) ?_
    refine (catch_idle w.heap.size _).mono ?_
    rintro e u' w'' ⟨rfl, rfl, rfl⟩
    simp [Leaves, settle, results, Try.results44, go_sem, g0]
    refine ⟨HX.out.symm, ⟨w2, HPS.out, ht⟩, ?_⟩
    exact ((Turn.of_below (X := fun k => X k ∨ k = w.heap.size) HB1.out).trans ((HT.out.mono (fun k _ e => .inl e)).trans (ht.mono (fun k _ e => .inr e)))).mono (fun k hk e => by
        rcases e with e | e
        · exact e
        · omega)
  · have KE2 := Lib.hid kE2
    have HX := Lib.hid hx
    clear kE2 hx
    go_wp2_with fail
    refine leaves_cons (f := 76) (args := #[.pointer (some ⟨w.heap.size, 0, none⟩)]) (by simp) (by simp [go_sem]) ?_
    refine (catch_panicking w.heap.size x [] _ w2 KE2.out).mono ?_
    rintro e u' wf ⟨rfl, rfl, hwf⟩
    have g0 : wf.cell? ⟨w.heap.size, 0, none⟩ = some (.int .i64 x) := by rw [hwf]; exact (KE2.out.set 0 (.int .i64 x)).cell 0
    simp [Leaves, settle, results, Try.results44, go_sem, g0]
    have ht : Turn (fun k => k = w.heap.size) w2 (w2.setCell ⟨w.heap.size, 0, none⟩ (.int .i64 x)) := (Turn.of_below (X := fun k => k = w.heap.size) (Below.refl _ w2)).setCell (B := w.heap.size) rfl 0 (.int .i64 x)
    rw [← hwf] at ht
    refine ⟨⟨w2, HPS.out, ht⟩, ?_⟩
    exact ((Turn.of_below (X := fun k => X k ∨ k = w.heap.size) HB1.out).trans ((HT.out.mono (fun k _ e => .inl e)).trans (ht.mono (fun k _ e => .inr e)))).mono (fun k hk e => by
      rcases e with e | e
      · exact e
      · omega)

/-! ### A number that is answered -/
def IntDone (x v : Int) (w : World) (e : Ending) (w' : World) : Prop := ((x = 0 ∧ e = .returned (.int .i64 v)) ∨ (x ≠ 0 ∧ e = chain x)) ∧ Below w.heap.size w w'
def endI (x v : Int) : Int := if x = 0 then v else 0
set_option maxRecDepth 100000 in
set_option maxHeartbeats 4000000 in
theorem answerIntIn_any (A B : Nat) (N : FuncId) (cap : Array Value) (x v : Int) (w : World) (hen : Enters N) (kA : Blk w A #[.func (.func N) #[] cap] 69) (kB : Blk w B #[.int .i64 0] 3) (hdo : Calls Try.prog N cap w (IntDone x v w)) :
    Calls Try.prog 82 #[.pointer (some ⟨A, 0, none⟩), .pointer (some ⟨B, 0, none⟩)] w (Tried x (fun k => k = B) (fun w' => Blk w' B #[.int .i64 (endI x v)] 3) w) := by
  have lA := kA.lt
  have a0 : w.cell? ⟨A, 0, none⟩ = some (.func (.func N) #[] cap) := kA.cell 0
  have HDO := Lib.hid hdo
  have KB := Lib.hid kB
  unfold Enters at hen
  clear kA kB hdo
  go_enter Try.func82, Try.ntmps82
  go_wp2_with fail
  refine HDO.out.mono ?_
  rintro e w1 ⟨h, hb⟩
  have kB1 := KB.out.belowS hb
  have lB := kB1.lt
  have HB := Lib.hid hb
  clear a0 lA hb HDO KB
  rcases h with ⟨hx, rfl⟩ | ⟨hx, rfl⟩
  · have b0 : w1.cell? ⟨B, 0, none⟩ = some (.int .i64 0) := kB1.cell 0
    have z0 := kB1.frozen 0
    have HX := Lib.hid hx
    have KB1 := Lib.hid kB1
    clear hx kB1
    go_wp2_with fail
    have kf : Blk (w1.setCell ⟨B, 0, none⟩ (.int .i64 v)) B #[.int .i64 v] 3 := KB1.out.set 0 (.int .i64 v)
    have ht : Turn (fun k => k = B) w1 (w1.setCell ⟨B, 0, none⟩ (.int .i64 v)) := (Turn.of_below (X := fun k => k = B) (Below.refl _ w1)).setCell (B := B) rfl 0 (.int .i64 v)
    generalize w1.setCell ⟨B, 0, none⟩ (.int .i64 v) = wf at *
    go_end0
    exact ⟨.inl ⟨HX.out, rfl⟩, by rw [show endI x v = v by simp [endI, HX.out]]; exact kf, (Turn.of_below HB.out).trans ht⟩
  · have HX := Lib.hid hx
    have KB1 := Lib.hid kB1
    clear hx kB1
    go_wp2_with fail
    exact ⟨rfl, .inr ⟨HX.out, rfl⟩, by rw [show endI x v = 0 by simp [endI, HX.out]]; exact KB1.out, Turn.of_below HB.out⟩

set_option maxRecDepth 100000 in
set_option maxHeartbeats 4000000 in
theorem answerInt_any (N : FuncId) (cap : Array Value) (x v : Int) (w : World) (hen : Enters N) (hdo : ∀ w1, Below w.heap.size w w1 → Calls Try.prog N cap w1 (IntDone x v w1)) :
    Calls Try.prog 50 #[.func (.func N) #[] cap] w fun e w' => e = .returned (.tuple #[.int .i64 (endI x v), .int .i64 x]) ∧ Below w.heap.size w w' := by
  have hmf : ∀ (fn : Fn) (first cap : Array Value) (w : World), (Instr.makeFunc fn first cap).run Try.prog w = .ok (.func fn first cap) w := fun _ _ _ _ => rfl
  have kA := (Blk.new w 69 #[.func (.func N) #[] cap]).alloc (.cells #[.int .i64 0] 3)
  have kB := Blk.new (w.alloc (.cells #[.func (.func N) #[] cap] 69)) 3 #[.int .i64 0]
  have hb1 : Below w.heap.size w ((w.alloc (.cells #[.func (.func N) #[] cap] 69)).alloc (.cells #[.int .i64 0] 3)) := ((Below.refl _ w).alloc (Nat.le_refl _) _).alloc (by simp) _
  rw [World.size_alloc] at kB
  have hsz : ((w.alloc (.cells #[.func (.func N) #[] cap] 69)).alloc (.cells #[.int .i64 0] 3)).heap.size = w.heap.size + 2 := by simp
  have HDO := Lib.hid hdo
  have HEN := Lib.hid hen
  clear hdo
  have hen1 : Enters 82 := run_enter Try.func82 (by kernel_rfl) rfl
  go_enter Try.func50, Try.ntmps50
  go_upto_region 1 with fail
  generalize ((w.alloc (.cells #[.func (.func N) #[] cap] 69)).alloc (.cells #[.int .i64 0] 3)) = w1 at *
  have HOF := Lib.hid (of_any 82 #[.pointer (some ⟨w.heap.size, 0, none⟩), .pointer (some ⟨w.heap.size + 1, 0, none⟩)] x (fun k => k = w.heap.size + 1) (fun w' => Blk w' (w.heap.size + 1) #[.int .i64 (endI x v)] 3) w1 hen1 (fun k e => by omega)
    (fun w2 h hl => answerIntIn_any w.heap.size (w.heap.size + 1) N cap x v w2 HEN.out (kA.belowS h) (kB.belowS h) (HDO.out w2 (hb1.trans (h.mono hb1.size)))))
  have HB1 := Lib.hid hb1
  have HSZ := Lib.hid hsz
  clear kA kB hb1 HDO hsz hen hen1 HEN
  go_wp2_with fail
  refine HOF.out.mono ?_
  rintro e w2 ⟨rfl, ⟨w3, hB, ht3⟩, ht⟩
  have kB2 := ht3.blk hB (fun e => by have := HSZ.out; omega)
  have HTT := Lib.hid (HB1.out.trans (ht.below (base := w.heap.size) HB1.out.size (fun k e => by omega)))
  have KB := Lib.hid kB2
  have lB := kB2.lt
  have b0 : w2.cell? ⟨w.heap.size + 1, 0, none⟩ = some (.int .i64 (endI x v)) := kB2.cell 0
  have z0 := kB2.frozen 0
  obtain ⟨V, hV⟩ : ∃ V, endI x v = V := ⟨_, rfl⟩
  rw [hV] at b0 KB
  have HVV := Lib.hid hV
  clear hB ht3 ht kB2 HOF hV
  go_wp2_with fail
  have kf : Blk (w2.setCell ⟨w.heap.size + 1, 0, none⟩ (.int .i64 V)) (w.heap.size + 1) #[.int .i64 V] 3 := KB.out.set 0 (.int .i64 V)
  have hbf : Below w.heap.size w (w2.setCell ⟨w.heap.size + 1, 0, none⟩ (.int .i64 V)) := HTT.out.setCell (p := ⟨w.heap.size + 1, 0, none⟩) (by show w.heap.size ≤ w.heap.size + 1; omega) _
  generalize w2.setCell ⟨w.heap.size + 1, 0, none⟩ (.int .i64 V) = wf at *
  have g0 : wf.cell? ⟨w.heap.size + 1, 0, none⟩ = some (.int .i64 V) := kf.cell 0
  exact bodyPost_ret (v := .tuple #[.int .i64 V, .int .i64 x]) (by simp [results, Try.results50, go_sem, g0]) rfl ⟨by rw [HVV.out], hbf⟩
end Go.Proofs.Ytmcmhgjlpffcnaa
