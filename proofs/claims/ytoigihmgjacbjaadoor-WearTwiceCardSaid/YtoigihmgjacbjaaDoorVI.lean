/- fault.Of at any closure; fault.Answer at a skin, whatever its closure does; what Season and Check return. No condition but the package's variable. -/
import Derived.Test.YtoigihmgjacbjaaDoorVH
import Derived.Test.YtoigihmgjacbjaaDoorWN
set_option linter.unusedSimpArgs false
namespace Go.Proofs.YtoigihmgjacbjaaDoor
open Go.RowKit

theorem area_holes {l : List Pnt} {hs : List Hol} (h : areaE l hs = 0) : hs.length ≤ 6 := by
  unfold areaE at h
  split at h
  · omega
  split at h
  · rename_i h2
    exact absurd h h2
  split at h <;> omega
theorem run_enter {F : FuncId} {fn : Func} {c : Code} (hf : Tryd.prog.funcs[F]? = some fn) (hname : (fn.name == "runtime.NumGoroutine") = false) (hb : fn.body = some c) (args : Array Value) (w : World) : (callFunc F args).run Tryd.prog w = .ok (.enter F args) w := by
  have h1 : fn.name ≠ "runtime.NumGoroutine" := by simpa using hname
  simp [callFunc, hf, h1, hb]
def Enters (N : FuncId) : Prop := ∀ (args : Array Value) (w : World), (callFunc N args).run Tryd.prog w = .ok (.enter N args) w

/-- What a closure does whose error is caught: it returns, or panics with an error; of the old blocks those of a set alone have turned. -/
def Tried (x : Int) (X : Nat → Prop) (Ψ : World → Prop) (w : World) (e : Ending) (w' : World) : Prop := ((x = 0 ∧ e = .returned (.tuple #[])) ∨ (x ≠ 0 ∧ e = chain x)) ∧ Ψ w' ∧ Turn X w w'
set_option maxRecDepth 100000 in
set_option maxHeartbeats 4000000 in
theorem of_any (N : FuncId) (cap : Array Value) (x : Int) (X : Nat → Prop) (Ψ : World → Prop) (w : World) (hen : Enters N) (hX : ∀ k, X k → k < w.heap.size) (hin : ∀ w1, Below w.heap.size w w1 → w.heap.size < w1.heap.size → Calls Tryd.prog N cap w1 (Tried x X Ψ w1)) :
    Calls Tryd.prog 33 #[.func (.func N) #[] cap] w fun e w' => e = .returned (.int .i64 x) ∧ (∃ w2, Ψ w2 ∧ Turn (fun k => k = w.heap.size) w2 w') ∧ Turn X w w' := by
  have hmf : ∀ (fn : Fn) (first cap : Array Value) (w : World), (Instr.makeFunc fn first cap).run Tryd.prog w = .ok (.func fn first cap) w := fun _ _ _ _ => rfl
  have hb1 : Below w.heap.size w (w.alloc (.cells #[.int .i64 0] 35)) := (Below.refl _ w).alloc (Nat.le_refl _) _
  have kE := Blk.new w 35 #[.int .i64 0]
  have HAN := Lib.hid (hin _ hb1 (by simp))
  have HXX := Lib.hid hX
  have HB1 := Lib.hid hb1
  unfold Enters at hen
  clear hin hb1 hX
  go_enter_defers Tryd.func33, Tryd.ntmps33
  go_upto_region 1 with fail
  generalize w.alloc (.cells #[.int .i64 0] 35) = w1 at *
  have KE := Lib.hid kE
  clear kE
  go_wp2_with fail
  refine HAN.out.mono ?_
  rintro e w2 ⟨h, hp, ht⟩
  have kE2 := ht.blk KE.out (fun e => by have := HXX.out _ e; omega)
  have lE := kE2.lt
  have HT := Lib.hid ht
  have HPS := Lib.hid hp
  clear ht hp HAN
  rcases h with ⟨hx, rfl⟩ | ⟨hx, rfl⟩
  · have c0 : w2.cell? ⟨w.heap.size, 0, none⟩ = some (.int .i64 0) := kE2.cell 0
    have z0 := kE2.frozen 0
    have KE2 := Lib.hid kE2
    have HX := Lib.hid hx
    clear kE2 hx
    go_wp2_with fail
    have kf := KE2.out.set 0 (.int .i64 0)
    have ht : Turn (fun k => k = w.heap.size) w2 (w2.setCell ⟨w.heap.size, 0, none⟩ (.int .i64 0)) := (Turn.of_below (X := fun k => k = w.heap.size) (Below.refl _ w2)).setCell (B := w.heap.size) rfl 0 (.int .i64 0)
    generalize w2.setCell ⟨w.heap.size, 0, none⟩ (.int .i64 0) = wf at *
    have g0 : wf.cell? ⟨w.heap.size, 0, none⟩ = some (.int .i64 0) := kf.cell 0
    clear c0 z0
    refine leaves_cons (f := 63) (args := #[.pointer (some ⟨w.heap.size, 0, none⟩)]) (by simp) (by simp [go_sem]) ?_
    refine (catch_idle w.heap.size _).mono ?_
    rintro e u' w'' ⟨rfl, rfl, rfl⟩
    simp [Leaves, settle, results, Tryd.results33, go_sem, g0]
    refine ⟨HX.out.symm, ⟨w2, HPS.out, ht⟩, ?_⟩
    exact ((Turn.of_below (X := fun k => X k ∨ k = w.heap.size) HB1.out).trans ((HT.out.mono (fun k _ e => .inl e)).trans (ht.mono (fun k _ e => .inr e)))).mono (fun k hk e => by
        rcases e with e | e
        · exact e
        · omega)
  · have KE2 := Lib.hid kE2
    have HX := Lib.hid hx
    clear kE2 hx
    go_wp2_with fail
    refine leaves_cons (f := 63) (args := #[.pointer (some ⟨w.heap.size, 0, none⟩)]) (by simp) (by simp [go_sem]) ?_
    refine (catch_panicking w.heap.size x [] _ w2 KE2.out).mono ?_
    rintro e u' wf ⟨rfl, rfl, hwf⟩
    have g0 : wf.cell? ⟨w.heap.size, 0, none⟩ = some (.int .i64 x) := by rw [hwf]; exact (KE2.out.set 0 (.int .i64 x)).cell 0
    simp [Leaves, settle, results, Tryd.results33, go_sem, g0]
    have ht : Turn (fun k => k = w.heap.size) w2 (w2.setCell ⟨w.heap.size, 0, none⟩ (.int .i64 x)) := (Turn.of_below (X := fun k => k = w.heap.size) (Below.refl _ w2)).setCell (B := w.heap.size) rfl 0 (.int .i64 x)
    rw [← hwf] at ht
    refine ⟨⟨w2, HPS.out, ht⟩, ?_⟩
    exact ((Turn.of_below (X := fun k => X k ∨ k = w.heap.size) HB1.out).trans ((HT.out.mono (fun k _ e => .inl e)).trans (ht.mono (fun k _ e => .inr e)))).mono (fun k hk e => by
      rcases e with e | e
      · exact e
      · omega)

/-! ### A skin that is answered -/
/-- A skin with rows from a block on, of which something is true. -/
def SkinDone (x : Int) (Φ : Skn → Prop) (w : World) (e : Ending) (w' : World) : Prop := ((x = 0 ∧ ∃ R, e = .returned (.agg (sknC R)) ∧ IsSkn w' R ∧ Fresh w.heap.size R ∧ Φ R) ∨ (x ≠ 0 ∧ e = chain x)) ∧ Below w.heap.size w w'
/-- What a function with a skin and an error returns: the skin is none if there is an error. -/
def SkinSaid (x : Int) (Φ : Skn → Prop) (w : World) (e : Ending) (w' : World) : Prop := (∃ R, e = .returned (.tuple #[.agg (sknC R), .int .i64 x]) ∧ IsSkn w' R ∧ Fresh w.heap.size R ∧ (x = 0 → Φ R) ∧ (x ≠ 0 → R = zeroSkn)) ∧ Below w.heap.size w w'

set_option maxRecDepth 100000 in
set_option maxHeartbeats 4000000 in
theorem answerSkinIn_any (A B base : Nat) (N : FuncId) (cap : Array Value) (x : Int) (Φ : Skn → Prop) (w : World) (hen : Enters N) (hbase : base ≤ w.heap.size) (hB : B < base) (kA : Blk w A #[.func (.func N) #[] cap] 66) (kB : Blk w B #[.slice none 0 0, .slice none 0 0, .int .i64 0, .int .i64 0, .int .i64 0, .slice none 0 0] 30) (hdo : Calls Tryd.prog N cap w (SkinDone x Φ w)) :
    Calls Tryd.prog 58 #[.pointer (some ⟨A, 0, none⟩), .pointer (some ⟨B, 0, none⟩)] w (Tried x (fun k => k = B) (fun w' => ∃ R, Blk w' B (sknC R) 30 ∧ IsSkn w' R ∧ Fresh base R ∧ (x = 0 → Φ R) ∧ (x ≠ 0 → R = zeroSkn)) w) := by
  have lA := kA.lt
  have a0 : w.cell? ⟨A, 0, none⟩ = some (.func (.func N) #[] cap) := kA.cell 0
  have HDO := Lib.hid hdo
  have KB := Lib.hid kB
  unfold Enters at hen
  have HBS := Lib.hid (And.intro hbase hB)
  clear kA kB hdo hbase hB
  go_enter Tryd.func58, Tryd.ntmps58
  go_wp2_with fail
  refine HDO.out.mono ?_
  rintro e w1 ⟨h, hb⟩
  have kB1 := KB.out.belowS hb
  have lB := kB1.lt
  have HB := Lib.hid hb
  clear a0 lA hb HDO KB
  rcases h with ⟨hx, R, rfl, hR, hF, hP⟩ | ⟨hx, rfl⟩
  · obtain ⟨b0, b1, b2, b3, b4, b5⟩ := (show w1.cell? ⟨B, 0, none⟩ = some (.slice none 0 0) ∧ w1.cell? ⟨B, 1, none⟩ = some (.slice none 0 0) ∧ w1.cell? ⟨B, 2, none⟩ = some (.int .i64 0) ∧ w1.cell? ⟨B, 3, none⟩ = some (.int .i64 0) ∧ w1.cell? ⟨B, 4, none⟩ = some (.int .i64 0) ∧ w1.cell? ⟨B, 5, none⟩ = some (.slice none 0 0) from ⟨kB1.cell 0, kB1.cell 1, kB1.cell 2, kB1.cell 3, kB1.cell 4, kB1.cell 5⟩)
    have z0 := kB1.frozen 0
    have z1 := kB1.frozen 1
    have z2 := kB1.frozen 2
    have z3 := kB1.frozen 3
    have z4 := kB1.frozen 4
    have z5 := kB1.frozen 5
    have HX := Lib.hid hx
    have KB1 := Lib.hid kB1
    have HR := Lib.hid hR
    have HF := Lib.hid hF
    have HP := Lib.hid hP
    clear hx kB1 hR hF hP
    unfold sknC
    go_wp2_with fail
    have kf : Blk ((((((w1.setCell ⟨B, 0, none⟩ (.slice R.pa R.pts.length R.pc)).setCell ⟨B, 1, none⟩ (.slice R.ha R.hs.length R.hc)).setCell ⟨B, 2, none⟩ (.int .i64 R.steep)).setCell ⟨B, 3, none⟩ (.int .i64 R.th.lo)).setCell ⟨B, 4, none⟩ (.int .i64 R.th.hi)).setCell ⟨B, 5, none⟩ (.slice R.ma R.ms.length R.mc)) B #[.slice R.pa R.pts.length R.pc, .slice R.ha R.hs.length R.hc, .int .i64 R.steep, .int .i64 R.th.lo, .int .i64 R.th.hi, .slice R.ma R.ms.length R.mc] 30 := ((((((KB1.out.set 0 (.slice R.pa R.pts.length R.pc)).set 1 (.slice R.ha R.hs.length R.hc)).set 2 (.int .i64 R.steep)).set 3 (.int .i64 R.th.lo)).set 4 (.int .i64 R.th.hi)).set 5 (.slice R.ma R.ms.length R.mc))
    have ht : Turn (fun k => k = B) w1 ((((((w1.setCell ⟨B, 0, none⟩ (.slice R.pa R.pts.length R.pc)).setCell ⟨B, 1, none⟩ (.slice R.ha R.hs.length R.hc)).setCell ⟨B, 2, none⟩ (.int .i64 R.steep)).setCell ⟨B, 3, none⟩ (.int .i64 R.th.lo)).setCell ⟨B, 4, none⟩ (.int .i64 R.th.hi)).setCell ⟨B, 5, none⟩ (.slice R.ma R.ms.length R.mc)) := (((((((Turn.of_below (X := fun k => k = B) (Below.refl _ w1)).setCell (B := B) rfl 0 (.slice R.pa R.pts.length R.pc)).setCell (B := B) rfl 1 (.slice R.ha R.hs.length R.hc)).setCell (B := B) rfl 2 (.int .i64 R.steep)).setCell (B := B) rfl 3 (.int .i64 R.th.lo)).setCell (B := B) rfl 4 (.int .i64 R.th.hi)).setCell (B := B) rfl 5 (.slice R.ma R.ms.length R.mc))
    generalize ((((((w1.setCell ⟨B, 0, none⟩ (.slice R.pa R.pts.length R.pc)).setCell ⟨B, 1, none⟩ (.slice R.ha R.hs.length R.hc)).setCell ⟨B, 2, none⟩ (.int .i64 R.steep)).setCell ⟨B, 3, none⟩ (.int .i64 R.th.lo)).setCell ⟨B, 4, none⟩ (.int .i64 R.th.hi)).setCell ⟨B, 5, none⟩ (.slice R.ma R.ms.length R.mc)) = wf at *
    go_end0
    exact ⟨.inl ⟨HX.out, rfl⟩, ⟨R, kf, HR.out.turnF HF.out ht (fun k e => by have := HBS.out; omega), HF.out.mono HBS.out.1, fun _ => HP.out, fun h => absurd HX.out h⟩, (Turn.of_below HB.out).trans ht⟩
  · have HX := Lib.hid hx
    have KB1 := Lib.hid kB1
    clear hx kB1
    go_wp2_with fail
    exact ⟨rfl, .inr ⟨HX.out, rfl⟩, ⟨zeroSkn, KB1.out, zero_is _, zero_fresh _, fun h => absurd h HX.out, fun _ => rfl⟩, Turn.of_below HB.out⟩

set_option maxRecDepth 100000 in
set_option maxHeartbeats 4000000 in
theorem answerSkin_any (N : FuncId) (cap : Array Value) (x : Int) (Φ : Skn → Prop) (w : World) (hen : Enters N) (hdo : ∀ w1, Below w.heap.size w w1 → Calls Tryd.prog N cap w1 (SkinDone x Φ w1)) :
    Calls Tryd.prog 29 #[.func (.func N) #[] cap] w (SkinSaid x Φ w) := by
  have hmf : ∀ (fn : Fn) (first cap : Array Value) (w : World), (Instr.makeFunc fn first cap).run Tryd.prog w = .ok (.func fn first cap) w := fun _ _ _ _ => rfl
  have kA := (Blk.new w 66 #[.func (.func N) #[] cap]).alloc (.cells #[.slice none 0 0, .slice none 0 0, .int .i64 0, .int .i64 0, .int .i64 0, .slice none 0 0] 30)
  have kB := Blk.new (w.alloc (.cells #[.func (.func N) #[] cap] 66)) 30 #[.slice none 0 0, .slice none 0 0, .int .i64 0, .int .i64 0, .int .i64 0, .slice none 0 0]
  have hb1 : Below w.heap.size w ((w.alloc (.cells #[.func (.func N) #[] cap] 66)).alloc (.cells #[.slice none 0 0, .slice none 0 0, .int .i64 0, .int .i64 0, .int .i64 0, .slice none 0 0] 30)) := ((Below.refl _ w).alloc (Nat.le_refl _) _).alloc (by simp) _
  rw [World.size_alloc] at kB
  have hsz : ((w.alloc (.cells #[.func (.func N) #[] cap] 66)).alloc (.cells #[.slice none 0 0, .slice none 0 0, .int .i64 0, .int .i64 0, .int .i64 0, .slice none 0 0] 30)).heap.size = w.heap.size + 2 := by simp
  have HDO := Lib.hid hdo
  have HEN := Lib.hid hen
  clear hdo
  have hen1 : Enters 58 := run_enter Tryd.func58 (by kernel_rfl) rfl
  go_enter Tryd.func29, Tryd.ntmps29
  go_upto_region 1 with fail
  generalize ((w.alloc (.cells #[.func (.func N) #[] cap] 66)).alloc (.cells #[.slice none 0 0, .slice none 0 0, .int .i64 0, .int .i64 0, .int .i64 0, .slice none 0 0] 30)) = w1 at *
  have HOF := Lib.hid (of_any 58 #[.pointer (some ⟨w.heap.size, 0, none⟩), .pointer (some ⟨w.heap.size + 1, 0, none⟩)] x (fun k => k = w.heap.size + 1) (fun w' => ∃ R, Blk w' (w.heap.size + 1) (sknC R) 30 ∧ IsSkn w' R ∧ Fresh (w1.heap.size + 1) R ∧ (x = 0 → Φ R) ∧ (x ≠ 0 → R = zeroSkn)) w1 hen1 (fun k e => by omega)
    (fun w2 h hl => answerSkinIn_any w.heap.size (w.heap.size + 1) (w1.heap.size + 1) N cap x Φ w2 HEN.out hl (by omega) (kA.belowS h) (kB.belowS h) (HDO.out w2 (hb1.trans (h.mono hb1.size)))))
  have HB1 := Lib.hid hb1
  have HSZ := Lib.hid hsz
  clear kA kB hb1 HDO hsz hen hen1 HEN
  go_wp2_with fail
  refine HOF.out.mono ?_
  rintro e w2 ⟨rfl, ⟨w3, ⟨R, hB, hR, hF, hP, hZ⟩, ht3⟩, ht⟩
  have kB2 := ht3.blk hB (fun e => by have := HSZ.out; omega)
  have hR2 := hR.turnF hF ht3 (fun k e => by have := HSZ.out; omega)
  have HTT := Lib.hid (HB1.out.trans (ht.below (base := w.heap.size) HB1.out.size (fun k e => by omega)))
  have KB := Lib.hid kB2
  have HR := Lib.hid hR2
  have HF := Lib.hid hF
  have HP := Lib.hid hP
  have HZ := Lib.hid hZ
  have lB := kB2.lt
  obtain ⟨b0, b1, b2, b3, b4, b5⟩ := skn_cells (S := R) kB2
  have z0 := kB2.frozen 0
  have z1 := kB2.frozen 1
  have z2 := kB2.frozen 2
  have z3 := kB2.frozen 3
  have z4 := kB2.frozen 4
  have z5 := kB2.frozen 5
  clear hB hR hF hP hZ ht3 ht kB2 hR2 HOF
  go_wp2_with fail
  have kf : Blk ((((((w2.setCell ⟨w.heap.size + 1, 0, none⟩ (.slice R.pa R.pts.length R.pc)).setCell ⟨w.heap.size + 1, 1, none⟩ (.slice R.ha R.hs.length R.hc)).setCell ⟨w.heap.size + 1, 2, none⟩ (.int .i64 R.steep)).setCell ⟨w.heap.size + 1, 3, none⟩ (.int .i64 R.th.lo)).setCell ⟨w.heap.size + 1, 4, none⟩ (.int .i64 R.th.hi)).setCell ⟨w.heap.size + 1, 5, none⟩ (.slice R.ma R.ms.length R.mc)) (w.heap.size + 1) #[.slice R.pa R.pts.length R.pc, .slice R.ha R.hs.length R.hc, .int .i64 R.steep, .int .i64 R.th.lo, .int .i64 R.th.hi, .slice R.ma R.ms.length R.mc] 30 := ((((((KB.out.set 0 (.slice R.pa R.pts.length R.pc)).set 1 (.slice R.ha R.hs.length R.hc)).set 2 (.int .i64 R.steep)).set 3 (.int .i64 R.th.lo)).set 4 (.int .i64 R.th.hi)).set 5 (.slice R.ma R.ms.length R.mc))
  have ht : Turn (fun k => k = w.heap.size + 1) w2 ((((((w2.setCell ⟨w.heap.size + 1, 0, none⟩ (.slice R.pa R.pts.length R.pc)).setCell ⟨w.heap.size + 1, 1, none⟩ (.slice R.ha R.hs.length R.hc)).setCell ⟨w.heap.size + 1, 2, none⟩ (.int .i64 R.steep)).setCell ⟨w.heap.size + 1, 3, none⟩ (.int .i64 R.th.lo)).setCell ⟨w.heap.size + 1, 4, none⟩ (.int .i64 R.th.hi)).setCell ⟨w.heap.size + 1, 5, none⟩ (.slice R.ma R.ms.length R.mc)) := (((((((Turn.of_below (X := fun k => k = w.heap.size + 1) (Below.refl _ w2)).setCell (B := w.heap.size + 1) rfl 0 (.slice R.pa R.pts.length R.pc)).setCell (B := w.heap.size + 1) rfl 1 (.slice R.ha R.hs.length R.hc)).setCell (B := w.heap.size + 1) rfl 2 (.int .i64 R.steep)).setCell (B := w.heap.size + 1) rfl 3 (.int .i64 R.th.lo)).setCell (B := w.heap.size + 1) rfl 4 (.int .i64 R.th.hi)).setCell (B := w.heap.size + 1) rfl 5 (.slice R.ma R.ms.length R.mc))
  generalize ((((((w2.setCell ⟨w.heap.size + 1, 0, none⟩ (.slice R.pa R.pts.length R.pc)).setCell ⟨w.heap.size + 1, 1, none⟩ (.slice R.ha R.hs.length R.hc)).setCell ⟨w.heap.size + 1, 2, none⟩ (.int .i64 R.steep)).setCell ⟨w.heap.size + 1, 3, none⟩ (.int .i64 R.th.lo)).setCell ⟨w.heap.size + 1, 4, none⟩ (.int .i64 R.th.hi)).setCell ⟨w.heap.size + 1, 5, none⟩ (.slice R.ma R.ms.length R.mc)) = wf at *
  clear b0 b1 b2 b3 b4 b5 z0 z1 z2 z3 z4 z5
  obtain ⟨g0, g1, g2, g3, g4, g5⟩ := skn_cells (S := R) kf
  exact bodyPost_ret (v := .tuple #[.agg #[.slice R.pa R.pts.length R.pc, .slice R.ha R.hs.length R.hc, .int .i64 R.steep, .int .i64 R.th.lo, .int .i64 R.th.hi, .slice R.ma R.ms.length R.mc], .int .i64 x]) (by simp [results, Tryd.results29, go_sem, g0, g1, g2, g3, g4, g5]) rfl ⟨⟨R, rfl, HR.out.turnF HF.out ht (fun k e => by have := HSZ.out; omega), HF.out.mono (by have := HSZ.out; omega), HP.out, HZ.out⟩, HTT.out.trans (ht.below HTT.out.size (fun k e => by rw [show k = w.heap.size + 1 from e]; omega))⟩

/-! ### Season -/
set_option maxRecDepth 100000 in
set_option maxHeartbeats 8000000 in
theorem seasonIn_any (P Q G : Nat) (S : Skn) (t : Spn) (g : Int) (w : World) (kP : Blk w P #[.slice S.pa S.pts.length S.pc, .slice S.ha S.hs.length S.hc, .int .i64 S.steep, .int .i64 S.th.lo, .int .i64 S.th.hi, .slice S.ma S.ms.length S.mc] 30) (kQ : Blk w Q #[.int .i64 t.lo, .int .i64 t.hi] 27) (kG : Blk w G #[.int .i64 g] 3) (hS : IsSkn w S) (hg : Laid w) :
    Calls Tryd.prog 30 #[.pointer (some ⟨P, 0, none⟩), .pointer (some ⟨Q, 0, none⟩), .pointer (some ⟨G, 0, none⟩)] w (SkinDone (seasonE S t g) (Behind t g S) w) := by
  have k0 := Blk.new w 30 #[.slice none 0 0, .slice none 0 0, .int .i64 0, .int .i64 0, .int .i64 0, .slice none 0 0]
  have hb1 : Below w.heap.size w (w.alloc (.cells #[.slice none 0 0, .slice none 0 0, .int .i64 0, .int .i64 0, .int .i64 0, .slice none 0 0] 30)) := (Below.refl _ w).alloc (Nat.le_refl _) _
  have k1 := kP.belowS hb1
  have k2 := kQ.belowS hb1
  have k3 := kG.belowS hb1
  have HS := Lib.hid hS
  have HG := Lib.hid hg
  clear hS hg kP kQ kG
  go_enter Tryd.func30, Tryd.ntmps30
  go_upto_region 1 with fail
  generalize w.alloc (.cells #[.slice none 0 0, .slice none 0 0, .int .i64 0, .int .i64 0, .int .i64 0, .slice none 0 0] 30) = w1 at *
  have HB1 := Lib.hid hb1
  have K0 := Lib.hid k0
  have K1 := Lib.hid k1
  have K2 := Lib.hid k2
  have K3 := Lib.hid k3
  obtain ⟨s0, s1, s2, s3, s4, s5⟩ := skn_cells (S := S) k1
  obtain ⟨p0, p1⟩ := spn_cells (s := t) k2
  have g0 : w1.cell? ⟨G, 0, none⟩ = some (.int .i64 g) := k3.cell 0
  have l1 := k1.lt
  have l2 := k2.lt
  have l3 := k3.lt
  clear k0 k1 k2 k3 hb1
  go_wp2_with fail
  refine (requireSeason_any S t g _ (HS.out.below HB1.out) (HG.out.below HB1.out)).mono ?_
  rintro e w2 ⟨h, hb⟩
  have HB2 := Lib.hid (HB1.out.trans (hb.mono HB1.out.size))
  have K02 := Lib.hid (K0.out.belowS hb)
  have k12 := K1.out.belowS hb
  have k22 := K2.out.belowS hb
  have k32 := K3.out.belowS hb
  clear s0 s1 s2 s3 s4 s5 p0 p1 g0 l1 l2 l3 hb
  rcases h with ⟨hx, rfl⟩ | ⟨hx, rfl⟩
  rotate_left
  · have HX := Lib.hid hx
    clear hx
    go_wp2_with fail
    exact ⟨rfl, .inr ⟨HX.out, rfl⟩, HB2.out⟩
  have HX := Lib.hid hx
  obtain ⟨e1, e2, e3, e4⟩ := seasonE_ok hx
  have HGD := Lib.hid (skinE_ok e1)
  have HTT := Lib.hid (And.intro e2 (And.intro e3 e4))
  clear hx e1 e2 e3 e4
  obtain ⟨s0, s1, s2, s3, s4, s5⟩ := skn_cells (S := S) k12
  obtain ⟨p0, p1⟩ := spn_cells (s := t) k22
  have g0 : w2.cell? ⟨G, 0, none⟩ = some (.int .i64 g) := k32.cell 0
  have l1 := k12.lt
  have l2 := k22.lt
  have l3 := k32.lt
  clear k12 k22 k32
  go_wp2_with fail
  refine (behind_any S t g _ (HS.out.below HB2.out) (by have := (areaE_ok HGD.out.area).1; omega) (by have := area_holes HGD.out.area; omega) (by have := HGD.out.few; omega) (by have := HGD.out.steep; have := HTT.out.2; omega) HGD.out.th (fun m hm => (HGD.out.marks m hm).1.2) HTT.out.1).mono ?_
  rintro e w3 ⟨⟨R, rfl, hR, hF, hP⟩, hb⟩
  have HB3 := Lib.hid (HB2.out.trans (hb.mono HB2.out.size))
  have k03 := K02.out.belowS hb
  have HLT := Lib.hid K02.out.lt
  have HR := Lib.hid hR
  have HF := Lib.hid hF
  have HP := Lib.hid hP
  clear s0 s1 s2 s3 s4 s5 p0 p1 g0 l1 l2 l3 hb hR hF hP
  obtain ⟨b0, b1, b2, b3, b4, b5⟩ := (show w3.cell? ⟨w.heap.size, 0, none⟩ = some (.slice none 0 0) ∧ w3.cell? ⟨w.heap.size, 1, none⟩ = some (.slice none 0 0) ∧ w3.cell? ⟨w.heap.size, 2, none⟩ = some (.int .i64 0) ∧ w3.cell? ⟨w.heap.size, 3, none⟩ = some (.int .i64 0) ∧ w3.cell? ⟨w.heap.size, 4, none⟩ = some (.int .i64 0) ∧ w3.cell? ⟨w.heap.size, 5, none⟩ = some (.slice none 0 0) from ⟨k03.cell 0, k03.cell 1, k03.cell 2, k03.cell 3, k03.cell 4, k03.cell 5⟩)
  have lB := k03.lt
  have z0 := k03.frozen 0
  have z1 := k03.frozen 1
  have z2 := k03.frozen 2
  have z3 := k03.frozen 3
  have z4 := k03.frozen 4
  have z5 := k03.frozen 5
  have KB := Lib.hid k03
  clear k03
  unfold sknC
  go_wp2_with fail
  have kf : Blk ((((((w3.setCell ⟨w.heap.size, 0, none⟩ (.slice R.pa R.pts.length R.pc)).setCell ⟨w.heap.size, 1, none⟩ (.slice R.ha R.hs.length R.hc)).setCell ⟨w.heap.size, 2, none⟩ (.int .i64 R.steep)).setCell ⟨w.heap.size, 3, none⟩ (.int .i64 R.th.lo)).setCell ⟨w.heap.size, 4, none⟩ (.int .i64 R.th.hi)).setCell ⟨w.heap.size, 5, none⟩ (.slice R.ma R.ms.length R.mc)) w.heap.size #[.slice R.pa R.pts.length R.pc, .slice R.ha R.hs.length R.hc, .int .i64 R.steep, .int .i64 R.th.lo, .int .i64 R.th.hi, .slice R.ma R.ms.length R.mc] 30 := ((((((KB.out.set 0 (.slice R.pa R.pts.length R.pc)).set 1 (.slice R.ha R.hs.length R.hc)).set 2 (.int .i64 R.steep)).set 3 (.int .i64 R.th.lo)).set 4 (.int .i64 R.th.hi)).set 5 (.slice R.ma R.ms.length R.mc))
  have ht : Turn (fun k => k = w.heap.size) w3 ((((((w3.setCell ⟨w.heap.size, 0, none⟩ (.slice R.pa R.pts.length R.pc)).setCell ⟨w.heap.size, 1, none⟩ (.slice R.ha R.hs.length R.hc)).setCell ⟨w.heap.size, 2, none⟩ (.int .i64 R.steep)).setCell ⟨w.heap.size, 3, none⟩ (.int .i64 R.th.lo)).setCell ⟨w.heap.size, 4, none⟩ (.int .i64 R.th.hi)).setCell ⟨w.heap.size, 5, none⟩ (.slice R.ma R.ms.length R.mc)) := (((((((Turn.of_below (X := fun k => k = w.heap.size) (Below.refl _ w3)).setCell (B := w.heap.size) rfl 0 (.slice R.pa R.pts.length R.pc)).setCell (B := w.heap.size) rfl 1 (.slice R.ha R.hs.length R.hc)).setCell (B := w.heap.size) rfl 2 (.int .i64 R.steep)).setCell (B := w.heap.size) rfl 3 (.int .i64 R.th.lo)).setCell (B := w.heap.size) rfl 4 (.int .i64 R.th.hi)).setCell (B := w.heap.size) rfl 5 (.slice R.ma R.ms.length R.mc))
  generalize ((((((w3.setCell ⟨w.heap.size, 0, none⟩ (.slice R.pa R.pts.length R.pc)).setCell ⟨w.heap.size, 1, none⟩ (.slice R.ha R.hs.length R.hc)).setCell ⟨w.heap.size, 2, none⟩ (.int .i64 R.steep)).setCell ⟨w.heap.size, 3, none⟩ (.int .i64 R.th.lo)).setCell ⟨w.heap.size, 4, none⟩ (.int .i64 R.th.hi)).setCell ⟨w.heap.size, 5, none⟩ (.slice R.ma R.ms.length R.mc)) = wf at *
  clear b0 b1 b2 b3 b4 b5 z0 z1 z2 z3 z4 z5
  obtain ⟨g0, g1, g2, g3, g4, g5⟩ := skn_cells (S := R) kf
  exact bodyPost_ret (v := .agg #[.slice R.pa R.pts.length R.pc, .slice R.ha R.hs.length R.hc, .int .i64 R.steep, .int .i64 R.th.lo, .int .i64 R.th.hi, .slice R.ma R.ms.length R.mc]) (by simp [results, Tryd.results30, go_sem, g0, g1, g2, g3, g4, g5]) rfl ⟨.inl ⟨HX.out, R, rfl, HR.out.turnF HF.out ht (fun k e => by have := HLT.out; omega), HF.out.mono (by have := HLT.out; omega), HP.out⟩, HB3.out.trans (ht.below HB3.out.size (fun k e => by rw [show k = w.heap.size from e]; exact Nat.le_refl _))⟩

set_option maxRecDepth 100000 in
set_option maxHeartbeats 8000000 in
theorem wearSeason_any (S : Skn) (t : Spn) (g : Int) (w : World) (hS : IsSkn w S) (hg : Laid w) :
    Calls Tryd.prog 13 #[.agg #[.slice S.pa S.pts.length S.pc, .slice S.ha S.hs.length S.hc, .int .i64 S.steep, .int .i64 S.th.lo, .int .i64 S.th.hi, .slice S.ma S.ms.length S.mc], .agg #[.int .i64 t.lo, .int .i64 t.hi], .int .i64 g] w (SkinSaid (seasonE S t g) (Behind t g S) w) := by
  have hmf : ∀ (fn : Fn) (first cap : Array Value) (w : World), (Instr.makeFunc fn first cap).run Tryd.prog w = .ok (.func fn first cap) w := fun _ _ _ _ => rfl
  have k1 := (((Blk.new w 30 #[.slice S.pa S.pts.length S.pc, .slice S.ha S.hs.length S.hc, .int .i64 S.steep, .int .i64 S.th.lo, .int .i64 S.th.hi, .slice S.ma S.ms.length S.mc]).alloc (.cells #[.int .i64 t.lo, .int .i64 t.hi] 27)).alloc (.cells #[.int .i64 g] 3)).alloc (.cells #[.slice none 0 0, .slice none 0 0, .int .i64 0, .int .i64 0, .int .i64 0, .slice none 0 0] 30)
  have k2 := ((Blk.new (w.alloc (.cells #[.slice S.pa S.pts.length S.pc, .slice S.ha S.hs.length S.hc, .int .i64 S.steep, .int .i64 S.th.lo, .int .i64 S.th.hi, .slice S.ma S.ms.length S.mc] 30)) 27 #[.int .i64 t.lo, .int .i64 t.hi]).alloc (.cells #[.int .i64 g] 3)).alloc (.cells #[.slice none 0 0, .slice none 0 0, .int .i64 0, .int .i64 0, .int .i64 0, .slice none 0 0] 30)
  have k3 := (Blk.new ((w.alloc (.cells #[.slice S.pa S.pts.length S.pc, .slice S.ha S.hs.length S.hc, .int .i64 S.steep, .int .i64 S.th.lo, .int .i64 S.th.hi, .slice S.ma S.ms.length S.mc] 30)).alloc (.cells #[.int .i64 t.lo, .int .i64 t.hi] 27)) 3 #[.int .i64 g]).alloc (.cells #[.slice none 0 0, .slice none 0 0, .int .i64 0, .int .i64 0, .int .i64 0, .slice none 0 0] 30)
  have k4 := Blk.new (((w.alloc (.cells #[.slice S.pa S.pts.length S.pc, .slice S.ha S.hs.length S.hc, .int .i64 S.steep, .int .i64 S.th.lo, .int .i64 S.th.hi, .slice S.ma S.ms.length S.mc] 30)).alloc (.cells #[.int .i64 t.lo, .int .i64 t.hi] 27)).alloc (.cells #[.int .i64 g] 3)) 30 #[.slice none 0 0, .slice none 0 0, .int .i64 0, .int .i64 0, .int .i64 0, .slice none 0 0]
  rw [World.size_alloc] at k2
  rw [World.size_alloc, World.size_alloc] at k3
  rw [World.size_alloc, World.size_alloc, World.size_alloc] at k4
  have hb1 : Below w.heap.size w ((((w.alloc (.cells #[.slice S.pa S.pts.length S.pc, .slice S.ha S.hs.length S.hc, .int .i64 S.steep, .int .i64 S.th.lo, .int .i64 S.th.hi, .slice S.ma S.ms.length S.mc] 30)).alloc (.cells #[.int .i64 t.lo, .int .i64 t.hi] 27)).alloc (.cells #[.int .i64 g] 3)).alloc (.cells #[.slice none 0 0, .slice none 0 0, .int .i64 0, .int .i64 0, .int .i64 0, .slice none 0 0] 30)) := ((((Below.refl _ w).alloc (Nat.le_refl _) _).alloc (by simp) _).alloc (by simp; omega) _).alloc (by simp; omega) _
  have HS := Lib.hid hS
  have HG := Lib.hid hg
  have hen1 : Enters 30 := run_enter Tryd.func30 (by kernel_rfl) rfl
  clear hS hg
  go_enter Tryd.func13, Tryd.ntmps13
  go_upto_region 1 with fail
  generalize ((((w.alloc (.cells #[.slice S.pa S.pts.length S.pc, .slice S.ha S.hs.length S.hc, .int .i64 S.steep, .int .i64 S.th.lo, .int .i64 S.th.hi, .slice S.ma S.ms.length S.mc] 30)).alloc (.cells #[.int .i64 t.lo, .int .i64 t.hi] 27)).alloc (.cells #[.int .i64 g] 3)).alloc (.cells #[.slice none 0 0, .slice none 0 0, .int .i64 0, .int .i64 0, .int .i64 0, .slice none 0 0] 30)) = w1 at *
  have HAN := Lib.hid (answerSkin_any 30 #[.pointer (some ⟨w.heap.size, 0, none⟩), .pointer (some ⟨w.heap.size + 1, 0, none⟩), .pointer (some ⟨w.heap.size + 1 + 1, 0, none⟩)] (seasonE S t g) (Behind t g S) w1 hen1 (fun w2 h => seasonIn_any _ _ _ S t g w2 (k1.belowS h) (k2.belowS h) (k3.belowS h) (HS.out.below (hb1.trans (h.mono hb1.size))) (HG.out.below (hb1.trans (h.mono hb1.size)))))
  have HB1 := Lib.hid hb1
  have K4 := Lib.hid k4
  clear k1 k2 k3 k4 hb1 hen1
  go_wp2_with fail
  refine HAN.out.mono ?_
  rintro e w2 ⟨⟨R, rfl, hR, hF, hP, hZ⟩, hb⟩
  obtain ⟨E, hE⟩ : ∃ E, seasonE S t g = E := ⟨_, rfl⟩
  rw [hE] at hP hZ ⊢
  have HEE := Lib.hid hE
  have HB2 := Lib.hid (HB1.out.trans (hb.mono HB1.out.size))
  have k42 := K4.out.belowS hb
  have HLT := Lib.hid K4.out.lt
  have HR := Lib.hid hR
  have HF := Lib.hid hF
  have HP := Lib.hid hP
  have HZ := Lib.hid hZ
  clear hb hR hF hP hZ hE HAN
  obtain ⟨b0, b1, b2, b3, b4, b5⟩ := (show w2.cell? ⟨w.heap.size + 1 + 1 + 1, 0, none⟩ = some (.slice none 0 0) ∧ w2.cell? ⟨w.heap.size + 1 + 1 + 1, 1, none⟩ = some (.slice none 0 0) ∧ w2.cell? ⟨w.heap.size + 1 + 1 + 1, 2, none⟩ = some (.int .i64 0) ∧ w2.cell? ⟨w.heap.size + 1 + 1 + 1, 3, none⟩ = some (.int .i64 0) ∧ w2.cell? ⟨w.heap.size + 1 + 1 + 1, 4, none⟩ = some (.int .i64 0) ∧ w2.cell? ⟨w.heap.size + 1 + 1 + 1, 5, none⟩ = some (.slice none 0 0) from ⟨k42.cell 0, k42.cell 1, k42.cell 2, k42.cell 3, k42.cell 4, k42.cell 5⟩)
  have lB := k42.lt
  have z0 := k42.frozen 0
  have z1 := k42.frozen 1
  have z2 := k42.frozen 2
  have z3 := k42.frozen 3
  have z4 := k42.frozen 4
  have z5 := k42.frozen 5
  have KB := Lib.hid k42
  clear k42
  unfold sknC
  go_wp2_with fail
  have kf : Blk ((((((w2.setCell ⟨w.heap.size + 1 + 1 + 1, 0, none⟩ (.slice R.pa R.pts.length R.pc)).setCell ⟨w.heap.size + 1 + 1 + 1, 1, none⟩ (.slice R.ha R.hs.length R.hc)).setCell ⟨w.heap.size + 1 + 1 + 1, 2, none⟩ (.int .i64 R.steep)).setCell ⟨w.heap.size + 1 + 1 + 1, 3, none⟩ (.int .i64 R.th.lo)).setCell ⟨w.heap.size + 1 + 1 + 1, 4, none⟩ (.int .i64 R.th.hi)).setCell ⟨w.heap.size + 1 + 1 + 1, 5, none⟩ (.slice R.ma R.ms.length R.mc)) (w.heap.size + 1 + 1 + 1) #[.slice R.pa R.pts.length R.pc, .slice R.ha R.hs.length R.hc, .int .i64 R.steep, .int .i64 R.th.lo, .int .i64 R.th.hi, .slice R.ma R.ms.length R.mc] 30 := ((((((KB.out.set 0 (.slice R.pa R.pts.length R.pc)).set 1 (.slice R.ha R.hs.length R.hc)).set 2 (.int .i64 R.steep)).set 3 (.int .i64 R.th.lo)).set 4 (.int .i64 R.th.hi)).set 5 (.slice R.ma R.ms.length R.mc))
  have ht : Turn (fun k => k = w.heap.size + 1 + 1 + 1) w2 ((((((w2.setCell ⟨w.heap.size + 1 + 1 + 1, 0, none⟩ (.slice R.pa R.pts.length R.pc)).setCell ⟨w.heap.size + 1 + 1 + 1, 1, none⟩ (.slice R.ha R.hs.length R.hc)).setCell ⟨w.heap.size + 1 + 1 + 1, 2, none⟩ (.int .i64 R.steep)).setCell ⟨w.heap.size + 1 + 1 + 1, 3, none⟩ (.int .i64 R.th.lo)).setCell ⟨w.heap.size + 1 + 1 + 1, 4, none⟩ (.int .i64 R.th.hi)).setCell ⟨w.heap.size + 1 + 1 + 1, 5, none⟩ (.slice R.ma R.ms.length R.mc)) := (((((((Turn.of_below (X := fun k => k = w.heap.size + 1 + 1 + 1) (Below.refl _ w2)).setCell (B := w.heap.size + 1 + 1 + 1) rfl 0 (.slice R.pa R.pts.length R.pc)).setCell (B := w.heap.size + 1 + 1 + 1) rfl 1 (.slice R.ha R.hs.length R.hc)).setCell (B := w.heap.size + 1 + 1 + 1) rfl 2 (.int .i64 R.steep)).setCell (B := w.heap.size + 1 + 1 + 1) rfl 3 (.int .i64 R.th.lo)).setCell (B := w.heap.size + 1 + 1 + 1) rfl 4 (.int .i64 R.th.hi)).setCell (B := w.heap.size + 1 + 1 + 1) rfl 5 (.slice R.ma R.ms.length R.mc))
  generalize ((((((w2.setCell ⟨w.heap.size + 1 + 1 + 1, 0, none⟩ (.slice R.pa R.pts.length R.pc)).setCell ⟨w.heap.size + 1 + 1 + 1, 1, none⟩ (.slice R.ha R.hs.length R.hc)).setCell ⟨w.heap.size + 1 + 1 + 1, 2, none⟩ (.int .i64 R.steep)).setCell ⟨w.heap.size + 1 + 1 + 1, 3, none⟩ (.int .i64 R.th.lo)).setCell ⟨w.heap.size + 1 + 1 + 1, 4, none⟩ (.int .i64 R.th.hi)).setCell ⟨w.heap.size + 1 + 1 + 1, 5, none⟩ (.slice R.ma R.ms.length R.mc)) = wf at *
  clear b0 b1 b2 b3 b4 b5 z0 z1 z2 z3 z4 z5
  obtain ⟨g0, g1, g2, g3, g4, g5⟩ := skn_cells (S := R) kf
  exact bodyPost_ret (v := .tuple #[.agg #[.slice R.pa R.pts.length R.pc, .slice R.ha R.hs.length R.hc, .int .i64 R.steep, .int .i64 R.th.lo, .int .i64 R.th.hi, .slice R.ma R.ms.length R.mc], .int .i64 E]) (by simp [results, Tryd.results13, go_sem, g0, g1, g2, g3, g4, g5]) rfl ⟨⟨R, by rw [HEE.out], HR.out.turnF HF.out ht (fun k e => by have := HLT.out; omega), HF.out.mono (by have := HLT.out; omega), by rw [HEE.out]; exact HP.out, by rw [HEE.out]; exact HZ.out⟩, HB2.out.trans (ht.below HB2.out.size (fun k e => by rw [show k = w.heap.size + 1 + 1 + 1 from e]; omega))⟩

/-! ### Check -/
set_option maxRecDepth 100000 in
set_option maxHeartbeats 8000000 in
theorem checkIn_any (P : Nat) (S : Skn) (w : World) (kP : Blk w P #[.slice S.pa S.pts.length S.pc, .slice S.ha S.hs.length S.hc, .int .i64 S.steep, .int .i64 S.th.lo, .int .i64 S.th.hi, .slice S.ma S.ms.length S.mc] 30) (hS : IsSkn w S) (hg : Laid w) :
    Calls Tryd.prog 34 #[.pointer (some ⟨P, 0, none⟩)] w (Tried (skinE S) (fun _ => False) (fun _ => True) w) := by
  obtain ⟨s0, s1, s2, s3, s4, s5⟩ := skn_cells (S := S) kP
  have l1 := kP.lt
  have HS := Lib.hid hS
  have HG := Lib.hid hg
  clear hS hg kP
  go_enter Tryd.func34, Tryd.ntmps34
  go_wp2_with fail
  refine (requireSkin_any S _ HS.out HG.out).mono ?_
  rintro e w2 ⟨h, hb⟩
  have HB := Lib.hid hb
  clear s0 s1 s2 s3 s4 s5 l1 hb
  rcases h with ⟨hx, rfl⟩ | ⟨hx, rfl⟩
  · have HX := Lib.hid hx
    clear hx
    go_wp2_with fail
    go_end0
    exact ⟨.inl ⟨HX.out, rfl⟩, trivial, Turn.of_below HB.out⟩
  · have HX := Lib.hid hx
    clear hx
    go_wp2_with fail
    exact ⟨rfl, .inr ⟨HX.out, rfl⟩, trivial, Turn.of_below HB.out⟩
set_option maxRecDepth 100000 in
set_option maxHeartbeats 8000000 in
theorem wearCheck_any (S : Skn) (w : World) (hS : IsSkn w S) (hg : Laid w) :
    Calls Tryd.prog 15 #[.agg #[.slice S.pa S.pts.length S.pc, .slice S.ha S.hs.length S.hc, .int .i64 S.steep, .int .i64 S.th.lo, .int .i64 S.th.hi, .slice S.ma S.ms.length S.mc]] w fun e w' => e = .returned (.int .i64 (skinE S)) ∧ Below w.heap.size w w' := by
  have hmf : ∀ (fn : Fn) (first cap : Array Value) (w : World), (Instr.makeFunc fn first cap).run Tryd.prog w = .ok (.func fn first cap) w := fun _ _ _ _ => rfl
  have k1 := Blk.new w 30 #[.slice S.pa S.pts.length S.pc, .slice S.ha S.hs.length S.hc, .int .i64 S.steep, .int .i64 S.th.lo, .int .i64 S.th.hi, .slice S.ma S.ms.length S.mc]
  have hb1 : Below w.heap.size w (w.alloc (.cells #[.slice S.pa S.pts.length S.pc, .slice S.ha S.hs.length S.hc, .int .i64 S.steep, .int .i64 S.th.lo, .int .i64 S.th.hi, .slice S.ma S.ms.length S.mc] 30)) := (Below.refl _ w).alloc (Nat.le_refl _) _
  have HS := Lib.hid hS
  have HG := Lib.hid hg
  have hen1 : Enters 34 := run_enter Tryd.func34 (by kernel_rfl) rfl
  clear hS hg
  go_enter Tryd.func15, Tryd.ntmps15
  go_upto_region 1 with fail
  generalize w.alloc (.cells #[.slice S.pa S.pts.length S.pc, .slice S.ha S.hs.length S.hc, .int .i64 S.steep, .int .i64 S.th.lo, .int .i64 S.th.hi, .slice S.ma S.ms.length S.mc] 30) = w1 at *
  have HOF := Lib.hid (of_any 34 #[.pointer (some ⟨w.heap.size, 0, none⟩)] (skinE S) (fun _ => False) (fun _ => True) w1 hen1 (fun _ h => h.elim) (fun w2 h _ => checkIn_any _ S w2 (k1.belowS h) (HS.out.below (hb1.trans (h.mono hb1.size))) (HG.out.below (hb1.trans (h.mono hb1.size)))))
  have HB1 := Lib.hid hb1
  clear k1 hb1 hen1
  go_wp2_with fail
  refine HOF.out.mono ?_
  rintro e w2 ⟨rfl, _, ht⟩
  have HT := Lib.hid (HB1.out.trans (ht.below (base := w.heap.size) HB1.out.size (fun k e => e.elim)))
  clear ht HOF
  go_wp2_with fail
  go_ret
  exact ⟨rfl, HT.out⟩
end Go.Proofs.YtoigihmgjacbjaaDoor
