/- A list that is answered (fault.Answer), and the row with a number (Nth). No condition but the bounds of what is given. -/
import Derived.Test.YtmcmhgjlpffcnaaQS
set_option linter.unusedSimpArgs false
namespace Go.Proofs.Ytmcmhgjlpffcnaa
open Go.RowKit

theorem ints_turn {X : Nat → Prop} {w w' : World} {a : Option Addr} {c : Nat} {l : List Int} (h : IsInts w a c l) (hX : ∀ p, a = some p → ¬ X p.block) (ht : Turn X w w') : IsInts w' a c l := by
  rcases h with h | ⟨b, off, e, hl, hc, hc', hp⟩
  · exact .inl h
  · refine .inr ⟨b, off, e, Nat.lt_of_lt_of_le hl ht.size, hc, hc', fun j x hj => ?_⟩
    have h1 : w.cell? ⟨b, off + j * 1, none⟩ = some (.int .i64 x) := hp j x hj
    have h2 : w'.cell? ⟨b, off + j * 1, none⟩ = w.cell? ⟨b, off + j * 1, none⟩ := World.cell?_of_block (w := w) (ht.block b hl (hX _ e))
    exact h2.trans h1
def endL (x : Int) (l : List Int) : List Int := if x = 0 then l else []
/-- What a closure does that answers a list: a row of its own. -/
def ListDone (x : Int) (l : List Int) (w : World) (e : Ending) (w' : World) : Prop := ((x = 0 ∧ ∃ a c, e = .returned (.slice a l.length c) ∧ IsInts w' a c l ∧ ∀ p, a = some p → w.heap.size ≤ p.block) ∨ (x ≠ 0 ∧ e = chain x)) ∧ Below w.heap.size w w'
def ListBox (n B : Nat) (l : List Int) (w : World) : Prop := ∃ a c, Blk w B #[.slice a l.length c] 25 ∧ IsInts w a c l ∧ ∀ p, a = some p → n < p.block

set_option maxRecDepth 100000 in
set_option maxHeartbeats 4000000 in
theorem answerListIn_any (n A B : Nat) (N : FuncId) (cap : Array Value) (x : Int) (l : List Int) (w : World) (hn : n < w.heap.size) (hen : Enters N) (kA : Blk w A #[.func (.func N) #[] cap] 78) (kB : Blk w B #[.slice none 0 0] 25) (hdo : Calls Try.prog N cap w (ListDone x l w)) :
    Calls Try.prog 87 #[.pointer (some ⟨A, 0, none⟩), .pointer (some ⟨B, 0, none⟩)] w (Tried x (fun k => k = B) (ListBox n B (endL x l)) w) := by
  have lA := kA.lt
  have a0 : w.cell? ⟨A, 0, none⟩ = some (.func (.func N) #[] cap) := kA.cell 0
  have HDO := Lib.hid hdo
  have KB := Lib.hid kB
  unfold Enters at hen
  clear kA kB hdo
  go_enter Try.func87, Try.ntmps87
  go_wp2_with fail
  refine HDO.out.mono ?_
  rintro e w1 ⟨h, hb⟩
  have kB1 := KB.out.belowS hb
  have lB := kB1.lt
  have HB := Lib.hid hb
  clear a0 lA hb HDO
  rcases h with ⟨hx, a, c, rfl, hi, hf⟩ | ⟨hx, rfl⟩
  · have b0 : w1.cell? ⟨B, 0, none⟩ = some (.slice none 0 0) := kB1.cell 0
    have z0 := kB1.frozen 0
    have HX := Lib.hid hx
    have KB1 := Lib.hid kB1
    have HI := Lib.hid hi
    have HF := Lib.hid hf
    clear hx kB1 hi hf
    go_wp2_with fail
    have kf : Blk (w1.setCell ⟨B, 0, none⟩ (.slice a l.length c)) B #[.slice a l.length c] 25 := KB1.out.set 0 (.slice a l.length c)
    have ht : Turn (fun k => k = B) w1 (w1.setCell ⟨B, 0, none⟩ (.slice a l.length c)) := (Turn.of_below (X := fun k => k = B) (Below.refl _ w1)).setCell (B := B) rfl 0 (.slice a l.length c)
    have hif := ints_turn HI.out (fun p e => by have := HF.out p e; have := KB.out.lt; omega) ht
    generalize w1.setCell ⟨B, 0, none⟩ (.slice a l.length c) = wf at *
    go_end0
    exact ⟨.inl ⟨HX.out, rfl⟩, by rw [show endL x l = l by simp [endL, HX.out]]; exact ⟨a, c, kf, hif, fun p e => by have := HF.out p e; omega⟩, (Turn.of_below HB.out).trans ht⟩
  · have HX := Lib.hid hx
    have KB1 := Lib.hid kB1
    clear hx kB1
    go_wp2_with fail
    exact ⟨rfl, .inr ⟨HX.out, rfl⟩, by rw [show endL x l = [] by simp [endL, HX.out]]; exact ⟨none, 0, KB1.out, .inl rfl, fun p e => by cases e⟩, Turn.of_below HB.out⟩

def ListEnd (x : Int) (l : List Int) (w : World) (e : Ending) (w' : World) : Prop := ∃ a c, e = .returned (.tuple #[.slice a (endL x l).length c, .int .i64 x]) ∧ IsInts w' a c (endL x l) ∧ Below w.heap.size w w'
set_option maxRecDepth 100000 in
set_option maxHeartbeats 4000000 in
theorem answerList_any (N : FuncId) (cap : Array Value) (x : Int) (l : List Int) (w : World) (hen : Enters N) (hdo : ∀ w1, Below w.heap.size w w1 → Calls Try.prog N cap w1 (ListDone x l w1)) :
    Calls Try.prog 58 #[.func (.func N) #[] cap] w (ListEnd x l w) := by
  have hmf : ∀ (fn : Fn) (first cap : Array Value) (w : World), (Instr.makeFunc fn first cap).run Try.prog w = .ok (.func fn first cap) w := fun _ _ _ _ => rfl
  have kA := (Blk.new w 78 #[.func (.func N) #[] cap]).alloc (.cells #[.slice none 0 0] 25)
  have kB := Blk.new (w.alloc (.cells #[.func (.func N) #[] cap] 78)) 25 #[.slice none 0 0]
  have hb1 : Below w.heap.size w ((w.alloc (.cells #[.func (.func N) #[] cap] 78)).alloc (.cells #[.slice none 0 0] 25)) := ((Below.refl _ w).alloc (Nat.le_refl _) _).alloc (by simp) _
  rw [World.size_alloc] at kB
  have hsz : ((w.alloc (.cells #[.func (.func N) #[] cap] 78)).alloc (.cells #[.slice none 0 0] 25)).heap.size = w.heap.size + 2 := by simp
  have HDO := Lib.hid hdo
  have HEN := Lib.hid hen
  clear hdo
  have hen1 : Enters 87 := run_enter Try.func87 (by kernel_rfl) rfl
  go_enter Try.func58, Try.ntmps58
  go_upto_region 1 with fail
  generalize ((w.alloc (.cells #[.func (.func N) #[] cap] 78)).alloc (.cells #[.slice none 0 0] 25)) = w1 at *
  have HOF := Lib.hid (of_any 87 #[.pointer (some ⟨w.heap.size, 0, none⟩), .pointer (some ⟨w.heap.size + 1, 0, none⟩)] x (fun k => k = w.heap.size + 1) (ListBox w1.heap.size (w.heap.size + 1) (endL x l)) w1 hen1 (fun k e => by omega)
    (fun w2 h hl => answerListIn_any w1.heap.size w.heap.size (w.heap.size + 1) N cap x l w2 hl HEN.out (kA.belowS h) (kB.belowS h) (HDO.out w2 (hb1.trans (h.mono hb1.size)))))
  have HB1 := Lib.hid hb1
  have HSZ := Lib.hid hsz
  clear kA kB hb1 HDO hsz hen hen1 HEN
  go_wp2_with fail
  refine HOF.out.mono ?_
  rintro e w2 ⟨rfl, ⟨w3, ⟨a, c, hB, hi, hf⟩, ht3⟩, ht⟩
  have kB2 := ht3.blk hB (fun e => by have := HSZ.out; omega)
  have hi2 := ints_turn hi (fun p e e2 => by have := hf p e; omega) ht3
  have HTT := Lib.hid (HB1.out.trans (ht.below (base := w.heap.size) HB1.out.size (fun k e => by omega)))
  have KB := Lib.hid kB2
  have HI2 := Lib.hid hi2
  have HF := Lib.hid hf
  have lB := kB2.lt
  have b0 : w2.cell? ⟨w.heap.size + 1, 0, none⟩ = some (.slice a (endL x l).length c) := kB2.cell 0
  have z0 := kB2.frozen 0
  clear hB hi hf hi2 ht3 ht kB2 HOF
  go_wp2_with fail
  have kf : Blk (w2.setCell ⟨w.heap.size + 1, 0, none⟩ (.slice a (endL x l).length c)) (w.heap.size + 1) #[.slice a (endL x l).length c] 25 := KB.out.set 0 (.slice a (endL x l).length c)
  have hbf : Below w.heap.size w (w2.setCell ⟨w.heap.size + 1, 0, none⟩ (.slice a (endL x l).length c)) := HTT.out.setCell (p := ⟨w.heap.size + 1, 0, none⟩) (by show w.heap.size ≤ w.heap.size + 1; omega) _
  have hif := ints_turn (X := fun k => k = w.heap.size + 1) HI2.out (fun p e e2 => by have := HF.out p e; have := HSZ.out; omega) ((Turn.of_below (X := fun k => k = w.heap.size + 1) (Below.refl _ w2)).setCell (B := w.heap.size + 1) rfl 0 (.slice a (endL x l).length c))
  generalize w2.setCell ⟨w.heap.size + 1, 0, none⟩ (.slice a (endL x l).length c) = wf at *
  have g0 : wf.cell? ⟨w.heap.size + 1, 0, none⟩ = some (.slice a (endL x l).length c) := kf.cell 0
  exact bodyPost_ret (v := .tuple #[.slice a (endL x l).length c, .int .i64 x]) (by simp [results, Try.results58, go_sem, g0]) rfl ⟨a, c, rfl, hif, hbf⟩

/-! ### Nth -/
def nthE (R : Rdg) (k : Int) : Int := if waysE R ≠ 0 then waysE R else if isFromB k 0 ((waysN R : Int) - 1) = false then 1 else 0
set_option maxRecDepth 100000 in
set_option maxHeartbeats 8000000 in
theorem nthIn_any (P Q : Nat) (R : Rdg) (k : Int) (w : World) (kP : Blk w P #[.int .i64 R.len, .int .i64 R.st, .int .i64 R.en, .slice R.pa R.ps.length R.pc] 24) (kQ : Blk w Q #[.int .i64 k] 3) (hrow : IsPcs w R.pa R.pc R.ps) (hbig : R.ps.length ≤ 1000000000) (hnm : ∀ x ∈ R.ps, x.name.size ≤ maxLen) :
    Calls Try.prog 59 #[.pointer (some ⟨P, 0, none⟩), .pointer (some ⟨Q, 0, none⟩)] w (ListDone (nthE R k) (nthR R k.toNat) w) := by
  have HRO := Lib.hid (rowsOf_any R w hrow hbig hnm)
  have HROW := Lib.hid hrow
  obtain ⟨r0, r1, r2, r3⟩ := rdg_cells (R := R) kP
  have hlr := kP.lt
  have KQ := Lib.hid kQ
  clear kP kQ hrow hbig hnm
  go_enter Try.func59, Try.ntmps59
  go_wp2_with fail
  refine HRO.out.mono ?_
  rintro e w1 ⟨⟨hE, B, f, rfl, hB, hT, hf⟩ | ⟨hE, rfl⟩, hb⟩
  rotate_left
  · have hv : nthE R k = waysE R := by unfold nthE; rw [if_pos hE]
    exact ⟨rfl, .inr ⟨by rw [hv]; exact hE, by rw [hv]⟩, hb⟩
  have hv : nthE R k = if isFromB k 0 ((waysN R : Int) - 1) = false then 1 else 0 := by unfold nthE; rw [if_neg (by rw [hE]; simp)]
  have hro := rdgE_ridge (waysE_zero hE).1
  have hM := (waysE_zero hE).2
  have kW := Blk.new w1 67 #[.int .i64 R.len, .int .i64 R.st, .int .i64 R.en, .slice R.pa R.ps.length R.pc, .pointer (some ⟨B, 0, none⟩)]
  have hb2 : Below w1.heap.size w1 (w1.alloc (.cells #[.int .i64 R.len, .int .i64 R.st, .int .i64 R.en, .slice R.pa R.ps.length R.pc, .pointer (some ⟨B, 0, none⟩)] 67)) := (Below.refl _ w1).alloc (Nat.le_refl _) _
  have kQ2 := (KQ.out.belowS hb).belowS hb2
  have hT2 := hT.of_block (hb2.block _ hT.lt)
  have HB2 := Lib.hid (hb.trans (hb2.mono hb.size))
  have htop : f R.top.ix = (waysN R : Int) := hf _ .top
  clear hb2 r0 r1 r2 r3 hlr HRO
  go_upto_region 2 with fail
  generalize w1.alloc (.cells #[.int .i64 R.len, .int .i64 R.st, .int .i64 R.en, .slice R.pa R.ps.length R.pc, .pointer (some ⟨B, 0, none⟩)] 67) = w2 at *
  have q0 : w2.cell? ⟨Q, 0, none⟩ = some (.int .i64 k) := kQ2.cell 0
  have HV := Lib.hid hv
  have HRK := Lib.hid hro
  have HMM := Lib.hid hM
  have HKW := Lib.hid kW
  have HKQ := Lib.hid kQ2
  have HT2 := Lib.hid hT2
  have HFF := Lib.hid hf
  have HTOP := Lib.hid htop
  have HE := Lib.hid hE
  have hcl : ∀ W, Below w2.heap.size w2 W → (fun w' : World => (w'.cell? ⟨Q, 0, none⟩ = some (.int .i64 k)) ∧ w'.cell? ⟨w1.heap.size, 0, none⟩ = some (.int .i64 R.len) ∧ w'.cell? ⟨w1.heap.size, 1, none⟩ = some (.int .i64 R.st) ∧ w'.cell? ⟨w1.heap.size, 2, none⟩ = some (.int .i64 R.en) ∧ w'.cell? ⟨w1.heap.size, 3, none⟩ = some (.slice R.pa R.ps.length R.pc) ∧ w'.cell? ⟨w1.heap.size, 4, none⟩ = some (.pointer (some ⟨B, 0, none⟩))) W := fun W h => by
    have k3 := HKW.out.belowS h
    have k4 := HKQ.out.belowS h
    exact ⟨k4.cell 0, k3.cell 0, k3.cell 1, k3.cell 2, k3.cell 3, k3.cell 4⟩
  have HCL := Lib.hid hcl
  have hx : (fun w' : World => (w'.cell? ⟨Q, 0, none⟩ = some (.int .i64 k)) ∧ w'.cell? ⟨w1.heap.size, 0, none⟩ = some (.int .i64 R.len) ∧ w'.cell? ⟨w1.heap.size, 1, none⟩ = some (.int .i64 R.st) ∧ w'.cell? ⟨w1.heap.size, 2, none⟩ = some (.int .i64 R.en) ∧ w'.cell? ⟨w1.heap.size, 3, none⟩ = some (.slice R.pa R.ps.length R.pc) ∧ w'.cell? ⟨w1.heap.size, 4, none⟩ = some (.pointer (some ⟨B, 0, none⟩))) w2.drew := hcl _ (Below.refl _ _).drew
  clear hv hro hM kW kQ2 hT2 hf htop hE q0 hb hB hT hcl
  refine wp_region_E 6 (fun w' => (w'.cell? ⟨Q, 0, none⟩ = some (.int .i64 k)) ∧ w'.cell? ⟨w1.heap.size, 0, none⟩ = some (.int .i64 R.len) ∧ w'.cell? ⟨w1.heap.size, 1, none⟩ = some (.int .i64 R.st) ∧ w'.cell? ⟨w1.heap.size, 2, none⟩ = some (.int .i64 R.en) ∧ w'.cell? ⟨w1.heap.size, 3, none⟩ = some (.slice R.pa R.ps.length R.pc) ∧ w'.cell? ⟨w1.heap.size, 4, none⟩ = some (.pointer (some ⟨B, 0, none⟩))) (by kernel_rfl) ?_
  refine E_takeR (i := 0) (oi := _) (v := ?v1) rfl (by kernel_rfl) (by kernel_rfl) (by kernel_rfl) (by decide) (fun _ _ _ h => h) hx (Or.inl ⟨by rfl, ?y1⟩) ?r1
  case y1 => (intro w' hSw; (try dsimp only at hSw); go_simp; try with_reducible rfl)
  try simp only [Act.put, List.getElem_toArray, List.getElem_cons_zero, List.getElem_cons_succ, List.setIfInBounds_toArray, List.set_cons_zero, List.set_cons_succ]
  refine E_takeR (i := 1) (oi := _) (v := ?v2) rfl (by kernel_rfl) (by kernel_rfl) (by kernel_rfl) (by decide) (fun _ _ _ h => h) hx (Or.inl ⟨by rfl, ?y2⟩) ?r2
  case y2 => (intro w' hSw; (try dsimp only at hSw); go_simp; try with_reducible rfl)
  try simp only [Act.put, List.getElem_toArray, List.getElem_cons_zero, List.getElem_cons_succ, List.setIfInBounds_toArray, List.set_cons_zero, List.set_cons_succ]
  refine E_step (i := 2) (o := _) (by kernel_rfl) rfl (fun K hK => ?_)
  go_simp
  refine (all_any R B f w2.drew HRK.out (HT2.out.of_block rfl)).mono ?_
  rintro e w3 ⟨rfl, hb3⟩
  dsimp only
  have hb23 := (Below.refl w2.heap.size w2).drew.trans hb3
  have hx3 := HCL.out w3 hb23
  have HB3 := Lib.hid hb23
  refine hK.out _ _ (fun h => hx3) ?_
  clear hK K hx hb3 hb23
  rw [HTOP.out]
  try simp only [Act.put, List.getElem_toArray, List.getElem_cons_zero, List.getElem_cons_succ, List.setIfInBounds_toArray, List.set_cons_zero, List.set_cons_succ]
  have hM2 := HMM.out
  unfold MW at hM2
  obtain ⟨N, hN⟩ : ∃ N : Nat, waysN R = N := ⟨_, rfl⟩
  rw [hN] at HV hM2 ⊢
  have hwr : IntKind.i64.wrap ((N : Int) - 1) = (N : Int) - 1 := by rw [IntKind.wrap_i64]; omega
  refine E_step (i := 3) (o := _) (by kernel_rfl) rfl (fun K hK => ?_)
  go_simp
  refine hK.out _ _ (fun h => hx3) ?_
  clear hK K
  try simp only [Act.put, List.getElem_toArray, List.getElem_cons_zero, List.getElem_cons_succ, List.setIfInBounds_toArray, List.set_cons_zero, List.set_cons_succ]
  refine E_step (i := 4) (o := _) (by kernel_rfl) rfl (fun K hK => ?_)
  go_simp
  refine (isFrom_any _ _ _ _).mono ?_
  rintro e w4 ⟨rfl, rfl⟩
  dsimp only
  refine hK.out _ _ (fun h => hx3) ?_
  clear hK K
  try simp only [Act.put, List.getElem_toArray, List.getElem_cons_zero, List.getElem_cons_succ, List.setIfInBounds_toArray, List.set_cons_zero, List.set_cons_succ]
  obtain ⟨bt, hbt⟩ : ∃ bt, isFromB k 0 ((N : Int) - 1) = bt := ⟨_, rfl⟩
  try rw [hwr]
  rw [hbt] at HV ⊢
  have HBT := Lib.hid (And.intro hN hbt)
  clear hbt hN
  refine E_step (i := 5) (o := _) (by kernel_rfl) rfl (fun K hK => ?_)
  go_simp
  refine (require_any bt 1 _).mono ?_
  rintro e w5 ⟨h, rfl⟩
  have HBF := Lib.hid (HB2.out.trans (HB3.out.mono HB2.out.size))
  rcases h with ⟨rfl, rfl⟩ | ⟨rfl, rfl⟩
  rotate_left
  · dsimp only
    have h1 : nthE R k = 1 := by rw [HV.out]; rfl
    exact ⟨rfl, .inr ⟨by rw [h1]; decide, by rw [h1]⟩, HBF.out⟩
  dsimp only
  refine hK.out _ _ (fun h => hx3) ?_
  clear hK K
  try simp only [Act.put, List.getElem_toArray, List.getElem_cons_zero, List.getElem_cons_succ, List.setIfInBounds_toArray, List.set_cons_zero, List.set_cons_succ]
  refine E_done (by kernel_rfl) ?_ _
  have hkr := isFromB_iff.1 HBT.out.2
  obtain ⟨n, hn⟩ : ∃ n : Nat, k = (n : Int) := ⟨k.toNat, by omega⟩
  subst hn
  have hlt : n < wy R.ps R.en.toNat R.top := by show n < waysN R; rw [HBT.out.1]; omega
  have hnt := nth_any R B f n w5 HRK.out (HROW.out.belowS HBF.out) ((HT2.out.of_block (HB3.out.block _ HT2.out.lt))) HFF.out HMM.out hlt
  have HNT := Lib.hid hnt
  have h0 : nthE R (n : Int) = 0 := by rw [HV.out]; rfl
  have H0 := Lib.hid h0
  obtain ⟨c0, c1, c2, c3, c4, c5⟩ := hx3
  have lQ := (HKQ.out.belowS HB3.out).lt
  have lW := (HKW.out.belowS HB3.out).lt
  clear hnt hlt hkr h0 hwr hM2
  go_wp2_with fail
  refine HNT.out.mono ?_
  rintro e w6 ⟨a, c, rfl, hi, hfr, hb6⟩
  have HI := Lib.hid hi
  have HFR := Lib.hid hfr
  have HB6 := Lib.hid hb6
  clear hi hfr hb6 c0 c1 c2 c3 c4 c5 lQ lW HNT
  go_wp2_with fail
  go_ret
  exact ⟨.inl ⟨H0.out, a, c, rfl, HI.out, fun p e => Nat.le_trans HBF.out.size (HFR.out p e)⟩, HBF.out.trans (HB6.out.mono HBF.out.size)⟩

set_option maxHeartbeats 4000000 in
theorem nthPub_any (R : Rdg) (k : Int) (w : World) (hrow : IsPcs w R.pa R.pc R.ps) (hbig : R.ps.length ≤ 1000000000) (hnm : ∀ x ∈ R.ps, x.name.size ≤ maxLen) :
    Calls Try.prog 26 #[.agg #[.int .i64 R.len, .int .i64 R.st, .int .i64 R.en, .slice R.pa R.ps.length R.pc], .int .i64 k] w (ListEnd (nthE R k) (nthR R k.toNat) w) := by
  have hmf : ∀ (fn : Fn) (first cap : Array Value) (w : World), (Instr.makeFunc fn first cap).run Try.prog w = .ok (.func fn first cap) w := fun _ _ _ _ => rfl
  have k1 := (Blk.new w 24 #[.int .i64 R.len, .int .i64 R.st, .int .i64 R.en, .slice R.pa R.ps.length R.pc]).alloc (.cells #[.int .i64 k] 3)
  have k2 := Blk.new (w.alloc (.cells #[.int .i64 R.len, .int .i64 R.st, .int .i64 R.en, .slice R.pa R.ps.length R.pc] 24)) 3 #[.int .i64 k]
  rw [World.size_alloc] at k2
  have hb1 : Below w.heap.size w ((w.alloc (.cells #[.int .i64 R.len, .int .i64 R.st, .int .i64 R.en, .slice R.pa R.ps.length R.pc] 24)).alloc (.cells #[.int .i64 k] 3)) := ((Below.refl _ w).alloc (Nat.le_refl _) _).alloc (by simp) _
  have HA := Lib.hid (answerList_any 59 #[.pointer (some ⟨w.heap.size, 0, none⟩), .pointer (some ⟨w.heap.size + 1, 0, none⟩)] (nthE R k) (nthR R k.toNat) ((w.alloc (.cells #[.int .i64 R.len, .int .i64 R.st, .int .i64 R.en, .slice R.pa R.ps.length R.pc] 24)).alloc (.cells #[.int .i64 k] 3)) (run_enter Try.func59 (by kernel_rfl) rfl)
    (fun w1 h => nthIn_any _ _ R k w1 (k1.belowS h) (k2.belowS h) (hrow.belowS (hb1.trans (h.mono hb1.size))) hbig hnm))
  have HB1 := Lib.hid hb1
  clear k1 k2 hb1 hrow hbig hnm
  go_enter Try.func26, Try.ntmps26
  go_wp2_with fail
  refine HA.out.mono ?_
  rintro e w2 ⟨a, c, rfl, hi, hb⟩
  have HB2 := Lib.hid (HB1.out.trans (hb.mono HB1.out.size))
  have HI := Lib.hid hi
  clear hb hi HA
  go_wp2_with fail
  go_ret2
  exact ⟨a, c, rfl, HI.out, HB2.out⟩
end Go.Proofs.Ytmcmhgjlpffcnaa
