/- Halves of rows: mathematics; halves of the program and of the specification. No condition but the bounds of what is given. -/
import Derived.Test.YtmcmhgjlpffcnaaRE
set_option linter.unusedSimpArgs false
namespace Go.Proofs.Ytmcmhgjlpffcnaa
open Go.RowKit

/-! ### Rows one behind another -/
theorem sum_mul {α : Type} (f : α → Nat) (K : Nat) : ∀ l : List α, (l.map f).sum * K = (l.map fun x => f x * K).sum := by
  intro l
  induction l with
  | nil => simp
  | cons x l ih => simp only [List.map_cons, List.sum_cons, Nat.add_mul, ih]
theorem sum_le {α : Type} {f h : α → Nat} : ∀ {l : List α}, (∀ x ∈ l, f x ≤ h x) → (l.map f).sum ≤ (l.map h).sum := by
  intro l
  induction l with
  | nil => intro _; simp
  | cons x l ih =>
    intro e
    simp only [List.map_cons, List.sum_cons]
    have h1 := e x (by simp)
    have h2 := ih (fun y hy => e y (by simp [hy]))
    omega
theorem wy_join {ps : List Pce} (hps : ∀ x ∈ ps, x.ok) (a : Nat) : ∀ b s p e : Nat, wy ps p ⟨a, s⟩ * wy ps e ⟨b, p⟩ ≤ wy ps e ⟨a + b, s⟩ := by
  induction a using Nat.strongRecOn with
  | _ a ih =>
  intro b s p e
  by_cases h0 : a = 0
  · subst h0
    rw [wy_end hps p rfl, Nat.zero_add]
    by_cases h : s = p
    · subst h
      rw [if_pos rfl, Nat.one_mul]
      exact Nat.le_refl _
    · rw [if_neg h, Nat.zero_mul]
      exact Nat.zero_le _
  · rw [wy_step hps p ⟨a, s⟩, baseW, if_neg (fun h => h0 h.1), Nat.zero_add, sum_mul, wy_step hps e ⟨a + b, s⟩]
    refine Nat.le_trans (sum_le fun x hx => ?_) (Nat.le_add_left _ _)
    obtain ⟨⟨w1, w2⟩, -⟩ := hps x hx
    by_cases ht : takB ⟨a, s⟩ x = true
    · have h2 := takB_iff.1 ht
      simp only at h2
      rw [if_pos ht, if_pos (takB_iff.2 (show x.lf = (s : Int) ∧ x.wd ≤ ((a + b : Nat) : Int) by omega))]
      have h3 := ih (a - x.wd.toNat) (by omega) b x.rt.toNat p e
      rw [show a - x.wd.toNat + b = a + b - x.wd.toNat by omega] at h3
      exact h3
    · rw [if_neg ht, Nat.zero_mul]
      exact Nat.zero_le _
theorem le_sq (n : Nat) : n ≤ n * n := by
  cases n with
  | zero => exact Nat.le_refl _
  | succ n => exact Nat.le_mul_of_pos_right _ (by omega)
theorem half_le {R : Rdg} (h : rdgE R = 0) (hs : R.st = R.en) {a : Nat} (ha : R.top.n = a + a) (p : Nat) : wy R.ps p ⟨a, R.top.p⟩ ≤ waysN R := by
  have hps := (rdgE_ridge h).2.2.2.2
  have h1 := wy_join hps a a R.top.p p R.en.toNat
  have h2 : wy R.ps R.en.toNat ⟨a, p⟩ = wy R.ps p ⟨a, R.en.toNat⟩ := wy_mirror hps (mir_of h) a p R.en.toNat
  have h3 : R.en.toNat = R.top.p := by rw [← hs]; rfl
  have h4 : waysN R = wy R.ps R.en.toNat ⟨a + a, R.top.p⟩ := by
    unfold waysN
    rw [← ha]
  rw [h2, h3] at h1
  rw [h4, h3]
  exact Nat.le_trans (le_sq _) h1
theorem mir_self {R : Rdg} (h : rdgE R = 0) {i : Nat} {x : Pce} (hx : R.ps[i]? = some x) (hm : x.mr = (i : Int)) : x.lf = x.rt := by
  obtain ⟨j, y, h1, h2, h3, h4, h5, h6⟩ := mir_of h i x hx
  obtain rfl : j = i := by omega
  rw [hx] at h2
  obtain rfl := Option.some.inj h2
  exact h5
theorem side_le {R : Rdg} (h : rdgE R = 0) (hs : R.st = R.en) {i : Nat} {x : Pce} (hx : R.ps[i]? = some x) (hm : x.mr = (i : Int)) {a : Nat} (ha : R.top.n = a + (x.wd.toNat + a)) : wy R.ps x.lf.toNat ⟨a, R.top.p⟩ ≤ waysN R := by
  have hps := (rdgE_ridge h).2.2.2.2
  have hxm := List.mem_of_getElem? hx
  obtain ⟨⟨w1, w2⟩, ⟨l1, l2⟩, -⟩ := hps x hxm
  have hlr := mir_self h hx hm
  have h1 := wy_join hps a (x.wd.toNat + a) R.top.p x.lf.toNat R.en.toNat
  have ht : takB ⟨x.wd.toNat + a, x.lf.toNat⟩ x = true := takB_iff.2 (by simp only; omega)
  have h2 := wy_kid hps R.en.toNat hxm ht
  have h5 : behG ⟨x.wd.toNat + a, x.lf.toNat⟩ x = ⟨a, x.lf.toNat⟩ := by simp only [behG]; rw [← hlr]; congr 1; omega
  rw [h5] at h2
  have h3 : R.en.toNat = R.top.p := by rw [← hs]; rfl
  have h4 : waysN R = wy R.ps R.en.toNat ⟨a + (x.wd.toNat + a), R.top.p⟩ := by
    unfold waysN
    rw [← ha]
  rw [wy_mirror hps (mir_of h) a x.lf.toNat R.en.toNat] at h2
  rw [h3] at h1 h2
  rw [h4, h3]
  exact Nat.le_trans (Nat.le_trans (le_sq _) (Nat.mul_le_mul_left _ h2)) h1

/-! ### How many rows are even -/
def sumTo (f : Nat → Nat) : Nat → Nat
  | 0 => 0
  | n + 1 => sumTo f n + f n
theorem sumTo_le {f : Nat → Nat} {M : Nat} (h : ∀ i, f i ≤ M) : ∀ n, sumTo f n ≤ M * n
  | 0 => Nat.zero_le _
  | n + 1 => by
    have h1 := sumTo_le h n
    have h2 := h n
    rw [sumTo, Nat.mul_add, Nat.mul_one]
    omega
def midN (R : Rdg) (p : Nat) : Nat := if R.top.n % 2 = 0 then wy R.ps p ⟨R.top.n / 2, R.top.p⟩ else 0
def sideC (R : Rdg) (i : Nat) (x : Pce) : Prop := x.mr = (i : Int) ∧ x.wd ≤ R.len ∧ (R.top.n - x.wd.toNat) % 2 = 0
instance (R : Rdg) (i : Nat) (x : Pce) : Decidable (sideC R i x) := by unfold sideC; infer_instance
def sideN (R : Rdg) (i : Nat) : Nat := match R.ps[i]? with | some x => if sideC R i x then wy R.ps x.lf.toNat ⟨(R.top.n - x.wd.toNat) / 2, R.top.p⟩ else 0 | none => 0
def evenN (R : Rdg) : Nat := if R.st = R.en then sumTo (midN R) 10 + sumTo (sideN R) R.ps.length else 0
theorem mid_le {R : Rdg} (h : waysE R = 0) (hs : R.st = R.en) (p : Nat) : midN R p ≤ MW := by
  unfold midN
  split
  · exact Nat.le_trans (half_le (waysE_zero h).1 hs (by omega) p) (waysE_zero h).2
  · exact Nat.zero_le _
theorem side_one {R : Rdg} (h : waysE R = 0) (hs : R.st = R.en) {i : Nat} {x : Pce} (hx : R.ps[i]? = some x) (hc : sideC R i x) : wy R.ps x.lf.toNat ⟨(R.top.n - x.wd.toNat) / 2, R.top.p⟩ ≤ MW := by
  obtain ⟨h1, h2, h3⟩ := hc
  have hro := rdgE_ridge (waysE_zero h).1
  have hl := hro.1
  obtain ⟨⟨w1, w2⟩, -⟩ := hro.2.2.2.2 x (List.mem_of_getElem? hx)
  refine Nat.le_trans (side_le (waysE_zero h).1 hs hx h1 ?_) (waysE_zero h).2
  have h4 : x.wd.toNat ≤ R.top.n := by simp only [Rdg.top]; omega
  omega
theorem sideN_le {R : Rdg} (h : waysE R = 0) (hs : R.st = R.en) (i : Nat) : sideN R i ≤ MW := by
  unfold sideN
  split
  · rename_i x hx
    split
    · rename_i hc
      exact side_one h hs hx hc
    · exact Nat.zero_le _
  · exact Nat.zero_le _

/-! ### halves -/
def halfR (R : Rdg) (n e : Nat) : Rdg := ⟨(n : Int), R.st, (e : Int), R.pa, R.pc, R.ps⟩
theorem halfR_ok {R : Rdg} (hR : R.ok) {n e : Nat} (hn : n ≤ 2000) (he : e ≤ 9) : (halfR R n e).ok := by
  obtain ⟨h1, h2, h3, h4, h5⟩ := hR
  exact ⟨by show 0 ≤ (n : Int) ∧ (n : Int) ≤ 2000; omega, h2, by show 0 ≤ (e : Int) ∧ (e : Int) ≤ 9; omega, h4, h5⟩
theorem halfR_top (R : Rdg) (n e : Nat) : (halfR R n e).top = ⟨n, R.top.p⟩ := by simp [Rdg.top, halfR]

set_option maxRecDepth 100000 in
set_option maxHeartbeats 8000000 in
theorem halves_any (R : Rdg) (n e : Nat) (w : World) (hR : R.ok) (hn : n ≤ 2000) (he : e ≤ 9) (hrow : IsPcs w R.pa R.pc R.ps) (hM : wy R.ps e ⟨n, R.top.p⟩ ≤ MW) :
    Calls Try.prog 86 #[.agg #[.int .i64 R.len, .int .i64 R.st, .int .i64 R.en, .slice R.pa R.ps.length R.pc], .int .i64 (n : Int), .int .i64 (e : Int)] w fun x w' => x = .returned (.int .i64 (wy R.ps e ⟨n, R.top.p⟩ : Int)) ∧ Below w.heap.size w w' := by
  have k1 := Blk.new w 24 #[.int .i64 R.len, .int .i64 R.st, .int .i64 R.en, .slice R.pa R.ps.length R.pc]
  have hb1 : Below w.heap.size w (w.alloc (.cells #[.int .i64 R.len, .int .i64 R.st, .int .i64 R.en, .slice R.pa R.ps.length R.pc] 24)) := (Below.refl _ w).alloc (Nat.le_refl _) _
  have hro' := halfR_ok hR hn he
  have HRO := Lib.hid hro'
  have HRR := Lib.hid hR
  have HROW := Lib.hid hrow
  clear hR hrow hro'
  go_enter Try.func86, Try.ntmps86
  go_upto_region 1 with fail
  obtain ⟨r0, r1, r2, r3⟩ := rdg_cells (R := R) k1
  have z0 := k1.frozen 0
  have z2 := k1.frozen 2
  have hlr := k1.lt
  have KK := Lib.hid k1
  have HB1 := Lib.hid hb1
  clear k1 hb1
  generalize w.alloc (.cells #[.int .i64 R.len, .int .i64 R.st, .int .i64 R.en, .slice R.pa R.ps.length R.pc] 24) = w1 at *
  go_upto_region 2 with fail
  have kf := (KK.out.set 0 (.int .i64 (n : Int))).set 2 (.int .i64 (e : Int))
  simp only [List.setIfInBounds_toArray, List.set_cons_zero, List.set_cons_succ] at kf
  have hbf := (HB1.out.setCell (p := ⟨w.heap.size, 0, none⟩) (by simp) (.int .i64 (n : Int))).setCell (p := ⟨w.heap.size, 2, none⟩) (by simp) (.int .i64 (e : Int))
  clear r0 r1 r2 r3 z0 z2 hlr
  generalize (w1.setCell ⟨w.heap.size, 0, none⟩ (.int .i64 (n : Int))).setCell ⟨w.heap.size, 2, none⟩ (.int .i64 (e : Int)) = w2 at *
  have KF := Lib.hid kf
  have HBF := Lib.hid hbf
  have hcl : ∀ W, Below w2.heap.size w2 W → (fun w' : World => w'.cell? ⟨w.heap.size, 0, none⟩ = some (.int .i64 (n : Int)) ∧ w'.cell? ⟨w.heap.size, 1, none⟩ = some (.int .i64 R.st) ∧ w'.cell? ⟨w.heap.size, 2, none⟩ = some (.int .i64 (e : Int)) ∧ w'.cell? ⟨w.heap.size, 3, none⟩ = some (.slice R.pa R.ps.length R.pc)) W := fun W h => rdg_cells (R := halfR R n e) (KF.out.belowS h)
  have HCL := Lib.hid hcl
  have hx : (fun w' : World => w'.cell? ⟨w.heap.size, 0, none⟩ = some (.int .i64 (n : Int)) ∧ w'.cell? ⟨w.heap.size, 1, none⟩ = some (.int .i64 R.st) ∧ w'.cell? ⟨w.heap.size, 2, none⟩ = some (.int .i64 (e : Int)) ∧ w'.cell? ⟨w.heap.size, 3, none⟩ = some (.slice R.pa R.ps.length R.pc)) w2.drew := hcl _ (Below.refl _ _).drew
  have hrow2 := HROW.out.belowS hbf
  have HROW2 := Lib.hid hrow2
  clear kf hbf hcl hrow2
  have HST := Lib.hid (show R.st = (R.top.p : Int) by have := HRR.out.2.1; simp only [Rdg.top]; omega)
  refine wp_region_E 6 (fun w' => w'.cell? ⟨w.heap.size, 0, none⟩ = some (.int .i64 (n : Int)) ∧ w'.cell? ⟨w.heap.size, 1, none⟩ = some (.int .i64 R.st) ∧ w'.cell? ⟨w.heap.size, 2, none⟩ = some (.int .i64 (e : Int)) ∧ w'.cell? ⟨w.heap.size, 3, none⟩ = some (.slice R.pa R.ps.length R.pc)) (by kernel_rfl) ?_
  refine E_takeR (i := 0) (oi := _) (v := ?v1) rfl (by kernel_rfl) (by kernel_rfl) (by kernel_rfl) (by decide) (fun _ _ _ h => h) hx (Or.inl ⟨by rfl, ?y1⟩) ?r1
  case y1 => (intro w' hSw; (try dsimp only at hSw); go_simp; try with_reducible rfl)
  try simp only [Act.put, List.getElem_toArray, List.getElem_cons_zero, List.getElem_cons_succ, List.setIfInBounds_toArray, List.set_cons_zero, List.set_cons_succ]
  refine E_takeR (i := 1) (oi := _) (v := ?v2) rfl (by kernel_rfl) (by kernel_rfl) (by kernel_rfl) (by decide) (fun _ _ _ h => h) hx (Or.inl ⟨by rfl, ?y2⟩) ?r2
  case y2 => (intro w' hSw; (try dsimp only at hSw); go_simp; try with_reducible rfl)
  try simp only [Act.put, List.getElem_toArray, List.getElem_cons_zero, List.getElem_cons_succ, List.setIfInBounds_toArray, List.set_cons_zero, List.set_cons_succ]
  refine E_step (i := 2) (o := _) (by kernel_rfl) rfl (fun K hK => ?_)
  go_simp
  have hc : Calls Try.prog 83 #[.agg #[.int .i64 (n : Int), .int .i64 R.st, .int .i64 (e : Int), .slice R.pa R.ps.length R.pc]] w2.drew (CountSaid R.ps ⟨n, R.top.p⟩ e w2.drew) := by
    have h0 := count_any ⟨n, R.top.p⟩ e R.pa R.pc R.ps w2.drew ⟨hn, HRR.out.top.2⟩ he HRR.out.2.2.2.2 HRR.out.2.2.2.1 (HROW2.out.belowS (Below.refl _ _).drew)
    rw [show (((⟨n, R.top.p⟩ : Gp).p : Nat) : Int) = R.st from HST.out.symm] at h0
    exact h0
  have HC := Lib.hid hc
  clear hc
  refine HC.out.mono ?_
  rintro x w3 ⟨h, hb3⟩
  rcases h with ⟨-, B, f, rfl, hB, hT, hf⟩ | ⟨hbad, -⟩
  rotate_left
  · exact absurd hM (by omega)
  dsimp only
  have hb23 := (Below.refl w2.heap.size w2).drew.trans hb3
  have hx3 := HCL.out w3 hb23
  refine hK.out _ _ (fun h => hx3) ?_
  clear hK K hx HC
  try simp only [Act.put, List.getElem_toArray, List.getElem_cons_zero, List.getElem_cons_succ, List.setIfInBounds_toArray, List.set_cons_zero, List.set_cons_succ]
  refine E_step (i := 3) (o := _) (by kernel_rfl) rfl (fun K hK => ?_)
  go_simp
  refine hK.out _ _ (fun h => hx3) ?_
  clear hK K
  try simp only [Act.put, List.getElem_toArray, List.getElem_cons_zero, List.getElem_cons_succ, List.setIfInBounds_toArray, List.set_cons_zero, List.set_cons_succ]
  refine E_step (i := 4) (o := _) (by kernel_rfl) rfl (fun K hK => ?_)
  go_simp
  refine (all_any (halfR R n e) B f w3 HRO.out hT).mono ?_
  rintro x w4 ⟨rfl, hb4⟩
  dsimp only
  have hb24 := hb23.trans (hb4.mono hb23.size)
  have hx4 := HCL.out w4 hb24
  refine hK.out _ _ (fun h => hx4) ?_
  clear hK K
  try simp only [Act.put, List.getElem_toArray, List.getElem_cons_zero, List.getElem_cons_succ, List.setIfInBounds_toArray, List.set_cons_zero, List.set_cons_succ]
  have hv : f (halfR R n e).top.ix = (wy R.ps e ⟨n, R.top.p⟩ : Int) := by rw [halfR_top]; exact hf _ .top
  rw [hv]
  refine E_step (i := 5) (o := _) (by kernel_rfl) rfl (fun K hK => ?_)
  go_simp
  refine hK.out _ _ (fun h => hx4) ?_
  clear hK K
  try simp only [Act.put, List.getElem_toArray, List.getElem_cons_zero, List.getElem_cons_succ, List.setIfInBounds_toArray, List.set_cons_zero, List.set_cons_succ]
  refine E_done (by kernel_rfl) ?_ _
  have HBZ := Lib.hid (HBF.out.trans (hb24.mono HBF.out.size))
  clear hx3 hx4 hb3 hb4 hb23 hb24
  go_wp2_with fail
  go_ret
  exact ⟨rfl, HBZ.out⟩

set_option maxRecDepth 100000 in
set_option maxHeartbeats 8000000 in
theorem refHalves_any (R : Rdg) (n e : Nat) (w : World) (hR : R.ok) (hn : n ≤ 2000) (he : e ≤ 9) (hrow : IsPcs w R.pa R.pc R.ps) (hM : wy R.ps e ⟨n, R.top.p⟩ ≤ MW) :
    Calls Try.prog 57 #[.agg #[.int .i64 R.len, .int .i64 R.st, .int .i64 R.en, .slice R.pa R.ps.length R.pc], .int .i64 (n : Int), .int .i64 (e : Int)] w fun x w' => x = .returned (.int .i64 (wy R.ps e ⟨n, R.top.p⟩ : Int)) ∧ Below w.heap.size w w' := by
  have k1 := Blk.new w 24 #[.int .i64 R.len, .int .i64 R.st, .int .i64 R.en, .slice R.pa R.ps.length R.pc]
  have hb1 : Below w.heap.size w (w.alloc (.cells #[.int .i64 R.len, .int .i64 R.st, .int .i64 R.en, .slice R.pa R.ps.length R.pc] 24)) := (Below.refl _ w).alloc (Nat.le_refl _) _
  have hro' := halfR_ok hR hn he
  have HRO := Lib.hid hro'
  have HRR := Lib.hid hR
  have HROW := Lib.hid hrow
  clear hR hrow hro'
  go_enter Try.func57, Try.ntmps57
  go_upto_region 1 with fail
  obtain ⟨r0, r1, r2, r3⟩ := rdg_cells (R := R) k1
  have z0 := k1.frozen 0
  have z2 := k1.frozen 2
  have hlr := k1.lt
  have KK := Lib.hid k1
  have HB1 := Lib.hid hb1
  clear k1 hb1
  generalize w.alloc (.cells #[.int .i64 R.len, .int .i64 R.st, .int .i64 R.en, .slice R.pa R.ps.length R.pc] 24) = w1 at *
  go_upto_region 2 with fail
  have kf := (KK.out.set 0 (.int .i64 (n : Int))).set 2 (.int .i64 (e : Int))
  simp only [List.setIfInBounds_toArray, List.set_cons_zero, List.set_cons_succ] at kf
  have hbf := (HB1.out.setCell (p := ⟨w.heap.size, 0, none⟩) (by simp) (.int .i64 (n : Int))).setCell (p := ⟨w.heap.size, 2, none⟩) (by simp) (.int .i64 (e : Int))
  clear r0 r1 r2 r3 z0 z2 hlr
  generalize (w1.setCell ⟨w.heap.size, 0, none⟩ (.int .i64 (n : Int))).setCell ⟨w.heap.size, 2, none⟩ (.int .i64 (e : Int)) = w2 at *
  have KF := Lib.hid kf
  have HBF := Lib.hid hbf
  have hcl : ∀ W, Below w2.heap.size w2 W → (fun w' : World => w'.cell? ⟨w.heap.size, 0, none⟩ = some (.int .i64 (n : Int)) ∧ w'.cell? ⟨w.heap.size, 1, none⟩ = some (.int .i64 R.st) ∧ w'.cell? ⟨w.heap.size, 2, none⟩ = some (.int .i64 (e : Int)) ∧ w'.cell? ⟨w.heap.size, 3, none⟩ = some (.slice R.pa R.ps.length R.pc)) W := fun W h => rdg_cells (R := halfR R n e) (KF.out.belowS h)
  have HCL := Lib.hid hcl
  have hx : (fun w' : World => w'.cell? ⟨w.heap.size, 0, none⟩ = some (.int .i64 (n : Int)) ∧ w'.cell? ⟨w.heap.size, 1, none⟩ = some (.int .i64 R.st) ∧ w'.cell? ⟨w.heap.size, 2, none⟩ = some (.int .i64 (e : Int)) ∧ w'.cell? ⟨w.heap.size, 3, none⟩ = some (.slice R.pa R.ps.length R.pc)) w2.drew := hcl _ (Below.refl _ _).drew
  have hrow2 := HROW.out.belowS hbf
  have HROW2 := Lib.hid hrow2
  clear kf hbf hcl hrow2
  have HST := Lib.hid (show R.st = (R.top.p : Int) by have := HRR.out.2.1; simp only [Rdg.top]; omega)
  have htp : R.top.p ≤ 9 := HRR.out.top.2
  refine wp_region_E 9 (fun w' => w'.cell? ⟨w.heap.size, 0, none⟩ = some (.int .i64 (n : Int)) ∧ w'.cell? ⟨w.heap.size, 1, none⟩ = some (.int .i64 R.st) ∧ w'.cell? ⟨w.heap.size, 2, none⟩ = some (.int .i64 (e : Int)) ∧ w'.cell? ⟨w.heap.size, 3, none⟩ = some (.slice R.pa R.ps.length R.pc)) (by kernel_rfl) ?_
  refine E_takeR (i := 0) (oi := _) (v := ?v3) rfl (by kernel_rfl) (by kernel_rfl) (by kernel_rfl) (by decide) (fun _ _ _ h => h) hx (Or.inl ⟨by rfl, ?y3⟩) ?r3
  case y3 => (intro w' hSw; (try dsimp only at hSw); go_simp; try with_reducible rfl)
  try simp only [Act.put, List.getElem_toArray, List.getElem_cons_zero, List.getElem_cons_succ, List.setIfInBounds_toArray, List.set_cons_zero, List.set_cons_succ]
  refine E_takeR (i := 2) (oi := _) (v := ?v4) rfl (by kernel_rfl) (by kernel_rfl) (by kernel_rfl) (by decide) (fun _ _ _ h => h) hx (Or.inl ⟨by rfl, ?y4⟩) ?r4
  case y4 => (intro w' hSw; (try dsimp only at hSw); go_simp; try with_reducible rfl)
  try simp only [Act.put, List.getElem_toArray, List.getElem_cons_zero, List.getElem_cons_succ, List.setIfInBounds_toArray, List.set_cons_zero, List.set_cons_succ]
  refine E_takeR (i := 3) (oi := _) (v := ?v5) rfl (by kernel_rfl) (by kernel_rfl) (by kernel_rfl) (by decide) (fun _ _ _ h => h) hx (Or.inl ⟨by rfl, ?y5⟩) ?r5
  case y5 => (intro w' hSw; (try dsimp only at hSw); go_simp; try with_reducible rfl)
  try simp only [Act.put, List.getElem_toArray, List.getElem_cons_zero, List.getElem_cons_succ, List.setIfInBounds_toArray, List.set_cons_zero, List.set_cons_succ]
  refine E_takeR (i := 4) (oi := _) (v := ?v6) rfl (by kernel_rfl) (by kernel_rfl) (by kernel_rfl) (by decide) (fun _ _ _ h => h) hx (Or.inl ⟨by rfl, ?y6⟩) ?r6
  case y6 => (intro w' hSw; (try dsimp only at hSw); go_simp; try with_reducible rfl)
  try simp only [Act.put, List.getElem_toArray, List.getElem_cons_zero, List.getElem_cons_succ, List.setIfInBounds_toArray, List.set_cons_zero, List.set_cons_succ]
  refine E_step (i := 1) (o := _) (by kernel_rfl) rfl (fun K hK => ?_)
  go_simp
  refine (refTable_any (halfR R n e) w2.drew HRO.out (HROW2.out.belowS (Below.refl _ _).drew)).mono ?_
  rintro x w3 ⟨B, rfl, hB, hT, hb3⟩
  dsimp only
  have hb23 := (Below.refl w2.heap.size w2).drew.trans hb3
  have hx3 := HCL.out w3 hb23
  refine hK.out _ _ (fun h => hx3) ?_
  clear hK K hx
  try simp only [Act.put, List.getElem_toArray, List.getElem_cons_zero, List.getElem_cons_succ, List.setIfInBounds_toArray, List.set_cons_zero, List.set_cons_succ]
  have tc := hT.cell (i := n * 10 + R.top.p) (by rw [halfR_top]; show n * 10 + R.top.p < (n + 1) * 10; omega)
  rw [show tabF (halfR R n e).ps (halfR R n e).en.toNat ((halfR R n e).top.n + 1) 0 (n * 10 + R.top.p) = (wy R.ps e ⟨n, R.top.p⟩ : Int) by
    rw [halfR_top]
    have h1 := tab_whole (ps := R.ps) (en := e) (n := n) (g := ⟨n, R.top.p⟩) (by show R.top.p < 10; omega) (Nat.le_refl _)
    rw [capN_le hM] at h1
    exact h1] at tc
  have tl := hT.lt
  rw [show (halfR R n e).top.n = n by rw [halfR_top]]
  rw [HST.out]
  have i1 : (n : Int) < (n : Int) + 1 := by omega
  have i2 : (R.top.p : Int) < 10 := by omega
  have i3 : (0 : Int) ≤ (n : Int) := Int.natCast_nonneg _
  have i4 : (0 : Int) ≤ (R.top.p : Int) := Int.natCast_nonneg _
  rw [HST.out] at hx3
  refine E_step (i := 5) (o := _) (by kernel_rfl) rfl (fun K hK => ?_)
  go_simp
  refine hK.out _ _ (fun h => hx3) ?_
  clear hK K
  try simp only [Act.put, List.getElem_toArray, List.getElem_cons_zero, List.getElem_cons_succ, List.setIfInBounds_toArray, List.set_cons_zero, List.set_cons_succ]
  refine E_step (i := 6) (o := _) (by kernel_rfl) rfl (fun K hK => ?_)
  go_simp
  refine hK.out _ _ (fun h => hx3) ?_
  clear hK K
  try simp only [Act.put, List.getElem_toArray, List.getElem_cons_zero, List.getElem_cons_succ, List.setIfInBounds_toArray, List.set_cons_zero, List.set_cons_succ]
  refine E_step (i := 7) (o := _) (by kernel_rfl) rfl (fun K hK => ?_)
  go_simp
  refine hK.out _ _ (fun h => hx3) ?_
  clear hK K
  try simp only [Act.put, List.getElem_toArray, List.getElem_cons_zero, List.getElem_cons_succ, List.setIfInBounds_toArray, List.set_cons_zero, List.set_cons_succ]
  refine E_step (i := 8) (o := _) (by kernel_rfl) rfl (fun K hK => ?_)
  go_simp
  refine hK.out _ _ (fun h => hx3) ?_
  clear hK K
  try simp only [Act.put, List.getElem_toArray, List.getElem_cons_zero, List.getElem_cons_succ, List.setIfInBounds_toArray, List.set_cons_zero, List.set_cons_succ]
  refine E_done (by kernel_rfl) ?_ _
  have HBZ := Lib.hid (HBF.out.trans (hb23.mono HBF.out.size))
  clear hx3 hb3 hb23 tc tl
  go_wp2_with fail
  go_ret
  exact ⟨rfl, HBZ.out⟩
end Go.Proofs.Ytmcmhgjlpffcnaa
