/- The parts of RoofLaid: twiceArea, Areas; the mathematics of a face in its own measure; less, bounds, the law's area; rows in memory. -/
import Derived.Test.YtpheaomlphggfaaD
import Derived.Test.YtpheaomlphggfaaZT
import Derived.StillTailTactics
import Derived.Deep.AppendLies
import Derived.Deep.QuietTactic
import Derived.BigQuiet
namespace Go.Proofs.Ytpheaomlphggfaa
open Go.RowKit

/-! ### twiceArea: twice the area of an outline in plan. -/
section
open Go.Shelf
attribute [local go_sem] Oper.semAt_some

/-- What an edge adds to twice the area. -/
def Edg.cr (e : Edg) : Int := e.a.x * e.b.y - e.b.x * e.a.y
def crS (l : List Pnt) (pre : List (Fin l.length)) : Int := (pre.map fun k => (edgN l k.1).cr).sum
/-- Twice the area of an outline. -/
def area2 (l : List Pnt) : Int := crS l (List.finRange l.length)
theorem cr_bd {e : Edg} (h : e.ok) : -100000000 ≤ e.cr ∧ e.cr ≤ 100000000 := by
  obtain ⟨⟨⟨h1, h2⟩, h3, h4⟩, ⟨h5, h6⟩, h7, h8⟩ := h
  have b1 := mul_bd4 (a := e.a.x) (b := e.b.y) (by omega) (by omega) (by omega) (by omega)
  have b2 := mul_bd4 (a := e.b.x) (b := e.a.y) (by omega) (by omega) (by omega) (by omega)
  have c1 := Int.mul_nonneg h1 h7
  have c2 := Int.mul_nonneg h5 h3
  unfold Edg.cr
  omega
theorem crS_snoc (l : List Pnt) (pre : List (Fin l.length)) (x : Fin l.length) : crS l (pre ++ [x]) = crS l pre + (edgN l x.1).cr := by simp [crS]
theorem crS_bd {l : List Pnt} (h : okPts l) : ∀ pre : List (Fin l.length), -(100000000 * (pre.length : Int)) ≤ crS l pre ∧ crS l pre ≤ 100000000 * (pre.length : Int) := by
  intro pre
  induction pre with
  | nil => simp [crS]
  | cons x pre ih =>
    have hb := cr_bd (edgN_ok h x.1)
    have e : crS l (x :: pre) = (edgN l x.1).cr + crS l pre := by simp [crS]
    rw [e, List.length_cons]
    omega
theorem area2_bd {l : List Pnt} (h : okPts l) (hl : l.length ≤ 1000) : -100000000000 ≤ area2 l ∧ area2 l ≤ 100000000000 := by
  have := crS_bd h (List.finRange l.length)
  rw [List.length_finRange] at this
  unfold area2
  omega

set_option maxRecDepth 100000 in
set_option maxHeartbeats 2000000 in
theorem twiceArea_any (sa : Option Addr) (slen cap : Nat) (l : List Pnt) (w : World) (hs : IsPts w (.slice sa slen cap) l) (hl : l.length ≤ 1000) (hok : okPts l) :
    Calls Try.prog 53 #[.slice sa slen cap] w fun e w' => e = .returned (.int .i64 (area2 l)) ∧ Below w.heap.size w w' := by
  refine (callsIn_wide (n := 5)).1 ?_
  refine callsIn_of_wp_marks Try.func53 rfl trivial ?_ rfl
  simp only [Try.ntmps53, List.size_toArray, List.length_cons, List.length_nil, Nat.reduceAdd, Nat.reduceSub, Array.replicate_succ, Array.replicate_zero, List.push_toArray, List.append_toArray, List.nil_append, List.cons_append]
  gi_wp2_with (refine ⟨trivial, ?_⟩; gi_at_call 69; refine (callsIn_wide.2 (walk_any _ _ _ _)).mono ?_; rintro e w' ⟨rfl, rfl⟩)
  have bR : Blk ((w.alloc (.cells #[.int .i64 0] 3)).alloc (.cells #[.slice sa slen cap] 35)) w.heap.size #[.int .i64 0] 3 := (Blk.new w _ _).alloc _
  have bS := Blk.new (w.alloc (.cells #[.int .i64 0] 3)) 35 #[.slice sa slen cap]
  have hB : Below w.heap.size w ((w.alloc (.cells #[.int .i64 0] 3)).alloc (.cells #[.slice sa slen cap] 35)) := ((Below.refl _ w).alloc (Nat.le_refl _) _).alloc (by simp) _
  have hsz : ((w.alloc (.cells #[.int .i64 0] 3)).alloc (.cells #[.slice sa slen cap] 35)).heap.size = w.heap.size + 2 := by simp
  simp only [World.size_alloc] at bS
  have Hsz := Lib.hid hsz
  obtain ⟨W0, hW0⟩ : ∃ W0, ((w.alloc (.cells #[.int .i64 0] 3)).alloc (.cells #[.slice sa slen cap] 35)) = W0 := ⟨_, rfl⟩
  rw [hW0] at bR bS hB Hsz ⊢
  clear hsz hW0
  refine walk_law (n := 5) (by omega) (Bs := w.heap.size + 1) rfl (fun k => k < w.heap.size ∨ k = w.heap.size + 1) l hl (.inr rfl) (fun k hk => by have := Hsz.out; omega)
    (bS.cell 0) ?_ rfl
    (fun pre W => Blk W w.heap.size #[.int .i64 (crS l pre)] 3 ∧ Below w.heap.size w W)
    (fun _ _ _ => False)
    ((own_blk _ _ _ (fun pre => #[Value.int .i64 (crS l pre)])).and (ownFrom_below (Nat.le_refl _) (by have := Hsz.out; omega)))
    (fun c => ownFrom_pure _ (fun _ => False))
    ⟨bR, hB⟩
    (fun x Bx => { tmps := #[.slice sa slen cap, undef, .int .i64 0, .pointer (some ⟨w.heap.size, 0, none⟩), undef, .pointer (some ⟨Bx, 0, none⟩), .slice sa slen cap,
        .func (.func 106) #[] #[.pointer (some ⟨w.heap.size + 1, 0, none⟩)], .int .i64 (x.1 : Int), .agg (edgC (edgN l x.1)), undef, undef, undef, undef, undef, undef, undef, undef, undef, undef, undef, undef, undef, undef, undef, undef, undef, undef], defers := [] }) ?assign ?body ?done ?stop
  · rcases hs with ⟨h1, h2⟩ | ⟨b, off, c, h1, h2, h3, h4, h5⟩
    · exact .inl ⟨h1, h2⟩
    · exact .inr ⟨b, off, c, h1, .inl h2, h5.below hB h2⟩
  case assign =>
    intro L x W K hK
    unfold edgC encE at *
    gi_wp2
    exact hK
  case body =>
    rintro L pre x Bx W hBx hWs hE ⟨h2, h4⟩ hlt
    have e0 := hE.cell 0
    have e1 := hE.cell 1
    have e2 := hE.cell 2
    have e3 := hE.cell 3
    have r0 := h2.cell 0
    have f0 := h2.frozen 0
    have he := edgN_ok hok x.1
    simp only [edgC, List.getElem?_toArray, List.getElem?_cons_zero, List.getElem?_cons_succ] at e0 e1 e2 e3 r0
    simp only [edgC]
    have hlt1 := h2.lt
    have hcb := crS_bd hok pre
    have hsn := crS_snoc l pre x
    have HSN := Lib.hid hsn
    clear hsn
    generalize hEq : edgN l x.1 = E at *
    obtain ⟨⟨fx, fy⟩, ⟨tx, ty⟩⟩ := E
    simp only [Edg.ok, Pnt.ok] at he
    obtain ⟨⟨⟨y1, y2⟩, y3, y4⟩, ⟨y5, y6⟩, y7, y8⟩ := he
    have b1 := mul_bd4 (a := fx) (b := ty) (by omega) (by omega) (by omega) (by omega)
    have b2 := mul_bd4 (a := tx) (b := fy) (by omega) (by omega) (by omega) (by omega)
    generalize crS l pre = S0 at *
    simp only [] at e0 e1 e2 e3
    gi_wp2_with fail
    refine ⟨(KeepsOthers.setCell _ _ _).from _, ⟨by simp [World.setCell], fun k hk => Below.heap_setCell _ _ _ _ (fun e => by have := Hsz.out; simp at e; omega)⟩, ?_, h4.setCell (by simp) _⟩
    rw [HSN.out]
    exact h2.set 0 _
  case done =>
    rintro D W hD ⟨h2, h4⟩ hK
    have r2 := h2.cell 0
    simp only [List.getElem?_toArray, List.getElem?_cons_zero] at r2
    change _ = some (Value.int .i64 (area2 l)) at r2
    gi_wp2
    refine ⟨by simp, .inl ⟨_, _, rfl, run_takeDeferred hK, ?_⟩⟩
    exact ⟨.int .i64 (area2 l), by simp [results, Try.results53, go_sem], by rfl, below_putObj h4 _ (by have := Hsz.out; omega) h4.size⟩
  case stop =>
    rintro D c k W hD hk h hDef
    exact h.elim
end

/-! ### Areas: for each face twice the area of its outline less twice those of its openings. -/

/-- A row of numbers. -/
def rowI (n : Nat) (g : Nat → Int) : Array Value := ((List.range n).map fun k => Value.int .i64 (g k)).toArray
theorem rowI_at {n : Nat} {g : Nat → Int} {k : Nat} (h : k < n) : (rowI n g)[k]? = some (.int .i64 (g k)) := by simp [rowI, h]
theorem rowI_set (n : Nat) (g : Nat → Int) (j : Nat) (x : Int) : (rowI n g).setIfInBounds j (.int .i64 x) = rowI n (fun k => if k = j then x else g k) := by
  apply Array.ext_getElem?
  intro i
  rw [Array.getElem?_setIfInBounds]
  unfold rowI
  by_cases hi : i < n
  · by_cases hj : j = i
    · subst hj; simp [hi]
    · simp [hi, hj, show ¬ i = j from fun h => hj h.symm]
  · by_cases hj : j = i
    · subst hj; simp [hi]
    · simp [hi, hj]
theorem rowI_made (n : Nat) : madeCells (Value.int .i64 0).cells (n * 1) = rowI n (fun _ => 0) := by
  apply Array.ext_getElem?
  intro i
  unfold madeCells rowI
  by_cases hi : i < n
  · simp [hi, Value.cells, Nat.mod_one]
  · simp [hi, Value.cells]

/-- Twice what an opening takes. -/
def opA (o : Opn) : Int := 2 * (o.hi.x - o.lo.x) * (o.hi.y - o.lo.y)
def opS (os : List Opn) (i : Nat) : Int := ((os.filter fun o => o.face == (i : Int)).map opA).sum
theorem opS_snoc (os : List Opn) (o : Opn) (i : Nat) : opS (os ++ [o]) i = opS os i + if o.face = (i : Int) then opA o else 0 := by
  unfold opS
  rw [List.filter_append]
  by_cases h : o.face = (i : Int)
  · simp [h]
  · simp [h]
/-- Twice the area of a face, without its openings. -/
def areaF (fs : List Fac) (os : List Opn) (i : Nat) : Int := (match fs[i]? with | some f => area2 f.cs | none => 0) - opS os i

/-- An opening of a roof that may be. -/
structure Opn.fine (fs : List Fac) (o : Opn) : Prop where
  f0 : 0 ≤ o.face
  f1 : o.face < (fs.length : Int)
  x : o.lo.x < o.hi.x
  y : o.lo.y < o.hi.y
  lo : o.lo.ok
  hi : o.hi.ok
theorem opens_fine {R : Roo} (h : checkE R = 0) : R.os.length ≤ 12 ∧ ∀ o ∈ R.os, o.fine R.fs := by
  have hp := (checkE_parts h).2.1
  have hl : R.os.length ≤ 12 := by
    unfold checkE at h
    split at h
    · omega
    split at h
    · rename_i h2; exact absurd h h2
    split at h
    · omega
    omega
  refine ⟨hl, fun o ho => ?_⟩
  obtain ⟨i, hi, hio⟩ := List.getElem_of_mem ho
  have ho' : R.os[i]? = some o := by rw [List.getElem?_eq_getElem hi, hio]
  obtain ⟨f, h0, hfa, hall⟩ := opensE_at hp ho'
  have hz := firstNZ_all hp i hi
  rw [ho'] at hz
  simp only [] at hz
  unfold openE at hz
  have hlo := hall o.lo (by simp [opnPts])
  have hhi := hall o.hi (by simp [opnPts])
  unfold withinO at hlo hhi
  rw [Bool.and_eq_true] at hlo hhi
  have hlt := (List.getElem?_eq_some_iff.1 hfa).1
  refine ⟨h0, by omega, ?_, ?_, Pnt.okB_iff.1 hlo.1, Pnt.okB_iff.1 hhi.1⟩
  · split at hz; · omega
    split at hz; · omega
    split at hz; · omega
    split at hz; · omega
    omega
  · split at hz; · omega
    split at hz; · omega
    split at hz; · omega
    split at hz; · omega
    split at hz; · omega
    omega
theorem opA_bd {fs : List Fac} {o : Opn} (h : o.fine fs) : 0 ≤ opA o ∧ opA o ≤ 200000000 := by
  obtain ⟨_, _, h1, h2, ⟨⟨a, b⟩, c, d⟩, ⟨e, f⟩, g, i⟩ := h
  have b1 := mul_bd4 (a := o.hi.x - o.lo.x) (b := o.hi.y - o.lo.y) (by omega) (by omega) (by omega) (by omega)
  have b2 := Int.mul_nonneg (show 0 ≤ o.hi.x - o.lo.x by omega) (show 0 ≤ o.hi.y - o.lo.y by omega)
  unfold opA
  rw [Int.mul_assoc]
  omega
theorem opS_bd {fs : List Fac} {os : List Opn} (h : ∀ o ∈ os, o.fine fs) (i : Nat) : 0 ≤ opS os i ∧ opS os i ≤ 200000000 * (os.length : Int) := by
  induction os with
  | nil => simp [opS]
  | cons o os ih =>
    have hb := opA_bd (h o (by simp))
    have ih' := ih (fun o ho => h o (by simp [ho]))
    unfold opS at *
    rw [List.filter_cons, List.length_cons]
    split
    · simp only [List.map_cons, List.sum_cons]; omega
    · omega

theorem Blk.drew {W : World} {B : Nat} {cs : Array Value} {t : TypeId} (h : Blk W B cs t) : Blk W.drew B cs t := h.below (Below.refl _ _).drew h.lt
def baseA (fs : List Fac) (k : Nat) : Int := match fs[k]? with | some f => area2 f.cs | none => 0
theorem baseA_bd {fs : List Fac} (h : ∀ f ∈ fs, okPts f.cs ∧ f.cs.length ≤ 1000) (k : Nat) : -100000000000 ≤ baseA fs k ∧ baseA fs k ≤ 100000000000 := by
  unfold baseA
  split
  · rename_i f hf
    have := h f (List.mem_of_getElem? hf)
    exact area2_bd this.1 this.2
  · omega

/-- What Areas returns. -/
def AreasSaid (R : Roo) (w : World) (e : Ending) (w' : World) : Prop :=
  Below w.heap.size w w' ∧
    if ¬ checkE R = 0 then e = .returned (.tuple #[.slice none 0 0, .int .i64 (checkE R)]) else
      ∃ v, e = .returned (.tuple #[v, .int .i64 0]) ∧ IsInts w' v ((List.range R.fs.length).map (areaF R.fs R.os))

set_option maxRecDepth 100000 in
set_option maxHeartbeats 8000000 in
theorem areas_any (R : Roo) (w : World) (hR : IsRoof w R) :
    Calls Try.prog 25 #[.agg #[.slice R.fa R.fs.length R.fc, .slice R.oa R.os.length R.oc]] w (AreasSaid R w) := by
  obtain ⟨i0, hi, hz0, hz1, hz2⟩ := info_parts Try.info_int
  have hcheck := check_any R
  have hfaces := @checkE_faces R
  have hopens := @opens_fine R
  obtain ⟨fa, fc, fs, oa, oc, os⟩ := R
  simp only [] at hcheck hfaces hopens ⊢
  have hB : Below w.heap.size w (w.alloc (.cells #[.slice fa fs.length fc, .slice oa os.length oc] 25)) := (Below.refl _ _).alloc (Nat.le_refl _) _
  have kR := Blk.new w 25 #[.slice fa fs.length fc, .slice oa os.length oc]
  have HC := Lib.hid hcheck
  have HR := Lib.hid hR
  have HFA := Lib.hid hfaces
  have HOP := Lib.hid hopens
  clear hR hcheck hfaces hopens
  go_enter Try.func25, Try.ntmps25
  go_wp2_with fail
  refine (HC.out _ (HR.out.below hB)).mono ?_
  rintro e w1 ⟨rfl, hb1⟩
  have hB1 := hB.trans (hb1.mono hB.size)
  have kR1 := kR.belowS hb1
  clear kR hB hb1
  by_cases hE : checkE ⟨fa, fc, fs, oa, oc, os⟩ = 0
  · obtain ⟨hfl, hfok⟩ := HFA.out hE
    obtain ⟨hol, hofn⟩ := HOP.out hE
    try simp only [] at hfl hfok hol hofn
    have hmk := fun w => run_make (P := Try.prog) w 30 3 i0 (.int .i64 0) Try.underlying30 hi hz0 .i64 .i64 (fs.length : Int) (fs.length : Int) (by omega) (by omega) (by rw [hz2]; omega) (by omega)
    simp only [Int.toNat_natCast, hz1, rowI_made] at hmk
    have HFO := Lib.hid hfok
    have HON := Lib.hid hofn
    have c0 := kR1.cell 0
    have c1 := kR1.cell 1
    simp only [List.getElem?_toArray, List.getElem?_cons_zero, List.getElem?_cons_succ] at c0 c1
    have HE := Lib.hid hE
    clear hfok hofn
    rw [hE]
    clear hE
    have hz : ((0 : Int) == 0) = true := rfl
    have lR := kR1.lt
    go_wp2_with fail
    clear hmk hz
    have kA := Blk.new w1 3 (rowI fs.length (fun _ => 0))
    have kR2 := kR1.alloc (.cells (rowI fs.length (fun _ => 0)) 3)
    have hB2 : Below w.heap.size w (w1.alloc (.cells (rowI fs.length (fun _ => 0)) 3)) := hB1.alloc hB1.size _
    have hw1 := hB1.size
    have hW2 : Below w1.heap.size w1 (w1.alloc (.cells (rowI fs.length (fun _ => 0)) 3)) := (Below.refl _ _).alloc (Nat.le_refl _) _
    generalize w1.alloc (.cells (rowI fs.length (fun _ => 0)) 3) = W2 at *
    clear c0 c1 kR2
    go_loopw [22, 6, 7] (fun i _ _ wr => ∃ (j : Nat) (g : Nat → Int), j ≤ fs.length ∧ i = .int .i64 j ∧ Blk wr w1.heap.size (rowI fs.length g) 3 ∧ (∀ k, k < fs.length → g k = if k < j then baseA fs k else 0) ∧ Below w1.heap.size w1 wr) (fun i _ _ _ => fs.length - (intOf i).toNat)
    case atStart => exact ⟨0, fun _ => 0, Nat.zero_le _, rfl, kA, fun k _ => by simp, hW2⟩
    case round =>
      obtain ⟨j, g, hj, rfl, kA1, hg, g1⟩ := hrel
      have hB3 := hB1.trans (g1.mono hB1.size)
      have kR3 := kR1.belowS g1
      have HG := Lib.hid hg
      clear hg kA
      by_cases hlt : j < fs.length
      · have hq : fs[j]? = some fs[j] := List.getElem?_eq_getElem hlt
        obtain ⟨fb, fo, rfl, f2, f3, f4, hfa, hfin⟩ := (HR.out.below hB3).face hq
        simp only [] at f3 f4
        obtain ⟨d0, d1, d2, d3, d4, d5, d6⟩ := hfa
        obtain ⟨hokp, hclp⟩ := HFO.out _ (List.getElem_mem hlt)
        have hba : baseA fs j = area2 (fs[j]).cs := by unfold baseA; rw [hq]
        generalize fs[j] = F at *
        have HBA := Lib.hid hba
        have HFI := Lib.hid hfin
        have HOK := Lib.hid hokp
        have hj0 : (0 : Int) ≤ (j : Int) := Int.natCast_nonneg _
        have hj1 : (j : Int) < (fs.length : Int) := by omega
        clear hq hba hfin hokp
        have lA3 := kA1.lt
        have hbx : Below wr.heap.size wr (wr.alloc (.cells #[.string F.name, .int .i64 F.side, .int .i64 F.foot, .int .i64 F.base, .int .i64 F.rise, .int .i64 F.run, .slice F.ca F.cs.length F.cc] 37)) := (Below.refl _ _).alloc (Nat.le_refl _) _
        go_wp2_with fail
        refine (twiceArea_any F.ca F.cs.length F.cc F.cs _ (HFI.out.1.below hbx) hclp HOK.out).mono ?_
        rintro e w4 ⟨rfl, hb4⟩
        have hb4' := hbx.trans (hb4.mono hbx.size)
        have kA4 := kA1.belowS hb4'
        have a0 := (kA4.cell j).trans (rowI_at hlt)
        have a1 := kA4.frozen j
        have lA4 := kA4.lt
        clear d0 d1 d2 d3 d4 d5 d6
        go_wp2_with fail
        refine ⟨⟨j + 1, fun k => if k = j then area2 F.cs else g k, by omega, by simp, ?_, ?_, ?_⟩, by simp [intOf]; omega⟩
        · rw [← rowI_set]
          exact kA4.set j _
        · intro k hk
          by_cases hkj : k = j
          · subst hkj; simp [HBA.out]
          · simp only [hkj, if_false]
            rw [HG.out k hk]
            by_cases h1 : k < j
            · rw [if_pos h1, if_pos (by omega)]
            · rw [if_neg h1, if_neg (by omega)]
        · exact (g1.trans (hb4'.mono g1.size)).setCell (p := ⟨w1.heap.size, j, none⟩) (Nat.le_refl _) _
      · obtain rfl : j = fs.length := by omega
        have hg2 : ∀ k, k < fs.length → g k = baseA fs k := fun k hk => by rw [HG.out k hk, if_pos hk]
        have HG2 := Lib.hid hg2
        clear hg2 HG
        have c0 := kR3.cell 0
        have c1 := kR3.cell 1
        simp only [List.getElem?_toArray, List.getElem?_cons_zero, List.getElem?_cons_succ] at c0 c1
        go_wp2_with fail
        clear c0 c1
        obtain ⟨w0, rfl⟩ : ∃ w0 : World, w0 = wr := ⟨_, rfl⟩
        go_loopw [37, 9] (fun i _ wr => ∃ (t : Nat) (g : Nat → Int), t ≤ os.length ∧ i = .int .i64 t ∧ Blk wr w1.heap.size (rowI fs.length g) 3 ∧ (∀ k, k < fs.length → g k = baseA fs k - opS (os.take t) k) ∧ Below w1.heap.size w1 wr) (fun i _ _ => os.length - (intOf i).toNat)
        case atStart => exact ⟨0, g, Nat.zero_le _, rfl, kA1, fun k hk => by rw [HG2.out k hk]; simp [opS], g1⟩
        case round =>
          clear kA1 g1 hB3 kR3 hj hlt
          obtain ⟨t, g, ht, rfl, kA1, hg, g1⟩ := hrel
          have hB3 := hB1.trans (g1.mono hB1.size)
          have HG := Lib.hid hg
          clear hg HG2
          by_cases hlt : t < os.length
          · have hq : os[t]? = some os[t] := List.getElem?_eq_getElem hlt
            obtain ⟨ob, oo, rfl, f2, f3, f4, hoa, _⟩ := (HR.out.below hB3).opn hq
            simp only [] at f3 f4
            obtain ⟨d0, d1, d2, d3, d4, d5⟩ := hoa
            have hfine := HON.out _ (List.getElem_mem hlt)
            have htk : os.take (t + 1) = os.take t ++ [os[t]] := by rw [List.take_add_one, hq]; rfl
            generalize os[t] = O at *
            have hopb := opA_bd hfine
            obtain ⟨y0, y1, y2, y3, ⟨⟨y4, y5⟩, y6, y7⟩, ⟨y8, y9⟩, y10, y11⟩ := hfine
            obtain ⟨on, oface, ⟨lx, ly⟩, ⟨hx, hy⟩⟩ := O
            simp only [] at d0 d1 d2 d3 d4 d5 y0 y1 y2 y3 y4 y5 y6 y7 y8 y9 y10 y11
            obtain ⟨m, rfl⟩ : ∃ m : Nat, oface = (m : Int) := ⟨oface.toNat, by omega⟩
            have hml : m < fs.length := by omega
            have a0 := (kA1.cell m).trans (rowI_at hml)
            have a1 := kA1.frozen m
            have hgm := HG.out m hml
            have hbb := baseA_bd HFO.out m
            have hob := opS_bd (os := os.take t) (fun o ho => HON.out o (List.mem_of_mem_take ho)) m
            rw [List.length_take] at hob
            have hgb : -200000000000 ≤ g m ∧ g m ≤ 200000000000 := by rw [hgm]; omega
            have b1 := mul_bd (a := 2 * (hx - lx)) (b := hy - ly) (m := 20000) (n := 10000) (by omega) (by omega) (by omega) (by omega)
            have HTK := Lib.hid htk
            have lA1 := kA1.lt
            have ht0 : (0 : Int) ≤ (t : Int) := Int.natCast_nonneg _
            have ht1 : (t : Int) < (os.length : Int) := by omega
            clear hq htk hgm hbb hob hopb
            go_wp2_with fail
            have hbx : Below wr.heap.size wr (wr.alloc (.cells #[.string on, .int .i64 (m : Int), .int .i64 lx, .int .i64 ly, .int .i64 hx, .int .i64 hy] 43)) := (Below.refl _ _).alloc (Nat.le_refl _) _
            have kO := Blk.new wr 43 #[.string on, .int .i64 (m : Int), .int .i64 lx, .int .i64 ly, .int .i64 hx, .int .i64 hy]
            have kA2 := kA1.belowS hbx
            have hg2 := g1.trans (hbx.mono g1.size)
            generalize wr.alloc (.cells #[.string on, .int .i64 (m : Int), .int .i64 lx, .int .i64 ly, .int .i64 hx, .int .i64 hy] 43) = W3 at *
            have o1 := kO.cell 1
            have o2 := kO.cell 2
            have o3 := kO.cell 3
            have o4 := kO.cell 4
            have o5 := kO.cell 5
            simp only [List.getElem?_toArray, List.getElem?_cons_zero, List.getElem?_cons_succ] at o1 o2 o3 o4 o5
            have a2 := (kA2.cell m).trans (rowI_at hml)
            have a3 := kA2.frozen m
            clear a0 a1 d0 d1 d2 d3 d4 d5 kO
            go_still_tail 23, (by kernel_rfl)
            change wpList _ _ _ _ _ W3.drew
            have hg3 := hg2.drew
            have kA3 := kA2.drew
            generalize W3.drew = W4 at *
            have a4 := (kA3.cell m).trans (rowI_at hml)
            have a5 := kA3.frozen m
            go_wp2_with fail
            refine ⟨⟨t + 1, fun k => if k = m then g m - 2 * (hx - lx) * (hy - ly) else g k, by omega, by simp, ?_, ?_, ?_⟩, by simp [intOf]; omega⟩
            · rw [← rowI_set]
              exact kA3.set m _
            · intro k hk
              rw [HTK.out, opS_snoc]
              simp only [opA]
              by_cases hkm : k = m
              · subst hkm
                simp only [if_true]
                rw [HG.out k hk]
                omega
              · rw [if_neg hkm, if_neg (by omega), HG.out k hk]
                omega
            · exact hg3.setCell (p := ⟨w1.heap.size, m, none⟩) (Nat.le_refl _) _
          · obtain rfl : t = os.length := by omega
            rw [List.take_length] at HG
            have hg2 := HG.out
            have HG2 := Lib.hid hg2
            clear hg2 HG
            go_wp2_with fail
            go_ret2
            refine ⟨hB3, ?_⟩
            rw [if_neg (fun h => h HE.out)]
            refine ⟨.slice (some ⟨w1.heap.size, 0, none⟩) fs.length fs.length, rfl, .inr ⟨w1.heap.size, 0, fs.length, by rw [List.length_map, List.length_range], kA1.lt, by rw [List.length_map, List.length_range]; exact Nat.le_refl _, by omega, ?_⟩⟩
            intro k x hk
            have hkl : k < fs.length := by
              have := (List.getElem?_eq_some_iff.1 hk).1
              rwa [List.length_map, List.length_range] at this
            rw [Nat.zero_add, kA1.cell k, rowI_at hkl, HG2.out k hkl]
            simp only [List.getElem?_map, List.getElem?_range hkl, Option.map_some, Option.some.injEq] at hk
            rw [← hk]
            rfl
  · generalize hEE : checkE ⟨fa, fc, fs, oa, oc, os⟩ = E
    rw [hEE] at hE
    have HEE := Lib.hid hEE
    have HE := Lib.hid hE
    have hz : (E == 0) = false := by simp [hE]
    have hz' : (E != 0) = true := by simp [hE]
    clear hE hEE
    go_wp2_with fail
    go_ret2
    refine ⟨hB1, ?_⟩
    rw [HEE.out, if_pos HE.out]
    rfl

/-! ### RoofLaid's mathematics: areas, least corners and heights of a face in its own measure. -/

theorem sumR_congr {n : Nat} {f g : Nat → Int} (h : ∀ k, k < n → f k = g k) : ((List.range n).map f).sum = ((List.range n).map g).sum := by
  congr 1
  exact List.map_congr_left (fun k hk => h k (List.mem_range.1 hk))
theorem sumR_succ (n : Nat) (f : Nat → Int) : ((List.range (n + 1)).map f).sum = ((List.range n).map f).sum + f n := by rw [List.range_succ]; simp
theorem sumR_add (n : Nat) (f g : Nat → Int) : ((List.range n).map fun k => f k + g k).sum = ((List.range n).map f).sum + ((List.range n).map g).sum := by
  induction n with
  | zero => rfl
  | succ n ih => rw [sumR_succ, sumR_succ, sumR_succ, ih]; omega
theorem sumR_mul (n : Nat) (c : Int) (f : Nat → Int) : ((List.range n).map fun k => c * f k).sum = c * ((List.range n).map f).sum := by
  induction n with
  | zero => simp
  | succ n ih => rw [sumR_succ, sumR_succ, ih, Int.mul_add]
theorem sumR_tele (n : Nat) (h : Nat → Int) : ((List.range n).map fun k => h (k + 1) - h k).sum = h n - h 0 := by
  induction n with
  | zero => simp
  | succ n ih => rw [sumR_succ, ih]; omega
/-- Round a ring all steps together come to nothing. -/
theorem sumR_ring (n : Nat) (h : Nat → Int) : ((List.range n).map fun k => h ((k + 1) % n) - h k).sum = 0 := by
  cases n with
  | zero => rfl
  | succ m =>
    rw [sumR_succ, Nat.mod_self]
    rw [sumR_congr (g := fun k => h (k + 1) - h k) (fun k hk => by rw [Nat.mod_eq_of_lt (by omega)])]
    rw [sumR_tele]
    omega
theorem area2_range (l : List Pnt) : area2 l = ((List.range l.length).map fun k => (edgN l k).cr).sum := by
  unfold area2 crS
  rw [← finRange_map, List.map_map]
  rfl
theorem edgN_map (f : Pnt → Pnt) (l : List Pnt) (k : Nat) (hk : k < l.length) : edgN (l.map f) k = ⟨f (edgN l k).a, f (edgN l k).b⟩ := by
  have hk2 : (k + 1) % l.length < l.length := Nat.mod_lt _ (by omega)
  unfold edgN
  simp [hk, hk2]
/-- A point in the own measure of a side. -/
def ownP (s : Int) (p : Pnt) : Pnt := ⟨ownU s p, ownV s p⟩
def subP (c p : Pnt) : Pnt := ⟨p.x - c.x, p.y - c.y⟩
theorem cr_own (s : Int) (a b : Pnt) : (Edg.mk (ownP s a) (ownP s b)).cr = (Edg.mk a b).cr := by
  unfold Edg.cr ownP ownU ownV
  simp only []
  split
  · rfl
  split
  · rw [Int.mul_neg, Int.mul_neg, Int.mul_comm a.y b.x, Int.mul_comm b.y a.x]; omega
  split
  · rw [Int.neg_mul_neg, Int.neg_mul_neg]
  · rw [Int.neg_mul, Int.neg_mul, Int.mul_comm a.y b.x, Int.mul_comm b.y a.x]; omega
theorem area2_own (s : Int) (l : List Pnt) : area2 (l.map (ownP s)) = area2 l := by
  rw [area2_range, area2_range, List.length_map]
  refine sumR_congr (fun k hk => ?_)
  rw [edgN_map _ _ _ hk, cr_own]
theorem cr_sub (c a b : Pnt) : (Edg.mk (subP c a) (subP c b)).cr = (Edg.mk a b).cr + (c.y * (b.x - a.x) + (-c.x) * (b.y - a.y)) := by
  unfold Edg.cr subP
  simp only [Int.sub_mul, Int.mul_sub, Int.neg_mul]
  rw [Int.mul_comm c.y b.x, Int.mul_comm c.y a.x, Int.mul_comm c.x b.y, Int.mul_comm c.x a.y, Int.mul_comm c.x c.y, Int.mul_comm a.y c.x, Int.mul_comm b.y c.x] <;> omega
theorem area2_sub (c : Pnt) (l : List Pnt) : area2 (l.map (subP c)) = area2 l := by
  rw [area2_range, area2_range, List.length_map]
  have h1 : ∀ k, k < l.length → (edgN (l.map (subP c)) k).cr = (edgN l k).cr + (c.y * ((l[(k + 1) % l.length]?.getD ⟨0, 0⟩).x - (l[k]?.getD ⟨0, 0⟩).x) + (-c.x) * ((l[(k + 1) % l.length]?.getD ⟨0, 0⟩).y - (l[k]?.getD ⟨0, 0⟩).y)) := fun k hk => by
    rw [edgN_map _ _ _ hk, cr_sub]
    rfl
  rw [sumR_congr h1, sumR_add, sumR_add, sumR_mul, sumR_mul]
  have r1 := sumR_ring l.length (fun k => (l[k]?.getD ⟨0, 0⟩).x)
  have r2 := sumR_ring l.length (fun k => (l[k]?.getD ⟨0, 0⟩).y)
  rw [r1, r2]
  simp

/-! ### The least box -/
def loP (a : Pnt) (l : List Pnt) : Pnt := l.foldl (fun m p => ⟨min m.x p.x, min m.y p.y⟩) a
def hiP (a : Pnt) (l : List Pnt) : Pnt := l.foldl (fun m p => ⟨max m.x p.x, max m.y p.y⟩) a
theorem loP_snoc (a p : Pnt) (l : List Pnt) : loP a (l ++ [p]) = ⟨min (loP a l).x p.x, min (loP a l).y p.y⟩ := by simp [loP]
theorem hiP_snoc (a p : Pnt) (l : List Pnt) : hiP a (l ++ [p]) = ⟨max (hiP a l).x p.x, max (hiP a l).y p.y⟩ := by simp [hiP]
def Pnt.near (m : Int) (p : Pnt) : Prop := (-m ≤ p.x ∧ p.x ≤ m) ∧ -m ≤ p.y ∧ p.y ≤ m
theorem loP_near {m : Int} : ∀ (l : List Pnt) (a : Pnt), a.near m → (∀ p ∈ l, p.near m) → (loP a l).near m
  | [], a, h, _ => h
  | p :: l, a, h, hl => by
    have hp := hl p (by simp)
    refine loP_near l _ ?_ (fun q hq => hl q (by simp [hq]))
    obtain ⟨⟨h1, h2⟩, h3, h4⟩ := h
    obtain ⟨⟨h5, h6⟩, h7, h8⟩ := hp
    exact ⟨⟨by simp only []; omega, by simp only []; omega⟩, by simp only []; omega, by simp only []; omega⟩
theorem hiP_near {m : Int} : ∀ (l : List Pnt) (a : Pnt), a.near m → (∀ p ∈ l, p.near m) → (hiP a l).near m
  | [], a, h, _ => h
  | p :: l, a, h, hl => by
    have hp := hl p (by simp)
    refine hiP_near l _ ?_ (fun q hq => hl q (by simp [hq]))
    obtain ⟨⟨h1, h2⟩, h3, h4⟩ := h
    obtain ⟨⟨h5, h6⟩, h7, h8⟩ := hp
    exact ⟨⟨by simp only []; omega, by simp only []; omega⟩, by simp only []; omega, by simp only []; omega⟩
theorem loP_sub (c : Pnt) : ∀ (l : List Pnt) (a : Pnt), loP (subP c a) (l.map (subP c)) = subP c (loP a l)
  | [], a => rfl
  | p :: l, a => by
    have e : (⟨min (subP c a).x (subP c p).x, min (subP c a).y (subP c p).y⟩ : Pnt) = subP c ⟨min a.x p.x, min a.y p.y⟩ := by
      unfold subP
      simp only [Pnt.mk.injEq]
      omega
    show loP ⟨min (subP c a).x (subP c p).x, min (subP c a).y (subP c p).y⟩ (l.map (subP c)) = _
    rw [e]
    exact loP_sub c l _
theorem own_near (s : Int) {p : Pnt} (h : p.ok) : (ownP s p).near 10000 := by
  obtain ⟨⟨h1, h2⟩, h3, h4⟩ := h
  unfold ownP ownU ownV Pnt.near
  simp only []
  refine ⟨⟨?_, ?_⟩, ?_, ?_⟩ <;> (split <;> first | omega | (split <;> first | omega | (split <;> omega)))

/-! ### A face in its own measure -/
/-- A box. -/
structure Box where
  lo : Pnt
  hi : Pnt
def boxP (a : Pnt) (l : List Pnt) : Box := ⟨loP a l, hiP a l⟩
def ownL (f : Fac) : List Pnt := f.cs.map (ownP f.side)
def fstP (l : List Pnt) : Pnt := l[0]?.getD ⟨0, 0⟩
def ownB (f : Fac) : Box := boxP (fstP (ownL f)) (ownL f)
def holeO (s : Int) (o : Opn) : Box := boxP (ownP s o.lo) [ownP s o.lo, ownP s o.hi]
def subB (c : Pnt) (b : Box) : Box := ⟨subP c b.lo, subP c b.hi⟩
def ownH (f : Fac) (os : List Opn) (i : Nat) : List Box := (os.filter fun o => o.face == (i : Int)).map (holeO f.side)
def outF (f : Fac) : List Pnt := (ownL f).map (subP (ownB f).lo)
def holF (f : Fac) (os : List Opn) (i : Nat) : List Box := (ownH f os i).map (subB (ownB f).lo)
def wideF (f : Fac) (os : List Opn) (i : Nat) : Bool := decide (400 < (ownB f).hi.x - (ownB f).lo.x) || decide (400 < (ownB f).hi.y - (ownB f).lo.y) || decide (6 < (ownH f os i).length)

theorem outF_area (f : Fac) : area2 (outF f) = area2 f.cs := by unfold outF ownL; rw [area2_sub, area2_own]
/-- Twice the area of a box. -/
def Box.two (b : Box) : Int := 2 * (b.hi.x - b.lo.x) * (b.hi.y - b.lo.y)
theorem hole_two {fs : List Fac} {o : Opn} (h : o.fine fs) (s : Int) (c : Pnt) : (subB c (holeO s o)).two = opA o ∧ (subB c (holeO s o)).lo.x < (subB c (holeO s o)).hi.x ∧ (subB c (holeO s o)).lo.y < (subB c (holeO s o)).hi.y := by
  obtain ⟨_, _, h1, h2, _, _⟩ := h
  obtain ⟨n, fa, ⟨lx, ly⟩, ⟨hx, hy⟩⟩ := o
  simp only [] at h1 h2
  unfold holeO boxP loP hiP subB subP Box.two opA ownP ownU ownV
  simp only [List.foldl_cons, List.foldl_nil]
  by_cases s1 : s = 1
  · simp only [s1, if_true]
    refine ⟨?_, by omega, by omega⟩
    rw [show max (max lx lx) hx - c.x - (min (min lx lx) hx - c.x) = hx - lx by omega, show max (max ly ly) hy - c.y - (min (min ly ly) hy - c.y) = hy - ly by omega]
  · simp only [s1, if_false]
    by_cases s2 : s = 2
    · simp only [s2, if_true]
      refine ⟨?_, by omega, by omega⟩
      rw [show max (max ly ly) hy - c.x - (min (min ly ly) hy - c.x) = hy - ly by omega, show max (max (-lx) (-lx)) (-hx) - c.y - (min (min (-lx) (-lx)) (-hx) - c.y) = hx - lx by omega, Int.mul_assoc, Int.mul_comm (hy - ly), ← Int.mul_assoc]
    · simp only [s2, if_false]
      by_cases s3 : s = 3
      · simp only [s3, if_true]
        refine ⟨?_, by omega, by omega⟩
        rw [show max (max (-lx) (-lx)) (-hx) - c.x - (min (min (-lx) (-lx)) (-hx) - c.x) = hx - lx by omega, show max (max (-ly) (-ly)) (-hy) - c.y - (min (min (-ly) (-ly)) (-hy) - c.y) = hy - ly by omega]
      · simp only [s3, if_false]
        refine ⟨?_, by omega, by omega⟩
        rw [show max (max (-ly) (-ly)) (-hy) - c.x - (min (min (-ly) (-ly)) (-hy) - c.x) = hy - ly by omega, show max (max lx lx) hx - c.y - (min (min lx lx) hx - c.y) = hx - lx by omega, Int.mul_assoc, Int.mul_comm (hy - ly), ← Int.mul_assoc]
def twoS (l : List Box) : Int := (l.map Box.two).sum
theorem twoS_snoc (l : List Box) (b : Box) : twoS (l ++ [b]) = twoS l + b.two := by simp [twoS]
theorem holF_two {fs : List Fac} {os : List Opn} (h : ∀ o ∈ os, o.fine fs) (f : Fac) (i : Nat) : twoS (holF f os i) = opS os i := by
  unfold holF ownH twoS opS
  rw [List.map_map, List.map_map]
  congr 1
  refine List.map_congr_left (fun o ho => ?_)
  exact (hole_two (h o ((List.mem_filter.1 ho).1)) _ _).1
theorem holF_mem {fs : List Fac} {os : List Opn} (h : ∀ o ∈ os, o.fine fs) (f : Fac) (i : Nat) : ∀ b ∈ holF f os i, (b.lo.x < b.hi.x ∧ b.lo.y < b.hi.y) ∧ 0 ≤ b.two ∧ b.two ≤ 200000000 := by
  intro b hb
  unfold holF ownH at hb
  rw [List.map_map] at hb
  obtain ⟨o, ho, rfl⟩ := List.mem_map.1 hb
  have ho' := h o ((List.mem_filter.1 ho).1)
  obtain ⟨h1, h2, h3⟩ := hole_two ho' f.side (ownB f).lo
  exact ⟨⟨h2, h3⟩, by simp only [Function.comp]; rw [h1]; exact opA_bd ho'⟩
theorem outF_least (f : Fac) (h : 0 < f.cs.length) : loP (fstP (outF f)) (outF f) = ⟨0, 0⟩ := by
  have e : fstP (outF f) = subP (ownB f).lo (fstP (ownL f)) := by
    have : 0 < (ownL f).length := by unfold ownL; rwa [List.length_map]
    unfold outF fstP
    simp [this]
  unfold outF
  unfold outF at e
  rw [e, loP_sub]
  show subP (ownB f).lo (ownB f).lo = _
  unfold subP
  simp
theorem low_over (n d : Int) : lowN n d * d = n * lowD n d := by
  unfold lowN lowD
  obtain ⟨a, ha⟩ : (Int.gcd n d : Int) ∣ n := Int.gcd_dvd_left ..
  obtain ⟨b, hb⟩ : (Int.gcd n d : Int) ∣ d := Int.gcd_dvd_right ..
  by_cases hg : (Int.gcd n d : Int) = 0
  · rw [hg] at ha hb
    simp only [Int.zero_mul] at ha hb
    subst ha hb
    simp
  · have e1 : n / (Int.gcd n d : Int) = a := by
      have := Int.mul_ediv_cancel_left a hg
      rwa [← ha] at this
    have e2 : d / (Int.gcd n d : Int) = b := by
      have := Int.mul_ediv_cancel_left b hg
      rwa [← hb] at this
    rw [e1, e2]
    generalize (Int.gcd n d : Int) = g at ha hb
    rw [ha, hb, ← Int.mul_assoc, Int.mul_comm a g]
/-- What the heights of two corners say. -/
theorem rise_said (f : Fac) (p q : Pnt) : (hgtN f p * hgtD f q - hgtN f q * hgtD f p) * f.run = (ownV f.side p - ownV f.side q) * f.rise * hgtD f p * hgtD f q := by
  have h1 := low_over (hNum f p) f.run
  have h2 := low_over (hNum f q) f.run
  change hgtN f p * f.run = hNum f p * hgtD f p at h1
  change hgtN f q * f.run = hNum f q * hgtD f q at h2
  have h3 : hNum f p - hNum f q = (ownV f.side p - ownV f.side q) * f.rise := by
    unfold hNum
    rw [Int.mul_comm (ownV f.side p - ownV f.side q) f.rise]
    simp only [Int.mul_sub]
    omega
  rw [← h3, Int.sub_mul, Int.mul_assoc, Int.mul_comm (hgtD f q) f.run, ← Int.mul_assoc, h1, Int.mul_assoc (hgtN f q), Int.mul_comm (hgtD f p) f.run, ← Int.mul_assoc, h2]
  rw [Int.sub_mul, Int.sub_mul, Int.mul_assoc (hNum f q), Int.mul_comm (hgtD f q) (hgtD f p), ← Int.mul_assoc]
theorem outF_at (f : Fac) {k : Nat} {p : Pnt} (h : f.cs[k]? = some p) : (outF f)[k]? = some (subP (ownB f).lo (ownP f.side p)) := by
  unfold outF ownL
  rw [List.getElem?_map, List.getElem?_map, h]
  rfl

/-! ### less and bounds: points in a face's own measure. -/

theorem lessP_any (a b : Pnt) (ha : a.near 1000000) (hb : b.near 1000000) (w : World) :
    Calls Try.prog 86 #[.agg #[.int .i64 a.x, .int .i64 a.y], .agg #[.int .i64 b.x, .int .i64 b.y]] w fun e w' => e = .returned (.agg #[.int .i64 (subP b a).x, .int .i64 (subP b a).y]) ∧ Below w.heap.size w w' := by
  obtain ⟨⟨h1, h2⟩, h3, h4⟩ := ha
  obtain ⟨⟨h5, h6⟩, h7, h8⟩ := hb
  unfold subP
  simp only []
  go_enter Try.func86, Try.ntmps86
  go_wp2
  exact bodyPost_ret (v := .agg #[.int .i64 (a.x - b.x), .int .i64 (a.y - b.y)]) (by simp [results, Try.results86, go_sem]) rfl ⟨rfl, (((Below.refl _ _).alloc (Nat.le_refl _) _).alloc (by simp) _).alloc (by simp; omega) _⟩

abbrev boxC (b : Box) : Array Value := #[.int .i64 b.lo.x, .int .i64 b.lo.y, .int .i64 b.hi.x, .int .i64 b.hi.y]

set_option maxRecDepth 100000 in
set_option maxHeartbeats 4000000 in
theorem bounds_any (sa : Option Addr) (cap : Nat) (l : List Pnt) (w : World) (hs : IsPts w (.slice sa l.length cap) l) (h0 : 0 < l.length) (hl : l.length ≤ 1000) (hn : ∀ p ∈ l, p.near 1000000) :
    Calls Try.prog 85 #[.slice sa l.length cap] w fun e w' => e = .returned (.agg (boxC (boxP (fstP l) l))) ∧ Below w.heap.size w w' := by
  rcases hs with ⟨_, hs2⟩ | ⟨b, off, c, h1, h2, h3, h4, h5⟩
  · rw [hs2] at h0; simp at h0
  obtain ⟨rfl, _, rfl⟩ := slice_inj h1
  obtain ⟨q, hq⟩ : ∃ q, l[0]? = some q := ⟨_, List.getElem?_eq_getElem h0⟩
  have hfs : fstP l = q := by unfold fstP; rw [hq]; rfl
  have hqn := hn q (List.mem_of_getElem? hq)
  obtain ⟨c0, c1⟩ := h5 0 q hq
  simp only [Nat.zero_mul, Nat.add_zero] at c0 c1
  rw [hfs]
  have HN := Lib.hid hn
  have H5 := Lib.hid h5
  clear hfs hn h1 h5
  have hl0 : (0 : Int) < (l.length : Int) := by omega
  go_enter Try.func85, Try.ntmps85
  go_wp2_with fail
  go_region
  have kZ := ((Blk.new w 70 #[.int .i64 0, .int .i64 0, .int .i64 0, .int .i64 0]).alloc (.cells #[.int .i64 q.x, .int .i64 q.y, .int .i64 q.x, .int .i64 q.y] 70)).drew
  have kB := (Blk.new (w.alloc (.cells #[.int .i64 0, .int .i64 0, .int .i64 0, .int .i64 0] 70)) 70 #[.int .i64 q.x, .int .i64 q.y, .int .i64 q.x, .int .i64 q.y]).drew
  have hB : Below w.heap.size w (((w.alloc (.cells #[.int .i64 0, .int .i64 0, .int .i64 0, .int .i64 0] 70)).alloc (.cells #[.int .i64 q.x, .int .i64 q.y, .int .i64 q.x, .int .i64 q.y] 70)).drew) := (((Below.refl _ w).alloc (Nat.le_refl _) _).alloc (by simp) _).drew
  simp only [World.size_alloc] at kB
  generalize ((w.alloc (.cells #[.int .i64 0, .int .i64 0, .int .i64 0, .int .i64 0] 70)).alloc (.cells #[.int .i64 q.x, .int .i64 q.y, .int .i64 q.x, .int .i64 q.y] 70)).drew = W2 at *
  clear c0 c1
  go_wp2_with fail
  go_loopw [15, 5] (fun i _ wr => ∃ t : Nat, t ≤ l.length ∧ i = .int .i64 t ∧ Blk wr w.heap.size #[.int .i64 0, .int .i64 0, .int .i64 0, .int .i64 0] 70 ∧ Blk wr (w.heap.size + 1) (boxC (boxP q (l.take t))) 70 ∧ Below w.heap.size w wr) (fun i _ _ => l.length - (intOf i).toNat)
  case atStart => exact ⟨0, Nat.zero_le _, rfl, kZ, kB, hB⟩
  case round =>
    obtain ⟨t, ht, rfl, kZ1, kB1, g1⟩ := hrel
    have z0 := kB1.cell 0
    have z1 := kB1.cell 1
    have z2 := kB1.cell 2
    have z3 := kB1.cell 3
    simp only [boxC, List.getElem?_toArray, List.getElem?_cons_zero, List.getElem?_cons_succ] at z0 z1 z2 z3
    have lB := kB1.lt
    have y0 := kB1.frozen 0
    have y1 := kB1.frozen 1
    have y2 := kB1.frozen 2
    have y3 := kB1.frozen 3
    by_cases hlt : t < l.length
    · obtain ⟨p, hp⟩ : ∃ p, l[t]? = some p := ⟨_, List.getElem?_eq_getElem hlt⟩
      obtain ⟨c0, c1⟩ := H5.out t p hp
      have c0' := (g1.cell (p := ⟨b, _, none⟩) h2).trans c0
      have c1' := (g1.cell (p := ⟨b, _, none⟩) h2).trans c1
      have htk : l.take (t + 1) = l.take t ++ [p] := by rw [List.take_add_one, hp]; rfl
      have hlo : boxP q (l.take (t + 1)) = ⟨⟨min (boxP q (l.take t)).lo.x p.x, min (boxP q (l.take t)).lo.y p.y⟩, ⟨max (boxP q (l.take t)).hi.x p.x, max (boxP q (l.take t)).hi.y p.y⟩⟩ := by
        rw [htk]
        unfold boxP
        rw [loP_snoc, hiP_snoc]
      have HLO := Lib.hid hlo
      have ht0 : (0 : Int) ≤ (t : Int) := Int.natCast_nonneg _
      have ht1 : (t : Int) < (l.length : Int) := by omega
      clear hp htk hlo c0 c1 kB kZ hB
      generalize boxP q (l.take t) = Bx at *
      go_wp2_with fail
      refine ⟨⟨t + 1, by omega, by simp, ?_, ?_, ?_⟩, by simp [intOf]; omega⟩
      · exact ((((kZ1.other (by omega) _).other (by omega) _).other (by omega) _).other (by omega) _).alloc _
      · have k := ((((kB1.set 0 (.int .i64 (if p.x < Bx.lo.x then p.x else Bx.lo.x))).set 1 (.int .i64 (if p.y < Bx.lo.y then p.y else Bx.lo.y))).set 2 (.int .i64 (if Bx.hi.x < p.x then p.x else Bx.hi.x))).set 3 (.int .i64 (if Bx.hi.y < p.y then p.y else Bx.hi.y))).alloc (.cells #[.int .i64 p.x, .int .i64 p.y] 68)
        rw [HLO.out]
        simp only [boxC, List.setIfInBounds_toArray, List.set_cons_zero, List.set_cons_succ] at k ⊢
        rw [show min Bx.lo.x p.x = if p.x < Bx.lo.x then p.x else Bx.lo.x by split <;> omega, show min Bx.lo.y p.y = if p.y < Bx.lo.y then p.y else Bx.lo.y by split <;> omega,
          show max Bx.hi.x p.x = if Bx.hi.x < p.x then p.x else Bx.hi.x by split <;> omega, show max Bx.hi.y p.y = if Bx.hi.y < p.y then p.y else Bx.hi.y by split <;> omega]
        exact k
      · exact ((((g1.setCell (by simp) _).setCell (by simp) _).setCell (by simp) _).setCell (by simp) _).alloc (by simp; omega) _
    · obtain rfl : t = l.length := by omega
      rw [List.take_length] at z0 z1 z2 z3
      have q0 := kZ1.cell 0
      have q1 := kZ1.cell 1
      have q2 := kZ1.cell 2
      have q3 := kZ1.cell 3
      simp only [List.getElem?_toArray, List.getElem?_cons_zero, List.getElem?_cons_succ] at q0 q1 q2 q3
      have f0 := kZ1.frozen 0
      have f1 := kZ1.frozen 1
      have f2 := kZ1.frozen 2
      have f3 := kZ1.frozen 3
      have lZ := kZ1.lt
      generalize hBX : boxP q l = Bx at *
      have HBX := Lib.hid hBX
      clear hBX
      have k := (((kZ1.set 0 (.int .i64 Bx.lo.x)).set 1 (.int .i64 Bx.lo.y)).set 2 (.int .i64 Bx.hi.x)).set 3 (.int .i64 Bx.hi.y)
      have k0 := k.cell 0
      have k1 := k.cell 1
      have k2 := k.cell 2
      have k3 := k.cell 3
      simp only [List.setIfInBounds_toArray, List.set_cons_zero, List.set_cons_succ, List.getElem?_toArray, List.getElem?_cons_zero, List.getElem?_cons_succ] at k0 k1 k2 k3
      clear k
      go_wp2_with fail
      exact bodyPost_ret (v := .agg (boxC Bx)) (by simp [results, Try.results85, go_sem, k0, k1, k2, k3]) rfl ⟨by rw [HBX.out], (((g1.setCell (by simp) _).setCell (by simp) _).setCell (by simp) _).setCell (by simp) _⟩

/-! ### The law's area. -/

def crK (l : List Pnt) (t : Nat) : Int := ((List.range t).map fun k => (edgN l k).cr).sum
theorem edgN_near {m : Int} (hm : 0 ≤ m) {l : List Pnt} (h : ∀ p ∈ l, p.near m) (k : Nat) : (edgN l k).a.near m ∧ (edgN l k).b.near m := by
  have hd : (⟨0, 0⟩ : Pnt).near m := ⟨⟨by simp only []; omega, by simp only []; omega⟩, by simp only []; omega, by simp only []; omega⟩
  have : ∀ i : Nat, (l[i]?.getD ⟨0, 0⟩).near m := fun i => by
    by_cases hi : i < l.length
    · rw [List.getElem?_eq_getElem hi]; exact h _ (List.getElem_mem hi)
    · rw [List.getElem?_eq_none (by omega)]; exact hd
  exact ⟨this _, this _⟩
theorem cr_near {e : Edg} (ha : e.a.near 100000) (hb : e.b.near 100000) : -20000000000 ≤ e.cr ∧ e.cr ≤ 20000000000 := by
  obtain ⟨⟨h1, h2⟩, h3, h4⟩ := ha
  obtain ⟨⟨h5, h6⟩, h7, h8⟩ := hb
  have b1 := mul_bd (a := e.a.x) (b := e.b.y) h1 h2 h7 h8
  have b2 := mul_bd (a := e.b.x) (b := e.a.y) h5 h6 h3 h4
  unfold Edg.cr
  omega
theorem crK_bd {l : List Pnt} (h : ∀ p ∈ l, p.near 100000) (t : Nat) : -(20000000000 * (t : Int)) ≤ crK l t ∧ crK l t ≤ 20000000000 * (t : Int) := by
  induction t with
  | zero => simp [crK]
  | succ t ih =>
    have hb := cr_near (edgN_near (by omega) h t).1 (edgN_near (by omega) h t).2
    have e : crK l (t + 1) = crK l t + (edgN l t).cr := sumR_succ _ _
    rw [e]
    omega

set_option maxRecDepth 100000 in
set_option maxHeartbeats 4000000 in
theorem area_any (sa : Option Addr) (cap : Nat) (l : List Pnt) (w : World) (hs : IsPts w (.slice sa l.length cap) l) (hl : l.length ≤ 1000) (hn : ∀ p ∈ l, p.near 100000) :
    Calls Try.prog 26 #[.slice sa l.length cap] w fun e w' => e = .returned (.int .i64 (area2 l)) ∧ Below w.heap.size w w' := by
  have hfin : area2 l = crK l l.length := area2_range l
  have HFIN := Lib.hid hfin
  have HS := Lib.hid hs
  have HN := Lib.hid hn
  clear hfin hs hn
  go_enter Try.func26, Try.ntmps26
  go_wp2_with fail
  go_loopw [4, 3, 5, 6] (fun i n _ _ wr => ∃ t : Nat, t ≤ l.length ∧ i = .int .i64 t ∧ n = .int .i64 (crK l t) ∧ Below w.heap.size w wr) (fun i _ _ _ _ => l.length - (intOf i).toNat)
  case atStart => exact ⟨0, Nat.zero_le _, rfl, rfl, Below.refl _ _⟩
  case round =>
    obtain ⟨t, ht, rfl, rfl, g1⟩ := hrel
    by_cases hlt : t < l.length
    · rcases HS.out with ⟨_, hs2⟩ | ⟨b, off, c, h1, h2, h3, h4, h5⟩
      · rw [hs2] at hlt; simp at hlt
      obtain ⟨rfl, _, rfl⟩ := slice_inj h1
      have hk : (t + 1) % l.length < l.length := Nat.mod_lt _ (by omega)
      have e1 : l[t]? = some (edgN l t).a := by simp [edgN, hlt]
      have e2 : l[(t + 1) % l.length]? = some (edgN l t).b := by simp [edgN, hk]
      obtain ⟨c0, c1⟩ := h5.below g1 h2 _ _ e1
      obtain ⟨d0, d1⟩ := h5.below g1 h2 _ _ e2
      obtain ⟨hna, hnb⟩ := edgN_near (by omega) HN.out t
      have hcb := crK_bd HN.out t
      have hsu : crK l (t + 1) = crK l t + (edgN l t).cr := sumR_succ _ _
      have HSU := Lib.hid hsu
      clear hsu e1 e2 h1 h5
      have hkm : ((t : Int) + 1) % (l.length : Int) = (((t + 1) % l.length : Nat) : Int) := by push_cast; rfl
      generalize (t + 1) % l.length = k at *
      generalize edgN l t = E at *
      obtain ⟨⟨ax, ay⟩, bx, by'⟩ := E
      simp only [Edg.cr] at HSU
      simp only [Pnt.near] at hna hnb c0 c1 d0 d1
      obtain ⟨⟨y1, y2⟩, y3, y4⟩ := hna
      obtain ⟨⟨y5, y6⟩, y7, y8⟩ := hnb
      have m1 := mul_bd (a := ax) (b := by') y1 y2 y7 y8
      have m2 := mul_bd (a := ay) (b := bx) y3 y4 y5 y6
      have ht0 : (0 : Int) ≤ (t : Int) := Int.natCast_nonneg _
      have ht1 : (t : Int) < (l.length : Int) := by omega
      have hl1 : (l.length : Int) ≤ 1000 := by omega
      generalize crK l t = S0 at *
      have hbl : b < wr.heap.size := Nat.lt_of_lt_of_le h2 g1.size
      go_wp2_with fail
      go_region
      all_goals
        go_wp2_with fail
        refine ⟨⟨t + 1, by omega, by simp, ?_, ((g1.alloc g1.size _).alloc (by have := g1.size; simp; omega) _).drew⟩, by simp [intOf]; omega⟩
        rw [HSU.out, Int.mul_comm bx ay]
    · obtain rfl : t = l.length := by omega
      go_wp2_with fail
      go_ret
      exact ⟨by rw [HFIN.out]; rfl, g1⟩

/-! ### layFace's pieces: the closure of a side; rows of points and of boxes in memory. -/

/-- The number of the function by which a side is seen. -/
def ownN (s : Int) : Nat := if s = 1 then 118 else if s = 2 then 119 else if s = 3 then 120 else 121
theorem ownMeasure_any (s : Int) (h1 : 1 ≤ s) (h4 : s ≤ 4) (w : World) : Calls Try.prog 83 #[.int .i64 s] w fun e w' => e = .returned (.func (.func (ownN s)) #[] #[]) ∧ Below w.heap.size w w' := by
  rcases (show s = 1 ∨ s = 2 ∨ s = 3 ∨ s = 4 by omega) with rfl | rfl | rfl | rfl
  · exact ownMeasure1_any w
  · exact ownMeasure2_any w
  · exact ownMeasure3_any w
  · exact ownMeasure4_any w
theorem ownP_any (s : Int) (h1 : 1 ≤ s) (h4 : s ≤ 4) (p : Pnt) (hp : p.ok) (w : World) : Calls Try.prog (ownN s) #[.agg #[.int .i64 p.x, .int .i64 p.y]] w fun e w' => e = .returned (.agg #[.int .i64 (ownP s p).x, .int .i64 (ownP s p).y]) ∧ Below w.heap.size w w' := by
  obtain ⟨⟨a, b⟩, c, d⟩ := hp
  rcases (show s = 1 ∨ s = 2 ∨ s = 3 ∨ s = 4 by omega) with rfl | rfl | rfl | rfl
  · exact own1_any p ⟨by omega, by omega⟩ ⟨by omega, by omega⟩ w
  · exact own2_any p ⟨by omega, by omega⟩ ⟨by omega, by omega⟩ w
  · exact own3_any p ⟨by omega, by omega⟩ ⟨by omega, by omega⟩ w
  · exact own4_any p ⟨by omega, by omega⟩ ⟨by omega, by omega⟩ w

theorem run_enter {P : Program} {f : FuncId} {fn : Func} {c : Code} (hf : P.funcs[f]? = some fn) (hname : (fn.name == "runtime.NumGoroutine") = false) (hb : fn.body = some c) (args : Array Value) (w : World) :
    (callFunc f args).run P w = .ok (.enter f args) w := by
  have h1 : fn.name ≠ "runtime.NumGoroutine" := by simpa using hname
  simp [callFunc, hf, h1, hb]
theorem own_enter (s : Int) (args : Array Value) (w : World) : (callFunc (ownN s) args).run Try.prog w = .ok (.enter (ownN s) args) w := by
  unfold ownN
  split
  · exact run_enter Try.func118 (by kernel_rfl) rfl args w
  split
  · exact run_enter Try.func119 (by kernel_rfl) rfl args w
  split
  · exact run_enter Try.func120 (by kernel_rfl) rfl args w
  · exact run_enter Try.func121 (by kernel_rfl) rfl args w

def cellsP (p : Pnt) : List Value := [.int .i64 p.x, .int .i64 p.y]
def rowsP (l : List Pnt) : List Value := l.flatMap cellsP
theorem rowsP_snoc (l : List Pnt) (p : Pnt) : rowsP (l ++ [p]) = rowsP l ++ cellsP p := by simp [rowsP]
def cellsB (b : Box) : List Value := [.int .i64 b.lo.x, .int .i64 b.lo.y, .int .i64 b.hi.x, .int .i64 b.hi.y]
def rowsB (l : List Box) : List Value := l.flatMap cellsB
theorem rowsB_snoc (l : List Box) (p : Box) : rowsB (l ++ [p]) = rowsB l ++ cellsB p := by simp [rowsB]
theorem rows_at {α : Type} (f : α → List Value) (n : Nat) (hf : ∀ x, (f x).length = n) (l : List α) : ∀ (j i : Nat) (x : α), l[j]? = some x → i < n → (l.flatMap f)[j * n + i]? = (f x)[i]? := by
  induction l with
  | nil => intro j i x h _; simp at h
  | cons y l ih =>
    intro j i x h hi
    have e : (y :: l).flatMap f = f y ++ l.flatMap f := by simp
    cases j with
    | zero =>
      obtain rfl : y = x := by simpa using h
      rw [e, List.getElem?_append_left (by rw [hf]; omega)]
      simp
    | succ j =>
      rw [e, List.getElem?_append_right (by rw [hf, Nat.succ_mul]; omega), hf, show (j + 1) * n + i - n = j * n + i by rw [Nat.succ_mul]; omega]
      exact ih j i x (by simpa using h) hi

/-- A block that holds a list, each element in so many cells. -/
def Row {α : Type} (f : α → List Value) (n : Nat) (l : List α) (cur : Array Value) : Prop := l.length * n ≤ cur.size ∧ ∀ (j i : Nat) (x : α), l[j]? = some x → i < n → cur[j * n + i]? = (f x)[i]?
theorem row_of {α : Type} {f : α → List Value} {n : Nat} (hf : ∀ x, (f x).length = n) {w : World} {base : Nat} {t : TypeId} {v : Value} {l : List α} (h : w.ownsRow base t n v l.length (l.flatMap f)) :
    (v = .slice none 0 0 ∧ l = []) ∨ ∃ g cap cur, v = .slice (some ⟨g, 0, none⟩) l.length cap ∧ base ≤ g ∧ Blk w g cur t ∧ l.length ≤ cap ∧ cap ≤ 9223372036854775807 ∧ Row f n l cur := by
  rcases h.2 with ⟨rfl, h0⟩ | ⟨g, cap, cur, hv, hb, hg, h1, h2, h3, h4⟩
  · exact .inl ⟨rfl, List.eq_nil_of_length_eq_zero h0⟩
  · refine .inr ⟨g, cap, cur, hv, hb, hg, h1, by unfold maxLen at h2; omega, ?_, fun j i x hj hi => ?_⟩
    · have := congrArg List.length h4
      rw [List.length_take, List.length_flatMap] at this
      have hs : (l.map fun x => (f x).length).sum = l.length * n := by
        clear h4 this h3 h2 h1 hg hv h
        induction l with
        | nil => simp
        | cons y l ih => simp only [List.map_cons, List.sum_cons, List.length_cons, hf, Nat.succ_mul]; simp only [hf] at ih; omega
      rw [hs] at this
      rw [← Array.length_toList]
      omega
    · have hjl : j < l.length := (List.getElem?_eq_some_iff.1 hj).1
      have hlt : j * n + i < l.length * n := by
        have := Nat.mul_le_mul_right n (show j + 1 ≤ l.length by omega)
        rw [Nat.succ_mul] at this
        omega
      have e2 : cur[j * n + i]? = (cur.toList.take (l.length * n))[j * n + i]? := by
        rw [List.getElem?_take_of_lt hlt]
        simp
      rw [e2, h4, rows_at f n hf l j i x hj hi]

/-! ### layFace: a face in its own measure. -/

/-- What is followed through a drawn region: a cell of a block that lay before it, and that nothing else has turned. -/
structure TC (W : World) (L c : Nat) (v : Value) (w : World) : Prop where
  below : Below W.heap.size W w
  cell : w.cell? ⟨L, c, none⟩ = some v
  frozen : w.frozen? ⟨L, c, none⟩ = false
  lt : L < w.heap.size
theorem TC.belowS {W w w' : World} {L c : Nat} {v : Value} (h : TC W L c v w) (hb : Below w.heap.size w w') : TC W L c v w' :=
  ⟨h.below.trans (hb.mono h.below.size), (hb.cell (p := ⟨L, c, none⟩) h.lt).trans h.cell, (hb.frozen (p := ⟨L, c, none⟩) h.lt).trans h.frozen, Nat.lt_of_lt_of_le h.lt hb.size⟩
theorem TC.alloc {W w : World} {L c : Nat} {v : Value} (h : TC W L c v w) (o : Obj) : TC W L c v (w.alloc o) := h.belowS ((Below.refl _ _).alloc (Nat.le_refl _) o)
theorem TC.drew {W w : World} {L c : Nat} {v : Value} (h : TC W L c v w) : TC W L c v w.drew := h.belowS (Below.refl _ _).drew
theorem TC.start {W : World} {L c : Nat} {v : Value} {cs : Array Value} {t : TypeId} (h : Blk W L cs t) (hc : cs[c]? = some v) : TC W L c v W := ⟨Below.refl _ _, (h.cell c).trans hc, h.frozen c, h.lt⟩

theorem cells_below {w w' : World} {X n : Nat} {cs : Array Value} (h : ∀ i, i < n → w.cell? ⟨X, i, none⟩ = cs[i]?) (hX : X < w.heap.size) (hb : Below w.heap.size w w') : ∀ i, i < n → w'.cell? ⟨X, i, none⟩ = cs[i]? :=
  fun i hi => (hb.cell (p := ⟨X, i, none⟩) hX).trans (h i hi)

/-- The cells of a point's box. -/
abbrev HeldPt (X : Nat) (x y : Int) (w : World) : Prop := w.cell? ⟨X, 0, none⟩ = some (.int .i64 x) ∧ w.cell? ⟨X, 1, none⟩ = some (.int .i64 y)
theorem hp_below {X : Nat} {x y : Int} {w w' : World} (h : HeldPt X x y w) (hb : Below w.heap.size w w') : HeldPt X x y w' :=
  ⟨(hb.cell (p := ⟨X, 0, none⟩) (World.block_lt_of_cell? _ _ h.1)).trans h.1, (hb.cell (p := ⟨X, 1, none⟩) (World.block_lt_of_cell? _ _ h.2)).trans h.2⟩
theorem hp_alloc {X : Nat} {x y : Int} {w : World} (h : HeldPt X x y w) (o : Obj) : HeldPt X x y (w.alloc o) := hp_below h ((Below.refl _ _).alloc (Nat.le_refl _) o)
theorem hp_grow {X : Nat} {x y : Int} {w w' : World} {row : Option Nat} (h : HeldPt X x y w) (hg : w.grownBy w' row) (hne : some X ≠ row) : HeldPt X x y w' :=
  ⟨(hg.cell_far ⟨X, 0, none⟩ (World.block_lt_of_cell? _ _ h.1) hne).trans h.1, (hg.cell_far ⟨X, 1, none⟩ (World.block_lt_of_cell? _ _ h.2) hne).trans h.2⟩
theorem cell_set_other {w : World} {X i L c : Nat} {u z : Value} (h : w.cell? ⟨X, i, none⟩ = some u) (hne : X ≠ L) : (w.setCell ⟨L, c, none⟩ z).cell? ⟨X, i, none⟩ = some u :=
  (World.cell?_of_block (w := w) (a := ⟨X, i, none⟩) (Below.heap_setCell w ⟨L, c, none⟩ z X hne)).trans h
theorem cell_below {X i : Nat} {u : Value} {w w' : World} (h : w.cell? ⟨X, i, none⟩ = some u) (hb : Below w.heap.size w w') : w'.cell? ⟨X, i, none⟩ = some u := (hb.cell (p := ⟨X, i, none⟩) (World.block_lt_of_cell? _ _ h)).trans h
theorem hp_set {X L c : Nat} {x y : Int} {w : World} (h : HeldPt X x y w) (hne : X ≠ L) (z : Value) : HeldPt X x y (w.setCell ⟨L, c, none⟩ z) := ⟨cell_set_other h.1 hne, cell_set_other h.2 hne⟩
/-- The cells of an opening's box that are read. -/
abbrev HeldQt (X : Nat) (a b c d : Int) (w : World) : Prop := (w.cell? ⟨X, 2, none⟩ = some (.int .i64 a) ∧ w.cell? ⟨X, 3, none⟩ = some (.int .i64 b)) ∧ w.cell? ⟨X, 4, none⟩ = some (.int .i64 c) ∧ w.cell? ⟨X, 5, none⟩ = some (.int .i64 d)
theorem hq_below {X : Nat} {a b c d : Int} {w w' : World} (h : HeldQt X a b c d w) (hb : Below w.heap.size w w') : HeldQt X a b c d w' := by
  have hl := World.block_lt_of_cell? _ _ h.1.1
  exact ⟨⟨(hb.cell (p := ⟨X, 2, none⟩) hl).trans h.1.1, (hb.cell (p := ⟨X, 3, none⟩) hl).trans h.1.2⟩, (hb.cell (p := ⟨X, 4, none⟩) hl).trans h.2.1, (hb.cell (p := ⟨X, 5, none⟩) hl).trans h.2.2⟩
theorem hq_alloc {X : Nat} {a b c d : Int} {w : World} (h : HeldQt X a b c d w) (o : Obj) : HeldQt X a b c d (w.alloc o) := hq_below h ((Below.refl _ _).alloc (Nat.le_refl _) o)
theorem hq_grow {X : Nat} {a b c d : Int} {w w' : World} {row : Option Nat} (h : HeldQt X a b c d w) (hg : w.grownBy w' row) (hne : some X ≠ row) : HeldQt X a b c d w' := by
  have hl := World.block_lt_of_cell? _ _ h.1.1
  exact ⟨⟨(hg.cell_far ⟨X, 2, none⟩ hl hne).trans h.1.1, (hg.cell_far ⟨X, 3, none⟩ hl hne).trans h.1.2⟩, (hg.cell_far ⟨X, 4, none⟩ hl hne).trans h.2.1, (hg.cell_far ⟨X, 5, none⟩ hl hne).trans h.2.2⟩
theorem hq_set {X L e : Nat} {a b c d : Int} {w : World} (h : HeldQt X a b c d w) (hne : X ≠ L) (z : Value) : HeldQt X a b c d (w.setCell ⟨L, e, none⟩ z) :=
  ⟨⟨cell_set_other h.1.1 hne, cell_set_other h.1.2 hne⟩, cell_set_other h.2.1 hne, cell_set_other h.2.2 hne⟩
theorem ownsRow_set {w : World} {base : Nat} {e : TypeId} {size : Nat} {v : Value} {n : Nat} {xs : List Value} (h : w.ownsRow base e size v n xs) {L c : Nat} (hL : L < base) (z : Value) : (w.setCell ⟨L, c, none⟩ z).ownsRow base e size v n xs := by
  refine ⟨h.1, ?_⟩
  rcases h.2 with h0 | ⟨g, cap, cur, hv, hb, hg, hr⟩
  · exact .inl h0
  · exact .inr ⟨g, cap, cur, hv, hb, (Below.heap_setCell w ⟨L, c, none⟩ z g (by show g ≠ L; omega)).trans hg, hr⟩

/-- Boxes in memory. -/
def BxAt (w : World) (g o : Nat) (b : Box) : Prop :=
  w.cell? ⟨g, o, none⟩ = some (.int .i64 b.lo.x) ∧ w.cell? ⟨g, o + 1, none⟩ = some (.int .i64 b.lo.y) ∧ w.cell? ⟨g, o + 2, none⟩ = some (.int .i64 b.hi.x) ∧ w.cell? ⟨g, o + 3, none⟩ = some (.int .i64 b.hi.y)
def IsBxs (w : World) (v : Value) (l : List Box) : Prop :=
  (v = .slice none 0 0 ∧ l = []) ∨ ∃ g cap, v = .slice (some ⟨g, 0, none⟩) l.length cap ∧ g < w.heap.size ∧ l.length ≤ cap ∧ cap ≤ 9223372036854775807 ∧ ∀ j x, l[j]? = some x → BxAt w g (j * 4) x
theorem BxAt.below {w w' : World} {B g o : Nat} {b : Box} (h : BxAt w g o b) (hb : Below B w w') (hlt : g < B) : BxAt w' g o b := by
  have c : ∀ i, w'.cell? ⟨g, i, none⟩ = w.cell? ⟨g, i, none⟩ := fun i => hb.cell (p := ⟨g, i, none⟩) hlt
  obtain ⟨h0, h1, h2, h3⟩ := h
  exact ⟨(c _).trans h0, (c _).trans h1, (c _).trans h2, (c _).trans h3⟩
theorem IsBxs.below {w w' : World} {v : Value} {l : List Box} (h : IsBxs w v l) (hb : Below w.heap.size w w') : IsBxs w' v l := by
  rcases h with h | ⟨g, cap, e, hl, hc, hc', hp⟩
  · exact .inl h
  · exact .inr ⟨g, cap, e, Nat.lt_of_lt_of_le hl hb.size, hc, hc', fun j x hj => (hp j x hj).below hb hl⟩
theorem pts_of_row {w : World} {g cap : Nat} {cur : Array Value} {t : TypeId} {l : List Pnt} (h : Blk w g cur t) (h1 : l.length ≤ cap) (h2 : cap ≤ 9223372036854775807) (hr : Row cellsP 2 l cur) : IsPts w (.slice (some ⟨g, 0, none⟩) l.length cap) l :=
  .inr ⟨g, 0, cap, rfl, h.lt, h1, h2, fun j p hj => ⟨by rw [h.cell, Nat.zero_add]; exact hr.2 j 0 p hj (by omega), by rw [h.cell, Nat.zero_add]; exact hr.2 j 1 p hj (by omega)⟩⟩
theorem bxs_of_row {w : World} {g cap : Nat} {cur : Array Value} {t : TypeId} {l : List Box} (h : Blk w g cur t) (h1 : l.length ≤ cap) (h2 : cap ≤ 9223372036854775807) (hr : Row cellsB 4 l cur) : IsBxs w (.slice (some ⟨g, 0, none⟩) l.length cap) l :=
  .inr ⟨g, cap, rfl, h.lt, h1, h2, fun j p hj => ⟨by rw [h.cell]; exact hr.2 j 0 p hj (by omega), by rw [h.cell]; exact hr.2 j 1 p hj (by omega), by rw [h.cell]; exact hr.2 j 2 p hj (by omega), by rw [h.cell]; exact hr.2 j 3 p hj (by omega)⟩⟩
/-- One element of a row is stored anew. -/
theorem row_set {α : Type} {f : α → List Value} {n : Nat} (_ : ∀ x, (f x).length = n) {l l' : List α} {cur cur' : Array Value} (h : Row f n l cur) {j : Nat} {x : α} (hj : j < l.length) (hl : ∀ k, l'[k]? = if k = j then some x else l[k]?)
    (hs : cur'.size = cur.size) (h1 : ∀ i, i < n → cur'[j * n + i]? = (f x)[i]?) (h2 : ∀ k i, k ≠ j → i < n → cur'[k * n + i]? = cur[k * n + i]?) : Row f n l' cur' := by
  have hlen : l'.length ≤ l.length := by
    apply Classical.byContradiction
    intro hc
    have a := hl l.length
    rw [if_neg (by omega), List.getElem?_eq_none (Nat.le_refl _)] at a
    rw [List.getElem?_eq_none_iff] at a
    omega
  refine ⟨?_, fun k i y hk hi => ?_⟩
  · have := h.1
    have := Nat.mul_le_mul_right n hlen
    omega
  · rw [hl k] at hk
    by_cases hkj : k = j
    · subst hkj
      rw [if_pos rfl, Option.some.injEq] at hk
      subst hk
      exact h1 i hi
    · rw [if_neg hkj] at hk
      rw [h2 k i hkj hi]
      exact h.2 k i y hk hi
/-- The first elements turned, the others as they were. -/
def mixL {α : Type} (g : α → α) (l : List α) (t : Nat) : List α := (l.take t).map g ++ l.drop t
theorem mixL_zero {α : Type} (g : α → α) (l : List α) : mixL g l 0 = l := by simp [mixL]
theorem mixL_all {α : Type} (g : α → α) (l : List α) : mixL g l l.length = l.map g := by simp [mixL]
theorem mixL_len {α : Type} (g : α → α) (l : List α) {t : Nat} (ht : t ≤ l.length) : (mixL g l t).length = l.length := by simp [mixL]; omega
theorem mixL_at {α : Type} (g : α → α) (l : List α) {t : Nat} (ht : t ≤ l.length) (k : Nat) : (mixL g l t)[k]? = if k < t then l[k]?.map g else l[k]? := by
  unfold mixL
  by_cases h : k < t
  · rw [if_pos h, List.getElem?_append_left (by simp; omega), List.getElem?_map, List.getElem?_take_of_lt h]
  · rw [if_neg h, List.getElem?_append_right (by simp; omega)]
    simp only [List.length_map, List.length_take, List.getElem?_drop]
    rw [show t + (k - min t l.length) = k by omega]
theorem mixL_succ {α : Type} (g : α → α) (l : List α) {t : Nat} {x : α} (hx : l[t]? = some x) (k : Nat) : (mixL g l (t + 1))[k]? = if k = t then some (g x) else (mixL g l t)[k]? := by
  have ht := (List.getElem?_eq_some_iff.1 hx).1
  rw [mixL_at g l (by omega), mixL_at g l (by omega)]
  by_cases h : k = t
  · subst h
    rw [if_pos (by omega), if_pos rfl, hx]
    rfl
  · rw [if_neg h]
    by_cases h1 : k < t
    · rw [if_pos (by omega), if_pos h1]
    · rw [if_neg (by omega), if_neg h1]
end Go.Proofs.Ytpheaomlphggfaa
