/- Where: the faces that a point is on, and the opening that it is in. -/
import Derived.Test.YtpdgcajbdaleeaaR
import Derived.Test.YtpdgcajbdaleeaaV
import Derived.WalkSpells
import Derived.Maps.AppendAt
set_option linter.unusedSimpArgs false
namespace Go.Proofs.Ytpdgcajbdaleeaa
open Go.RowKit

def onF (fs : List Fac) (p : Pnt) (i : Nat) : Bool := match fs[i]? with | some f => onL f.cs p | none => false
/-- The faces that a point is on. -/
def whereL (fs : List Fac) (p : Pnt) (n : Nat) : List Nat := (List.range n).filter (onF fs p)
theorem whereL_succ (fs : List Fac) (p : Pnt) (n : Nat) : whereL fs p (n + 1) = whereL fs p n ++ (if onF fs p n then [n] else []) := by
  unfold whereL
  rw [List.range_succ, List.filter_append]
  congr 1
  cases h : onF fs p n <;> simp [h]
theorem whereL_le (fs : List Fac) (p : Pnt) (n : Nat) : (whereL fs p n).length ≤ n := by
  unfold whereL
  have := List.length_filter_le (onF fs p) (List.range n)
  simpa using this

theorem Try.info_int : (Try.prog.info? 3).map (fun i => (i.zero, i.size, i.bytes)) = some (some (.int .i64 0), 1, 8) := by kernel_rfl

/-- A slice value that holds numbers. -/
def IsInts (w : World) (v : Value) (l : List Int) : Prop :=
  (v = .slice none 0 0 ∧ l = []) ∨ ∃ b off cap, v = .slice (some ⟨b, off, none⟩) l.length cap ∧ b < w.heap.size ∧ l.length ≤ cap ∧ cap ≤ 9223372036854775807 ∧ ∀ (j : Nat) (x : Int), l[j]? = some x → w.cell? ⟨b, off + j, none⟩ = some (.int .i64 x)

/-- What Where returns. -/
def WhereSaid (R : Roo) (p : Pnt) (w : World) (e : Ending) (w' : World) : Prop :=
  Below w.heap.size w w' ∧
    if ¬ checkE R = 0 then e = .returned (.tuple #[.slice none 0 0, .int .i64 0, .int .i64 (checkE R)]) else if p.okB = false then e = .returned (.tuple #[.slice none 0 0, .int .i64 0, .int .i64 1]) else
      ∃ v, e = .returned (.tuple #[v, .int .i64 (openAtI R.os p), .int .i64 0]) ∧ IsInts w' v ((whereL R.fs p R.fs.length).map (fun i : Nat => (i : Int)))

theorem checkE_faces {R : Roo} (h : checkE R = 0) : R.fs.length ≤ 16 ∧ (∀ f ∈ R.fs, okPts f.cs ∧ f.cs.length ≤ 1000) := by
  unfold checkE at h
  split at h
  · omega
  rename_i h1
  split at h
  · rename_i h2
    exact absurd h h2
  rename_i h2
  exact ⟨by omega, facesE_pts (Classical.not_not.1 h2)⟩

theorem checkE_opens {R : Roo} (h : checkE R = 0) : R.os.length ≤ 100000 := by
  unfold checkE at h
  split at h
  · omega
  split at h
  · rename_i h2
    exact absurd h h2
  split at h
  · omega
  omega

theorem ownsRow_below {w w' : World} {base : Nat} {e : TypeId} {size : Nat} {v : Value} {n : Nat} {xs : List Value} (h : w.ownsRow base e size v n xs) (hb : Below w.heap.size w w') : w'.ownsRow base e size v n xs :=
  h.kept (row := none) ⟨hb.os, hb.tape, hb.output, hb.size, fun k hk _ => hb.block k hk⟩ (by cases v.ownBlock <;> simp)

theorem isInts_of {w : World} {base : Nat} {t : TypeId} {v : Value} {l : List Nat} (h : w.ownsRow base t 1 v l.length (l.map (fun i : Nat => Value.int .i64 (i : Int)))) : IsInts w v (l.map (fun i : Nat => (i : Int))) := by
  rcases h.2 with ⟨rfl, h0⟩ | ⟨g, cap, cur, hv, _, hg, h1, h2, _⟩
  · have : l = [] := List.eq_nil_of_length_eq_zero h0
    subst this
    exact .inl ⟨rfl, rfl⟩
  · subst hv
    refine .inr ⟨g, 0, cap, by simp, (Array.getElem?_eq_some_iff.1 hg).1, by simpa using h1, by unfold maxLen at h2; omega, fun j x hj => ?_⟩
    have hjl : j < l.length := by
      have := (List.getElem?_eq_some_iff.1 hj).1
      simpa using this
    have hc := h.cellAt j (by omega)
    rw [Nat.zero_add, hc]
    rw [List.getElem?_map] at hj ⊢
    cases hlj : l[j]? with
    | none => rw [hlj] at hj; cases hj
    | some y =>
      rw [hlj] at hj
      simp only [Option.map_some, Option.some.injEq] at hj ⊢
      rw [hj]

set_option maxRecDepth 100000 in
set_option maxHeartbeats 4000000 in
theorem where_any (R : Roo) (p : Pnt) (w : World) (hR : IsRoof w R) :
    Calls Try.prog 12 #[.agg #[.slice R.fa R.fs.length R.fc, .slice R.oa R.os.length R.oc], .agg #[.int .i64 p.x, .int .i64 p.y]] w (WhereSaid R p w) := by
  obtain ⟨i0, hi, hz0, hz1, hz2⟩ := info_parts Try.info_int
  obtain ⟨fa, fc, fs, oa, oc, os⟩ := R
  have hB : Below w.heap.size w ((w.alloc (.cells #[.slice fa fs.length fc, .slice oa os.length oc] 25)).alloc (.cells #[.int .i64 p.x, .int .i64 p.y] 27)) := ((Below.refl _ _).alloc (Nat.le_refl _) _).alloc (by simp) _
  have kR := (Blk.new w 25 #[.slice fa fs.length fc, .slice oa os.length oc]).alloc (.cells #[.int .i64 p.x, .int .i64 p.y] 27)
  have kP := Blk.new (w.alloc (.cells #[.slice fa fs.length fc, .slice oa os.length oc] 25)) 27 #[.int .i64 p.x, .int .i64 p.y]
  simp only [World.size_alloc] at kP
  have hsz : ((w.alloc (.cells #[.slice fa fs.length fc, .slice oa os.length oc] 25)).alloc (.cells #[.int .i64 p.x, .int .i64 p.y] 27)).heap.size = w.heap.size + 2 := by simp
  have HSZ := Lib.hid hsz
  have HR := Lib.hid hR
  clear hR hsz
  go_enter Try.func12, Try.ntmps12
  go_wp2_with fail
  refine (check_any ⟨fa, fc, fs, oa, oc, os⟩ _ (HR.out.below hB)).mono ?_
  rintro e w1 ⟨rfl, hb1⟩
  have hB1 := hB.trans (hb1.mono (by rw [HSZ.out]; omega))
  have kR1 := kR.belowS hb1
  have kP1 := kP.belowS hb1
  clear kR kP hB hb1
  generalize hE : checkE ⟨fa, fc, fs, oa, oc, os⟩ = E
  have HE := Lib.hid hE
  clear hE
  by_cases h0 : E = 0
  · subst h0
    have hz : ((0 : Int) == 0) = true := rfl
    have c0 := kP1.cell 0
    have c1 := kP1.cell 1
    simp only [List.getElem?_toArray, List.getElem?_cons_zero, List.getElem?_cons_succ] at c0 c1
    go_wp2_with fail
    refine (inPlan_any p.x p.y _).mono ?_
    rintro e w2 ⟨rfl, hb2⟩
    have hB2 := hB1.trans (hb2.mono hB1.size)
    have kR2 := kR1.belowS hb2
    have kP2 := kP1.belowS hb2
    clear kR1 kP1 hB1 hb2 c0 c1
    cases hp : inPlanB p.x p.y with
    | false =>
      have HP := Lib.hid hp
      clear hp
      go_wp2_with fail
      go_ret3
      refine ⟨hB2, ?_⟩
      rw [if_neg (by rw [HE.out]; simp), if_pos (show p.okB = false from HP.out)]
      rfl
    | true =>
      have HP := Lib.hid hp
      clear hp
      have c0 := kR2.cell 0
      simp only [List.getElem?_toArray, List.getElem?_cons_zero, List.getElem?_cons_succ] at c0
      have hlf : fs.length ≤ 16 ∧ (∀ f ∈ fs, okPts f.cs ∧ f.cs.length ≤ 1000) := checkE_faces HE.out
      obtain ⟨hl16, hokf⟩ := hlf
      have HOK := Lib.hid hokf
      clear hokf
      have hpok : p.ok := Pnt.okB_iff.1 HP.out
      go_wp2_with fail
      go_loopw [4, 21, 8, 9] (fun v i _ _ wr => ∃ j : Nat, j ≤ fs.length ∧ i = .int .i64 j ∧ wr.ownsRow (w.heap.size + 2) 3 1 v (whereL fs p j).length ((whereL fs p j).map (fun i : Nat => Value.int .i64 (i : Int))) ∧
          Blk wr w.heap.size #[.slice fa fs.length fc, .slice oa os.length oc] 25 ∧ Blk wr (w.heap.size + 1) #[.int .i64 p.x, .int .i64 p.y] 27 ∧ Below w.heap.size w wr) (fun _ i _ _ _ => fs.length - (intOf i).toNat)
      case atStart => exact ⟨0, Nat.zero_le _, rfl, World.ownsRow_nil _ _ _ _, kR2, kP2, hB2⟩
      case round =>
        obtain ⟨j, hj, rfl, hown, g1, g2, g3⟩ := hrel
        have hRr := HR.out.below g3
        have HW := Lib.hid hown
        clear hown
        by_cases hlj : j < fs.length
        · rcases hRr.1 with ⟨_, hn⟩ | ⟨b, off, c, h1, h2, h3, h4, h5⟩
          · simp only [] at hn
            rw [hn] at hlj
            simp at hlj
          have hq : fs[j]? = some fs[j] := List.getElem?_eq_getElem hlj
          obtain ⟨hokl, hokp⟩ := HOK.out fs[j] (List.getElem_mem hlj)
          obtain ⟨⟨d0, d1, d2, d3, d4, d5, d6⟩, hfin⟩ := h5 j _ hq
          obtain ⟨rfl, _, rfl⟩ := slice_inj h1
          simp only [] at d0 d1 d2 d3 d4 d5 d6 hfin h3
          have hwl := whereL_succ fs p j
          have hon : onF fs p j = onL fs[j].cs p := by simp [onF, hq]
          rw [hon] at hwl
          generalize fs[j] = F at *
          have HQ := Lib.hid hq
          have HWL := Lib.hid hwl
          clear hq h1 h5 hRr hwl hon
          have hj0 : (0 : Int) ≤ (j : Int) := Int.natCast_nonneg _
          have hj1 : (j : Int) < (fs.length : Int) := by omega
          have p0 := g2.cell 0
          have p1 := g2.cell 1
          simp only [List.getElem?_toArray, List.getElem?_cons_zero, List.getElem?_cons_succ] at p0 p1
          have lt1 := g1.lt
          have lt2 := g2.lt
          have hb0 : Below wr.heap.size wr (wr.alloc (.cells (facC F) 72)) := (Below.refl _ wr).alloc (Nat.le_refl _) _
          have hpw := hfin.1.below hb0
          unfold facC at hb0 hpw
          go_wp2_with fail
          refine (isOn_any F.ca F.cs.length F.cc F.cs p _ hpw hokp hokl hpok).mono ?_
          rintro e w5 ⟨rfl, hb5⟩
          have hb6 := hb0.trans (hb5.mono (by simp))
          have hb7 := g3.trans (hb6.mono g3.size)
          have k1 := g1.belowS hb6
          have k2 := g2.belowS hb6
          have hown5 := ownsRow_below HW.out hb6
          clear hb0 hpw p0 p1
          cases hon : onL F.cs p with
          | false =>
            have HO := Lib.hid hon
            have HW5 := Lib.hid hown5
            clear hown5
            go_wp2_with fail
            refine ⟨⟨j + 1, by omega, by simp, ?_, k1, k2, hb7⟩, by simp [intOf]; omega⟩
            rw [HWL.out, HO.out]
            simpa using HW5.out
          | true =>
            have HO := Lib.hid hon
            have hsz5 := hb7.size
            have hsz6 : w.heap.size + 2 ≤ w5.heap.size := by have := hb6.size; omega
            have hle := whereL_le fs p j
            have hmx : (whereL fs p j).length + 1 ≤ maxLen := by unfold maxLen; omega
            have HOWN := Lib.hid hown5
            clear hown5
            go_wp2_with (at_builtin; refine wpList_append_own _ rfl _ _ 35 rfl (w.heap.size + 2) 3 i0 (.int .i64 0) 1 8 Try.underlying35 hi hz0 hz1 hz2 rfl (by decide) _ _ _ rfl (HOWN.out.alloc _) ⟨w5.heap.size, 0, none⟩ 1 1 [.int .i64 (j : Int)] rfl rfl (cell_one_new _ _ _) (by simp [Value.oneCell']) hmx (by omega) (by simp; omega) ?_; intro v' w6 hown6 hgrow _; have HOWN6 := Lib.hid hown6; have HGR := Lib.hid hgrow; clear hown6 hgrow)
            have hgo : ∀ k, _ = some k → w.heap.size + 2 ≤ k := fun k e => ((HOWN.out.alloc (.cells #[.int .i64 (j : Int)] 3)).lt k e).1
            refine ⟨⟨j + 1, by omega, by simp, ?_, (k1.alloc _).kept HGR.out (fun e => by have := hgo _ e.symm; omega), (k2.alloc _).kept HGR.out (fun e => by have := hgo _ e.symm; omega), (hb7.alloc hsz5 _).grown HGR.out (by simp; omega) (fun k e => by have := hgo _ e; omega)⟩, by simp [intOf]; omega⟩
            rw [HWL.out, HO.out]
            simpa using HOWN6.out
        · obtain rfl : j = fs.length := by omega
          have c0 := g1.cell 1
          have p0 := g2.cell 0
          have p1 := g2.cell 1
          simp only [List.getElem?_toArray, List.getElem?_cons_zero, List.getElem?_cons_succ] at c0 p0 p1
          have hoo := hRr.2
          simp only [] at hoo
          have hl12 : os.length ≤ 100000 := checkE_opens HE.out
          go_wp2_with fail
          refine (openAt_any oa os.length oc os p _ hoo hl12).mono ?_
          rintro e w5 ⟨rfl, hb5⟩
          have hown5 := ownsRow_below HW.out hb5
          have HOWN := Lib.hid hown5
          clear hown5
          go_wp2_with fail
          go_ret3
          refine ⟨g3.trans (hb5.mono g3.size), ?_⟩
          rw [if_neg (by rw [HE.out]; simp), if_neg (by rw [show p.okB = true from HP.out]; simp)]
          exact ⟨_, rfl, isInts_of HOWN.out⟩
  · have hz : (E == 0) = false := by simp [h0]
    have hz' : (E != 0) = true := by simp [h0]
    have H0 := Lib.hid h0
    clear h0
    go_wp2_with fail
    go_ret3
    refine ⟨hB1, ?_⟩
    rw [if_pos (by rw [HE.out]; exact H0.out), HE.out]
    rfl
end Go.Proofs.Ytpdgcajbdaleeaa
