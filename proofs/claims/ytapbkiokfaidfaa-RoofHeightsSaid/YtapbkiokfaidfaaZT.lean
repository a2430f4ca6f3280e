/- RoofInside: the law's walk: it returns true. -/
import Derived.Test.YtapbkiokfaidfaaZR
import Derived.Test.YtapbkiokfaidfaaZA
import Derived.Test.YtapbkiokfaidfaaZN
import Derived.Test.YtapbkiokfaidfaaZO
namespace Go.Proofs.Ytapbkiokfaidfaa
open Go.RowKit

theorem IsRoof.face {w : World} {R : Roo} (h : IsRoof w R) {j : Nat} {F : Fac} (hq : R.fs[j]? = some F) :
    ∃ b off, R.fa = some ⟨b, off, none⟩ ∧ b < w.heap.size ∧ R.fs.length ≤ R.fc ∧ R.fc ≤ 9223372036854775807 ∧ FacAt w b (off + j * 7) F ∧ FacIn w F := by
  rcases h.1 with ⟨_, hn⟩ | ⟨b, off, c, h1, h2, h3, h4, h5⟩
  · rw [hn] at hq; simp at hq
  · obtain ⟨e1, _, rfl⟩ := slice_inj h1
    exact ⟨b, off, e1, h2, h3, h4, h5 j F hq⟩
theorem IsRoof.opn {w : World} {R : Roo} (h : IsRoof w R) {j : Nat} {F : Opn} (hq : R.os[j]? = some F) :
    ∃ b off, R.oa = some ⟨b, off, none⟩ ∧ b < w.heap.size ∧ R.os.length ≤ R.oc ∧ R.oc ≤ 9223372036854775807 ∧ OpnAt w b (off + j * 6) F ∧ F.name.size ≤ maxLen := by
  rcases h.2 with ⟨_, hn⟩ | ⟨b, off, c, h1, h2, h3, h4, h5⟩
  · rw [hn] at hq; simp at hq
  · obtain ⟨e1, _, rfl⟩ := slice_inj h1
    exact ⟨b, off, e1, h2, h3, h4, h5 j F hq⟩

/-- A slice of numbers whose address is known where it has an element. -/
theorem IsInts.shape {w : World} {v : Value} {l : List Int} (h : IsInts w v l) : ∃ a cap, v = .slice a l.length cap ∧ l.length ≤ cap ∧ cap ≤ 9223372036854775807 ∧
    ∀ (j : Nat) (x : Int), l[j]? = some x → ∃ b off, a = some ⟨b, off, none⟩ ∧ b < w.heap.size ∧ w.cell? ⟨b, off + j, none⟩ = some (.int .i64 x) := by
  rcases h with ⟨rfl, rfl⟩ | ⟨b, off, cap, rfl, h2, h3, h4, h5⟩
  · exact ⟨none, 0, rfl, Nat.le_refl _, by omega, fun j x hx => by simp at hx⟩
  · exact ⟨some ⟨b, off, none⟩, cap, rfl, h3, h4, fun j x hx => ⟨b, off, rfl, h2, h5 j x hx⟩⟩

def onK (l : List Pnt) (p : Pnt) (m : Nat) : Bool := (List.range m).all fun k => decide (0 ≤ (edgN l k).side p)
def wiK (l : List Pnt) (p : Pnt) (m : Nat) : Bool := (List.range m).all fun k => decide (0 < (edgN l k).side p)
theorem onK_succ (l : List Pnt) (p : Pnt) (m : Nat) : onK l p (m + 1) = (onK l p m && decide (0 ≤ (edgN l m).side p)) := by
  unfold onK; rw [List.range_succ, List.all_append]; simp
theorem wiK_succ (l : List Pnt) (p : Pnt) (m : Nat) : wiK l p (m + 1) = (wiK l p m && decide (0 < (edgN l m).side p)) := by
  unfold wiK; rw [List.range_succ, List.all_append]; simp

/-- The cells of three points. -/
abbrev Held3 (W : World) (A B C : Nat) (a b c : Pnt) (w : World) : Prop := Below W.heap.size W w ∧
  ((w.cell? ⟨A, 0, none⟩ = some (.int .i64 a.x) ∧ w.cell? ⟨A, 1, none⟩ = some (.int .i64 a.y)) ∧ (w.cell? ⟨B, 0, none⟩ = some (.int .i64 b.x) ∧ w.cell? ⟨B, 1, none⟩ = some (.int .i64 b.y)) ∧
    (w.cell? ⟨C, 0, none⟩ = some (.int .i64 c.x) ∧ w.cell? ⟨C, 1, none⟩ = some (.int .i64 c.y)))
theorem Held3.step {W w w' : World} {A B C : Nat} {a b c : Pnt} (h : Held3 W A B C a b c w) (hA : A < W.heap.size) (hB : B < W.heap.size) (hC : C < W.heap.size) (hb : Below w.heap.size w w') : Held3 W A B C a b c w' := by
  have hs := h.1.size
  have k : ∀ b i, b < W.heap.size → w'.cell? ⟨b, i, none⟩ = w.cell? ⟨b, i, none⟩ := fun b i hb' => hb.cell (p := ⟨b, i, none⟩) (Nat.lt_of_lt_of_le hb' hs)
  obtain ⟨h0, ⟨a0, a1⟩, ⟨b0, b1⟩, c0, c1⟩ := h
  exact ⟨h0.trans (hb.mono hs), ⟨(k _ _ hA).trans a0, (k _ _ hA).trans a1⟩, ⟨(k _ _ hB).trans b0, (k _ _ hB).trans b1⟩, (k _ _ hC).trans c0, (k _ _ hC).trans c1⟩

set_option maxRecDepth 100000 in
set_option maxHeartbeats 8000000 in
theorem insideLaw_any (R : Roo) (p : Pnt) (w : World) (hR : IsRoof w R) :
    Calls Try.prog 3 #[.agg #[.slice R.fa R.fs.length R.fc, .slice R.oa R.os.length R.oc], .agg #[.int .i64 p.x, .int .i64 p.y]] w fun e w' => e = .returned (.bool true) ∧ Below w.heap.size w w' := by
  have hgreat := great_any R
  have hwhere := where_any R p
  obtain ⟨fa, fc, fs, oa, oc, os⟩ := R
  simp only [] at hgreat hwhere
  have hB : Below w.heap.size w ((w.alloc (.cells #[.slice fa fs.length fc, .slice oa os.length oc] 25)).alloc (.cells #[.int .i64 p.x, .int .i64 p.y] 27)) := ((Below.refl _ _).alloc (Nat.le_refl _) _).alloc (by simp) _
  have kR := (Blk.new w 25 #[.slice fa fs.length fc, .slice oa os.length oc]).alloc (.cells #[.int .i64 p.x, .int .i64 p.y] 27)
  have kP := Blk.new (w.alloc (.cells #[.slice fa fs.length fc, .slice oa os.length oc] 25)) 27 #[.int .i64 p.x, .int .i64 p.y]
  simp only [World.size_alloc] at kP
  have HG := Lib.hid hgreat
  have HWH := Lib.hid hwhere
  have HR := Lib.hid hR
  clear hR hgreat hwhere
  go_enter Try.func3, Try.ntmps3
  go_wp2_with fail
  refine (HG.out _ (HR.out.below hB)).mono ?_
  rintro e w1 ⟨hb1, gb, rfl, hgb⟩
  have hB1 := hB.trans (hb1.mono hB.size)
  have kR1 := kR.belowS hb1
  have kP1 := kP.belowS hb1
  clear kR kP hB hb1
  cases gb with
  | true =>
    clear hgb
    go_wp2_with fail
    refine (lives_any _).mono ?_
    rintro e w2 ⟨rfl, hb2⟩
    go_wp2_with fail
    go_ret
    exact ⟨rfl, hB1.trans (hb2.mono hB1.size)⟩
  | false =>
    have c0 := kR1.cell 0
    have c1 := kR1.cell 1
    have p0 := kP1.cell 0
    have p1 := kP1.cell 1
    simp only [List.getElem?_toArray, List.getElem?_cons_zero, List.getElem?_cons_succ] at c0 c1 p0 p1
    clear hgb
    go_wp2_with fail
    refine (HWH.out _ (HR.out.below hB1)).mono ?_
    rintro e w2 ⟨hb2, hif⟩
    have hB2 := hB1.trans (hb2.mono hB1.size)
    have kR2 := kR1.belowS hb2
    have kP2 := kP1.belowS hb2
    clear kR1 kP1 hB1 hb2 c0 c1 p0 p1
    by_cases hE : checkE ⟨fa, fc, fs, oa, oc, os⟩ = 0
    · rw [if_neg (by simpa using hE)] at hif
      cases hP : p.okB with
      | false =>
        rw [if_pos hP] at hif
        subst hif
        clear hP hE
        go_wp2_with fail
        refine (lives_any _).mono ?_
        rintro e w3 ⟨rfl, hb3⟩
        go_wp2_with fail
        go_ret
        exact ⟨rfl, hB2.trans (hb3.mono hB2.size)⟩
      | true =>
        rw [if_neg (by rw [hP]; simp)] at hif
        obtain ⟨v, rfl, hints⟩ := hif
        have hpok : p.ok := Pnt.okB_iff.1 hP
        obtain ⟨hlf, hokf⟩ := checkE_faces hE
        have hlo := checkE_opens hE
        have hone : 0 ≤ insI fs p fs.length → (whereL fs p fs.length).length = 1 := whereL_one hE
        have hopf : ∀ k : Nat, openAtI os p = k → ∃ o, os[k]? = some o ∧ o.face = insI fs p fs.length := fun k hk => openAt_face hE hk
        have hopl := openAtI_lt os p
        simp only [] at hlf hokf hlo
        obtain ⟨la, lcap, rfl, hn1, hn2, hn3⟩ := hints.shape
        have hn4 : ∀ j x, (whereL fs p fs.length)[j]? = some x → ∃ b off, la = some ⟨b, off, none⟩ ∧ b < w2.heap.size ∧ w2.cell? ⟨b, off + j, none⟩ = some (.int .i64 (x : Nat)) := fun j x hx => hn3 j x (by rw [List.getElem?_map, hx]; rfl)
        rw [List.length_map] at hn1 ⊢
        have hwlen := whereL_le fs p fs.length
        generalize hop : openAtI os p = op at *
        have HOP := Lib.hid hop
        have HN4 := Lib.hid hn4
        have HOK := Lib.hid hokf
        have HONE := Lib.hid hone
        have HOPF := Lib.hid hopf
        have HOPL := Lib.hid hopl
        have HE := Lib.hid hE
        have HPOK := Lib.hid hpok
        generalize hN : (whereL fs p fs.length).length = N at *
        have HNN := Lib.hid hN
        clear hn3 hn4 hokf hone hopf hopl hE hpok hP hop hints hN
        have c0 := kR2.cell 0
        simp only [List.getElem?_toArray, List.getElem?_cons_zero] at c0
        have lR := kR2.lt
        have lP := kP2.lt
        go_wp2_with fail
        go_loopw [8, 9, 10, 11, 12, 13, 14, 15, 16] (fun at' ins i _ _ _ _ _ _ wr => ∃ j : Nat, j ≤ fs.length ∧ i = .int .i64 j ∧ at' = .int .i64 ((whereL fs p j).length : Nat) ∧ ins = .int .i64 (insI fs p j) ∧ Below w2.heap.size w2 wr) (fun _ _ i _ _ _ _ _ _ _ => fs.length - (intOf i).toNat)
        case atStart => exact ⟨0, Nat.zero_le _, rfl, rfl, rfl, Below.refl _ _⟩
        case round =>
          clear c0
          obtain ⟨j, hj, rfl, rfl, rfl, g2⟩ := hrel
          have hRr := HR.out.below (hB2.trans (g2.mono hB2.size))
          have c0 := (kR2.belowS g2).cell 0
          simp only [List.getElem?_toArray, List.getElem?_cons_zero] at c0
          by_cases hlj : j < fs.length
          · have hq : fs[j]? = some fs[j] := List.getElem?_eq_getElem hlj
            obtain ⟨b, off, rfl, h2, h3, h4, hfa, hfin⟩ := hRr.face hq
            obtain ⟨hokl, hokp⟩ := HOK.out fs[j] (List.getElem_mem hlj)
            have hnext := @whereL_next fs p j fs.length hlj
            have hother := @whereL_other fs p j fs.length
            have hsucc := whereL_succ fs p j
            have honF : onF fs p j = onL fs[j].cs p := by simp [onF, hq]
            have hins : insI fs p (j + 1) = if withinL fs[j].cs p = true then (j : Int) else insI fs p j := by
              have : wiF fs p j = withinL fs[j].cs p := by unfold wiF; rw [hq]
              rw [insI, this]
            rw [honF] at hnext hother hsucc
            have htl := whereL_le fs p j
            generalize fs[j] = F at *
            have HNX := Lib.hid hnext
            have HOT := Lib.hid hother
            have HSU := Lib.hid hsucc
            have HIN := Lib.hid hins
            have HFI := Lib.hid hfin
            have HFA := Lib.hid hfa
            have HOKL := Lib.hid hokl
            obtain ⟨d0, d1, d2, d3, d4, d5, d6⟩ := hfa
            have hcl : F.cs.length ≤ 1000 := hokp
            clear hnext hother hsucc hins hfin hokl hokp hRr hq honF d0 d1 d2 d3 d4 d5
            have hj0 : (0 : Int) ≤ (j : Int) := Int.natCast_nonneg _
            have hj1 : (j : Int) < (fs.length : Int) := by omega
            go_wp2_with fail
            obtain ⟨wq, rfl⟩ : ∃ wq : World, wq = wr := ⟨_, rfl⟩
            go_loopw [11, 12, 13, 14, 15, 16] (fun on wi k _ _ _ wr => ∃ m : Nat, m ≤ F.cs.length ∧ k = .int .i64 m ∧ on = .bool (onK F.cs p m) ∧ wi = .bool (wiK F.cs p m) ∧ Below wq.heap.size wq wr) (fun _ _ k _ _ _ _ => F.cs.length - (intOf k).toNat)
            case atStart => exact ⟨0, Nat.zero_le _, rfl, rfl, rfl, Below.refl _ _⟩
            case round =>
              clear c0 d6
              obtain ⟨m, hm, rfl, rfl, rfl, g3⟩ := hrel
              have g4 := g2.trans (g3.mono g2.size)
              obtain ⟨d0, d1, d2, d3, d4, d5, d6⟩ := HFA.out.below g3 h2
              have c0 := (kR2.belowS g4).cell 0
              simp only [List.getElem?_toArray, List.getElem?_cons_zero] at c0
              have hm0 : (0 : Int) ≤ (m : Int) := Int.natCast_nonneg _
              have hm1 : (m : Int) ≤ (F.cs.length : Int) := by omega
              by_cases hlm : m < F.cs.length
              · go_wp2_with fail
                refine (ends_any F m _ ((HFI.out.below g3).1) hlm hcl).mono ?_
                rintro e w3 ⟨rfl, hb3⟩
                have g5 := g4.trans (hb3.mono g4.size)
                have E0 : (edgN F.cs m).ok := edgN_ok HOKL.out m
                have hside : (edgN F.cs m).side p = ((edgN F.cs m).b.x - (edgN F.cs m).a.x) * (p.y - (edgN F.cs m).a.y) - ((edgN F.cs m).b.y - (edgN F.cs m).a.y) * (p.x - (edgN F.cs m).a.x) := rfl
                have hons := onK_succ F.cs p m
                have hwis := wiK_succ F.cs p m
                rw [hside] at hons hwis
                generalize edgN F.cs m = E at *
                obtain ⟨⟨ax, ay⟩, bx, by'⟩ := E
                obtain ⟨px, py⟩ := p
                simp only [Edg.ok, Pnt.ok] at E0
                simp only [] at hons hwis
                have HP0 := HPOK.out
                simp only [Pnt.ok] at HP0
                obtain ⟨⟨⟨x1, x2⟩, x3, x4⟩, ⟨x5, x6⟩, x7, x8⟩ := E0
                obtain ⟨⟨y1, y2⟩, y3, y4⟩ := HP0
                have HON := Lib.hid hons
                have HWI := Lib.hid hwis
                clear hons hwis hside c0 d0 d1 d2 d3 d4 d5 d6
                simp only []
                go_wp2_with fail
                have hB6 : Below w3.heap.size w3 ((w3.alloc (.cells #[.int .i64 ax, .int .i64 ay] 27)).alloc (.cells #[.int .i64 bx, .int .i64 by'] 27)) := ((Below.refl _ _).alloc (Nat.le_refl _) _).alloc (by simp) _
                have kA := (Blk.new w3 27 #[.int .i64 ax, .int .i64 ay]).alloc (.cells #[.int .i64 bx, .int .i64 by'] 27)
                have kB := Blk.new (w3.alloc (.cells #[.int .i64 ax, .int .i64 ay] 27)) 27 #[.int .i64 bx, .int .i64 by']
                simp only [World.size_alloc] at kB
                have kC := (kP2.belowS g5).belowS hB6
                have hlC : w.heap.size + 1 < w3.heap.size := (kP2.belowS g5).lt
                generalize hW : ((w3.alloc (.cells #[.int .i64 ax, .int .i64 ay] 27)).alloc (.cells #[.int .i64 bx, .int .i64 by'] 27)) = W at *
                have hx : Held3 W w3.heap.size (w3.heap.size + 1) (w.heap.size + 1) ⟨ax, ay⟩ ⟨bx, by'⟩ ⟨px, py⟩ W.drew :=
                  ⟨(Below.refl _ _).drew, ⟨kA.cell 0, kA.cell 1⟩, ⟨kB.cell 0, kB.cell 1⟩, kC.cell 0, kC.cell 1⟩
                have l1 := kA.lt
                have l2 := kB.lt
                have l3 := kC.lt
                clear hW kA kB kC
                go_region_held3 (fun w' => Below W.heap.size W w' ∧ ((w'.cell? ⟨w3.heap.size, 0, none⟩ = some (.int .i64 ax) ∧ w'.cell? ⟨w3.heap.size, 1, none⟩ = some (.int .i64 ay)) ∧ (w'.cell? ⟨w3.heap.size + 1, 0, none⟩ = some (.int .i64 bx) ∧ w'.cell? ⟨w3.heap.size + 1, 1, none⟩ = some (.int .i64 by')) ∧
                    (w'.cell? ⟨w.heap.size + 1, 0, none⟩ = some (.int .i64 px) ∧ w'.cell? ⟨w.heap.size + 1, 1, none⟩ = some (.int .i64 py))))
                  (first | (with_reducible exact hx) | (with_reducible refine Held3.step (a := ⟨ax, ay⟩) (b := ⟨bx, by'⟩) (c := ⟨px, py⟩) ?_ l1 l2 l3 hb4; with_reducible assumption))
                  (first | (go_at_call 14; (with_reducible refine (less_any _ _ _ _ (by omega) (by omega) (by omega) (by omega) (by omega) (by omega) (by omega) (by omega) _).mono ?_); rintro r w4 ⟨rfl, hb4⟩) | (go_at_call 13; (with_reducible refine (leans_any _ _ _ _ (by omega) (by omega) (by omega) (by omega) (by omega) (by omega) (by omega) (by omega) _).mono ?_); rintro r w4 ⟨rfl, hb4⟩))
                have hb7 := (‹Below W.heap.size W w4 ∧ _›).1
                have g7 : Below w2.heap.size w2 w4 := g5.trans ((hB6.trans (hb7.mono hB6.size)).mono g5.size)
                have g8 : Below wq.heap.size wq w4 := (g3.trans (hb3.mono g3.size)).trans ((hB6.trans (hb7.mono hB6.size)).mono (g3.trans (hb3.mono g3.size)).size)
                rename_i hHeld
                clear hHeld hx hb7 hB6 hb3
                generalize (bx - ax) * (py - ay) - (by' - ay) * (px - ax) = n at *
                generalize onK F.cs ⟨px, py⟩ m = b1 at *
                generalize wiK F.cs ⟨px, py⟩ m = b2 at *
                have hcs : 0 < n ∨ n = 0 ∨ n < 0 := by omega
                rcases hcs with hn | hn | hn
                all_goals cases b1
                all_goals cases b2
                all_goals
                  go_wp2_with fail
                  refine ⟨⟨m + 1, by omega, by simp, ?_, ?_, g8⟩, by simp [intOf]; omega⟩
                  · rw [HON.out]; simp; try omega
                  · rw [HWI.out]; simp; try omega
              · obtain rfl : m = F.cs.length := by omega
                clear d0 d1 d2 d3 d4 d5
                have hb1 : onK F.cs p F.cs.length = onL F.cs p := rfl
                have hb2 : wiK F.cs p F.cs.length = withinL F.cs p := rfl
                have hnx := HNX.out
                have hot := HOT.out
                have hsu := HSU.out
                have hin := HIN.out
                rw [← hb1] at hnx hot hsu
                rw [← hb2] at hin
                clear hb1 hb2 HNX HOT HSU HIN
                generalize onK F.cs p F.cs.length = b1 at *
                generalize wiK F.cs p F.cs.length = b2 at *
                have hsl := congrArg List.length hsu
                rw [List.length_append] at hsl
                generalize (whereL fs p j).length = t at *
                generalize insI fs p j = I at *
                clear hsu
                cases b1 with
                | true =>
                  have hx := hnx rfl
                  have htN : t < N := by
                    have := (List.getElem?_eq_some_iff.1 hx).1
                    have := HNN.out
                    omega
                  obtain ⟨b', off', rfl, hb'l, hcell⟩ := HN4.out t j hx
                  have hcell' := (g4.cell (p := ⟨b', _, none⟩) hb'l).trans hcell
                  have ht' : (whereL fs p (j + 1)).length = t + 1 := by simpa using hsl
                  have HT := Lib.hid ht'
                  have HI := Lib.hid hin
                  have ht0 : (0 : Int) ≤ (t : Int) := Int.natCast_nonneg _
                  have htN' : (t : Int) < (N : Int) := by omega
                  clear hx hnx hot hsl hin hcell ht'
                  cases b2
                  all_goals
                    go_wp2_with fail
                    refine ⟨⟨j + 1, by omega, by simp, ?_, ?_, g4⟩, by simp [intOf]; omega⟩
                    · rw [HT.out]; simp
                    · rw [HI.out]; simp
                | false =>
                  have hx := hot rfl
                  have ht' : (whereL fs p (j + 1)).length = t := by simpa using hsl
                  have HT := Lib.hid ht'
                  have HI := Lib.hid hin
                  have ht0 : (0 : Int) ≤ (t : Int) := Int.natCast_nonneg _
                  have hxe : ∀ x, (whereL fs p fs.length)[t]? = some x → ((x : Int) == (j : Int)) = false := fun x h => by
                    rw [beq_eq_false_iff_ne]
                    intro he
                    rw [h] at hx
                    exact hx (by rw [show x = j by omega])
                  have hN := HNN.out
                  clear hx hnx hot hsl hin ht'
                  by_cases htN : t < N
                  · obtain ⟨x, hx⟩ : ∃ x, (whereL fs p fs.length)[t]? = some x := ⟨_, List.getElem?_eq_getElem (by omega)⟩
                    obtain ⟨b', off', rfl, hb'l, hcell⟩ := HN4.out t x hx
                    have hcell' := (g4.cell (p := ⟨b', _, none⟩) hb'l).trans hcell
                    have hxj := hxe x hx
                    have htN' : (t : Int) < (N : Int) := by omega
                    clear hxe hcell hx hN
                    cases b2
                    all_goals
                      go_wp2_with fail
                      refine ⟨⟨j + 1, by omega, by simp, ?_, ?_, g4⟩, by simp [intOf]; omega⟩
                      · rw [HT.out]
                      · rw [HI.out]; simp
                  · clear hxe hN
                    cases b2
                    all_goals
                      go_wp2_with fail
                      refine ⟨⟨j + 1, by omega, by simp, ?_, ?_, g4⟩, by simp [intOf]; omega⟩
                      · rw [HT.out]
                      · rw [HI.out]; simp
          · obtain rfl : j = fs.length := by omega
            have hN := HNN.out
            rw [hN]
            have c1 := (kR2.belowS g2).cell 1
            simp only [List.getElem?_toArray, List.getElem?_cons_zero, List.getElem?_cons_succ] at c1
            have hil := insI_lt fs p fs.length
            have hone := HONE.out
            have hopf := HOPF.out
            generalize insI fs p fs.length = I at *
            have HOPF2 := Lib.hid hopf
            clear hN hopf HOPF
            have hI : I = -1 ∨ 0 ≤ I ∧ N = 1 := by
              by_cases hI : 0 ≤ I
              · exact .inr ⟨hI, hone hI⟩
              · exact .inl (by omega)
            clear hone HONE
            have hop : op = -1 ∨ ∃ k : Nat, op = k ∧ k < os.length := by
              rcases HOPL.out with h | h
              · by_cases h0 : op = -1
                · exact .inl h0
                · obtain ⟨k, rfl⟩ := Int.eq_ofNat_of_zero_le (show 0 ≤ op by omega)
                  exact .inr ⟨k, rfl, by omega⟩
              · exact .inl h
            rcases hop with rfl | ⟨k, rfl, hko⟩
            · rcases hI with rfl | ⟨hI, rfl⟩
              all_goals
                go_wp2_with fail
                refine (lives_any _).mono ?_
                rintro e w3 ⟨rfl, hb3⟩
                have hB3 := hB2.trans ((g2.trans (hb3.mono g2.size)).mono hB2.size)
                go_wp2_with fail
                go_ret
                exact ⟨rfl, hB3⟩
            · obtain ⟨o, ho, hof⟩ := HOPF2.out k rfl
              obtain ⟨b', off', rfl, hb'l, hoc1, hoc2, ⟨o0, o1, o2, o3, o4, o5⟩, _⟩ := hRr.opn ho
              rw [hof] at o1
              have hk0 : (0 : Int) ≤ (k : Int) := Int.natCast_nonneg _
              have hk1 : (k : Int) < (os.length : Int) := by omega
              clear o0 o2 o3 o4 o5 ho hof HOPF2
              rcases hI with rfl | ⟨hI, rfl⟩
              all_goals
                go_wp2_with fail
                refine (lives_any _).mono ?_
                rintro e w3 ⟨rfl, hb3⟩
                have hB3 := hB2.trans ((g2.trans (hb3.mono g2.size)).mono hB2.size)
                go_wp2_with fail
                go_ret
                exact ⟨rfl, hB3⟩
    · rw [if_pos hE] at hif
      generalize checkE ⟨fa, fc, fs, oa, oc, os⟩ = E at hE hif
      subst hif
      have hz : (E == 0) = false := by simp [hE]
      have hz' : (E != 0) = true := by simp [hE]
      clear hE
      go_wp2_with fail
      refine (lives_any _).mono ?_
      rintro e w3 ⟨rfl, hb3⟩
      go_wp2_with fail
      go_ret
      exact ⟨rfl, hB2.trans (hb3.mono hB2.size)⟩
end Go.Proofs.Ytapbkiokfaidfaa
