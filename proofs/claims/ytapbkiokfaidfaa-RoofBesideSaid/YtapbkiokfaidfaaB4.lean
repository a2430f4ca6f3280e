/- RoofBeside: the law's walk: it returns true. -/
import Derived.Test.YtapbkiokfaidfaaB3
import Derived.Deep.DeepCutAuto
namespace Go.Proofs.Ytapbkiokfaidfaa
open Go.RowKit

/-- The cells that a call of 'ends' reads: the roof's box, an edge's box, a face. -/
abbrev HeldB (W : World) (B X b o : Nat) (s : Value) (i k : Int) (f : Fac) (w : World) : Prop := Below W.heap.size W w ∧
  (w.cell? ⟨B, 0, none⟩ = some s ∧ (w.cell? ⟨X, 0, none⟩ = some (.int .i64 i) ∧ w.cell? ⟨X, 1, none⟩ = some (.int .i64 k)) ∧
  (w.cell? ⟨b, o, none⟩ = some (.string f.name) ∧ w.cell? ⟨b, o + 1, none⟩ = some (.int .i64 f.side) ∧ w.cell? ⟨b, o + 2, none⟩ = some (.int .i64 f.foot) ∧ w.cell? ⟨b, o + 3, none⟩ = some (.int .i64 f.base) ∧
    w.cell? ⟨b, o + 4, none⟩ = some (.int .i64 f.rise) ∧ w.cell? ⟨b, o + 5, none⟩ = some (.int .i64 f.run) ∧ w.cell? ⟨b, o + 6, none⟩ = some (.slice f.ca f.cs.length f.cc)))
theorem HeldB.step {W w w' : World} {B X b o : Nat} {s : Value} {i k : Int} {f : Fac} (h : HeldB W B X b o s i k f w) (hB : B < W.heap.size) (hX : X < W.heap.size) (hb : b < W.heap.size) (hbe : Below W.heap.size w w') : HeldB W B X b o s i k f w' := by
  have c : ∀ b i, b < W.heap.size → w'.cell? ⟨b, i, none⟩ = w.cell? ⟨b, i, none⟩ := fun b i hb' => hbe.cell (p := ⟨b, i, none⟩) hb'
  obtain ⟨h0, h1, ⟨x0, x1⟩, a0, a1, a2, a3, a4, a5, a6⟩ := h
  exact ⟨h0.trans hbe, (c _ _ hB).trans h1, ⟨(c _ _ hX).trans x0, (c _ _ hX).trans x1⟩, (c _ _ hb).trans a0, (c _ _ hb).trans a1, (c _ _ hb).trans a2, (c _ _ hb).trans a3, (c _ _ hb).trans a4, (c _ _ hb).trans a5, (c _ _ hb).trans a6⟩

theorem bel_alloc {w w' : World} (h : Below w.heap.size w w') (o : Obj) : Below w.heap.size w (w'.alloc o) := h.alloc h.size o
theorem bel_call {w w' w2 : World} (h : Below w.heap.size w w') (hb : Below w'.heap.size w' w2) : Below w.heap.size w w2 := h.trans (hb.mono h.size)
theorem bel_set {w w' : World} (h : Below w.heap.size w w') {A o : Nat} (hA : w.heap.size ≤ A) (v : Value) : Below w.heap.size w (w'.setCell ⟨A, o, none⟩ v) := h.setCell hA v
theorem bel_drew {w w' : World} (h : Below w.heap.size w w') : Below w.heap.size w w'.drew := h.drew

set_option maxRecDepth 100000 in
set_option maxHeartbeats 8000000 in
theorem besideLaw_any (R : Roo) (w : World) (hR : IsRoof w R) :
    Calls Try.prog 4 #[.agg #[.slice R.fa R.fs.length R.fc, .slice R.oa R.os.length R.oc]] w fun e w' => e = .returned (.bool true) ∧ Below w.heap.size w w' := by
  have hgreat := great_any R
  have hcheck := check_any R
  have hedges := edgesL_any R
  have hedge := edgeL_any R
  obtain ⟨fa, fc, fs, oa, oc, os⟩ := R
  simp only [] at hgreat hcheck hedges hedge
  have hB : Below w.heap.size w (w.alloc (.cells #[.slice fa fs.length fc, .slice oa os.length oc] 25)) := (Below.refl _ _).alloc (Nat.le_refl _) _
  have kR := Blk.new w 25 #[.slice fa fs.length fc, .slice oa os.length oc]
  have HG := Lib.hid hgreat
  have HC := Lib.hid hcheck
  have HED := Lib.hid hedges
  have HEG := Lib.hid hedge
  have HR := Lib.hid hR
  clear hR hgreat hcheck hedges hedge
  go_enter Try.func4, Try.ntmps4
  go_wp2_with fail
  refine (HG.out _ (HR.out.below hB)).mono ?_
  rintro e w1 ⟨hb1, gb, rfl, hgb⟩
  have hB1 := hB.trans (hb1.mono hB.size)
  have kR1 := kR.belowS hb1
  clear kR hB hb1 hgb
  cases gb with
  | true =>
    go_wp2_with fail
    refine (lives_any _).mono ?_
    rintro e w2 ⟨rfl, hb2⟩
    go_wp2_with fail
    go_ret
    exact ⟨rfl, hB1.trans (hb2.mono hB1.size)⟩
  | false =>
    have c0 := kR1.cell 0
    have c1 := kR1.cell 1
    simp only [List.getElem?_toArray, List.getElem?_cons_zero, List.getElem?_cons_succ] at c0 c1
    go_wp2_with fail
    refine (HC.out _ (HR.out.below hB1)).mono ?_
    rintro e w2 ⟨rfl, hb2⟩
    have hB2 := hB1.trans (hb2.mono hB1.size)
    have kR2 := kR1.belowS hb2
    clear kR1 hB1 hb2 c0 c1
    have c0 := kR2.cell 0
    have c1 := kR2.cell 1
    simp only [List.getElem?_toArray, List.getElem?_cons_zero, List.getElem?_cons_succ] at c0 c1
    generalize hE : checkE ⟨fa, fc, fs, oa, oc, os⟩ = E
    by_cases h0 : E = 0
    · subst h0
      have hz : ((0 : Int) == 0) = true := rfl
      have HE := Lib.hid hE
      clear hE
      go_wp2_with fail
      refine (HED.out _ (HR.out.below hB2) HE.out).mono ?_
      rintro e w3 ⟨hb3, v, rfl, heds⟩
      have hB3 := hB2.trans (hb3.mono hB2.size)
      have kR3 := kR2.belowS hb3
      clear kR2 hB2 hb3 c0 c1
      obtain ⟨la, lcap, rfl, hn1, hn2, hn3⟩ := heds.shape
      have hlf := (checkE_faces HE.out).1
      have hokf := (checkE_faces HE.out).2
      simp only [] at hlf hn1 hn3 ⊢ hokf
      have HOK := Lib.hid hokf
      have HN3 := Lib.hid hn3
      have hN : (allR fs fs.length).length = (allR fs fs.length).length := rfl
      generalize hNN : (allR fs fs.length).length = N at hN hn1 ⊢
      have HNN := Lib.hid hNN
      clear hn3 hN hNN heds hokf hz
      have lR := kR3.lt
      go_wp2_with fail
      go_loopw [5, 6, 7, 8, 9, 10, 11, 12, 13] (fun i _ _ _ _ _ _ _ _ wr => ∃ t : Nat, t ≤ N ∧ i = .int .i64 t ∧ Below w3.heap.size w3 wr) (fun i _ _ _ _ _ _ _ _ _ => N - (intOf i).toNat)
      case atStart => exact ⟨0, Nat.zero_le _, rfl, Below.refl _ _⟩
      case round =>
        obtain ⟨t, ht, rfl, g3⟩ := hrel
        have hB4 := hB3.trans (g3.mono hB3.size)
        by_cases hlt : t < N
        · obtain ⟨x, hx⟩ : ∃ x, (allR fs fs.length)[t]? = some x := ⟨_, List.getElem?_eq_getElem (by have := HNN.out; omega)⟩
          obtain ⟨i, F, k, hil, hq, hkl, rfl, htt⟩ := allR_of (Nat.le_refl _) t x hx
          obtain ⟨g, rfl, hgl, hed⟩ := HN3.out t _ hx
          have hed4 := hed.below g3 hgl
          have hfact := edge_facts HE.out hq hkl
          simp only [] at hfact
          have ht0 : (0 : Int) ≤ (t : Int) := Int.natCast_nonneg _
          have ht1 : (t : Int) < (N : Int) := by omega
          clear hx
          rcases hfact with hfe | ⟨b', m, G, hfe, hqG, hbl, hmG, hback, hne, hfe'⟩
          · rw [hfe] at hed4
            obtain ⟨e0, e1, e2, e3, e4⟩ := hed4
            have hka := kindA_alone F (edgN F.cs k)
            simp only [] at e0 e1 e2 e3 e4
            generalize kindA F (edgN F.cs k) = K at *
            have HQ := Lib.hid hq
            clear hfe hed hq htt
            rcases hka with rfl | rfl | rfl
            all_goals
              go_wp2_with fail
              refine ⟨⟨t + 1, by omega, by simp, ?_⟩, by simp [intOf]; omega⟩
              exact g3.trans (((Below.refl _ _).alloc (Nat.le_refl _) _).mono g3.size)
          · have hedY : EdAt wr g (((allR fs b').length + m) * 5) (edgR fs b' G m) := by
              obtain ⟨g', e1, _, h⟩ := HN3.out _ _ (allR_at hqG hmG hbl (Nat.le_refl _))
              simp only [Option.some.injEq, Addr.mk.injEq, and_true] at e1
              subst e1
              exact h.below g3 hgl
            have hel := fun w' hr' hg' hl' he' => HEG.out w' hr' HE.out g lcap hg' hl' b' m G hqG hmG he'
            rw [HNN.out] at hel
            rw [hfe'] at hedY hel
            rw [hfe] at hed4
            obtain ⟨e0, e1, e2, e3, e4⟩ := hed4
            have hkb := kindB_range F G (edgN F.cs k)
            simp only [] at e0 e1 e2 e3 e4 hel
            generalize kindB F G (edgN F.cs k) = K at *
            have k1 : (K == 1) = false := by rw [beq_eq_false_iff_ne]; omega
            have k2 : (K == 2) = false := by rw [beq_eq_false_iff_ne]; omega
            have k3 : (K == 3) = false := by rw [beq_eq_false_iff_ne]; omega
            have kbi : ((b' : Int) == (i : Int)) = false := by rw [beq_eq_false_iff_ne]; omega
            have hb0 : (0 : Int) ≤ (b' : Int) := Int.natCast_nonneg _
            have hi0 : (0 : Int) ≤ (i : Int) := Int.natCast_nonneg _
            have hb1 : (b' : Int) < (fs.length : Int) := by omega
            have hi1 : (i : Int) < (fs.length : Int) := by omega
            obtain ⟨fb, fo, rfl, f2, f3, f4, hfaF, hfinF⟩ := (HR.out.below hB4).face hq
            obtain ⟨fb', fo', e, _, _, _, hfaG, hfinG⟩ := (HR.out.below hB4).face hqG
            simp only [Option.some.injEq, Addr.mk.injEq, and_true] at e
            obtain ⟨rfl, rfl⟩ := e
            have hclF := (HOK.out F (List.mem_of_getElem? hq)).2
            have hclG := (HOK.out G (List.mem_of_getElem? hqG)).2
            simp only [] at f3 f4
            have HEL := Lib.hid hel
            have HFF := Lib.hid hfaF
            have HFG := Lib.hid hfaG
            have HIF := Lib.hid hfinF
            have HIG := Lib.hid hfinG
            have HBK := Lib.hid hback
            have HEY := Lib.hid hedY
            have kR4 := kR3.belowS g3
            have c0 := kR4.cell 0
            have c1 := kR4.cell 1
            have lR4 := kR4.lt
            simp only [List.getElem?_toArray, List.getElem?_cons_zero, List.getElem?_cons_succ] at c0 c1
            clear hfe hfe' hed hq hqG htt hel hfaF hfaG hfinF hfinG hback hedY
            have hbx : Below wr.heap.size wr (wr.alloc (.cells #[.int .i64 i, .int .i64 k, .int .i64 K, .int .i64 b', .int .i64 m] 51)) := (Below.refl _ _).alloc (Nat.le_refl _) _
            have kX := Blk.new wr 51 #[.int .i64 i, .int .i64 k, .int .i64 K, .int .i64 b', .int .i64 m]
            go_wp2_with fail
            refine (HEL.out _ ((HR.out.below hB4).below hbx) (by have := g3.size; simp; omega) hn1 (HEY.out.below hbx (Nat.lt_of_lt_of_le hgl g3.size))).mono ?_
            rintro e w5 ⟨hb5, rfl⟩
            have kX5 := kX.belowS hb5
            have g5 := hbx.trans (hb5.mono hbx.size)
            have kR5 := kR4.belowS g5
            clear c0 c1 kX hbx hb5 kR4
            have x0 := kX5.cell 0
            have x1 := kX5.cell 1
            have x2 := kX5.cell 2
            have x3 := kX5.cell 3
            have x4 := kX5.cell 4
            have lX := kX5.lt
            have lR5 := kR5.lt
            have c0 := kR5.cell 0
            simp only [List.getElem?_toArray, List.getElem?_cons_zero, List.getElem?_cons_succ] at x0 x1 x2 x3 x4 c0
            go_upto_region 17 with fail
            have kY6 := Blk.new w5 51 #[.int .i64 b', .int .i64 m, .int .i64 K, .int .i64 i, .int .i64 k]
            have kX6 := kX5.alloc (.cells #[.int .i64 b', .int .i64 m, .int .i64 K, .int .i64 i, .int .i64 k] 51)
            have kR6 := kR5.alloc (.cells #[.int .i64 b', .int .i64 m, .int .i64 K, .int .i64 i, .int .i64 k] 51)
            have g6 : Below wr.heap.size wr (w5.alloc (.cells #[.int .i64 b', .int .i64 m, .int .i64 K, .int .i64 i, .int .i64 k] 51)) := g5.alloc g5.size _
            generalize w5.alloc (.cells #[.int .i64 b', .int .i64 m, .int .i64 K, .int .i64 i, .int .i64 k] 51) = W6 at *
            clear kX5 kR5 x0 x1 x2 x3 x4 c0 lX lR5 g5
            have hfl := Nat.lt_of_lt_of_le f2 g6.size
            have lX := kX6.lt
            have lR := kR6.lt
            go_cut [10, 11] from 29 to 141 (fun s10 s11 wx => ∃ A B, s10 = .pointer (some ⟨A, 0, none⟩) ∧ s11 = .pointer (some ⟨B, 0, none⟩) ∧ (wx.cell? ⟨A, 0, none⟩ = some (.int .i64 (edgN F.cs k).a.x) ∧ wx.cell? ⟨A, 1, none⟩ = some (.int .i64 (edgN F.cs k).a.y)) ∧ (wx.cell? ⟨B, 0, none⟩ = some (.int .i64 (edgN F.cs k).b.x) ∧ wx.cell? ⟨B, 1, none⟩ = some (.int .i64 (edgN F.cs k).b.y)) ∧ Below W6.heap.size W6 wx)
            case first =>
              have hends := fun w' hp => ends_any F k w' hp hkl hclF
              generalize edgN F.cs k = E at *
              obtain ⟨⟨ax, ay⟩, bx, by'⟩ := E
              simp only [] at hends
              have HEN := Lib.hid hends
              have hfin6 := HIF.out.below g6
              have HF6 := Lib.hid hfin6
              clear hends hfin6
              have hx : HeldB W6 w.heap.size wr.heap.size fb (fo + i * 7) (.slice (some ⟨fb, fo, none⟩) fs.length fc) i k F W6 := by
                obtain ⟨d0, d1, d2, d3, d4, d5, d6⟩ := HFF.out.below g6 f2
                exact ⟨Below.refl _ _, kR6.cell 0, ⟨kX6.cell 0, kX6.cell 1⟩, d0, d1, d2, d3, d4, d5, d6⟩
              go_region_held3 (fun w' => Below W6.heap.size W6 w' ∧ (w'.cell? ⟨w.heap.size, 0, none⟩ = some (.slice (some ⟨fb, fo, none⟩) fs.length fc) ∧ (w'.cell? ⟨wr.heap.size, 0, none⟩ = some (.int .i64 i) ∧ w'.cell? ⟨wr.heap.size, 1, none⟩ = some (.int .i64 k)) ∧
                  (w'.cell? ⟨fb, fo + i * 7, none⟩ = some (.string F.name) ∧ w'.cell? ⟨fb, fo + i * 7 + 1, none⟩ = some (.int .i64 F.side) ∧ w'.cell? ⟨fb, fo + i * 7 + 2, none⟩ = some (.int .i64 F.foot) ∧ w'.cell? ⟨fb, fo + i * 7 + 3, none⟩ = some (.int .i64 F.base) ∧
                    w'.cell? ⟨fb, fo + i * 7 + 4, none⟩ = some (.int .i64 F.rise) ∧ w'.cell? ⟨fb, fo + i * 7 + 5, none⟩ = some (.int .i64 F.run) ∧ w'.cell? ⟨fb, fo + i * 7 + 6, none⟩ = some (.slice F.ca F.cs.length F.cc))))
                ((refine HeldB.step hx lR lX hfl ?_; repeat (first | (with_reducible exact Below.refl _ _) | (with_reducible refine bel_alloc ?_ _) | (with_reducible refine bel_drew ?_) | (with_reducible refine bel_call ?_ hb7) | (with_reducible refine bel_set ?_ ?hA _; case hA => (first | exact Nat.le_refl _ | exact Nat.le_succ _)))))
                (first | (go_at_call 12; (refine (HEN.out _ (HF6.out.1.below (And.left (by with_reducible assumption)))).mono ?_); rintro r w7 ⟨rfl, hb7⟩; (first | (have y1 := (show Blk ((W6.alloc (.cells #[.int .i64 0, .int .i64 0] 27)).alloc (.cells #[.int .i64 0, .int .i64 0] 27)).drew _ _ _ from (Blk.new W6 27 #[.int .i64 0, .int .i64 0]).alloc (.cells #[.int .i64 0, .int .i64 0] 27)).belowS hb7; have y2 := (show Blk ((W6.alloc (.cells #[.int .i64 0, .int .i64 0] 27)).alloc (.cells #[.int .i64 0, .int .i64 0] 27)).drew _ _ _ from Blk.new (W6.alloc (.cells #[.int .i64 0, .int .i64 0] 27)) 27 #[.int .i64 0, .int .i64 0]).belowS hb7; simp only [World.size_alloc] at y2; have y10 := y1.cell 0; have y11 := y1.cell 1; have y1f0 := y1.frozen 0; have y1f1 := y1.frozen 1; have y1l := y1.lt; simp only [List.getElem?_toArray, List.getElem?_cons_zero, List.getElem?_cons_succ] at y10 y11; have y20 := y2.cell 0; have y21 := y2.cell 1; have y2f0 := y2.frozen 0; have y2f1 := y2.frozen 1; have y2l := y2.lt; simp only [List.getElem?_toArray, List.getElem?_cons_zero, List.getElem?_cons_succ] at y20 y21; clear y1 y2) | (have y1 := (show Blk (W6.alloc (.cells #[.int .i64 0, .int .i64 0] 27)).drew _ _ _ from Blk.new W6 27 #[.int .i64 0, .int .i64 0]).belowS hb7; have y10 := y1.cell 0; have y11 := y1.cell 1; have y1f0 := y1.frozen 0; have y1f1 := y1.frozen 1; have y1l := y1.lt; simp only [List.getElem?_toArray, List.getElem?_cons_zero, List.getElem?_cons_succ] at y10 y11; clear y1) | skip)))
              all_goals
                go_wp2_with fail
                go_meet
                refine ⟨_, _, rfl, rfl, ⟨?_, ?_⟩, ⟨?_, ?_⟩, ?_⟩
                all_goals first | (go_simp; done) | (repeat (first | (with_reducible exact Below.refl _ _) | (with_reducible refine bel_alloc ?_ _) | (with_reducible refine bel_drew ?_) | (with_reducible refine bel_call ?_ hb7) | (with_reducible refine bel_set ?_ ?hA _; case hA => (first | exact Nat.le_refl _ | exact Nat.le_succ _))))
            case rest =>
              obtain ⟨A, B, rfl, rfl, ⟨a0, a1⟩, ⟨b0, b1⟩, hcb⟩ := hcut
              have gc : Below wr.heap.size wr wc := g6.trans (hcb.mono g6.size)
              have kRc := kR6.belowS hcb
              have kXc := kX6.belowS hcb
              have kYc := kY6.belowS hcb
              have lRc := kRc.lt
              have lYc := kYc.lt
              have hflc := Nat.lt_of_lt_of_le f2 gc.size
              have lA := World.block_lt_of_cell? _ _ a0
              have lB := World.block_lt_of_cell? _ _ b0
              have hkK : ((K == K) = true) := by simp
              go_upto_region 18 with fail
              go_cut [12, 13] from 29 to 141 (fun s12 s13 wx => ∃ A B, s12 = .pointer (some ⟨A, 0, none⟩) ∧ s13 = .pointer (some ⟨B, 0, none⟩) ∧ (wx.cell? ⟨A, 0, none⟩ = some (.int .i64 (edgN G.cs m).a.x) ∧ wx.cell? ⟨A, 1, none⟩ = some (.int .i64 (edgN G.cs m).a.y)) ∧ (wx.cell? ⟨B, 0, none⟩ = some (.int .i64 (edgN G.cs m).b.x) ∧ wx.cell? ⟨B, 1, none⟩ = some (.int .i64 (edgN G.cs m).b.y)) ∧ Below wc.heap.size wc wx)
              case first =>
                have hends := fun w' hp => ends_any G m w' hp hmG hclG
                generalize edgN G.cs m = E at *
                obtain ⟨⟨ax, ay⟩, bx, by'⟩ := E
                simp only [] at hends
                have HEN := Lib.hid hends
                have hfin6 := HIG.out.below gc
                have HF6 := Lib.hid hfin6
                clear hends hfin6
                have hx : HeldB wc w.heap.size w5.heap.size fb (fo + b' * 7) (.slice (some ⟨fb, fo, none⟩) fs.length fc) b' m G wc := by
                  obtain ⟨d0, d1, d2, d3, d4, d5, d6⟩ := HFG.out.below gc f2
                  exact ⟨Below.refl _ _, kRc.cell 0, ⟨kYc.cell 0, kYc.cell 1⟩, d0, d1, d2, d3, d4, d5, d6⟩
                go_region_held3 (fun w' => Below wc.heap.size wc w' ∧ (w'.cell? ⟨w.heap.size, 0, none⟩ = some (.slice (some ⟨fb, fo, none⟩) fs.length fc) ∧ (w'.cell? ⟨w5.heap.size, 0, none⟩ = some (.int .i64 b') ∧ w'.cell? ⟨w5.heap.size, 1, none⟩ = some (.int .i64 m)) ∧
                    (w'.cell? ⟨fb, fo + b' * 7, none⟩ = some (.string G.name) ∧ w'.cell? ⟨fb, fo + b' * 7 + 1, none⟩ = some (.int .i64 G.side) ∧ w'.cell? ⟨fb, fo + b' * 7 + 2, none⟩ = some (.int .i64 G.foot) ∧ w'.cell? ⟨fb, fo + b' * 7 + 3, none⟩ = some (.int .i64 G.base) ∧
                      w'.cell? ⟨fb, fo + b' * 7 + 4, none⟩ = some (.int .i64 G.rise) ∧ w'.cell? ⟨fb, fo + b' * 7 + 5, none⟩ = some (.int .i64 G.run) ∧ w'.cell? ⟨fb, fo + b' * 7 + 6, none⟩ = some (.slice G.ca G.cs.length G.cc))))
                  ((refine HeldB.step hx lRc lYc hflc ?_; repeat (first | (with_reducible exact Below.refl _ _) | (with_reducible refine bel_alloc ?_ _) | (with_reducible refine bel_drew ?_) | (with_reducible refine bel_call ?_ hb7) | (with_reducible refine bel_set ?_ ?hA _; case hA => (first | exact Nat.le_refl _ | exact Nat.le_succ _)))))
                  (first | (go_at_call 12; (refine (HEN.out _ (HF6.out.1.below (And.left (by with_reducible assumption)))).mono ?_); rintro r w7 ⟨rfl, hb7⟩; (first | (have y1 := (show Blk ((wc.alloc (.cells #[.int .i64 0, .int .i64 0] 27)).alloc (.cells #[.int .i64 0, .int .i64 0] 27)).drew _ _ _ from (Blk.new wc 27 #[.int .i64 0, .int .i64 0]).alloc (.cells #[.int .i64 0, .int .i64 0] 27)).belowS hb7; have y2 := (show Blk ((wc.alloc (.cells #[.int .i64 0, .int .i64 0] 27)).alloc (.cells #[.int .i64 0, .int .i64 0] 27)).drew _ _ _ from Blk.new (wc.alloc (.cells #[.int .i64 0, .int .i64 0] 27)) 27 #[.int .i64 0, .int .i64 0]).belowS hb7; simp only [World.size_alloc] at y2; have y10 := y1.cell 0; have y11 := y1.cell 1; have y1f0 := y1.frozen 0; have y1f1 := y1.frozen 1; have y1l := y1.lt; simp only [List.getElem?_toArray, List.getElem?_cons_zero, List.getElem?_cons_succ] at y10 y11; have y20 := y2.cell 0; have y21 := y2.cell 1; have y2f0 := y2.frozen 0; have y2f1 := y2.frozen 1; have y2l := y2.lt; simp only [List.getElem?_toArray, List.getElem?_cons_zero, List.getElem?_cons_succ] at y20 y21; clear y1 y2) | (have y1 := (show Blk (wc.alloc (.cells #[.int .i64 0, .int .i64 0] 27)).drew _ _ _ from Blk.new wc 27 #[.int .i64 0, .int .i64 0]).belowS hb7; have y10 := y1.cell 0; have y11 := y1.cell 1; have y1f0 := y1.frozen 0; have y1f1 := y1.frozen 1; have y1l := y1.lt; simp only [List.getElem?_toArray, List.getElem?_cons_zero, List.getElem?_cons_succ] at y10 y11; clear y1) | skip)))
                all_goals
                  go_wp2_with fail
                  go_meet
                  refine ⟨_, _, rfl, rfl, ⟨?_, ?_⟩, ⟨?_, ?_⟩, ?_⟩
                  all_goals first | (go_simp; done) | (repeat (first | (with_reducible exact Below.refl _ _) | (with_reducible refine bel_alloc ?_ _) | (with_reducible refine bel_drew ?_) | (with_reducible refine bel_call ?_ hb7) | (with_reducible refine bel_set ?_ ?hA _; case hA => (first | exact Nat.le_refl _ | exact Nat.le_succ _))))
              case rest =>
                obtain ⟨C, D, rfl, rfl, ⟨p0, p1⟩, ⟨q0, q1⟩, hdb⟩ := hcut
                replace a0 := (hdb.cell (p := ⟨A, 0, none⟩) lA).trans a0
                replace a1 := (hdb.cell (p := ⟨A, 1, none⟩) lA).trans a1
                replace b0 := (hdb.cell (p := ⟨B, 0, none⟩) lB).trans b0
                replace b1 := (hdb.cell (p := ⟨B, 1, none⟩) lB).trans b1
                rw [HBK.out] at p0 p1 q0 q1
                simp only [bck] at p0 p1 q0 q1
                generalize edgN F.cs k = E at *
                obtain ⟨⟨ax, ay⟩, bx, by'⟩ := E
                simp only [] at a0 a1 b0 b1 p0 p1 q0 q1
                have s1 : ∀ wx, (Op.equalIn 10000 27 (.agg #[.int .i64 ax, .int .i64 ay]) (.agg #[.int .i64 ax, .int .i64 ay])).run Try.prog wx = .ok true wx := fun wx => (run_equalIn_at 9998 ⟨ax, ay⟩ ⟨ax, ay⟩ wx).trans (by simp)
                have s2 : ∀ wx, (Op.equalIn 10000 27 (.agg #[.int .i64 bx, .int .i64 by']) (.agg #[.int .i64 bx, .int .i64 by'])).run Try.prog wx = .ok true wx := fun wx => (run_equalIn_at 9998 ⟨bx, by'⟩ ⟨bx, by'⟩ wx).trans (by simp)
                clear kRc kXc kYc kR6 kX6 kY6
                go_wp2_with fail
                refine ⟨⟨t + 1, by omega, by simp, ?_⟩, by simp [intOf]; omega⟩
                exact g3.trans ((gc.trans (hdb.mono gc.size)).mono g3.size)
        · obtain rfl : t = N := by omega
          go_wp2_with fail
          refine (lives_any _).mono ?_
          rintro e w4 ⟨rfl, hb4⟩
          go_wp2_with fail
          go_ret
          exact ⟨rfl, hB4.trans (hb4.mono hB4.size)⟩
    · have hz : (E == 0) = false := by simp [h0]
      have hz' : (E != 0) = true := by simp [h0]
      clear h0 hE
      go_wp2_with fail
      refine (lives_any _).mono ?_
      rintro e w3 ⟨rfl, hb3⟩
      go_wp2_with fail
      go_ret
      exact ⟨rfl, hB2.trans (hb3.mono hB2.size)⟩
end Go.Proofs.Ytapbkiokfaidfaa
