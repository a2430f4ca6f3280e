/- RoofHeights: the law's walk: it returns true. -/
import Derived.Test.YtapbkiokfaidfaaB3
import Derived.Deep.DeepCutAuto
namespace Go.Proofs.Ytapbkiokfaidfaa
open Go.RowKit

/-- The cells that a call of 'ends' reads: the roof's box, an edge's box, a face. -/
abbrev HeldB (W : World) (B X b o : Nat) (s : Value) (i k : Int) (f : Fac) (w : World) : Prop := Below W.heap.size W w ∧
  (w.cell? ⟨B, 0, none⟩ = some s ∧ (w.cell? ⟨X, 0, none⟩ = some (.int .i64 i) ∧ w.cell? ⟨X, 1, none⟩ = some (.int .i64 k)) ∧
  (w.cell? ⟨b, o, none⟩ = some (.string f.name) ∧ w.cell? ⟨b, o + 1, none⟩ = some (.int .i64 f.side) ∧ w.cell? ⟨b, o + 2, none⟩ = some (.int .i64 f.foot) ∧ w.cell? ⟨b, o + 3, none⟩ = some (.int .i64 f.base) ∧
    w.cell? ⟨b, o + 4, none⟩ = some (.int .i64 f.rise) ∧ w.cell? ⟨b, o + 5, none⟩ = some (.int .i64 f.run) ∧ w.cell? ⟨b, o + 6, none⟩ = some (.slice f.ca f.cs.length f.cc)))
theorem HeldB.step {W w w' : World} {B X b o : Nat} {s : Value} {i k : Int} {f : Fac} (h : HeldB W B X b o s i k f w) (hB : B < W.heap.size) (hX : X < W.heap.size) (hb : b < W.heap.size) (hbe : Below W.heap.size w w') : HeldB W B X b o s i k f w' := by
  have c : ∀ b i, b < W.heap.size → w'.cell? ⟨b, i, none⟩ = w.cell? ⟨b, i, none⟩ := fun b i hb' => hbe.cell (p := ⟨b, i, none⟩) hb'
  obtain ⟨h0, h1, ⟨x0, x1⟩, a0, a1, a2, a3, a4, a5, a6⟩ := h
  exact ⟨h0.trans hbe, (c _ _ hB).trans h1, ⟨(c _ _ hX).trans x0, (c _ _ hX).trans x1⟩, (c _ _ hb).trans a0, (c _ _ hb).trans a1, (c _ _ hb).trans a2, (c _ _ hb).trans a3, (c _ _ hb).trans a4, (c _ _ hb).trans a5, (c _ _ hb).trans a6⟩

theorem bel_alloc {w w' : World} (h : Below w.heap.size w w') (o : Obj) : Below w.heap.size w (w'.alloc o) := h.alloc h.size o
theorem bel_call {w w' w2 : World} (h : Below w.heap.size w w') (hb : Below w'.heap.size w' w2) : Below w.heap.size w w2 := h.trans (hb.mono h.size)
theorem bel_set {w w' : World} (h : Below w.heap.size w w') {A o : Nat} (hA : w.heap.size ≤ A) (v : Value) : Below w.heap.size w (w'.setCell ⟨A, o, none⟩ v) := h.setCell hA v
theorem bel_drew {w w' : World} (h : Below w.heap.size w w') : Below w.heap.size w w'.drew := h.drew

theorem hgt_is (R : Roo) (hE : checkE R = 0) (i : Nat) (F : Fac) (hf : R.fs[i]? = some F) (p : Pnt) (hp : p.ok) (w : World) (hR : IsRoof w R) :
    Calls Try.prog 18 #[.agg #[.slice R.fa R.fs.length R.fc, .slice R.oa R.os.length R.oc], .int .i64 i, .agg #[.int .i64 p.x, .int .i64 p.y]] w fun e w' =>
      e = .returned (.tuple #[.agg #[.int .i64 (hgtN F p), .int .i64 (hgtD F p)], .int .i64 0]) ∧ Below w.heap.size w w' := by
  refine (height_any R i p w hR).mono ?_
  rintro e w' ⟨hb, h⟩
  have hi := (List.getElem?_eq_some_iff.1 hf).1
  have hh : hasB R (i : Int) = true := by simp [hasB, hi]
  rw [if_neg (by simpa using hE), if_neg (by rw [hh]; simp), if_neg (by rw [Pnt.okB_iff.2 hp]; simp)] at h
  obtain ⟨f, hf', rfl⟩ := h
  rw [Int.toNat_natCast, hf] at hf'
  obtain rfl := Option.some.inj hf'
  exact ⟨rfl, hb⟩

theorem edge_heights {f : Fac} (hf : f.ok) (E : Edg) : decide (hgtN f E.a = hgtN f E.b ∧ hgtD f E.a = hgtD f E.b) = (seenV f.side E == 0) := by
  rw [Bool.eq_iff_iff, decide_eq_true_eq, hgt_same hf, beq_iff_eq]
  unfold seenV
  omega
theorem kindA_heights {f : Fac} (hf : f.ok) (E : Edg) : decide (hgtN f E.a = hgtN f E.b ∧ hgtD f E.a = hgtD f E.b) = !(kindA f E == 2) := by
  rw [edge_heights hf]
  obtain ⟨h1, h2⟩ := kindA_level (f := f) (e := E)
  by_cases h : kindA f E = 2
  · rw [h]
    simpa using h1 h
  · rw [show (kindA f E == 2) = false by simpa using h]
    simpa using h2 h
theorem step_levels (f g : Fac) (E : Edg) : (kindB f g E == 4) = !(levelB f g E.a && levelB f g E.b) := by
  have := kindB_step f g E
  unfold stepB at this
  rw [Bool.eq_iff_iff, beq_iff_eq, this]
  cases levelB f g E.a <;> cases levelB f g E.b <;> simp

/-- The cells of the roof's box, of an edge's box and of two points. -/
structure HeldH (w : World) (B X A C : Nat) (s0 s1 : Value) (i k K wt : Int) (p q : Pnt) : Prop where
  r0 : w.cell? ⟨B, 0, none⟩ = some s0
  r1 : w.cell? ⟨B, 1, none⟩ = some s1
  x0 : w.cell? ⟨X, 0, none⟩ = some (.int .i64 i)
  x1 : w.cell? ⟨X, 1, none⟩ = some (.int .i64 k)
  x2 : w.cell? ⟨X, 2, none⟩ = some (.int .i64 K)
  x3 : w.cell? ⟨X, 3, none⟩ = some (.int .i64 wt)
  a0 : w.cell? ⟨A, 0, none⟩ = some (.int .i64 p.x)
  a1 : w.cell? ⟨A, 1, none⟩ = some (.int .i64 p.y)
  c0 : w.cell? ⟨C, 0, none⟩ = some (.int .i64 q.x)
  c1 : w.cell? ⟨C, 1, none⟩ = some (.int .i64 q.y)
theorem HeldH.below {w w' : World} {B X A C : Nat} {s0 s1 : Value} {i k K wt : Int} {p q : Pnt} (h : HeldH w B X A C s0 s1 i k K wt p q) (hb : Below w.heap.size w w') : HeldH w' B X A C s0 s1 i k K wt p q := by
  have c : ∀ b i v, w.cell? ⟨b, i, none⟩ = some v → w'.cell? ⟨b, i, none⟩ = some v := fun b i v hv => (hb.cell (p := ⟨b, i, none⟩) (World.block_lt_of_cell? _ _ hv)).trans hv
  exact ⟨c _ _ _ h.r0, c _ _ _ h.r1, c _ _ _ h.x0, c _ _ _ h.x1, c _ _ _ h.x2, c _ _ _ h.x3, c _ _ _ h.a0, c _ _ _ h.a1, c _ _ _ h.c0, c _ _ _ h.c1⟩

theorem HeldH.all {w : World} {B X A C : Nat} {s0 s1 : Value} {i k K wt : Int} {p q : Pnt} (h : HeldH w B X A C s0 s1 i k K wt p q) :
    w.cell? ⟨B, 0, none⟩ = some s0 ∧ w.cell? ⟨B, 1, none⟩ = some s1 ∧ w.cell? ⟨X, 0, none⟩ = some (.int .i64 i) ∧ w.cell? ⟨X, 1, none⟩ = some (.int .i64 k) ∧ w.cell? ⟨X, 2, none⟩ = some (.int .i64 K) ∧ w.cell? ⟨X, 3, none⟩ = some (.int .i64 wt) ∧
    w.cell? ⟨A, 0, none⟩ = some (.int .i64 p.x) ∧ w.cell? ⟨A, 1, none⟩ = some (.int .i64 p.y) ∧ w.cell? ⟨C, 0, none⟩ = some (.int .i64 q.x) ∧ w.cell? ⟨C, 1, none⟩ = some (.int .i64 q.y) ∧ B < w.heap.size ∧ X < w.heap.size ∧ A < w.heap.size ∧ C < w.heap.size :=
  ⟨h.r0, h.r1, h.x0, h.x1, h.x2, h.x3, h.a0, h.a1, h.c0, h.c1, World.block_lt_of_cell? _ _ h.r0, World.block_lt_of_cell? _ _ h.x0, World.block_lt_of_cell? _ _ h.a0, World.block_lt_of_cell? _ _ h.c0⟩

set_option maxRecDepth 100000 in
set_option maxHeartbeats 8000000 in
theorem heightsLaw_any (R : Roo) (w : World) (hR : IsRoof w R) :
    Calls Try.prog 5 #[.agg #[.slice R.fa R.fs.length R.fc, .slice R.oa R.os.length R.oc]] w fun e w' => e = .returned (.bool true) ∧ Below w.heap.size w w' := by
  have hgreat := great_any R
  have hcheck := check_any R
  have hedges := edgesL_any R
  have hhgt := hgt_is R
  obtain ⟨fa, fc, fs, oa, oc, os⟩ := R
  simp only [] at hgreat hcheck hedges hhgt
  have hB : Below w.heap.size w (w.alloc (.cells #[.slice fa fs.length fc, .slice oa os.length oc] 25)) := (Below.refl _ _).alloc (Nat.le_refl _) _
  have kR := Blk.new w 25 #[.slice fa fs.length fc, .slice oa os.length oc]
  have HG := Lib.hid hgreat
  have HC := Lib.hid hcheck
  have HED := Lib.hid hedges
  have HHG := Lib.hid hhgt
  have HR := Lib.hid hR
  clear hR hgreat hcheck hedges hhgt
  go_enter Try.func5, Try.ntmps5
  go_wp2_with fail
  refine (HG.out _ (HR.out.below hB)).mono ?_
  rintro e w1 ⟨hb1, gb, rfl, hgb⟩
  have hB1 := hB.trans (hb1.mono hB.size)
  have kR1 := kR.belowS hb1
  clear kR hB hb1 hgb
  cases gb with
  | true =>
    go_wp2_with fail
    refine (lives_any _).mono ?_
    rintro e w2 ⟨rfl, hb2⟩
    go_wp2_with fail
    go_ret
    exact ⟨rfl, hB1.trans (hb2.mono hB1.size)⟩
  | false =>
    have c0 := kR1.cell 0
    have c1 := kR1.cell 1
    simp only [List.getElem?_toArray, List.getElem?_cons_zero, List.getElem?_cons_succ] at c0 c1
    go_wp2_with fail
    refine (HC.out _ (HR.out.below hB1)).mono ?_
    rintro e w2 ⟨rfl, hb2⟩
    have hB2 := hB1.trans (hb2.mono hB1.size)
    have kR2 := kR1.belowS hb2
    clear kR1 hB1 hb2 c0 c1
    have c0 := kR2.cell 0
    have c1 := kR2.cell 1
    simp only [List.getElem?_toArray, List.getElem?_cons_zero, List.getElem?_cons_succ] at c0 c1
    generalize hE : checkE ⟨fa, fc, fs, oa, oc, os⟩ = E
    by_cases h0 : E = 0
    · subst h0
      have hz : ((0 : Int) == 0) = true := rfl
      have HE := Lib.hid hE
      clear hE
      go_wp2_with fail
      refine (HED.out _ (HR.out.below hB2) HE.out).mono ?_
      rintro e w3 ⟨hb3, v, rfl, heds⟩
      have hB3 := hB2.trans (hb3.mono hB2.size)
      have kR3 := kR2.belowS hb3
      clear kR2 hB2 hb3 c0 c1
      obtain ⟨la, lcap, rfl, hn1, hn2, hn3⟩ := heds.shape
      have hlf := (checkE_faces HE.out).1
      have hokf := (checkE_faces HE.out).2
      have hokF := checkE_ok HE.out
      simp only [] at hlf hn1 hn3 ⊢ hokf hokF
      have HOK := Lib.hid hokf
      have HOF := Lib.hid hokF
      have HN3 := Lib.hid hn3
      have hN : (allR fs fs.length).length = (allR fs fs.length).length := rfl
      generalize hNN : (allR fs fs.length).length = N at hN hn1 ⊢
      have HNN := Lib.hid hNN
      clear hn3 hN hNN heds hokf hokF hz
      have lR := kR3.lt
      go_wp2_with fail
      go_loopw [5, 6, 7, 8, 9, 10, 11, 12, 13, 14, 15] (fun i _ _ _ _ _ _ _ _ _ _ wr => ∃ t : Nat, t ≤ N ∧ i = .int .i64 t ∧ Below w3.heap.size w3 wr) (fun i _ _ _ _ _ _ _ _ _ _ _ => N - (intOf i).toNat)
      case atStart => exact ⟨0, Nat.zero_le _, rfl, Below.refl _ _⟩
      case round =>
        obtain ⟨t, ht, rfl, g3⟩ := hrel
        have hB4 := hB3.trans (g3.mono hB3.size)
        by_cases hlt : t < N
        · obtain ⟨x, hx⟩ : ∃ x, (allR fs fs.length)[t]? = some x := ⟨_, List.getElem?_eq_getElem (by have := HNN.out; omega)⟩
          obtain ⟨i, F, k, hil, hq, hkl, rfl, htt⟩ := allR_of (Nat.le_refl _) t x hx
          obtain ⟨g, rfl, hgl, hed⟩ := HN3.out t _ hx
          obtain ⟨e0, e1, e2, e3, e4⟩ := hed.below g3 hgl
          have hfact := edge_facts HE.out hq hkl
          simp only [] at hfact
          rw [edgR_face] at e0
          rw [edgR_number] at e1
          have hfacts : ((edgR fs i F k).kind = kindA F (edgN F.cs k) ∧ (edgR fs i F k).wth = -1) ∨ ∃ (b' : Nat) (G : Fac), (edgR fs i F k).kind = kindB F G (edgN F.cs k) ∧ (edgR fs i F k).wth = b' ∧ fs[b']? = some G := by
            rcases hfact with h | ⟨b', m, G, h, h1, _⟩
            · rw [h]
              exact .inl ⟨rfl, rfl⟩
            · rw [h]
              exact .inr ⟨b', G, rfl, rfl, h1⟩
          have ht0 : (0 : Int) ≤ (t : Int) := Int.natCast_nonneg _
          have ht1 : (t : Int) < (N : Int) := by omega
          have hi0 : (0 : Int) ≤ (i : Int) := Int.natCast_nonneg _
          have hi1 : (i : Int) < (fs.length : Int) := by omega
          generalize (edgR fs i F k).kind = K at *
          generalize (edgR fs i F k).wth = wt at *
          generalize (edgR fs i F k).at_ = xa at *
          obtain ⟨fb, fo, rfl, f2, f3, f4, hfaF, hfinF⟩ := (HR.out.below hB4).face hq
          simp only [] at f3 f4
          have hclF := (HOK.out F (List.mem_of_getElem? hq)).2
          have hokE := edgN_ok (HOK.out F (List.mem_of_getElem? hq)).1 k
          have hFok := HOF.out F (List.mem_of_getElem? hq)
          have HFS := Lib.hid hfacts
          have HQ := Lib.hid hq
          have HFF := Lib.hid hfaF
          have HIF := Lib.hid hfinF
          have HOE := Lib.hid hokE
          have HFO := Lib.hid hFok
          have kR4 := kR3.belowS g3
          have lR4 := kR4.lt
          clear hx hfact hfacts hed hq htt hfaF hfinF hokE hFok
          have c0 := kR4.cell 0
          simp only [List.getElem?_toArray, List.getElem?_cons_zero] at c0
          go_upto_region 10 with fail
          have kX6 := Blk.new wr 51 #[.int .i64 i, .int .i64 k, .int .i64 K, .int .i64 wt, .int .i64 xa]
          have kR6 := kR4.alloc (.cells #[.int .i64 i, .int .i64 k, .int .i64 K, .int .i64 wt, .int .i64 xa] 51)
          have g6 : Below wr.heap.size wr (wr.alloc (.cells #[.int .i64 i, .int .i64 k, .int .i64 K, .int .i64 wt, .int .i64 xa] 51)) := (Below.refl _ _).alloc (Nat.le_refl _) _
          generalize wr.alloc (.cells #[.int .i64 i, .int .i64 k, .int .i64 K, .int .i64 wt, .int .i64 xa] 51) = W6 at *
          clear kR4 c0 e0 e1 e2 e3 e4
          have hfl := Nat.lt_of_lt_of_le f2 g6.size
          have lX := kX6.lt
          have lR := kR6.lt
          go_cut [7, 8] from 31 to 207 (fun s7 s8 wx => ∃ A B, s7 = .pointer (some ⟨A, 0, none⟩) ∧ s8 = .pointer (some ⟨B, 0, none⟩) ∧ (wx.cell? ⟨A, 0, none⟩ = some (.int .i64 (edgN F.cs k).a.x) ∧ wx.cell? ⟨A, 1, none⟩ = some (.int .i64 (edgN F.cs k).a.y)) ∧ (wx.cell? ⟨B, 0, none⟩ = some (.int .i64 (edgN F.cs k).b.x) ∧ wx.cell? ⟨B, 1, none⟩ = some (.int .i64 (edgN F.cs k).b.y)) ∧ Below W6.heap.size W6 wx)
          case first => as_aux_lemma =>
            have hends := fun w' hp => ends_any F k w' hp hkl hclF
            generalize edgN F.cs k = E at *
            obtain ⟨⟨ax, ay⟩, bx, by'⟩ := E
            simp only [] at hends
            have HEN := Lib.hid hends
            have hfin6 := HIF.out.below g6
            have HF6 := Lib.hid hfin6
            clear hends hfin6
            have hx : HeldB W6 w.heap.size wr.heap.size fb (fo + i * 7) (.slice (some ⟨fb, fo, none⟩) fs.length fc) i k F W6 := by
              obtain ⟨d0, d1, d2, d3, d4, d5, d6⟩ := HFF.out.below g6 f2
              exact ⟨Below.refl _ _, kR6.cell 0, ⟨kX6.cell 0, kX6.cell 1⟩, d0, d1, d2, d3, d4, d5, d6⟩
            go_region_held3 (fun w' => Below W6.heap.size W6 w' ∧ (w'.cell? ⟨w.heap.size, 0, none⟩ = some (.slice (some ⟨fb, fo, none⟩) fs.length fc) ∧ (w'.cell? ⟨wr.heap.size, 0, none⟩ = some (.int .i64 i) ∧ w'.cell? ⟨wr.heap.size, 1, none⟩ = some (.int .i64 k)) ∧
                (w'.cell? ⟨fb, fo + i * 7, none⟩ = some (.string F.name) ∧ w'.cell? ⟨fb, fo + i * 7 + 1, none⟩ = some (.int .i64 F.side) ∧ w'.cell? ⟨fb, fo + i * 7 + 2, none⟩ = some (.int .i64 F.foot) ∧ w'.cell? ⟨fb, fo + i * 7 + 3, none⟩ = some (.int .i64 F.base) ∧
                  w'.cell? ⟨fb, fo + i * 7 + 4, none⟩ = some (.int .i64 F.rise) ∧ w'.cell? ⟨fb, fo + i * 7 + 5, none⟩ = some (.int .i64 F.run) ∧ w'.cell? ⟨fb, fo + i * 7 + 6, none⟩ = some (.slice F.ca F.cs.length F.cc))))
              ((refine HeldB.step hx lR lX hfl ?_; repeat (first | (with_reducible exact Below.refl _ _) | (with_reducible refine bel_alloc ?_ _) | (with_reducible refine bel_drew ?_) | (with_reducible refine bel_call ?_ hb7) | (with_reducible refine bel_set ?_ ?hA _; case hA => (first | exact Nat.le_refl _ | exact Nat.le_succ _)))))
              (first | (go_at_call 12; (refine (HEN.out _ (HF6.out.1.below (And.left (by with_reducible assumption)))).mono ?_); rintro r w7 ⟨rfl, hb7⟩; (first | (have y1 := (show Blk ((W6.alloc (.cells #[.int .i64 0, .int .i64 0] 27)).alloc (.cells #[.int .i64 0, .int .i64 0] 27)).drew _ _ _ from (Blk.new W6 27 #[.int .i64 0, .int .i64 0]).alloc (.cells #[.int .i64 0, .int .i64 0] 27)).belowS hb7; have y2 := (show Blk ((W6.alloc (.cells #[.int .i64 0, .int .i64 0] 27)).alloc (.cells #[.int .i64 0, .int .i64 0] 27)).drew _ _ _ from Blk.new (W6.alloc (.cells #[.int .i64 0, .int .i64 0] 27)) 27 #[.int .i64 0, .int .i64 0]).belowS hb7; simp only [World.size_alloc] at y2; have y10 := y1.cell 0; have y11 := y1.cell 1; have y1f0 := y1.frozen 0; have y1f1 := y1.frozen 1; have y1l := y1.lt; simp only [List.getElem?_toArray, List.getElem?_cons_zero, List.getElem?_cons_succ] at y10 y11; have y20 := y2.cell 0; have y21 := y2.cell 1; have y2f0 := y2.frozen 0; have y2f1 := y2.frozen 1; have y2l := y2.lt; simp only [List.getElem?_toArray, List.getElem?_cons_zero, List.getElem?_cons_succ] at y20 y21; clear y1 y2) | (have y1 := (show Blk (W6.alloc (.cells #[.int .i64 0, .int .i64 0] 27)).drew _ _ _ from Blk.new W6 27 #[.int .i64 0, .int .i64 0]).belowS hb7; have y10 := y1.cell 0; have y11 := y1.cell 1; have y1f0 := y1.frozen 0; have y1f1 := y1.frozen 1; have y1l := y1.lt; simp only [List.getElem?_toArray, List.getElem?_cons_zero, List.getElem?_cons_succ] at y10 y11; clear y1) | skip)))
            all_goals
              go_wp2_with fail
              go_meet
              refine ⟨_, _, rfl, rfl, ⟨?_, ?_⟩, ⟨?_, ?_⟩, ?_⟩
              all_goals first | (go_simp; done) | (repeat (first | (with_reducible exact Below.refl _ _) | (with_reducible refine bel_alloc ?_ _) | (with_reducible refine bel_drew ?_) | (with_reducible refine bel_call ?_ hb7) | (with_reducible refine bel_set ?_ ?hA _; case hA => (first | exact Nat.le_refl _ | exact Nat.le_succ _))))
          case rest =>
            obtain ⟨A, C, rfl, rfl, ⟨a0, a1⟩, ⟨b0, b1⟩, hcb⟩ := hcut
            obtain ⟨w0, rfl⟩ : ∃ w0 : World, w0 = wc := ⟨_, rfl⟩
            have gc : Below wr.heap.size wr w0 := g6.trans (hcb.mono g6.size)
            have kRc := kR6.belowS hcb
            have kXc := kX6.belowS hcb
            have hHH : HeldH w0 w.heap.size wr.heap.size A C (.slice (some ⟨fb, fo, none⟩) fs.length fc) (.slice oa os.length oc) i k K wt (edgN F.cs k).a (edgN F.cs k).b := ⟨kRc.cell 0, kRc.cell 1, kXc.cell 0, kXc.cell 1, kXc.cell 2, kXc.cell 3, a0, a1, b0, b1⟩
            have hrc := (HR.out.below hB4).below gc
            have hEa := HOE.out.1
            have hEb := HOE.out.2
            have hka := kindA_heights HFO.out (edgN F.cs k)
            have hla := edge_heights HFO.out (edgN F.cs k)
            generalize edgN F.cs k = ED at *
            obtain ⟨P, Q⟩ := ED
            simp only [] at hHH hEa hEb hka hla
            have HKA := Lib.hid hka
            have HLA := Lib.hid hla
            have HRC := Lib.hid hrc
            have HEA := Lib.hid hEa
            have HEB := Lib.hid hEb
            have HHH := Lib.hid hHH
            obtain ⟨r0, r1, x0, x1, x2, x3, p0, p1, q0, q1, z1, z2, z3, z4⟩ := hHH.all
            clear hrc hka hla hEa hEb a0 a1 b0 b1 kRc kXc kR6 kX6 HFF HIF HN3
            go_wp2_with fail
            refine (HHG.out HE.out i F HQ.out P HEA.out _ HRC.out).mono ?_
            rintro e w7 ⟨rfl, hb7⟩
            have h7 : Below w0.heap.size w0 (w7.alloc (.cells #[.int .i64 (hgtN F P), .int .i64 (hgtD F P)] 55)) := hb7.alloc hb7.size _
            have k9 := Blk.new w7 55 #[.int .i64 (hgtN F P), .int .i64 (hgtD F P)]
            clear r0 r1 x0 x1 x2 x3 p0 p1 q0 q1 z1 z2 z3 z4
            obtain ⟨r0, r1, x0, x1, x2, x3, p0, p1, q0, q1, z1, z2, z3, z4⟩ := (HHH.out.below hb7).all
            go_wp2_with fail
            refine (HHG.out HE.out i F HQ.out Q HEB.out _ (HRC.out.below h7)).mono ?_
            rintro e w8 ⟨rfl, hb8⟩
            have k9b := k9.belowS hb8
            have h8 : Below w0.heap.size w0 w8 := h7.trans (hb8.mono h7.size)
            clear r0 r1 x0 x1 x2 x3 p0 p1 q0 q1 z1 z2 z3 z4 k9 hb7
            obtain ⟨r0, r1, x0, x1, x2, x3, p0, p1, q0, q1, z1, z2, z3, z4⟩ := (HHH.out.below h8).all
            have n0 := k9b.cell 0
            have n1 := k9b.cell 1
            have ln := k9b.lt
            simp only [List.getElem?_toArray, List.getElem?_cons_zero, List.getElem?_cons_succ] at n0 n1
            have s1 : ∀ wx, (Op.equalIn 10000 55 (.agg #[.int .i64 (hgtN F P), .int .i64 (hgtD F P)]) (.agg #[.int .i64 (hgtN F Q), .int .i64 (hgtD F Q)])).run Try.prog wx = .ok (decide (hgtN F P = hgtN F Q ∧ hgtD F P = hgtD F Q)) wx := run_equalIn_ratio 9998 _ _ _ _
            rcases HFS.out with ⟨hk1, rfl⟩ | ⟨b', G, hk1, rfl, hqG⟩
            · have hkk := kindA_alone F ⟨P, Q⟩
              rw [← hk1] at hkk
              have hd := HKA.out
              rw [← hk1] at hd
              rw [hd] at s1
              clear hd hk1
              rcases hkk with rfl | rfl | rfl
              all_goals
                simp only [show ((1 : Int) == 2) = false from rfl, show ((2 : Int) == 2) = true from rfl, show ((3 : Int) == 2) = false from rfl, Bool.not_false, Bool.not_true] at s1
                go_wp2_with fail
                refine ⟨⟨t + 1, by omega, by simp, ?_⟩, by simp [intOf]; omega⟩
                exact g3.trans ((gc.trans ((h8.alloc h8.size _).mono gc.size)).mono g3.size)
            · have hkr := kindB_range F G ⟨P, Q⟩
              have h5 := @kindB_ridge F G ⟨P, Q⟩
              have h6 := @kindB_hip F G ⟨P, Q⟩
              have hst := step_levels F G ⟨P, Q⟩
              rw [← hk1] at hkr h5 h6 hst
              rw [HLA.out] at s1
              simp only [] at hst
              have hGok := HOF.out G (List.mem_of_getElem? hqG)
              have hmid : ∀ m : Pnt, levelB F G P = true → levelB F G Q = true → P.x + Q.x = 2 * m.x → P.y + Q.y = 2 * m.y → levelB F G m = true := fun m h1 h2 h3 h4 => level_mid HFO.out hGok h1 h2 h3 h4
              have HMID := Lib.hid hmid
              have HST := Lib.hid hst
              have H5 := Lib.hid h5
              have H6 := Lib.hid h6
              have HQG := Lib.hid hqG
              have hb0 : (0 : Int) ≤ (b' : Int) := Int.natCast_nonneg _
              have k1 : (K == 1) = false := by rw [beq_eq_false_iff_ne]; omega
              have k2 : (K == 2) = false := by rw [beq_eq_false_iff_ne]; omega
              have k3 : (K == 3) = false := by rw [beq_eq_false_iff_ne]; omega
              clear hk1 h5 h6 hst hqG hmid hGok hkr
              go_upto_region 15 with fail
              have k11 := Blk.new w8 55 #[.int .i64 (hgtN F Q), .int .i64 (hgtD F Q)]
              have k9c := k9b.alloc (.cells #[.int .i64 (hgtN F Q), .int .i64 (hgtD F Q)] 55)
              have h9 : Below w0.heap.size w0 (w8.alloc (.cells #[.int .i64 (hgtN F Q), .int .i64 (hgtD F Q)] 55)) := h8.alloc h8.size _
              generalize w8.alloc (.cells #[.int .i64 (hgtN F Q), .int .i64 (hgtD F Q)] 55) = W9 at *
              clear r0 r1 x0 x1 x2 x3 p0 p1 q0 q1 z1 z2 z3 z4 n0 n1 ln k9b
              obtain ⟨r0, r1, x0, x1, x2, x3, p0, p1, q0, q1, z1, z2, z3, z4⟩ := (HHH.out.below h9).all
              have n0 := k9c.cell 0
              have n1 := k9c.cell 1
              have m0 := k11.cell 0
              have m1 := k11.cell 1
              simp only [List.getElem?_toArray, List.getElem?_cons_zero, List.getElem?_cons_succ] at n0 n1 m0 m1
              go_cut [107] from 31 to 207 (fun s107 wx => s107 = .bool false ∧ W9 = wx)
              case first => as_aux_lemma =>
                by_cases c5 : K = 5
                · have hL : (seenV F.side ⟨P, Q⟩ == 0) = true := by rw [H5.out c5]; rfl
                  rw [hL] at s1
                  have k5 : (K == 5) = true := by rw [c5]; rfl
                  have k6 : (K == 6) = false := by rw [c5]; rfl
                  clear c5 hL
                  go_wp2_with fail
                  go_meet
                  exact ⟨rfl, rfl⟩
                · by_cases c6 : K = 6
                  · have hL : (seenV F.side ⟨P, Q⟩ == 0) = false := by rw [beq_eq_false_iff_ne]; exact H6.out c6
                    rw [hL] at s1
                    have k5 : (K == 5) = false := by rw [c6]; rfl
                    have k6 : (K == 6) = true := by rw [c6]; rfl
                    clear c5 c6 hL
                    go_wp2_with fail
                    go_meet
                    exact ⟨rfl, rfl⟩
                  · have k5 : (K == 5) = false := by rw [beq_eq_false_iff_ne]; exact c5
                    have k6 : (K == 6) = false := by rw [beq_eq_false_iff_ne]; exact c6
                    clear c5 c6 s1
                    go_wp2_with fail
                    go_meet
                    exact ⟨rfl, rfl⟩
              case rest =>
                obtain ⟨rfl, rfl⟩ := hcut
                clear s1
                go_wp2_with fail
                refine (HHG.out HE.out b' G HQG.out P HEA.out _ (HRC.out.below h9)).mono ?_
                rintro e w10 ⟨rfl, hb10⟩
                have k9d := k9c.belowS hb10
                have k11d := k11.belowS hb10
                have h10 : Below w0.heap.size w0 w10 := h9.trans (hb10.mono h9.size)
                have h10b : Below w0.heap.size w0 (w10.alloc (.cells #[.int .i64 (hgtN G P), .int .i64 (hgtD G P)] 55)) := h10.alloc h10.size _
                have k13 := Blk.new w10 55 #[.int .i64 (hgtN G P), .int .i64 (hgtD G P)]
                have k9e := k9d.alloc (.cells #[.int .i64 (hgtN G P), .int .i64 (hgtD G P)] 55)
                have k11e := k11d.alloc (.cells #[.int .i64 (hgtN G P), .int .i64 (hgtD G P)] 55)
                clear r0 r1 x0 x1 x2 x3 p0 p1 q0 q1 z1 z2 z3 z4 n0 n1 m0 m1 k9c k11 k9d k11d
                obtain ⟨r0, r1, x0, x1, x2, x3, p0, p1, q0, q1, z1, z2, z3, z4⟩ := (HHH.out.below h10).all
                have lw10 := h10.size
                go_wp2_with fail
                refine (HHG.out HE.out b' G HQG.out Q HEB.out _ (HRC.out.below h10b)).mono ?_
                rintro e w11 ⟨rfl, hb11⟩
                have h11 : Below w0.heap.size w0 w11 := h10b.trans (hb11.mono h10b.size)
                have k9f := (k9e.belowS hb11).alloc (.cells #[.int .i64 (hgtN G Q), .int .i64 (hgtD G Q)] 55)
                have k11f := (k11e.belowS hb11).alloc (.cells #[.int .i64 (hgtN G Q), .int .i64 (hgtD G Q)] 55)
                have k13f := (k13.belowS hb11).alloc (.cells #[.int .i64 (hgtN G Q), .int .i64 (hgtD G Q)] 55)
                have k14 := Blk.new w11 55 #[.int .i64 (hgtN G Q), .int .i64 (hgtD G Q)]
                have h12 : Below w0.heap.size w0 (w11.alloc (.cells #[.int .i64 (hgtN G Q), .int .i64 (hgtD G Q)] 55)) := h11.alloc h11.size _
                clear r0 r1 x0 x1 x2 x3 p0 p1 q0 q1 z1 z2 z3 z4 k9e k11e k13
                obtain ⟨r0, r1, x0, x1, x2, x3, p0, p1, q0, q1, z1, z2, z3, z4⟩ := (HHH.out.below h11).all
                have ne13 : w10.heap.size < w11.heap.size := by have := hb11.size; simp at this; omega
                go_upto_region 20 with fail
                generalize w11.alloc (.cells #[.int .i64 (hgtN G Q), .int .i64 (hgtD G Q)] 55) = W12 at *
                clear r0 r1 x0 x1 x2 x3 p0 p1 q0 q1 z1 z2 z3 z4
                obtain ⟨r0, r1, x0, x1, x2, x3, p0, p1, q0, q1, z1, z2, z3, z4⟩ := (HHH.out.below h12).all
                go_cut [146] from 31 to 207 (fun s146 wx => s146 = .bool false ∧ Below W12.heap.size W12 wx)
                case first => as_aux_lemma =>
                  have n0 := k9f.cell 0
                  have n1 := k9f.cell 1
                  have m0 := k11f.cell 0
                  have m1 := k11f.cell 1
                  have u0 := k13f.cell 0
                  have u1 := k13f.cell 1
                  have v0 := k14.cell 0
                  have v1 := k14.cell 1
                  simp only [List.getElem?_toArray, List.getElem?_cons_zero, List.getElem?_cons_succ] at n0 n1 m0 m1 u0 u1 v0 v1
                  have s3 : ∀ wx, (Op.equalIn 10000 55 (.agg #[.int .i64 (hgtN F P), .int .i64 (hgtD F P)]) (.agg #[.int .i64 (hgtN G P), .int .i64 (hgtD G P)])).run Try.prog wx = .ok (levelB F G P) wx := run_equalIn_ratio 9998 _ _ _ _
                  have s4 : ∀ wx, (Op.equalIn 10000 55 (.agg #[.int .i64 (hgtN F Q), .int .i64 (hgtD F Q)]) (.agg #[.int .i64 (hgtN G Q), .int .i64 (hgtD G Q)])).run Try.prog wx = .ok (levelB F G Q) wx := run_equalIn_ratio 9998 _ _ _ _
                  have k4 := HST.out
                  clear k9f k11f k13f k14
                  cases hl1 : levelB F G P
                  all_goals cases hl2 : levelB F G Q
                  all_goals
                    rw [hl1] at s3 k4
                    rw [hl2] at s4 k4
                    simp only [Bool.and_true, Bool.and_false, Bool.not_true, Bool.not_false] at k4
                    clear hl1 hl2
                    go_quiet (fail)
                    go_wp2_with fail
                    go_meet
                    refine ⟨rfl, ?_⟩
                    exact below_drewN _ _ _
                case rest =>
                  obtain ⟨rfl, hb12⟩ := hcut
                  obtain ⟨w13, rfl⟩ : ∃ w13 : World, w13 = wc := ⟨_, rfl⟩
                  have h13 : Below w0.heap.size w0 w13 := h12.trans (hb12.mono h12.size)
                  have k13g := k13f.belowS hb12
                  have k14g := k14.belowS hb12
                  have hne4 : K = 4 ∨ (K ≠ 4 ∧ levelB F G P = true ∧ levelB F G Q = true) := by
                    have := HST.out
                    by_cases h4 : K = 4
                    · exact .inl h4
                    · rw [show (K == 4) = false by simpa using h4] at this
                      have h := this.symm
                      simp only [Bool.not_eq_false', Bool.and_eq_true] at h
                      exact .inr ⟨h4, h.1, h.2⟩
                  have HN4 := Lib.hid hne4
                  clear r0 r1 x0 x1 x2 x3 p0 p1 q0 q1 z1 z2 z3 z4 hne4 k9f k11f k13f k14 h12
                  obtain ⟨r0, r1, x0, x1, x2, x3, p0, p1, q0, q1, z1, z2, z3, z4⟩ := (HHH.out.below h13).all
                  have hEa := HEA.out
                  have hEb := HEB.out
                  simp only [Pnt.ok] at hEa hEb
                  obtain ⟨⟨px0, px1⟩, py0, py1⟩ := hEa
                  obtain ⟨⟨qx0, qx1⟩, qy0, qy1⟩ := hEb
                  go_upto_region 22 with fail
                  go_cut [167] from 31 to 207 (fun s167 wx => ∃ b, s167 = .bool b ∧ (b = true → (P.x + Q.x) % 2 = 0 ∧ (P.y + Q.y) % 2 = 0 ∧ K ≠ 4) ∧ w13 = wx)
                  case first => as_aux_lemma =>
                    by_cases ex : (P.x + Q.x) % 2 = 0
                    · by_cases ey : (P.y + Q.y) % 2 = 0
                      · by_cases e4 : K = 4
                        · have k4 : (K == 4) = true := by rw [e4]; rfl
                          have k4' : (K != 4) = false := by rw [e4]; rfl
                          clear e4
                          go_wp2_with fail
                          go_meet
                          exact ⟨_, rfl, by simp, rfl⟩
                        · have k4 : (K == 4) = false := by simpa using e4
                          have k4' : (K != 4) = true := by simpa using e4
                          have E4 := Lib.hid e4
                          have EX := Lib.hid ex
                          have EY := Lib.hid ey
                          clear e4
                          go_wp2_with fail
                          go_meet
                          exact ⟨_, rfl, fun _ => ⟨EX.out, EY.out, E4.out⟩, rfl⟩
                      · have ey' : ((P.y + Q.y) % 2 == 0) = false := by simpa using ey
                        go_wp2_with fail
                        go_meet
                        exact ⟨_, rfl, by simp, rfl⟩
                    · have ex' : ((P.x + Q.x) % 2 == 0) = false := by simpa using ex
                      go_wp2_with fail
                      go_meet
                      exact ⟨_, rfl, by simp, rfl⟩
                  case rest =>
                    obtain ⟨b, rfl, hb, rfl⟩ := hcut
                    cases b with
                    | false =>
                      clear hb
                      go_wp2_with fail
                      refine ⟨⟨t + 1, by omega, by simp, ?_⟩, by simp [intOf]; omega⟩
                      exact g3.trans ((gc.trans (h13.mono gc.size)).mono g3.size)
                    | true =>
                      obtain ⟨ex, ey, e4⟩ := hb rfl
                      have hlv : levelB F G P = true ∧ levelB F G Q = true := by
                        rcases HN4.out with h | ⟨_, h⟩
                        · exact absurd h e4
                        · exact h
                      have hmm := HMID.out ⟨(P.x + Q.x) / 2, (P.y + Q.y) / 2⟩ hlv.1 hlv.2 (by simp only []; omega) (by simp only []; omega)
                      have hMok : (⟨(P.x + Q.x) / 2, (P.y + Q.y) / 2⟩ : Pnt).ok := ⟨⟨by simp only []; omega, by simp only []; omega⟩, by simp only []; omega, by simp only []; omega⟩
                      have HMM := Lib.hid hmm
                      have HMO := Lib.hid hMok
                      clear hmm hMok hb ex ey e4 hlv
                      have lt13 := k13g.lt
                      have lt14 := k14g.lt
                      have kM := Blk.new w13 27 #[.int .i64 ((P.x + Q.x) / 2), .int .i64 ((P.y + Q.y) / 2)]
                      have k13h := k13g.alloc (.cells #[.int .i64 ((P.x + Q.x) / 2), .int .i64 ((P.y + Q.y) / 2)] 27)
                      have k14h := k14g.alloc (.cells #[.int .i64 ((P.x + Q.x) / 2), .int .i64 ((P.y + Q.y) / 2)] 27)
                      have h14 : Below w0.heap.size w0 (w13.alloc (.cells #[.int .i64 ((P.x + Q.x) / 2), .int .i64 ((P.y + Q.y) / 2)] 27)) := h13.alloc h13.size _
                      clear k13g k14g
                      go_wp2_with fail
                      refine (HHG.out HE.out i F HQ.out ⟨(P.x + Q.x) / 2, (P.y + Q.y) / 2⟩ HMO.out _ (HRC.out.below h14)).mono ?_
                      rintro e w15 ⟨rfl, hb15⟩
                      have k13i := k13h.belowS hb15
                      have k14i := k14h.belowS hb15
                      have kMi := kM.belowS hb15
                      have h15 : Below w0.heap.size w0 w15 := h14.trans (hb15.mono h14.size)
                      have f130 := k13i.frozen 0
                      have f131 := k13i.frozen 1
                      have c130 := k13i.cell 0
                      have c131 := k13i.cell 1
                      have l13 := k13i.lt
                      simp only [List.getElem?_toArray, List.getElem?_cons_zero, List.getElem?_cons_succ] at c130 c131
                      clear r0 r1 x0 x1 x2 x3 p0 p1 q0 q1 z1 z2 z3 z4 kM k13h k14h hb15
                      go_upto_region 25 with fail
                      have h16 : Below w0.heap.size w0 ((w15.setCell ⟨w10.heap.size, 0, none⟩ (.int .i64 (hgtN F ⟨(P.x + Q.x) / 2, (P.y + Q.y) / 2⟩))).setCell ⟨w10.heap.size, 1, none⟩ (.int .i64 (hgtD F ⟨(P.x + Q.x) / 2, (P.y + Q.y) / 2⟩))) := (h15.setCell lw10 _).setCell lw10 _
                      have k13j := (k13i.set 0 (.int .i64 (hgtN F ⟨(P.x + Q.x) / 2, (P.y + Q.y) / 2⟩))).set 1 (.int .i64 (hgtD F ⟨(P.x + Q.x) / 2, (P.y + Q.y) / 2⟩))
                      have k14j := (k14i.other (B' := w10.heap.size) (by omega) (i := 0) (.int .i64 (hgtN F ⟨(P.x + Q.x) / 2, (P.y + Q.y) / 2⟩))).other (B' := w10.heap.size) (by omega) (i := 1) (.int .i64 (hgtD F ⟨(P.x + Q.x) / 2, (P.y + Q.y) / 2⟩))
                      have kMj := (kMi.other (B' := w10.heap.size) (by omega) (i := 0) (.int .i64 (hgtN F ⟨(P.x + Q.x) / 2, (P.y + Q.y) / 2⟩))).other (B' := w10.heap.size) (by omega) (i := 1) (.int .i64 (hgtD F ⟨(P.x + Q.x) / 2, (P.y + Q.y) / 2⟩))
                      simp only [List.setIfInBounds_toArray, List.set_cons_zero, List.set_cons_succ] at k13j
                      generalize (w15.setCell ⟨w10.heap.size, 0, none⟩ (.int .i64 (hgtN F ⟨(P.x + Q.x) / 2, (P.y + Q.y) / 2⟩))).setCell ⟨w10.heap.size, 1, none⟩ (.int .i64 (hgtD F ⟨(P.x + Q.x) / 2, (P.y + Q.y) / 2⟩)) = W16 at *
                      clear f130 f131 c130 c131 l13 k13i k14i kMi
                      obtain ⟨r0, r1, x0, x1, x2, x3, p0, p1, q0, q1, z1, z2, z3, z4⟩ := (HHH.out.below h16).all
                      have m0 := kMj.cell 0
                      have m1 := kMj.cell 1
                      simp only [List.getElem?_toArray, List.getElem?_cons_zero, List.getElem?_cons_succ] at m0 m1
                      go_wp2_with fail
                      refine (HHG.out HE.out b' G HQG.out ⟨(P.x + Q.x) / 2, (P.y + Q.y) / 2⟩ HMO.out _ (HRC.out.below h16)).mono ?_
                      rintro e w17 ⟨rfl, hb17⟩
                      have k13k := k13j.belowS hb17
                      have k14k := k14j.belowS hb17
                      have h17 : Below w0.heap.size w0 w17 := h16.trans (hb17.mono h16.size)
                      have f140 := k14k.frozen 0
                      have f141 := k14k.frozen 1
                      have c140 := k14k.cell 0
                      have c141 := k14k.cell 1
                      have l14 := k14k.lt
                      simp only [List.getElem?_toArray, List.getElem?_cons_zero, List.getElem?_cons_succ] at c140 c141
                      clear r0 r1 x0 x1 x2 x3 p0 p1 q0 q1 z1 z2 z3 z4 m0 m1 kMj k13j k14j hb17
                      go_upto_region 26 with fail
                      have lw11 : w0.heap.size ≤ w11.heap.size := by omega
                      have h18 : Below w0.heap.size w0 ((w17.setCell ⟨w11.heap.size, 0, none⟩ (.int .i64 (hgtN G ⟨(P.x + Q.x) / 2, (P.y + Q.y) / 2⟩))).setCell ⟨w11.heap.size, 1, none⟩ (.int .i64 (hgtD G ⟨(P.x + Q.x) / 2, (P.y + Q.y) / 2⟩))) := (h17.setCell lw11 _).setCell lw11 _
                      have k14l := (k14k.set 0 (.int .i64 (hgtN G ⟨(P.x + Q.x) / 2, (P.y + Q.y) / 2⟩))).set 1 (.int .i64 (hgtD G ⟨(P.x + Q.x) / 2, (P.y + Q.y) / 2⟩))
                      have k13l := (k13k.other (B' := w11.heap.size) (by omega) (i := 0) (.int .i64 (hgtN G ⟨(P.x + Q.x) / 2, (P.y + Q.y) / 2⟩))).other (B' := w11.heap.size) (by omega) (i := 1) (.int .i64 (hgtD G ⟨(P.x + Q.x) / 2, (P.y + Q.y) / 2⟩))
                      simp only [List.setIfInBounds_toArray, List.set_cons_zero, List.set_cons_succ] at k14l
                      generalize (w17.setCell ⟨w11.heap.size, 0, none⟩ (.int .i64 (hgtN G ⟨(P.x + Q.x) / 2, (P.y + Q.y) / 2⟩))).setCell ⟨w11.heap.size, 1, none⟩ (.int .i64 (hgtD G ⟨(P.x + Q.x) / 2, (P.y + Q.y) / 2⟩)) = W18 at *
                      clear f140 f141 c140 c141 l14 k13k k14k
                      have c130 := k13l.cell 0
                      have c131 := k13l.cell 1
                      have c140 := k14l.cell 0
                      have c141 := k14l.cell 1
                      simp only [List.getElem?_toArray, List.getElem?_cons_zero, List.getElem?_cons_succ] at c130 c131 c140 c141
                      have s5 : ∀ wx, (Op.equalIn 10000 55 (.agg #[.int .i64 (hgtN F ⟨(P.x + Q.x) / 2, (P.y + Q.y) / 2⟩), .int .i64 (hgtD F ⟨(P.x + Q.x) / 2, (P.y + Q.y) / 2⟩)]) (.agg #[.int .i64 (hgtN G ⟨(P.x + Q.x) / 2, (P.y + Q.y) / 2⟩), .int .i64 (hgtD G ⟨(P.x + Q.x) / 2, (P.y + Q.y) / 2⟩)])).run Try.prog wx = .ok true wx := fun wx => (run_equalIn_ratio 9998 _ _ _ _ wx).trans (by rw [show decide _ = true from HMM.out])
                      go_wp2_with fail
                      refine ⟨⟨t + 1, by omega, by simp, ?_⟩, by simp [intOf]; omega⟩
                      exact g3.trans ((gc.trans (h18.mono gc.size)).mono g3.size)
        · obtain rfl : t = N := by omega
          go_wp2_with fail
          refine (lives_any _).mono ?_
          rintro e w4 ⟨rfl, hb4⟩
          go_wp2_with fail
          go_ret
          exact ⟨rfl, hB4.trans (hb4.mono hB4.size)⟩
    · have hz : (E == 0) = false := by simp [h0]
      have hz' : (E != 0) = true := by simp [h0]
      clear h0 hE
      go_wp2_with fail
      refine (lives_any _).mono ?_
      rintro e w3 ⟨rfl, hb3⟩
      go_wp2_with fail
      go_ret
      exact ⟨rfl, hB2.trans (hb3.mono hB2.size)⟩
end Go.Proofs.Ytapbkiokfaidfaa
