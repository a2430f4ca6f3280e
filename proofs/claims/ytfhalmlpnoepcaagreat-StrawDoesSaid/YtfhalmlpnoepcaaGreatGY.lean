/- The specification's cut: the first loads of parts, and the rest. -/
import Derived.Test.YtfhalmlpnoepcaaGreatGV
import Derived.Test.YtfhalmlpnoepcaaGreatGW
namespace Go.Proofs.YtfhalmlpnoepcaaGreat
open Go.RowKit

theorem bel_alloc {w w' : World} (h : Below w.heap.size w w') (o : Obj) : Below w.heap.size w (w'.alloc o) := h.alloc h.size o
theorem bel_drew {w w' : World} (h : Below w.heap.size w w') : Below w.heap.size w w'.drew := h.drew
theorem cut_stepT {l : List Prt} {p : Prt} {j : Nat} (h : l[j]? = some p) (n : Int) : cutT n (l.drop j) = (if 0 < min n p.loads then [⟨p.plot, min n p.loads⟩] else []) ++ cutT (n - min n p.loads) (l.drop (j + 1)) := by
  obtain ⟨hlt, rfl⟩ := List.getElem?_eq_some_iff.1 h
  rw [List.drop_eq_getElem_cons hlt]
  rfl
theorem cut_stepR {l : List Prt} {p : Prt} {j : Nat} (h : l[j]? = some p) (n : Int) : cutR n (l.drop j) = (if min n p.loads < p.loads then [⟨p.plot, p.loads - min n p.loads⟩] else []) ++ cutR (n - min n p.loads) (l.drop (j + 1)) := by
  obtain ⟨hlt, rfl⟩ := List.getElem?_eq_some_iff.1 h
  rw [List.drop_eq_getElem_cons hlt]
  rfl
/-- What is behind an append to one of two rows of the call's own. -/
theorem rows_push {w W w6 : World} {a a2 : Option Addr} {A A2 : List Prt} {c c2 g cap n n2 : Nat} {p : Prt} {tmp : Obj} (hn : A.length = n) (hn2 : A2.length = n2) (hb : Below w.heap.size w W)
    (h1 : W.ownsRow w.heap.size 79 2 (.slice a n c) n (A.flatMap cellsPrt)) (h2 : W.ownsRow w.heap.size 79 2 (.slice a2 n2 c2) n2 (A2.flatMap cellsPrt)) (hap : ∀ k, a.map (·.block) = some k → a2.map (·.block) ≠ some k)
    (hown6 : w6.ownsRow w.heap.size 79 2 (.slice (some ⟨g, 0, none⟩) (n + 1) cap) (n + 1) (A.flatMap cellsPrt ++ cellsPrt p)) (hgrow : (W.alloc tmp).grownBy w6 (Value.slice a n c).ownBlock)
    (hat : (Value.slice a n c).ownBlock = some g ∨ g = (W.alloc tmp).heap.size) :
    w6.ownsRow w.heap.size 79 2 (.slice (some ⟨g, 0, none⟩) (A ++ [p]).length cap) (A ++ [p]).length ((A ++ [p]).flatMap cellsPrt) ∧ w6.ownsRow w.heap.size 79 2 (.slice a2 n2 c2) n2 (A2.flatMap cellsPrt) ∧ (∀ k, some g = some k → a2.map (·.block) ≠ some k) ∧ Below w.heap.size w w6 := by
  subst hn hn2
  have hl2 : ∀ k, a2.map (·.block) = some k → w.heap.size ≤ k ∧ k < W.heap.size := fun k hk => h2.lt k (by rw [rowOf_own']; exact hk)
  have hl1 : ∀ k, a.map (·.block) = some k → w.heap.size ≤ k ∧ k < W.heap.size := fun k hk => h1.lt k (by rw [rowOf_own']; exact hk)
  rw [rowOf_own'] at hgrow hat
  refine ⟨?_, (h2.alloc tmp).kept hgrow ?_, fun k hk => ?_, (hb.alloc hb.size tmp).grown hgrow (by simp; have := hb.size; omega) (fun k e => (hl1 k e).1)⟩
  · rw [List.length_append, List.flatMap_append]; simpa using hown6
  · rw [rowOf_own']
    cases h : a2.map (·.block) with
    | none => exact .inl rfl
    | some k => exact .inr fun e => hap k e.symm h
  · obtain rfl : g = k := by simpa using hk
    intro e
    rcases hat with h | h
    · exact hap g h e
    · have := (hl2 g e).2
      simp at h
      omega

set_option maxRecDepth 100000 in
set_option maxHeartbeats 8000000 in
theorem refCutF_any (a : Option Addr) (c : Nat) (l : List Prt) (n : Int) (w : World) (hl : IsPrts w a c l) (hok : ∀ p ∈ l, 1 ≤ p.loads ∧ p.loads ≤ 100000) (hlen : l.length ≤ 1000) (hn0 : 0 ≤ n) (hn1 : n ≤ 100000000000) :
    Calls Tryz.prog 47 #[.slice a l.length c, .int .i64 n] w fun e w' => (∃ a1 c1 a2 c2, e = .returned (.tuple #[.slice a1 (cutT n l).length c1, .slice a2 (cutR n l).length c2]) ∧ (IsPrts w' a1 c1 (cutT n l) ∧ ∀ k, a1.map (·.block) = some k → w.heap.size ≤ k ∧ k < w'.heap.size) ∧ IsPrts w' a2 c2 (cutR n l) ∧ ∀ k, a2.map (·.block) = some k → w.heap.size ≤ k ∧ k < w'.heap.size) ∧ Below w.heap.size w w' := by
  obtain ⟨i0, hi, hz0, hz1, hz2⟩ := info_parts info_portion
  have HL := Lib.hid hl
  have HOK := Lib.hid hok
  clear hl hok
  go_enter Tryz.func47, Tryz.ntmps47
  go_wp2_with fail
  go_loopw [8, 9, 1, 6, 7] (fun i _ nn av bv wr => ∃ (j : Nat) (v : Int) (A B : List Prt) (a1 : Option Addr) (c1 : Nat) (a2 : Option Addr) (c2 : Nat), j ≤ l.length ∧ i = .int .i64 j ∧ nn = .int .i64 v ∧ (0 ≤ v ∧ v ≤ n) ∧ av = .slice a1 A.length c1 ∧ bv = .slice a2 B.length c2 ∧
    wr.ownsRow w.heap.size 79 2 (.slice a1 A.length c1) A.length (A.flatMap cellsPrt) ∧ wr.ownsRow w.heap.size 79 2 (.slice a2 B.length c2) B.length (B.flatMap cellsPrt) ∧ (∀ k, a1.map (·.block) = some k → a2.map (·.block) ≠ some k) ∧
    A ++ cutT v (l.drop j) = cutT n l ∧ B ++ cutR v (l.drop j) = cutR n l ∧ A.length ≤ j ∧ B.length ≤ j ∧ Below w.heap.size w wr) (fun i _ _ _ _ _ => l.length - (intOf i).toNat)
  case atStart => exact ⟨0, n, [], [], none, 0, none, 0, Nat.zero_le _, rfl, rfl, ⟨hn0, Int.le_refl _⟩, rfl, rfl, World.ownsRow_nil _ _ _ _, World.ownsRow_nil _ _ _ _, (fun k h => by cases h), by simp, by simp, Nat.le_refl _, Nat.le_refl _, Below.refl _ _⟩
  case round =>
    obtain ⟨j, v, A, B, a1, c1, a2, c2, hj, rfl, rfl, ⟨hv0, hv1⟩, rfl, rfl, hA, hB, hap, eA, eB, lA, lB, hb⟩ := hrel
    by_cases hlj : j < l.length
    · have hq : l[j]? = some l[j] := List.getElem?_eq_getElem hlj
      obtain ⟨y0, y1⟩ := HOK.out _ (List.getElem_mem hlj)
      rw [cut_stepT hq] at eA
      rw [cut_stepR hq] at eB
      obtain ⟨b, off, hea, hblt, hcap, hcx, p0, p1⟩ := (HL.out.belowS hb).at hq
      have hbw : b < w.heap.size := by obtain ⟨b', off', e, h, _⟩ := HL.out.at hq; rw [hea] at e; injection e with e; injection e with e1 e2; omega
      subst hea
      generalize l[j] = p at *
      obtain ⟨pl, ld⟩ := p
      dsimp only at y0 y1 p0 p1 eA eB
      have HA := Lib.hid hA
      have HB := Lib.hid hB
      have HAP := Lib.hid hap
      have EA := Lib.hid eA
      have EB := Lib.hid eB
      have hj0 : (0 : Int) ≤ (j : Int) := Int.natCast_nonneg _
      have hj1 : (j : Int) < (l.length : Int) := by omega
      clear hq hA hB hap eA eB
      go_upto_region 7 with fail
      have m1 : (if ld < v then ld else v) = min v ld := by split <;> omega
      simp only [m1]
      have g1 : 0 ≤ min v ld ∧ min v ld ≤ v ∧ min v ld ≤ ld := by omega
      generalize min v ld = k at *
      clear m1
      obtain ⟨g10, g11, g12⟩ := g1
      obtain ⟨b', off', hea', _, _, _, q0w, q1w⟩ : ∃ b' off', (some (⟨b, off, none⟩ : Addr)) = some ⟨b', off', none⟩ ∧ True ∧ True ∧ True ∧ w.cell? ⟨b', off' + j * 2, none⟩ = some (.int .i64 pl) ∧ w.cell? ⟨b', off' + j * 2 + 1, none⟩ = some (.int .i64 ld) :=
        ⟨b, off, rfl, trivial, trivial, trivial, (hb.cell (p := ⟨b, off + j * 2, none⟩) hbw).symm.trans p0, (hb.cell (p := ⟨b, off + j * 2 + 1, none⟩) hbw).symm.trans p1⟩
      obtain ⟨rfl, rfl, _⟩ : b = b' ∧ off = off' ∧ True := by injection hea' with h; injection h with h1 h2; exact ⟨h1, h2, trivial⟩
      have hstep : ∀ w', Below w.heap.size w w' → Below w.heap.size w w' ∧ (w'.cell? ⟨b, off + j * 2, none⟩ = some (.int .i64 pl) ∧ w'.cell? ⟨b, off + j * 2 + 1, none⟩ = some (.int .i64 ld)) := fun w' h => ⟨h, (h.cell (p := ⟨b, off + j * 2, none⟩) hbw).trans q0w, (h.cell (p := ⟨b, off + j * 2 + 1, none⟩) hbw).trans q1w⟩
      have HSTEP := Lib.hid hstep
      clear hstep hea' q0w q1w
      have hmx : A.length + 1 ≤ maxLen := by unfold maxLen; omega
      by_cases hk : 0 < k
      · have eA2 := EA.out
        rw [if_pos hk] at eA2
        have EA2 := Lib.hid eA2
        have kE := Blk.new wr 79 #[.int .i64 pl, .int .i64 k]
        have hszr := hb.size
        have hA5 := HA.out
        clear eA2
        go_upto_region 9 with (at_builtin; refine wpList_append_lies _ rfl _ _ 27 rfl w.heap.size 79 i0 (.agg #[.int .i64 0, .int .i64 0]) 2 16 Tryz.underlying27 hi hz0 hz1 hz2 rfl (by decide) (.slice a1 A.length c1) A.length (A.flatMap cellsPrt) rfl (hA5.alloc _) ⟨wr.heap.size, 0, none⟩ 1 1 [.int .i64 pl, .int .i64 k] rfl rfl (World.news_of_block kE) (by simp [Value.oneCell']) (by decide) hmx (by omega) (by simp; omega) _ rfl ?_; intro g cap w6 hown6 hgrow hat hlt6; have HP1 := Lib.hid (rows_push (A := A) (A2 := B) (p := ⟨pl, k⟩) (a2 := a2) (c2 := c2) rfl rfl hb hA5 HB.out HAP.out hown6 hgrow hat); clear hown6 hgrow hat)
        clear p0 p1 kE
        obtain ⟨_, p0, p1⟩ := HSTEP.out _ HP1.out.2.2.2
        have hbl6 : b < w6.heap.size := Nat.lt_of_lt_of_le hbw HP1.out.2.2.2.size
        by_cases hlt : k < ld
        · have eB2 := EB.out
          rw [if_pos hlt] at eB2
          have EB2 := Lib.hid eB2
          have hmxB : B.length + 1 ≤ maxLen := by unfold maxLen; omega
          have hown5 := own_below HP1.out.2.1 ((Below.refl w6.heap.size w6).drew)
          have hszw : w.heap.size ≤ w6.heap.size := HP1.out.2.2.2.size
          have hbdd : Below w.heap.size w w6 := HP1.out.2.2.2
          have hwr : IntKind.i64.wrap (ld - k) = ld - k := IntWalk.i64_in _ (by omega)
          clear eB2
          go_upto_region 10 with fail
          go_region_held3 (fun w' => Below w.heap.size w w' ∧ (w'.cell? ⟨b, off + j * 2, none⟩ = some (.int .i64 pl) ∧ w'.cell? ⟨b, off + j * 2 + 1, none⟩ = some (.int .i64 ld)))
            ((refine HSTEP.out _ ?_; repeat (first | (with_reducible exact hbdd) | (with_reducible exact hb9) | (with_reducible refine bel_alloc ?_ _) | (with_reducible refine bel_drew ?_))))
            ((refine step_append_lies _ (by rfl) _ _ _ (by rfl) w.heap.size 79 i0 _ 2 16 Tryz.underlying27 hi hz0 hz1 hz2 rfl (by omega) (.slice a2 B.length c2) B.length (B.flatMap cellsPrt) (by rfl) (hown5.alloc _) ⟨w6.heap.size, 0, none⟩ 1 1 [.int .i64 pl, .int .i64 (ld - k)] (by rfl) (by rfl) (World.news_of_block (cs := #[.int .i64 pl, .int .i64 (ld - k)]) (t := 79) (fr := (0, 0)) (heap_alloc_new w6 _)) (by simp [Value.oneCell']) (by omega) hmxB (by omega) (by simp; omega) (w6.heap.size + 1) (by simp) ?_; intro g2 cap2 w9 hown9 hgrow9 hat9 hlt9; have HPS := Lib.hid (rows_push (A := B) (A2 := (A ++ [⟨pl, k⟩])) (p := ⟨pl, ld - k⟩) (a2 := (some ⟨g, 0, none⟩)) (c2 := cap) rfl rfl hbdd.drew hown5 (own_below HP1.out.1 ((Below.refl w6.heap.size w6).drew)) (fun k h e => HP1.out.2.2.1 k e h) hown9 hgrow9 (by simpa using hat9)); have hb9 := HPS.out.2.2.2; clear hown9 hgrow9 hat9))
          all_goals
            go_wp2_with fail
            refine ⟨⟨j + 1, v - k, (A ++ [⟨pl, k⟩]), B ++ [⟨pl, ld - k⟩], (some ⟨g, 0, none⟩), cap, some ⟨g2, 0, none⟩, cap2, by omega, by simp, rfl, ⟨by omega, by omega⟩, by simp, by simp, HPS.out.2.1, HPS.out.1, fun x h e => HPS.out.2.2.1 x e h, by rw [← EA2.out]; simp, by rw [← EB2.out]; simp, by simp; omega, by simp; omega, HPS.out.2.2.2⟩, by simp [intOf]; omega⟩
        · have eB2 := EB.out
          rw [if_neg hlt, List.nil_append] at eB2
          have EB2 := Lib.hid eB2
          clear eB2
          go_wp2_with fail
          refine ⟨⟨j + 1, v - k, (A ++ [⟨pl, k⟩]), B, (some ⟨g, 0, none⟩), cap, a2, c2, by omega, by simp, rfl, ⟨by omega, by omega⟩, by simp, rfl, HP1.out.1, HP1.out.2.1, HP1.out.2.2.1, by rw [← EA2.out]; simp, EB2.out, by simp; omega, by omega, HP1.out.2.2.2⟩, by simp [intOf]; omega⟩
      · have eA2 := EA.out
        rw [if_neg hk, List.nil_append] at eA2
        have EA2 := Lib.hid eA2
        have hblr : b < wr.heap.size := Nat.lt_of_lt_of_le hbw hb.size
        obtain ⟨_, p0, p1⟩ := HSTEP.out _ hb
        clear eA2
        go_upto_region 9 with fail
        by_cases hlt : k < ld
        · have eB2 := EB.out
          rw [if_pos hlt] at eB2
          have EB2 := Lib.hid eB2
          have hmxB : B.length + 1 ≤ maxLen := by unfold maxLen; omega
          have hown5 := own_below HB.out ((Below.refl wr.heap.size wr).drew)
          have hszw : w.heap.size ≤ wr.heap.size := hb.size
          have hbdd : Below w.heap.size w wr := hb
          have hwr : IntKind.i64.wrap (ld - k) = ld - k := IntWalk.i64_in _ (by omega)
          clear eB2
          go_upto_region 10 with fail
          go_region_held3 (fun w' => Below w.heap.size w w' ∧ (w'.cell? ⟨b, off + j * 2, none⟩ = some (.int .i64 pl) ∧ w'.cell? ⟨b, off + j * 2 + 1, none⟩ = some (.int .i64 ld)))
            ((refine HSTEP.out _ ?_; repeat (first | (with_reducible exact hbdd) | (with_reducible exact hb9) | (with_reducible refine bel_alloc ?_ _) | (with_reducible refine bel_drew ?_))))
            ((refine step_append_lies _ (by rfl) _ _ _ (by rfl) w.heap.size 79 i0 _ 2 16 Tryz.underlying27 hi hz0 hz1 hz2 rfl (by omega) (.slice a2 B.length c2) B.length (B.flatMap cellsPrt) (by rfl) (hown5.alloc _) ⟨wr.heap.size, 0, none⟩ 1 1 [.int .i64 pl, .int .i64 (ld - k)] (by rfl) (by rfl) (World.news_of_block (cs := #[.int .i64 pl, .int .i64 (ld - k)]) (t := 79) (fr := (0, 0)) (heap_alloc_new wr _)) (by simp [Value.oneCell']) (by omega) hmxB (by omega) (by simp; omega) (wr.heap.size + 1) (by simp) ?_; intro g2 cap2 w9 hown9 hgrow9 hat9 hlt9; have HPS := Lib.hid (rows_push (A := B) (A2 := A) (p := ⟨pl, ld - k⟩) (a2 := a1) (c2 := c1) rfl rfl hbdd.drew hown5 (own_below HA.out ((Below.refl wr.heap.size wr).drew)) (fun k h e => HAP.out k e h) hown9 hgrow9 (by simpa using hat9)); have hb9 := HPS.out.2.2.2; clear hown9 hgrow9 hat9))
          all_goals
            go_wp2_with fail
            refine ⟨⟨j + 1, v - k, A, B ++ [⟨pl, ld - k⟩], a1, c1, some ⟨g2, 0, none⟩, cap2, by omega, by simp, rfl, ⟨by omega, by omega⟩, rfl, by simp, HPS.out.2.1, HPS.out.1, fun x h e => HPS.out.2.2.1 x e h, EA2.out, by rw [← EB2.out]; simp, by omega, by simp; omega, HPS.out.2.2.2⟩, by simp [intOf]; omega⟩
        · exfalso; omega
    · obtain rfl : j = l.length := by omega
      rw [List.drop_length] at eA eB
      simp only [cutT, cutR, List.append_nil] at eA eB
      have HA := Lib.hid (And.intro (isPrts_own hA) (fun k (hk : a1.map (·.block) = some k) => hA.lt k (by rw [rowOf_own']; exact hk)))
      have HB := Lib.hid (And.intro (isPrts_own hB) (fun k (hk : a2.map (·.block) = some k) => hB.lt k (by rw [rowOf_own']; exact hk)))
      have EA := Lib.hid eA
      have EB := Lib.hid eB
      clear hA hB hap eA eB
      go_wp2_with fail
      exact bodyPost_ret (v := .tuple #[.slice a1 A.length c1, .slice a2 B.length c2]) (by simp [results, Tryz.results47, go_sem]) rfl ⟨⟨a1, c1, a2, c2, by rw [← EA.out, ← EB.out], ⟨by rw [← EA.out]; exact HA.out.1, HA.out.2⟩, by rw [← EB.out]; exact HB.out.1, HB.out.2⟩, hb⟩
theorem refCut_any (a : Option Addr) (c : Nat) (l : List Prt) (n : Int) (w : World) (hl : IsPrts w a c l) (hok : ∀ p ∈ l, 1 ≤ p.loads ∧ p.loads ≤ 100000) (hlen : l.length ≤ 1000) (hn0 : 0 ≤ n) (hn1 : n ≤ 100000000000) :
    Calls Tryz.prog 47 #[.slice a l.length c, .int .i64 n] w fun e w' => (∃ a1 c1 a2 c2, e = .returned (.tuple #[.slice a1 (cutT n l).length c1, .slice a2 (cutR n l).length c2]) ∧ IsPrts w' a1 c1 (cutT n l) ∧ IsPrts w' a2 c2 (cutR n l)) ∧ Below w.heap.size w w' :=
  (refCutF_any a c l n w hl hok hlen hn0 hn1).mono fun _ _ ⟨⟨a1, c1, a2, c2, e, h1, h2⟩, hb⟩ => ⟨⟨a1, c1, a2, c2, e, h1.1, h2.1⟩, hb⟩
end Go.Proofs.YtfhalmlpnoepcaaGreat
