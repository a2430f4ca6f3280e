/- slices.Values of parts; put of them. -/
import Derived.Test.YtfhalmlpnoepcaaGreatGX
namespace Go.Proofs.YtfhalmlpnoepcaaGreat
open Go.RowKit Go.Shelf
attribute [local go_sem] Oper.semAt_some

theorem values_any (a : Option Addr) (n c : Nat) (w : World) :
    Calls Tryz.prog 92 #[.slice a n c] w fun e w' => e = .returned (.func (.func 105) #[] #[.pointer (some ⟨w.heap.size, 0, none⟩)]) ∧
      w' = w.alloc (.cells #[.slice a n c] 27) := by
  go_enter Tryz.func92, Tryz.ntmps92
  go_wp2
  go_ret
  exact ⟨rfl, rfl⟩

set_option maxRecDepth 100000 in
set_option maxHeartbeats 4000000 in
theorem values1_in (n : Nat) (hn : 1 ≤ n) (L Ba : Nat) (a : Option Addr) (c : Nat) (S : Nat → Prop) (l : List Prt)
    (hok : ∀ p ∈ l, 1 ≤ p.loads ∧ p.loads ≤ 100000) (hBa : S Ba) (J Jx : List Por → World → Prop)
    (hY : ∀ pre x W, J pre W → pre.length < l.length → YieldAt Fence.wide (n - 1) Tryz.prog L (encP x) W fun e W' =>
      (e = .returned (.bool true) ∧ J (pre ++ [x]) W' ∧ Keeps S W W') ∨ (e = .returned (.bool false) ∧ Jx (pre ++ [x]) W'))
    (hJ : ∀ pre A B, J pre A → Below A.heap.size A B → J pre B)
    (W : World) (hS : ∀ k, S k → k < W.heap.size) (ca : W.cell? ⟨Ba, 0, none⟩ = some (.slice a l.length c)) (hc : PrtsIn S W a c l) (h0 : J [] W) :
    CallsIn Fence.wide n Tryz.prog 105 #[.func (.yield L) #[] #[], .pointer (some ⟨Ba, 0, none⟩)] W fun e W' => (∃ v, e = .returned v) ∧
      ((∃ ys : List Por, ys.map (·.1) = l ∧ J ys W') ∨ (∃ pre : List Por, (∃ q, pre.map (·.1) ++ q = l) ∧ Jx pre W')) := by
  have lBa := hS _ hBa
  have hll : l.length ≤ 9223372036854775807 := by
    rcases hc with rfl | ⟨_, _, _, _, h1, h2, _⟩
    · simp
    · omega
  refine callsIn_of_wp Tryz.func105 rfl trivial ?_ rfl
  simp only [Tryz.ntmps105, List.size_toArray, List.length_cons, List.length_nil, Nat.reduceAdd, Nat.reduceSub, Array.replicate_succ, Array.replicate_zero, List.push_toArray, List.append_toArray, List.nil_append, List.cons_append]
  have HJ := Lib.hid hJ
  have HY := Lib.hid hY
  have HC := Lib.hid hc
  have HOK := Lib.hid hok
  clear hJ hY hc hok
  gi_wp2_with fail
  gi_loopw [7] (fun i wr => ∃ (j : Nat) (pre : List Por), j ≤ l.length ∧ i = .int .i64 j ∧ pre.length = j ∧ pre.map (·.1) = l.take j ∧ J pre wr ∧ Keeps S W wr) (fun i _ => l.length - (intOf i).toNat)
  case atStart => exact ⟨0, [], Nat.zero_le _, rfl, rfl, by simp, h0, Keeps.refl _ _⟩
  case round =>
    obtain ⟨j, pre, hj, rfl, hpl, heq, hJs, hkr⟩ := hrel
    by_cases hlj : j < l.length
    · have hq : l[j]? = some l[j] := List.getElem?_eq_getElem hlj
      obtain ⟨y0, y1⟩ := HOK.out _ (List.getElem_mem hlj)
      obtain ⟨b, off, hea, hSb, hcap, hcx, p0, p1⟩ := (HC.out.keep hkr).at hq
      have hst : l.take (j + 1) = l.take j ++ [l[j]] := by rw [List.take_add_one, hq]; rfl
      have hbl := (hkr.lt hS) b hSb
      subst hea
      generalize l[j] = p at *
      obtain ⟨pl, ld⟩ := p
      dsimp only at y0 y1 p0 p1
      have HEQ := Lib.hid heq
      have HST := Lib.hid hst
      have HJS := Lib.hid hJs
      have hj0 : (0 : Int) ≤ (j : Int) := Int.natCast_nonneg _
      have hj1 : (j : Int) < (l.length : Int) := by omega
      have kP := Blk.new wr 79 #[.int .i64 pl, .int .i64 ld]
      have hb1 : Below wr.heap.size wr (wr.alloc (.cells #[.int .i64 pl, .int .i64 ld] 79)) := (Below.refl _ _).alloc (Nat.le_refl _) _
      clear hq hst heq hJs
      gi_upto_region 3 with fail
      generalize wr.alloc (.cells #[.int .i64 pl, .int .i64 ld] 79) = w1 at *
      have lP := kP.lt
      have e0 := kP.cell 0
      have e1 := kP.cell 1
      simp only [List.getElem?_toArray, List.getElem?_cons_zero, List.getElem?_cons_succ] at e0 e1
      have hk1 := hkr.trans (Keeps.of_below hb1 (hkr.lt hS))
      obtain ⟨fn, tmps, assign, body, hy, hR⟩ := HY.out pre ⟨⟨pl, ld⟩, y0, y1⟩ w1 (HJ.out pre wr w1 HJS.out hb1) (by omega)
      dsimp only [encP] at hy
      gi_wp2_with fail
      refine hR.mono ?_
      rintro e W3 (⟨rfl, hJ3, hk3⟩ | ⟨rfl, hJx3⟩)
      · gi_wp2
        go_roundw
        case rel => exact ⟨j + 1, pre ++ [⟨⟨pl, ld⟩, _⟩], by omega, by simp, by simp; omega, by rw [HST.out, ← HEQ.out]; simp, hJ3, hk1.trans hk3⟩
        case measure => simp [intOf]; omega
      · gi_wp2
        refine bodyPost_ret (results_none rfl _ _ _) rfl ?_
        exact ⟨⟨_, rfl⟩, .inr ⟨_, ⟨l.drop (j + 1), by rw [List.map_append, HEQ.out]; simp only [List.map_cons, List.map_nil]; rw [← HST.out, List.take_append_drop]⟩, hJx3⟩⟩
    · obtain rfl : j = l.length := by omega
      rw [List.take_length] at heq
      have HEQ := Lib.hid heq
      clear heq
      gi_wp2
      go_end0
      exact ⟨⟨_, rfl⟩, .inl ⟨pre, HEQ.out, hJs⟩⟩

/-- The range over parts keeps its word to every loop body that keeps the parts' blocks. -/
theorem values_stops (n : Nat) (hn : 1 ≤ n) (Ba : Nat) (a : Option Addr) (c : Nat) (S : Nat → Prop) (l : List Prt)
    (hok : ∀ p ∈ l, 1 ≤ p.loads ∧ p.loads ≤ 100000) (hBa : S Ba) (w : World) (hS : ∀ k, S k → k < w.heap.size)
    (ca : w.cell? ⟨Ba, 0, none⟩ = some (.slice a l.length c)) (hc : PrtsIn S w a c l) :
    SeqStopsK Fence.wide n Tryz.prog 105 #[.pointer (some ⟨Ba, 0, none⟩)] encP (Keeps S) (fun ys => ys.map (·.1) = l)
      (fun pre => ∃ q, pre.map (·.1) ++ q = l) l.length w := fun L J Jx W hW hJ _ hY h0 => by
  have hW' := Keeps.of_below hW hS
  exact values1_in n hn L Ba a c S l hok hBa J Jx hY
    (fun pre A B hs hb' => hJ pre A B none hs ⟨hb'.os, hb'.tape, hb'.output, hb'.size, fun k hk _ => hb'.block k hk⟩ (fun r e => by cases e))
    W (hW'.lt hS) ((hW'.cell (p := ⟨Ba, 0, none⟩) hBa).trans ca) (hc.keep hW') h0


set_option maxRecDepth 100000 in
set_option maxHeartbeats 8000000 in
theorem putV_any (base : Nat) (S : Nat → Prop) (a0 : Option Addr) (c0 : Nat) (l0 : List Prt) (m : Int) (lb : Array Value) (N : Nat) (ys : List Prt) (Sp : List Por → Prop) (w : World)
    (hown : w.ownsRow base 79 2 (.slice a0 l0.length c0) l0.length (l0.flatMap cellsPrt)) (hrow : ∀ k, a0.map (·.block) = some k → ¬ S k) (hbase : base ≤ w.heap.size) (hS : ∀ k, S k → k < w.heap.size)
    (hl0 : ∀ q ∈ l0, 0 ≤ q.loads ∧ q.loads ≤ m) (hm0 : 0 ≤ m) (hm : m ≤ 1000000000000) (hlen : l0.length ≤ 100000) (hN : N ≤ 100000)
    (hseq : SeqStopsK Fence.wide 4 Tryz.prog 105 lb encP (Keeps S) (fun q => q.map (·.1) = ys) Sp N w) :
    Calls Tryz.prog 91 #[.slice a0 l0.length c0, .func (.func 105) #[] lb] w fun e w' => ∃ a c, e = .returned (.slice a (putL l0 ys).length c) ∧ w'.ownsRow base 79 2 (.slice a (putL l0 ys).length c) (putL l0 ys).length ((putL l0 ys).flatMap cellsPrt) ∧
      (∀ k, a.map (·.block) = some k → ¬ S k) ∧ Below base w w' ∧ Keeps S w w' := by
  obtain ⟨i0, hi, hz0, hz1, hz2⟩ := info_parts info_portion
  refine (callsIn_wide (n := 5)).1 ?_
  refine callsIn_of_wp_marks Tryz.func91 rfl trivial ?_ rfl
  simp only [Tryz.ntmps91, List.size_toArray, List.length_cons, List.length_nil, Nat.reduceAdd, Nat.reduceSub, Array.replicate_succ, Array.replicate_zero, List.push_toArray, List.append_toArray, List.nil_append, List.cons_append]
  gi_wp2
  have kL := Blk.new w 27 #[.slice a0 l0.length c0]
  have hb1 : Below w.heap.size w (w.alloc (.cells #[.slice a0 l0.length c0] 27)) := (Below.refl _ w).alloc (Nat.le_refl _) _
  have hsz : (w.alloc (.cells #[.slice a0 l0.length c0] 27)).heap.size = w.heap.size + 1 := by simp
  have hI0 : PutI base w.heap.size S w l0 [] (w.alloc (.cells #[.slice a0 l0.length c0] 27)) :=
    ⟨⟨a0, c0, kL, hown.alloc _, fun k hk => ⟨fun e => by have := (hown.lt k (by rw [rowOf_own']; exact hk)).2; omega, hrow k hk⟩⟩, hb1.mono hbase, Keeps.of_below hb1 hS⟩
  have HSZ := Lib.hid hsz
  obtain ⟨w1, hw1⟩ : ∃ w1, w.alloc (.cells #[.slice a0 l0.length c0] 27) = w1 := ⟨_, rfl⟩
  rw [hw1] at hI0 hb1 HSZ ⊢
  clear kL hsz hw1 hown hrow
  refine wpIn_rangeFunc_ownH rfl (by omega) (gf := 105) (lb := lb) rfl trivial (enters_of Tryz.func105 (by kernel_rfl) rfl)
    hseq (fun h k => h.trans k) (keeps_b (w := w1) (fun k hk => by have := hS k hk; have := HSZ.out; omega)) hb1 (fun _ => rfl)
    (PutI base w.heap.size S w l0) (fun _ _ _ => False) (PutI.own hbase (by have := HSZ.out; omega) hS) (fun _ _ _ _ _ hs _ _ => hs) hI0
    (fun x a' W => ∃ Bx, w.heap.size < Bx ∧ Blk W Bx #[.int .i64 x.1.plot, .int .i64 x.1.loads] 79 ∧ a' = { tmps := #[.slice a0 l0.length c0, .func (.func 105) #[] lb, .pointer (some ⟨w.heap.size, 0, none⟩), undef, .slice none 0 0, .pointer (some ⟨Bx, 0, none⟩), undef, .func (.func 105) #[] lb, .agg #[.int .i64 x.1.plot, .int .i64 x.1.loads], undef, undef, undef, undef, undef, undef, undef, undef, undef, undef, undef, undef, undef, undef, undef, undef, undef, undef, undef, undef, undef, undef, undef, undef, undef, undef, undef, undef, undef, undef], defers := [] })
    (fun x a' s X Y row hs hg hr => by obtain ⟨Bx, h1, h2, h3⟩ := hs; exact ⟨Bx, h1, own_blk w1.heap.size Bx _ (fun _ : Unit => #[.int .i64 x.1.plot, .int .i64 x.1.loads]) () X Y row h2 hg hr, h3⟩)
    ?assign ?body ?done ?stop
  case assign =>
    intro L pre x W K hi' hK
    unfold encP
    gi_wp2
    have hWs : w.heap.size < W.heap.size := by have := hi'.keeps.size; obtain ⟨_, _, k, _⟩ := hi'.row; exact k.lt
    exact hK _ _ ((KeepsOthers.alloc _ _).from _) ⟨by simp, fun k hk => Below.heap_alloc _ _ _ (hi'.keeps.lt hS k hk)⟩ (PutI.own (w1 := w) hbase (Nat.le_refl _) hS |>.alloc _ hi') ⟨W.heap.size, hWs, Blk.new _ _ _, rfl⟩
  case body =>
    rintro L pre ⟨⟨pl, ld⟩, hp1, hp2⟩ a' W hL ⟨r, hr⟩ ⟨⟨a, c, kL, hown, hrow⟩, hbel, hkp⟩ ⟨Bx, hBx, kX, rfl⟩ hlt
    dsimp only at hp1 hp2 kX ⊢
    have hps := putL_snoc l0 (pre.map (·.1)) ⟨pl, ld⟩
    have hpl := putL_len l0 (pre.map (·.1))
    have hpb := putL_bd l0 pre hl0 hm0
    rw [List.length_map] at hpl
    have hmap : ((pre ++ [⟨⟨pl, ld⟩, hp1, hp2⟩] : List Por).map (·.1)) = pre.map (·.1) ++ [⟨pl, ld⟩] := by simp
    rw [← hmap] at hps
    have HPS := Lib.hid hps
    clear hmap hps
    generalize putL l0 (pre.map (·.1)) = A at *
    have x0 := kX.cell 0
    have x1 := kX.cell 1
    have c0' := kL.cell 0
    have f0' := kL.frozen 0
    have lX := kX.lt
    have lL := kL.lt
    simp only [List.getElem?_toArray, List.getElem?_cons_zero, List.getElem?_cons_succ] at x0 x1 c0'
    have hmx : A.length + 1 ≤ maxLen := by unfold maxLen; omega
    have hpush : ∀ W4 : World, Below W.heap.size W W4 → (Blk W4 w.heap.size #[.slice a A.length c] 27 ∧ W4.ownsRow base 79 2 (.slice a A.length c) A.length (A.flatMap cellsPrt) ∧ Below base w W4 ∧ Keeps S w W4 ∧ Blk W4 Bx #[.int .i64 pl, .int .i64 ld] 79) := fun W4 hb => ⟨kL.belowS hb, own_below hown hb, hbel.trans (hb.mono (Nat.le_trans hbase hkp.size)), hkp.trans (Keeps.of_below hb (hkp.lt hS)), kX.belowS hb⟩
    have HPU := Lib.hid hpush
    have HROW := Lib.hid hrow
    clear hpush
    rcases List.eq_nil_or_concat A with rfl | ⟨B, q, rfl⟩
    · gi_wp2_with fail
      refine round_quiet (by kernel_rfl) (by kernel_rfl) (by kernel_rfl) ?_
      repeat (gi_big_quiet_step (fail))
      refine wpQuietIn_nil ?_
      intro _ hw'
      obtain ⟨nq, rfl⟩ := hw'
      have hbq : Below W.heap.size W (W.drewN nq) := below_drewN' _ _ _
      obtain ⟨kL4, own4, bel4, kp4, kX4⟩ := HPU.out _ hbq
      have HO : KeepsOthers W (W.drewN nq) := others_of hbq
      have HKs : Keeps S W (W.drewN nq) := Keeps.of_below hbq (hkp.lt hS)
      clear x0 x1 c0' f0' lX lL kL hown hbel kX
      generalize W.drewN nq = W4 at *
      have x0 := kX4.cell 0
      have x1 := kX4.cell 1
      have c0' := kL4.cell 0
      have lX := kX4.lt
      have lL := kL4.lt
      simp only [List.getElem?_toArray, List.getElem?_cons_zero, List.getElem?_cons_succ, List.length_nil] at x0 x1 c0'
      have kE := Blk.new W4 79 #[.int .i64 pl, .int .i64 ld]
      have hneH : some w.heap.size ≠ (Value.slice a 0 c).ownBlock := fun e => by rw [rowOf_own'] at e; exact (HROW.out _ e.symm).1 rfl
      have hb4 : base ≤ W4.heap.size := Nat.le_trans hbase kp4.size
      gi_wp2_with (gi_at_builtin; refine wpListIn_append_own_at _ rfl _ _ 27 rfl base 79 i0 (.agg #[.int .i64 0, .int .i64 0]) 2 16 Tryz.underlying27 hi hz0 hz1 hz2 rfl (by decide) (.slice a 0 c) 0 _ rfl (own4.alloc _) ⟨W4.heap.size, 0, none⟩ 1 1 [.int .i64 pl, .int .i64 ld] rfl rfl (World.news_of_block kE) (by simp [Value.oneCell']) hmx (by decide) (by simp; omega) ?_; intro v' w6 hown6 hgrow hnil hat; obtain ⟨g', cap', rfl⟩ := ownsRow_succ hown6; have kL6 := (kL4.alloc (.cells #[.int .i64 pl, .int .i64 ld] 79)).kept hgrow hneH; have z6 := kL6.cell 0; have z7 := kL6.frozen 0; simp only [List.getElem?_toArray, List.getElem?_cons_zero, List.length_nil] at z6; have HOWN6 := Lib.hid hown6; have HGR := Lib.hid hgrow; have HAT := Lib.hid hat; clear hown6 hgrow hat)
      obtain ⟨⟨s1, s2⟩, s3, s4, s5⟩ := put_step (A := []) (p := ⟨pl, ld⟩) rfl hbase (Nat.le_refl _) hS kL4 own4 HROW.out bel4 kp4 HOWN6.out HGR.out HAT.out
      exact ⟨(HO.trans s1).from _, HKs.trans s2, ⟨by rw [HPS.out]; exact s3, s4, s5⟩⟩
    · rw [List.concat_eq_append] at *
      have hqb := hpb q (by simp)
      rcases row_at cellsPrt 2 (fun _ => rfl) hown with ⟨_, h0⟩ | ⟨g, cap, hv, hbg, hg, hcap, hcap2, key⟩
      · simp at h0
      obtain ⟨rfl, _, rfl⟩ := slice_inj hv
      have k0 := key B.length q (by simp) 0 (by omega)
      have k1 := key B.length q (by simp) 1 (by omega)
      have e0 : W.cell? ⟨g, B.length * 2, none⟩ = some (.int .i64 q.plot) := k0
      have e1 : W.cell? ⟨g, B.length * 2 + 1, none⟩ = some (.int .i64 q.loads) := k1
      have hn : (B ++ [q]).length = B.length + 1 := by simp
      rw [hn] at c0' hcap
      have hb0 : (0 : Int) ≤ (B.length : Int) := Int.natCast_nonneg _
      have hKEY := Lib.hid key
      have HN := Lib.hid hn
      have hb1' : (B.length : Int) < (B.length : Int) + 1 := by omega
      obtain ⟨qp, ql⟩ := q
      dsimp only at hqb e0 e1
      clear k0 k1 key hv hn
      gi_wp2_with fail
      by_cases hpq : qp = pl
      · subst hpq
        have q1 : (qp == qp) = true := by simp
        refine round_quiet (by kernel_rfl) (by kernel_rfl) (by kernel_rfl) ?_
        repeat (gi_big_quiet_step (fail))
        refine wpQuietIn_nil ?_
        intro _ hw'
        obtain ⟨nq, rfl⟩ := hw'
        have hbq : Below W.heap.size W (W.drewN nq) := below_drewN' _ _ _
        obtain ⟨kL4, own4, bel4, kp4, kX4⟩ := HPU.out _ hbq
        have HO : KeepsOthers W (W.drewN nq) := others_of hbq
        have HKs : Keeps S W (W.drewN nq) := Keeps.of_below hbq (hkp.lt hS)
        have e0' := (hbq.cell (p := ⟨g, B.length * 2, none⟩) hg).trans e0
        have e1' := (hbq.cell (p := ⟨g, B.length * 2 + 1, none⟩) hg).trans e1
        clear x0 x1 c0' f0' lX lL kL hown hbel kX e0 e1
        generalize W.drewN nq = W4 at *
        have x0 := kX4.cell 0
        have x1 := kX4.cell 1
        have c0' := kL4.cell 0
        have lX := kX4.lt
        have lL := kL4.lt
        simp only [List.getElem?_toArray, List.getElem?_cons_zero, List.getElem?_cons_succ] at x0 x1 c0'
        rw [HN.out] at c0'
        have hfz : W4.frozen? ⟨g, B.length * 2 + 1, none⟩ = false := by
          rcases own4.2 with ⟨e, _⟩ | ⟨g', cap', cur, e, _, hgg, _⟩
          · cases e
          · obtain ⟨e2, _, _⟩ := slice_inj e
            obtain rfl : g = g' := by injection e2 with e2; injection e2
            exact Blk.frozen (show Blk W4 g cur _ from hgg) _
        have lg : g < W4.heap.size := Nat.lt_of_lt_of_le hg hbq.size
        have hw1 : IntKind.i64.wrap (ql + ld) = ql + ld := by rw [IntKind.wrap_i64]; omega
        gi_wp2_with fail
        have hgr := HROW.out g rfl
        have hP : PutI base w.heap.size S w l0 (pre ++ [⟨⟨qp, ld⟩, hp1, hp2⟩]) (W4.setCell ⟨g, B.length * 2 + 1, none⟩ (.int .i64 (ql + ld))) := by
          obtain ⟨s3, s4, s5⟩ := put_set (q := ⟨qp, ql⟩) (x := ql + ld) kL4 own4 hgr hbg bel4 kp4
          exact ⟨by rw [HPS.out, pushL_same B ⟨qp, ql⟩ ⟨qp, ld⟩ rfl]; exact s3, s4, s5⟩
        have hP2 := hP.drew hS
        have hK2 : KeepsOthers W (W4.setCell ⟨g, B.length * 2 + 1, none⟩ (.int .i64 (ql + ld))).drew := (HO.trans (KeepsOthers.setCell _ _ _)).trans (KeepsOthers.drew _)
        have hK3 : Keeps S W (W4.setCell ⟨g, B.length * 2 + 1, none⟩ (.int .i64 (ql + ld))).drew := (HKs.setCell (p := ⟨g, B.length * 2 + 1, none⟩) hgr.2 _).trans (Keeps.of_below ((Below.refl _ _).drew) ((HKs.setCell (p := ⟨g, B.length * 2 + 1, none⟩) hgr.2 _).lt (hkp.lt hS)))
        have HP2 := Lib.hid hP2
        have HK2 := Lib.hid hK2
        have HK3 := Lib.hid hK3
        clear hP hP2 hK2 hK3
        gi_region
        all_goals exact ⟨HK2.out.from _, HK3.out, HP2.out⟩
      · have q1 : (qp == pl) = false := by simp [hpq]
        refine round_quiet (by kernel_rfl) (by kernel_rfl) (by kernel_rfl) ?_
        repeat (gi_big_quiet_step (fail))
        refine wpQuietIn_nil ?_
        intro _ hw'
        obtain ⟨nq, rfl⟩ := hw'
        have hbq : Below W.heap.size W (W.drewN nq) := below_drewN' _ _ _
        obtain ⟨kL4, own4, bel4, kp4, kX4⟩ := HPU.out _ hbq
        have HO : KeepsOthers W (W.drewN nq) := others_of hbq
        have HKs : Keeps S W (W.drewN nq) := Keeps.of_below hbq (hkp.lt hS)
        have e0' := (hbq.cell (p := ⟨g, B.length * 2, none⟩) hg).trans e0
        have e1' := (hbq.cell (p := ⟨g, B.length * 2 + 1, none⟩) hg).trans e1
        clear x0 x1 c0' f0' lX lL kL hown hbel kX e0 e1
        generalize W.drewN nq = W4 at *
        have x0 := kX4.cell 0
        have x1 := kX4.cell 1
        have c0' := kL4.cell 0
        have lX := kX4.lt
        have lL := kL4.lt
        simp only [List.getElem?_toArray, List.getElem?_cons_zero, List.getElem?_cons_succ] at x0 x1 c0'
        rw [HN.out] at c0'
        have own5 := own4
        rw [HN.out] at own5
        have hmx2 : B.length + 1 + 1 ≤ maxLen := by rw [← HN.out]; exact hmx
        have hbl : B.length + 1 ≤ 200000 := by rw [← HN.out]; omega
        have kE := Blk.new W4 79 #[.int .i64 pl, .int .i64 ld]
        have hneH : some w.heap.size ≠ (Value.slice (some (⟨g, 0, none⟩ : Addr)) (B.length + 1) c).ownBlock := fun e => by rw [rowOf_own'] at e; exact (HROW.out _ e.symm).1 rfl
        have hb4 : base ≤ W4.heap.size := Nat.le_trans hbase kp4.size
        gi_wp2_with (gi_at_builtin; refine wpListIn_append_own_at _ rfl _ _ 27 rfl base 79 i0 (.agg #[.int .i64 0, .int .i64 0]) 2 16 Tryz.underlying27 hi hz0 hz1 hz2 rfl (by decide) (.slice (some ⟨g, 0, none⟩) (B.length + 1) c) (B.length + 1) _ rfl (own5.alloc _) ⟨W4.heap.size, 0, none⟩ 1 1 [.int .i64 pl, .int .i64 ld] rfl rfl (World.news_of_block kE) (by simp [Value.oneCell']) hmx2 (by omega) (by simp; omega) ?_; intro v' w6 hown6 hgrow hnil hat; obtain ⟨g', cap', rfl⟩ := ownsRow_succ hown6; have kL6 := (kL4.alloc (.cells #[.int .i64 pl, .int .i64 ld] 79)).kept hgrow hneH; have z6 := kL6.cell 0; have z7 := kL6.frozen 0; simp only [List.getElem?_toArray, List.getElem?_cons_zero] at z6; rw [HN.out] at z6; have HOWN6 := Lib.hid hown6; have HGR := Lib.hid hgrow; have HAT := Lib.hid hat; clear hown6 hgrow hat)
        obtain ⟨⟨s1, s2⟩, s3, s4, s5⟩ := put_step (A := B ++ [⟨qp, ql⟩]) (p := ⟨pl, ld⟩) HN.out hbase (Nat.le_refl _) hS (HN.out ▸ kL4) own5 HROW.out bel4 kp4 HOWN6.out (HN.out ▸ HGR.out) HAT.out
        exact ⟨(HO.trans s1).from _, HKs.trans s2, ⟨by rw [HPS.out, pushL_other B ⟨qp, ql⟩ ⟨pl, ld⟩ hpq]; exact s3, s4, s5⟩⟩
  case done =>
    rintro D xs W hD rfl hi' hK
    obtain ⟨⟨a, c, k1, k2, k3⟩, k4, k5⟩ := hi'
    have c0' := k1.cell 0
    have lL := k1.lt
    simp only [List.getElem?_toArray, List.getElem?_cons_zero] at c0'
    gi_wp2
    refine ⟨by simp, .inl ⟨_, _, rfl, run_takeDeferred hK, ?_⟩⟩
    have hDw : w.heap.size ≤ D := by have := HSZ.out; omega
    exact ⟨.slice a _ c, by simp [results, Tryz.results91, go_sem], a, c, rfl, ownsRow_putObj k2 _ hK rfl, fun a1 e => (k3 _ (by rw [e]; rfl)).2, below_putObj k4 _ (by omega) (Nat.le_trans hbase k5.size), k5.trans (keeps_b (w := w) hS W D _ _ hDw hK rfl rfl)⟩
  case stop => rintro D c pre W hD _ h _; exact h.elim
end Go.Proofs.YtfhalmlpnoepcaaGreat
