/- places: where each edge is. -/
import Derived.Test.YtpdgcajbdaleeaaZM
namespace Go.Proofs.Ytpdgcajbdaleeaa
open Go.RowKit Go.Shelf Go.Maps
attribute [local go_sem] Oper.semAt_some

/-- The edges of one face are laid in the map. -/
def rowF (F : Edg → Option (Nat × Nat)) (i : Nat) (l : List Pnt) (n : Nat) : Edg → Option (Nat × Nat) := (List.range n).foldl (fun F k => putF F (edgN l k) (i, k)) F
theorem rowF_succ (F : Edg → Option (Nat × Nat)) (i : Nat) (l : List Pnt) (n : Nat) : rowF F i l (n + 1) = putF (rowF F i l n) (edgN l n) (i, n) := by simp [rowF, List.range_succ]
theorem rowF_zero (F : Edg → Option (Nat × Nat)) (i : Nat) (l : List Pnt) : rowF F i l 0 = F := rfl
/-- The edges of the first j faces. -/
def allF (fs : List Fac) (j : Nat) : Edg → Option (Nat × Nat) := (List.range j).foldl (fun F i => match fs[i]? with | some f => rowF F i f.cs f.cs.length | none => F) (fun _ => none)
theorem allF_succ {fs : List Fac} {j : Nat} {f : Fac} (h : fs[j]? = some f) : allF fs (j + 1) = rowF (allF fs j) j f.cs f.cs.length := by simp [allF, List.range_succ, h]

def markD (D : Nat) : Deferred := { target := .collected D, args := #[] }
/-- The marks of the ranges that have ended. -/
structure Marks (n : Nat) (w : World) (Ds : List Nat) : Prop where
  apart : Ds.Nodup
  at_ : ∀ D ∈ Ds, n ≤ D ∧ w.heap[D]? = some (.deferred (some []))
theorem Marks.nil (n : Nat) (w : World) : Marks n w [] := ⟨List.nodup_nil, fun _ h => by cases h⟩
theorem Marks.keep {n : Nat} {w w' : World} {Ds : List Nat} (h : Marks n w Ds) (hk : ∀ D ∈ Ds, w'.heap[D]? = w.heap[D]?) : Marks n w' Ds := ⟨h.apart, fun D hD => ⟨(h.at_ D hD).1, (hk D hD).trans (h.at_ D hD).2⟩⟩
theorem Marks.lt {n : Nat} {w : World} {Ds : List Nat} (h : Marks n w Ds) {D : Nat} (hD : D ∈ Ds) : D < w.heap.size := (Array.getElem?_eq_some_iff.1 (h.at_ D hD).2).1
theorem Marks.cons {n : Nat} {w : World} {Ds : List Nat} {D : Nat} (h : Marks n w Ds) (hD : n ≤ D) (hw : w.heap[D]? = some (.deferred (some []))) (hn : D ∉ Ds) : Marks n w (D :: Ds) :=
  ⟨List.nodup_cons.2 ⟨hn, h.apart⟩, fun E hE => by rcases List.mem_cons.1 hE with rfl | hE; exact ⟨hD, hw⟩; exact h.at_ E hE⟩

/-- A function leaves over the marks. -/
theorem leaves_marks {F : Fence} {k : Nat} {P : Program} {fn : Func} {tmps : Array Value} {R : Ending → World → Prop} {n : Nat} : ∀ (Ds : List Nat) (w : World), Marks n w Ds → n ≤ w.heap.size →
    (∀ w', Below n w w' → (∀ (j : Nat) (o : Obj), w.heap[j]? = some o → o ≠ .deferred (some []) → w'.heap[j]? = some o) → LeavesIn F k P fn tmps R [] .returning w') → LeavesInM F k P fn tmps R (Ds.map markD) .returning w
  | [], w, _, _, h => h w (Below.refl _ _) (fun _ _ h _ => h)
  | D :: Ds, w, hm, hn, h => by
    obtain ⟨hD, hw⟩ := hm.at_ D (by simp)
    have hap := List.nodup_cons.1 hm.apart
    have hlt := hm.lt (D := D) (by simp)
    refine ⟨by simp, .inl ⟨D, _, rfl, run_takeDeferred hw, ?_⟩⟩
    have hb : Below n w (w.putObj D (.deferred none)) := below_putObj (Below.refl _ _) _ hD hn
    refine leaves_marks Ds _ ⟨hap.2, fun E hE => ⟨(hm.at_ E (by simp [hE])).1, (World.putObj_heap_other (fun e => hap.1 (by rw [← e]; exact hE))).trans (hm.at_ E (by simp [hE])).2⟩⟩ (Nat.le_trans hn hb.size) (fun w' hb' hk => h w' (hb.trans hb') (fun j o hj ho => ?_))
    refine hk j o ((World.putObj_heap_other (fun e => ?_)).trans hj) ho
    subst e
    rw [hw] at hj
    cases hj
    exact ho rfl

/-- The frame of 'places'. -/
def plA (x0 x1 x2 x3 x4 x5 x6 x7 x8 x9 x10 x11 x12 x13 x14 x15 x16 x17 x18 x19 x20 x21 x22 x23 x24 x25 x26 x27 x28 : Value) (ds : List Deferred) : Act := { tmps := #[x0, x1, x2, x3, x4, x5, x6, x7, x8, x9, x10, x11, x12, x13, x14, x15, x16, x17, x18, x19, x20, x21, x22, x23, x24, x25, x26, x27, x28], defers := ds }

/-- What holds at the head of the round j of 'places'. -/
structure PInv (w : World) (fa oa : Option Addr) (fc oc : Nat) (fs : List Fac) (no : Nat) (j : Nat) (Ds : List Nat) (W : World) : Prop where
  below : Below w.heap.size w W
  roof : Blk W w.heap.size #[.slice fa fs.length fc, .slice oa no oc] 25
  cell : Blk W (w.heap.size + 1 + 1) #[.map (some (w.heap.size + 1))] 92
  map : MapRep W (w.heap.size + 1) (j * 1000) (allF fs j)
  marks : Marks (w.heap.size + 3) W Ds

theorem MapRep.kept {w w' : World} {b n : Nat} {F : Edg → Option (Nat × Nat)} (h : MapRep w b n F) (hk : ∀ o, w.heap[b]? = some o → o ≠ .deferred (some []) → w'.heap[b]? = some o) : MapRep w' b n F := by
  obtain ⟨D, ⟨es, clock, h1, h2⟩, h3⟩ := h
  exact ⟨D, ⟨es, clock, hk _ h1 (by simp), h2⟩, h3⟩

/-- The edges that a range has told are laid in the map. -/
def preF (F : Edg → Option (Nat × Nat)) (i : Nat) (l : List Pnt) (pre : List (Fin l.length)) : Edg → Option (Nat × Nat) := pre.foldl (fun F k => putF F (edgN l k.1) (i, k.1)) F
theorem preF_snoc (F : Edg → Option (Nat × Nat)) (i : Nat) (l : List Pnt) (pre : List (Fin l.length)) (x : Fin l.length) : preF F i l (pre ++ [x]) = putF (preF F i l pre) (edgN l x.1) (i, x.1) := by simp [preF]
theorem finRange_map (n : Nat) : (List.finRange n).map (fun x => x.1) = List.range n := by
  apply List.ext_getElem?
  intro i
  by_cases h : i < n
  · simp [h]
  · simp [h]
theorem preF_all (F : Edg → Option (Nat × Nat)) (i : Nat) (l : List Pnt) : preF F i l (List.finRange l.length) = rowF F i l l.length := by
  unfold preF rowF
  rw [← finRange_map, List.foldl_map]
theorem ownFrom_map {β : Type} {B b : Nat} (m : β → Nat) (G : β → Edg → Option (Nat × Nat)) (hb : b < B) : OwnFrom B (fun (s : β) W => MapRep W b (m s) (G s)) :=
  fun s X Y row hs hg hr => hs.of_block (hg.block b hs.lt (fun e => by have := (hr b e.symm).1; omega))

set_option maxRecDepth 100000 in
set_option maxHeartbeats 8000000 in
theorem places_any (R : Roo) (w : World) (hR : IsRoof w R) (hfs : R.fs.length ≤ 16) (hok : ∀ f ∈ R.fs, okPts f.cs ∧ f.cs.length ≤ 1000) :
    Calls Try.prog 74 #[.agg #[.slice R.fa R.fs.length R.fc, .slice R.oa R.os.length R.oc]] w fun e w' => ∃ B, e = .returned (.map (some B)) ∧ w.heap.size ≤ B ∧ MapRep w' B 16000 (allF R.fs R.fs.length) ∧ Below w.heap.size w w' := by
  refine (callsIn_wide (n := 5)).1 ?_
  refine callsIn_of_wp_marks Try.func74 rfl trivial ?_ rfl
  obtain ⟨fa, fc, fs, oa, oc, os⟩ := R
  simp only [] at hfs hok
  have hmm := @run_makeMap Try.prog
  have HF := Lib.hid hR.1
  have HOK := Lib.hid hok
  clear hok hR
  simp only [] at HF
  simp only [Try.ntmps74, List.size_toArray, List.length_cons, List.length_nil, Nat.reduceAdd, Nat.reduceSub, Array.replicate_succ, Array.replicate_zero, List.push_toArray, List.append_toArray, List.nil_append, List.cons_append]
  gi_wp2
  clear hmm
  have hI0 : PInv w fa oa fc oc fs os.length 0 [] (((w.alloc (.cells #[.slice fa fs.length fc, .slice oa os.length oc] 25)).alloc (.map #[] 0)).alloc (.cells #[.map (some (w.heap.size + 1))] 92)) := by
    have k1 := ((Blk.new w 25 #[.slice fa fs.length fc, .slice oa os.length oc]).alloc (.map #[] 0)).alloc (.cells #[.map (some (w.heap.size + 1))] 92)
    have k2 := Blk.new ((w.alloc (.cells #[.slice fa fs.length fc, .slice oa os.length oc] 25)).alloc (.map #[] 0)) 92 #[.map (some (w.heap.size + 1))]
    have k3 := MapRep.made (w.alloc (.cells #[.slice fa fs.length fc, .slice oa os.length oc] 25))
    simp only [World.size_alloc] at k2 k3
    exact ⟨(((Below.refl _ w).alloc (Nat.le_refl _) _).alloc (by simp) _).alloc (by simp; omega) _, k1, k2, k3.of_block (Below.heap_alloc _ _ _ k3.lt), Marks.nil _ _⟩
  refine wpIn_loop (fun a W => ∃ (j : Nat) (Ds : List Nat) (u4 u5 u6 u7 u13 u14 u15 u16 u17 u18 u19 u20 u21 u22 u23 u24 u25 u26 u27 u28 : Value), j ≤ fs.length ∧ PInv w fa oa fc oc fs os.length j Ds W ∧ a = (plA (.agg #[.slice fa fs.length fc, .slice oa os.length oc]) (.pointer (some ⟨w.heap.size, 0, none⟩)) (.map none) (.pointer (some ⟨w.heap.size + 1 + 1, 0, none⟩)) u4 u5 u6 u7 (.map (some (w.heap.size + 1))) (.pointer (some ⟨w.heap.size, 0, none⟩)) (.slice fa fs.length fc) (.int .i64 (fs.length : Int)) (.int .i64 (j : Int)) u13 u14 u15 u16 u17 u18 u19 u20 u21 u22 u23 u24 u25 u26 u27 u28 (Ds.map markD)))
    (fun a _ => fs.length - (intOf (a.tmps.getD 12 undef)).toNat) ⟨0, [], undef, undef, undef, undef, undef, undef, undef, undef, undef, undef, undef, undef, undef, undef, undef, undef, undef, undef, undef, undef, Nat.zero_le _, hI0, rfl⟩ ?round
  case round =>
    rintro a wr ⟨j, Ds, u4, u5, u6, u7, u13, u14, u15, u16, u17, u18, u19, u20, u21, u22, u23, u24, u25, u26, u27, u28, hj, hI, rfl⟩
    clear hI0
    unfold plA
    by_cases hlj : j < fs.length
    · rcases HF.out with ⟨_, hn⟩ | ⟨b, off, c, h1, h2, h3, h4, h5⟩
      · rw [hn] at hlj
        simp at hlj
      have hq : fs[j]? = some fs[j] := List.getElem?_eq_getElem hlj
      obtain ⟨hokl, hokp⟩ := HOK.out fs[j] (List.getElem_mem hlj)
      obtain ⟨dd, hfin⟩ := h5 j _ hq
      obtain ⟨d0, d1, d2, d3, d4, d5, d6⟩ := dd.below hI.below h2
      obtain ⟨rfl, _, rfl⟩ := slice_inj h1
      have hsucc := allF_succ hq
      generalize fs[j] = F at *
      have HQ := Lib.hid hq
      have HS := Lib.hid hsucc
      clear hq h1 h5 dd hsucc
      have hj0 : (0 : Int) ≤ (j : Int) := Int.natCast_nonneg _
      have hj1 : (j : Int) < (fs.length : Int) := by omega
      have hlw := hI.cell.lt
      gi_wp2_with fail
      refine ⟨trivial, ?_⟩
      refine (callsIn_wide.2 (walk_any _ _ _ _)).mono ?_
      rintro e w1 ⟨rfl, rfl⟩
      gi_wp2_with fail
      have hW : Below wr.heap.size wr (((wr.alloc (.cells #[.int .i64 (j : Int)] 3)).alloc (.cells (facC F) 72)).alloc (.cells #[.slice F.ca F.cs.length F.cc] 70)) := (((Below.refl _ wr).alloc (Nat.le_refl _) _).alloc (by simp) _).alloc (by simp; omega) _
      have kJ := ((Blk.new wr 3 #[.int .i64 (j : Int)]).alloc (.cells (facC F) 72)).alloc (.cells #[.slice F.ca F.cs.length F.cc] 70)
      have kS := Blk.new ((wr.alloc (.cells #[.int .i64 (j : Int)] 3)).alloc (.cells (facC F) 72)) 70 #[.slice F.ca F.cs.length F.cc]
      have hsz : (((wr.alloc (.cells #[.int .i64 (j : Int)] 3)).alloc (.cells (facC F) 72)).alloc (.cells #[.slice F.ca F.cs.length F.cc] 70)).heap.size = wr.heap.size + 3 := by simp
      simp only [World.size_alloc] at kS
      unfold facC at hW kJ kS hsz
      obtain ⟨W1, hW1⟩ : ∃ W1, (((wr.alloc (.cells #[.int .i64 (j : Int)] 3)).alloc (.cells #[.string F.name, .int .i64 F.side, .int .i64 F.foot, .int .i64 F.base, .int .i64 F.rise, .int .i64 F.run, .slice F.ca F.cs.length F.cc] 72)).alloc (.cells #[.slice F.ca F.cs.length F.cc] 70)) = W1 := ⟨_, rfl⟩
      rw [hW1] at hW kJ kS hsz ⊢
      clear hW1 d0 d1 d2 d3 d4 d5 d6
      have HSZ := Lib.hid hsz
      clear hsz
      have hS : ∀ k, (k < W1.heap.size ∧ k ≠ w.heap.size + 1) → k < W1.heap.size := fun k hk => hk.1
      have hBlw : Below w.heap.size w W1 := hI.below.trans (hW.mono hI.below.size)
      have kC : Blk W1 (w.heap.size + 1 + 1) #[.map (some (w.heap.size + 1))] 92 := hI.cell.belowS hW
      have kM : MapRep W1 (w.heap.size + 1) (j * 1000) (allF fs j) := hI.map.of_block (hW.block _ (by omega))
      refine walk_law (n := 5) (by omega) (Bs := wr.heap.size + 1 + 1) rfl (fun k => k < W1.heap.size ∧ k ≠ w.heap.size + 1) F.cs hokp ⟨by have := HSZ.out; omega, by omega⟩ hS (kS.cell 0) ?hsv rfl
        (fun pre W => MapRep W (w.heap.size + 1) (j * 1000 + pre.length) (preF (allF fs j) j F.cs pre) ∧ (Keeps (fun k => k < W1.heap.size ∧ k ≠ w.heap.size + 1) W1 W ∧ Below w.heap.size w W))
        (fun _ _ _ => False)
        ((ownFrom_map (fun pre => j * 1000 + pre.length) (fun pre => preF (allF fs j) j F.cs pre) (by have := HSZ.out; omega)).and ((ownFrom_keeps (S := fun k => k < W1.heap.size ∧ k ≠ w.heap.size + 1) hS hS).and (ownFrom_below (Nat.le_refl _) (by have := HSZ.out; omega))))
        (fun c => ownFrom_pure _ (fun _ => False))
        ⟨kM, Keeps.refl _ _, hBlw⟩
        (fun x Bx => { tmps := #[.agg #[.slice (some ⟨b, off, none⟩) fs.length fc, .slice oa os.length oc], .pointer (some ⟨w.heap.size, 0, none⟩), .map none, .pointer (some ⟨w.heap.size + 1 + 1, 0, none⟩), .pointer (some ⟨wr.heap.size, 0, none⟩), .pointer (some ⟨wr.heap.size + 1, 0, none⟩), .int .i64 (x.1 : Int), .pointer (some ⟨Bx, 0, none⟩), .map (some (w.heap.size + 1)), .pointer (some ⟨w.heap.size, 0, none⟩), .slice (some ⟨b, off, none⟩) fs.length fc, .int .i64 (fs.length : Int), .int .i64 (j : Int), .bool true, .int .i64 (j : Int), .pointer (some ⟨b, off + j * 7, none⟩), .agg #[.string F.name, .int .i64 F.side, .int .i64 F.foot, .int .i64 F.base, .int .i64 F.rise, .int .i64 F.run, .slice F.ca F.cs.length F.cc], .pointer (some ⟨wr.heap.size + 1, 6, none⟩), .slice F.ca F.cs.length F.cc, .func (.func 102) #[] #[.pointer (some ⟨wr.heap.size + 1 + 1, 0, none⟩)], .int .i64 (x.1 : Int), .agg (edgC (edgN F.cs x.1)), u22, u23, u24, u25, u26, u27, u28], defers := [] }) ?assign ?body ?done ?stop
      case hsv =>
        rcases hfin.1 with ⟨q1, q2⟩ | ⟨b', off', c', q1, q2, q3, q4, q5⟩
        · exact .inl ⟨q1, q2⟩
        · exact .inr ⟨b', off', c', q1, ⟨by have := HSZ.out; omega, by omega⟩, q5.below hBlw q2⟩
      case assign =>
        intro L x W K hK
        unfold edgC encE at *
        gi_wp2
        exact hK
      case body =>
        rintro L pre x Bx W hBx hWs hE ⟨hm, hk, hb⟩ hlt
        have he := edgN_ok hokl x.1
        have e0 := hE.cell 0
        have e1 := hE.cell 1
        have e2 := hE.cell 2
        have e3 := hE.cell 3
        have hsz := HSZ.out
        have c3 := (hk.cell (p := ⟨w.heap.size + 1 + 1, 0, none⟩) ⟨by show w.heap.size + 1 + 1 < _; omega, by show w.heap.size + 1 + 1 ≠ _; omega⟩).trans (kC.cell 0)
        have cJ := (hk.cell (p := ⟨wr.heap.size, 0, none⟩) ⟨by show wr.heap.size < _; omega, by show wr.heap.size ≠ _; omega⟩).trans (kJ.cell 0)
        simp only [edgC, List.getElem?_toArray, List.getElem?_cons_zero, List.getElem?_cons_succ] at e0 e1 e2 e3 c3 cJ
        simp only [edgC]
        have hps := preF_snoc (allF fs j) j F.cs pre x
        generalize hEq : edgN F.cs x.1 = E at *
        have HE := Lib.hid hEq
        have HPS := Lib.hid hps
        clear hEq hps hsz
        obtain ⟨D, hown, hrep⟩ := hm
        have hlw2 := hb.size
        gi_wp2_with (gi_at_mapUpdate; refine wpListIn_mapUpdate_own _ rfl _ _ _ 92 rfl 122 130 Try.lawE Try.underlying92 placeR _ _ D rfl hown (by unfold maxLen; omega) _ _ (keyE E) rfl rfl (keyE_of E he) (placeD (j : Int) (x.1 : Int)) [] (placeR_mk _ _) ?_; intro w2 hown2 hg2)
        refine ⟨KeepsFrom.of_grownBy hg2 (by rintro k e; cases e; have := HSZ.out; omega), ⟨hg2.size, fun k hk' => hg2.block k (Nat.lt_of_lt_of_le hk'.1 hWs) (by rintro e; cases e; exact hk'.2 rfl)⟩, ?_, ?_, hb.grown hg2 hb.size (by rintro k e; cases e; omega)⟩
        · rw [HPS.out, List.length_append]
          exact MapRep.put (p := (j, x.1)) he hown.isMap hrep (MapRep.isKey he) hown2
        · exact hk.trans ⟨hg2.size, fun k hk' => hg2.block k (Nat.lt_of_lt_of_le hk'.1 hWs) (by rintro e; cases e; exact hk'.2 rfl)⟩
      case done =>
        rintro D W hD ⟨hm, hk, hb⟩ hDef
        have hsz := HSZ.out
        have hm2 : MapRep W (w.heap.size + 1) ((j + 1) * 1000) (allF fs (j + 1)) := by
          rw [HS.out, ← preF_all]
          refine hm.mono ?_
          rw [List.length_finRange]
          omega
        have hk1 : ∀ k, k < wr.heap.size → k ≠ w.heap.size + 1 → W.heap[k]? = wr.heap[k]? := fun k h1 h2 => (hk.block k ⟨by omega, h2⟩).trans (hW.block k h1)
        have hI2 : PInv w (some ⟨b, off, none⟩) oa fc oc fs os.length (j + 1) (D :: Ds) W :=
          ⟨hb, (hk1 _ (by omega) (by omega)).trans hI.roof, (hk1 _ (by omega) (by omega)).trans hI.cell, hm2,
            (hI.marks.keep (fun E hE => hk1 E (hI.marks.lt hE) (by have := (hI.marks.at_ E hE).1; omega))).cons (by omega) hDef (fun hDD => by have := hI.marks.lt hDD; omega)⟩
        clear hm hk hm2 hk1 hI kM kC kJ kS hW hsz
        gi_wp2
        refine ⟨⟨j + 1, D :: Ds, ?_⟩, by simp [intOf]; omega⟩
        have hc : ((j + 1 : Nat) : Int) = (j : Int) + 1 := by omega
        rw [hc]
        repeat apply Exists.intro
        refine ⟨by omega, hI2, ?_⟩
        rfl
      case stop =>
        rintro D c k W hD hk h hDef
        exact h.elim
    · obtain rfl : j = fs.length := by omega
      have c0 := hI.cell.cell 0
      simp only [List.getElem?_toArray, List.getElem?_cons_zero] at c0
      have hlw := hI.cell.lt
      gi_wp2
      refine leaves_marks Ds _ hI.marks (by omega) (fun W hb hk => ?_)
      exact ⟨.map (some (w.heap.size + 1)), by simp [results, Try.results74, go_sem], _, rfl, by omega, (hI.map.kept (fun o => hk _ o)).mono (by omega), hI.below.trans (hb.mono (by omega))⟩
end Go.Proofs.Ytpdgcajbdaleeaa
