/- edgesOf: all edges with their kinds. -/
import Derived.Test.YtpdgcajbdaleeaaZS
import Derived.Test.YtpdgcajbdaleeaaX8
import Derived.Test.YtpdgcajbdaleeaaW
set_option linter.unusedSimpArgs false
namespace Go.Proofs.Ytpdgcajbdaleeaa
open Go.RowKit Go.Shelf Go.Maps
attribute [local go_sem] Oper.semAt_some

/-- An edge as it is told. -/
structure EdR where
  face : Int
  number : Int
  kind : Int
  wth : Int
  at_ : Int
def cellsR (x : EdR) : List Value := [.int .i64 x.face, .int .i64 x.number, .int .i64 x.kind, .int .i64 x.wth, .int .i64 x.at_]
def bck (e : Edg) : Edg := ⟨e.b, e.a⟩
def edgR (fs : List Fac) (i : Nat) (f : Fac) (n : Nat) : EdR := match allF fs fs.length (bck (edgN f.cs n)) with
  | some p => ⟨i, n, (match fs[p.1]? with | some g => kindB f g (edgN f.cs n) | none => 0), p.1, p.2⟩
  | none => ⟨i, n, kindA f (edgN f.cs n), -1, -1⟩
def rowR (fs : List Fac) (i : Nat) (f : Fac) : List EdR := (List.range f.cs.length).map (edgR fs i f)
def allR (fs : List Fac) (j : Nat) : List EdR := (List.range j).flatMap (fun i => match fs[i]? with | some f => rowR fs i f | none => [])
theorem allR_succ {fs : List Fac} {j : Nat} {f : Fac} (h : fs[j]? = some f) : allR fs (j + 1) = allR fs j ++ rowR fs j f := by simp [allR, List.range_succ, h]

theorem rowF_lt {F : Edg → Option (Nat × Nat)} {i : Nat} {l : List Pnt} {x : Edg} {p : Nat × Nat} : ∀ {n : Nat}, rowF F i l n x = some p → F x = some p ∨ p.1 = i
  | 0, h => .inl h
  | n + 1, h => by
    rw [rowF_succ] at h
    unfold putF at h
    split at h
    · cases h
      exact .inr rfl
    · exact rowF_lt h
theorem allF_lt {fs : List Fac} {x : Edg} {p : Nat × Nat} : ∀ {j : Nat}, j ≤ fs.length → allF fs j x = some p → p.1 < j
  | 0, _, h => by cases h
  | j + 1, hj, h => by
    rw [allF_succ (List.getElem?_eq_getElem (show j < fs.length by omega))] at h
    rcases rowF_lt h with h | h
    · have := allF_lt (by omega) h
      omega
    · omega

/-- The list of edges that the call makes. -/
def rowsV (l : List EdR) : List Value := l.flatMap cellsR
theorem allR_len {fs : List Fac} (h : ∀ f ∈ fs, f.cs.length ≤ 1000) : ∀ j, (allR fs j).length ≤ j * 1000
  | 0 => by simp [allR]
  | j + 1 => by
    have ih := allR_len h j
    have e : allR fs (j + 1) = allR fs j ++ (match fs[j]? with | some f => rowR fs j f | none => []) := by simp [allR, List.range_succ]
    rw [e, List.length_append]
    cases hq : fs[j]? with
    | none => rw [Nat.add_mul]; exact Nat.le_trans (by simpa using ih) (Nat.le_add_right _ _)
    | some f =>
      have := h f (List.mem_of_getElem? hq)
      simp only [rowR, List.length_map, List.length_range]
      omega
theorem grownBy_set (w : World) (p : Addr) (u : Value) : w.grownBy (w.setCell p u) (some p.block) := ⟨rfl, rfl, rfl, by show w.heap.size ≤ (w.heap.modify _ _).size; rw [Array.size_modify]; exact Nat.le_refl _, fun k _ hne => Below.heap_setCell _ _ _ _ (fun e => hne (by rw [e]))⟩
theorem own_ne {w : World} {base : Nat} {e : TypeId} {size : Nat} {v : Value} {n : Nat} {xs : List Value} {b : Nat} (h : w.ownsRow base e size v n xs) (hb : b < base) : v.ownBlock = none ∨ v.ownBlock ≠ some b := by
  cases hv : v.ownBlock with
  | none => exact .inl rfl
  | some k => exact .inr (fun e => by have := (h.lt k hv).1; simp only [Option.some.injEq] at e; omega)
theorem rowsV_len (l : List EdR) : (rowsV l).length = l.length * 5 := by
  induction l with
  | nil => rfl
  | cons x l ih => simp [rowsV, cellsR] at ih ⊢; omega
theorem rowsV_snoc (l : List EdR) (x : EdR) : rowsV (l ++ [x]) = rowsV l ++ cellsR x := by simp [rowsV]

/-- What holds at the head of the round j of 'edgesOf'. -/
structure EInv (w : World) (fa oa : Option Addr) (fc oc : Nat) (fs : List Fac) (no N Bm : Nat) (j : Nat) (Ds : List Nat) (v : Value) (W : World) : Prop where
  below : Below w.heap.size w W
  roof : Blk W w.heap.size #[.slice fa fs.length fc, .slice oa no oc] 25
  mbox : Blk W N #[.map (some Bm)] 92
  lbox : Blk W (N + 1) #[v] 50
  map : MapRep W Bm 16000 (allF fs fs.length)
  row : W.ownsRow (N + 2) 57 5 v (allR fs j).length (rowsV (allR fs j))
  marks : Marks (N + 2) W Ds
theorem ownsRow_kept2 {w w' : World} {base base' : Nat} {e : TypeId} {size : Nat} {v : Value} {n : Nat} {xs : List Value} (h : w.ownsRow base e size v n xs) (hb : base' ≤ base) (hk : ∀ (g : Nat) (o : Obj), w.heap[g]? = some o → o ≠ .deferred (some []) → w'.heap[g]? = some o) :
    w'.ownsRow base' e size v n xs :=
  ⟨h.1, h.2.imp id (fun ⟨g, cap, cur, hv, hb1, hg, r⟩ => ⟨g, cap, cur, hv, Nat.le_trans hb hb1, hk _ _ hg (by simp), r⟩)⟩

/-- What holds in a round over an outline's edges. -/
structure RInv (S : Nat → Prop) (w W1 : World) (N : Nat) (v1 : Value) (l : List EdR) (W : World) : Prop where
  ex : ∃ v, Blk W (N + 1) #[v] 50 ∧ W.ownsRow (N + 2) 57 5 v l.length (rowsV l) ∧ ∀ k, v.ownBlock = some k → v1.ownBlock = some k ∨ W1.heap.size ≤ k
  keeps : Keeps S W1 W
  below : Below w.heap.size w W
theorem own_rinv {β : Type} {S : Nat → Prop} {w W1 : World} {N : Nat} {v1 : Value} (G : β → List EdR) (hS : ∀ k, S k → k < W1.heap.size) (hN : N + 1 < W1.heap.size) (hw : w.heap.size ≤ W1.heap.size) : OwnFrom W1.heap.size (fun (s : β) W => RInv S w W1 N v1 (G s) W) := by
  intro s X Y row hs hg hr
  obtain ⟨⟨v, h1, h2, h3⟩, h4, h5⟩ := hs
  refine ⟨⟨v, h1.kept hg (fun e => by have := (hr _ e.symm).1; omega), h2.kept hg ?_, h3⟩, h4.trans ⟨hg.size, fun k hk => hg.block k (Nat.lt_of_lt_of_le (hS k hk) h4.size) (fun e => by have := (hr k e.symm).1; have := hS k hk; omega)⟩, h5.grown hg h5.size (fun k e => Nat.le_trans hw (hr k e).1)⟩
  cases hv : v.ownBlock with
  | none => exact .inl rfl
  | some g =>
    right
    intro e
    obtain ⟨_, o, ho, hc⟩ := hr g e.symm
    rcases h2.2 with ⟨hn, _⟩ | ⟨g', cap, cur, hvv, _, hgg, _⟩
    · rw [hn] at hv
      cases hv
    · rw [hvv] at hv
      simp only [Value.ownBlock, Option.some.injEq] at hv
      subst hv
      rw [hgg] at ho
      cases ho
      cases hc

/-- The end of a round: what the round has left. -/
theorem round_end {S : Nat → Prop} {w W1 W We : World} {N : Nat} {v1 v v' : Value} {n : Nat} {l l' : List EdR} (hSd : ∀ k, S k → k < W1.heap.size ∧ k ≠ N + 1 ∧ some k ≠ v1.ownBlock)
    (hW : W1.heap.size ≤ W.heap.size) (g1 : Blk W (N + 1) #[v] 50) (g2 : W.ownsRow (N + 2) 57 5 v n (rowsV l)) (g3 : ∀ k, v.ownBlock = some k → v1.ownBlock = some k ∨ W1.heap.size ≤ k) (g4 : Keeps S W1 W)
    (hsz : W.heap.size ≤ We.heap.size) (hch : ∀ k, k < W.heap.size → k ≠ N + 1 → some k ≠ v.ownBlock → We.heap[k]? = W.heap[k]?) (hb : Below w.heap.size w We)
    (e1 : Blk We (N + 1) #[v'] 50) (e2 : We.ownsRow (N + 2) 57 5 v' l'.length (rowsV l')) (e3 : ∀ k, v'.ownBlock = some k → v.ownBlock = some k ∨ W.heap.size ≤ k) :
    KeepsFrom W1.heap.size W We ∧ Keeps S W We ∧ RInv S w W1 N v1 l' We := by
  have hk : ∀ k, S k → We.heap[k]? = W.heap[k]? := fun k hk => by
    obtain ⟨h1, h2, h3⟩ := hSd k hk
    refine hch k (by omega) h2 (fun e => ?_)
    rcases g3 k e.symm with h | h
    · exact h3 h.symm
    · omega
  refine ⟨⟨hsz, fun k o _ hko ho => ?_⟩, ⟨hsz, hk⟩, ⟨⟨v', e1, e2, fun k hk' => ?_⟩, g4.trans ⟨hsz, hk⟩, hb⟩⟩
  · refine (hch k (Array.getElem?_eq_some_iff.1 hko).1 (fun e => ?_) (fun e => ?_)).trans hko
    · subst e
      rw [show W.heap[N + 1]? = _ from g1] at hko
      cases hko
      cases ho
    · rcases g2.2 with ⟨hn, _⟩ | ⟨g, cap, cur, hv, _, hg, _⟩
      · rw [hn] at e
        cases e
      · rw [hv] at e
        simp only [Value.ownBlock, Option.some.injEq] at e
        subst e
        rw [hg] at hko
        cases hko
        cases ho
  · rcases e3 k hk' with h | h
    · exact g3 k h
    · exact .inr (by omega)

theorem Try.info_edge : (Try.prog.info? 57).map (fun i => (i.zero, i.size, i.bytes)) = some (some (.agg #[.int .i64 0, .int .i64 0, .int .i64 0, .int .i64 0, .int .i64 0]), 5, 40) := by kernel_rfl
theorem size_set (w : World) (p : Addr) (u : Value) : (w.setCell p u).heap.size = w.heap.size := by
  show (w.heap.modify _ _).size = _
  rw [Array.size_modify]
theorem cells_new (w : World) (l : List Value) (t : TypeId) : ∀ j u, l[j]? = some u → (w.alloc (.cells l.toArray t)).cell? ((⟨w.heap.size, 0, none⟩ : Addr).add j) = some u := by
  intro j u hj
  have h := (Blk.new w t l.toArray).cell j
  rw [WideShapes.add_plain, Nat.zero_add, h, List.getElem?_toArray]
  exact hj
theorem fac_cells7 {W : World} {B : Nat} {f : Fac} {t : TypeId} (h : Blk W B #[.string f.name, .int .i64 f.side, .int .i64 f.foot, .int .i64 f.base, .int .i64 f.rise, .int .i64 f.run, .slice f.ca f.cs.length f.cc] t) :
    W.cell? ⟨B, 0, none⟩ = some (.string f.name) ∧ W.cell? ⟨B, 1, none⟩ = some (.int .i64 f.side) ∧ W.cell? ⟨B, 2, none⟩ = some (.int .i64 f.foot) ∧ W.cell? ⟨B, 3, none⟩ = some (.int .i64 f.base) ∧ W.cell? ⟨B, 4, none⟩ = some (.int .i64 f.rise) ∧ W.cell? ⟨B, 5, none⟩ = some (.int .i64 f.run) ∧ W.cell? ⟨B, 6, none⟩ = some (.slice f.ca f.cs.length f.cc) :=
  ⟨h.cell 0, h.cell 1, h.cell 2, h.cell 3, h.cell 4, h.cell 5, h.cell 6⟩
theorem own_slice {w : World} {base : Nat} {e : TypeId} {size : Nat} {v : Value} {n : Nat} {xs : List Value} (h : w.ownsRow base e size v n xs) : ∃ a k c, v = .slice a k c := by
  rcases h.2 with ⟨hn, _⟩ | ⟨g, cap, cur, hv, _⟩
  · exact ⟨_, _, _, hn⟩
  · exact ⟨_, _, _, hv⟩
theorem append_slice {F : Fence} {nF : Nat} {P : Program} (w : World) {ops : Array Oper} {rest : List Oper} {o : Oper} {a : Act} {Q : Exit → Act → World → Prop} (hgd : o.guard = none) (s x : Operand) (t : TypeId)
    (ho : o.op = .call { callee := .builtin .append, args := #[s, x], argTypes := #[t, t] })
    (base : Nat) (e : TypeId) (i : TypeInfo) (z : Value) (size bytes : Nat) (ht : P.underlying t = some (.slice e)) (hi : P.info? e = some i) (hz : i.zero = some z)
    (hsize : i.size = size) (hby : i.bytes = bytes) (hzs : z.cells.size = size) (hsz : 0 < size)
    (v : Value) (n : Nat) (xs : List Value) (hs : a.eval s = v) (hown : w.ownsRow base e size v n xs)
    (ad : Addr) (m c : Nat) (news : List Value) (hx : a.eval x = .slice (some ad) m c) (hl : news.length = m * size) (hnews : ∀ j u, news[j]? = some u → w.cell? (ad.add j) = some u) (h1 : ∀ u ∈ news, u.oneCell' = true)
    (h63 : n + m ≤ maxLen) (hbytes : (n + m) * bytes ≤ 140737488355328) (hbase : base ≤ w.heap.size)
    (h : ∀ sa sn sc w', w'.ownsRow base e size (.slice sa sn sc) (n + m) (xs ++ news) → w.grownBy w' v.ownBlock → ((Value.slice sa sn sc).ownBlock = v.ownBlock ∨ (Value.slice sa sn sc).ownBlock = some w.heap.size) → wpListIn F nF P ops Q rest (a.put o.dst (.slice sa sn sc)) w') :
    wpListIn F nF P ops Q (o :: rest) a w :=
  wpListIn_append_own_at w hgd s x t ho base e i z size bytes ht hi hz hsize hby hzs hsz v n xs hs hown ad m c news hx hl hnews h1 h63 hbytes hbase (fun v' w' h2 h3 _ h5 => by
    obtain ⟨sa, sn, sc, rfl⟩ := own_slice h2
    exact h sa sn sc w' h2 h3 h5)
theorem cells_new' (w : World) (l : List Value) (t : TypeId) (n : Nat) (hn : w.heap.size = n) : ∀ j u, l[j]? = some u → (w.alloc (.cells l.toArray t)).cell? ((⟨n, 0, none⟩ : Addr).add j) = some u := by
  subst hn
  exact cells_new w l t
structure St10 where
  b0 : Bool
  b1 : Bool
  b2 : Bool
  b3 : Bool
  b4 : Bool
  b5 : Bool
  b6 : Bool
  p7 : Option Nat
  b8 : Bool
  b9 : Bool
def St10.mu (s : St10) : Nat := nB s.b0 + nB s.b1 + nB s.b2 + nB s.b3 + nB s.b4 + nB s.b5 + nB s.b6 + nB s.p7.isSome + nB s.b8 + nB s.b9

structure St12 where
  b0 : Bool
  b1 : Bool
  b2 : Bool
  b3 : Bool
  b4 : Bool
  b5 : Bool
  b6 : Bool
  b7 : Bool
def St12.mu (s : St12) : Nat := nB s.b0 + nB s.b1 + nB s.b2 + nB s.b3 + nB s.b4 + nB s.b5 + nB s.b6 + nB s.b7
structure St13 where
  b0 : Bool
  b1 : Bool
  b2 : Bool
  b3 : Bool
  b4 : Bool
  b5 : Bool
  b6 : Bool
  b7 : Bool
  b8 : Bool
  b9 : Bool
  b10 : Bool
def St13.mu (s : St13) : Nat := nB s.b0 + nB s.b1 + nB s.b2 + nB s.b3 + nB s.b4 + nB s.b5 + nB s.b6 + nB s.b7 + nB s.b8 + nB s.b9 + nB s.b10

/-- The frame of 'edgesOf'. -/
def eoA (x0 x1 x2 x3 x4 x5 x6 x7 x8 x9 x10 x11 x12 x13 x14 x15 x16 x17 x18 x19 x20 x21 x22 x23 x24 x25 x26 x27 x28 x29 x30 x31 x32 x33 x34 x35 x36 x37 x38 x39 x40 x41 x42 x43 x44 x45 x46 x47 x48 x49 x50 x51 x52 x53 x54 x55 x56 x57 x58 x59 x60 x61 x62 x63 : Value) (ds : List Deferred) : Act := { tmps := #[x0, x1, x2, x3, x4, x5, x6, x7, x8, x9, x10, x11, x12, x13, x14, x15, x16, x17, x18, x19, x20, x21, x22, x23, x24, x25, x26, x27, x28, x29, x30, x31, x32, x33, x34, x35, x36, x37, x38, x39, x40, x41, x42, x43, x44, x45, x46, x47, x48, x49, x50, x51, x52, x53, x54, x55, x56, x57, x58, x59, x60, x61, x62, x63], defers := ds }
set_option maxRecDepth 100000 in
set_option maxHeartbeats 16000000 in
theorem edgesOf_any (R : Roo) (w : World) (hR : IsRoof w R) (hfs : R.fs.length ≤ 16) (hok : ∀ f ∈ R.fs, okPts f.cs ∧ f.cs.length ≤ 1000) (hfok : ∀ f ∈ R.fs, f.ok) :
    Calls Try.prog 53 #[.agg #[.slice R.fa R.fs.length R.fc, .slice R.oa R.os.length R.oc]] w fun e w' => ∃ v, e = .returned v ∧ w'.ownsRow w.heap.size 57 5 v (allR R.fs R.fs.length).length (rowsV (allR R.fs R.fs.length)) ∧ Below w.heap.size w w' := by
  refine (callsIn_wide (n := 5)).1 ?_
  refine callsIn_of_wp_marks Try.func53 rfl trivial ?_ rfl
  obtain ⟨fa, fc, fs, oa, oc, os⟩ := R
  simp only [] at hfs hok hfok
  have hB0 : Below w.heap.size w (w.alloc (.cells #[.slice fa fs.length fc, .slice oa os.length oc] 25)) := (Below.refl _ _).alloc (Nat.le_refl _) _
  have kR0 := Blk.new w 25 #[.slice fa fs.length fc, .slice oa os.length oc]
  have HR := Lib.hid hR
  have HF := Lib.hid hR.1
  have HOK := Lib.hid hok
  have HFOK := Lib.hid hfok
  obtain ⟨i0, hi5, hz0, hz1, hz2⟩ := info_parts Try.info_edge
  clear hok hR hfok
  simp only [] at HF
  simp only [Try.ntmps53, List.size_toArray, List.length_cons, List.length_nil, Nat.reduceAdd, Nat.reduceSub, Array.replicate_succ, Array.replicate_zero, List.push_toArray, List.append_toArray, List.nil_append, List.cons_append]
  gi_wp2_with fail
  refine ⟨trivial, ?_⟩
  refine (callsIn_wide.2 (places_any ⟨fa, fc, fs, oa, oc, os⟩ _ (HR.out.below hB0) hfs HOK.out)).mono ?_
  rintro e w1 ⟨Bm, rfl, hBm, hmap, hb1⟩
  have kR1 := kR0.belowS hb1
  have hB1 := hB0.trans (hb1.mono (by simp))
  have hlt1 := kR1.lt
  have hltm := hmap.lt
  simp only [World.size_alloc] at hBm
  have c0 := kR1.cell 0
  simp only [List.getElem?_toArray, List.getElem?_cons_zero] at c0
  gi_wp2_with fail
  have hI0 : EInv w fa oa fc oc fs os.length w1.heap.size Bm 0 [] (.slice none 0 0) ((w1.alloc (.cells #[.map (some Bm)] 92)).alloc (.cells #[.slice none 0 0] 50)) := by
    have k2 := (Blk.new w1 92 #[.map (some Bm)]).alloc (.cells #[.slice none 0 0] 50)
    have k3 := Blk.new (w1.alloc (.cells #[.map (some Bm)] 92)) 50 #[.slice none 0 0]
    simp only [World.size_alloc] at k3
    exact ⟨(hB1.alloc hB1.size _).alloc (by have := hB1.size; simp; omega) _, (kR1.alloc _).alloc _, k2, k3, hmap.of_block ((Below.heap_alloc _ _ _ (by simp; omega)).trans (Below.heap_alloc _ _ _ hltm)), World.ownsRow_nil _ _ _ _, Marks.nil _ _⟩
  obtain ⟨N, hN⟩ : ∃ N, w1.heap.size = N := ⟨_, rfl⟩
  rw [hN] at hlt1 hltm
  rw [hN] at hI0 ⊢
  generalize ((w1.alloc (.cells #[.map (some Bm)] 92)).alloc (.cells #[.slice none 0 0] 50)) = w2 at *
  clear hN c0 hB1 kR1 hb1 hmap w1 hB0 kR0
  refine wpIn_loop (fun a W => ∃ (j : Nat) (Ds : List Nat) (v : Value) (u5 u6 u7 u8 u9 u10 u11 u18 u19 u20 u21 u22 u23 u24 u25 u26 u27 u28 u29 u30 u31 u32 u33 u34 u35 u36 u37 u38 u39 u40 u41 u42 u43 u44 u45 u46 u47 u48 u49 u50 u51 u52 u53 u54 u55 u56 u57 u58 u59 u60 u61 u62 u63 : Value), j ≤ fs.length ∧ EInv w fa oa fc oc fs os.length N Bm j Ds v W ∧ a = (eoA (.agg #[.slice fa fs.length fc, .slice oa os.length oc]) (.pointer (some ⟨w.heap.size, 0, none⟩)) (.slice none 0 0) (.pointer (some ⟨N, 0, none⟩)) (.pointer (some ⟨N + 1, 0, none⟩)) u5 u6 u7 u8 u9 u10 u11 (.agg #[.slice fa fs.length fc, .slice oa os.length oc]) (.map (some Bm)) (.pointer (some ⟨w.heap.size, 0, none⟩)) (.slice fa fs.length fc) (.int .i64 (fs.length : Int)) (.int .i64 (j : Int)) u18 u19 u20 u21 u22 u23 u24 u25 u26 u27 u28 u29 u30 u31 u32 u33 u34 u35 u36 u37 u38 u39 u40 u41 u42 u43 u44 u45 u46 u47 u48 u49 u50 u51 u52 u53 u54 u55 u56 u57 u58 u59 u60 u61 u62 u63 (Ds.map markD)))
    (fun a _ => fs.length - (intOf (a.tmps.getD 17 undef)).toNat) ⟨0, [], .slice none 0 0, undef, undef, undef, undef, undef, undef, undef, undef, undef, undef, undef, undef, undef, undef, undef, undef, undef, undef, undef, undef, undef, undef, undef, undef, undef, undef, undef, undef, undef, undef, undef, undef, undef, undef, undef, undef, undef, undef, undef, undef, undef, undef, undef, undef, undef, undef, undef, undef, undef, undef, undef, undef, undef, Nat.zero_le _, hI0, rfl⟩ ?round
  case round =>
    rintro a wr ⟨j, Ds, v1, u5, u6, u7, u8, u9, u10, u11, u18, u19, u20, u21, u22, u23, u24, u25, u26, u27, u28, u29, u30, u31, u32, u33, u34, u35, u36, u37, u38, u39, u40, u41, u42, u43, u44, u45, u46, u47, u48, u49, u50, u51, u52, u53, u54, u55, u56, u57, u58, u59, u60, u61, u62, u63, hj, hI, rfl⟩
    clear hI0
    unfold eoA
    by_cases hlj : j < fs.length
    · rcases HF.out with ⟨_, hn⟩ | ⟨b, off, c, h1, h2, h3, h4, h5⟩
      · rw [hn] at hlj
        simp at hlj
      have hq : fs[j]? = some fs[j] := List.getElem?_eq_getElem hlj
      obtain ⟨hokl, hokp⟩ := HOK.out fs[j] (List.getElem_mem hlj)
      have hFok := HFOK.out fs[j] (List.getElem_mem hlj)
      obtain ⟨dd, hfin⟩ := h5 j _ hq
      obtain ⟨d0, d1, d2, d3, d4, d5, d6⟩ := dd.below hI.below h2
      obtain ⟨rfl, _, rfl⟩ := slice_inj h1
      have hsucc := allR_succ hq
      generalize fs[j] = F at *
      have HQ := Lib.hid hq
      have HS := Lib.hid hsucc
      clear hq h1 dd hsucc
      have H5 := Lib.hid h5
      clear h5
      have hj0 : (0 : Int) ≤ (j : Int) := Int.natCast_nonneg _
      have hj1 : (j : Int) < (fs.length : Int) := by omega
      have hlw := hI.lbox.lt
      gi_wp2_with fail
      refine ⟨trivial, ?_⟩
      refine (callsIn_wide.2 (walk_any _ _ _ _)).mono ?_
      rintro e w1 ⟨rfl, rfl⟩
      gi_wp2_with fail
      have hW : Below wr.heap.size wr (((wr.alloc (.cells #[.int .i64 (j : Int)] 3)).alloc (.cells (facC F) 72)).alloc (.cells #[.slice F.ca F.cs.length F.cc] 70)) := (((Below.refl _ wr).alloc (Nat.le_refl _) _).alloc (by simp) _).alloc (by simp; omega) _
      have kJ := ((Blk.new wr 3 #[.int .i64 (j : Int)]).alloc (.cells (facC F) 72)).alloc (.cells #[.slice F.ca F.cs.length F.cc] 70)
      have kF := (Blk.new (wr.alloc (.cells #[.int .i64 (j : Int)] 3)) 72 (facC F)).alloc (.cells #[.slice F.ca F.cs.length F.cc] 70)
      have kS := Blk.new ((wr.alloc (.cells #[.int .i64 (j : Int)] 3)).alloc (.cells (facC F) 72)) 70 #[.slice F.ca F.cs.length F.cc]
      have hsz : (((wr.alloc (.cells #[.int .i64 (j : Int)] 3)).alloc (.cells (facC F) 72)).alloc (.cells #[.slice F.ca F.cs.length F.cc] 70)).heap.size = wr.heap.size + 3 := by simp
      simp only [World.size_alloc] at kS kF
      unfold facC at hW kJ kS kF hsz
      obtain ⟨W1, hW1⟩ : ∃ W1, (((wr.alloc (.cells #[.int .i64 (j : Int)] 3)).alloc (.cells #[.string F.name, .int .i64 F.side, .int .i64 F.foot, .int .i64 F.base, .int .i64 F.rise, .int .i64 F.run, .slice F.ca F.cs.length F.cc] 72)).alloc (.cells #[.slice F.ca F.cs.length F.cc] 70)) = W1 := ⟨_, rfl⟩
      rw [hW1] at hW kJ kS kF hsz ⊢
      clear hW1 d0 d1 d2 d3 d4 d5 d6
      have HSZ := Lib.hid hsz
      clear hsz
      have hS : ∀ k, (k < W1.heap.size ∧ k ≠ N + 1 ∧ some k ≠ v1.ownBlock) → k < W1.heap.size := fun k hk => hk.1
      have hrow := hI.row.lt
      have hno : ∀ k, k < N + 2 → some k ≠ v1.ownBlock := fun k hk e => by have := (hrow k e.symm).1; omega
      have hno2 : ∀ k, wr.heap.size ≤ k → some k ≠ v1.ownBlock := fun k hk e => by have := (hrow k e.symm).2; omega
      have hBlw : Below w.heap.size w W1 := hI.below.trans (hW.mono hI.below.size)
      have kM : Blk W1 N #[.map (some Bm)] 92 := hI.mbox.belowS hW
      have kR : Blk W1 w.heap.size #[.slice (some ⟨b, off, none⟩) fs.length fc, .slice oa os.length oc] 25 := hI.roof.belowS hW
      have kMap : MapRep W1 Bm 16000 (allF fs fs.length) := hI.map.of_block (hW.block _ (by omega))
      have hI1 : RInv (fun k => k < W1.heap.size ∧ k ≠ N + 1 ∧ some k ≠ v1.ownBlock) w W1 N v1 (allR fs j) W1 :=
        ⟨⟨v1, hI.lbox.belowS hW, ownsRow_below hI.row hW, fun k hk => .inl hk⟩, Keeps.refl _ _, hBlw⟩
      refine walk_law (n := 5) (by omega) (Bs := wr.heap.size + 1 + 1) rfl (fun k => k < W1.heap.size ∧ k ≠ N + 1 ∧ some k ≠ v1.ownBlock) F.cs hokp ⟨by have := HSZ.out; omega, by omega, hno2 _ (by omega)⟩ hS (kS.cell 0) ?hsv rfl
        (fun pre W => RInv (fun k => k < W1.heap.size ∧ k ≠ N + 1 ∧ some k ≠ v1.ownBlock) w W1 N v1 (allR fs j ++ pre.map (fun x => edgR fs j F x.1)) W)
        (fun _ _ _ => False)
        (own_rinv (fun pre : List (Fin F.cs.length) => allR fs j ++ pre.map (fun x => edgR fs j F x.1)) hS (by have := HSZ.out; omega) (by have := HSZ.out; omega))
        (fun c => ownFrom_pure _ (fun _ => False))
        (by simpa using hI1)
        (fun x Bx => (eoA (.agg #[.slice (some ⟨b, off, none⟩) fs.length fc, .slice oa os.length oc]) (.pointer (some ⟨w.heap.size, 0, none⟩)) (.slice none 0 0) (.pointer (some ⟨N, 0, none⟩)) (.pointer (some ⟨N + 1, 0, none⟩)) (.pointer (some ⟨wr.heap.size, 0, none⟩)) (.pointer (some ⟨wr.heap.size + 1, 0, none⟩)) (.int .i64 (x.1 : Int)) (.pointer (some ⟨Bx, 0, none⟩)) u9 u10 u11 (.agg #[.slice (some ⟨b, off, none⟩) fs.length fc, .slice oa os.length oc]) (.map (some Bm)) (.pointer (some ⟨w.heap.size, 0, none⟩)) (.slice (some ⟨b, off, none⟩) fs.length fc) (.int .i64 (fs.length : Int)) (.int .i64 (j : Int)) (.bool true) (.int .i64 (j : Int)) (.pointer (some ⟨b, off + j * 7, none⟩)) (.agg #[.string F.name, .int .i64 F.side, .int .i64 F.foot, .int .i64 F.base, .int .i64 F.rise, .int .i64 F.run, .slice F.ca F.cs.length F.cc]) (.pointer (some ⟨wr.heap.size + 1, 6, none⟩)) (.slice F.ca F.cs.length F.cc) (.func (.func 102) #[] #[.pointer (some ⟨wr.heap.size + 1 + 1, 0, none⟩)]) (.int .i64 (x.1 : Int)) (.agg (edgC (edgN F.cs x.1))) u27 u28 u29 u30 u31 u32 u33 u34 u35 u36 u37 u38 u39 u40 u41 u42 u43 u44 u45 u46 u47 u48 u49 u50 u51 u52 u53 u54 u55 u56 u57 u58 u59 u60 u61 u62 u63 [])) ?assign ?body ?done ?stop
      case hsv =>
        rcases hfin.1 with ⟨q1, q2⟩ | ⟨b', off', c', q1, q2, q3, q4, q5⟩
        · exact .inl ⟨q1, q2⟩
        · exact .inr ⟨b', off', c', q1, ⟨by have := HSZ.out; omega, by omega, hno _ (by omega)⟩, q5.below hBlw q2⟩
      case assign =>
        intro L x W K hK
        unfold eoA edgC encE at *
        gi_wp2
        exact hK
      case body =>
        rintro L pre x Bx W hBx hWs hE ⟨⟨v, g1, g2, g3⟩, g4, g5⟩ hlt
        unfold eoA
        have he := edgN_ok hokl x.1
        have hsz := HSZ.out
        have kb : ∀ k, (k < W1.heap.size ∧ k ≠ N + 1 ∧ some k ≠ v1.ownBlock) → W.heap[k]? = W1.heap[k]? := g4.block
        have aJ : Blk W wr.heap.size #[.int .i64 (j : Int)] 3 := (kb _ ⟨by omega, by omega, hno2 _ (by omega)⟩).trans kJ
        have aF : Blk W (wr.heap.size + 1) #[.string F.name, .int .i64 F.side, .int .i64 F.foot, .int .i64 F.base, .int .i64 F.rise, .int .i64 F.run, .slice F.ca F.cs.length F.cc] 72 := (kb _ ⟨by omega, by omega, hno2 _ (by omega)⟩).trans kF
        have aM : Blk W N #[.map (some Bm)] 92 := (kb _ ⟨by omega, by omega, hno _ (by omega)⟩).trans kM
        have aR : Blk W w.heap.size #[.slice (some ⟨b, off, none⟩) fs.length fc, .slice oa os.length oc] 25 := (kb _ ⟨by omega, by omega, hno _ (by omega)⟩).trans kR
        have aMap : MapRep W Bm 16000 (allF fs fs.length) := kMap.of_block (kb _ ⟨by omega, by omega, hno _ (by omega)⟩)
        have hedg : edgR fs j F x.1 = match allF fs fs.length (bck (edgN F.cs x.1)) with | some p => ⟨j, x.1, (match fs[p.1]? with | some g => kindB F g (edgN F.cs x.1) | none => 0), p.1, p.2⟩ | none => ⟨j, x.1, kindA F (edgN F.cs x.1), -1, -1⟩ := rfl
        generalize hEq : edgN F.cs x.1 = E at *
        have HEDG := Lib.hid hedg
        clear hEq hedg kb hsz
        have c0 := aJ.cell 0
        simp only [List.getElem?_toArray, List.getElem?_cons_zero] at c0
        clear hI hI1 kM kR kMap kJ kF kS hW
        simp only [edgC] at hE
        simp only [edgC]
        gi_wp2_with fail
        have kO : Blk (W.alloc (.cells #[.int .i64 (j : Int), .int .i64 (x.1 : Int), .int .i64 0, .int .i64 (-1), .int .i64 (-1)] 57)).drew W.heap.size #[.int .i64 (j : Int), .int .i64 (x.1 : Int), .int .i64 0, .int .i64 (-1), .int .i64 (-1)] 57 := Blk.new _ _ _
        have bW : Below W.heap.size W (W.alloc (.cells #[.int .i64 (j : Int), .int .i64 (x.1 : Int), .int .i64 0, .int .i64 (-1), .int .i64 (-1)] 57)).drew := ((Below.refl _ _).alloc (Nat.le_refl _) _).drew
        have hO3 : W.heap.size < (W.alloc (.cells #[.int .i64 (j : Int), .int .i64 (x.1 : Int), .int .i64 0, .int .i64 (-1), .int .i64 (-1)] 57)).drew.heap.size := kO.lt
        obtain ⟨q1, hq1⟩ : ∃ q, q = ((allF fs fs.length (bck E)).getD (0, 0)).1 := ⟨_, rfl⟩
        obtain ⟨q2, hq2⟩ : ∃ q, q = ((allF fs fs.length (bck E)).getD (0, 0)).2 := ⟨_, rfl⟩
        obtain ⟨T, hT⟩ : ∃ q, q = (allF fs fs.length (bck E)).isSome := ⟨_, rfl⟩
        have hlook : ∀ W', MapRep W' Bm 16000 (allF fs fs.length) → (Instr.lookup 92 (.map (some Bm)) (.agg #[.int .i64 E.b.x, .int .i64 E.b.y, .int .i64 E.a.x, .int .i64 E.a.y]) true).run Try.prog W' = .ok (.tuple #[.agg #[.int .i64 (q1 : Int), .int .i64 (q2 : Int)], .bool T]) W' := fun W' h => by
          rw [hq1, hq2, hT]
          exact h.look (bck E) ⟨he.2, he.1⟩
        have HQ1 := Lib.hid hq1
        have HQ2 := Lib.hid hq2
        have HT := Lib.hid hT
        clear hq1 hq2 hT c0
        refine wpIn_region_any (by kernel_rfl) ?_
        change wpAnyIn _ _ _ _ _ _ _ _ _ (World.drew _)
        generalize (W.alloc (.cells #[.int .i64 (j : Int), .int .i64 (x.1 : Int), .int .i64 0, .int .i64 (-1), .int .i64 (-1)] 57)).drew = W3 at *
        have a3M := aM.belowS bW
        have a3E := hE.belowS bW
        have a3Map : MapRep W3 Bm 16000 (allF fs fs.length) := aMap.of_block (bW.block _ aMap.lt)
        have hBm3 := a3Map.lt
        refine wpAnyIn_states (fun s : St10 => List.toArray [s.b0, s.b1, s.b2, s.b3, s.b4, s.b5, s.b6, s.p7.isSome, s.b8, s.b9])
          (fun s => (eoA (.agg #[.slice (some ⟨b, off, none⟩) fs.length fc, .slice oa os.length oc]) (.pointer (some ⟨w.heap.size, 0, none⟩)) (.slice none 0 0) (.pointer (some ⟨N, 0, none⟩)) (.pointer (some ⟨N + 1, 0, none⟩)) (.pointer (some ⟨wr.heap.size, 0, none⟩)) (.pointer (some ⟨wr.heap.size + 1, 0, none⟩)) (.int .i64 (x.1 : Int)) (.pointer (some ⟨Bx, 0, none⟩)) (.pointer (some ⟨W.heap.size, 0, none⟩)) (ptrU s.p7 u10) (valU s.b9 (.bool T) u11) (.agg #[.slice (some ⟨b, off, none⟩) fs.length fc, .slice oa os.length oc]) (.map (some Bm)) (.pointer (some ⟨w.heap.size, 0, none⟩)) (.slice (some ⟨b, off, none⟩) fs.length fc) (.int .i64 (fs.length : Int)) (.int .i64 (j : Int)) (.bool true) (.int .i64 (j : Int)) (.pointer (some ⟨b, off + j * 7, none⟩)) (.agg #[.string F.name, .int .i64 F.side, .int .i64 F.foot, .int .i64 F.base, .int .i64 F.rise, .int .i64 F.run, .slice F.ca F.cs.length F.cc]) (.pointer (some ⟨wr.heap.size + 1, 6, none⟩)) (.slice F.ca F.cs.length F.cc) (.func (.func 102) #[] #[.pointer (some ⟨wr.heap.size + 1 + 1, 0, none⟩)]) (.int .i64 (x.1 : Int)) (.agg #[.int .i64 E.a.x, .int .i64 E.a.y, .int .i64 E.b.x, .int .i64 E.b.y]) (.int .i64 (j : Int)) (.int .i64 (x.1 : Int)) (.agg #[.int .i64 (j : Int), .int .i64 (x.1 : Int), .int .i64 0, .int .i64 (-1), .int .i64 (-1)]) (valU s.b4 (.tuple #[.agg #[.int .i64 (q1 : Int), .int .i64 (q2 : Int)], .bool T]) u30) (valU s.b0 (.map (some Bm)) u31) (valU s.b1 (.agg #[.int .i64 E.a.x, .int .i64 E.a.y, .int .i64 E.b.x, .int .i64 E.b.y]) u32) (valU s.b2 (.agg #[.int .i64 E.b.x, .int .i64 E.b.y, .int .i64 E.a.x, .int .i64 E.a.y]) u33) (valU s.b3 (.tuple #[.agg #[.int .i64 (q1 : Int), .int .i64 (q2 : Int)], .bool T]) u34) (valU s.b5 (.agg #[.int .i64 (q1 : Int), .int .i64 (q2 : Int)]) u35) (valU s.b6 (.bool T) u36) u37 u38 u39 u40 u41 u42 u43 u44 u45 u46 u47 u48 u49 u50 u51 u52 u53 u54 u55 u56 u57 u58 u59 u60 u61 u62 u63 []))
          (fun s w' => Below W3.heap.size W3 w' ∧ (∀ A, s.p7 = some A → W3.heap.size ≤ A ∧ Blk w' A (match s.b8 with | true => #[.int .i64 (q1 : Int), .int .i64 (q2 : Int)] | false => #[.int .i64 0, .int .i64 0]) 130) ∧ (s.b8 = true → s.p7.isSome = true)) St10.mu ?hnil ?hz ?hstep 10 ⟨false, false, false, false, false, false, false, none, false, false⟩ _ rfl ?hI0
        case hz =>
          rintro ⟨b0, b1, b2, b3, b4, b5, b6, p7, b8, b9⟩ hmu
          simp only [St10.mu] at hmu
          obtain rfl : b0 = true := by cases b0 with | true => rfl | false => simp [nB] at hmu
          obtain rfl : b1 = true := by cases b1 with | true => rfl | false => simp [nB] at hmu
          obtain rfl : b2 = true := by cases b2 with | true => rfl | false => simp [nB] at hmu
          obtain rfl : b3 = true := by cases b3 with | true => rfl | false => simp [nB] at hmu
          obtain rfl : b4 = true := by cases b4 with | true => rfl | false => simp [nB] at hmu
          obtain rfl : b5 = true := by cases b5 with | true => rfl | false => simp [nB] at hmu
          obtain rfl : b6 = true := by cases b6 with | true => rfl | false => simp [nB] at hmu
          obtain ⟨Ap7, rfl⟩ : ∃ A, p7 = some A := by cases p7 with | some A => exact ⟨A, rfl⟩ | none => simp [nB] at hmu
          obtain rfl : b8 = true := by cases b8 with | true => rfl | false => simp [nB] at hmu
          obtain rfl : b9 = true := by cases b9 with | true => rfl | false => simp [nB] at hmu
          kernel_rfl
        case hstep =>
          rintro ⟨b0, b1, b2, b3, b4, b5, b6, p7, b8, b9⟩ w' hI i hi
          have hilt := ready_lt hi
          change i < 10 at hilt
          rcases (show i = 0 ∨ i = 1 ∨ i = 2 ∨ i = 3 ∨ i = 4 ∨ i = 5 ∨ i = 6 ∨ i = 7 ∨ i = 8 ∨ i = 9 by omega) with rfl | rfl | rfl | rfl | rfl | rfl | rfl | rfl | rfl | rfl
          · have q : b0 = false := ready_not hi
            subst q
            clear hi hilt
            have c := (a3M.belowS hI.1).cell 0
            simp only [List.getElem?_toArray, List.getElem?_cons_zero] at c
            refine wpOpIn_step rfl (fun K' hK => ?_)
            unfold eoA
            simp only [valU, ptrU]
            go_simp
            exact hK _ _ ⟨⟨true, b1, b2, b3, b4, b5, b6, p7, b8, b9⟩, rfl, rfl, by (simp only [St10.mu, nB, Option.isSome_some, Option.isSome_none]) <;> omega, hI⟩
          · have q : b1 = false := ready_not hi
            subst q
            clear hi hilt
            have k := a3E.belowS hI.1
            have c0 := k.cell 0
            have c1 := k.cell 1
            have c2 := k.cell 2
            have c3 := k.cell 3
            simp only [List.getElem?_toArray, List.getElem?_cons_zero, List.getElem?_cons_succ] at c0 c1 c2 c3
            refine wpOpIn_step rfl (fun K' hK => ?_)
            unfold eoA
            simp only [valU, ptrU]
            go_simp
            exact hK _ _ ⟨⟨b0, true, b2, b3, b4, b5, b6, p7, b8, b9⟩, rfl, rfl, by (simp only [St10.mu, nB, Option.isSome_some, Option.isSome_none]) <;> omega, hI⟩
          · have q : b2 = false := ready_not hi
            obtain rfl : b1 = true := ready_pre hi 1 (by kernel_rfl)
            subst q
            clear hi hilt
            refine wpOpIn_step rfl (fun K' hK => ?_)
            unfold eoA
            simp only [valU, ptrU]
            go_simp
            refine ⟨trivial, ?_⟩
            refine (CallsIn.inRound L (callsIn_wide.2 (back_any _ _ _ _ _))).mono ?_
            rintro r w3 ⟨rfl, hb3⟩
            exact hK _ _ ⟨⟨b0, true, true, b3, b4, b5, b6, p7, b8, b9⟩, rfl, rfl, by (simp only [St10.mu, nB, Option.isSome_some, Option.isSome_none]) <;> omega, hI.1.trans (hb3.mono hI.1.size), fun A hA => ⟨(hI.2.1 A hA).1, (hI.2.1 A hA).2.belowS hb3⟩, hI.2.2⟩
          · have q : b3 = false := ready_not hi
            obtain rfl : b0 = true := ready_pre hi 0 (by kernel_rfl)
            obtain rfl : b2 = true := ready_pre hi 2 (by kernel_rfl)
            subst q
            clear hi hilt
            have hl := hlook w' (a3Map.of_block (hI.1.block _ hBm3))
            refine wpOpIn_step rfl (fun K' hK => ?_)
            unfold eoA
            simp only [valU, ptrU]
            go_simp
            exact hK _ _ ⟨⟨true, b1, true, true, b4, b5, b6, p7, b8, b9⟩, rfl, rfl, by (simp only [St10.mu, nB, Option.isSome_some, Option.isSome_none]) <;> omega, hI⟩
          · have q : b4 = false := ready_not hi
            obtain rfl : b3 = true := ready_pre hi 3 (by kernel_rfl)
            subst q
            clear hi hilt
            refine wpOpIn_step rfl (fun K' hK => ?_)
            unfold eoA
            simp only [valU, ptrU]
            go_simp
            exact hK _ _ ⟨⟨b0, b1, b2, true, true, b5, b6, p7, b8, b9⟩, rfl, rfl, by (simp only [St10.mu, nB, Option.isSome_some, Option.isSome_none]) <;> omega, hI⟩
          · have q : b5 = false := ready_not hi
            obtain rfl : b4 = true := ready_pre hi 4 (by kernel_rfl)
            subst q
            clear hi hilt
            refine wpOpIn_step rfl (fun K' hK => ?_)
            unfold eoA
            simp only [valU, ptrU]
            go_simp
            exact hK _ _ ⟨⟨b0, b1, b2, b3, true, true, b6, p7, b8, b9⟩, rfl, rfl, by (simp only [St10.mu, nB, Option.isSome_some, Option.isSome_none]) <;> omega, hI⟩
          · have q : b6 = false := ready_not hi
            obtain rfl : b4 = true := ready_pre hi 4 (by kernel_rfl)
            subst q
            clear hi hilt
            refine wpOpIn_step rfl (fun K' hK => ?_)
            unfold eoA
            simp only [valU, ptrU]
            go_simp
            exact hK _ _ ⟨⟨b0, b1, b2, b3, true, b5, true, p7, b8, b9⟩, rfl, rfl, by (simp only [St10.mu, nB, Option.isSome_some, Option.isSome_none]) <;> omega, hI⟩
          · have q : p7.isSome = false := ready_not hi
            obtain rfl : p7 = none := by cases p7 with | none => rfl | some A => cases q
            clear hi hilt
            obtain rfl : b8 = false := by cases b8 with | false => rfl | true => exact absurd (hI.2.2 rfl) (by simp)
            refine wpOpIn_step rfl (fun K' hK => ?_)
            unfold eoA
            simp only [valU, ptrU]
            go_simp
            exact hK _ _ ⟨⟨b0, b1, b2, b3, b4, b5, b6, (some w'.heap.size), false, b9⟩, rfl, rfl, by (simp only [St10.mu, nB, Option.isSome_some, Option.isSome_none]) <;> omega, hI.1.alloc hI.1.size _, fun A hA => by cases hA; exact ⟨hI.1.size, Blk.new _ _ _⟩, fun h => by cases h⟩
          · have q : b8 = false := ready_not hi
            have q7 : p7.isSome = true := ready_pre hi 7 (by kernel_rfl)
            obtain ⟨Ap7, rfl⟩ := Option.isSome_iff_exists.1 q7
            obtain rfl : b5 = true := ready_pre hi 5 (by kernel_rfl)
            subst q
            clear hi hilt
            obtain ⟨hA, kA⟩ := hI.2.1 Ap7 rfl
            have c0 := kA.cell 0
            have c1 := kA.cell 1
            have f0 := kA.frozen 0
            have f1 := kA.frozen 1
            simp only [List.getElem?_toArray, List.getElem?_cons_zero, List.getElem?_cons_succ] at c0 c1
            refine wpOpIn_step rfl (fun K' hK => ?_)
            unfold eoA
            simp only [valU, ptrU]
            go_simp
            exact hK _ _ ⟨⟨b0, b1, b2, b3, b4, true, b6, (some Ap7), true, b9⟩, rfl, rfl, by (simp only [St10.mu, nB, Option.isSome_some, Option.isSome_none]) <;> omega, (hI.1.setCell hA _).setCell hA _, fun A hA2 => by cases hA2; exact ⟨hA, (kA.set 0 _).set 1 _⟩, fun _ => rfl⟩
          · have q : b9 = false := ready_not hi
            obtain rfl : b6 = true := ready_pre hi 6 (by kernel_rfl)
            subst q
            clear hi hilt
            refine wpOpIn_step rfl (fun K' hK => ?_)
            unfold eoA
            simp only [valU, ptrU]
            go_simp
            exact hK _ _ ⟨⟨b0, b1, b2, b3, b4, b5, true, p7, b8, true⟩, rfl, rfl, by (simp only [St10.mu, nB, Option.isSome_some, Option.isSome_none]) <;> omega, hI⟩
        case hI0 => exact ⟨Below.refl _ _, fun A h => (by cases h), fun h => (by cases h)⟩
        case hnil =>
          rintro ⟨b0, b1, b2, b3, b4, b5, b6, p7, b8, b9⟩ w' hI hr
          have hall := ready_none (by kernel_rfl) rfl hr
          obtain rfl : b9 = true := hall 9 (by decide)
          obtain rfl : b8 = true := hall 8 (by decide)
          obtain rfl : b0 = true := hall 0 (by decide)
          obtain rfl : b1 = true := hall 1 (by decide)
          obtain rfl : b2 = true := hall 2 (by decide)
          obtain rfl : b3 = true := hall 3 (by decide)
          obtain rfl : b4 = true := hall 4 (by decide)
          obtain rfl : b5 = true := hall 5 (by decide)
          obtain rfl : b6 = true := hall 6 (by decide)
          have h7 : p7.isSome = true := hall 7 (by decide)
          obtain ⟨A, rfl⟩ := Option.isSome_iff_exists.1 h7
          obtain ⟨hb4, hA, _⟩ := hI
          obtain ⟨hA1, hA2⟩ := hA A rfl
          clear hall hr h7 hA
          unfold eoA
          simp only [valU, ptrU]
          simp only [] at hA2
          have b4 : Below W.heap.size W w' := bW.trans (hb4.mono (Nat.le_of_lt hO3))
          have kO4 := kO.belowS hb4
          have nF := aF.belowS b4
          have nE := hE.belowS b4
          have hOs := kO4.lt
          have hlen : pre.length < 1000 := by omega
          have hal := allR_len (fs := fs) (fun f hf => (HOK.out f hf).2) j
          have hmx5 : (allR fs j ++ pre.map (fun x => edgR fs j F x.1)).length + 1 ≤ maxLen := by unfold maxLen; simp; omega
          have hmx6 : ((allR fs j ++ pre.map (fun x => edgR fs j F x.1)).length + 1) * 40 ≤ 140737488355328 := by simp; omega
          cases hG : allF fs fs.length (bck E) with
          | none =>
            obtain rfl : T = false := by rw [HT.out, hG]; rfl
            obtain ⟨f0, f1, f2, f3, f4, f5, f6⟩ := (⟨nF.cell 0, nF.cell 1, nF.cell 2, nF.cell 3, nF.cell 4, nF.cell 5, nF.cell 6⟩ : FacAt w' (wr.heap.size + 1) 0 F)
            simp only [Nat.zero_add] at f1 f2 f3 f4 f5 f6
            have e0 := nE.cell 0
            have e1 := nE.cell 1
            have e2 := nE.cell 2
            have e3 := nE.cell 3
            simp only [List.getElem?_toArray, List.getElem?_cons_zero, List.getElem?_cons_succ] at e0 e1 e2 e3
            gi_wp2_with fail
            refine ⟨trivial, ?_⟩
            refine (CallsIn.inRound L (callsIn_wide.2 (kindAlone_any F E hFok.s1 hFok.s4 he _))).mono ?_
            rintro r w9 ⟨rfl, hb9⟩
            have kO9 := kO4.belowS hb9
            have b9' := b4.trans (hb9.mono b4.size)
            have x2 := kO9.cell 2
            have y2 := kO9.frozen 2
            have z2 := kO9.lt
            simp only [List.getElem?_toArray, List.getElem?_cons_zero, List.getElem?_cons_succ] at x2
            have x0 := kO9.cell 0
            have x1 := kO9.cell 1
            have x3 := kO9.cell 3
            have x4 := kO9.cell 4
            simp only [List.getElem?_toArray, List.getElem?_cons_zero, List.getElem?_cons_succ] at x0 x1 x3 x4
            clear f0 f1 f2 f3 f4 f5 f6 e0 e1 e2 e3 nF nE hb9 hb4 kO4
            have b8 : Below W.heap.size W w9 := b9'
            have b5 : Below W.heap.size W (w9.setCell ⟨W.heap.size, 2, none⟩ (.int .i64 (kindA F E))) := b9'.setCell (Nat.le_refl _) _
            clear kO9 b9'
            have k8 := g1.belowS b8
            have l0 := k8.cell 0
            simp only [List.getElem?_toArray, List.getElem?_cons_zero, List.getElem?_cons_succ] at l0
            have lsz := b5.size
            have lN := g1.lt
            have bA : Below W.heap.size W ((w9.setCell ⟨W.heap.size, 2, none⟩ (.int .i64 (kindA F E))).alloc (.cells #[.int .i64 ((j : Int)), .int .i64 ((x.1 : Int)), .int .i64 (kindA F E), .int .i64 (-1), .int .i64 (-1)] 57)) := b5.alloc lsz _
            have hown5 := ownsRow_below g2 bA
            have kL := g1.belowS bA
            have hnN : some (N + 1) ≠ v.ownBlock := fun e => by have := (g2.lt (N + 1) e.symm).1; omega
            have HOWN := Lib.hid hown5
            have HEDQ : Hid (edgR fs j F x.1 = ⟨(j : Int), (x.1 : Int), kindA F E, -1, -1⟩) := Lib.hid (by rw [HEDG.out, hG])
            skip
            have lsz5 : N + 2 ≤ ((w9.setCell ⟨W.heap.size, 2, none⟩ (.int .i64 (kindA F E))).alloc (.cells #[.int .i64 ((j : Int)), .int .i64 ((x.1 : Int)), .int .i64 (kindA F E), .int .i64 (-1), .int .i64 (-1)] 57)).heap.size := by have := bA.size; omega
            have hWsz : W.heap.size ≤ (w9.setCell ⟨W.heap.size, 2, none⟩ (.int .i64 (kindA F E))).heap.size := lsz
            have HBA := Lib.hid bA
            have HB5 := Lib.hid b5
            have HKL := Lib.hid kL
            clear hown5 bA kL b5 k8
            gi_wp2_with (gi_at_builtin; go_loud (refine append_slice _ rfl _ _ 50 rfl (N + 2) 57 i0 (.agg #[.int .i64 0, .int .i64 0, .int .i64 0, .int .i64 0, .int .i64 0]) 5 40 Try.underlying50 hi5 hz0 hz1 hz2 rfl (by decide) _ _ _ rfl HOWN.out ⟨w9.heap.size, 0, none⟩ 1 1 [.int .i64 ((j : Int)), .int .i64 ((x.1 : Int)), .int .i64 (kindA F E), .int .i64 (-1), .int .i64 (-1)] rfl rfl (cells_new' _ _ _ _ (size_set _ _ _)) (by simp [Value.oneCell']) hmx5 hmx6 lsz5 ?_); intro sa6 sn6 sc6 w6 hown6 hgrow6 hloc6; have kL6 := HKL.out.kept hgrow6 hnN; have c6 := kL6.cell 0; have f6 := kL6.frozen 0; have t6 := kL6.lt; simp only [List.getElem?_toArray, List.getElem?_cons_zero] at c6; have HOWN6 := Lib.hid hown6; have HGR := Lib.hid hgrow6; have HLOC := Lib.hid hloc6; clear hown6 hgrow6 hloc6)
            have hgr := HGR.out
            have bA := HBA.out
            have hsz6 := hgr.size
            have hwlt : w.heap.size ≤ W.heap.size := g5.size
            refine round_end (fun k hk => hk) hWs g1 g2 g3 g4 ?_ (fun k h1 h2 h3 => ?_) ?_ (kL6.set 0 _) ?_ (fun k hk => ?_)
            · have := bA.size
              simp [World.setCell]
              omega
            · exact (Below.heap_setCell _ _ _ _ (fun e => h2 e)).trans ((hgr.block k (by have := bA.size; omega) h3).trans (bA.block k h1))
            · exact ((g5.trans (bA.mono hwlt)).grown hgr (by have := bA.size; omega) (fun k e => by have := (g2.lt k e).1; omega)).setCell (by show w.heap.size ≤ N + 1; omega) _
            · have hl' : allR fs j ++ (pre ++ [x]).map (fun x => edgR fs j F x.1) = (allR fs j ++ pre.map (fun x => edgR fs j F x.1)) ++ [edgR fs j F x.1] := by simp
              rw [hl', List.length_append, rowsV_snoc, HEDQ.out]
              exact HOWN6.out.kept (grownBy_set _ _ _) (own_ne HOWN6.out (by show N + 1 < N + 2; omega))
            · rcases HLOC.out with h | h
              · exact .inl (h ▸ hk)
              · rw [h] at hk
                simp only [Option.some.injEq] at hk
                have := bA.size
                exact .inr (by omega)
          | some p =>
            obtain rfl : T = true := by rw [HT.out, hG]; rfl
            have hp1 : q1 = p.1 := by rw [HQ1.out, hG]; rfl
            have hp2 : q2 = p.2 := by rw [HQ2.out, hG]; rfl
            have hplt : q1 < fs.length := by rw [hp1]; exact allF_lt (Nat.le_refl _) hG
            have hqG : fs[q1]? = some fs[q1] := List.getElem?_eq_getElem hplt
            have hGok := HFOK.out fs[q1] (List.getElem_mem hplt)
            have hGat := (H5.out q1 _ hqG).1
            generalize fs[q1] = G at *
            have HQG := Lib.hid hqG
            have hAO : A ≠ W.heap.size := by omega
            have HG := Lib.hid hG
            have HP1 := Lib.hid hp1
            have HP2 := Lib.hid hp2
            clear hG hp1 hp2 hqG nF nE
            have hq0 : (0 : Int) ≤ (q1 : Int) := Int.natCast_nonneg _
            have hq1' : (q1 : Int) < (fs.length : Int) := by omega
            gi_wp2_with fail
            refine wpIn_region_any (by kernel_rfl) ?_
            change wpAnyIn _ _ _ _ _ _ _ _ _ (World.drew _)
            have i0' : Below W.heap.size W w'.drew ∧ (Blk w'.drew A #[.int .i64 (q1 : Int), .int .i64 (q2 : Int)] 130 ∧ Blk w'.drew W.heap.size #[.int .i64 (j : Int), .int .i64 (x.1 : Int), .int .i64 0, .int .i64 (-1), .int .i64 (-1)] 57) := ⟨b4.drew, hA2, kO4⟩
            generalize w'.drew = w8 at *
            clear hA2 kO4 hOs b4 hb4 a3M a3E a3Map hBm3 hO3 bW kO hA1
            refine wpAnyIn_states (fun s : St12 => List.toArray [s.b0, s.b1, s.b2, s.b3, s.b4, s.b5, s.b6, s.b7])
              (fun s => (eoA (.agg #[.slice (some ⟨b, off, none⟩) fs.length fc, .slice oa os.length oc]) (.pointer (some ⟨w.heap.size, 0, none⟩)) (.slice none 0 0) (.pointer (some ⟨N, 0, none⟩)) (.pointer (some ⟨N + 1, 0, none⟩)) (.pointer (some ⟨wr.heap.size, 0, none⟩)) (.pointer (some ⟨wr.heap.size + 1, 0, none⟩)) (.int .i64 (x.1 : Int)) (.pointer (some ⟨Bx, 0, none⟩)) (.pointer (some ⟨W.heap.size, 0, none⟩)) (.pointer (some ⟨A, 0, none⟩)) (.bool true) (.agg #[.slice (some ⟨b, off, none⟩) fs.length fc, .slice oa os.length oc]) (.map (some Bm)) (.pointer (some ⟨w.heap.size, 0, none⟩)) (.slice (some ⟨b, off, none⟩) fs.length fc) (.int .i64 (fs.length : Int)) (.int .i64 (j : Int)) (.bool true) (.int .i64 (j : Int)) (.pointer (some ⟨b, off + j * 7, none⟩)) (.agg #[.string F.name, .int .i64 F.side, .int .i64 F.foot, .int .i64 F.base, .int .i64 F.rise, .int .i64 F.run, .slice F.ca F.cs.length F.cc]) (.pointer (some ⟨wr.heap.size + 1, 6, none⟩)) (.slice F.ca F.cs.length F.cc) (.func (.func 102) #[] #[.pointer (some ⟨wr.heap.size + 1 + 1, 0, none⟩)]) (.int .i64 (x.1 : Int)) (.agg #[.int .i64 E.a.x, .int .i64 E.a.y, .int .i64 E.b.x, .int .i64 E.b.y]) (.int .i64 (j : Int)) (.int .i64 (x.1 : Int)) (.agg #[.int .i64 (j : Int), .int .i64 (x.1 : Int), .int .i64 0, .int .i64 (-1), .int .i64 (-1)]) (.tuple #[.agg #[.int .i64 (q1 : Int), .int .i64 (q2 : Int)], .bool true]) (.map (some Bm)) (.agg #[.int .i64 E.a.x, .int .i64 E.a.y, .int .i64 E.b.x, .int .i64 E.b.y]) (.agg #[.int .i64 E.b.x, .int .i64 E.b.y, .int .i64 E.a.x, .int .i64 E.a.y]) (.tuple #[.agg #[.int .i64 (q1 : Int), .int .i64 (q2 : Int)], .bool true]) (.agg #[.int .i64 (q1 : Int), .int .i64 (q2 : Int)]) (.bool true) (.bool true) (valU s.b0 (.pointer (some ⟨A, 0, none⟩)) u38) (valU s.b1 (.int .i64 (q1 : Int)) u39) (valU s.b2 (.pointer (some ⟨A, 1, none⟩)) u40) (valU s.b3 (.int .i64 (q2 : Int)) u41) (valU s.b4 (.pointer (some ⟨W.heap.size, 3, none⟩)) u42) (valU s.b6 (.pointer (some ⟨W.heap.size, 4, none⟩)) u43) u44 u45 u46 u47 u48 u49 u50 u51 u52 u53 u54 u55 u56 u57 u58 u59 u60 u61 u62 u63 []))
              (fun s w' => Below W.heap.size W w' ∧ (Blk w' A #[.int .i64 (q1 : Int), .int .i64 (q2 : Int)] 130 ∧ Blk w' W.heap.size #[.int .i64 (j : Int), .int .i64 (x.1 : Int), .int .i64 0, (match s.b5 with | true => .int .i64 (q1 : Int) | false => .int .i64 (-1)), (match s.b7 with | true => .int .i64 (q2 : Int) | false => .int .i64 (-1))] 57)) St12.mu ?hnil ?hz ?hstep 8 ⟨false, false, false, false, false, false, false, false⟩ _ rfl ?hI0
            case hz =>
              rintro ⟨b0, b1, b2, b3, b4, b5, b6, b7⟩ hmu
              simp only [St12.mu] at hmu
              obtain rfl : b0 = true := by cases b0 with | true => rfl | false => simp [nB] at hmu
              obtain rfl : b1 = true := by cases b1 with | true => rfl | false => simp [nB] at hmu
              obtain rfl : b2 = true := by cases b2 with | true => rfl | false => simp [nB] at hmu
              obtain rfl : b3 = true := by cases b3 with | true => rfl | false => simp [nB] at hmu
              obtain rfl : b4 = true := by cases b4 with | true => rfl | false => simp [nB] at hmu
              obtain rfl : b5 = true := by cases b5 with | true => rfl | false => simp [nB] at hmu
              obtain rfl : b6 = true := by cases b6 with | true => rfl | false => simp [nB] at hmu
              obtain rfl : b7 = true := by cases b7 with | true => rfl | false => simp [nB] at hmu
              kernel_rfl
            case hstep =>
              rintro ⟨b0, b1, b2, b3, b4, b5, b6, b7⟩ w' hI i hi
              have hilt := ready_lt hi
              change i < 8 at hilt
              rcases (show i = 0 ∨ i = 1 ∨ i = 2 ∨ i = 3 ∨ i = 4 ∨ i = 5 ∨ i = 6 ∨ i = 7 by omega) with rfl | rfl | rfl | rfl | rfl | rfl | rfl | rfl
              · have q : b0 = false := ready_not hi
                subst q
                clear hi hilt
                refine wpOpIn_step rfl (fun K' hK => ?_)
                unfold eoA
                simp only [valU, ptrU]
                go_simp
                exact hK _ _ ⟨⟨true, b1, b2, b3, b4, b5, b6, b7⟩, rfl, rfl, by (simp only [St12.mu, nB, Option.isSome_some, Option.isSome_none]) <;> omega, hI⟩
              · have q : b1 = false := ready_not hi
                obtain rfl : b0 = true := ready_pre hi 0 (by kernel_rfl)
                subst q
                clear hi hilt
                have c0 := hI.2.1.cell 0
                have c1 := hI.2.1.cell 1
                simp only [List.getElem?_toArray, List.getElem?_cons_zero, List.getElem?_cons_succ] at c0 c1
                refine wpOpIn_step rfl (fun K' hK => ?_)
                unfold eoA
                simp only [valU, ptrU]
                go_simp
                exact hK _ _ ⟨⟨true, true, b2, b3, b4, b5, b6, b7⟩, rfl, rfl, by (simp only [St12.mu, nB, Option.isSome_some, Option.isSome_none]) <;> omega, hI⟩
              · have q : b2 = false := ready_not hi
                subst q
                clear hi hilt
                refine wpOpIn_step rfl (fun K' hK => ?_)
                unfold eoA
                simp only [valU, ptrU]
                go_simp
                exact hK _ _ ⟨⟨b0, b1, true, b3, b4, b5, b6, b7⟩, rfl, rfl, by (simp only [St12.mu, nB, Option.isSome_some, Option.isSome_none]) <;> omega, hI⟩
              · have q : b3 = false := ready_not hi
                obtain rfl : b2 = true := ready_pre hi 2 (by kernel_rfl)
                subst q
                clear hi hilt
                have c0 := hI.2.1.cell 0
                have c1 := hI.2.1.cell 1
                simp only [List.getElem?_toArray, List.getElem?_cons_zero, List.getElem?_cons_succ] at c0 c1
                refine wpOpIn_step rfl (fun K' hK => ?_)
                unfold eoA
                simp only [valU, ptrU]
                go_simp
                exact hK _ _ ⟨⟨b0, b1, true, true, b4, b5, b6, b7⟩, rfl, rfl, by (simp only [St12.mu, nB, Option.isSome_some, Option.isSome_none]) <;> omega, hI⟩
              · have q : b4 = false := ready_not hi
                subst q
                clear hi hilt
                refine wpOpIn_step rfl (fun K' hK => ?_)
                unfold eoA
                simp only [valU, ptrU]
                go_simp
                exact hK _ _ ⟨⟨b0, b1, b2, b3, true, b5, b6, b7⟩, rfl, rfl, by (simp only [St12.mu, nB, Option.isSome_some, Option.isSome_none]) <;> omega, hI⟩
              · have q : b5 = false := ready_not hi
                obtain rfl : b4 = true := ready_pre hi 4 (by kernel_rfl)
                obtain rfl : b1 = true := ready_pre hi 1 (by kernel_rfl)
                subst q
                clear hi hilt
                have c := hI.2.2.cell 3
                have f := hI.2.2.frozen 3
                simp only [List.getElem?_toArray, List.getElem?_cons_zero, List.getElem?_cons_succ] at c
                refine wpOpIn_step rfl (fun K' hK => ?_)
                unfold eoA
                simp only [valU, ptrU]
                go_simp
                exact hK _ _ ⟨⟨b0, true, b2, b3, true, true, b6, b7⟩, rfl, rfl, by (simp only [St12.mu, nB, Option.isSome_some, Option.isSome_none]) <;> omega, hI.1.setCell (Nat.le_refl _) _, hI.2.1.other hAO _, hI.2.2.set 3 _⟩
              · have q : b6 = false := ready_not hi
                subst q
                clear hi hilt
                refine wpOpIn_step rfl (fun K' hK => ?_)
                unfold eoA
                simp only [valU, ptrU]
                go_simp
                exact hK _ _ ⟨⟨b0, b1, b2, b3, b4, b5, true, b7⟩, rfl, rfl, by (simp only [St12.mu, nB, Option.isSome_some, Option.isSome_none]) <;> omega, hI⟩
              · have q : b7 = false := ready_not hi
                obtain rfl : b6 = true := ready_pre hi 6 (by kernel_rfl)
                obtain rfl : b3 = true := ready_pre hi 3 (by kernel_rfl)
                subst q
                clear hi hilt
                have c := hI.2.2.cell 4
                have f := hI.2.2.frozen 4
                simp only [List.getElem?_toArray, List.getElem?_cons_zero, List.getElem?_cons_succ] at c
                refine wpOpIn_step rfl (fun K' hK => ?_)
                unfold eoA
                simp only [valU, ptrU]
                go_simp
                exact hK _ _ ⟨⟨b0, b1, b2, true, b4, b5, true, true⟩, rfl, rfl, by (simp only [St12.mu, nB, Option.isSome_some, Option.isSome_none]) <;> omega, hI.1.setCell (Nat.le_refl _) _, hI.2.1.other hAO _, hI.2.2.set 4 _⟩
            case hI0 => exact i0'
            case hnil =>
              rintro ⟨b0, b1, b2, b3, b4, b5, b6, b7⟩ w9 hI hr
              have hall := ready_none (by kernel_rfl) rfl hr
              obtain rfl : b0 = true := hall 0 (by decide)
              obtain rfl : b1 = true := hall 1 (by decide)
              obtain rfl : b2 = true := hall 2 (by decide)
              obtain rfl : b3 = true := hall 3 (by decide)
              obtain rfl : b4 = true := hall 4 (by decide)
              obtain rfl : b5 = true := hall 5 (by decide)
              obtain rfl : b6 = true := hall 6 (by decide)
              obtain rfl : b7 = true := hall 7 (by decide)
              clear hall hr i0'
              unfold eoA
              simp only [valU]
              simp only [] at hI
              gi_wp2_with fail
              refine wpIn_region_any (by kernel_rfl) ?_
              change wpAnyIn _ _ _ _ _ _ _ _ _ (World.drew _)
              have i0' : Below W.heap.size W w9.drew ∧ (Blk w9.drew A #[.int .i64 (q1 : Int), .int .i64 (q2 : Int)] 130 ∧ Blk w9.drew W.heap.size #[.int .i64 (j : Int), .int .i64 (x.1 : Int), .int .i64 0, .int .i64 (q1 : Int), .int .i64 (q2 : Int)] 57) := ⟨hI.1.drew, hI.2.1, hI.2.2⟩
              generalize w9.drew = w10 at *
              clear hI
              refine wpAnyIn_states (fun s : St13 => List.toArray [s.b0, s.b1, s.b2, s.b3, s.b4, s.b5, s.b6, s.b7, s.b8, s.b9, s.b10])
                (fun s => (eoA (.agg #[.slice (some ⟨b, off, none⟩) fs.length fc, .slice oa os.length oc]) (.pointer (some ⟨w.heap.size, 0, none⟩)) (.slice none 0 0) (.pointer (some ⟨N, 0, none⟩)) (.pointer (some ⟨N + 1, 0, none⟩)) (.pointer (some ⟨wr.heap.size, 0, none⟩)) (.pointer (some ⟨wr.heap.size + 1, 0, none⟩)) (.int .i64 (x.1 : Int)) (.pointer (some ⟨Bx, 0, none⟩)) (.pointer (some ⟨W.heap.size, 0, none⟩)) (.pointer (some ⟨A, 0, none⟩)) (.bool true) (.agg #[.slice (some ⟨b, off, none⟩) fs.length fc, .slice oa os.length oc]) (.map (some Bm)) (.pointer (some ⟨w.heap.size, 0, none⟩)) (.slice (some ⟨b, off, none⟩) fs.length fc) (.int .i64 (fs.length : Int)) (.int .i64 (j : Int)) (.bool true) (.int .i64 (j : Int)) (.pointer (some ⟨b, off + j * 7, none⟩)) (.agg #[.string F.name, .int .i64 F.side, .int .i64 F.foot, .int .i64 F.base, .int .i64 F.rise, .int .i64 F.run, .slice F.ca F.cs.length F.cc]) (.pointer (some ⟨wr.heap.size + 1, 6, none⟩)) (.slice F.ca F.cs.length F.cc) (.func (.func 102) #[] #[.pointer (some ⟨wr.heap.size + 1 + 1, 0, none⟩)]) (.int .i64 (x.1 : Int)) (.agg #[.int .i64 E.a.x, .int .i64 E.a.y, .int .i64 E.b.x, .int .i64 E.b.y]) (.int .i64 (j : Int)) (.int .i64 (x.1 : Int)) (.agg #[.int .i64 (j : Int), .int .i64 (x.1 : Int), .int .i64 0, .int .i64 (-1), .int .i64 (-1)]) (.tuple #[.agg #[.int .i64 (q1 : Int), .int .i64 (q2 : Int)], .bool true]) (.map (some Bm)) (.agg #[.int .i64 E.a.x, .int .i64 E.a.y, .int .i64 E.b.x, .int .i64 E.b.y]) (.agg #[.int .i64 E.b.x, .int .i64 E.b.y, .int .i64 E.a.x, .int .i64 E.a.y]) (.tuple #[.agg #[.int .i64 (q1 : Int), .int .i64 (q2 : Int)], .bool true]) (.agg #[.int .i64 (q1 : Int), .int .i64 (q2 : Int)]) (.bool true) (.bool true) (.pointer (some ⟨A, 0, none⟩)) (.int .i64 (q1 : Int)) (.pointer (some ⟨A, 1, none⟩)) (.int .i64 (q2 : Int)) (.pointer (some ⟨W.heap.size, 3, none⟩)) (.pointer (some ⟨W.heap.size, 4, none⟩)) (valU s.b0 (.agg #[.string F.name, .int .i64 F.side, .int .i64 F.foot, .int .i64 F.base, .int .i64 F.rise, .int .i64 F.run, .slice F.ca F.cs.length F.cc]) u44) (valU s.b1 (.pointer (some ⟨w.heap.size, 0, none⟩)) u45) (valU s.b2 (.slice (some ⟨b, off, none⟩) fs.length fc) u46) (valU s.b3 (.pointer (some ⟨A, 0, none⟩)) u47) (valU s.b4 (.int .i64 (q1 : Int)) u48) (valU s.b5 (.pointer (some ⟨b, off + q1 * 7, none⟩)) u49) (valU s.b6 (.agg #[.string G.name, .int .i64 G.side, .int .i64 G.foot, .int .i64 G.base, .int .i64 G.rise, .int .i64 G.run, .slice G.ca G.cs.length G.cc]) u50) (valU s.b7 (.agg #[.int .i64 E.a.x, .int .i64 E.a.y, .int .i64 E.b.x, .int .i64 E.b.y]) u51) (valU s.b8 (.int .i64 (kindB F G E)) u52) (valU s.b9 (.pointer (some ⟨W.heap.size, 2, none⟩)) u53) u54 u55 u56 u57 u58 u59 u60 u61 u62 u63 []))
                (fun s w' => Below W.heap.size W w' ∧ (Blk w' A #[.int .i64 (q1 : Int), .int .i64 (q2 : Int)] 130 ∧ Blk w' W.heap.size #[.int .i64 (j : Int), .int .i64 (x.1 : Int), (match s.b10 with | true => .int .i64 (kindB F G E) | false => .int .i64 0), .int .i64 (q1 : Int), .int .i64 (q2 : Int)] 57)) St13.mu ?hnil ?hz ?hstep 11 ⟨false, false, false, false, false, false, false, false, false, false, false⟩ _ rfl ?hI0
              case hz =>
                rintro ⟨b0, b1, b2, b3, b4, b5, b6, b7, b8, b9, b10⟩ hmu
                simp only [St13.mu] at hmu
                obtain rfl : b0 = true := by cases b0 with | true => rfl | false => simp [nB] at hmu
                obtain rfl : b1 = true := by cases b1 with | true => rfl | false => simp [nB] at hmu
                obtain rfl : b2 = true := by cases b2 with | true => rfl | false => simp [nB] at hmu
                obtain rfl : b3 = true := by cases b3 with | true => rfl | false => simp [nB] at hmu
                obtain rfl : b4 = true := by cases b4 with | true => rfl | false => simp [nB] at hmu
                obtain rfl : b5 = true := by cases b5 with | true => rfl | false => simp [nB] at hmu
                obtain rfl : b6 = true := by cases b6 with | true => rfl | false => simp [nB] at hmu
                obtain rfl : b7 = true := by cases b7 with | true => rfl | false => simp [nB] at hmu
                obtain rfl : b8 = true := by cases b8 with | true => rfl | false => simp [nB] at hmu
                obtain rfl : b9 = true := by cases b9 with | true => rfl | false => simp [nB] at hmu
                obtain rfl : b10 = true := by cases b10 with | true => rfl | false => simp [nB] at hmu
                kernel_rfl
              case hstep =>
                rintro ⟨b0, b1, b2, b3, b4, b5, b6, b7, b8, b9, b10⟩ w' hI i hi
                have hilt := ready_lt hi
                change i < 11 at hilt
                rcases (show i = 0 ∨ i = 1 ∨ i = 2 ∨ i = 3 ∨ i = 4 ∨ i = 5 ∨ i = 6 ∨ i = 7 ∨ i = 8 ∨ i = 9 ∨ i = 10 by omega) with rfl | rfl | rfl | rfl | rfl | rfl | rfl | rfl | rfl | rfl | rfl
                · have q : b0 = false := ready_not hi
                  subst q
                  clear hi hilt
                  obtain ⟨c0, c1, c2, c3, c4, c5, c6⟩ := fac_cells7 (aF.belowS hI.1)
                  refine wpOpIn_step rfl (fun K' hK => ?_)
                  unfold eoA
                  simp only [valU, ptrU]
                  go_simp
                  exact hK _ _ ⟨⟨true, b1, b2, b3, b4, b5, b6, b7, b8, b9, b10⟩, rfl, rfl, by (simp only [St13.mu, nB, Option.isSome_some, Option.isSome_none]) <;> omega, hI⟩
                · have q : b1 = false := ready_not hi
                  subst q
                  clear hi hilt
                  refine wpOpIn_step rfl (fun K' hK => ?_)
                  unfold eoA
                  simp only [valU, ptrU]
                  go_simp
                  exact hK _ _ ⟨⟨b0, true, b2, b3, b4, b5, b6, b7, b8, b9, b10⟩, rfl, rfl, by (simp only [St13.mu, nB, Option.isSome_some, Option.isSome_none]) <;> omega, hI⟩
                · have q : b2 = false := ready_not hi
                  obtain rfl : b1 = true := ready_pre hi 1 (by kernel_rfl)
                  subst q
                  clear hi hilt
                  have c := (aR.belowS hI.1).cell 0
                  simp only [List.getElem?_toArray, List.getElem?_cons_zero] at c
                  refine wpOpIn_step rfl (fun K' hK => ?_)
                  unfold eoA
                  simp only [valU, ptrU]
                  go_simp
                  exact hK _ _ ⟨⟨b0, true, true, b3, b4, b5, b6, b7, b8, b9, b10⟩, rfl, rfl, by (simp only [St13.mu, nB, Option.isSome_some, Option.isSome_none]) <;> omega, hI⟩
                · have q : b3 = false := ready_not hi
                  subst q
                  clear hi hilt
                  refine wpOpIn_step rfl (fun K' hK => ?_)
                  unfold eoA
                  simp only [valU, ptrU]
                  go_simp
                  exact hK _ _ ⟨⟨b0, b1, b2, true, b4, b5, b6, b7, b8, b9, b10⟩, rfl, rfl, by (simp only [St13.mu, nB, Option.isSome_some, Option.isSome_none]) <;> omega, hI⟩
                · have q : b4 = false := ready_not hi
                  obtain rfl : b3 = true := ready_pre hi 3 (by kernel_rfl)
                  subst q
                  clear hi hilt
                  have c0 := hI.2.1.cell 0
                  have c1 := hI.2.1.cell 1
                  simp only [List.getElem?_toArray, List.getElem?_cons_zero, List.getElem?_cons_succ] at c0 c1
                  refine wpOpIn_step rfl (fun K' hK => ?_)
                  unfold eoA
                  simp only [valU, ptrU]
                  go_simp
                  exact hK _ _ ⟨⟨b0, b1, b2, true, true, b5, b6, b7, b8, b9, b10⟩, rfl, rfl, by (simp only [St13.mu, nB, Option.isSome_some, Option.isSome_none]) <;> omega, hI⟩
                · have q : b5 = false := ready_not hi
                  obtain rfl : b2 = true := ready_pre hi 2 (by kernel_rfl)
                  obtain rfl : b4 = true := ready_pre hi 4 (by kernel_rfl)
                  subst q
                  clear hi hilt
                  refine wpOpIn_step rfl (fun K' hK => ?_)
                  unfold eoA
                  simp only [valU, ptrU]
                  go_simp
                  exact hK _ _ ⟨⟨b0, b1, true, b3, true, true, b6, b7, b8, b9, b10⟩, rfl, rfl, by (simp only [St13.mu, nB, Option.isSome_some, Option.isSome_none]) <;> omega, hI⟩
                · have q : b6 = false := ready_not hi
                  obtain rfl : b5 = true := ready_pre hi 5 (by kernel_rfl)
                  subst q
                  clear hi hilt
                  obtain ⟨c0, c1, c2, c3, c4, c5, c6⟩ := hGat.below (g5.trans (hI.1.mono g5.size)) h2
                  refine wpOpIn_step rfl (fun K' hK => ?_)
                  unfold eoA
                  simp only [valU, ptrU]
                  go_simp
                  exact hK _ _ ⟨⟨b0, b1, b2, b3, b4, true, true, b7, b8, b9, b10⟩, rfl, rfl, by (simp only [St13.mu, nB, Option.isSome_some, Option.isSome_none]) <;> omega, hI⟩
                · have q : b7 = false := ready_not hi
                  subst q
                  clear hi hilt
                  have k := hE.belowS hI.1
                  have c0 := k.cell 0
                  have c1 := k.cell 1
                  have c2 := k.cell 2
                  have c3 := k.cell 3
                  simp only [List.getElem?_toArray, List.getElem?_cons_zero, List.getElem?_cons_succ] at c0 c1 c2 c3
                  refine wpOpIn_step rfl (fun K' hK => ?_)
                  unfold eoA
                  simp only [valU, ptrU]
                  go_simp
                  exact hK _ _ ⟨⟨b0, b1, b2, b3, b4, b5, b6, true, b8, b9, b10⟩, rfl, rfl, by (simp only [St13.mu, nB, Option.isSome_some, Option.isSome_none]) <;> omega, hI⟩
                · have q : b8 = false := ready_not hi
                  obtain rfl : b0 = true := ready_pre hi 0 (by kernel_rfl)
                  obtain rfl : b6 = true := ready_pre hi 6 (by kernel_rfl)
                  obtain rfl : b7 = true := ready_pre hi 7 (by kernel_rfl)
                  subst q
                  clear hi hilt
                  refine wpOpIn_step rfl (fun K' hK => ?_)
                  unfold eoA
                  simp only [valU, ptrU]
                  go_simp
                  refine ⟨trivial, ?_⟩
                  refine (CallsIn.inRound L (callsIn_wide.2 (kindBetween_any F G E hFok hGok he _))).mono ?_
                  rintro r w3 ⟨rfl, hb3⟩
                  exact hK _ _ ⟨⟨true, b1, b2, b3, b4, b5, true, true, true, b9, b10⟩, rfl, rfl, by (simp only [St13.mu, nB, Option.isSome_some, Option.isSome_none]) <;> omega, hI.1.trans (hb3.mono hI.1.size), hI.2.1.belowS hb3, hI.2.2.belowS hb3⟩
                · have q : b9 = false := ready_not hi
                  subst q
                  clear hi hilt
                  refine wpOpIn_step rfl (fun K' hK => ?_)
                  unfold eoA
                  simp only [valU, ptrU]
                  go_simp
                  exact hK _ _ ⟨⟨b0, b1, b2, b3, b4, b5, b6, b7, b8, true, b10⟩, rfl, rfl, by (simp only [St13.mu, nB, Option.isSome_some, Option.isSome_none]) <;> omega, hI⟩
                · have q : b10 = false := ready_not hi
                  obtain rfl : b9 = true := ready_pre hi 9 (by kernel_rfl)
                  obtain rfl : b8 = true := ready_pre hi 8 (by kernel_rfl)
                  subst q
                  clear hi hilt
                  have c := hI.2.2.cell 2
                  have f := hI.2.2.frozen 2
                  simp only [List.getElem?_toArray, List.getElem?_cons_zero, List.getElem?_cons_succ] at c
                  refine wpOpIn_step rfl (fun K' hK => ?_)
                  unfold eoA
                  simp only [valU, ptrU]
                  go_simp
                  exact hK _ _ ⟨⟨b0, b1, b2, b3, b4, b5, b6, b7, true, true, true⟩, rfl, rfl, by (simp only [St13.mu, nB, Option.isSome_some, Option.isSome_none]) <;> omega, hI.1.setCell (Nat.le_refl _) _, hI.2.1.other hAO _, hI.2.2.set 2 _⟩
              case hI0 => exact i0'
              case hnil =>
                rintro ⟨b0, b1, b2, b3, b4, b5, b6, b7, b8, b9, b10⟩ w' ⟨b8', hI1, kO5⟩ hr
                have hall := ready_none (by kernel_rfl) rfl hr
                obtain rfl : b10 = true := hall 10 (by decide)
                obtain rfl : b0 = true := hall 0 (by decide)
                obtain rfl : b1 = true := hall 1 (by decide)
                obtain rfl : b2 = true := hall 2 (by decide)
                obtain rfl : b3 = true := hall 3 (by decide)
                obtain rfl : b4 = true := hall 4 (by decide)
                obtain rfl : b5 = true := hall 5 (by decide)
                obtain rfl : b6 = true := hall 6 (by decide)
                obtain rfl : b7 = true := hall 7 (by decide)
                obtain rfl : b8 = true := hall 8 (by decide)
                obtain rfl : b9 = true := hall 9 (by decide)
                clear hall hr i0' hI1
                unfold eoA
                simp only [valU]
                simp only [] at kO5
                have o0 := kO5.cell 0
                have o1 := kO5.cell 1
                have o2 := kO5.cell 2
                have o3 := kO5.cell 3
                have o4 := kO5.cell 4
                simp only [List.getElem?_toArray, List.getElem?_cons_zero, List.getElem?_cons_succ] at o0 o1 o2 o3 o4
                have b8 : Below W.heap.size W w' := b8'
                have b5 : Below W.heap.size W w' := b8'
                have hG := HG.out
                have hp1 := HP1.out
                have hp2 := HP2.out
                have k8 := g1.belowS b8
                have l0 := k8.cell 0
                simp only [List.getElem?_toArray, List.getElem?_cons_zero, List.getElem?_cons_succ] at l0
                have lsz := b5.size
                have lN := g1.lt
                have bA : Below W.heap.size W (w'.alloc (.cells #[.int .i64 ((j : Int)), .int .i64 ((x.1 : Int)), .int .i64 (kindB F G E), .int .i64 ((q1 : Int)), .int .i64 ((q2 : Int))] 57)) := b5.alloc lsz _
                have hown5 := ownsRow_below g2 bA
                have kL := g1.belowS bA
                have hnN : some (N + 1) ≠ v.ownBlock := fun e => by have := (g2.lt (N + 1) e.symm).1; omega
                have HOWN := Lib.hid hown5
                have HEDQ : Hid (edgR fs j F x.1 = ⟨(j : Int), (x.1 : Int), kindB F G E, (q1 : Int), (q2 : Int)⟩) := Lib.hid (by rw [HEDG.out, hG]; show EdR.mk _ _ _ _ _ = _; rw [← hp1, ← hp2, HQG.out])
                clear hG hp1 hp2
                have lsz5 : N + 2 ≤ (w'.alloc (.cells #[.int .i64 ((j : Int)), .int .i64 ((x.1 : Int)), .int .i64 (kindB F G E), .int .i64 ((q1 : Int)), .int .i64 ((q2 : Int))] 57)).heap.size := by have := bA.size; omega
                have hWsz : W.heap.size ≤ w'.heap.size := lsz
                have HBA := Lib.hid bA
                have HB5 := Lib.hid b5
                have HKL := Lib.hid kL
                clear hown5 bA kL b5 k8
                gi_wp2_with (gi_at_builtin; go_loud (refine append_slice _ rfl _ _ 50 rfl (N + 2) 57 i0 (.agg #[.int .i64 0, .int .i64 0, .int .i64 0, .int .i64 0, .int .i64 0]) 5 40 Try.underlying50 hi5 hz0 hz1 hz2 rfl (by decide) _ _ _ rfl HOWN.out ⟨w'.heap.size, 0, none⟩ 1 1 [.int .i64 ((j : Int)), .int .i64 ((x.1 : Int)), .int .i64 (kindB F G E), .int .i64 ((q1 : Int)), .int .i64 ((q2 : Int))] rfl rfl (cells_new' _ _ _ _ rfl) (by simp [Value.oneCell']) hmx5 hmx6 lsz5 ?_); intro sa6 sn6 sc6 w6 hown6 hgrow6 hloc6; have kL6 := HKL.out.kept hgrow6 hnN; have c6 := kL6.cell 0; have f6 := kL6.frozen 0; have t6 := kL6.lt; simp only [List.getElem?_toArray, List.getElem?_cons_zero] at c6; have HOWN6 := Lib.hid hown6; have HGR := Lib.hid hgrow6; have HLOC := Lib.hid hloc6; clear hown6 hgrow6 hloc6)
                have hgr := HGR.out
                have bA := HBA.out
                have hsz6 := hgr.size
                have hwlt : w.heap.size ≤ W.heap.size := g5.size
                refine round_end (fun k hk => hk) hWs g1 g2 g3 g4 ?_ (fun k h1 h2 h3 => ?_) ?_ (kL6.set 0 _) ?_ (fun k hk => ?_)
                · have := bA.size
                  simp [World.setCell]
                  omega
                · exact (Below.heap_setCell _ _ _ _ (fun e => h2 e)).trans ((hgr.block k (by have := bA.size; omega) h3).trans (bA.block k h1))
                · exact ((g5.trans (bA.mono hwlt)).grown hgr (by have := bA.size; omega) (fun k e => by have := (g2.lt k e).1; omega)).setCell (by show w.heap.size ≤ N + 1; omega) _
                · have hl' : allR fs j ++ (pre ++ [x]).map (fun x => edgR fs j F x.1) = (allR fs j ++ pre.map (fun x => edgR fs j F x.1)) ++ [edgR fs j F x.1] := by simp
                  rw [hl', List.length_append, rowsV_snoc, HEDQ.out]
                  exact HOWN6.out.kept (grownBy_set _ _ _) (own_ne HOWN6.out (by show N + 1 < N + 2; omega))
                · rcases HLOC.out with h | h
                  · exact .inl (h ▸ hk)
                  · rw [h] at hk
                    simp only [Option.some.injEq] at hk
                    have := bA.size
                    exact .inr (by omega)
      case done =>
        rintro D W hD hR hDef
        have hsz := HSZ.out
        obtain ⟨⟨v, r1, r2, r3⟩, r4, r5⟩ := hR
        have hk1 : ∀ k, k < N + 2 → k ≠ N + 1 → W.heap[k]? = wr.heap[k]? := fun k h1 h2 => (r4.block k ⟨by omega, h2, hno k h1⟩).trans (hW.block k (by omega))
        have hall : allR fs j ++ (List.finRange F.cs.length).map (fun x => edgR fs j F x.1) = allR fs (j + 1) := by
          rw [HS.out, rowR, ← finRange_map, List.map_map]
          rfl
        rw [hall] at r2
        have hmk : ∀ E, E ∈ Ds → W.heap[E]? = wr.heap[E]? := fun E hE => by
          have h1 := hI.marks.lt hE
          have h2 := hI.marks.at_ E hE
          refine (r4.block E ⟨by omega, by omega, fun e => ?_⟩).trans (hW.block E h1)
          rcases hI.row.2 with ⟨hn, _⟩ | ⟨g, cap, cur, hv, _, hg, _⟩
          · rw [hn] at e
            cases e
          · rw [hv] at e
            simp only [Value.ownBlock, Option.some.injEq] at e
            subst e
            rw [hg] at h2
            cases h2.2
        have hI2 : EInv w (some ⟨b, off, none⟩) oa fc oc fs os.length N Bm (j + 1) (D :: Ds) v W :=
          ⟨r5, (hk1 _ (by omega) (by omega)).trans hI.roof, (hk1 _ (by omega) (by omega)).trans hI.mbox, r1, hI.map.of_block (hk1 _ (by omega) (by omega)), r2,
            (hI.marks.keep hmk).cons (by omega) hDef (fun hDD => by have := hI.marks.lt hDD; omega)⟩
        clear r1 r2 r3 r4 r5 hk1 hmk hall hI hI1 kM kR kMap kJ kF kS hW hsz hrow hno hno2 hBlw
        gi_wp2
        refine ⟨⟨j + 1, D :: Ds, v, ?_⟩, by simp [intOf]; omega⟩
        have hc : ((j + 1 : Nat) : Int) = (j : Int) + 1 := by omega
        rw [hc]
        repeat apply Exists.intro
        refine ⟨by omega, hI2, ?_⟩
        rfl
      case stop =>
        rintro D c k W hD hk h hDef
        exact h.elim
    · obtain rfl : j = fs.length := by omega
      have c0 := hI.lbox.cell 0
      simp only [List.getElem?_toArray, List.getElem?_cons_zero] at c0
      have hlw := hI.lbox.lt
      gi_wp2
      refine leaves_marks Ds _ hI.marks (by omega) (fun W hb hk => ?_)
      exact ⟨v1, by simp [results, Try.results53, go_sem], _, rfl, ownsRow_kept2 hI.row (by omega) (fun g o => hk g o), hI.below.trans (hb.mono (by omega))⟩
end Go.Proofs.Ytpdgcajbdaleeaa
