/- slices.Insert of one mark into a row of the call's own: at the end, where there is room, and where there is none. No condition. -/
import Derived.Test.YtoigihmgjacbjaaDoorVM
import Derived.Test.YtoigihmgjacbjaaDoorVG
import Derived.Shelf.Spec.SlicesInsert
import Derived.Lib.AppendZerosOnto
import Derived.Deep.RegionLaw
import Derived.Shelf.RegionOpenPlain
import Derived.Lib.Overlaps
import Derived.Laws.NewBlocks
set_option linter.unusedSimpArgs false
namespace Go.Proofs.YtoigihmgjacbjaaDoor
open Go.RowKit

/-! ### Cells written into a row -/
def setL : Nat → List Value → List Value → List Value
  | _, [], xs => xs
  | o, v :: r, xs => setL (o + 1) r (xs.set o v)
theorem setL_eq (vs : List Value) : ∀ (o : Nat) (xs : List Value), o + vs.length ≤ xs.length → setL o vs xs = xs.take o ++ vs ++ xs.drop (o + vs.length) := by
  induction vs with
  | nil => intro o xs _; simp [setL]
  | cons v r ih =>
    intro o xs h
    simp only [List.length_cons] at h
    rw [setL, ih (o + 1) (xs.set o v) (by simp; omega)]
    have e1 : (xs.set o v).take (o + 1) = xs.take o ++ [v] := by
      rw [List.take_add_one, List.take_set_of_le (Nat.le_refl _)]
      simp [show o < xs.length by omega]
    have e2 : (xs.set o v).drop (o + 1 + r.length) = xs.drop (o + (v :: r).length) := by
      rw [List.drop_set_of_lt (by omega)]
      simp only [List.length_cons]
      congr 1
      omega
    rw [e1, e2]
    simp
theorem own_setCells {base sz g n cap : Nat} {t : TypeId} (vs : List Value) : ∀ (o : Nat) {w : World} {xs : List Value}, w.ownsRow base t sz (.slice (some ⟨g, 0, none⟩) n cap) n xs →
    (w.setCells g o vs).ownsRow base t sz (.slice (some ⟨g, 0, none⟩) n cap) n (setL o vs xs) ∧ w.grownBy (w.setCells g o vs) (some g) := by
  induction vs with
  | nil => intro o w xs h; exact ⟨h, World.grownBy.refl _ _⟩
  | cons v r ih =>
    intro o w xs h
    obtain ⟨h1, h2⟩ := h.stored o v
    obtain ⟨h3, h4⟩ := ih (o + 1) h1
    exact ⟨h3, h2.trans h4⟩
theorem own_below {base size n : Nat} {t : TypeId} {v : Value} {xs : List Value} {w w' : World} (h : w.ownsRow base t size v n xs) (hb : Below w.heap.size w w') : w'.ownsRow base t size v n xs := by
  refine ⟨h.1, ?_⟩
  rcases h.2 with h | ⟨g, cap, cur, hv, h1, hg, h2⟩
  · exact .inl h
  · exact .inr ⟨g, cap, cur, hv, h1, (hb.block g (Array.getElem?_eq_some_iff.1 hg).1).trans hg, h2⟩
/-- A row with room for one element more, taken longer by one. -/
theorem own_long {w : World} {base g n cap sz : Nat} {t : TypeId} {xs : List Value} (h : w.ownsRow base t sz (.slice (some ⟨g, 0, none⟩) n cap) n xs) (hn : n + 1 ≤ cap) :
    ∃ zs : List Value, zs.length = sz ∧ w.ownsRow base t sz (.slice (some ⟨g, 0, none⟩) (n + 1) cap) (n + 1) (xs ++ zs) := by
  rcases h.2 with ⟨e, _⟩ | ⟨g', cap', cur, hv, hb, hg, h1, h2, h3, h4⟩
  · cases e
  obtain ⟨e1, _, e2⟩ := slice_inj hv
  obtain rfl : g = g' := by injection e1 with e1; injection e1
  subst e2
  have hm : (n + 1) * sz ≤ cap * sz := Nat.mul_le_mul_right _ hn
  have hs : (n + 1) * sz = n * sz + sz := Nat.succ_mul n sz
  have hz : ((cur.toList.drop (n * sz)).take sz).length = sz := by
    rw [List.length_take, List.length_drop, Array.length_toList, h3]; omega
  refine ⟨(cur.toList.drop (n * sz)).take sz, hz, by rw [List.length_append, h.1, hz, hs], .inr ⟨g, cap, cur, rfl, hb, hg, hn, h2, h3, ?_⟩⟩
  rw [← h4, hs, List.take_add]
theorem flat_take {α : Type} (f : α → List Value) (n : Nat) (hf : ∀ x, (f x).length = n) (l : List α) : ∀ i, (l.flatMap f).take (i * n) = (l.take i).flatMap f := by
  induction l with
  | nil => intro i; simp
  | cons x l ih =>
    intro i
    cases i with
    | zero => simp
    | succ i =>
      rw [List.flatMap_cons, List.take_succ_cons, List.flatMap_cons, Nat.succ_mul, Nat.add_comm, List.take_append, hf, ← ih i, show n + i * n - n = i * n by omega, List.take_of_length_le (by rw [hf]; omega)]
theorem flat_drop {α : Type} (f : α → List Value) (n : Nat) (hf : ∀ x, (f x).length = n) (l : List α) : ∀ i, (l.flatMap f).drop (i * n) = (l.drop i).flatMap f := by
  induction l with
  | nil => intro i; simp
  | cons x l ih =>
    intro i
    cases i with
    | zero => simp
    | succ i =>
      rw [List.flatMap_cons, List.drop_succ_cons, Nat.succ_mul, Nat.add_comm, List.drop_append, hf, ← ih i, show n + i * n - n = i * n by omega, List.drop_eq_nil_of_le (by rw [hf]; omega), List.nil_append]
theorem ins_shift (ps vs rs T : List Value) (p : Nat) (hp : ps.length = p) (hv : vs.length = 4) (hT : T.length = 4 + rs.length) : setL p vs (setL (p + 4) rs (ps ++ T)) = ps ++ vs ++ rs := by
  have e1 : setL (p + 4) rs (ps ++ T) = ps ++ (T.take 4 ++ rs) := by
    rw [setL_eq _ _ _ (by rw [List.length_append]; omega), List.take_append, List.drop_append, hp, List.take_of_length_le (by omega), List.drop_of_length_le (by omega), List.drop_of_length_le (show T.length ≤ _ by omega), show p + 4 - p = 4 by omega]
    simp
  rw [e1, setL_eq _ _ _ (by simp only [List.length_append, List.length_take]; omega), List.take_append, List.drop_append, hp, List.take_of_length_le (by omega), List.drop_of_length_le (show ps.length ≤ _ by omega), Nat.sub_self, List.take_zero, hv, show p + 4 - p = 4 by omega, List.drop_append, List.drop_of_length_le (by rw [List.length_take]; omega), List.length_take, Nat.min_eq_left (by omega)]
  simp
theorem ins_grow (ps vs rs T : List Value) (p : Nat) (hp : ps.length = p) (hv : vs.length = 4) (hT : T.length = 4 + rs.length) : setL (p + 4) rs (setL p vs (ps ++ T)) = ps ++ vs ++ rs := by
  have e1 : setL p vs (ps ++ T) = ps ++ (vs ++ T.drop 4) := by
    rw [setL_eq _ _ _ (by rw [List.length_append]; omega), List.take_append, List.drop_append, hp, List.take_of_length_le (by omega), List.drop_of_length_le (by omega), hv, Nat.sub_self, show p + 4 - p = 4 by omega]
    simp
  rw [e1, setL_eq _ _ _ (by simp only [List.length_append, List.length_drop]; omega), List.take_append, List.drop_append, hp, List.take_of_length_le (by omega), List.drop_of_length_le (show ps.length ≤ _ by omega), show p + 4 - p = 4 by omega, List.take_append, hv, List.take_of_length_le (show vs.length ≤ _ by omega), Nat.sub_self, List.take_zero, show p + 4 + rs.length - p = 4 + rs.length by omega, List.drop_of_length_le (show (vs ++ T.drop 4).length ≤ _ by simp only [List.length_append, List.length_drop]; omega)]
  simp
theorem ins_flat (l : List Mrk) (x : Mrk) (i : Nat) : (l.take i ++ x :: l.drop i).flatMap mrkL = (l.take i).flatMap mrkL ++ mrkL x ++ (l.drop i).flatMap mrkL := by simp
theorem mrk_one (l : List Mrk) : ∀ u ∈ l.flatMap mrkL, u.oneCell' = true := fun u hu => by
  obtain ⟨x, _, hx⟩ := List.mem_flatMap.1 hu
  simp only [mrkL, List.mem_cons, List.not_mem_nil, or_false] at hx
  rcases hx with rfl | rfl | rfl | rfl <;> rfl

/-- copy of elements of several cells: all is read before anything is written. -/
theorem run_copy_wide {P : Program} (w : World) (dT sT ty elem : TypeId) (b o dLen dCap : Nat) (a : Addr) (sLen sCap sz n : Nat) (cs : List Value)
    (hu : P.underlying dT = some (.slice elem)) (hs : (P.info? elem).map (·.size) = some sz) (hn : Nat.min sLen dLen = n) (hl : cs.length = n * sz)
    (hsrc : ∀ j v, cs[j]? = some v → w.cell? (a.add j) = some v) (hc : ∀ j, j < cs.length → (w.cell? ⟨b, o + j, none⟩).isSome = true) (hf : ∀ j, j < cs.length → w.frozen? ⟨b, o + j, none⟩ = false) (h1 : ∀ v ∈ cs, v.oneCell' = true) :
    (Builtin.copy_ #[dT, sT] ty #[.slice (some ⟨b, o, none⟩) dLen dCap, .slice (some a) sLen sCap]).run P w = .ok (goInt n) (w.setCells b o cs) := by
  have hl' := run_loadCells_list (P := P) w a cs hsrc
  have hst := run_storeCells_cells (P := P) b o cs 0 w (by simpa using hc) (by simpa using hf) h1
  cases hq : P.info? elem with
  | none => simp [hq] at hs
  | some i =>
    have hi : i.size = sz := by simpa [hq] using hs
    rw [hl] at hl'
    simp [Builtin.copy_, run_underlying hu, Builtin.lenOf, Builtin.firstCells, sizeOf, typeInfo, hq, hi, hn, hl', hst]

/-- What Insert returns: a row of the call's own with the mark in its place. -/
def InsSaid (base : Nat) (a : Option Addr) (l : List Mrk) (w : World) (e : Ending) (w' : World) : Prop :=
  (∃ a' c', e = .returned (.slice a' l.length c') ∧ w'.ownsRow base 61 4 (.slice a' l.length c') l.length (l.flatMap mrkL)) ∧ Turn (fun k => a.map (·.block) = some k) w w'

set_option maxRecDepth 100000 in
set_option maxHeartbeats 4000000 in
theorem insert_end (base vb : Nat) (a : Option Addr) (c : Nat) (l : List Mrk) (x : Mrk) (w : World) (hbase : base ≤ w.heap.size) (hown : w.ownsRow base 61 4 (.slice a l.length c) l.length (l.flatMap mrkL)) (hlen : l.length ≤ 100000) (hv : Blk w vb (mrkC x) 61) :
    Calls Tryd.prog 88 #[.slice a l.length c, .int .i64 l.length, .slice (some ⟨vb, 0, none⟩) 1 1] w (InsSaid base a (l ++ [x]) w) := by
  obtain ⟨i0, hi, hz0, hz1, hz2⟩ := info_parts3 info_mrk
  have hnews : ∀ j u, (mrkL x)[j]? = some u → w.cell? ((⟨vb, 0, none⟩ : Addr).add j) = some u := fun j u hu => by
    have hadd : (⟨vb, 0, none⟩ : Addr).add j = ⟨vb, j, none⟩ := by unfold Addr.add; split <;> simp_all
    rw [hadd, hv.cell]
    simpa [mrkC, mrkL] using hu
  have hone : ∀ u ∈ mrkL x, u.oneCell' = true := fun u hu => mrk_one [x] u (by simpa using hu)
  have hcap : l.length ≤ c := by
    rcases hown.2 with ⟨e, h0⟩ | ⟨_, _, _, e, _, _, h1, _⟩
    · omega
    · obtain ⟨_, _, rfl⟩ := slice_inj e
      exact h1
  have HCAP := Lib.hid hcap
  have HNEWS := Lib.hid hnews
  have HOWN := Lib.hid hown
  have HONE := Lib.hid hone
  have HBS := Lib.hid hbase
  have HLEN := Lib.hid hlen
  have hfin : ∀ (e : Ending) (w' : World) (g cap : Nat), e = .returned (.slice (some ⟨g, 0, none⟩) (l.length + 1) cap) → w'.ownsRow base 61 4 (.slice (some ⟨g, 0, none⟩) (l.length + 1) cap) (l.length + 1) (l.flatMap mrkL ++ mrkL x) → w.grownBy w' (Value.slice a l.length c).ownBlock → InsSaid base a (l ++ [x]) w e w' := fun e w' g cap he ho hg => by
    refine ⟨⟨some ⟨g, 0, none⟩, cap, by rw [he]; simp, ?_⟩, ?_⟩
    · have e1 : (l ++ [x]).flatMap mrkL = l.flatMap mrkL ++ mrkL x := by simp
      rw [e1, List.length_append]
      exact ho
    · have := Turn.of_grown hg
      rw [rowOf_own'] at this
      exact this
  have HFIN := Lib.hid hfin
  clear hnews hown hone hv hcap hbase hfin hlen
  have hlen := HLEN.out
  cases a with
  | none =>
    obtain ⟨h0, hc0⟩ : l = [] ∧ c = 0 := by
      rcases HOWN.out.2 with ⟨e, h0⟩ | ⟨_, _, _, e, _⟩
      · obtain ⟨_, _, rfl⟩ := slice_inj e
        exact ⟨List.eq_nil_of_length_eq_zero h0, rfl⟩
      · obtain ⟨e1, _⟩ := slice_inj e
        cases e1
    subst h0 hc0
    clear hlen
    go_enter Tryd.func88, Tryd.ntmps88
    go_wp2_with (at_builtin; refine wpList_append_lies _ rfl _ _ 28 rfl base 61 i0 (.agg #[.int .i64 0, .int .i64 0, .int .i64 0, .int .i64 0]) 4 32 Tryd.underlying28 hi hz0 hz1 hz2 rfl (by decide) (.slice none 0 0) 0 [] rfl HOWN.out ⟨vb, 0, none⟩ 1 1 (mrkL x) rfl rfl HNEWS.out HONE.out (by decide) (by unfold maxLen; omega) (by omega) HBS.out _ rfl ?_; intro g cap w6 hown6 hgrow hat hlt6; have HO6 := Lib.hid hown6; have HG6 := Lib.hid hgrow; clear hown6 hgrow hat hlt6)
    go_ret
    exact HFIN.out _ _ g cap rfl HO6.out HG6.out
  | some p =>
    have hcap := HCAP.out
    have hc63 : c ≤ 9223372036854775807 := by
      rcases HOWN.out.2 with ⟨e, _⟩ | ⟨_, _, _, e, _, _, _, h2, _⟩
      · cases e
      · obtain ⟨_, _, rfl⟩ := slice_inj e
        unfold maxLen at h2
        omega
    go_enter Tryd.func88, Tryd.ntmps88
    go_wp2_with (at_builtin; refine wpList_append_lies _ rfl _ _ 28 rfl base 61 i0 (.agg #[.int .i64 0, .int .i64 0, .int .i64 0, .int .i64 0]) 4 32 Tryd.underlying28 hi hz0 hz1 hz2 rfl (by decide) (.slice (some p) l.length c) l.length (l.flatMap mrkL) rfl HOWN.out ⟨vb, 0, none⟩ 1 1 (mrkL x) rfl rfl HNEWS.out HONE.out (by decide) (by unfold maxLen; omega) (by omega) HBS.out _ rfl ?_; intro g cap w6 hown6 hgrow hat hlt6; have HO6 := Lib.hid hown6; have HG6 := Lib.hid hgrow; clear hown6 hgrow hat hlt6)
    all_goals go_ret
    all_goals exact HFIN.out _ _ g cap rfl HO6.out HG6.out

set_option maxRecDepth 100000 in
set_option maxHeartbeats 4000000 in
/-- There is room: in place. -/
theorem insert_shift (base vb g : Nat) (c : Nat) (l : List Mrk) (x : Mrk) (i : Nat) (w : World) (hown : w.ownsRow base 61 4 (.slice (some ⟨g, 0, none⟩) l.length c) l.length (l.flatMap mrkL)) (hlen : l.length ≤ 100000) (hi : i < l.length) (hroom : l.length + 1 ≤ c) (hv : Blk w vb (mrkC x) 61) (hvg : vb ≠ g) :
    Calls Tryd.prog 88 #[.slice (some ⟨g, 0, none⟩) l.length c, .int .i64 i, .slice (some ⟨vb, 0, none⟩) 1 1] w (InsSaid base (some ⟨g, 0, none⟩) (l.take i ++ x :: l.drop i) w) := by
  have hlt := (hown.lt g (by simp [Value.ownBlock]))
  obtain ⟨zs, hzl, hL⟩ := own_long hown hroom
  obtain ⟨hc63, hcur⟩ : c ≤ 9223372036854775807 ∧ ∃ cur : Array Value, w.heap[g]? = some (.cells cur 61 (0, 0)) ∧ cur.size = c * 4 := by
    rcases hown.2 with ⟨e, _⟩ | ⟨g', _, cur, e, _, hg, _, h2, h3, _⟩
    · cases e
    · obtain ⟨e1, _, rfl⟩ := slice_inj e
      obtain rfl : g = g' := by injection e1 with e1; injection e1
      unfold maxLen at h2
      exact ⟨by omega, cur, hg, h3⟩
  obtain ⟨n, hn⟩ : ∃ n, l.length = n := ⟨_, rfl⟩
  obtain ⟨ps, hps⟩ : ∃ ps, (l.take i).flatMap mrkL = ps := ⟨_, rfl⟩
  obtain ⟨rs, hrs⟩ : ∃ rs, (l.drop i).flatMap mrkL = rs := ⟨_, rfl⟩
  have hpl : ps.length = i * 4 := by rw [← hps, flat_len mrkL 4 (fun _ => rfl), List.length_take, Nat.min_eq_left (by omega)]
  have hrl : rs.length = (n - i) * 4 := by rw [← hrs, flat_len mrkL 4 (fun _ => rfl), List.length_drop, hn]
  have hpr : l.flatMap mrkL = ps ++ rs := by rw [← hps, ← hrs, ← List.flatMap_append, List.take_append_drop]
  have hr1 : ∀ u ∈ rs, u.oneCell' = true := fun u hu => mrk_one (l.drop i) u (by rw [hrs]; exact hu)
  have hv1 : ∀ u ∈ mrkL x, u.oneCell' = true := fun u hu => mrk_one [x] u (by simpa using hu)
  rw [hpr, hn] at hown hL
  rw [hn] at hi hroom hlen
  have hsz : (Tryd.prog.info? 61).map (·.size) = some 4 := by kernel_rfl
  have hz4 : ∀ w, (Go.sizeOf 61).run Tryd.prog w = .ok 4 w := fun w => by kernel_rfl
  obtain ⟨cur, hcur, hcs⟩ := hcur
  have hov : ∀ lb cb, (callFunc 96 #[.slice (some ⟨vb, 0, none⟩) 1 1, .slice (some ⟨g, (i + 1) * 4, none⟩) lb cb]).run Tryd.prog w = .ok (.value (.bool false)) w := fun lb cb => by
    rw [run_callFunc_extern Tryd.func96 (by kernel_rfl) (by kernel_rfl) (by kernel_rfl) (e := Extern.SlicesOverlaps.overlaps #[28, 28] #[4]) (by kernel_rfl),
      Lib.run_overlaps_apart w 28 4 61 Tryd.underlying28 4 hz4 ⟨vb, 0, none⟩ ⟨g, (i + 1) * 4, none⟩ 1 1 lb cb hvg 61 61 4 (c * 4) (by simp [World.shape?, show w.heap[vb]? = _ from hv]) (by simp [World.shape?, hcur, hcs]) (by omega) (hv.frozen 0) (hv.frozen 4)]
    rfl
  have hd : w.drew.ownsRow base 61 4 (.slice (some ⟨g, 0, none⟩) (n + 1) c) (n + 1) (ps ++ rs ++ zs) := own_below hL ((Below.refl _ w).drew)
  obtain ⟨W1, hW1⟩ : ∃ W1, W1 = w.drew.setCells g ((i + 1) * 4) rs := ⟨_, rfl⟩
  obtain ⟨hd1, hg1⟩ := own_setCells rs ((i + 1) * 4) hd
  rw [← hW1] at hd1 hg1
  have hvW : Blk W1 vb (mrkC x) 61 := (hg1.block vb hv.lt (fun e => hvg (Option.some.inj e))).trans hv
  obtain ⟨W2, hW2⟩ : ∃ W2, W2 = W1.setCells g (i * 4) (mrkL x) := ⟨_, rfl⟩
  obtain ⟨hd2, hg2⟩ := own_setCells (mrkL x) (i * 4) hd1
  rw [← hW2] at hd2 hg2
  have hcell : ∀ {W : World} {xs : List Value}, W.ownsRow base 61 4 (.slice (some ⟨g, 0, none⟩) (n + 1) c) (n + 1) xs → ∀ j, j < (n + 1) * 4 → (W.cell? ⟨g, j, none⟩).isSome = true := fun h j hj => by
    rw [h.cellAt j hj, List.getElem?_eq_getElem (by rw [h.1]; exact hj)]; rfl
  have hcp1 : ∀ ty dc sc, (Builtin.copy_ #[28, 28] ty #[.slice (some ⟨g, (i + 1) * 4, none⟩) (n - i) dc, .slice (some ⟨g, i * 4, none⟩) (n + 1 - i) sc]).run Tryd.prog w.drew = .ok (goInt (n - i : Nat)) W1 := fun ty dc sc => by
    rw [hW1]
    refine run_copy_wide w.drew _ _ ty 61 g ((i + 1) * 4) (n - i) dc ⟨g, i * 4, none⟩ (n + 1 - i) sc 4 (n - i) rs Tryd.underlying28 hsz (by simp only [Nat.min_def]; split <;> omega) hrl (fun j v hj => ?_) (fun j hj => hcell hd _ (by omega)) (fun j _ => hd.frozenAt _) hr1
    have hj' : j < rs.length := (List.getElem?_eq_some_iff.1 hj).1
    have hadd : (⟨g, i * 4, none⟩ : Addr).add j = ⟨g, i * 4 + j, none⟩ := by unfold Addr.add; split <;> simp_all
    rw [hadd, hd.cellAt _ (by omega), List.append_assoc, List.getElem?_append_right (by omega), hpl, show i * 4 + j - i * 4 = j by omega, List.getElem?_append_left hj', hj]
  have hcp2 : ∀ ty dc, (Builtin.copy_ #[28, 28] ty #[.slice (some ⟨g, i * 4, none⟩) (n + 1 - i) dc, .slice (some ⟨vb, 0, none⟩) 1 1]).run Tryd.prog W1 = .ok (goInt (1 : Nat)) W2 := fun ty dc => by
    rw [hW2]
    refine run_copy_wide W1 _ _ ty 61 g (i * 4) (n + 1 - i) dc ⟨vb, 0, none⟩ 1 1 4 1 (mrkL x) Tryd.underlying28 hsz (by simp only [Nat.min_def]; split <;> omega) rfl (fun j v hj => ?_) (fun j hj => hcell hd1 _ (by simp [mrkL] at hj; omega)) (fun j _ => hd1.frozenAt _) hv1
    have hadd : (⟨vb, 0, none⟩ : Addr).add j = ⟨vb, j, none⟩ := by unfold Addr.add; split <;> simp_all
    rw [hadd, hvW.cell]
    simpa [mrkC, mrkL] using hj
  have HFIN := Lib.hid (show W2.ownsRow base 61 4 (.slice (some ⟨g, 0, none⟩) (n + 1) c) (n + 1) ((l.take i ++ x :: l.drop i).flatMap mrkL) by
    have e := ins_shift ps (mrkL x) rs (rs ++ zs) (i * 4) hpl rfl (by rw [List.length_append, hzl]; omega)
    rw [List.append_assoc, show (i + 1) * 4 = i * 4 + 4 by omega, e] at hd2
    rw [ins_flat, hps, hrs]
    exact hd2)
  have HT := Lib.hid (show Turn (fun k => (some (⟨g, 0, none⟩ : Addr)).map (·.block) = some k) w W2 from (Turn.of_below ((Below.refl _ w).drew)).trans (Turn.of_grown (hg1.trans hg2)))
  have HLN := Lib.hid (show (l.take i ++ x :: l.drop i).length = n + 1 by simp; omega)
  rw [hn]
  clear hL hown hd hW1 hW2 hd1 hd2 hg1 hg2 hcell hvW hv hcur hcs hsz hz4 hps hrs hpl hrl hpr hr1 hv1 hzl
  have mixed : Tryd.prog.follows .mixedOrders = true := by kernel_rfl
  have hi1 : i ≤ n := by omega
  have hci : ¬ (c = i) := by omega
  have hci1 : ¬ (c = i + 1) := by omega
  have hic : i ≤ c := by omega
  have hne : ((i : Int) == (n : Int)) = false := by simp; omega
  have hw1 : IntKind.i64.wrap ((n : Int) + 1) = (n : Int) + 1 := by rw [IntKind.wrap_i64]; omega
  have hw2 : IntKind.i64.wrap ((i : Int) + 1) = (i : Int) + 1 := by rw [IntKind.wrap_i64]; omega
  have hb1 : (0 : Int) ≤ (i : Int) + 1 := by omega
  have hb0 : (0 : Int) ≤ (i : Int) := by omega
  have htn : ((i : Int) + 1).toNat = i + 1 := by omega
  have hb3 : (i : Int) ≤ (n : Int) + 1 := by omega
  go_enter Tryd.func88, Tryd.ntmps88
  go_wp2_with (simp only [hov])
  go_region_law_o (refine step_copy_runI rfl _ _ 28 28 rfl (.slice (some ⟨g, (i + 1) * 4, none⟩) (n - i) (c - (i + 1))) (.slice (some ⟨g, i * 4, none⟩) (n + 1 - i) (c - i)) (by simp [Act.eval, Act.put]) (by simp [Act.eval, Act.put]) (hcp1 _ _ _) ?_)
  go_wp2_with (at_builtin; refine wpList_copy_runI _ rfl _ _ 28 28 rfl _ _ rfl rfl (hcp2 _ _) ?_)
  go_ret
  exact ⟨⟨some ⟨g, 0, none⟩, c, by rw [HLN.out]; rfl, by rw [HLN.out]; exact HFIN.out⟩, HT.out⟩

theorem zero_cells4 (k : Nat) : (Builtin.zeroCells (Value.agg #[.int .i64 0, .int .i64 0, .int .i64 0, .int .i64 0]).cells k).toList.length = k * 4 := by
  simp [Builtin.zeroCells, Value.cells]
set_option maxRecDepth 100000 in
set_option maxHeartbeats 4000000 in
/-- There is no room: a new row. -/
theorem insert_grow (base vb g : Nat) (c : Nat) (l : List Mrk) (x : Mrk) (i : Nat) (w : World) (hbase : base ≤ w.heap.size) (hown : w.ownsRow base 61 4 (.slice (some ⟨g, 0, none⟩) l.length c) l.length (l.flatMap mrkL)) (hlen : l.length ≤ 100000) (hi : i < l.length) (hroom : ¬ l.length + 1 ≤ c) (hv : Blk w vb (mrkC x) 61) :
    Calls Tryd.prog 88 #[.slice (some ⟨g, 0, none⟩) l.length c, .int .i64 i, .slice (some ⟨vb, 0, none⟩) 1 1] w (InsSaid base (some ⟨g, 0, none⟩) (l.take i ++ x :: l.drop i) w) := by
  obtain ⟨i0, hi0, hz0, hz1, hz2⟩ := info_parts3 info_mrk
  have hlt := (hown.lt g (by simp [Value.ownBlock]))
  have hcn : c = l.length := by
    rcases hown.2 with ⟨e, _⟩ | ⟨g', _, cur, e, _, hg, h1, h2, h3, _⟩
    · cases e
    · obtain ⟨e1, _, rfl⟩ := slice_inj e
      omega
  obtain ⟨n, hn⟩ : ∃ n, l.length = n := ⟨_, rfl⟩
  obtain ⟨ps, hps⟩ : ∃ ps, (l.take i).flatMap mrkL = ps := ⟨_, rfl⟩
  obtain ⟨rs, hrs⟩ : ∃ rs, (l.drop i).flatMap mrkL = rs := ⟨_, rfl⟩
  have hpl : ps.length = i * 4 := by rw [← hps, flat_len mrkL 4 (fun _ => rfl), List.length_take, Nat.min_eq_left (by omega)]
  have hrl : rs.length = (n - i) * 4 := by rw [← hrs, flat_len mrkL 4 (fun _ => rfl), List.length_drop, hn]
  have hpr : l.flatMap mrkL = ps ++ rs := by rw [← hps, ← hrs, ← List.flatMap_append, List.take_append_drop]
  have hr1 : ∀ u ∈ rs, u.oneCell' = true := fun u hu => mrk_one (l.drop i) u (by rw [hrs]; exact hu)
  have hv1 : ∀ u ∈ mrkL x, u.oneCell' = true := fun u hu => mrk_one [x] u (by simpa using hu)
  rw [hpr, hn] at hown
  rw [hn] at hi hroom hlen hcn
  subst hcn
  have hsz : (Tryd.prog.info? 61).map (·.size) = some 4 := by kernel_rfl
  have hgd : ∀ j, (⟨g, 0, none⟩ : Addr).add j = ⟨g, j, none⟩ := fun j => by unfold Addr.add; split <;> simp_all
  have hod : w.drew.ownsRow base 61 4 (.slice (some ⟨g, 0, none⟩) c c) c (ps ++ rs) := own_below hown ((Below.refl _ w).drew)
  have hold : (Builtin.firstCells i0.size i (.slice (some ⟨g, 0, none⟩) i c)).run Tryd.prog w.drew = .ok ps.toArray w.drew := by
    rw [hz1]
    exact run_firstCells_some w.drew 4 i ⟨g, 0, none⟩ i c ps (by rw [hpl]) (fun j v hj => by
      have hj' : j < ps.length := (List.getElem?_eq_some_iff.1 hj).1
      rw [hgd, hod.cellAt _ (by omega), List.getElem?_append_left hj', hj])
  obtain ⟨G, hG⟩ : ∃ G, G = grownCap w (c + 1) c 61 := ⟨_, rfl⟩
  have hGn : c + 1 ≤ G := by rw [hG]; exact grownCap_ge w _ _ _
  have hGm : G ≤ maxLen := by rw [hG]; exact grownCap_le_maxLen w (c + 1) c 61 (by unfold maxLen; omega)
  have hG63 : G ≤ 9223372036854775807 := by unfold maxLen at hGm; omega
  obtain ⟨ROW, hROW⟩ : ∃ ROW : Array Value, ROW = ps.toArray ++ Builtin.zeroCells (Value.agg #[.int .i64 0, .int .i64 0, .int .i64 0, .int .i64 0]).cells (c + 1 - i) ++ Builtin.zeroCells (Value.agg #[.int .i64 0, .int .i64 0, .int .i64 0, .int .i64 0]).cells (G - (c + 1)) := ⟨_, rfl⟩
  have hik : i + (c + 1 - i) = c + 1 := by omega
  have hrz : ∀ ty, (Builtin.append_ #[28, 3] ty #[.slice (some ⟨g, 0, none⟩) i c, .int .i64 ((c : Int) + 1 - (i : Int))]).run Tryd.prog w = .ok (.slice (some ⟨w.heap.size, 0, none⟩) (c + 1) G) (w.drew.alloc (.cells ROW 61)) := fun ty => by
    have h := Lib.run_append_grow_zeros w 28 3 ty 61 i0 _ .i64 .i64 Tryd.underlying28 Tryd.underlying3 hi0 hz0 (some ⟨g, 0, none⟩) i c ps hold (c + 1 - i) (by omega) (by omega) (by omega) (by omega) (by rw [hz2]; omega) (by rw [hz2, hik]; exact growslice_fits (by omega) (by omega))
    rw [hik, ← hG, ← hROW] at h
    rw [show (c : Int) + 1 - (i : Int) = ((c + 1 - i : Nat) : Int) by omega]
    exact h
  obtain ⟨W0, hW0⟩ : ∃ W0, W0 = w.drew.alloc (.cells ROW 61) := ⟨_, rfl⟩
  rw [← hW0] at hrz
  obtain ⟨Z, hZ, hZl⟩ : ∃ Z : List Value, ROW.toList.take ((c + 1) * 4) = ps ++ Z ∧ Z.length = 4 + rs.length := by
    refine ⟨(Builtin.zeroCells (Value.agg #[.int .i64 0, .int .i64 0, .int .i64 0, .int .i64 0]).cells (c + 1 - i)).toList, ?_, by rw [zero_cells4, hrl]; omega⟩
    rw [hROW]
    simp only [Array.toList_append, List.toList_toArray]
    rw [List.take_left' (by rw [List.length_append, hpl, zero_cells4]; omega)]
  have hRs : ROW.size = G * 4 := by
    have h1 := zero_cells4 (c + 1 - i)
    have h2 := zero_cells4 (G - (c + 1))
    rw [Array.length_toList] at h1 h2
    rw [hROW, Array.size_append, Array.size_append, h1, h2, List.size_toArray, hpl]
    omega
  have hO0 : W0.ownsRow base 61 4 (.slice (some ⟨w.heap.size, 0, none⟩) (c + 1) G) (c + 1) (ps ++ Z) := by
    refine ⟨by rw [List.length_append, hpl, hZl, hrl]; omega, .inr ⟨w.heap.size, G, ROW, rfl, hbase, ?_, hGn, hGm, hRs, hZ⟩⟩
    rw [hW0]
    exact World.alloc_heap_new w.drew _
  have hb0 : Below w.heap.size w W0 := by rw [hW0]; exact ((Below.refl _ w).drew).alloc (Nat.le_refl _) _
  have hsN : ∀ {W : World} {xs : List Value}, W.ownsRow base 61 4 (.slice (some ⟨w.heap.size, 0, none⟩) (c + 1) G) (c + 1) xs → ∀ j, j < (c + 1) * 4 → (W.cell? ⟨w.heap.size, j, none⟩).isSome = true := fun h j hj => by
    rw [h.cellAt j hj, List.getElem?_eq_getElem (by rw [h.1]; exact hj)]; rfl
  obtain ⟨W1, hW1⟩ : ∃ W1, W1 = W0.setCells w.heap.size (i * 4) (mrkL x) := ⟨_, rfl⟩
  obtain ⟨hd1, hg1⟩ := own_setCells (mrkL x) (i * 4) hO0
  rw [← hW1] at hd1 hg1
  obtain ⟨W2, hW2⟩ : ∃ W2, W2 = W1.drew.setCells w.heap.size ((i + 1) * 4) rs := ⟨_, rfl⟩
  have hd1' := own_below hd1 ((Below.refl _ W1).drew)
  obtain ⟨hd2, hg2⟩ := own_setCells rs ((i + 1) * 4) hd1'
  rw [← hW2] at hd2 hg2
  have hv0 : Blk W0 vb (mrkC x) 61 := hv.belowS hb0
  have hb1 : Below w.heap.size w W1 := hb0.grown hg1 hb0.size (fun k e => by obtain rfl := Option.some.inj e; exact Nat.le_refl _)
  have ho1 : W1.drew.ownsRow base 61 4 (.slice (some ⟨g, 0, none⟩) c c) c (ps ++ rs) := own_below (own_below hown hb1) ((Below.refl _ W1).drew)
  have hcp1 : ∀ ty dc, (Builtin.copy_ #[28, 28] ty #[.slice (some ⟨w.heap.size, i * 4, none⟩) (c + 1 - i) dc, .slice (some ⟨vb, 0, none⟩) 1 1]).run Tryd.prog W0 = .ok (goInt (1 : Nat)) W1 := fun ty dc => by
    rw [hW1]
    refine run_copy_wide W0 _ _ ty 61 w.heap.size (i * 4) (c + 1 - i) dc ⟨vb, 0, none⟩ 1 1 4 1 (mrkL x) Tryd.underlying28 hsz (by simp only [Nat.min_def]; split <;> omega) rfl (fun j v hj => ?_) (fun j hj => hsN hO0 _ (by simp [mrkL] at hj; omega)) (fun j _ => hO0.frozenAt _) hv1
    have hadd : (⟨vb, 0, none⟩ : Addr).add j = ⟨vb, j, none⟩ := by unfold Addr.add; split <;> simp_all
    rw [hadd, hv0.cell]
    simpa [mrkC, mrkL] using hj
  have hcp2 : ∀ ty dc sc, (Builtin.copy_ #[28, 28] ty #[.slice (some ⟨w.heap.size, (i + 1) * 4, none⟩) (c - i) dc, .slice (some ⟨g, i * 4, none⟩) (c - i) sc]).run Tryd.prog W1.drew = .ok (goInt (c - i : Nat)) W2 := fun ty dc sc => by
    rw [hW2]
    refine run_copy_wide W1.drew _ _ ty 61 w.heap.size ((i + 1) * 4) (c - i) dc ⟨g, i * 4, none⟩ (c - i) sc 4 (c - i) rs Tryd.underlying28 hsz (Nat.min_self _) hrl (fun j v hj => ?_) (fun j hj => hsN hd1' _ (by omega)) (fun j _ => hd1'.frozenAt _) hr1
    have hj' : j < rs.length := (List.getElem?_eq_some_iff.1 hj).1
    have hadd : (⟨g, i * 4, none⟩ : Addr).add j = ⟨g, i * 4 + j, none⟩ := by unfold Addr.add; split <;> simp_all
    rw [hadd, ho1.cellAt _ (by omega), List.getElem?_append_right (by omega), hpl, show i * 4 + j - i * 4 = j by omega, hj]
  have HFIN := Lib.hid (show W2.ownsRow base 61 4 (.slice (some ⟨w.heap.size, 0, none⟩) (c + 1) G) (c + 1) ((l.take i ++ x :: l.drop i).flatMap mrkL) by
    have e := ins_grow ps (mrkL x) rs Z (i * 4) hpl rfl hZl
    rw [show (i + 1) * 4 = i * 4 + 4 by omega, e] at hd2
    rw [ins_flat, hps, hrs]
    exact hd2)
  have HT := Lib.hid (show Turn (fun k => (some (⟨g, 0, none⟩ : Addr)).map (·.block) = some k) w W2 from Turn.of_below ((hb1.drew).grown hg2 hb1.size (fun k e => by obtain rfl := Option.some.inj e; exact Nat.le_refl _)))
  have HLN := Lib.hid (show (l.take i ++ x :: l.drop i).length = c + 1 by simp; omega)
  rw [hn]
  clear hown hod hold hG hROW hGm hW0 hW1 hW2 hZ hZl hRs hO0 hb0 hsN hd1 hd1' hd2 hg1 hg2 hv0 hb1 ho1 hv hsz hps hrs hpl hrl hpr hr1 hv1 hgd hik
  have mixed : Tryd.prog.follows .mixedOrders = true := by kernel_rfl
  have hi1 : i ≤ c := by omega
  have hci : ¬ (c = i) := by omega
  have hGi : ¬ (G = i) := by omega
  have hGi1 : ¬ (G = i + 1) := by omega
  have hiG : i ≤ G := by omega
  have hne : ((i : Int) == (c : Int)) = false := by simp; omega
  have hw1 : IntKind.i64.wrap ((c : Int) + 1) = (c : Int) + 1 := by rw [IntKind.wrap_i64]; omega
  have hw2 : IntKind.i64.wrap ((i : Int) + 1) = (i : Int) + 1 := by rw [IntKind.wrap_i64]; omega
  have hw3 : IntKind.i64.wrap ((c : Int) + 1 - (i : Int)) = (c : Int) + 1 - (i : Int) := by rw [IntKind.wrap_i64]; omega
  have hb1 : (0 : Int) ≤ (i : Int) + 1 := by omega
  have hb0 : (0 : Int) ≤ (i : Int) := by omega
  have htn : ((i : Int) + 1).toNat = i + 1 := by omega
  have hb3 : (i : Int) ≤ (c : Int) + 1 := by omega
  go_enter Tryd.func88, Tryd.ntmps88
  go_wp2_with (first
    | (at_builtin; refine Lib.wpList_append_run _ rfl _ _ _ _ rfl _ _ rfl rfl _ _ (hrz _) ?_)
    | (at_builtin; refine wpList_copy_runI _ rfl _ _ 28 28 rfl _ _ rfl rfl (hcp1 _ _) ?_))
  go_region_law_o (refine step_copy_runI rfl _ _ 28 28 rfl (.slice (some ⟨w.heap.size, (i + 1) * 4, none⟩) (c - i) (G - (i + 1))) (.slice (some ⟨g, i * 4, none⟩) (c - i) (c - i)) (by simp [Act.eval, Act.put]) (by simp [Act.eval, Act.put]) (hcp2 _ _ _) ?_)
  go_wp2
  go_ret
  exact ⟨⟨some ⟨w.heap.size, 0, none⟩, G, by rw [HLN.out]; rfl, by rw [HLN.out]; exact HFIN.out⟩, HT.out⟩

/-- slices.Insert of one mark at any place. -/
theorem insert_any (base vb : Nat) (a : Option Addr) (c : Nat) (l : List Mrk) (x : Mrk) (i : Nat) (w : World) (hbase : base ≤ w.heap.size) (hown : w.ownsRow base 61 4 (.slice a l.length c) l.length (l.flatMap mrkL)) (hlen : l.length ≤ 100000) (hi : i ≤ l.length) (hv : Blk w vb (mrkC x) 61) (hvg : ∀ p, a = some p → vb ≠ p.block) :
    Calls Tryd.prog 88 #[.slice a l.length c, .int .i64 i, .slice (some ⟨vb, 0, none⟩) 1 1] w (InsSaid base a (l.take i ++ x :: l.drop i) w) := by
  rcases Nat.lt_or_ge i l.length with h | h
  · obtain ⟨g, cap, e, hb, hlt⟩ := hown.form (by omega)
    obtain ⟨rfl, _, rfl⟩ := slice_inj e
    by_cases hr : l.length + 1 ≤ c
    · exact insert_shift base vb g c l x i w hown hlen h hr hv (hvg _ rfl)
    · exact insert_grow base vb g c l x i w hbase hown hlen h hr hv
  · obtain rfl : i = l.length := by omega
    have e1 : l.take l.length ++ x :: l.drop l.length = l ++ [x] := by simp
    rw [e1]
    exact insert_end base vb a c l x w hbase hown hlen hv
end Go.Proofs.YtoigihmgjacbjaaDoor
