/- The map of places: keys that are edges, elements that are places. -/
import Derived.Test.YtpdgcajbdaleeaaR
import Derived.Maps.OwnIn
import Derived.DeepKeys4
namespace Go.Proofs.Ytpdgcajbdaleeaa
open Go.RowKit Go.Maps

theorem Try.laidOutE : laidOutB Try.prog = true := by kernel_rfl
theorem Try.rowE : (122 : TypeId) < Try.prog.types.size := of_decide_eq_true (by kernel_rfl)
theorem Try.wideE : (match Try.prog.underlying 122 with | some (.array _ _) | some (.struct _) => true | _ => false) = true := by kernel_rfl
theorem Try.lawE : Keyed Try.prog 122 := Keyed.of_law (deep_law_laid Try.laidOutE (m := 3) (by omega) Try.rowE (by kernel_rfl) (by kernel_rfl))
theorem Try.keyTypeE : Try.prog.keyType 122 = true := by kernel_rfl
theorem Try.keyTypeA : Try.prog.keyTypeAt 3 27 = true := by kernel_rfl
theorem Try.cellsE4 : Try.prog.cellsOf 122 = 4 := by kernel_rfl
theorem Try.cellsAt : Try.prog.cellsOf 27 = 2 := by kernel_rfl
theorem Try.cellsInt : Try.prog.cellsOf 3 = 1 := by kernel_rfl
theorem Try.sizeTwo : 2 ≤ Try.prog.types.size := of_decide_eq_true (by kernel_rfl)
theorem Try.sizeT : ∃ m, Try.prog.types.size + 1 = m + 1 + 1 + 1 := ⟨Try.prog.types.size - 2, by have := Try.sizeTwo; omega⟩
theorem lits_struct {P : Program} {d : Nat} {t : TypeId} {fs : Array Field} {cs : List Value} (ht : P.underlying t = some (.struct fs)) (hc : cs.length = P.cellsOf t) (hn : fs.all (·.name != "_") = true) :
    P.keyLits (d + 1) t cs = (fs.toList.mapM fun f => P.keyLits d f.type ((cs.drop f.offset).take (P.cellsOf f.type))).map List.flatten := by
  conv => lhs; unfold Program.keyLits
  simp only [ht]
  rw [if_pos ⟨hc, hn⟩]

theorem wf_plan {n : Int} (h : 0 ≤ n) (h' : n ≤ 10000) : (Lit.int .i64 n).wf = true := WalkArith.wf_i64 (by omega)

theorem lits_int (m : Nat) {n : Int} (h : 0 ≤ n) (h' : n ≤ 10000) : Try.prog.keyLits (m + 1) 3 [.int .i64 n] = some [.int .i64 n] := by
  simp [Program.keyLits, Try.underlying3, wf_plan h h']
theorem lits_at (m : Nat) {x y : Int} (h1 : 0 ≤ x) (h2 : x ≤ 10000) (h3 : 0 ≤ y) (h4 : y ≤ 10000) : Try.prog.keyLits (m + 1 + 1) 27 [.int .i64 x, .int .i64 y] = some [.int .i64 x, .int .i64 y] := by
  rw [lits_struct Try.underlying27 (by rw [Try.cellsAt]; rfl) (by kernel_rfl)]
  simp [Try.cellsInt, lits_int m h1 h2, lits_int m h3 h4]

/-- What an edge reads as, as a key. -/
noncomputable def keyE (e : Edg) : Lit := (keyOf Try.prog 122 (.agg (edgC e))).getD (.bool false)
theorem keyE_of (e : Edg) (he : e.ok) : keyOf Try.prog 122 (.agg (edgC e)) = some (keyE e) := by
  have : (keyOf Try.prog 122 (.agg (edgC e))).isSome = true := by
    obtain ⟨⟨fx, fy⟩, ⟨tx, ty⟩⟩ := e
    obtain ⟨⟨⟨h1, h2⟩, h3, h4⟩, ⟨h5, h6⟩, h7, h8⟩ := he
    simp only [] at h1 h2 h3 h4 h5 h6 h7 h8
    obtain ⟨m, hm⟩ := Try.sizeT
    have hl : Try.prog.keyLits (Try.prog.types.size + 1) 122 (Value.agg (edgC ⟨⟨fx, fy⟩, tx, ty⟩)).cells.toList = some [.int .i64 fx, .int .i64 fy, .int .i64 tx, .int .i64 ty] := by
      rw [hm, lits_struct Try.underlying122 (by rw [Try.cellsE4]; rfl) (by kernel_rfl)]
      simp [Try.cellsAt, edgC, Value.cells, lits_at m h1 h2 h3 h4, lits_at m h5 h6 h7 h8]
    unfold keyOf
    rw [hl]
    simp [Try.keyTypeE, Value.formed, Try.underlying122, Try.cellsE4, edgC]
  obtain ⟨l, hl⟩ := Option.isSome_iff_exists.1 this
  rw [keyE, hl]
  rfl
theorem edgC_inj {e e' : Edg} (h : edgC e = edgC e') : e = e' := by
  obtain ⟨⟨a, b⟩, c, d⟩ := e
  obtain ⟨⟨a', b'⟩, c', d'⟩ := e'
  simp [edgC] at h
  obtain ⟨rfl, rfl, rfl, rfl⟩ := h
  rfl
theorem keyE_ne {e e' : Edg} (he : e.ok) (he' : e'.ok) (h : e ≠ e') : keyE e ≠ keyE e' := fun hk => by
  have := Try.lawE.inj (keyE_of e he) (by rw [hk]; exact keyE_of e' he')
  simp only [Value.agg.injEq] at this
  exact h (edgC_inj this)

/-- How a place reads. -/
def placeD (i n : Int) : DataW Unit := .agg [.lit (.int .i64 i), .lit (.int .i64 n)]
def placeR (v : Value) : Option (DataW Unit × List MemPlace) := match v with
  | .agg cs => match cs.toList with
    | [.int .i64 i, .int .i64 n] => some (placeD i n, [])
    | _ => none
  | _ => none
theorem placeR_mk (i n : Int) : placeR (.agg #[.int .i64 i, .int .i64 n]) = some (placeD i n, []) := rfl
theorem placeR_inv {v : Value} {i n : Int} {ps : List MemPlace} (h : placeR v = some (placeD i n, ps)) : v = .agg #[.int .i64 i, .int .i64 n] := by
  unfold placeR at h
  split at h
  · rename_i cs
    split at h
    · rename_i i' n' hl
      simp only [Option.some.injEq, Prod.mk.injEq, placeD, DataW.agg.injEq, List.cons.injEq, DataW.lit.injEq, Lit.int.injEq, true_and, and_true] at h
      obtain ⟨⟨rfl, rfl⟩, _⟩ := h
      obtain ⟨l⟩ := cs
      simp only at hl
      rw [hl]
    · cases h
  · cases h

/-- Block b is a map that tells the places of edges. -/
def MapRep (w : World) (b n : Nat) (F : Edg → Option (Nat × Nat)) : Prop :=
  ∃ D : DataW Unit, w.ownsMap Try.prog 122 placeR b n D ∧ ∀ e, e.ok → Maps.has D (keyE e) = (F e).isSome ∧ ∀ p, F e = some p → D.atKey (keyE e) (placeD 0 0) = placeD (p.1 : Int) (p.2 : Int)
theorem MapRep.lt {w : World} {b n : Nat} {F : Edg → Option (Nat × Nat)} (h : MapRep w b n F) : b < w.heap.size := let ⟨_, h, _⟩ := h; h.lt
theorem MapRep.of_block {w w' : World} {b n : Nat} {F : Edg → Option (Nat × Nat)} (h : MapRep w b n F) (hb : w'.heap[b]? = w.heap[b]?) : MapRep w' b n F := by
  obtain ⟨D, ⟨es, clock, h1, h2⟩, h3⟩ := h
  exact ⟨D, ⟨es, clock, hb.trans h1, h2⟩, h3⟩
theorem MapRep.mono {w : World} {b n m : Nat} {F : Edg → Option (Nat × Nat)} (h : MapRep w b n F) (hn : n ≤ m) : MapRep w b m F := let ⟨D, h1, h2⟩ := h; ⟨D, h1.mono hn, h2⟩
theorem MapRep.made (w : World) : MapRep (w.alloc (.map #[] 0)) w.heap.size 0 (fun _ => none) :=
  ⟨_, World.ownsMap_made w _ _ _, fun _ _ => ⟨rfl, fun _ h => by cases h⟩⟩
/-- A place is laid at an edge. -/
def putF (F : Edg → Option (Nat × Nat)) (e : Edg) (p : Nat × Nat) : Edg → Option (Nat × Nat) := fun x => if x = e then some p else F x
set_option maxRecDepth 100000 in
theorem MapRep.put {w' : World} {b m : Nat} {F : Edg → Option (Nat × Nat)} {D : DataW Unit} {e : Edg} {p : Nat × Nat} (he : e.ok) (hm : IsMap D)
    (h : ∀ e, e.ok → Maps.has D (keyE e) = (F e).isSome ∧ ∀ p, F e = some p → D.atKey (keyE e) (placeD 0 0) = placeD (p.1 : Int) (p.2 : Int))
    (hk : WideAt.IsKeyLit (keyE e)) (h' : w'.ownsMap Try.prog 122 placeR b m (D.put (keyE e) (placeD (p.1 : Int) (p.2 : Int)))) : MapRep w' b m (putF F e p) := by
  refine ⟨_, h', ?_⟩
  clear h'
  have hne : ∀ x : Edg, x.ok → x ≠ e → keyE x ≠ keyE e := fun x hx h => keyE_ne hx he h
  revert h hk hne
  generalize keyE = K
  intro h hk hne x hx
  unfold putF
  by_cases hxe : x = e
  · subst hxe
    rw [if_pos rfl]
    exact ⟨has_put_same hm hk _, fun q hq => by cases hq; exact atKey_put_same hm hk _ _⟩
  · rw [if_neg hxe]
    have hne := hne x hx hxe
    exact ⟨(has_put_other hne _).trans (h x hx).1, fun q hq => (atKey_put_other hne _ _).trans ((h x hx).2 q hq)⟩
set_option maxRecDepth 100000 in
theorem MapRep.isKey {e : Edg} (he : e.ok) : WideAt.IsKeyLit (keyE e) := by
  have h := keyE_of e he
  revert h
  generalize keyE e = K
  intro h
  exact Try.lawE.key h

set_option maxRecDepth 100000 in
/-- What a look-up at an edge gives. -/
theorem MapRep.look {w : World} {b n : Nat} {F : Edg → Option (Nat × Nat)} (h : MapRep w b n F) (e : Edg) (he : e.ok) :
    (Instr.lookup 92 (.map (some b)) (.agg (edgC e)) true).run Try.prog w = .ok (.tuple #[.agg #[.int .i64 (((F e).getD (0, 0)).1 : Int), .int .i64 (((F e).getD (0, 0)).2 : Int)], .bool (F e).isSome]) w := by
  obtain ⟨D, h1, h2⟩ := h
  obtain ⟨v, ps, hrun, hv⟩ := h1.look_ok Try.lawE Try.underlying92 (z := .agg #[.int .i64 0, .int .i64 0]) (by kernel_rfl) (placeR_mk 0 0) (keyE_of e he)
  obtain ⟨h3, h4⟩ := h2 e he
  rw [hrun]
  clear hrun h2 h1
  revert h3 h4 hv
  generalize keyE e = K
  intro hv h3 h4
  rw [h3]
  cases hF : F e with
  | none =>
    rw [hF] at h3
    rw [atKey_of_not_has h3] at hv
    rw [placeR_inv hv]
    rfl
  | some p =>
    rw [h4 p hF] at hv
    rw [placeR_inv hv]
    rfl
end Go.Proofs.Ytpdgcajbdaleeaa
