/- Rows of pieces in memory, gaps, tables; what the leaf functions of package ridge return. No condition but the limits of what is given. -/
import Derived.Test.YtmcmhgjlpffcnaaWE
import Derived.Test.YtmcmhgjlpffcnaaPA
set_option linter.unusedSimpArgs false
namespace Go.Proofs.Ytmcmhgjlpffcnaa
open Go.RowKit

/-! ### Rows in memory -/
theorem slice_inj {a a' : Option Addr} {l l' c c' : Nat} (h : Value.slice a l c = .slice a' l' c') : a = a' ∧ l = l' ∧ c = c' := by cases h; exact ⟨rfl, rfl, rfl⟩
/-- A slice value that holds a list of elements, each of sz cells. -/
def IsRow {α : Type} (sz : Nat) (At : World → Nat → Nat → α → Prop) (w : World) (a : Option Addr) (c : Nat) (l : List α) : Prop :=
  l = [] ∨ ∃ b off, a = some ⟨b, off, none⟩ ∧ b < w.heap.size ∧ l.length ≤ c ∧ c ≤ 9223372036854775807 ∧ ∀ j x, l[j]? = some x → At w b (off + j * sz) x
theorem IsRow.below {α : Type} {sz : Nat} {At : World → Nat → Nat → α → Prop} {w w' : World} {a : Option Addr} {c : Nat} {l : List α} (h : IsRow sz At w a c l) (hs : w.heap.size ≤ w'.heap.size)
    (hAt : ∀ b o x, b < w.heap.size → At w b o x → At w' b o x) : IsRow sz At w' a c l := by
  rcases h with h | ⟨b, off, e, hl, hc, hc', hp⟩
  · exact .inl h
  · exact .inr ⟨b, off, e, Nat.lt_of_lt_of_le hl hs, hc, hc', fun j x hj => hAt _ _ _ hl (hp j x hj)⟩
theorem IsRow.at {α : Type} {sz : Nat} {At : World → Nat → Nat → α → Prop} {w : World} {a : Option Addr} {c : Nat} {l : List α} (h : IsRow sz At w a c l) {j : Nat} {x : α} (hj : l[j]? = some x) :
    ∃ b off, a = some ⟨b, off, none⟩ ∧ b < w.heap.size ∧ l.length ≤ c ∧ c ≤ 9223372036854775807 ∧ At w b (off + j * sz) x := by
  rcases h with rfl | ⟨b, off, e, hl, hc, hc', hp⟩
  · simp at hj
  · exact ⟨b, off, e, hl, hc, hc', hp j x hj⟩

theorem IsRow.pre {α : Type} {sz : Nat} {At : World → Nat → Nat → α → Prop} {w : World} {a : Option Addr} {c : Nat} {l : List α} (h : IsRow sz At w a c l) (i : Nat) : IsRow sz At w a c (l.take i) := by
  rcases h with rfl | ⟨b, off, e, hl, hc, hc', hp⟩
  · exact .inl (by simp)
  · refine .inr ⟨b, off, e, hl, ?_, hc', fun j x hj => ?_⟩
    · rw [List.length_take]; omega
    · rw [List.getElem?_take] at hj
      split at hj
      · exact hp j x hj
      · cases hj

structure Pce where
  name : ByteArray
  wd : Int
  lf : Int
  rt : Int
  mr : Int
abbrev pceC (x : Pce) : Array Value := #[.string x.name, .int .i64 x.wd, .int .i64 x.lf, .int .i64 x.rt, .int .i64 x.mr]
def PceAt (w : World) (b o : Nat) (x : Pce) : Prop := w.cell? ⟨b, o, none⟩ = some (.string x.name) ∧ w.cell? ⟨b, o + 1, none⟩ = some (.int .i64 x.wd) ∧ w.cell? ⟨b, o + 2, none⟩ = some (.int .i64 x.lf) ∧
  w.cell? ⟨b, o + 3, none⟩ = some (.int .i64 x.rt) ∧ w.cell? ⟨b, o + 4, none⟩ = some (.int .i64 x.mr)
def IsPcs (w : World) (a : Option Addr) (c : Nat) (l : List Pce) : Prop := IsRow 5 PceAt w a c l
theorem PceAt.keep {w w' : World} (hb : ∀ b o, b < w.heap.size → w'.cell? ⟨b, o, none⟩ = w.cell? ⟨b, o, none⟩) (b o : Nat) (x : Pce) (hl : b < w.heap.size) (h : PceAt w b o x) : PceAt w' b o x := by
  obtain ⟨h0, h1, h2, h3, h4⟩ := h
  exact ⟨(hb _ _ hl).trans h0, (hb _ _ hl).trans h1, (hb _ _ hl).trans h2, (hb _ _ hl).trans h3, (hb _ _ hl).trans h4⟩
theorem IsPcs.belowS {w w' : World} {a : Option Addr} {c : Nat} {l : List Pce} (h : IsPcs w a c l) (hb : Below w.heap.size w w') : IsPcs w' a c l := IsRow.below h hb.size (PceAt.keep (bcell hb).1)

theorem IsPcs.pre {w : World} {a : Option Addr} {c : Nat} {l : List Pce} (h : IsPcs w a c l) (i : Nat) : IsPcs w a c (l.take i) := IsRow.pre h i
/-- A ridge: its length, its ends, its pieces. -/
structure Rdg where
  len : Int
  st : Int
  en : Int
  pa : Option Addr
  pc : Nat
  ps : List Pce
abbrev rdgC (R : Rdg) : Array Value := #[.int .i64 R.len, .int .i64 R.st, .int .i64 R.en, .slice R.pa R.ps.length R.pc]
theorem rdg_cells {W : World} {B : Nat} {R : Rdg} {t : TypeId} (h : Blk W B #[.int .i64 R.len, .int .i64 R.st, .int .i64 R.en, .slice R.pa R.ps.length R.pc] t) :
    W.cell? ⟨B, 0, none⟩ = some (.int .i64 R.len) ∧ W.cell? ⟨B, 1, none⟩ = some (.int .i64 R.st) ∧ W.cell? ⟨B, 2, none⟩ = some (.int .i64 R.en) ∧ W.cell? ⟨B, 3, none⟩ = some (.slice R.pa R.ps.length R.pc) :=
  ⟨h.cell 0, h.cell 1, h.cell 2, h.cell 3⟩

/-! ### Gaps -/
structure Gp where
  n : Nat
  p : Nat
deriving DecidableEq
abbrev gpC (g : Gp) : Array Value := #[.int .i64 (g.n : Int), .int .i64 (g.p : Int)]
def Gp.ok (g : Gp) : Prop := g.n ≤ 2000 ∧ g.p ≤ 9
def Gp.ix (g : Gp) : Nat := g.n * 10 + g.p
theorem gp_cells {W : World} {B : Nat} {g : Gp} {t : TypeId} (h : Blk W B #[.int .i64 (g.n : Int), .int .i64 (g.p : Int)] t) :
    W.cell? ⟨B, 0, none⟩ = some (.int .i64 (g.n : Int)) ∧ W.cell? ⟨B, 1, none⟩ = some (.int .i64 (g.p : Int)) := ⟨h.cell 0, h.cell 1⟩
theorem pce_cells {W : World} {B : Nat} {x : Pce} {t : TypeId} (h : Blk W B #[.string x.name, .int .i64 x.wd, .int .i64 x.lf, .int .i64 x.rt, .int .i64 x.mr] t) :
    W.cell? ⟨B, 0, none⟩ = some (.string x.name) ∧ W.cell? ⟨B, 1, none⟩ = some (.int .i64 x.wd) ∧ W.cell? ⟨B, 2, none⟩ = some (.int .i64 x.lf) ∧ W.cell? ⟨B, 3, none⟩ = some (.int .i64 x.rt) ∧ W.cell? ⟨B, 4, none⟩ = some (.int .i64 x.mr) :=
  ⟨h.cell 0, h.cell 1, h.cell 2, h.cell 3, h.cell 4⟩
def Pce.ok (x : Pce) : Prop := (1 ≤ x.wd ∧ x.wd ≤ 2000) ∧ (0 ≤ x.lf ∧ x.lf ≤ 9) ∧ 0 ≤ x.rt ∧ x.rt ≤ 9
def takB (g : Gp) (x : Pce) : Bool := decide (x.lf = (g.p : Int)) && decide (x.wd ≤ (g.n : Int))
theorem takB_iff {g : Gp} {x : Pce} : takB g x = true ↔ x.lf = (g.p : Int) ∧ x.wd ≤ (g.n : Int) := by simp [takB]
def behG (g : Gp) (x : Pce) : Gp := ⟨g.n - x.wd.toNat, x.rt.toNat⟩
theorem behG_ok {g : Gp} {x : Pce} (hg : g.ok) (hx : x.ok) : (behG g x).ok := by
  obtain ⟨h1, h2⟩ := hg
  obtain ⟨⟨h3, h4⟩, ⟨h5, h6⟩, h7, h8⟩ := hx
  exact ⟨by simp only [behG]; omega, by simp only [behG]; omega⟩

theorem takes_any (g : Gp) (x : Pce) (w : World) :
    Calls Try.prog 73 #[.agg #[.int .i64 (g.n : Int), .int .i64 (g.p : Int)], .agg #[.string x.name, .int .i64 x.wd, .int .i64 x.lf, .int .i64 x.rt, .int .i64 x.mr]] w fun e w' => e = .returned (.bool (takB g x)) ∧ Below w.heap.size w w' := by
  obtain ⟨n, p⟩ := g
  obtain ⟨nm, wd, lf, rt, mr⟩ := x
  by_cases h1 : lf = (p : Int)
  · by_cases h2 : wd ≤ (n : Int)
    all_goals
      have hv := Lib.hid (show takB ⟨n, p⟩ ⟨nm, wd, lf, rt, mr⟩ = decide (wd ≤ (n : Int)) by simp [takB, h1])
      subst h1
      go_enter Try.func73, Try.ntmps73
      go_wp2
      go_ret
      exact ⟨by rw [hv.out]; simp [h2], ((Below.refl _ _).alloc (Nat.le_refl _) _).alloc (by simp) _⟩
  · have hv := Lib.hid (show takB ⟨n, p⟩ ⟨nm, wd, lf, rt, mr⟩ = false by simp [takB, h1])
    have h1' : (lf == (p : Int)) = false := by simpa using h1
    clear h1
    go_enter Try.func73, Try.ntmps73
    go_wp2
    go_ret
    exact ⟨by rw [hv.out]; rfl, ((Below.refl _ _).alloc (Nat.le_refl _) _).alloc (by simp) _⟩

theorem behind_any (g : Gp) (x : Pce) (w : World) (hg : g.ok) (hx : x.ok) (ht : takB g x = true) :
    Calls Try.prog 74 #[.agg #[.int .i64 (g.n : Int), .int .i64 (g.p : Int)], .agg #[.string x.name, .int .i64 x.wd, .int .i64 x.lf, .int .i64 x.rt, .int .i64 x.mr]] w fun e w' => e = .returned (.agg #[.int .i64 ((behG g x).n : Int), .int .i64 ((behG g x).p : Int)]) ∧ Below w.heap.size w w' := by
  obtain ⟨n, p⟩ := g
  obtain ⟨nm, wd, lf, rt, mr⟩ := x
  obtain ⟨h1, h2⟩ := hg
  obtain ⟨⟨h3, h4⟩, ⟨h5, h6⟩, h7, h8⟩ := hx
  obtain ⟨t1, t2⟩ := takB_iff.1 ht
  simp only at h1 h2 h3 h4 h5 h6 h7 h8 t1 t2
  have e1 : (((behG ⟨n, p⟩ ⟨nm, wd, lf, rt, mr⟩).n : Nat) : Int) = (n : Int) - wd := by simp only [behG]; omega
  have e2 : (((behG ⟨n, p⟩ ⟨nm, wd, lf, rt, mr⟩).p : Nat) : Int) = rt := by simp only [behG]; omega
  rw [e1, e2]
  have hs : IntKind.i64.wrap ((n : Int) - wd) = (n : Int) - wd := by rw [IntKind.wrap_i64]; omega
  clear e1 e2 h5 h6 t1 ht
  go_enter Try.func74, Try.ntmps74
  go_wp2
  exact bodyPost_ret (v := .agg #[.int .i64 ((n : Int) - wd), .int .i64 rt]) (by simp [results, Try.results74, go_sem]) rfl ⟨rfl, (((Below.refl _ _).alloc (Nat.le_refl _) _).alloc (by simp) _).alloc (by simp; omega) _⟩

theorem whole_any (R : Rdg) (w : World) : Calls Try.prog 71 #[.agg #[.int .i64 R.len, .int .i64 R.st, .int .i64 R.en, .slice R.pa R.ps.length R.pc]] w fun e w' => e = .returned (.agg #[.int .i64 R.len, .int .i64 R.st]) ∧ Below w.heap.size w w' := by
  go_enter Try.func71, Try.ntmps71
  go_wp2
  exact bodyPost_ret (v := .agg #[.int .i64 R.len, .int .i64 R.st]) (by simp [results, Try.results71, go_sem]) rfl ⟨rfl, ((Below.refl _ _).alloc (Nat.le_refl _) _).alloc (by simp) _⟩
theorem closed_any (R : Rdg) (w : World) : Calls Try.prog 75 #[.agg #[.int .i64 R.len, .int .i64 R.st, .int .i64 R.en, .slice R.pa R.ps.length R.pc]] w fun e w' => e = .returned (.agg #[.int .i64 0, .int .i64 R.en]) ∧ Below w.heap.size w w' := by
  go_enter Try.func75, Try.ntmps75
  go_wp2
  exact bodyPost_ret (v := .agg #[.int .i64 0, .int .i64 R.en]) (by simp [results, Try.results75, go_sem]) rfl ⟨rfl, ((Below.refl _ _).alloc (Nat.le_refl _) _).alloc (by simp) _⟩

/-! ### Tables -/
def isFalseV : Value → Bool
  | .bool false => true
  | _ => false
def isZeroV : Value → Bool
  | .int .i64 0 => true
  | _ => false
theorem isFalseV_iff {v : Value} (h : isFalseV v = true) : v = .bool false := by
  cases v with
  | bool b => cases b with | false => rfl | true => simp [isFalseV] at h
  | _ => simp [isFalseV] at h
theorem isZeroV_iff {v : Value} (h : isZeroV v = true) : v = .int .i64 0 := by
  unfold isZeroV at h
  split at h
  · rfl
  · cases h
theorem zbool_all : Try.zeroCells126.toList.all isFalseV = true := by kernel_rfl
theorem zint_all : Try.zeroCells116.toList.all isZeroV = true := by kernel_rfl
/-- A table in a block of its own. -/
def TabB (w : World) (B : Nat) (f : Nat → Bool) : Prop := ∃ cs, Blk w B cs 126 ∧ cs.size = 20010 ∧ ∀ i, i < 20010 → cs[i]? = some (.bool (f i))
def TabI (w : World) (B : Nat) (f : Nat → Int) : Prop := ∃ cs, Blk w B cs 116 ∧ cs.size = 20010 ∧ ∀ i, i < 20010 → cs[i]? = some (.int .i64 (f i))
def setF {α : Type} (f : Nat → α) (i : Nat) (v : α) : Nat → α := fun j => if j = i then v else f j
theorem TabB.new (w : World) : TabB (w.alloc (.cells Try.zeroCells126 126)) w.heap.size (fun _ => false) :=
  ⟨_, Blk.new w _ _, Try.zeroCells126_size, fun i hi => by
    have hl : i < Try.zeroCells126.size := by rw [Try.zeroCells126_size]; exact hi
    rw [Array.getElem?_eq_getElem hl, isFalseV_iff (List.all_eq_true.1 zbool_all _ (Array.getElem_mem_toList hl))]⟩
theorem TabI.new (w : World) : TabI (w.alloc (.cells Try.zeroCells116 116)) w.heap.size (fun _ => 0) :=
  ⟨_, Blk.new w _ _, Try.zeroCells116_size, fun i hi => by
    have hl : i < Try.zeroCells116.size := by rw [Try.zeroCells116_size]; exact hi
    rw [Array.getElem?_eq_getElem hl, isZeroV_iff (List.all_eq_true.1 zint_all _ (Array.getElem_mem_toList hl))]⟩
theorem TabB.lt {w : World} {B : Nat} {f : Nat → Bool} (h : TabB w B f) : B < w.heap.size := by obtain ⟨cs, h, _⟩ := h; exact h.lt
theorem TabI.lt {w : World} {B : Nat} {f : Nat → Int} (h : TabI w B f) : B < w.heap.size := by obtain ⟨cs, h, _⟩ := h; exact h.lt
theorem TabB.cell {w : World} {B : Nat} {f : Nat → Bool} (h : TabB w B f) {i : Nat} (hi : i < 20010) : w.cell? ⟨B, i, none⟩ = some (.bool (f i)) := by obtain ⟨cs, h, _, h2⟩ := h; exact (h.cell i).trans (h2 i hi)
theorem TabI.cell {w : World} {B : Nat} {f : Nat → Int} (h : TabI w B f) {i : Nat} (hi : i < 20010) : w.cell? ⟨B, i, none⟩ = some (.int .i64 (f i)) := by obtain ⟨cs, h, _, h2⟩ := h; exact (h.cell i).trans (h2 i hi)
theorem TabB.frozen {w : World} {B : Nat} {f : Nat → Bool} (h : TabB w B f) (i : Nat) : w.frozen? ⟨B, i, none⟩ = false := by obtain ⟨cs, h, _⟩ := h; exact h.frozen i
theorem TabI.frozen {w : World} {B : Nat} {f : Nat → Int} (h : TabI w B f) (i : Nat) : w.frozen? ⟨B, i, none⟩ = false := by obtain ⟨cs, h, _⟩ := h; exact h.frozen i
theorem TabB.of_block {w w' : World} {B : Nat} {f : Nat → Bool} (h : TabB w B f) (hb : w'.heap[B]? = w.heap[B]?) : TabB w' B f := by obtain ⟨cs, h, h2⟩ := h; exact ⟨cs, hb.trans h, h2⟩
theorem TabI.of_block {w w' : World} {B : Nat} {f : Nat → Int} (h : TabI w B f) (hb : w'.heap[B]? = w.heap[B]?) : TabI w' B f := by obtain ⟨cs, h, h2⟩ := h; exact ⟨cs, hb.trans h, h2⟩
theorem TabB.set {w : World} {B : Nat} {f : Nat → Bool} (h : TabB w B f) (i : Nat) (v : Bool) : TabB (w.setCell ⟨B, i, none⟩ (.bool v)) B (setF f i v) := by
  obtain ⟨cs, h, hs, h2⟩ := h
  refine ⟨_, h.set i _, by simp [hs], fun j hj => ?_⟩
  unfold setF
  by_cases e : j = i
  · subst e; rw [if_pos rfl, Array.getElem?_setIfInBounds_self_of_lt (by omega)]
  · rw [if_neg e, Array.getElem?_setIfInBounds_ne (by omega)]; exact h2 j hj
theorem TabI.set {w : World} {B : Nat} {f : Nat → Int} (h : TabI w B f) (i : Nat) (v : Int) : TabI (w.setCell ⟨B, i, none⟩ (.int .i64 v)) B (setF f i v) := by
  obtain ⟨cs, h, hs, h2⟩ := h
  refine ⟨_, h.set i _, by simp [hs], fun j hj => ?_⟩
  unfold setF
  by_cases e : j = i
  · subst e; rw [if_pos rfl, Array.getElem?_setIfInBounds_self_of_lt (by omega)]
  · rw [if_neg e, Array.getElem?_setIfInBounds_ne (by omega)]; exact h2 j hj
theorem own_tabB {β : Type} (n B : Nat) (f : β → Nat → Bool) : OwnFrom n (fun s W => TabB W B (f s)) := fun s X Y row hs hg hrow => by
  obtain ⟨cs, hk, h2⟩ := hs
  exact ⟨cs, hk.kept hg (fun e' => by obtain ⟨_, o, ho, hc⟩ := hrow B e'.symm; rw [show X.heap[B]? = _ from hk] at ho; cases ho; cases hc), h2⟩
theorem own_tabI {β : Type} (n B : Nat) (f : β → Nat → Int) : OwnFrom n (fun s W => TabI W B (f s)) := fun s X Y row hs hg hrow => by
  obtain ⟨cs, hk, h2⟩ := hs
  exact ⟨cs, hk.kept hg (fun e' => by obtain ⟨_, o, ho, hc⟩ := hrow B e'.symm; rw [show X.heap[B]? = _ from hk] at ho; cases ho; cases hc), h2⟩

theorem ix_lt {g : Gp} (hg : g.ok) : g.ix < 20010 := by obtain ⟨h1, h2⟩ := hg; unfold Gp.ix; omega
set_option maxHeartbeats 1000000 in
theorem atI_any (B : Nat) (g : Gp) (w : World) (hg : g.ok) :
    Calls Try.prog 84 #[.pointer (some ⟨B, 0, none⟩), .agg #[.int .i64 (g.n : Int), .int .i64 (g.p : Int)]] w fun e w' => e = .returned (.pointer (some ⟨B, g.ix, none⟩)) ∧ Below w.heap.size w w' := by
  obtain ⟨n, p⟩ := g
  obtain ⟨h1, h2⟩ := hg
  simp only at h1 h2
  unfold Gp.ix
  dsimp only
  have g1 : (0 : Int) ≤ (n : Int) := by omega
  have g2 : (n : Int) < 2001 := by omega
  have g3 : (0 : Int) ≤ (p : Int) := by omega
  have g4 : (p : Int) < 10 := by omega
  clear h1 h2
  go_enter Try.func84, Try.ntmps84
  go_wp2
  go_region
  all_goals go_wp2
  all_goals go_ret
  all_goals exact ⟨by simp, ((Below.refl _ _).alloc (Nat.le_refl _) _).drew⟩
set_option maxHeartbeats 1000000 in
theorem atB_any (B : Nat) (g : Gp) (w : World) (hg : g.ok) :
    Calls Try.prog 108 #[.pointer (some ⟨B, 0, none⟩), .agg #[.int .i64 (g.n : Int), .int .i64 (g.p : Int)]] w fun e w' => e = .returned (.pointer (some ⟨B, g.ix, none⟩)) ∧ Below w.heap.size w w' := by
  obtain ⟨n, p⟩ := g
  obtain ⟨h1, h2⟩ := hg
  simp only at h1 h2
  unfold Gp.ix
  dsimp only
  have g1 : (0 : Int) ≤ (n : Int) := by omega
  have g2 : (n : Int) < 2001 := by omega
  have g3 : (0 : Int) ≤ (p : Int) := by omega
  have g4 : (p : Int) < 10 := by omega
  clear h1 h2
  go_enter Try.func108, Try.ntmps108
  go_wp2
  go_region
  all_goals go_wp2
  all_goals go_ret
  all_goals exact ⟨by simp, ((Below.refl _ _).alloc (Nat.le_refl _) _).drew⟩
end Go.Proofs.Ytmcmhgjlpffcnaa
