/- SameEdges, SameWays: of equal lists they say so, For the contract of scaled: rows that were made by appends of whole elements, The law's scaled: a roof with all coordinates and heights so many times as great, in new memory. -/
import Derived.Test.YtpheaomlphggfaaD5
import Derived.Deep.QuietTactic
import Derived.BigQuiet
import Derived.Test.YtpheaomlphggfaaSD
import Derived.Test.YtpheaomlphggfaaOA
namespace Go.Proofs.Ytpheaomlphggfaa

/-! ### SameEdges, SameWays: of equal lists they say so. -/
section
open Go.RowKit

theorem run_equalIn_edge5 (d : Nat) (a b c e f : Int) (w : World) : (Op.equalIn (d + 2) 51 (.agg #[.int .i64 a, .int .i64 b, .int .i64 c, .int .i64 e, .int .i64 f]) (.agg #[.int .i64 a, .int .i64 b, .int .i64 c, .int .i64 e, .int .i64 f])).run Try.prog w = .ok true w := by
  rw [run_equalIn_struct w (d + 1) 51 _ _ (by kernel_rfl) (by kernel_rfl)]
  simp [Program.fieldsOf, Try.underlying51, Op.eqFields, go_sem]
theorem run_equalIn_way3 (d : Nat) (a b c : Int) (w : World) : (Op.equalIn (d + 2) 81 (.agg #[.int .i64 a, .int .i64 b, .int .i64 c]) (.agg #[.int .i64 a, .int .i64 b, .int .i64 c])).run Try.prog w = .ok true w := by
  rw [run_equalIn_struct w (d + 1) 81 _ _ (by kernel_rfl) (by kernel_rfl)]
  simp [Program.fieldsOf, Try.underlying81, Op.eqFields, go_sem]

set_option maxRecDepth 100000 in
set_option maxHeartbeats 2000000 in
theorem sameEdges_any (a b : Option Addr) (ca cb : Nat) (l : List EdR) (w : World) (ha : IsEds w (.slice a l.length ca) l) (hb : IsEds w (.slice b l.length cb) l) (hl : l.length ≤ 1000000) :
    Calls Try.prog 36 #[.slice a l.length ca, .slice b l.length cb] w fun e w' => e = .returned (.bool true) ∧ Below w.heap.size w w' := by
  obtain ⟨a', ca', ea, _, _, hca⟩ := ha.shape
  obtain ⟨b', cb', eb, _, _, hcb⟩ := hb.shape
  obtain ⟨rfl, _, rfl⟩ := slice_inj ea
  obtain ⟨rfl, _, rfl⟩ := slice_inj eb
  have HA := Lib.hid hca
  have HB := Lib.hid hcb
  clear ha hb ea eb hca hcb
  generalize hn : l.length = n at *
  have HN := Lib.hid hn
  clear hn
  go_enter Try.func36, Try.ntmps36
  go_wp2_with fail
  go_loopw [5] (fun i wr => ∃ t : Nat, t ≤ n ∧ i = .int .i64 t ∧ Below w.heap.size w wr) (fun i _ => n - (intOf i).toNat)
  case atStart => exact ⟨0, Nat.zero_le _, rfl, Below.refl _ _⟩
  case round =>
    obtain ⟨t, ht, rfl, g1⟩ := hrel
    by_cases hlt : t < n
    · obtain ⟨x, hx⟩ : ∃ x, l[t]? = some x := ⟨_, List.getElem?_eq_getElem (by rw [HN.out]; exact hlt)⟩
      obtain ⟨ga, rfl, hga, hda⟩ := HA.out t x hx
      obtain ⟨gb, rfl, hgb, hdb⟩ := HB.out t x hx
      obtain ⟨c0, c1, c2, c3, c4⟩ := hda.below g1 hga
      obtain ⟨d0, d1, d2, d3, d4⟩ := hdb.below g1 hgb
      have s1 : ∀ wx, (Op.equalIn 10000 51 (.agg #[.int .i64 x.face, .int .i64 x.number, .int .i64 x.kind, .int .i64 x.wth, .int .i64 x.at_]) (.agg #[.int .i64 x.face, .int .i64 x.number, .int .i64 x.kind, .int .i64 x.wth, .int .i64 x.at_])).run Try.prog wx = .ok true wx := fun wx => run_equalIn_edge5 9998 _ _ _ _ _ wx
      have ht0 : (0 : Int) ≤ (t : Int) := Int.natCast_nonneg _
      have ht1 : (t : Int) < (n : Int) := by omega
      clear hx hda hdb
      go_wp2_with fail
      go_quiet (fail)
      go_wp2_with fail
      exact ⟨⟨t + 1, by omega, by simp, g1.trans (below_drewN _ _ _)⟩, by simp [intOf]; omega⟩
    · obtain rfl : t = n := by omega
      go_wp2_with fail
      go_ret
      exact ⟨rfl, g1⟩

set_option maxRecDepth 100000 in
set_option maxHeartbeats 2000000 in
theorem sameWays_any (a b : Option Addr) (ca cb : Nat) (l : List WyR) (w : World) (ha : IsWys w (.slice a l.length ca) l) (hb : IsWys w (.slice b l.length cb) l) (hl : l.length ≤ 1000000) :
    Calls Try.prog 37 #[.slice a l.length ca, .slice b l.length cb] w fun e w' => e = .returned (.bool true) ∧ Below w.heap.size w w' := by
  obtain ⟨a', ca', ea, _, _, hca⟩ := ha.shape
  obtain ⟨b', cb', eb, _, _, hcb⟩ := hb.shape
  obtain ⟨rfl, _, rfl⟩ := slice_inj ea
  obtain ⟨rfl, _, rfl⟩ := slice_inj eb
  have HA := Lib.hid hca
  have HB := Lib.hid hcb
  clear ha hb ea eb hca hcb
  generalize hn : l.length = n at *
  have HN := Lib.hid hn
  clear hn
  go_enter Try.func37, Try.ntmps37
  go_wp2_with fail
  go_loopw [5] (fun i wr => ∃ t : Nat, t ≤ n ∧ i = .int .i64 t ∧ Below w.heap.size w wr) (fun i _ => n - (intOf i).toNat)
  case atStart => exact ⟨0, Nat.zero_le _, rfl, Below.refl _ _⟩
  case round =>
    obtain ⟨t, ht, rfl, g1⟩ := hrel
    by_cases hlt : t < n
    · obtain ⟨x, hx⟩ : ∃ x, l[t]? = some x := ⟨_, List.getElem?_eq_getElem (by rw [HN.out]; exact hlt)⟩
      obtain ⟨ga, rfl, hga, hda⟩ := HA.out t x hx
      obtain ⟨gb, rfl, hgb, hdb⟩ := HB.out t x hx
      obtain ⟨c0, c1, c2⟩ := hda.below g1 hga
      obtain ⟨d0, d1, d2⟩ := hdb.below g1 hgb
      have s1 : ∀ wx, (Op.equalIn 10000 81 (.agg #[.int .i64 x.face, .int .i64 x.edge, .int .i64 x.kind]) (.agg #[.int .i64 x.face, .int .i64 x.edge, .int .i64 x.kind])).run Try.prog wx = .ok true wx := fun wx => run_equalIn_way3 9998 _ _ _ wx
      have ht0 : (0 : Int) ≤ (t : Int) := Int.natCast_nonneg _
      have ht1 : (t : Int) < (n : Int) := by omega
      clear hx hda hdb
      go_wp2_with fail
      go_quiet (fail)
      go_wp2_with fail
      exact ⟨⟨t + 1, by omega, by simp, g1.trans (below_drewN _ _ _)⟩, by simp [intOf]; omega⟩
    · obtain rfl : t = n := by omega
      go_wp2_with fail
      go_ret
      exact ⟨rfl, g1⟩
end

/-! ### For the contract of scaled: rows that were made by appends of whole elements. -/
section
open Go.RowKit

theorem Try.info_at : (Try.prog.info? 27).map (fun i => (i.zero, i.size, i.bytes)) = some (some (.agg #[.int .i64 0, .int .i64 0]), 2, 16) := by kernel_rfl
theorem Try.info_face : (Try.prog.info? 37).map (fun i => (i.zero, i.size, i.bytes)) = some (some (.agg #[.string ⟨#[]⟩, .int .i64 0, .int .i64 0, .int .i64 0, .int .i64 0, .int .i64 0, .slice none 0 0]), 7, 80) := by kernel_rfl
theorem Try.info_open : (Try.prog.info? 43).map (fun i => (i.zero, i.size, i.bytes)) = some (some (.agg #[.string ⟨#[]⟩, .int .i64 0, .int .i64 0, .int .i64 0, .int .i64 0, .int .i64 0]), 6, 56) := by kernel_rfl

def cellsF (f : Fac) : List Value := [.string f.name, .int .i64 f.side, .int .i64 f.foot, .int .i64 f.base, .int .i64 f.rise, .int .i64 f.run, .slice f.ca f.cs.length f.cc]
def cellsO (o : Opn) : List Value := [.string o.name, .int .i64 o.face, .int .i64 o.lo.x, .int .i64 o.lo.y, .int .i64 o.hi.x, .int .i64 o.hi.y]
/-- The corners of a face that was made lie in a block of their own. -/
def FacOwn (B : Nat) (row : Option Nat) (w : World) (g : Fac) : Prop :=
  (∃ b, g.ca = some ⟨b, 0, none⟩ ∧ B ≤ b ∧ some b ≠ row ∧ b < w.heap.size ∧ IsPts w (.slice g.ca g.cs.length g.cc) g.cs) ∧ g.name.size ≤ maxLen
theorem FacOwn.below {B : Nat} {row : Option Nat} {w w' : World} {g : Fac} (h : FacOwn B row w g) (hb : Below w.heap.size w w') : FacOwn B row w' g := by
  obtain ⟨⟨b, h1, h2, h3, h6, h4⟩, h5⟩ := h
  exact ⟨⟨b, h1, h2, h3, Nat.lt_of_lt_of_le h6 hb.size, h4.below hb⟩, h5⟩
theorem IsPts.block {w w' : World} {a : Option Addr} {c b : Nat} {l : List Pnt} (h : IsPts w (.slice a l.length c) l) (ha : a = some ⟨b, 0, none⟩) (hl : w.heap.size ≤ w'.heap.size) (hb : b < w.heap.size → w'.heap[b]? = w.heap[b]?) : IsPts w' (.slice a l.length c) l := by
  rcases h with h | ⟨b', off, cap, e, h1, h2, h3, h4⟩
  · exact .inl h
  · obtain ⟨ea, _, rfl⟩ := slice_inj e
    rw [ha] at ea
    simp only [Option.some.injEq, Addr.mk.injEq] at ea
    obtain ⟨rfl, rfl, _⟩ := ea
    refine .inr ⟨b, 0, c, e, Nat.lt_of_lt_of_le h1 hl, h2, h3, fun j p hj => ⟨?_, ?_⟩⟩
    · exact (World.cell?_of_block (w := w) (a := ⟨b, _, none⟩) (hb h1)).trans (h4 j p hj).1
    · exact (World.cell?_of_block (w := w) (a := ⟨b, _, none⟩) (hb h1)).trans (h4 j p hj).2
theorem FacOwn.step {B g2 : Nat} {row : Option Nat} {w w1 : World} {g : Fac} (h : FacOwn B row w g) (hg : w.grownBy w1 row) (hat : row = some g2 ∨ g2 = w.heap.size) {p : Addr} (hp : p.block < B) (x : Value) : FacOwn B (some g2) (w1.setCell p x) g := by
  obtain ⟨⟨b, h1, h2, h3, h6, h4⟩, h5⟩ := h
  refine ⟨⟨b, h1, h2, fun e => ?_, ?_, ?_⟩, h5⟩
  · obtain rfl : b = g2 := by simpa using e
    rcases hat with hat | hat
    · exact h3 hat.symm
    · omega
  · simp; exact Nat.lt_of_lt_of_le h6 hg.size
  · exact h4.block h1 (by simp; exact hg.size) fun _ => (Below.heap_setCell _ _ _ _ (by omega)).trans (hg.block b h6 h3)
theorem FacOwn.isIn {B : Nat} {row : Option Nat} {w : World} {g : Fac} (h : FacOwn B row w g) : FacIn w g := by
  obtain ⟨⟨b, h1, h2, h3, h6, h4⟩, h5⟩ := h
  exact ⟨h4, h5⟩
theorem ownsRow_keep {w w' : World} {base : Nat} {e : TypeId} {size : Nat} {v : Value} {n : Nat} {xs : List Value} (h : w.ownsRow base e size v n xs) (hk : ∀ q, q < w.heap.size → base ≤ q → w'.heap[q]? = w.heap[q]?) : w'.ownsRow base e size v n xs :=
  ⟨h.1, h.2.imp id (fun ⟨g, cap, cur, hv, hb1, hg, r⟩ => ⟨g, cap, cur, hv, hb1, (hk g (Array.getElem?_eq_some_iff.1 hg).1 hb1).trans hg, r⟩)⟩
theorem own_len {w : World} {base : Nat} {e : TypeId} {size : Nat} {a : Option Addr} {m c : Nat} {n : Nat} {xs : List Value} (h : w.ownsRow base e size (.slice a m c) n xs) : m = n := by
  rcases h.2 with ⟨e, h0⟩ | ⟨g, cap, cur, e, _⟩
  · rw [h0]; exact (slice_inj e).2.1
  · exact (slice_inj e).2.1
theorem FacOwn.keep {B : Nat} {row : Option Nat} {w w' : World} {g : Fac} (h : FacOwn B row w g) (hs : w.heap.size ≤ w'.heap.size) (hk : ∀ q, q < w.heap.size → B ≤ q → w'.heap[q]? = w.heap[q]?) : FacIn w' g := by
  obtain ⟨⟨b, h1, h2, h3, h6, h4⟩, h5⟩ := h
  exact ⟨h4.block h1 hs fun hb => hk b hb h2, h5⟩
theorem snoc_pw {α β : Type} {P : α → β → Prop} {l : List α} {m : List β} {j : Nat} {x : α} {y : β} (hm : m.length = j) (h : ∀ (n : Nat) (a : α) (b : β), l[n]? = some a → m[n]? = some b → P a b) (hx : l[j]? = some x) (hy : P x y) : ∀ (n : Nat) (a : α) (b : β), l[n]? = some a → (m ++ [y])[n]? = some b → P a b := by
  intro n a b ha hb
  rcases Nat.lt_trichotomy n j with hn | rfl | hn
  · rw [List.getElem?_append_left (by omega)] at hb
    exact h n a b ha hb
  · rw [List.getElem?_append_right (by omega), hm] at hb
    simp at hb
    obtain rfl : x = a := by rw [hx] at ha; simpa using ha
    exact hb ▸ hy
  · rw [List.getElem?_eq_none (by simp; omega)] at hb
    cases hb
theorem take_snocS {α : Type} {l : List α} {t : Nat} {x : α} (h : l[t]? = some x) : l.take (t + 1) = l.take t ++ [x] := by rw [List.take_add_one, h]; rfl
/-- What scaled returns. -/
def ScaledSaid (R : Roo) (k : Int) (w : World) (e : Ending) (w' : World) : Prop :=
  Below w.heap.size w w' ∧ ∃ (v u : Value) (b : Bool), e = .returned (.tuple #[.agg #[v, u], .bool b]) ∧ (∃ va vn vc, v = .slice va vn vc) ∧ (∃ ua un uc, u = .slice ua un uc) ∧
    (b = true → ∃ R' : Roo, v = .slice R'.fa R'.fs.length R'.fc ∧ u = .slice R'.oa R'.os.length R'.oc ∧ IsRoof w' R' ∧ ScFs k R.fs R'.fs ∧ ScOs k R.os R'.os ∧ ∀ f ∈ R.fs, Fits k f)
def cellsPt (p : Pnt) : List Value := [.int .i64 p.x, .int .i64 p.y]
theorem flat_at {α : Type} (f : α → List Value) (n : Nat) (hf : ∀ x, (f x).length = n) (l : List α) : ∀ (j i : Nat) (x : α), l[j]? = some x → i < n → (l.flatMap f)[j * n + i]? = (f x)[i]? := by
  induction l with
  | nil => intro j i x h _; simp at h
  | cons y l ih =>
    intro j i x h hi
    cases j with
    | zero =>
      obtain rfl : y = x := by simpa using h
      rw [List.flatMap_cons, List.getElem?_append_left (by rw [hf]; omega)]
      simp
    | succ j =>
      rw [List.flatMap_cons, List.getElem?_append_right (by rw [hf, Nat.succ_mul]; omega), hf, show (j + 1) * n + i - n = j * n + i by rw [Nat.succ_mul]; omega]
      exact ih j i x (by simpa using h) hi
/-- The cells of a row that was made by appends of whole elements. -/
theorem row_at {α : Type} (f : α → List Value) (n : Nat) (hf : ∀ x, (f x).length = n) {w : World} {base : Nat} {t : TypeId} {v : Value} {l : List α} (h : w.ownsRow base t n v l.length (l.flatMap f)) :
    (v = .slice none 0 0 ∧ l = []) ∨ ∃ g cap, v = .slice (some ⟨g, 0, none⟩) l.length cap ∧ base ≤ g ∧ g < w.heap.size ∧ l.length ≤ cap ∧ cap ≤ 9223372036854775807 ∧ ∀ j x, l[j]? = some x → ∀ i, i < n → w.cell? ⟨g, j * n + i, none⟩ = (f x)[i]? := by
  rcases h.2 with ⟨rfl, h0⟩ | ⟨g, cap, cur, hv, hb, hg, h1, h2, h3, h4⟩
  · exact .inl ⟨rfl, List.eq_nil_of_length_eq_zero h0⟩
  · refine .inr ⟨g, cap, hv, hb, (Array.getElem?_eq_some_iff.1 hg).1, h1, by unfold maxLen at h2; omega, fun j x hj i hi => ?_⟩
    have hjl : j < l.length := (List.getElem?_eq_some_iff.1 hj).1
    have hjn : j * n + i < l.length * n := by
      have := Nat.mul_le_mul_right n (Nat.succ_le_of_lt hjl)
      rw [Nat.succ_mul] at this
      omega
    have e1 : w.cell? ⟨g, j * n + i, none⟩ = cur[j * n + i]? := by simp [World.cell?, hg]
    have e2 : cur[j * n + i]? = (cur.toList.take (l.length * n))[j * n + i]? := by
      rw [List.getElem?_take_of_lt hjn]
      simp
    rw [e1, e2, h4, flat_at f n hf l j i x hj hi]
theorem isPts_of {w : World} {base : Nat} {t : TypeId} {v : Value} {l : List Pnt} (h : w.ownsRow base t 2 v l.length (l.flatMap cellsPt)) : IsPts w v l := by
  rcases row_at cellsPt 2 (fun _ => rfl) h with ⟨rfl, rfl⟩ | ⟨g, cap, hv, _, hg, h1, h2, key⟩
  · exact .inl ⟨⟨_, _, rfl⟩, rfl⟩
  · refine .inr ⟨g, 0, cap, hv, hg, h1, h2, fun j p hj => ⟨?_, ?_⟩⟩
    · rw [Nat.zero_add]; exact key j p hj 0 (by omega)
    · rw [Nat.zero_add]; exact key j p hj 1 (by omega)
theorem isFacs_of {w : World} {base : Nat} {t : TypeId} {v : Value} {l : List Fac} (h : w.ownsRow base t 7 v l.length (l.flatMap cellsF)) (hin : ∀ f ∈ l, FacIn w f) : IsFacs w v l := by
  rcases row_at cellsF 7 (fun _ => rfl) h with ⟨rfl, rfl⟩ | ⟨g, cap, hv, _, hg, h1, h2, key⟩
  · exact .inl ⟨rfl, rfl⟩
  · refine .inr ⟨g, 0, cap, hv, hg, h1, h2, fun j p hj => ⟨?_, hin p (List.mem_of_getElem? hj)⟩⟩
    rw [Nat.zero_add]
    exact ⟨key j p hj 0 (by omega), key j p hj 1 (by omega), key j p hj 2 (by omega), key j p hj 3 (by omega), key j p hj 4 (by omega), key j p hj 5 (by omega), key j p hj 6 (by omega)⟩
theorem isOpns_of {w : World} {base : Nat} {t : TypeId} {v : Value} {l : List Opn} (h : w.ownsRow base t 6 v l.length (l.flatMap cellsO)) (hin : ∀ f ∈ l, f.name.size ≤ maxLen) : IsOpns w v l := by
  rcases row_at cellsO 6 (fun _ => rfl) h with ⟨rfl, rfl⟩ | ⟨g, cap, hv, _, hg, h1, h2, key⟩
  · exact .inl ⟨rfl, rfl⟩
  · refine .inr ⟨g, 0, cap, hv, hg, h1, h2, fun j p hj => ⟨?_, hin p (List.mem_of_getElem? hj)⟩⟩
    rw [Nat.zero_add]
    exact ⟨key j p hj 0 (by omega), key j p hj 1 (by omega), key j p hj 2 (by omega), key j p hj 3 (by omega), key j p hj 4 (by omega), key j p hj 5 (by omega)⟩
end

/-! ### The law's scaled: a roof with all coordinates and heights so many times as great, in new memory. -/
section
open Go.RowKit

set_option maxRecDepth 100000 in
set_option maxHeartbeats 16000000 in
theorem scaled_any (R : Roo) (k : Int) (hk2 : 2 ≤ k) (hk5 : k ≤ 5) (hE : checkE R = 0) (w : World) (hR : IsRoof w R) :
    Calls Try.prog 34 #[.agg #[.slice R.fa R.fs.length R.fc, .slice R.oa R.os.length R.oc], .int .i64 k] w (ScaledSaid R k w) := by
  obtain ⟨i0, hi, hz0, hz1, hz2⟩ := info_parts Try.info_at
  obtain ⟨i7, hi7, hy0, hy1, hy2⟩ := info_parts Try.info_face
  obtain ⟨i6, hi6, hx0, hx1, hx2⟩ := info_parts Try.info_open
  have hokF := checkE_ok hE
  have hfl := (checkE_faces hE).1
  have hokp := (checkE_faces hE).2
  obtain ⟨hol, hofn⟩ := opens_fine hE
  have hlen := fun i F => @face_len3 R hE i F
  obtain ⟨fa, fc, fs, oa, oc, os⟩ := R
  simp only [] at hokF hfl hokp hol hofn hlen ⊢
  have HR := Lib.hid hR
  have HOF := Lib.hid hokF
  have HOP := Lib.hid hokp
  have HON := Lib.hid hofn
  have HLEN := Lib.hid hlen
  clear hR hE hokF hokp hofn hlen
  have hB0 : Below w.heap.size w (((w.alloc (.cells #[.slice fa fs.length fc, .slice oa os.length oc] 25)).alloc (.cells #[.slice none 0 0, .slice none 0 0] 25)).alloc (.cells #[.slice none 0 0, .slice none 0 0] 25)) := (((Below.refl _ _).alloc (Nat.le_refl _) _).alloc (by simp) _).alloc (by simp; omega) _
  have kR := ((Blk.new w 25 #[.slice fa fs.length fc, .slice oa os.length oc]).alloc (.cells #[.slice none 0 0, .slice none 0 0] 25)).alloc (.cells #[.slice none 0 0, .slice none 0 0] 25)
  have kA := (Blk.new (w.alloc (.cells #[.slice fa fs.length fc, .slice oa os.length oc] 25)) 25 #[.slice none 0 0, .slice none 0 0]).alloc (.cells #[.slice none 0 0, .slice none 0 0] 25)
  have kO := Blk.new ((w.alloc (.cells #[.slice fa fs.length fc, .slice oa os.length oc] 25)).alloc (.cells #[.slice none 0 0, .slice none 0 0] 25)) 25 #[.slice none 0 0, .slice none 0 0]
  have hsz : (((w.alloc (.cells #[.slice fa fs.length fc, .slice oa os.length oc] 25)).alloc (.cells #[.slice none 0 0, .slice none 0 0] 25)).alloc (.cells #[.slice none 0 0, .slice none 0 0] 25)).heap.size = w.heap.size + 3 := by simp
  simp only [World.size_alloc] at kA kO
  go_enter Try.func34, Try.ntmps34
  go_wp2_with fail
  generalize ((w.alloc (.cells #[.slice fa fs.length fc, .slice oa os.length oc] 25)).alloc (.cells #[.slice none 0 0, .slice none 0 0] 25)).alloc (.cells #[.slice none 0 0, .slice none 0 0] 25) = W3 at *
  obtain ⟨M, hM, hMk⟩ : ∃ M : Int, (10000 : Int) / k = M ∧ k * M ≤ 10000 := ⟨_, rfl, Int.mul_ediv_self_le (by omega)⟩
  have HM := Lib.hid hM
  rw [hM]
  clear hM
  have fits : ∀ x : Int, x ≤ M → k * x ≤ 10000 := fun x hx => Int.le_trans (Int.mul_le_mul_of_nonneg_left hx (by omega)) hMk
  have HFT := Lib.hid fits
  clear fits hMk
  have HSZ := Lib.hid hsz
  clear hsz
  go_loopw [8, 9, 10, 11] (fun i' _ _ _ wr => ∃ (j : Nat) (gs : List Fac) (v : Value), j ≤ fs.length ∧ i' = .int .i64 j ∧ gs.length = j ∧ Blk wr (w.heap.size + 1 + 1) #[v, .slice none 0 0] 25 ∧ wr.ownsRow W3.heap.size 37 7 v gs.length (gs.flatMap cellsF) ∧
    (∀ (n : Nat) (f g : Fac), fs[n]? = some f → gs[n]? = some g → ScF k f g) ∧ (∀ f ∈ fs.take j, Fits k f) ∧ (∀ g ∈ gs, FacOwn W3.heap.size v.ownBlock wr g) ∧ Blk wr w.heap.size #[.slice fa fs.length fc, .slice oa os.length oc] 25 ∧ Blk wr (w.heap.size + 1) #[.slice none 0 0, .slice none 0 0] 25 ∧ Below w.heap.size w wr) (fun i' _ _ _ _ => fs.length - (intOf i').toNat)
  case atStart => exact ⟨0, [], .slice none 0 0, Nat.zero_le _, rfl, rfl, kO, World.ownsRow_nil _ _ _ _, fun n f g _ hg => by simp at hg, fun f hf => by simp at hf, fun g hg => by simp at hg, kR, kA, hB0⟩
  case round =>
    obtain ⟨j, gs, v, hj, rfl, hgl, kO1, hown, hsc, hft, hfo, kR1, kA1, hB1⟩ := hrel
    have HOW := Lib.hid hown
    have HSC := Lib.hid hsc
    have HFI := Lib.hid hft
    have HFO := Lib.hid hfo
    obtain ⟨va, vn, vc, rfl⟩ : ∃ va vn vc, v = .slice va vn vc := by
      rcases hown.2 with ⟨rfl, _⟩ | ⟨g, cap, cur, rfl, _⟩
      · exact ⟨_, _, _, rfl⟩
      · exact ⟨_, _, _, rfl⟩
    clear hown hsc hft hfo kO kR kA hB0
    have lR1 := kR1.lt
    have lA1 := kA1.lt
    have lO1 := kO1.lt
    have r0 := kR1.cell 0
    have r1 := kR1.cell 1
    have o0 := kO1.cell 0
    have o1 := kO1.cell 1
    have a0 := kA1.cell 0
    have a1 := kA1.cell 1
    have a2 := kA1.frozen 0
    have a3 := kA1.frozen 1
    simp only [List.getElem?_toArray, List.getElem?_cons_zero, List.getElem?_cons_succ] at r0 r1 o0 o1 a0 a1
    by_cases hlt : j < fs.length
    · obtain ⟨F, hF⟩ : ∃ F, fs[j]? = some F := ⟨_, List.getElem?_eq_getElem hlt⟩
      obtain ⟨fb, fo, rfl, f2, f3, f4, hfac, hfin⟩ := (HR.out.below hB1).face hF
      simp only [] at f3 f4
      have hFok := HOF.out F (List.mem_of_getElem? hF)
      have hpok := (HOP.out F (List.mem_of_getElem? hF)).1
      obtain ⟨hl3, hl12⟩ := HLEN.out j F hF
      have htk := take_snocS hF
      have HTK := Lib.hid htk
      have HF := Lib.hid hF
      obtain ⟨nm, sd, ft, ba, ri, ru, ca, cc, cs⟩ := F
      obtain ⟨d0, d1, d2, d3, d4, d5, d6⟩ := hfac
      obtain ⟨hip, hnm⟩ := hfin
      obtain ⟨_, _, q0, q1, q2, q3, _, _, _, _⟩ := hFok
      simp only [] at d0 d1 d2 d3 d4 d5 d6 hip hnm hpok hl3 hl12 q0 q1 q2 q3
      rcases hip with ⟨_, hn⟩ | ⟨cb, co, c0, e1, hcb, hcc, hcc', hpt⟩
      · rw [hn] at hl3; simp at hl3
      obtain ⟨rfl, _, rfl⟩ := slice_inj e1
      have HPT := Lib.hid hpt
      have HPO := Lib.hid hpok
      clear e1 hF htk hpt hpok
      have hj0 : (0 : Int) ≤ (j : Int) := Int.natCast_nonneg _
      have hj1 : (j : Int) < (fs.length : Int) := by omega
      have b1 := mul_bd (a := k) (b := ft) (m := 5) (n := 10000) (by omega) (by omega) (by omega) (by omega)
      have b2 := mul_bd (a := k) (b := ba) (m := 5) (n := 10000) (by omega) (by omega) (by omega) (by omega)
      by_cases hc1 : M < ft
      · have k2 := ((kA1.set 0 (.slice va vn vc)).set 1 (.slice none 0 0)).alloc (.cells #[.string nm, .int .i64 sd, .int .i64 ft, .int .i64 ba, .int .i64 ri, .int .i64 ru, .slice (some ⟨cb, co, none⟩) cs.length cc] 37)
        have z0 := k2.cell 0
        have z1 := k2.cell 1
        simp only [List.setIfInBounds_toArray, List.set_cons_zero, List.set_cons_succ, List.getElem?_toArray, List.getElem?_cons_zero, List.getElem?_cons_succ] at z0 z1
        clear k2
        go_wp2_with fail
        exact bodyPost_ret (v := .tuple #[.agg #[.slice va vn vc, .slice none 0 0], .bool false]) (by simp [results, Try.results34, go_sem, z0, z1]) rfl ⟨((hB1.setCell (p := ⟨w.heap.size + 1, 0, none⟩) (by simp) _).setCell (p := ⟨w.heap.size + 1, 1, none⟩) (by simp) _).alloc (by simpa using hB1.size) (.cells #[.string nm, .int .i64 sd, .int .i64 ft, .int .i64 ba, .int .i64 ri, .int .i64 ru, .slice (some ⟨cb, co, none⟩) cs.length cc] 37), _, _, _, rfl, ⟨_, _, _, rfl⟩, ⟨_, _, _, rfl⟩, fun h => by cases h⟩
      · by_cases hc2 : M < ba
        · have k2 := ((kA1.set 0 (.slice va vn vc)).set 1 (.slice none 0 0)).alloc (.cells #[.string nm, .int .i64 sd, .int .i64 ft, .int .i64 ba, .int .i64 ri, .int .i64 ru, .slice (some ⟨cb, co, none⟩) cs.length cc] 37)
          have z0 := k2.cell 0
          have z1 := k2.cell 1
          simp only [List.setIfInBounds_toArray, List.set_cons_zero, List.set_cons_succ, List.getElem?_toArray, List.getElem?_cons_zero, List.getElem?_cons_succ] at z0 z1
          clear k2
          go_wp2_with fail
          exact bodyPost_ret (v := .tuple #[.agg #[.slice va vn vc, .slice none 0 0], .bool false]) (by simp [results, Try.results34, go_sem, z0, z1]) rfl ⟨((hB1.setCell (p := ⟨w.heap.size + 1, 0, none⟩) (by simp) _).setCell (p := ⟨w.heap.size + 1, 1, none⟩) (by simp) _).alloc (by simpa using hB1.size) (.cells #[.string nm, .int .i64 sd, .int .i64 ft, .int .i64 ba, .int .i64 ri, .int .i64 ru, .slice (some ⟨cb, co, none⟩) cs.length cc] 37), _, _, _, rfl, ⟨_, _, _, rfl⟩, ⟨_, _, _, rfl⟩, fun h => by cases h⟩
        · obtain ⟨wo, rfl⟩ : ∃ wo, wo = wr := ⟨_, rfl⟩
          have b1' := HFT.out ft (by omega)
          have b2' := HFT.out ba (by omega)
          have kF := Blk.new wo 37 #[.string nm, .int .i64 sd, .int .i64 (k * ft), .int .i64 (k * ba), .int .i64 ri, .int .i64 ru, .slice none 0 0]
          have hB4 : Below wo.heap.size wo (wo.alloc (.cells #[.string nm, .int .i64 sd, .int .i64 (k * ft), .int .i64 (k * ba), .int .i64 ri, .int .i64 ru, .slice none 0 0] 37)) := (Below.refl _ wo).alloc (Nat.le_refl _) _
          go_wp2_with fail
          go_loopw [10, 11] (fun m' _ wr => ∃ (t : Nat) (u : Value), t ≤ cs.length ∧ m' = .int .i64 t ∧ Blk wr wo.heap.size #[.string nm, .int .i64 sd, .int .i64 (k * ft), .int .i64 (k * ba), .int .i64 ri, .int .i64 ru, u] 37 ∧
            wr.ownsRow (wo.heap.size + 1) 27 2 u t (((cs.take t).map (scP k)).flatMap cellsPt) ∧ (∀ p ∈ cs.take t, k * p.x ≤ 10000 ∧ k * p.y ≤ 10000) ∧ Below wo.heap.size wo wr) (fun m' _ _ => cs.length - (intOf m').toNat)
          case atStart => exact ⟨0, .slice none 0 0, Nat.zero_le _, rfl, kF, World.ownsRow_nil _ _ _ _, fun p hp => by simp at hp, hB4⟩
          case round =>
            obtain ⟨t, u, ht, rfl, kFq, hrow, hpf, hBq⟩ := hrel
            have HRW := Lib.hid hrow
            have HPF := Lib.hid hpf
            clear hrow hpf kF hB4
            have d6q := (hBq.cell (p := ⟨fb, fo + j * 7 + 6, none⟩) f2).trans d6
            have kRq := kR1.below hBq lR1
            have kOq := kO1.below hBq lO1
            have kAq := kA1.below hBq lA1
            have lFq := kFq.lt
            have lRq := kRq.lt
            have lOq := kOq.lt
            have lAq := kAq.lt
            clear r0 r1 o0 o1 a0 a1 a2 a3
            have r0 := kRq.cell 0
            have o0 := kOq.cell 0
            have o1 := kOq.cell 1
            have a0 := kAq.cell 0
            have a1 := kAq.cell 1
            have a2 := kAq.frozen 0
            have a3 := kAq.frozen 1
            have x0 := kFq.cell 0
            have x1 := kFq.cell 1
            have x2 := kFq.cell 2
            have x3 := kFq.cell 3
            have x4 := kFq.cell 4
            have x5 := kFq.cell 5
            have x6 := kFq.cell 6
            simp only [List.getElem?_toArray, List.getElem?_cons_zero, List.getElem?_cons_succ] at r0 o0 o1 a0 a1 x0 x1 x2 x3 x4 x5 x6
            have hszq := hBq.size
            have ht0 : (0 : Int) ≤ (t : Int) := Int.natCast_nonneg _
            by_cases hlm : t < cs.length
            · obtain ⟨p, hp⟩ : ∃ p, cs[t]? = some p := ⟨_, List.getElem?_eq_getElem hlm⟩
              have htm : (t : Int) < (cs.length : Int) := by omega
              obtain ⟨y0, y1⟩ := HPT.out t p hp
              have y0q := (hBq.cell (p := ⟨cb, co + t * 2, none⟩) hcb).trans y0
              have y1q := (hBq.cell (p := ⟨cb, co + t * 2 + 1, none⟩) hcb).trans y1
              obtain ⟨⟨px0, px1⟩, py0, py1⟩ := HPO.out p (List.mem_of_getElem? hp)
              have hts := take_snocS hp
              have HTS := Lib.hid hts
              clear hts y0 y1 hp
              obtain ⟨px, py⟩ := p
              simp only [] at y0q y1q px0 px1 py0 py1
              have c1 := mul_bd (a := k) (b := px) (m := 5) (n := 10000) (by omega) (by omega) (by omega) (by omega)
              have c2 := mul_bd (a := k) (b := py) (m := 5) (n := 10000) (by omega) (by omega) (by omega) (by omega)
              by_cases hx1 : M < px
              · have k2 := ((kAq.set 0 (.slice va vn vc)).set 1 (.slice none 0 0)).alloc (.cells #[.int .i64 px, .int .i64 py] 27)
                have z0 := k2.cell 0
                have z1 := k2.cell 1
                simp only [List.setIfInBounds_toArray, List.set_cons_zero, List.set_cons_succ, List.getElem?_toArray, List.getElem?_cons_zero, List.getElem?_cons_succ] at z0 z1
                clear k2
                go_wp2_with fail
                exact bodyPost_ret (v := .tuple #[.agg #[.slice va vn vc, .slice none 0 0], .bool false]) (by simp [results, Try.results34, go_sem, z0, z1]) rfl ⟨(((hB1.trans (hBq.mono hB1.size)).setCell (p := ⟨w.heap.size + 1, 0, none⟩) (by simp) _).setCell (p := ⟨w.heap.size + 1, 1, none⟩) (by simp) _).alloc (by simpa using (hB1.trans (hBq.mono hB1.size)).size) (.cells #[.int .i64 px, .int .i64 py] 27), _, _, _, rfl, ⟨_, _, _, rfl⟩, ⟨_, _, _, rfl⟩, fun h => by cases h⟩
              · by_cases hy1 : M < py
                · have k2 := ((kAq.set 0 (.slice va vn vc)).set 1 (.slice none 0 0)).alloc (.cells #[.int .i64 px, .int .i64 py] 27)
                  have z0 := k2.cell 0
                  have z1 := k2.cell 1
                  simp only [List.setIfInBounds_toArray, List.set_cons_zero, List.set_cons_succ, List.getElem?_toArray, List.getElem?_cons_zero, List.getElem?_cons_succ] at z0 z1
                  clear k2
                  go_wp2_with fail
                  exact bodyPost_ret (v := .tuple #[.agg #[.slice va vn vc, .slice none 0 0], .bool false]) (by simp [results, Try.results34, go_sem, z0, z1]) rfl ⟨(((hB1.trans (hBq.mono hB1.size)).setCell (p := ⟨w.heap.size + 1, 0, none⟩) (by simp) _).setCell (p := ⟨w.heap.size + 1, 1, none⟩) (by simp) _).alloc (by simpa using (hB1.trans (hBq.mono hB1.size)).size) (.cells #[.int .i64 px, .int .i64 py] 27), _, _, _, rfl, ⟨_, _, _, rfl⟩, ⟨_, _, _, rfl⟩, fun h => by cases h⟩
                · have hmx : t + 1 ≤ maxLen := by unfold maxLen; omega
                  have hne : some wo.heap.size ≠ u.ownBlock := fun e => by have := HRW.out.lt _ e.symm; omega
                  have kB := Blk.new (wr.alloc (.cells #[.int .i64 px, .int .i64 py] 27)) 27 #[.int .i64 (k * px), .int .i64 (k * py)]
                  simp only [World.size_alloc] at kB
                  go_wp2_with (at_builtin; refine wpList_append_lies _ rfl _ _ 35 rfl (wo.heap.size + 1) 27 i0 (.agg #[.int .i64 0, .int .i64 0]) 2 16 Try.underlying35 hi hz0 hz1 hz2 rfl (by decide) _ _ _ rfl ((HRW.out.alloc _).alloc _) ⟨wr.heap.size + 1, 0, none⟩ 1 1 [.int .i64 (k * px), .int .i64 (k * py)] rfl rfl (World.news_of_block kB) (by simp [Value.oneCell']) (by decide) hmx (by omega) (by simp; omega) _ rfl ?_; intro g cap w6 hown6 hgrow hat hlt6; have HOWN6 := Lib.hid hown6; have hgrow2 : ((wr.alloc (.cells #[.int .i64 px, .int .i64 py] 27)).alloc (.cells #[.int .i64 (k * px), .int .i64 (k * py)] 27)).grownBy w6 u.ownBlock := hgrow; have HGR := Lib.hid hgrow2; have kF6 := ((kFq.alloc _).alloc _).kept hgrow hne; have z6 := kF6.cell 6; have z7 := kF6.frozen 6; simp only [List.getElem?_toArray, List.getElem?_cons_zero, List.getElem?_cons_succ] at z6; clear hown6 hgrow hgrow2 hat)
                  refine ⟨⟨t + 1, .slice (some ⟨g, 0, none⟩) (t + 1) cap, by omega, by simp, kF6.set 6 _, ?_, ?_, ?_⟩, by simp [intOf]; omega⟩
                  · rw [HTS.out]
                    have := ownsRow_setCell_below HOWN6.out (a := ⟨wo.heap.size, 6, none⟩) (by simp) (.slice (some ⟨g, 0, none⟩) (t + 1) cap)
                    simpa [cellsPt, scP] using this
                  · rw [HTS.out]
                    intro p hp
                    rcases List.mem_append.1 hp with hp | hp
                    · exact HPF.out p hp
                    · obtain rfl := List.mem_singleton.1 hp
                      exact ⟨HFT.out px (by omega), HFT.out py (by omega)⟩
                  · exact (((hBq.alloc hBq.size _).alloc (by simp; omega) _).grown HGR.out (by simp; omega) (fun q e => by have := HRW.out.lt q e; omega)).setCell (p := ⟨wo.heap.size, 6, none⟩) (by simp) _
            · obtain rfl : t = cs.length := by omega
              have hrow2 : wr.ownsRow (wo.heap.size + 1) 27 2 u (cs.map (scP k)).length ((cs.map (scP k)).flatMap cellsPt) := by simpa using HRW.out
              have hpf2 := HPF.out
              rw [List.take_length] at hpf2
              have hip2 := isPts_of hrow2
              obtain ⟨g, cap, rfl, hg1, hg2⟩ := hrow2.form (by simp; omega)
              obtain ⟨G, hG⟩ : ∃ G : Fac, G = ⟨nm, sd, k * ft, k * ba, ri, ru, some ⟨g, 0, none⟩, cap, cs.map (scP k)⟩ := ⟨_, rfl⟩
              have hGc : cellsF G = [.string nm, .int .i64 sd, .int .i64 (k * ft), .int .i64 (k * ba), .int .i64 ri, .int .i64 ru, .slice (some ⟨g, 0, none⟩) cs.length cap] := by rw [hG]; simp [cellsF]
              have hown3 := ownsRow_below HOW.out hBq
              have hGo : FacOwn W3.heap.size (Value.slice va vn vc).ownBlock wr G := by
                rw [hG]
                refine ⟨⟨g, rfl, by have := HSZ.out; omega, fun e => ?_, hg2, hip2⟩, hnm⟩
                have := HOW.out.lt _ e.symm
                omega
              have hGs : ScF k ⟨nm, sd, ft, ba, ri, ru, some ⟨cb, co, none⟩, cc, cs⟩ G := by rw [hG]; exact ⟨rfl, rfl, rfl, rfl, rfl, rfl, rfl⟩
              have hGf : Fits k ⟨nm, sd, ft, ba, ri, ru, some ⟨cb, co, none⟩, cc, cs⟩ := ⟨b1', b2', hpf2⟩
              have HGC := Lib.hid hGc
              have HGO := Lib.hid hGo
              have HGS := Lib.hid hGs
              have HGF := Lib.hid hGf
              have HOW3 := Lib.hid hown3
              clear hGc hGo hGs hGf hown3 hpf2 hip2 hrow2 HRW HPF hG
              have hmx : gs.length + 1 ≤ maxLen := by unfold maxLen; omega
              have hne : some (w.heap.size + 1 + 1) ≠ (Value.slice va vn vc).ownBlock := fun e => by have := HOW.out.lt _ e.symm; have := HSZ.out; omega
              simp only [List.length_map] at *
              have kB := Blk.new wr 37 #[.string nm, .int .i64 sd, .int .i64 (k * ft), .int .i64 (k * ba), .int .i64 ri, .int .i64 ru, .slice (some ⟨g, 0, none⟩) cs.length cap]
              go_wp2_with (at_builtin; refine wpList_append_lies _ rfl _ _ 22 rfl W3.heap.size 37 i7 (.agg #[.string ⟨#[]⟩, .int .i64 0, .int .i64 0, .int .i64 0, .int .i64 0, .int .i64 0, .slice none 0 0]) 7 80 Try.underlying22 hi7 hy0 hy1 hy2 rfl (by decide) (.slice va vn vc) gs.length _ rfl (HOW3.out.alloc _) ⟨wr.heap.size, 0, none⟩ 1 1 [.string nm, .int .i64 sd, .int .i64 (k * ft), .int .i64 (k * ba), .int .i64 ri, .int .i64 ru, .slice (some ⟨g, 0, none⟩) cs.length cap] rfl rfl (World.news_of_block kB) (by simp [Value.oneCell']) (by decide) hmx (by omega) (by have := HSZ.out; simp; omega) _ rfl ?_; intro g2 cap2 w6 hown6 hgrow hat hlt6; have HOWN6 := Lib.hid hown6; have HAT := Lib.hid hat; have HGR := Lib.hid hgrow; have kO6 := (kOq.alloc _).kept hgrow hne; have z6 := kO6.cell 0; have z7 := kO6.frozen 0; simp only [List.getElem?_toArray, List.getElem?_cons_zero, List.getElem?_cons_succ] at z6; clear hown6 hgrow hat)
              have h6 := ownsRow_setCell_below HOWN6.out (a := ⟨w.heap.size + 1 + 1, 0, none⟩) (by have := HSZ.out; simp; omega) (.slice (some ⟨g2, 0, none⟩) (j + 1) cap2)
              rw [hgl] at h6
              refine ⟨⟨j + 1, gs ++ [G], .slice (some ⟨g2, 0, none⟩) (j + 1) cap2, by omega, by simp, by simp [hgl], kO6.set 0 _, ?_, snoc_pw hgl HSC.out HF.out HGS.out, ?_, ?_, ?_, ?_, ?_⟩, by simp [intOf]; omega⟩
              · rw [List.flatMap_append, show [G].flatMap cellsF = cellsF G by simp, HGC.out, show (gs ++ [G]).length = j + 1 by simp [hgl]]
                exact h6
              · rw [HTK.out]
                intro f hf
                rcases List.mem_append.1 hf with hf | hf
                · exact HFI.out f hf
                · obtain rfl := List.mem_singleton.1 hf
                  exact HGF.out
              · intro G2 hG2
                rcases List.mem_append.1 hG2 with h | h
                · exact (((HFO.out G2 h).below hBq).below ((Below.refl _ wr).alloc (Nat.le_refl _) _)).step HGR.out HAT.out (by have := HSZ.out; simp; omega) _
                · rw [List.mem_singleton.1 h]
                  exact (HGO.out.below ((Below.refl _ wr).alloc (Nat.le_refl _) _)).step HGR.out HAT.out (by have := HSZ.out; simp; omega) _
              · exact ((kRq.alloc _).kept HGR.out (fun e => by have := HOW.out.lt _ e.symm; have := HSZ.out; omega)).other (by omega) _
              · exact ((kAq.alloc _).kept HGR.out (fun e => by have := HOW.out.lt _ e.symm; have := HSZ.out; omega)).other (by omega) _
              · exact (((hB1.trans (hBq.mono hB1.size)).alloc (by have := hB1.size; omega) _).grown HGR.out (by have := hB1.size; simp; omega) (fun q e => by have := HOW.out.lt q e; have := HSZ.out; omega)).setCell (p := ⟨w.heap.size + 1 + 1, 0, none⟩) (by simp; omega) _
    · obtain rfl : j = fs.length := by omega
      obtain ⟨wo, rfl⟩ : ∃ wo, wo = wr := ⟨_, rfl⟩
      go_wp2_with fail
      go_loopw [12, 13] (fun i2 _ wq => ∃ (t : Nat) (ps : List Opn) (v2 : Value), t ≤ os.length ∧ i2 = .int .i64 t ∧ ps.length = t ∧ Blk wq (w.heap.size + 1 + 1) #[.slice va vn vc, v2] 25 ∧ wq.ownsRow wo.heap.size 43 6 v2 ps.length (ps.flatMap cellsO) ∧ (∀ (n : Nat) (o p : Opn), os[n]? = some o → ps[n]? = some p → ScO k o p) ∧ (∀ p ∈ ps, p.name.size ≤ maxLen) ∧
        (∀ q, q < wo.heap.size → W3.heap.size ≤ q → wq.heap[q]? = wo.heap[q]?) ∧ Blk wq w.heap.size #[.slice fa fs.length fc, .slice oa os.length oc] 25 ∧ Blk wq (w.heap.size + 1) #[.slice none 0 0, .slice none 0 0] 25 ∧ Below w.heap.size w wq ∧ wo.heap.size ≤ wq.heap.size) (fun i2 _ _ => os.length - (intOf i2).toNat)
      case atStart => exact ⟨0, [], .slice none 0 0, Nat.zero_le _, rfl, rfl, kO1, World.ownsRow_nil _ _ _ _, fun n f g _ hg => by simp at hg, fun g hg => by simp at hg, fun _ _ _ => rfl, kR1, kA1, hB1, Nat.le_refl _⟩
      case round =>
        obtain ⟨t, ps, v2, ht, rfl, hpl, kO2, hown2, hsc2, hnm2, hkp, kR2, kA2, hB2, hsz2⟩ := hrel
        have HOW2 := Lib.hid hown2
        have HSC2 := Lib.hid hsc2
        have HNM2 := Lib.hid hnm2
        have HKP := Lib.hid hkp
        obtain ⟨ua, un, uc, rfl⟩ : ∃ ua un uc, v2 = .slice ua un uc := by
          rcases hown2.2 with ⟨rfl, _⟩ | ⟨g, cap, cur, rfl, _⟩
          · exact ⟨_, _, _, rfl⟩
          · exact ⟨_, _, _, rfl⟩
        clear hown2 hsc2 hnm2 hkp r0 r1 o0 o1 a0 a1 a2 a3
        have lR2 := kR2.lt
        have lA2 := kA2.lt
        have lO2 := kO2.lt
        have r1 := kR2.cell 1
        have o0 := kO2.cell 0
        have o1 := kO2.cell 1
        have o3 := kO2.frozen 1
        have a0 := kA2.cell 0
        have a1 := kA2.cell 1
        have a2 := kA2.frozen 0
        have a3 := kA2.frozen 1
        simp only [List.getElem?_toArray, List.getElem?_cons_zero, List.getElem?_cons_succ] at r1 o0 o1 a0 a1
        have ht0 : (0 : Int) ≤ (t : Int) := Int.natCast_nonneg _
        by_cases hlm : t < os.length
        · obtain ⟨O, hO⟩ : ∃ O, os[t]? = some O := ⟨_, List.getElem?_eq_getElem hlm⟩
          have htm : (t : Int) < (os.length : Int) := by omega
          obtain ⟨ob, oo, rfl, f2, f3, f4, hop, hnmO⟩ := (HR.out.below hB2).opn hO
          simp only [] at f3 f4
          obtain ⟨_, _, _, _, ⟨⟨l0, l1⟩, l2, l3⟩, ⟨⟨l4, l5⟩, l6, l7⟩⟩ := HON.out O (List.mem_of_getElem? hO)
          have HO := Lib.hid hO
          clear hO
          obtain ⟨nm, fi, ⟨lx, ly⟩, ⟨gx, gy⟩⟩ := O
          obtain ⟨d0, d1, d2, d3, d4, d5⟩ := hop
          simp only [] at d0 d1 d2 d3 d4 d5 hnmO l0 l1 l2 l3 l4 l5 l6 l7
          have c1 := mul_bd (a := k) (b := lx) (m := 5) (n := 10000) (by omega) (by omega) (by omega) (by omega)
          have c2 := mul_bd (a := k) (b := ly) (m := 5) (n := 10000) (by omega) (by omega) (by omega) (by omega)
          have c3 := mul_bd (a := k) (b := gx) (m := 5) (n := 10000) (by omega) (by omega) (by omega) (by omega)
          have c4 := mul_bd (a := k) (b := gy) (m := 5) (n := 10000) (by omega) (by omega) (by omega) (by omega)
          have hmx : ps.length + 1 ≤ maxLen := by unfold maxLen; omega
          have hne : some (w.heap.size + 1 + 1) ≠ (Value.slice ua un uc).ownBlock := fun e => by have := HOW2.out.lt _ e.symm; omega
          have kB := Blk.new (wr.alloc (.cells #[.string nm, .int .i64 fi, .int .i64 (k * lx), .int .i64 (k * ly), .int .i64 (k * gx), .int .i64 (k * gy)] 43)) 43 #[.string nm, .int .i64 fi, .int .i64 (k * lx), .int .i64 (k * ly), .int .i64 (k * gx), .int .i64 (k * gy)]
          simp only [World.size_alloc] at kB
          have hP : ScO k ⟨nm, fi, ⟨lx, ly⟩, ⟨gx, gy⟩⟩ ⟨nm, fi, ⟨k * lx, k * ly⟩, ⟨k * gx, k * gy⟩⟩ := ⟨rfl, rfl, rfl, rfl⟩
          have HP := Lib.hid hP
          clear hP
          go_wp2_with (at_builtin; refine wpList_append_lies _ rfl _ _ 23 rfl wo.heap.size 43 i6 (.agg #[.string ⟨#[]⟩, .int .i64 0, .int .i64 0, .int .i64 0, .int .i64 0, .int .i64 0]) 6 56 Try.underlying23 hi6 hx0 hx1 hx2 rfl (by decide) (.slice ua un uc) ps.length _ rfl ((HOW2.out.alloc _).alloc _) ⟨wr.heap.size + 1, 0, none⟩ 1 1 [.string nm, .int .i64 fi, .int .i64 (k * lx), .int .i64 (k * ly), .int .i64 (k * gx), .int .i64 (k * gy)] rfl rfl (World.news_of_block kB) (by simp [Value.oneCell']) (by decide) hmx (by omega) (by simp; omega) _ rfl ?_; intro g2 cap2 w6 hown6 hgrow hat hlt6; have HOWN6 := Lib.hid hown6; have HGR := Lib.hid hgrow; have kO6 := ((kO2.alloc _).alloc _).kept hgrow hne; have z6 := kO6.cell 1; have z7 := kO6.frozen 1; simp only [List.getElem?_toArray, List.getElem?_cons_zero, List.getElem?_cons_succ] at z6; clear hown6 hgrow hat)
          have h6 := ownsRow_setCell_below HOWN6.out (a := ⟨w.heap.size + 1 + 1, 1, none⟩) (by simp; omega) (.slice (some ⟨g2, 0, none⟩) (t + 1) cap2)
          rw [hpl] at h6
          refine ⟨⟨t + 1, ps ++ [⟨nm, fi, ⟨k * lx, k * ly⟩, ⟨k * gx, k * gy⟩⟩], .slice (some ⟨g2, 0, none⟩) (t + 1) cap2, by omega, by simp, by simp [hpl], kO6.set 1 _, ?_, snoc_pw hpl HSC2.out HO.out HP.out, ?_, ?_, ?_, ?_, ?_, ?_⟩, by simp [intOf]; omega⟩
          · rw [List.flatMap_append, show (ps ++ [(⟨nm, fi, ⟨k * lx, k * ly⟩, ⟨k * gx, k * gy⟩⟩ : Opn)]).length = t + 1 by simp [hpl]]
            simpa [cellsO] using h6
          · intro p hp
            rcases List.mem_append.1 hp with h | h
            · exact HNM2.out p h
            · rw [List.mem_singleton.1 h]
              exact hnmO
          · intro q hq hw
            have := HSZ.out
            refine (Below.heap_setCell _ _ _ _ (by simp; omega)).trans ((HGR.out.block q (by simp; omega) (fun e => by have := HOW2.out.lt _ e.symm; omega)).trans (Eq.trans ?_ (HKP.out q hq hw)))
            exact (((Below.refl wr.heap.size wr).alloc (Nat.le_refl _) _).alloc (by simp) _).block q (by omega)
          · exact (((kR2.alloc _).alloc _).kept HGR.out (fun e => by have := HOW2.out.lt _ e.symm; omega)).other (by omega) _
          · exact (((kA2.alloc _).alloc _).kept HGR.out (fun e => by have := HOW2.out.lt _ e.symm; omega)).other (by omega) _
          · exact (((hB2.alloc hB2.size _).alloc (by have := hB2.size; simp; omega) _).grown HGR.out (by have := hB2.size; simp; omega) (fun q e => by have := HOW2.out.lt q e; omega)).setCell (p := ⟨w.heap.size + 1 + 1, 1, none⟩) (by simp; omega) _
          · have := HGR.out.size
            simp at this ⊢
            omega
        · obtain rfl : t = os.length := by omega
          have k2 := (kA2.set 0 (.slice va vn vc)).set 1 (.slice ua un uc)
          have z0 := k2.cell 0
          have z1 := k2.cell 1
          simp only [List.setIfInBounds_toArray, List.set_cons_zero, List.set_cons_succ, List.getElem?_toArray, List.getElem?_cons_zero, List.getElem?_cons_succ] at z0 z1
          clear k2
          go_wp2_with fail
          refine bodyPost_ret (v := .tuple #[.agg #[.slice va vn vc, .slice ua un uc], .bool true]) (by simp [results, Try.results34, go_sem, z0, z1]) rfl ⟨(hB2.setCell (p := ⟨w.heap.size + 1, 0, none⟩) (by simp) _).setCell (p := ⟨w.heap.size + 1, 1, none⟩) (by simp) _, _, _, _, rfl, ⟨_, _, _, rfl⟩, ⟨_, _, _, rfl⟩, fun _ => ?_⟩
          obtain rfl := own_len HOW.out
          obtain rfl := own_len HOW2.out
          have hkw : ∀ q, q < wo.heap.size → W3.heap.size ≤ q → ((wr.setCell ⟨w.heap.size + 1, 0, none⟩ (.slice va gs.length vc)).setCell ⟨w.heap.size + 1, 1, none⟩ (.slice ua ps.length uc)).heap[q]? = wo.heap[q]? := fun q hq hw => by
            have := HSZ.out
            exact (Below.heap_setCell _ _ _ _ (by simp; omega)).trans ((Below.heap_setCell _ _ _ _ (by simp; omega)).trans (HKP.out q hq hw))
          refine ⟨⟨va, vc, gs, ua, uc, ps⟩, rfl, rfl, ⟨isFacs_of (ownsRow_keep HOW.out hkw) (fun f hf => (HFO.out f hf).keep (by simp; omega) hkw), isOpns_of (ownsRow_setCell_below (ownsRow_setCell_below HOW2.out (a := ⟨w.heap.size + 1, 0, none⟩) (by simp; omega) _) (a := ⟨w.heap.size + 1, 1, none⟩) (by simp; omega) _) HNM2.out⟩, ⟨hgl, HSC.out⟩, ⟨hpl, HSC2.out⟩, ?_⟩
          have := HFI.out
          rw [List.take_length] at this
          exact this
end
end Go.Proofs.Ytpheaomlphggfaa
