/- slices.Delete of one heap: the row without it, in its place. -/
import Derived.Test.YtfhalmlpnoepcaaGreatJK
import Derived.Deep.RegionLaw
import Derived.Lib.SliceRun
import Derived.Laws.OwnMore
import Derived.Shelf.RegionOpenPlain
import Derived.Maps.AppendAt
namespace Go.Proofs.YtfhalmlpnoepcaaGreat
open Go.RowKit

def setL : Nat → List Value → List Value → List Value
  | _, [], xs => xs
  | o, v :: r, xs => setL (o + 1) r (xs.set o v)
theorem setL_eq (vs : List Value) : ∀ (o : Nat) (xs : List Value), o + vs.length ≤ xs.length → setL o vs xs = xs.take o ++ vs ++ xs.drop (o + vs.length) := by
  induction vs with
  | nil => intro o xs _; simp [setL]
  | cons v r ih =>
    intro o xs h
    simp only [List.length_cons] at h
    rw [setL, ih (o + 1) (xs.set o v) (by simp; omega)]
    have e1 : (xs.set o v).take (o + 1) = xs.take o ++ [v] := by
      rw [List.take_add_one, List.take_set_of_le (Nat.le_refl _)]
      simp [show o < xs.length by omega]
    have e2 : (xs.set o v).drop (o + 1 + r.length) = xs.drop (o + (v :: r).length) := by
      rw [List.drop_set_of_lt (by omega)]
      simp only [List.length_cons]
      congr 1
      omega
    rw [e1, e2]
    simp
theorem own_setCells {base sz g n cap : Nat} {t : TypeId} (vs : List Value) : ∀ (o : Nat) {w : World} {xs : List Value}, w.ownsRow base t sz (.slice (some ⟨g, 0, none⟩) n cap) n xs →
    (w.setCells g o vs).ownsRow base t sz (.slice (some ⟨g, 0, none⟩) n cap) n (setL o vs xs) ∧ w.grownBy (w.setCells g o vs) (some g) := by
  induction vs with
  | nil => intro o w xs h; exact ⟨h, World.grownBy.refl _ _⟩
  | cons v r ih =>
    intro o w xs h
    obtain ⟨h1, h2⟩ := h.stored o v
    obtain ⟨h3, h4⟩ := ih (o + 1) h1
    exact ⟨h3, h2.trans h4⟩
theorem own_short {w : World} {base sz g n m cap : Nat} {t : TypeId} {xs : List Value} (h : w.ownsRow base t sz (.slice (some ⟨g, 0, none⟩) n cap) n xs) (hm : m ≤ n) :
    w.ownsRow base t sz (.slice (some ⟨g, 0, none⟩) m cap) m (xs.take (m * sz)) := by
  have hms : m * sz ≤ n * sz := Nat.mul_le_mul_right _ hm
  refine ⟨by rw [List.length_take, h.1]; omega, ?_⟩
  rcases h.2 with ⟨e, _⟩ | ⟨g', cap', cur, hv, hb, hg, h1, h2, h3, h4⟩
  · cases e
  · obtain ⟨e1, _, e2⟩ := slice_inj hv
    obtain rfl : g = g' := by injection e1 with e1; injection e1
    subst e2
    refine .inr ⟨g, cap, cur, rfl, hb, hg, by omega, h2, h3, ?_⟩
    rw [← h4, List.take_take]
    congr 1
    omega
theorem flat_take {α : Type} (f : α → List Value) (n : Nat) (hf : ∀ x, (f x).length = n) (l : List α) : ∀ i, (l.flatMap f).take (i * n) = (l.take i).flatMap f := by
  induction l with
  | nil => intro i; simp
  | cons x l ih =>
    intro i
    cases i with
    | zero => simp
    | succ i =>
      rw [List.flatMap_cons, List.take_succ_cons, List.flatMap_cons, Nat.succ_mul, Nat.add_comm, List.take_append, hf, ← ih i, show n + i * n - n = i * n by omega, List.take_of_length_le (by rw [hf]; omega)]
theorem flat_drop {α : Type} (f : α → List Value) (n : Nat) (hf : ∀ x, (f x).length = n) (l : List α) : ∀ i, (l.flatMap f).drop (i * n) = (l.drop i).flatMap f := by
  induction l with
  | nil => intro i; simp
  | cons x l ih =>
    intro i
    cases i with
    | zero => simp
    | succ i =>
      rw [List.flatMap_cons, List.drop_succ_cons, Nat.succ_mul, Nat.add_comm, List.drop_append, hf, ← ih i, show n + i * n - n = i * n by omega, List.drop_eq_nil_of_le (by rw [hf]; omega), List.nil_append]
theorem erase_flat (l : List Hep) (i : Nat) (hi : i < l.length) (zs : List Value) (hz : zs.length = 7) :
    (setL ((l.length - 1) * 7) zs (setL (i * 7) ((l.drop (i + 1)).flatMap cellsHep) (l.flatMap cellsHep))).take ((l.length - 1) * 7) = (l.eraseIdx i).flatMap cellsHep := by
  have hl := flat_len cellsHep 7 (fun _ => rfl) l
  have hd := flat_len cellsHep 7 (fun _ => rfl) (l.drop (i + 1))
  have ht := flat_len cellsHep 7 (fun _ => rfl) (l.take i)
  rw [List.length_drop] at hd
  rw [List.length_take, Nat.min_eq_left (by omega)] at ht
  rw [setL_eq _ (i * 7) _ (by rw [hl, hd]; omega), flat_take cellsHep 7 (fun _ => rfl)]
  rw [setL_eq _ ((l.length - 1) * 7) _ (by simp only [List.length_append, List.length_drop, hl, hd, ht, hz]; omega)]
  rw [List.append_assoc, List.take_left' (by simp only [List.length_take, List.length_append, List.length_drop, hl, hd, ht]; omega)]
  rw [List.take_append_of_le_length (by simp only [List.length_append, hd, ht]; omega), List.take_of_length_le (by simp only [List.length_append, hd, ht]; omega)]
  rw [List.eraseIdx_eq_take_drop_succ, List.flatMap_append]
theorem zero_cells7 (zs : Array Value) (h7 : zs.size = 7) (h1 : ∀ i, i < 7 → (zs[i]!).oneCell' = true) : (Builtin.zeroCells zs 1).toList.length = 7 ∧ ∀ u ∈ (Builtin.zeroCells zs 1).toList, u.oneCell' = true := by
  refine ⟨by simp [Builtin.zeroCells, h7], fun u hu => ?_⟩
  simp only [Builtin.zeroCells, h7, Array.toList_map, List.mem_map] at hu
  obtain ⟨i, _, rfl⟩ := hu
  exact h1 _ (Nat.mod_lt _ (by omega))

set_option maxRecDepth 100000 in
set_option maxHeartbeats 4000000 in
theorem deleteHep_any (base : Nat) (a : Option Addr) (c : Nat) (l : List Hep) (i j : Nat) (hj : j = i + 1) (w : World) (hown : w.ownsRow base 53 7 (.slice a l.length c) l.length (l.flatMap cellsHep)) (hi : i < l.length) :
    Calls Tryz.prog 106 #[.slice a l.length c, .int .i64 i, .int .i64 j] w fun e w' => e = .returned (.slice a (l.eraseIdx i).length c) ∧
      w'.ownsRow base 53 7 (.slice a (l.eraseIdx i).length c) (l.eraseIdx i).length ((l.eraseIdx i).flatMap cellsHep) ∧ w.drew.grownBy w' (a.map (·.block)) := by
  obtain ⟨i0, hi0, hz0, hz1, hz2⟩ := info_parts info_heap
  obtain ⟨g, cap, hv, hbg, hg⟩ := hown.form (by omega)
  obtain ⟨rfl, _, rfl⟩ := slice_inj hv
  have hcaps : l.length ≤ c ∧ c ≤ 9223372036854775807 := by
    rcases hown.2 with ⟨e, _⟩ | ⟨_, _, _, e, _, _, h1, h2, _⟩
    · cases e
    · obtain ⟨_, _, rfl⟩ := slice_inj e
      unfold maxLen at h2
      omega
  obtain ⟨hc1, hc2⟩ := hcaps
  have hel : (l.eraseIdx i).length = i + (l.length - j) := by rw [List.length_eraseIdx, if_pos hi]; omega
  have hlen1 := flat_len cellsHep 7 (fun _ => rfl) (l.drop j)
  rw [List.length_drop] at hlen1
  have hd : w.drew.ownsRow base 53 7 (.slice (some ⟨g, 0, none⟩) l.length c) l.length (l.flatMap cellsHep) := own_below hown ((Below.refl _ w).drew)
  have hfl := flat_len cellsHep 7 (fun _ => rfl) l
  obtain ⟨news, hnews⟩ : ∃ news, news = (l.drop j).flatMap cellsHep := ⟨_, rfl⟩
  obtain ⟨A, hA, hsrc⟩ : ∃ A : Addr, (if c = j then some (⟨g, 0, none⟩ : Addr) else some ⟨g, j * 7, none⟩) = some A ∧ (∀ t u, news[t]? = some u → w.drew.cell? (A.add t) = some u) := by
    by_cases h : c = j
    · refine ⟨⟨g, 0, none⟩, by simp [h], ?_⟩
      intro t u hu
      have h0 : news.length = 0 := by rw [hnews, hlen1]; omega
      rw [List.length_eq_zero_iff.1 h0] at hu
      simp at hu
    · refine ⟨⟨g, j * 7, none⟩, by simp [h], ?_⟩
      intro t u hu
      have hadd : (⟨g, j * 7, none⟩ : Addr).add t = ⟨g, j * 7 + t, none⟩ := by unfold Addr.add; split <;> simp_all
      have ht : t < news.length := (List.getElem?_eq_some_iff.1 hu).1
      rw [hnews, hlen1] at ht
      rw [hadd, hd.cellAt _ (by omega), ← hu, hnews, ← flat_drop cellsHep 7 (fun _ => rfl), List.getElem?_drop]
  have hsrc := Lib.hid hsrc
  have s1 := Lib.hid (show news.length = (l.length - j) * 7 by rw [hnews]; exact hlen1)
  have s2 := Lib.hid (show ∀ u ∈ news, u.oneCell' = true from fun u hu => by
    rw [hnews] at hu
    obtain ⟨x, _, hx⟩ := List.mem_flatMap.1 hu
    rcases (show u = .string x.name ∨ u = .int .i64 x.crop ∨ u = .int .i64 x.stage ∨ u = .slice x.pa x.parts.length x.pc ∨ u = .int .i64 x.per ∨ u = .int .i64 x.wlo ∨ u = .int .i64 x.whi by simpa [cellsHep] using hx) with rfl | rfl | rfl | rfl | rfl | rfl | rfl
    all_goals rfl)
  have s3 := Lib.hid (show ∀ t, t < news.length → (w.drew.cell? ⟨g, 0 + i * 7 + t, none⟩).isSome = true ∧ w.drew.frozen? ⟨g, 0 + i * 7 + t, none⟩ = false from fun t ht => by
    rw [s1.out] at ht
    rw [Nat.zero_add]
    exact ⟨by rw [hd.cellAt _ (by omega), List.getElem?_eq_getElem (by omega)]; rfl, hd.frozenAt _⟩)
  obtain ⟨W1, hW1⟩ : ∃ W1, W1 = w.drew.setCells g (0 + i * 7) news := ⟨_, rfl⟩
  obtain ⟨hd1, hg1⟩ := own_setCells news (0 + i * 7) hd
  rw [← hW1] at hd1 hg1
  obtain ⟨z7, zo⟩ := zero_cells7 (Value.agg #[.string ⟨#[]⟩, .int .i64 0, .int .i64 0, .slice none 0 0, .int .i64 0, .int .i64 0, .int .i64 0]).cells (by kernel_rfl) (fun i hi => by
    rcases (show i = 0 ∨ i = 1 ∨ i = 2 ∨ i = 3 ∨ i = 4 ∨ i = 5 ∨ i = 6 by omega) with rfl | rfl | rfl | rfl | rfl | rfl | rfl
    all_goals rfl)
  obtain ⟨zs, hzs⟩ : ∃ zs, zs = (Builtin.zeroCells (Value.agg #[.string ⟨#[]⟩, .int .i64 0, .int .i64 0, .slice none 0 0, .int .i64 0, .int .i64 0, .int .i64 0]).cells 1).toList := ⟨_, rfl⟩
  rw [← hzs] at z7 zo
  have hfl1 : (setL (0 + i * 7) news (l.flatMap cellsHep)).length = l.length * 7 := by rw [hd1.1]
  have hst := run_storeCells_cells (P := Tryz.prog) g ((i + (l.length - j)) * 7) zs 0 W1 (fun j hj => by rw [z7] at hj; rw [Nat.add_zero, hd1.cellAt _ (by omega), List.getElem?_eq_getElem (by omega)]; rfl) (fun j hj => hd1.frozenAt _) zo
  rw [Nat.add_zero] at hst
  have hzv : ∀ w, (zeroValue 53).run Tryz.prog w = .ok (.agg #[.string ⟨#[]⟩, .int .i64 0, .int .i64 0, .slice none 0 0, .int .i64 0, .int .i64 0, .int .i64 0]) w := fun w => by kernel_rfl
  have hcl : ∀ ty, (Builtin.clear_ #[26] ty #[.slice (some ⟨g, (i + (l.length - j)) * 7, none⟩) (l.length - (i + (l.length - j))) (c - (i + (l.length - j)))]).run Tryz.prog W1 = .ok (.tuple #[]) (W1.setCells g ((i + (l.length - j)) * 7) zs) := fun ty => by
    rw [show l.length - (i + (l.length - j)) = 1 by omega]
    simp [Builtin.clear_, run_underlying Tryz.underlying26, hzv, ← hzs, hst]
  obtain ⟨hd2, hg2⟩ := own_setCells zs ((i + (l.length - j)) * 7) hd1
  have hfin := own_short hd2 (m := (l.eraseIdx i).length) (by rw [hel]; omega)
  have hee : (setL ((i + (l.length - j)) * 7) zs (setL (0 + i * 7) news (l.flatMap cellsHep))).take ((l.eraseIdx i).length * 7) = (l.eraseIdx i).flatMap cellsHep := by
    rw [Nat.zero_add, hnews, hel, show i + (l.length - j) = l.length - 1 by omega, hj]
    exact erase_flat l i hi zs z7
  rw [hee] at hfin
  have X := Lib.hid hfin
  have X2 := Lib.hid (hg1.trans hg2)
  have hW := Lib.hid hW1
  have HEL := Lib.hid hel
  have hcn : ¬ (c = i + (l.length - j)) := by omega
  have hic : i ≤ c := by omega
  have hjc : j ≤ c := by omega
  have hjl : j ≤ l.length := by omega
  have hij : i ≤ j := by omega
  have hne : ((i : Int) == (j : Int)) = false := by simp; omega
  clear hzv hzs hj hW1 hd1 hd2 hg1 hg2 hfin hee hnews hst hd hown hfl hfl1 hel hlen1
  have mixed : Tryz.prog.follows .mixedOrders = true := by kernel_rfl
  go_enter Tryz.func106, Tryz.ntmps106
  go_wp2_with fail
  go_region_law_o (refine step_append_room rfl (.tmp 22) (.tmp 25) 26 rfl 53 i0 7 Tryz.underlying26 hi0 hz1 g 0 i c (by simp [Act.eval, Act.put]) A (l.length - j) (c - j) news (by simp [Act.eval, Act.put]) s1.out hsrc.out s2.out (by omega) s3.out ?_; rw [← hW.out])
  go_wp2
  go_ret
  have x1 := X.out
  have x2 := X2.out
  rw [HEL.out] at x1 ⊢
  exact ⟨rfl, x1, x2⟩

end Go.Proofs.YtfhalmlpnoepcaaGreat
