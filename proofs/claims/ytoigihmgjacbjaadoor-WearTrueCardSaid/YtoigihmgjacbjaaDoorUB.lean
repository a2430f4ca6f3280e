/- near, far of any points that are not far away, thick. No condition but the hills' range. -/
import Derived.Test.YtoigihmgjacbjaaDoorUA
set_option linter.unusedSimpArgs false
namespace Go.Proofs.YtoigihmgjacbjaaDoor
open Go.RowKit

abbrev hilC (h : Hil) : Array Value := #[.int .i64 h.at_.x, .int .i64 h.at_.y, .int .u16 h.hi]
/-- A list of hills in memory. -/
def IsHils (w : World) (a : Option Addr) (c : Nat) (l : List Hil) : Prop :=
  (l = [] ∨ ∃ b off, a = some ⟨b, off, none⟩ ∧ b < w.heap.size ∧ l.length ≤ c ∧ c ≤ 9223372036854775807 ∧ ∀ j h, l[j]? = some h → ∀ i, i < 3 → w.cell? ⟨b, off + j * 3 + i, none⟩ = (hilC h)[i]?) ∧ ∀ h ∈ l, 0 ≤ h.hi ∧ h.hi ≤ 65535
theorem IsHils.below {w w' : World} {a : Option Addr} {c : Nat} {l : List Hil} (h : IsHils w a c l) (hb : Below w.heap.size w w') : IsHils w' a c l := by
  obtain ⟨h, hr⟩ := h
  refine ⟨?_, hr⟩
  rcases h with h | ⟨b, off, e, hl, hc, hc', hp⟩
  · exact .inl h
  · exact .inr ⟨b, off, e, Nat.lt_of_lt_of_le hl hb.size, hc, hc', fun j x hj i hi => (hb.cell (p := ⟨b, _, none⟩) hl).trans (hp j x hj i hi)⟩
theorem IsHils.at {w : World} {a : Option Addr} {c : Nat} {l : List Hil} (h : IsHils w a c l) {j : Nat} {x : Hil} (hj : l[j]? = some x) :
    ∃ b off, a = some ⟨b, off, none⟩ ∧ b < w.heap.size ∧ l.length ≤ c ∧ c ≤ 9223372036854775807 ∧ w.cell? ⟨b, off + j * 3, none⟩ = some (.int .i64 x.at_.x) ∧ w.cell? ⟨b, off + j * 3 + 1, none⟩ = some (.int .i64 x.at_.y) ∧ w.cell? ⟨b, off + j * 3 + 2, none⟩ = some (.int .u16 x.hi) ∧ 0 ≤ x.hi ∧ x.hi ≤ 65535 := by
  have hr := h.2 x (List.mem_of_getElem? hj)
  rcases h.1 with rfl | ⟨b, off, e, hl, hc, hc', hp⟩
  · simp at hj
  · exact ⟨b, off, e, hl, hc, hc', hp j x hj 0 (by omega), hp j x hj 1 (by omega), hp j x hj 2 (by omega), hr.1, hr.2⟩
theorem IsHils.len {w : World} {a : Option Addr} {c : Nat} {l : List Hil} (h : IsHils w a c l) : l.length ≤ 9223372036854775807 := by
  rcases h.1 with rfl | ⟨_, _, _, _, h1, h2, _⟩
  · simp
  · omega
def NearEnd (l : List Hil) (e : Ending) : Prop := ∃ b : Bool, e = .returned (.bool b) ∧ (b = true → l.length ≤ 20 ∧ ∀ h ∈ l, -1000 ≤ h.at_.x ∧ h.at_.x ≤ 1000 ∧ -1000 ≤ h.at_.y ∧ h.at_.y ≤ 1000)
def nearB (p : Pnt) : Prop := (-1000 ≤ p.x ∧ p.x ≤ 1000) ∧ -1000 ≤ p.y ∧ p.y ≤ 1000
theorem near_point {p : Pnt} (h : pointB p = true) : nearB p := by
  have := pointB_iff.1 h
  unfold nearB
  omega
theorem NearEnd.get {l : List Hil} (h : NearEnd l (.returned (.bool true))) : l.length ≤ 20 ∧ ∀ x ∈ l, nearB x.at_ := by
  obtain ⟨b, e, h⟩ := h
  simp only [Ending.returned.injEq, Value.bool.injEq] at e
  have := h e.symm
  exact ⟨this.1, fun x hx => by have := this.2 x hx; unfold nearB; omega⟩
theorem farN_any (p q : Pnt) (hp : nearB p) (hq : nearB q) (w : World) :
    Calls Tryd.prog 25 #[.agg #[.int .i64 p.x, .int .i64 p.y], .agg #[.int .i64 q.x, .int .i64 q.y]] w fun e w' => e = .returned (.int .i64 (distM p q)) ∧ Below w.heap.size w w' := by
  obtain ⟨a, b⟩ := p
  obtain ⟨c, d⟩ := q
  obtain ⟨⟨h1, h2⟩, h3, h4⟩ := hp
  obtain ⟨⟨h5, h6⟩, h7, h8⟩ := hq
  simp only at h1 h2 h3 h4 h5 h6 h7 h8
  have w1 : IntKind.i64.wrap (a - c) = a - c := by rw [IntKind.wrap_i64]; omega
  have w2 : IntKind.i64.wrap (c - a) = c - a := by rw [IntKind.wrap_i64]; omega
  have w3 : IntKind.i64.wrap (b - d) = b - d := by rw [IntKind.wrap_i64]; omega
  have w4 : IntKind.i64.wrap (d - b) = d - b := by rw [IntKind.wrap_i64]; omega
  have H0 := Lib.hid (And.intro (And.intro h1 h2) (And.intro (And.intro h3 h4) (And.intro (And.intro h5 h6) (And.intro h7 h8))))
  clear h1 h2 h3 h4 h5 h6 h7 h8
  go_enter Tryd.func25, Tryd.ntmps25
  go_wp2
  all_goals go_ret
  all_goals refine ⟨?_, ((Below.refl _ _).alloc (Nat.le_refl _) _).alloc (by simp) _⟩
  all_goals
    obtain ⟨⟨h1, h2⟩, ⟨h3, h4⟩, ⟨h5, h6⟩, h7, h8⟩ := H0.out
    refine ret_int (k := .i64) ?_
    refine (w64 (by omega) (by omega)).trans ?_
    (try simp only [distM])
    (try omega)
theorem distN_bd {p q : Pnt} (hp : nearB p) (hq : nearB q) : 0 ≤ distM p q ∧ distM p q ≤ 4000 := by
  unfold nearB at hp hq
  unfold distM
  omega

set_option maxRecDepth 100000 in
set_option maxHeartbeats 8000000 in
theorem near_any (a : Option Addr) (c : Nat) (l : List Hil) (w : World) (hl : IsHils w a c l) :
    Calls Tryd.prog 17 #[.slice a l.length c] w fun e w' => NearEnd l e ∧ Below w.heap.size w w' := by
  have HL := Lib.hid hl
  have hlen := hl.len
  clear hl
  go_enter Tryd.func17, Tryd.ntmps17
  go_wp2_with fail
  go_loopw [3] (fun s3 wr => ∃ j : Nat, j ≤ l.length ∧ s3 = .int .i64 j ∧ (∀ h ∈ l.take j, nearB h.at_) ∧ Below w.heap.size w wr) (fun i _ => l.length - (intOf i).toNat)
  case atStart => exact ⟨0, Nat.zero_le _, rfl, by simp, Below.refl _ _⟩
  case round =>
  obtain ⟨j, hj, rfl, hnr, hb⟩ := hrel
  obtain ⟨w3, rfl⟩ : ∃ w3 : World, w3 = wr := ⟨_, rfl⟩
  have HB3 := Lib.hid hb
  have HNR := Lib.hid hnr
  clear hb hnr
  by_cases hlj : j < l.length
  rotate_left
  · obtain rfl : j = l.length := by omega
    have hlj' : ¬ (l.length : Int) < (l.length : Int) := by omega
    have HNA := Lib.hid (show ∀ h ∈ l, nearB h.at_ by have := HNR.out; rwa [List.take_of_length_le (Nat.le_refl _)] at this)
    clear hlj hj
    go_wp2_with fail
    go_ret
    exact ⟨⟨_, rfl, fun h => ⟨by simp at h; omega, fun x hx => by have := HNA.out x hx; unfold nearB at this; omega⟩⟩, HB3.out⟩
  have hlj' : (j : Int) < (l.length : Int) := by omega
  have hj0 : (0 : Int) ≤ (j : Int) := Int.natCast_nonneg _
  have hjs : IntKind.i64.wrap ((j : Int) + 1) = ((j + 1 : Nat) : Int) := by rw [IntKind.wrap_i64]; omega
  have hq : l[j]? = some l[j] := List.getElem?_eq_getElem hlj
  obtain ⟨b, off, hea, hbl, hcap, hcx, y0, y1, y2, _, _⟩ := (HL.out.below HB3.out).at hq
  have HTK := Lib.hid (show l.take (j + 1) = l.take j ++ [l[j]] by rw [List.take_add_one, hq]; rfl)
  generalize l[j] = h at *
  subst hea
  have HLJ := Lib.hid hlj
  clear hq hlj hj
  by_cases c0 : h.at_.x < -1000
  · go_wp2_with fail
    go_ret
    exact ⟨⟨false, rfl, fun h => by cases h⟩, HB3.out⟩
  by_cases c1 : 1000 < h.at_.x
  · go_wp2_with fail
    go_ret
    exact ⟨⟨false, rfl, fun h => by cases h⟩, HB3.out⟩
  by_cases c2 : h.at_.y < -1000
  · go_wp2_with fail
    go_ret
    exact ⟨⟨false, rfl, fun h => by cases h⟩, HB3.out⟩
  by_cases c3 : 1000 < h.at_.y
  · go_wp2_with fail
    go_ret
    exact ⟨⟨false, rfl, fun h => by cases h⟩, HB3.out⟩
  have HC := Lib.hid (show nearB h.at_ by unfold nearB; omega)
  go_wp2_with fail
  refine ⟨⟨j + 1, by have := HLJ.out; omega, by simp, fun x hx => ?_, HB3.out⟩, by have := HLJ.out; simp [intOf]; omega⟩
  rw [HTK.out] at hx
  rcases List.mem_append.1 hx with hx | hx
  · exact HNR.out x hx
  · obtain rfl := List.mem_singleton.1 hx
    exact HC.out

set_option maxRecDepth 100000 in
set_option maxHeartbeats 16000000 in
theorem thick_any (a : Option Addr) (c : Nat) (l : List Hil) (st : Int) (th : Spn) (p : Pnt) (w : World) (hl : IsHils w a c l) (hn : ∀ h ∈ l, nearB h.at_) (hp : nearB p) (hst : 0 ≤ st ∧ st ≤ 1000) (hth : isSpanB th 0 2000 = true) :
    Calls Tryd.prog 18 #[.slice a l.length c, .int .i64 st, .agg #[.int .i64 th.lo, .int .i64 th.hi], .agg #[.int .i64 p.x, .int .i64 p.y]] w fun e w' => e = .returned (.int .i64 (thickH th st l p)) ∧ Below w.heap.size w w' := by
  have k1 := (Blk.new w 27 #[.int .i64 th.lo, .int .i64 th.hi]).alloc (.cells #[.int .i64 p.x, .int .i64 p.y] 45)
  have k2 := Blk.new (w.alloc (.cells #[.int .i64 th.lo, .int .i64 th.hi] 27)) 45 #[.int .i64 p.x, .int .i64 p.y]
  rw [World.size_alloc] at k2
  have hb1 : Below w.heap.size w ((w.alloc (.cells #[.int .i64 th.lo, .int .i64 th.hi] 27)).alloc (.cells #[.int .i64 p.x, .int .i64 p.y] 45)) := ((Below.refl _ w).alloc (Nat.le_refl _) _).alloc (by simp) _
  have HL := Lib.hid hl
  have HN := Lib.hid hn
  have HP := Lib.hid hp
  have HST := Lib.hid hst
  have HTH := Lib.hid (isSpanB_iff.1 hth)
  have hlen := hl.len
  clear hl hn hp hst hth
  go_enter Tryd.func18, Tryd.ntmps18
  go_upto_region 1 with fail
  generalize ((w.alloc (.cells #[.int .i64 th.lo, .int .i64 th.hi] 27)).alloc (.cells #[.int .i64 p.x, .int .i64 p.y] 45)) = w1 at *
  have HB1 := Lib.hid hb1
  have K1 := Lib.hid k1
  have K2 := Lib.hid k2
  obtain ⟨t0, t1⟩ := spn_cells (s := th) k1
  have l1 := k1.lt
  clear k1 k2 hb1
  go_wp2_with fail
  go_loopw [9, 10] (fun s9 s10 wr => ∃ (j : Nat) (n : Int), j ≤ l.length ∧ s9 = .int .i64 n ∧ s10 = .int .i64 j ∧ n = (l.take j).foldl (hillStep th st p) th.hi ∧ (-1 ≤ n ∧ n ≤ 2000) ∧ Below w1.heap.size w1 wr) (fun _ i _ => l.length - (intOf i).toNat)
  case atStart => exact ⟨0, th.hi, Nat.zero_le _, rfl, rfl, rfl, by have := HTH.out; omega, Below.refl _ _⟩
  case round =>
  clear t0 t1 l1
  obtain ⟨j, n, hj, rfl, rfl, hn, hnr, hb⟩ := hrel
  obtain ⟨w3, rfl⟩ : ∃ w3 : World, w3 = wr := ⟨_, rfl⟩
  have HB3 := Lib.hid (HB1.out.trans (hb.mono HB1.out.size))
  have K13 := Lib.hid (K1.out.belowS hb)
  have K23 := Lib.hid (K2.out.belowS hb)
  have HB13 := Lib.hid hb
  have HNN := Lib.hid hn
  have HNR := Lib.hid hnr
  clear hb hn hnr
  by_cases hlj : j < l.length
  rotate_left
  · obtain rfl : j = l.length := by omega
    have hlj' : ¬ (l.length : Int) < (l.length : Int) := by omega
    have HV := Lib.hid (show thickH th st l p = max n th.lo by
      have := HNN.out
      rw [List.take_of_length_le (Nat.le_refl _)] at this
      unfold thickH hillFold
      rw [this])
    clear hlj hj
    obtain ⟨t0, t1⟩ := spn_cells (s := th) K13.out
    have l1 := K13.out.lt
    by_cases hc : n < th.lo
    · go_wp2_with fail
      go_ret
      exact ⟨by rw [HV.out]; exact ret_int (by omega), HB3.out⟩
    · go_wp2_with fail
      go_ret
      exact ⟨by rw [HV.out]; exact ret_int (by omega), HB3.out⟩
  have hlj' : (j : Int) < (l.length : Int) := by omega
  have hj0 : (0 : Int) ≤ (j : Int) := Int.natCast_nonneg _
  have hjs : IntKind.i64.wrap ((j : Int) + 1) = ((j + 1 : Nat) : Int) := by rw [IntKind.wrap_i64]; omega
  have hq : l[j]? = some l[j] := List.getElem?_eq_getElem hlj
  obtain ⟨b, off, hea, hbl, hcap, hcx, y0, y1, y2, hh0, hh1⟩ := (HL.out.below HB3.out).at hq
  have HNH := Lib.hid (HN.out _ (List.getElem_mem hlj))
  have HSTP := Lib.hid (show (l.take (j + 1)).foldl (hillStep th st p) th.hi = hillStep th st p n l[j] by rw [List.take_add_one, hq, List.foldl_append, ← HNN.out]; rfl)
  generalize l[j] = h at *
  subst hea
  have HLJ := Lib.hid hlj
  have hwh : IntKind.i64.wrap h.hi = h.hi := by rw [IntKind.wrap_i64]; omega
  obtain ⟨y, hy⟩ : ∃ y, y = h.hi % 2001 := ⟨_, rfl⟩
  have hyr : 0 ≤ y ∧ y ≤ 2000 := by omega
  have hmd : h.hi.tmod 2001 = y := by rw [Int.tmod_eq_emod_of_nonneg hh0, hy]
  have HY := Lib.hid hy
  have hd := distN_bd HP.out HNH.out
  have hpr := mul_bd (a := st) (b := distM p h.at_) (m := 1000) (n := 4000) (by have := HST.out; omega) (by have := HST.out; omega) (by omega) (by omega)
  have HFAR := Lib.hid (fun W' => farN_any p h.at_ HP.out HNH.out W')
  have HFR := Lib.hid (show hillStep th st p n h = min n (max th.lo y + st * distM p h.at_) by unfold hillStep; rw [← hy])
  have hwp : IntKind.i64.wrap (st * distM p h.at_) = st * distM p h.at_ := by rw [IntKind.wrap_i64]; omega
  have hpos : 0 ≤ st * distM p h.at_ := Int.mul_nonneg HST.out.1 hd.1
  generalize distM p h.at_ = D at *
  have HPOS := Lib.hid hpos
  have HROW := Lib.hid (And.intro hbl (And.intro hcap hcx))
  have HYR := Lib.hid hyr
  have hst : ∀ w', Below w3.heap.size w3 w' → (fun w' : World => Below w3.heap.size w3 w' ∧ (w'.cell? ⟨w.heap.size, 0, none⟩ = some (.int .i64 th.lo) ∧ w'.cell? ⟨w.heap.size, 1, none⟩ = some (.int .i64 th.hi) ∧ w'.cell? ⟨w.heap.size + 1, 0, none⟩ = some (.int .i64 p.x) ∧ w'.cell? ⟨w.heap.size + 1, 1, none⟩ = some (.int .i64 p.y) ∧ w'.cell? ⟨b, off + j * 3, none⟩ = some (.int .i64 h.at_.x) ∧ w'.cell? ⟨b, off + j * 3 + 1, none⟩ = some (.int .i64 h.at_.y) ∧ w'.cell? ⟨b, off + j * 3 + 2, none⟩ = some (.int .u16 h.hi))) w' := fun w' hb => by
    have x1 := K13.out.belowS hb
    have x2 := K23.out.belowS hb
    have e : ∀ o, w'.cell? ⟨b, o, none⟩ = w3.cell? ⟨b, o, none⟩ := fun o => hb.cell (p := ⟨b, o, none⟩) HROW.out.1
    exact ⟨hb, x1.cell 0, x1.cell 1, x2.cell 0, x2.cell 1, (e _).trans y0, (e _).trans y1, (e _).trans y2⟩
  have HSTE := Lib.hid hst
  have HPR := Lib.hid hpr
  clear hst hq hlj hj hy y0 y1 y2 hh0 hh1 hd hpos hyr hpr
  have hwa : IntKind.i64.wrap (max th.lo y + st * D) = max th.lo y + st * D := by have := HYR.out; have := HTH.out; have := HPR.out; rw [IntKind.wrap_i64]; omega
  have HWA := Lib.hid hwa
  clear hwa
  go_upto_region 5 with fail
  have hx := HSTE.out w3.drew ((Below.refl _ w3).drew)
  refine wp_region_E 23 (fun w' : World => Below w3.heap.size w3 w' ∧ (w'.cell? ⟨w.heap.size, 0, none⟩ = some (.int .i64 th.lo) ∧ w'.cell? ⟨w.heap.size, 1, none⟩ = some (.int .i64 th.hi) ∧ w'.cell? ⟨w.heap.size + 1, 0, none⟩ = some (.int .i64 p.x) ∧ w'.cell? ⟨w.heap.size + 1, 1, none⟩ = some (.int .i64 p.y) ∧ w'.cell? ⟨b, off + j * 3, none⟩ = some (.int .i64 h.at_.x) ∧ w'.cell? ⟨b, off + j * 3 + 1, none⟩ = some (.int .i64 h.at_.y) ∧ w'.cell? ⟨b, off + j * 3 + 2, none⟩ = some (.int .u16 h.hi))) (by kernel_rfl) ?_
  refine E_takeR (i := 0) (oi := _) (v := ?vt10) rfl (by kernel_rfl) (by kernel_rfl) (by kernel_rfl) (by decide) (fun _ _ _ h => h) hx (Or.inl ⟨by rfl, ?yt10⟩) ?rt10
  case yt10 => (intro w' hSw; (try dsimp only at hSw); go_simp; try with_reducible rfl)
  try simp only [Act.put, List.getElem_toArray, List.getElem_cons_zero, List.getElem_cons_succ, List.setIfInBounds_toArray, List.set_cons_zero, List.set_cons_succ]
  refine E_takeR (i := 1) (oi := _) (v := ?vt11) rfl (by kernel_rfl) (by kernel_rfl) (by kernel_rfl) (by decide) (fun _ _ _ h => h) hx (Or.inl ⟨by rfl, ?yt11⟩) ?rt11
  case yt11 => (intro w' hSw; (try dsimp only at hSw); go_simp; try with_reducible rfl)
  try simp only [Act.put, List.getElem_toArray, List.getElem_cons_zero, List.getElem_cons_succ, List.setIfInBounds_toArray, List.set_cons_zero, List.set_cons_succ]
  refine E_takeR (i := 2) (oi := _) (v := ?vt12) rfl (by kernel_rfl) (by kernel_rfl) (by kernel_rfl) (by decide) (fun _ _ _ h => h) hx (Or.inl ⟨by rfl, ?yt12⟩) ?rt12
  case yt12 => (intro w' hSw; (try dsimp only at hSw); go_simp; try with_reducible rfl)
  try simp only [Act.put, List.getElem_toArray, List.getElem_cons_zero, List.getElem_cons_succ, List.setIfInBounds_toArray, List.set_cons_zero, List.set_cons_succ]
  refine E_takeR (i := 3) (oi := _) (v := ?vt13) rfl (by kernel_rfl) (by kernel_rfl) (by kernel_rfl) (by decide) (fun _ _ _ h => h) hx (Or.inl ⟨by rfl, ?yt13⟩) ?rt13
  case yt13 => (intro w' hSw; (try dsimp only at hSw); go_simp; try with_reducible rfl)
  try simp only [Act.put, List.getElem_toArray, List.getElem_cons_zero, List.getElem_cons_succ, List.setIfInBounds_toArray, List.set_cons_zero, List.set_cons_succ]
  refine E_takeR (i := 4) (oi := _) (v := ?vt14) rfl (by kernel_rfl) (by kernel_rfl) (by kernel_rfl) (by decide) (fun _ _ _ h => h) hx (Or.inl ⟨by rfl, ?yt14⟩) ?rt14
  case yt14 => (intro w' hSw; (try dsimp only at hSw); go_simp; try with_reducible rfl)
  try simp only [Act.put, List.getElem_toArray, List.getElem_cons_zero, List.getElem_cons_succ, List.setIfInBounds_toArray, List.set_cons_zero, List.set_cons_succ]
  refine E_takeR (i := 5) (oi := _) (v := ?vt15) rfl (by kernel_rfl) (by kernel_rfl) (by kernel_rfl) (by decide) (fun _ _ _ h => h) hx (Or.inl ⟨by rfl, ?yt15⟩) ?rt15
  case yt15 => (intro w' hSw; (try dsimp only at hSw); go_simp; try with_reducible rfl)
  try simp only [Act.put, List.getElem_toArray, List.getElem_cons_zero, List.getElem_cons_succ, List.setIfInBounds_toArray, List.set_cons_zero, List.set_cons_succ]
  refine E_takeR (i := 6) (oi := _) (v := ?vt16) rfl (by kernel_rfl) (by kernel_rfl) (by kernel_rfl) (by decide) (fun _ _ _ h => h) hx (Or.inl ⟨by rfl, ?yt16⟩) ?rt16
  case yt16 => (intro w' hSw; (try dsimp only at hSw); go_simp; try with_reducible rfl)
  try simp only [Act.put, List.getElem_toArray, List.getElem_cons_zero, List.getElem_cons_succ, List.setIfInBounds_toArray, List.set_cons_zero, List.set_cons_succ]
  refine E_takeR (i := 7) (oi := _) (v := ?vt17) rfl (by kernel_rfl) (by kernel_rfl) (by kernel_rfl) (by decide) (fun _ _ _ h => h) hx (Or.inl ⟨by rfl, ?yt17⟩) ?rt17
  case yt17 => (intro w' hSw; (try dsimp only at hSw); go_simp; try with_reducible rfl)
  try simp only [Act.put, List.getElem_toArray, List.getElem_cons_zero, List.getElem_cons_succ, List.setIfInBounds_toArray, List.set_cons_zero, List.set_cons_succ]
  refine E_takeR (i := 8) (oi := _) (v := ?vt18) rfl (by kernel_rfl) (by kernel_rfl) (by kernel_rfl) (by decide) (fun _ _ _ h => h) hx (Or.inl ⟨by rfl, ?yt18⟩) ?rt18
  case yt18 => (intro w' hSw; (try dsimp only at hSw); go_simp; try with_reducible rfl)
  try simp only [Act.put, List.getElem_toArray, List.getElem_cons_zero, List.getElem_cons_succ, List.setIfInBounds_toArray, List.set_cons_zero, List.set_cons_succ]
  refine E_takeR (i := 9) (oi := _) (v := ?vt19) rfl (by kernel_rfl) (by kernel_rfl) (by kernel_rfl) (by decide) (fun _ _ _ h => h) hx (Or.inl ⟨by rfl, ?yt19⟩) ?rt19
  case yt19 => (intro w' hSw; (try dsimp only at hSw); go_simp; try with_reducible rfl)
  try simp only [Act.put, List.getElem_toArray, List.getElem_cons_zero, List.getElem_cons_succ, List.setIfInBounds_toArray, List.set_cons_zero, List.set_cons_succ]
  refine E_takeR (i := 10) (oi := _) (v := ?vt20) rfl (by kernel_rfl) (by kernel_rfl) (by kernel_rfl) (by decide) (fun _ _ _ h => h) hx (Or.inl ⟨by rfl, ?yt20⟩) ?rt20
  case yt20 => (intro w' hSw; (try dsimp only at hSw); go_simp; try with_reducible rfl)
  try simp only [Act.put, List.getElem_toArray, List.getElem_cons_zero, List.getElem_cons_succ, List.setIfInBounds_toArray, List.set_cons_zero, List.set_cons_succ]
  refine E_takeR (i := 11) (oi := _) (v := ?vt21) rfl (by kernel_rfl) (by kernel_rfl) (by kernel_rfl) (by decide) (fun _ _ _ h => h) hx (Or.inl ⟨by rfl, ?yt21⟩) ?rt21
  case yt21 => (intro w' hSw; (try dsimp only at hSw); go_simp; try with_reducible rfl)
  try simp only [Act.put, List.getElem_toArray, List.getElem_cons_zero, List.getElem_cons_succ, List.setIfInBounds_toArray, List.set_cons_zero, List.set_cons_succ]
  refine E_takeR (i := 12) (oi := _) (v := ?vt22) rfl (by kernel_rfl) (by kernel_rfl) (by kernel_rfl) (by decide) (fun _ _ _ h => h) hx (Or.inl ⟨by rfl, ?yt22⟩) ?rt22
  case yt22 => (intro w' hSw; (try dsimp only at hSw); go_simp; try with_reducible rfl)
  try simp only [Act.put, List.getElem_toArray, List.getElem_cons_zero, List.getElem_cons_succ, List.setIfInBounds_toArray, List.set_cons_zero, List.set_cons_succ]
  refine E_takeR (i := 13) (oi := _) (v := ?vt23) rfl (by kernel_rfl) (by kernel_rfl) (by kernel_rfl) (by decide) (fun _ _ _ h => h) hx (Or.inl ⟨by rfl, ?yt23⟩) ?rt23
  case yt23 => (intro w' hSw; (try dsimp only at hSw); go_simp; try with_reducible rfl)
  try simp only [Act.put, List.getElem_toArray, List.getElem_cons_zero, List.getElem_cons_succ, List.setIfInBounds_toArray, List.set_cons_zero, List.set_cons_succ]
  refine E_takeR (i := 14) (oi := _) (v := ?vt24) rfl (by kernel_rfl) (by kernel_rfl) (by kernel_rfl) (by decide) (fun _ _ _ h => h) hx (Or.inl ⟨by rfl, ?yt24⟩) ?rt24
  case yt24 => (intro w' hSw; (try dsimp only at hSw); go_simp; try with_reducible rfl)
  try simp only [Act.put, List.getElem_toArray, List.getElem_cons_zero, List.getElem_cons_succ, List.setIfInBounds_toArray, List.set_cons_zero, List.set_cons_succ]
  refine E_takeR (i := 15) (oi := _) (v := ?vt25) rfl (by kernel_rfl) (by kernel_rfl) (by kernel_rfl) (by decide) (fun _ _ _ h => h) hx (Or.inl ⟨by rfl, ?yt25⟩) ?rt25
  case yt25 => (intro w' hSw; (try dsimp only at hSw); go_simp; try with_reducible rfl)
  try simp only [Act.put, List.getElem_toArray, List.getElem_cons_zero, List.getElem_cons_succ, List.setIfInBounds_toArray, List.set_cons_zero, List.set_cons_succ]
  refine E_takeR (i := 16) (oi := _) (v := ?vt26) rfl (by kernel_rfl) (by kernel_rfl) (by kernel_rfl) (by decide) (fun _ _ _ h => h) hx (Or.inl ⟨by rfl, ?yt26⟩) ?rt26
  case yt26 => (intro w' hSw; (try dsimp only at hSw); go_simp; try with_reducible rfl)
  try simp only [Act.put, List.getElem_toArray, List.getElem_cons_zero, List.getElem_cons_succ, List.setIfInBounds_toArray, List.set_cons_zero, List.set_cons_succ]
  refine E_takeR (i := 17) (oi := _) (v := ?vt27) rfl (by kernel_rfl) (by kernel_rfl) (by kernel_rfl) (by decide) (fun _ _ _ h => h) hx (Or.inl ⟨by rfl, ?yt27⟩) ?rt27
  case yt27 => (intro w' hSw; (try dsimp only at hSw); go_simp; try with_reducible rfl)
  try simp only [Act.put, List.getElem_toArray, List.getElem_cons_zero, List.getElem_cons_succ, List.setIfInBounds_toArray, List.set_cons_zero, List.set_cons_succ]
  refine E_step (i := 18) (o := _) (by kernel_rfl) rfl (fun K hK => ?_)
  go_simp
  refine (HFAR.out _).mono ?_
  rintro e w4 ⟨rfl, hb4⟩
  (try dsimp only)
  have hb34 : Below w3.heap.size w3 w4 := hx.1.trans (hb4.mono hx.1.size)
  refine hK.out _ _ (fun _ => HSTE.out w4 hb34) ?_
  clear hK K
  try simp only [Act.put, List.getElem_toArray, List.getElem_cons_zero, List.getElem_cons_succ, List.setIfInBounds_toArray, List.set_cons_zero, List.set_cons_succ]
  have hx4 := HSTE.out w4 hb34
  refine E_takeR (i := 19) (oi := _) (v := ?vt28) rfl (by kernel_rfl) (by kernel_rfl) (by kernel_rfl) (by decide) (fun _ _ _ h => h) hx4 (Or.inl ⟨by rfl, ?yt28⟩) ?rt28
  case yt28 => (intro w' hSw; (try dsimp only at hSw); go_simp; try with_reducible rfl)
  try simp only [Act.put, List.getElem_toArray, List.getElem_cons_zero, List.getElem_cons_succ, List.setIfInBounds_toArray, List.set_cons_zero, List.set_cons_succ]
  refine E_takeR (i := 20) (oi := _) (v := ?vt29) rfl (by kernel_rfl) (by kernel_rfl) (by kernel_rfl) (by decide) (fun _ _ _ h => h) hx4 (Or.inl ⟨by rfl, ?yt29⟩) ?rt29
  case yt29 => (intro w' hSw; (try dsimp only at hSw); go_simp; try with_reducible rfl)
  try simp only [Act.put, List.getElem_toArray, List.getElem_cons_zero, List.getElem_cons_succ, List.setIfInBounds_toArray, List.set_cons_zero, List.set_cons_succ]
  refine E_takeR (i := 21) (oi := _) (v := ?vt30) rfl (by kernel_rfl) (by kernel_rfl) (by kernel_rfl) (by decide) (fun _ _ _ h => h) hx4 (Or.inl ⟨by rfl, ?yt30⟩) ?rt30
  case yt30 => (intro w' hSw; (try dsimp only at hSw); go_simp; try with_reducible rfl)
  try simp only [Act.put, List.getElem_toArray, List.getElem_cons_zero, List.getElem_cons_succ, List.setIfInBounds_toArray, List.set_cons_zero, List.set_cons_succ]
  refine E_step (i := 22) (o := _) (by kernel_rfl) rfl (fun K hK => ?_)
  go_simp
  refine hK.out _ _ (fun _ => hx4) ?_
  clear hK K
  try simp only [Act.put, List.getElem_toArray, List.getElem_cons_zero, List.getElem_cons_succ, List.setIfInBounds_toArray, List.set_cons_zero, List.set_cons_succ]
  refine E_done (by kernel_rfl) ?_ _
  have HBX := Lib.hid (HB13.out.trans (hb34.mono HB13.out.size))
  clear hx hx4 hb4 hb34
  rw [HWA.out]
  obtain ⟨m, hm⟩ : ∃ m, min n (max th.lo y + st * D) = m := ⟨_, rfl⟩
  rw [hm]
  have HM := Lib.hid hm
  clear hm
  go_wp2_with fail
  refine ⟨⟨j + 1, m, by have := HLJ.out; omega, rfl, by simp, by rw [HSTP.out, HFR.out, HM.out], ?_, HBX.out⟩, by have := HLJ.out; simp [intOf]; omega⟩
  have := HM.out
  have := HNR.out
  have := HPOS.out
  have := HYR.out
  have := HTH.out
  omega
end Go.Proofs.YtoigihmgjacbjaaDoor
