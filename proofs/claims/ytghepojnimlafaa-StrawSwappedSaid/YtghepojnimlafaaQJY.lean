/- All loads of a store (straw). The map of chores, and what it holds at a kind. Chores: dry. slices.Values of parts; put of them. -/
import Derived.Test.YtghepojnimlafaaQJR
import Derived.Test.YtghepojnimlafaaQGO
import Derived.Test.YtghepojnimlafaaJIQ
import Derived.Carry
import Derived.WideMake
import Derived.Test.YtghepojnimlafaaQGS
import Derived.Test.YtghepojnimlafaaQGX
namespace Go.Proofs.Ytghepojnimlafaa
section
open Go.RowKit

set_option maxRecDepth 100000 in
set_option maxHeartbeats 4000000 in
theorem allLoads_any (n : Nat) (S : Sto) (w : World) (hS : IsStore w S) (hhk : ∀ h ∈ S.heaps, ∀ p ∈ h.parts, p.ok n) (huk : ∀ p ∈ S.used, p.ok n) (hwk : ∀ p ∈ S.waste, p.ok n) (hfit : S.fit) :
    Calls Try.prog 65 #[stoV S] w fun e w' => e = .returned (.int .i64 (loadsM S.used + loadsM S.waste + heapsM S.heaps)) ∧ Below w.heap.size w w' := by
  obtain ⟨hul, hwl, hhl, hhp⟩ := hfit
  have hll := hS.heaps.len
  unfold stoV
  have hsh := hS.heaps
  have HST := Lib.hid hS
  have hub := loadsM_bd huk
  have hwb := loadsM_bd hwk
  generalize hga : S.ha = sha at *
  have HS := Lib.hid hsh
  have HHK := Lib.hid hhk
  have HHP := Lib.hid hhp
  have HUK := Lib.hid huk
  have HWK := Lib.hid hwk
  clear hS hsh hhk hhp huk hwk
  have kB := Blk.new w 45 #[.int .i64 S.year, .slice S.la S.last.length S.lc, .slice S.ga S.given.length S.gc, .slice sha S.heaps.length S.hc, .slice S.ua S.used.length S.uc, .slice S.wa S.waste.length S.wc]
  have hB : Below w.heap.size w (w.alloc (.cells #[.int .i64 S.year, .slice S.la S.last.length S.lc, .slice S.ga S.given.length S.gc, .slice sha S.heaps.length S.hc, .slice S.ua S.used.length S.uc, .slice S.wa S.waste.length S.wc] 45)) := (Below.refl _ w).alloc (by simp) _
  go_enter Try.func65, Try.ntmps65
  go_upto_region 1 with fail
  generalize (w.alloc (.cells #[.int .i64 S.year, .slice S.la S.last.length S.lc, .slice S.ga S.given.length S.gc, .slice sha S.heaps.length S.hc, .slice S.ua S.used.length S.uc, .slice S.wa S.waste.length S.wc] 45)) = w1 at *
  have d4 : w1.cell? ⟨w.heap.size, 4, none⟩ = some (.slice S.ua S.used.length S.uc) := kB.cell 4
  have d5 : w1.cell? ⟨w.heap.size, 5, none⟩ = some (.slice S.wa S.waste.length S.wc) := kB.cell 5
  have lB := kB.lt
  have HB := Lib.hid hB
  have KB := Lib.hid kB
  have hc1 : ∀ w', Below w1.heap.size w1 w' → Calls Try.prog 63 #[.slice S.ua S.used.length S.uc] w' fun e w'' => e = .returned (.int .i64 (loadsM S.used)) ∧ Below w'.heap.size w' w'' := fun w' h => loadsOf_any n _ _ _ _ ((HST.out.below (HB.out.trans (h.mono HB.out.size))).used) HUK.out hul
  have hc2 : ∀ w', Below w1.heap.size w1 w' → Calls Try.prog 63 #[.slice S.wa S.waste.length S.wc] w' fun e w'' => e = .returned (.int .i64 (loadsM S.waste)) ∧ Below w'.heap.size w' w'' := fun w' h => loadsOf_any n _ _ _ _ ((HST.out.below (HB.out.trans (h.mono HB.out.size))).waste) HWK.out hwl
  have hstep : ∀ w', Below w1.heap.size w1 w' → Below w1.heap.size w1 w' ∧ (w'.cell? ⟨w.heap.size, 4, none⟩ = some (.slice S.ua S.used.length S.uc) ∧ w'.cell? ⟨w.heap.size, 5, none⟩ = some (.slice S.wa S.waste.length S.wc)) := fun w' h => ⟨h, (h.cell (p := ⟨w.heap.size, 4, none⟩) lB).trans d4, (h.cell (p := ⟨w.heap.size, 5, none⟩) lB).trans d5⟩
  have HC1 := Lib.hid hc1
  have HC2 := Lib.hid hc2
  have HSTEP := Lib.hid hstep
  have hu1 : loadsM S.used ≤ 100000000 := by omega
  have hu2 : loadsM S.waste ≤ 100000000 := by omega
  obtain ⟨hu3, _⟩ := hub
  obtain ⟨hu4, _⟩ := hwb
  clear hc1 hc2 hstep d4 d5 kB hB
  generalize hgu : loadsM S.used = U at *
  generalize hgw : loadsM S.waste = Z at *
  have hwr : IntKind.i64.wrap (U + Z) = U + Z := IntWalk.i64_in _ (by omega)
  go_cut [3] from 6 to 13 (fun s3 wx => s3 = .int .i64 (U + Z) ∧ Below w1.heap.size w1 wx)
  case first =>
    go_region_held3 (fun w' => Below w1.heap.size w1 w' ∧ (w'.cell? ⟨w.heap.size, 4, none⟩ = some (.slice S.ua S.used.length S.uc) ∧ w'.cell? ⟨w.heap.size, 5, none⟩ = some (.slice S.wa S.waste.length S.wc)))
      ((refine HSTEP.out _ ?_; repeat (first | (with_reducible exact Below.refl _ _) | (with_reducible refine bel_drew ?_) | (with_reducible refine bel_call ?_ hb5) | (with_reducible exact And.left (by with_reducible assumption)))))
      (first
        | (go_at_call 63; (with_reducible refine (HC1.out _ (And.left (by with_reducible assumption))).mono ?_); rintro r w3 ⟨rfl, hb5⟩)
        | (go_at_call 63; (with_reducible refine (HC2.out _ (And.left (by with_reducible assumption))).mono ?_); rintro r w3 ⟨rfl, hb5⟩))
    all_goals
      go_wp2_with fail
      go_meet
      exact ⟨rfl, And.left (by with_reducible assumption)⟩
  case rest =>
  obtain ⟨rfl, hcx⟩ := hcut
  have HB2 := Lib.hid (HB.out.trans (hcx.mono HB.out.size))
  have KB2 := Lib.hid (KB.out.belowS hcx)
  clear hcx lB
  obtain ⟨w2, rfl⟩ : ∃ w2 : World, w2 = wc := ⟨_, rfl⟩
  have d3 : w2.cell? ⟨w.heap.size, 3, none⟩ = some (.slice sha S.heaps.length S.hc) := KB2.out.cell 3
  have lB := KB2.out.lt
  go_wp2_with fail
  clear d3 lB
  go_loopw [16, 3] (fun k s wr => ∃ (j : Nat) (v : Int), j ≤ S.heaps.length ∧ k = .int .i64 j ∧ s = .int .i64 v ∧ v = U + Z + heapsM (S.heaps.take j) ∧ Below w2.heap.size w2 wr) (fun k _ _ => S.heaps.length - (intOf k).toNat)
  case atStart => exact ⟨0, _, Nat.zero_le _, rfl, rfl, by simp [heapsM], Below.refl _ _⟩
  case round =>
    obtain ⟨j, v, hj, rfl, rfl, hv, hb⟩ := hrel
    have HV := Lib.hid hv
    have HB3 := Lib.hid (HB2.out.trans (hb.mono HB2.out.size))
    by_cases hlj : j < S.heaps.length
    · have hq : S.heaps[j]? = some S.heaps[j] := List.getElem?_eq_getElem hlj
      have hbd := heapsM_bd (ok_takeH HHK.out j) (len_takeH HHP.out j)
      rw [take_len_of hj] at hbd
      have hsn : U + Z + heapsM (S.heaps.take (j + 1)) = v + loadsM S.heaps[j].parts := by rw [take_snoc' hq, heapsM_append, hv]; simp only [heapsM]; omega
      have hob := loadsM_bd (HHK.out _ (List.getElem_mem hlj))
      have hpl := HHP.out _ (List.getElem_mem hlj)
      have hok := HHK.out _ (List.getElem_mem hlj)
      obtain ⟨b, off, hea, hblt, hcap, hcx, ⟨c0, c1, c2, c3, c4, c5, c6⟩, hpp, _⟩ := (HS.out.belowS HB3.out).at hq
      subst hea
      generalize S.heaps[j] = h at *
      obtain ⟨y1, y2⟩ := hob
      obtain ⟨y3, y4⟩ := hbd
      have y5 : 0 ≤ v := by omega
      have y6 : v ≤ 1000000000000 := by omega
      have HSN := Lib.hid hsn
      have HOK := Lib.hid hok
      have hj0 : (0 : Int) ≤ (j : Int) := Int.natCast_nonneg _
      have hj1 : (j : Int) < (S.heaps.length : Int) := by omega
      have kH := Blk.new wr 77 #[.string h.name, .int .i64 h.crop, .int .i64 h.stage, .slice h.pa h.parts.length h.pc, .int .i64 h.per, .int .i64 h.wlo, .int .i64 h.whi]
      have hb1 : Below wr.heap.size wr (wr.alloc (.cells #[.string h.name, .int .i64 h.crop, .int .i64 h.stage, .slice h.pa h.parts.length h.pc, .int .i64 h.per, .int .i64 h.wlo, .int .i64 h.whi] 77)) := (Below.refl _ wr).alloc (Nat.le_refl _) _
      have HPP := Lib.hid (hpp.belowS hb1)
      clear hq hsn hv hok hpp y3 y4
      go_upto_region 5 with fail
      generalize wr.alloc (.cells #[.string h.name, .int .i64 h.crop, .int .i64 h.stage, .slice h.pa h.parts.length h.pc, .int .i64 h.per, .int .i64 h.wlo, .int .i64 h.whi] 77) = w4 at *
      have e3 : w4.cell? ⟨wr.heap.size, 3, none⟩ = some (.slice h.pa h.parts.length h.pc) := kH.cell 3
      have lH := kH.lt
      have HB4 := Lib.hid (hb.trans (hb1.mono hb.size))
      clear c0 c1 c2 c3 c4 c5 c6 hb1 hb hblt kH
      go_wp2_with fail
      refine (loadsOf_any n h.pa h.pc h.parts _ HPP.out HOK.out hpl).mono ?_
      rintro e w5 ⟨rfl, hb5⟩
      go_wp2_with fail
      exact ⟨⟨j + 1, v + loadsM h.parts, by omega, by simp, rfl, HSN.out.symm, HB4.out.trans (hb5.mono HB4.out.size)⟩, by simp [intOf]; omega⟩
    · obtain rfl : j = S.heaps.length := by omega
      rw [List.take_length] at hv
      go_wp2_with fail
      go_ret
      exact ⟨by rw [hv, hgu, hgw]; rfl, HB3.out⟩
end
end Go.Proofs.Ytghepojnimlafaa
namespace Go.Proofs.Ytghepojnimlafaa
section
set_option linter.unusedSimpArgs false
open Go.RowKit

theorem alloc_set (w : World) (o o' : Obj) : { w.alloc o with heap := (w.alloc o).heap.setIfInBounds w.heap.size o' } = w.alloc o' := by
  unfold World.alloc
  simp only
  congr 1
  rw [Array.setIfInBounds_def]
  simp [Array.set_push]
theorem ins_run (w : World) (es : Array MapEntry) (n : Nat) (k : Int) (v : Value) (hk : Instr.findNow (.int .i64) (.int .i64 k) es.toList 0 = some none) :
    (Instr.mapUpdate 99 (.map (some w.heap.size)) (.int .i64 k) v).run Try.prog (w.alloc (.map es n)) = .ok () (w.alloc (.map (es.push { key := .int .i64 k, val := v, born := n }) (n + 1))) := by
  have hb : (w.alloc (.map es n)).heap[w.heap.size]? = some (.map es n) := heap_alloc_new w _
  have hc : (Instr.checkKey false 10000 38 (.int .i64 k)).run Try.prog (w.alloc (.map es n)) = .ok () (w.alloc (.map es n)) := MapKept.run_checkKey (k := .int .i64 k) Try.underlying38 (by simp [MapKept.IsKey]) false 9999
  rw [← alloc_set w (.map es n) (.map (es.push { key := .int .i64 k, val := v, born := n }) (n + 1))]
  simp [Instr.mapUpdate, run_underlying Try.underlying99, MapKept.run_getObj_map hb, hc, MapKept.run_findKey Try.underlying38 hk, MapKept.run_setObj_map _ hb, Result.andThen]

/-- The entries. -/
def chE (k : Int) (f : Nat) (n : Nat) : MapEntry := { key := .int .i64 k, val := .func (.func f) #[] #[], born := n }
def chEs : Array MapEntry := #[chE 1 50 0, chE 2 51 1, chE 3 52 2, chE 4 53 3, chE 5 54 4, chE 6 55 5, chE 7 56 6, chE 8 57 7]
/-- The chore of a kind. -/
def chN (x : Int) : Nat := if x = 1 then 50 else if x = 2 then 51 else if x = 3 then 52 else if x = 4 then 53 else if x = 5 then 54 else if x = 6 then 55 else if x = 7 then 56 else 57

set_option maxRecDepth 100000 in
set_option maxHeartbeats 4000000 in
theorem chores_any (w : World) : Calls Try.prog 44 #[] w fun e w' => e = .returned (.map (some w.heap.size)) ∧ w' = w.alloc (.map chEs 8) := by
  have hmm := @run_makeMap Try.prog
  have h1 := ins_run w #[] 0 1 (.func (.func 50) #[] #[]) rfl
  have h2 := ins_run w #[chE 1 50 0] 1 2 (.func (.func 51) #[] #[]) rfl
  have h3 := ins_run w #[chE 1 50 0, chE 2 51 1] 2 3 (.func (.func 52) #[] #[]) rfl
  have h4 := ins_run w #[chE 1 50 0, chE 2 51 1, chE 3 52 2] 3 4 (.func (.func 53) #[] #[]) rfl
  have h5 := ins_run w #[chE 1 50 0, chE 2 51 1, chE 3 52 2, chE 4 53 3] 4 5 (.func (.func 54) #[] #[]) rfl
  have h6 := ins_run w #[chE 1 50 0, chE 2 51 1, chE 3 52 2, chE 4 53 3, chE 5 54 4] 5 6 (.func (.func 55) #[] #[]) rfl
  have h7 := ins_run w #[chE 1 50 0, chE 2 51 1, chE 3 52 2, chE 4 53 3, chE 5 54 4, chE 6 55 5] 6 7 (.func (.func 56) #[] #[]) rfl
  have h8 := ins_run w #[chE 1 50 0, chE 2 51 1, chE 3 52 2, chE 4 53 3, chE 5 54 4, chE 6 55 5, chE 7 56 6] 7 8 (.func (.func 57) #[] #[]) rfl
  simp only [List.push_toArray, List.cons_append, List.nil_append] at h1 h2 h3 h4 h5 h6 h7 h8
  change _ = Result.ok () (w.alloc (.map #[chE 1 50 0] 1)) at h1
  change _ = Result.ok () (w.alloc (.map #[chE 1 50 0, chE 2 51 1] 2)) at h2
  change _ = Result.ok () (w.alloc (.map #[chE 1 50 0, chE 2 51 1, chE 3 52 2] 3)) at h3
  change _ = Result.ok () (w.alloc (.map #[chE 1 50 0, chE 2 51 1, chE 3 52 2, chE 4 53 3] 4)) at h4
  change _ = Result.ok () (w.alloc (.map #[chE 1 50 0, chE 2 51 1, chE 3 52 2, chE 4 53 3, chE 5 54 4] 5)) at h5
  change _ = Result.ok () (w.alloc (.map #[chE 1 50 0, chE 2 51 1, chE 3 52 2, chE 4 53 3, chE 5 54 4, chE 6 55 5] 6)) at h6
  change _ = Result.ok () (w.alloc (.map #[chE 1 50 0, chE 2 51 1, chE 3 52 2, chE 4 53 3, chE 5 54 4, chE 6 55 5, chE 7 56 6] 7)) at h7
  change _ = Result.ok () (w.alloc (.map chEs 8)) at h8
  go_enter Try.func44, Try.ntmps44
  go_wp2
  go_ret
  exact ⟨rfl, rfl⟩

theorem look_run (w : World) (R : Nat) (x : Int) (v : Option (Nat × Value)) (hb : w.heap[R]? = some (.map chEs 8)) (hk : Instr.findNow (.int .i64) (.int .i64 x) chEs.toList 0 = some v) :
    (Instr.lookup 99 (.map (some R)) (.int .i64 x) true).run Try.prog w = .ok (match v with | some (_, v) => .tuple #[v, .bool true] | none => .tuple #[Value.nilFunc, .bool false]) w := by
  have hc : (Instr.checkKey chEs.isEmpty 10000 38 (.int .i64 x)).run Try.prog w = .ok () w := MapKept.run_checkKey (k := .int .i64 x) Try.underlying38 (by simp [MapKept.IsKey]) _ 9999
  have hz : (zeroValue 97).run Try.prog w = .ok Value.nilFunc w := by kernel_rfl
  cases v with
  | none => simp [Instr.lookup, run_underlying Try.underlying99, MapKept.run_getObj_map hb, hc, MapKept.run_findKey Try.underlying38 hk, hz, Result.andThen]
  | some p => obtain ⟨i, v⟩ := p; simp [Instr.lookup, run_underlying Try.underlying99, MapKept.run_getObj_map hb, hc, MapKept.run_findKey Try.underlying38 hk, Result.andThen]
theorem look_hit (w : World) (R : Nat) (x : Int) (hb : w.heap[R]? = some (.map chEs 8)) (hx : 1 ≤ x ∧ x ≤ 8) :
    (Instr.lookup 99 (.map (some R)) (.int .i64 x) true).run Try.prog w = .ok (.tuple #[.func (.func (chN x)) #[] #[], .bool true]) w := by
  obtain ⟨h1, h2⟩ := hx
  rcases (show x = 1 ∨ x = 2 ∨ x = 3 ∨ x = 4 ∨ x = 5 ∨ x = 6 ∨ x = 7 ∨ x = 8 by omega) with rfl | rfl | rfl | rfl | rfl | rfl | rfl | rfl
  · exact look_run w R 1 (some (0, _)) hb rfl
  · exact look_run w R 2 (some (1, _)) hb rfl
  · exact look_run w R 3 (some (2, _)) hb rfl
  · exact look_run w R 4 (some (3, _)) hb rfl
  · exact look_run w R 5 (some (4, _)) hb rfl
  · exact look_run w R 6 (some (5, _)) hb rfl
  · exact look_run w R 7 (some (6, _)) hb rfl
  · exact look_run w R 8 (some (7, _)) hb rfl
theorem look_miss (w : World) (R : Nat) (x : Int) (hb : w.heap[R]? = some (.map chEs 8)) (hx : ¬ (1 ≤ x ∧ x ≤ 8)) :
    (Instr.lookup 99 (.map (some R)) (.int .i64 x) true).run Try.prog w = .ok (.tuple #[Value.nilFunc, .bool false]) w := by
  refine look_run w R x none hb ?_
  have h : ∀ k : Int, 1 ≤ k → k ≤ 8 → (x == k) = false := fun k h1 h2 => by simp; omega
  simp [chEs, chE, Instr.findNow, Instr.sameNow, h 1, h 2, h 3, h 4, h 5, h 6, h 7, h 8]
end
end Go.Proofs.Ytghepojnimlafaa
namespace Go.Proofs.Ytghepojnimlafaa
section
set_option linter.unusedSimpArgs false
open Go.RowKit

set_option maxRecDepth 100000 in
set_option maxHeartbeats 8000000 in
theorem dry_any (F : Frm) (S : Sto) (a : Chr) (base B : Nat) (w : World) (hH : Hand F base B w S S) (hE : storeE F S = 0) (hfit : S.fit) (hbw : base ≤ w.heap.size) :
    Calls Try.prog 52 #[.pointer (some ⟨B, 0, none⟩), .agg (chrC a)] w (ChoreSaid F base B (dryD S a) w) := by
  obtain ⟨hs1, hs2, hs3, hs4, hs5⟩ := store_ok hE
  have hheap := fun h hm => heap_ok hE hfit (h := h) hm
  obtain ⟨hf1, hf2, hf3, hf4⟩ := hfit
  have hb1 : Below w.heap.size w (w.alloc (.cells (chrC a) 40)) := (Below.refl _ w).alloc (Nat.le_refl _) _
  have kA := Blk.new w 40 (chrC a)
  have hH1 := hH.below hb1
  have hBw := hH.box.lt
  have hrows := fun k hk => (hH.own.ge k hk).2
  have HROWS := Lib.hid hrows
  have hge := fun k hk => (hH.own.ge k hk).1
  have HGE := Lib.hid hge
  have hbB := hH.le
  clear hrows hge
  have hbb := Lib.hid (hb1.mono hbw)
  unfold chrC at hb1 kA hH1 ⊢
  go_enter Try.func52, Try.ntmps52
  go_upto_region 1 with fail
  generalize w.alloc (.cells #[.int .i64 a.kind, .int .i64 a.plot, .int .i64 a.loads, .string a.name, .string a.other, .int .i64 a.days, .int .i64 a.per, .int .i64 a.rlo, .int .i64 a.rhi] 40) = w1 at *
  have e3 : w1.cell? ⟨w.heap.size, 3, none⟩ = some (.string a.name) := kA.cell 3
  have lA := kA.lt
  have HH1 := Lib.hid hH1
  have HB1 := Lib.hid hb1
  have KA := Lib.hid kA
  have HHEAP := Lib.hid hheap
  clear hH hH1 hb1 kA hheap
  have d5 : w1.cell? ⟨B, 5, none⟩ = some (.slice S.ha S.heaps.length S.hc) := HH1.out.box.cell 5
  have lB := HH1.out.box.lt
  have hstep : ∀ w', Below w1.heap.size w1 w' → Below w1.heap.size w1 w' ∧ (w'.cell? ⟨w.heap.size, 3, none⟩ = some (.string a.name) ∧ w'.cell? ⟨B, 5, none⟩ = some (.slice S.ha S.heaps.length S.hc)) :=
    fun w' hb => ⟨hb, (hb.cell (p := ⟨w.heap.size, 3, none⟩) lA).trans e3, (hb.cell (p := ⟨B, 5, none⟩) lB).trans d5⟩
  have hx := hstep w1.drew ((Below.refl _ w1).drew)
  have HST1 := Lib.hid hstep
  clear hstep e3 d5 lA lB
  by_cases hix : 0 ≤ idxH S.heaps a.name
  rotate_left
  · have hv : (dryD S a).1 = 7 := by unfold dryD; rw [if_pos (by omega)]
    have HV := Lib.hid hv
    have HIX := Lib.hid hix
    clear hv hix
    refine wp_region_E 11 (fun w' : World => Below w1.heap.size w1 w' ∧ (w'.cell? ⟨w.heap.size, 3, none⟩ = some (.string a.name) ∧ w'.cell? ⟨B, 5, none⟩ = some (.slice S.ha S.heaps.length S.hc))) (by kernel_rfl) ?_
    refine E_takeR (i := 0) (oi := _) (v := ?v62) rfl (by kernel_rfl) (by kernel_rfl) (by kernel_rfl) (by decide) (fun _ _ _ h => h) hx (Or.inl ⟨by rfl, ?y62⟩) ?r62
    case y62 => (intro w' hSw; (try dsimp only at hSw); go_simp; try with_reducible rfl)
    try simp only [Act.put, List.getElem_toArray, List.getElem_cons_zero, List.getElem_cons_succ, List.setIfInBounds_toArray, List.set_cons_zero, List.set_cons_succ]
    refine E_takeR (i := 1) (oi := _) (v := ?v63) rfl (by kernel_rfl) (by kernel_rfl) (by kernel_rfl) (by decide) (fun _ _ _ h => h) hx (Or.inl ⟨by rfl, ?y63⟩) ?r63
    case y63 => (intro w' hSw; (try dsimp only at hSw); go_simp; try with_reducible rfl)
    try simp only [Act.put, List.getElem_toArray, List.getElem_cons_zero, List.getElem_cons_succ, List.setIfInBounds_toArray, List.set_cons_zero, List.set_cons_succ]
    refine E_takeR (i := 2) (oi := _) (v := ?v64) rfl (by kernel_rfl) (by kernel_rfl) (by kernel_rfl) (by decide) (fun _ _ _ h => h) hx (Or.inl ⟨by rfl, ?y64⟩) ?r64
    case y64 => (intro w' hSw; (try dsimp only at hSw); go_simp; try with_reducible rfl)
    try simp only [Act.put, List.getElem_toArray, List.getElem_cons_zero, List.getElem_cons_succ, List.setIfInBounds_toArray, List.set_cons_zero, List.set_cons_succ]
    refine E_takeR (i := 3) (oi := _) (v := ?v65) rfl (by kernel_rfl) (by kernel_rfl) (by kernel_rfl) (by decide) (fun _ _ _ h => h) hx (Or.inl ⟨by rfl, ?y65⟩) ?r65
    case y65 => (intro w' hSw; (try dsimp only at hSw); go_simp; try with_reducible rfl)
    try simp only [Act.put, List.getElem_toArray, List.getElem_cons_zero, List.getElem_cons_succ, List.setIfInBounds_toArray, List.set_cons_zero, List.set_cons_succ]
    refine E_takeR (i := 4) (oi := _) (v := ?v66) rfl (by kernel_rfl) (by kernel_rfl) (by kernel_rfl) (by decide) (fun _ _ _ h => h) hx (Or.inl ⟨by rfl, ?y66⟩) ?r66
    case y66 => (intro w' hSw; (try dsimp only at hSw); go_simp; try with_reducible rfl)
    try simp only [Act.put, List.getElem_toArray, List.getElem_cons_zero, List.getElem_cons_succ, List.setIfInBounds_toArray, List.set_cons_zero, List.set_cons_succ]
    refine E_takeR (i := 5) (oi := _) (v := ?v67) rfl (by kernel_rfl) (by kernel_rfl) (by kernel_rfl) (by decide) (fun _ _ _ h => h) hx (Or.inl ⟨by rfl, ?y67⟩) ?r67
    case y67 => (intro w' hSw; (try dsimp only at hSw); go_simp; try with_reducible rfl)
    try simp only [Act.put, List.getElem_toArray, List.getElem_cons_zero, List.getElem_cons_succ, List.setIfInBounds_toArray, List.set_cons_zero, List.set_cons_succ]
    refine E_takeR (i := 6) (oi := _) (v := ?v68) rfl (by kernel_rfl) (by kernel_rfl) (by kernel_rfl) (by decide) (fun _ _ _ h => h) hx (Or.inl ⟨by rfl, ?y68⟩) ?r68
    case y68 => (intro w' hSw; (try dsimp only at hSw); go_simp; try with_reducible rfl)
    try simp only [Act.put, List.getElem_toArray, List.getElem_cons_zero, List.getElem_cons_succ, List.setIfInBounds_toArray, List.set_cons_zero, List.set_cons_succ]
    refine E_takeR (i := 7) (oi := _) (v := ?v69) rfl (by kernel_rfl) (by kernel_rfl) (by kernel_rfl) (by decide) (fun _ _ _ h => h) hx (Or.inl ⟨by rfl, ?y69⟩) ?r69
    case y69 => (intro w' hSw; (try dsimp only at hSw); go_simp; try with_reducible rfl)
    try simp only [Act.put, List.getElem_toArray, List.getElem_cons_zero, List.getElem_cons_succ, List.setIfInBounds_toArray, List.set_cons_zero, List.set_cons_succ]
    refine E_step (i := 8) (o := _) (by kernel_rfl) rfl (fun K hK => ?_)
    go_simp
    refine (find_any F S a.name B _ (HH1.out.below hx.1).box (HH1.out.below hx.1).isHeps).mono ?_
    rintro e w2 ⟨hf, hb2⟩
    rcases hf with ⟨hix, rfl⟩ | ⟨_, rfl⟩
    · exact absurd hix HIX.out
    dsimp only
    exact ⟨rfl, ChoreSaid.err 7 HV.out (by decide) (hbb.out.trans ((hx.1.trans (hb2.mono hx.1.size)).mono (Nat.le_trans hbw HB1.out.size)))⟩
  obtain ⟨i, h, hie, hil, hih, _⟩ := idxH_at hix
  have hi0 : (0 : Int) ≤ (i : Int) := Int.natCast_nonneg _
  have hi1 : (i : Int) < (S.heaps.length : Int) := by omega
  obtain ⟨g, hga, hgb, hgl, ⟨hcap, hcx⟩, hcells, hfz, hgB⟩ := HH1.out.hep hih
  have hst2 : ∀ w', Below w1.heap.size w1 w' → Below w1.heap.size w1 w' ∧ (w'.cell? ⟨w.heap.size, 3, none⟩ = some (.string a.name) ∧ w'.cell? ⟨B, 5, none⟩ = some (.slice (some ⟨g, 0, none⟩) S.heaps.length S.hc)) := fun w' hb => by
    have := HST1.out w' hb
    rwa [hga] at this
  have HST2 := Lib.hid hst2
  rw [hga] at hx
  have HGA := Lib.hid hga
  clear hga hst2
  refine wp_region_E 11 (fun w' : World => Below w1.heap.size w1 w' ∧ (w'.cell? ⟨w.heap.size, 3, none⟩ = some (.string a.name) ∧ w'.cell? ⟨B, 5, none⟩ = some (.slice (some ⟨g, 0, none⟩) S.heaps.length S.hc))) (by kernel_rfl) ?_
  refine E_takeR (i := 0) (oi := _) (v := ?v70) rfl (by kernel_rfl) (by kernel_rfl) (by kernel_rfl) (by decide) (fun _ _ _ h => h) hx (Or.inl ⟨by rfl, ?y70⟩) ?r70
  case y70 => (intro w' hSw; (try dsimp only at hSw); go_simp; try with_reducible rfl)
  try simp only [Act.put, List.getElem_toArray, List.getElem_cons_zero, List.getElem_cons_succ, List.setIfInBounds_toArray, List.set_cons_zero, List.set_cons_succ]
  refine E_takeR (i := 1) (oi := _) (v := ?v71) rfl (by kernel_rfl) (by kernel_rfl) (by kernel_rfl) (by decide) (fun _ _ _ h => h) hx (Or.inl ⟨by rfl, ?y71⟩) ?r71
  case y71 => (intro w' hSw; (try dsimp only at hSw); go_simp; try with_reducible rfl)
  try simp only [Act.put, List.getElem_toArray, List.getElem_cons_zero, List.getElem_cons_succ, List.setIfInBounds_toArray, List.set_cons_zero, List.set_cons_succ]
  refine E_takeR (i := 2) (oi := _) (v := ?v72) rfl (by kernel_rfl) (by kernel_rfl) (by kernel_rfl) (by decide) (fun _ _ _ h => h) hx (Or.inl ⟨by rfl, ?y72⟩) ?r72
  case y72 => (intro w' hSw; (try dsimp only at hSw); go_simp; try with_reducible rfl)
  try simp only [Act.put, List.getElem_toArray, List.getElem_cons_zero, List.getElem_cons_succ, List.setIfInBounds_toArray, List.set_cons_zero, List.set_cons_succ]
  refine E_takeR (i := 3) (oi := _) (v := ?v73) rfl (by kernel_rfl) (by kernel_rfl) (by kernel_rfl) (by decide) (fun _ _ _ h => h) hx (Or.inl ⟨by rfl, ?y73⟩) ?r73
  case y73 => (intro w' hSw; (try dsimp only at hSw); go_simp; try with_reducible rfl)
  try simp only [Act.put, List.getElem_toArray, List.getElem_cons_zero, List.getElem_cons_succ, List.setIfInBounds_toArray, List.set_cons_zero, List.set_cons_succ]
  refine E_takeR (i := 4) (oi := _) (v := ?v74) rfl (by kernel_rfl) (by kernel_rfl) (by kernel_rfl) (by decide) (fun _ _ _ h => h) hx (Or.inl ⟨by rfl, ?y74⟩) ?r74
  case y74 => (intro w' hSw; (try dsimp only at hSw); go_simp; try with_reducible rfl)
  try simp only [Act.put, List.getElem_toArray, List.getElem_cons_zero, List.getElem_cons_succ, List.setIfInBounds_toArray, List.set_cons_zero, List.set_cons_succ]
  refine E_takeR (i := 5) (oi := _) (v := ?v75) rfl (by kernel_rfl) (by kernel_rfl) (by kernel_rfl) (by decide) (fun _ _ _ h => h) hx (Or.inl ⟨by rfl, ?y75⟩) ?r75
  case y75 => (intro w' hSw; (try dsimp only at hSw); go_simp; try with_reducible rfl)
  try simp only [Act.put, List.getElem_toArray, List.getElem_cons_zero, List.getElem_cons_succ, List.setIfInBounds_toArray, List.set_cons_zero, List.set_cons_succ]
  refine E_takeR (i := 6) (oi := _) (v := ?v76) rfl (by kernel_rfl) (by kernel_rfl) (by kernel_rfl) (by decide) (fun _ _ _ h => h) hx (Or.inl ⟨by rfl, ?y76⟩) ?r76
  case y76 => (intro w' hSw; (try dsimp only at hSw); go_simp; try with_reducible rfl)
  try simp only [Act.put, List.getElem_toArray, List.getElem_cons_zero, List.getElem_cons_succ, List.setIfInBounds_toArray, List.set_cons_zero, List.set_cons_succ]
  refine E_takeR (i := 7) (oi := _) (v := ?v77) rfl (by kernel_rfl) (by kernel_rfl) (by kernel_rfl) (by decide) (fun _ _ _ h => h) hx (Or.inl ⟨by rfl, ?y77⟩) ?r77
  case y77 => (intro w' hSw; (try dsimp only at hSw); go_simp; try with_reducible rfl)
  try simp only [Act.put, List.getElem_toArray, List.getElem_cons_zero, List.getElem_cons_succ, List.setIfInBounds_toArray, List.set_cons_zero, List.set_cons_succ]
  refine E_step (i := 8) (o := _) (by kernel_rfl) rfl (fun K hK => ?_)
  go_simp
  refine (find_any F S a.name B _ (HH1.out.below hx.1).box (HH1.out.below hx.1).isHeps).mono ?_
  rintro e w2 ⟨hf, hb2'⟩
  rcases hf with ⟨_, rfl⟩ | ⟨hix2, rfl⟩
  rotate_left
  · exact absurd hix (by omega)
  rw [hie]
  dsimp only
  have hb2 : Below w1.heap.size w1 w2 := hx.1.trans (hb2'.mono hx.1.size)
  have hx2 := HST2.out w2 hb2
  refine hK.out _ _ (fun _ => hx2) ?_
  clear hK K
  try simp only [Act.put]
  refine E_takeR (i := 9) (oi := _) (v := ?v78) rfl (by kernel_rfl) (by kernel_rfl) (by kernel_rfl) (by decide) (fun _ _ _ h => h) hx2 (Or.inl ⟨by rfl, ?y78⟩) ?r78
  case y78 => (intro w' hSw; (try dsimp only at hSw); go_simp; try with_reducible rfl)
  try simp only [Act.put, List.getElem_toArray, List.getElem_cons_zero, List.getElem_cons_succ, List.setIfInBounds_toArray, List.set_cons_zero, List.set_cons_succ]
  refine E_takeR (i := 10) (oi := _) (v := ?v79) rfl (by kernel_rfl) (by kernel_rfl) (by kernel_rfl) (by decide) (fun _ _ _ h => h) hx2 (Or.inl ⟨by rfl, ?y79⟩) ?r79
  case y79 => (intro w' hSw; (try dsimp only at hSw); go_simp; try with_reducible rfl)
  try simp only [Act.put, List.getElem_toArray, List.getElem_cons_zero, List.getElem_cons_succ, List.setIfInBounds_toArray, List.set_cons_zero, List.set_cons_succ]
  refine E_done (by kernel_rfl) ?_ _
  have hat := hepAt_of hie hih
  have hH2 := HH1.out.below hb2
  have kA2 := KA.out.belowS hb2
  obtain ⟨_, _, _, _, _, hwt⟩ := HHEAP.out h (List.mem_of_getElem? hih)
  obtain ⟨hw1, hw2, hw3⟩ := hwt
  have hgl2 := Nat.lt_of_lt_of_le hgl hb2.size
  have hcel : ∀ j, j < 7 → w2.cell? ⟨g, i * 7 + j, none⟩ = (cellsHep h)[j]? := fun j hj => (hb2.cell (p := ⟨g, i * 7 + j, none⟩) hgl).trans (hcells j hj)
  have c2 : w2.cell? ⟨g, i * 7 + 2, none⟩ = some (.int .i64 h.stage) := hcel 2 (by omega)
  have c5 : w2.cell? ⟨g, i * 7 + 5, none⟩ = some (.int .i64 h.wlo) := hcel 5 (by omega)
  have c6 : w2.cell? ⟨g, i * 7 + 6, none⟩ = some (.int .i64 h.whi) := hcel 6 (by omega)
  have hsz2 := Nat.le_trans HB1.out.size hb2.size
  have HBB2 := Lib.hid (hbb.out.trans (hb2.mono (Nat.le_trans hbw HB1.out.size)))
  have a5 : w2.cell? ⟨w.heap.size, 5, none⟩ = some (.int .i64 a.days) := kA2.cell 5
  have a7 : w2.cell? ⟨w.heap.size, 7, none⟩ = some (.int .i64 a.rlo) := kA2.cell 7
  have a8 : w2.cell? ⟨w.heap.size, 8, none⟩ = some (.int .i64 a.rhi) := kA2.cell 8
  have lA := kA2.lt
  have HIX := Lib.hid hix
  have HIE := Lib.hid hie
  have HIH := Lib.hid hih
  have HAT := Lib.hid hat
  have HH2 := Lib.hid hH2
  have KA2 := Lib.hid kA2
  have HFZ := Lib.hid (fun j => (World.frozen?_of_block (a := ⟨g, j, none⟩) (hb2.block g hgl)).trans (hfz j))
  clear hix hie hih hat hH2 kA2 hcells hcel hfz hb2 hb2' hx hx2 hcap hcx
  by_cases h3 : h.stage = 3
  · have q3 : (h.stage == 3) = true := by simp [h3]
    have q3' : (h.stage != 3) = false := by simp [h3]
    have hv : (dryD S a).1 = 8 := by unfold dryD; rw [HAT.out, if_neg (by have := HIX.out; omega), if_pos h3]
    have HV := Lib.hid hv
    clear hv h3
    go_wp2_with fail
    refine (require_no 8 _).mono ?_
    rintro e w4 ⟨rfl, rfl⟩
    go_wp2_with fail
    exact ⟨rfl, ChoreSaid.err 8 HV.out (by decide) HBB2.out⟩
  have q3 : (h.stage == 3) = false := by simp [h3]
  have q3' : (h.stage != 3) = true := by simp [h3]
  have H3 := Lib.hid h3
  clear h3
  go_wp2_with fail
  refine (require_yes 8 _).mono ?_
  rintro e w4 ⟨rfl, rfl⟩
  go_wp2_with fail
  refine (isFrom_any a.days 0 365 _).mono ?_
  rintro e w5 ⟨rfl, rfl⟩
  cases h9 : isFromB a.days 0 365 with
  | false =>
    have hv : (dryD S a).1 = 1 := by unfold dryD; rw [HAT.out, if_neg (by have := HIX.out; omega), if_neg H3.out, if_pos (fun h => by rw [h9] at h; cases h.1)]
    have HV := Lib.hid hv
    clear hv h9
    go_wp2_with fail
    refine (require_no 1 _).mono ?_
    rintro e w4 ⟨rfl, rfl⟩
    go_wp2_with fail
    exact ⟨rfl, ChoreSaid.err 1 HV.out (by decide) HBB2.out⟩
  | true =>
    have H9 := Lib.hid h9
    clear h9
    go_wp2_with fail
    refine (isSpan_any a.rlo a.rhi 0 100 _).mono ?_
    rintro e w6 ⟨rfl, hb6⟩
    cases h10 : isSpanB a.rlo a.rhi 0 100 with
    | false =>
      have hv : (dryD S a).1 = 1 := by unfold dryD; rw [HAT.out, if_neg (by have := HIX.out; omega), if_neg H3.out, if_pos (fun h => by rw [h10] at h; cases h.2)]
      have HV := Lib.hid hv
      have HB6 := Lib.hid hb6
      clear hv h10 hb6
      go_wp2_with fail
      refine (require_no 1 _).mono ?_
      rintro e w4 ⟨rfl, rfl⟩
      go_wp2_with fail
      exact ⟨rfl, ChoreSaid.err 1 HV.out (by decide) (HBB2.out.trans (HB6.out.mono (Nat.le_trans hbw hsz2)))⟩
    | true =>
      obtain ⟨hr1, hr2, hr3⟩ := isSpanB_iff.1 h10
      obtain ⟨hd1, hd2⟩ := isFromB_iff.1 H9.out
      have hv : dryD S a = (0, { S with heaps := S.heaps.set i { h with wlo := moistM (h.wlo - 20 * a.days + 5 * a.rlo), whi := moistM (h.whi - 10 * a.days + 15 * a.rhi) } }) := by
        unfold dryD; rw [HAT.out, if_neg (by have := HIX.out; omega), if_neg H3.out, if_neg (fun h => h ⟨H9.out, h10⟩), HIE.out]; rfl
      have HV := Lib.hid hv
      have hgl6 := Nat.lt_of_lt_of_le hgl2 hb6.size
      have c56 := (hb6.cell (p := ⟨g, i * 7 + 5, none⟩) hgl2).trans c5
      have c66 := (hb6.cell (p := ⟨g, i * 7 + 6, none⟩) hgl2).trans c6
      have a56 := (hb6.cell (p := ⟨w.heap.size, 5, none⟩) lA).trans a5
      have a76 := (hb6.cell (p := ⟨w.heap.size, 7, none⟩) lA).trans a7
      have a86 := (hb6.cell (p := ⟨w.heap.size, 8, none⟩) lA).trans a8
      have lA6 := Nat.lt_of_lt_of_le lA hb6.size
      have hsz6 := Nat.le_trans hsz2 hb6.size
      have HH6 := Lib.hid (HH2.out.below hb6)
      have HBB6 := Lib.hid (HBB2.out.trans (hb6.mono (Nat.le_trans hbw hsz2)))
      have HFZ6 := Lib.hid (fun j => (World.frozen?_of_block (a := ⟨g, j, none⟩) (hb6.block g hgl2)).trans (HFZ.out j))
      have n1 : IntKind.i64.wrap (20 * a.days) = 20 * a.days := IntWalk.i64_in _ (by omega)
      have n2 : IntKind.i64.wrap (h.wlo - 20 * a.days) = h.wlo - 20 * a.days := IntWalk.i64_in _ (by omega)
      have n3 : IntKind.i64.wrap (5 * a.rlo) = 5 * a.rlo := IntWalk.i64_in _ (by omega)
      have n4 : IntKind.i64.wrap (h.wlo - 20 * a.days + 5 * a.rlo) = h.wlo - 20 * a.days + 5 * a.rlo := IntWalk.i64_in _ (by omega)
      have m1 : IntKind.i64.wrap (10 * a.days) = 10 * a.days := IntWalk.i64_in _ (by omega)
      have m2 : IntKind.i64.wrap (h.whi - 10 * a.days) = h.whi - 10 * a.days := IntWalk.i64_in _ (by omega)
      have m3 : IntKind.i64.wrap (15 * a.rhi) = 15 * a.rhi := IntWalk.i64_in _ (by omega)
      have m4 : IntKind.i64.wrap (h.whi - 10 * a.days + 15 * a.rhi) = h.whi - 10 * a.days + 15 * a.rhi := IntWalk.i64_in _ (by omega)
      clear hv h10 c2 c5 c6 a5 a7 a8 lA hb6 hgl2
      go_wp2_with fail
      refine (require_yes 1 _).mono ?_
      rintro e w7 ⟨rfl, rfl⟩
      go_upto_region 4 with fail
      go_quiet (fail)
      have hq1 : Below w7.heap.size w7 (w7.drewN nq) := below_drewN' _ _ _
      generalize w7.drewN nq = w8 at *
      have hgl8 := Nat.lt_of_lt_of_le hgl6 hq1.size
      have d56 := (hq1.cell (p := ⟨g, i * 7 + 5, none⟩) hgl6).trans c56
      have d66 := (hq1.cell (p := ⟨g, i * 7 + 6, none⟩) hgl6).trans c66
      have b56 := (hq1.cell (p := ⟨w.heap.size, 5, none⟩) lA6).trans a56
      have b86 := (hq1.cell (p := ⟨w.heap.size, 8, none⟩) lA6).trans a86
      have lA8 := Nat.lt_of_lt_of_le lA6 hq1.size
      have hsz8 := Nat.le_trans hsz6 hq1.size
      have HH8 := Lib.hid (HH6.out.below hq1)
      have HBB8 := Lib.hid (HBB6.out.trans (hq1.mono (Nat.le_trans hbw hsz6)))
      have HFZ8 := Lib.hid (fun j => (World.frozen?_of_block (a := ⟨g, j, none⟩) (hq1.block g hgl6)).trans (HFZ6.out j))
      clear c56 c66 a56 a76 a86 lA6 hgl6 hq1
      go_upto_region 5 with fail
      go_quiet (fail)
      have hq2 : Below w8.heap.size w8 (w8.drewN nq) := below_drewN' _ _ _
      generalize w8.drewN nq = w9 at *
      have hgl9 := Nat.lt_of_lt_of_le hgl8 hq2.size
      have d59 := (hq2.cell (p := ⟨g, i * 7 + 5, none⟩) hgl8).trans d56
      have d69 := (hq2.cell (p := ⟨g, i * 7 + 6, none⟩) hgl8).trans d66
      have hsz9 := Nat.le_trans hsz8 hq2.size
      have hH9 := HH8.out.below hq2
      have HH9 := Lib.hid hH9
      have HBB9 := Lib.hid (HBB8.out.trans (hq2.mono (Nat.le_trans hbw hsz8)))
      have hfz9 := (fun j => (World.frozen?_of_block (a := ⟨g, j, none⟩) (hq2.block g hgl8)).trans (HFZ8.out j))
      have z5 := hfz9 (i * 7 + 5)
      have z6 := hfz9 (i * 7 + 6)
      have x1 := set_hand (j := 5) (y := { h with wlo := moistM (h.wlo - 20 * a.days + 5 * a.rlo) }) (v := .int .i64 (moistM (h.wlo - 20 * a.days + 5 * a.rlo))) hH9 HIH.out HGA.out (by omega) rfl rfl rfl rfl rfl
      have hih2 : (S.heaps.set i { h with wlo := moistM (h.wlo - 20 * a.days + 5 * a.rlo) })[i]? = some { h with wlo := moistM (h.wlo - 20 * a.days + 5 * a.rlo) } := by simp [hil]
      have x2 := set_hand (j := 6) (y := { h with wlo := moistM (h.wlo - 20 * a.days + 5 * a.rlo), whi := moistM (h.whi - 10 * a.days + 15 * a.rhi) }) (v := .int .i64 (moistM (h.whi - 10 * a.days + 15 * a.rhi))) x1 hih2 HGA.out (by omega) rfl rfl rfl rfl rfl
      have hset : (S.heaps.set i { h with wlo := moistM (h.wlo - 20 * a.days + 5 * a.rlo) }).set i { h with wlo := moistM (h.wlo - 20 * a.days + 5 * a.rlo), whi := moistM (h.whi - 10 * a.days + 15 * a.rhi) } = S.heaps.set i { h with wlo := moistM (h.wlo - 20 * a.days + 5 * a.rlo), whi := moistM (h.whi - 10 * a.days + 15 * a.rhi) } := by simp
      simp only [hset] at x2
      have X2 := Lib.hid x2
      clear d56 d66 b56 b86 lA8 hgl8 hq2 hH9 hfz9 x1 x2 hset hih2
      go_wp2_with fail
      refine (moisture_any _ _).mono ?_
      rintro e w10 ⟨rfl, rfl⟩
      go_wp2_with fail
      refine (moisture_any _ _).mono ?_
      rintro e w11 ⟨rfl, rfl⟩
      generalize hm1 : moistM (h.wlo - 20 * a.days + 5 * a.rlo) = M1 at *
      generalize hm2 : moistM (h.whi - 10 * a.days + 15 * a.rhi) = M2 at *
      go_wp2_with fail
      go_end0
      refine ⟨.inl ⟨by rw [HV.out], rfl, _, ?_, X2.out⟩, HBB9.out.trans (((Below.refl _ w9).setCell (p := ⟨g, i * 7 + 5, none⟩) hgb _).setCell (p := ⟨g, i * 7 + 6, none⟩) hgb _)⟩
      rw [HV.out]
      exact SameSto.refl _
end
end Go.Proofs.Ytghepojnimlafaa
namespace Go.Proofs.Ytghepojnimlafaa
section
open Go.RowKit Go.Shelf
attribute [local go_sem] Oper.semAt_some

theorem values_any (a : Option Addr) (n c : Nat) (w : World) :
    Calls Try.prog 71 #[.slice a n c] w fun e w' => e = .returned (.func (.func 75) #[] #[.pointer (some ⟨w.heap.size, 0, none⟩)]) ∧
      w' = w.alloc (.cells #[.slice a n c] 43) := by
  go_enter Try.func71, Try.ntmps71
  go_wp2
  go_ret
  exact ⟨rfl, rfl⟩

set_option maxRecDepth 100000 in
set_option maxHeartbeats 4000000 in
theorem values1_in (n : Nat) (hn : 1 ≤ n) (L Ba : Nat) (a : Option Addr) (c : Nat) (S : Nat → Prop) (l : List Prt)
    (hok : ∀ p ∈ l, 1 ≤ p.loads ∧ p.loads ≤ 100000) (hBa : S Ba) (J Jx : List Por → World → Prop)
    (hY : ∀ pre x W, J pre W → pre.length < l.length → YieldAt Fence.wide (n - 1) Try.prog L (encP x) W fun e W' =>
      (e = .returned (.bool true) ∧ J (pre ++ [x]) W' ∧ Keeps S W W') ∨ (e = .returned (.bool false) ∧ Jx (pre ++ [x]) W'))
    (hJ : ∀ pre A B, J pre A → Below A.heap.size A B → J pre B)
    (W : World) (hS : ∀ k, S k → k < W.heap.size) (ca : W.cell? ⟨Ba, 0, none⟩ = some (.slice a l.length c)) (hc : PrtsIn S W a c l) (h0 : J [] W) :
    CallsIn Fence.wide n Try.prog 75 #[.func (.yield L) #[] #[], .pointer (some ⟨Ba, 0, none⟩)] W fun e W' => (∃ v, e = .returned v) ∧
      ((∃ ys : List Por, ys.map (·.1) = l ∧ J ys W') ∨ (∃ pre : List Por, (∃ q, pre.map (·.1) ++ q = l) ∧ Jx pre W')) := by
  have lBa := hS _ hBa
  have hll : l.length ≤ 9223372036854775807 := by
    rcases hc with rfl | ⟨_, _, _, _, h1, h2, _⟩
    · simp
    · omega
  refine callsIn_of_wp Try.func75 rfl trivial ?_ rfl
  simp only [Try.ntmps75, List.size_toArray, List.length_cons, List.length_nil, Nat.reduceAdd, Nat.reduceSub, Array.replicate_succ, Array.replicate_zero, List.push_toArray, List.append_toArray, List.nil_append, List.cons_append]
  have HJ := Lib.hid hJ
  have HY := Lib.hid hY
  have HC := Lib.hid hc
  have HOK := Lib.hid hok
  clear hJ hY hc hok
  gi_wp2_with fail
  gi_loopw [7] (fun i wr => ∃ (j : Nat) (pre : List Por), j ≤ l.length ∧ i = .int .i64 j ∧ pre.length = j ∧ pre.map (·.1) = l.take j ∧ J pre wr ∧ Keeps S W wr) (fun i _ => l.length - (intOf i).toNat)
  case atStart => exact ⟨0, [], Nat.zero_le _, rfl, rfl, by simp, h0, Keeps.refl _ _⟩
  case round =>
    obtain ⟨j, pre, hj, rfl, hpl, heq, hJs, hkr⟩ := hrel
    by_cases hlj : j < l.length
    · have hq : l[j]? = some l[j] := List.getElem?_eq_getElem hlj
      obtain ⟨y0, y1⟩ := HOK.out _ (List.getElem_mem hlj)
      obtain ⟨b, off, hea, hSb, hcap, hcx, p0, p1⟩ := (HC.out.keep hkr).at hq
      have hst : l.take (j + 1) = l.take j ++ [l[j]] := by rw [List.take_add_one, hq]; rfl
      have hbl := (hkr.lt hS) b hSb
      subst hea
      generalize l[j] = p at *
      obtain ⟨pl, ld⟩ := p
      dsimp only at y0 y1 p0 p1
      have HEQ := Lib.hid heq
      have HST := Lib.hid hst
      have HJS := Lib.hid hJs
      have hj0 : (0 : Int) ≤ (j : Int) := Int.natCast_nonneg _
      have hj1 : (j : Int) < (l.length : Int) := by omega
      have kP := Blk.new wr 80 #[.int .i64 pl, .int .i64 ld]
      have hb1 : Below wr.heap.size wr (wr.alloc (.cells #[.int .i64 pl, .int .i64 ld] 80)) := (Below.refl _ _).alloc (Nat.le_refl _) _
      clear hq hst heq hJs
      gi_upto_region 3 with fail
      generalize wr.alloc (.cells #[.int .i64 pl, .int .i64 ld] 80) = w1 at *
      have lP := kP.lt
      have e0 := kP.cell 0
      have e1 := kP.cell 1
      simp only [List.getElem?_toArray, List.getElem?_cons_zero, List.getElem?_cons_succ] at e0 e1
      have hk1 := hkr.trans (Keeps.of_below hb1 (hkr.lt hS))
      obtain ⟨fn, tmps, assign, body, hy, hR⟩ := HY.out pre ⟨⟨pl, ld⟩, y0, y1⟩ w1 (HJ.out pre wr w1 HJS.out hb1) (by omega)
      dsimp only [encP] at hy
      gi_wp2_with fail
      refine hR.mono ?_
      rintro e W3 (⟨rfl, hJ3, hk3⟩ | ⟨rfl, hJx3⟩)
      · gi_wp2
        go_roundw
        case rel => exact ⟨j + 1, pre ++ [⟨⟨pl, ld⟩, _⟩], by omega, by simp, by simp; omega, by rw [HST.out, ← HEQ.out]; simp, hJ3, hk1.trans hk3⟩
        case measure => simp [intOf]; omega
      · gi_wp2
        refine bodyPost_ret (results_none rfl _ _ _) rfl ?_
        exact ⟨⟨_, rfl⟩, .inr ⟨_, ⟨l.drop (j + 1), by rw [List.map_append, HEQ.out]; simp only [List.map_cons, List.map_nil]; rw [← HST.out, List.take_append_drop]⟩, hJx3⟩⟩
    · obtain rfl : j = l.length := by omega
      rw [List.take_length] at heq
      have HEQ := Lib.hid heq
      clear heq
      gi_wp2
      go_end0
      exact ⟨⟨_, rfl⟩, .inl ⟨pre, HEQ.out, hJs⟩⟩

/-- The range over parts keeps its word to every loop body that keeps the parts' blocks. -/
theorem values_stops (n : Nat) (hn : 1 ≤ n) (Ba : Nat) (a : Option Addr) (c : Nat) (S : Nat → Prop) (l : List Prt)
    (hok : ∀ p ∈ l, 1 ≤ p.loads ∧ p.loads ≤ 100000) (hBa : S Ba) (w : World) (hS : ∀ k, S k → k < w.heap.size)
    (ca : w.cell? ⟨Ba, 0, none⟩ = some (.slice a l.length c)) (hc : PrtsIn S w a c l) :
    SeqStopsK Fence.wide n Try.prog 75 #[.pointer (some ⟨Ba, 0, none⟩)] encP (Keeps S) (fun ys => ys.map (·.1) = l)
      (fun pre => ∃ q, pre.map (·.1) ++ q = l) l.length w := fun L J Jx W hW hJ _ hY h0 => by
  have hW' := Keeps.of_below hW hS
  exact values1_in n hn L Ba a c S l hok hBa J Jx hY
    (fun pre A B hs hb' => hJ pre A B none hs ⟨hb'.os, hb'.tape, hb'.output, hb'.size, fun k hk _ => hb'.block k hk⟩ (fun r e => by cases e))
    W (hW'.lt hS) ((hW'.cell (p := ⟨Ba, 0, none⟩) hBa).trans ca) (hc.keep hW') h0


set_option maxRecDepth 100000 in
set_option maxHeartbeats 8000000 in
theorem putV_any (base : Nat) (S : Nat → Prop) (a0 : Option Addr) (c0 : Nat) (l0 : List Prt) (m : Int) (lb : Array Value) (N : Nat) (ys : List Prt) (Sp : List Por → Prop) (w : World)
    (hown : w.ownsRow base 80 2 (.slice a0 l0.length c0) l0.length (l0.flatMap cellsPrt)) (hrow : ∀ k, a0.map (·.block) = some k → ¬ S k) (hbase : base ≤ w.heap.size) (hS : ∀ k, S k → k < w.heap.size)
    (hl0 : ∀ q ∈ l0, 0 ≤ q.loads ∧ q.loads ≤ m) (hm0 : 0 ≤ m) (hm : m ≤ 1000000000000) (hlen : l0.length ≤ 100000) (hN : N ≤ 100000)
    (hseq : SeqStopsK Fence.wide 4 Try.prog 75 lb encP (Keeps S) (fun q => q.map (·.1) = ys) Sp N w) :
    Calls Try.prog 70 #[.slice a0 l0.length c0, .func (.func 75) #[] lb] w fun e w' => ∃ a c, e = .returned (.slice a (putL l0 ys).length c) ∧ w'.ownsRow base 80 2 (.slice a (putL l0 ys).length c) (putL l0 ys).length ((putL l0 ys).flatMap cellsPrt) ∧
      (∀ k, a.map (·.block) = some k → ¬ S k) ∧ Below base w w' ∧ Keeps S w w' := by
  obtain ⟨i0, hi, hz0, hz1, hz2⟩ := info_parts info_portion
  refine (callsIn_wide (n := 5)).1 ?_
  refine callsIn_of_wp_marks Try.func70 rfl trivial ?_ rfl
  simp only [Try.ntmps70, List.size_toArray, List.length_cons, List.length_nil, Nat.reduceAdd, Nat.reduceSub, Array.replicate_succ, Array.replicate_zero, List.push_toArray, List.append_toArray, List.nil_append, List.cons_append]
  gi_wp2
  have kL := Blk.new w 43 #[.slice a0 l0.length c0]
  have hb1 : Below w.heap.size w (w.alloc (.cells #[.slice a0 l0.length c0] 43)) := (Below.refl _ w).alloc (Nat.le_refl _) _
  have hsz : (w.alloc (.cells #[.slice a0 l0.length c0] 43)).heap.size = w.heap.size + 1 := by simp
  have hI0 : PutI base w.heap.size S w l0 [] (w.alloc (.cells #[.slice a0 l0.length c0] 43)) :=
    ⟨⟨a0, c0, kL, hown.alloc _, fun k hk => ⟨fun e => by have := (hown.lt k (by rw [rowOf_own']; exact hk)).2; omega, hrow k hk⟩⟩, hb1.mono hbase, Keeps.of_below hb1 hS⟩
  have HSZ := Lib.hid hsz
  obtain ⟨w1, hw1⟩ : ∃ w1, w.alloc (.cells #[.slice a0 l0.length c0] 43) = w1 := ⟨_, rfl⟩
  rw [hw1] at hI0 hb1 HSZ ⊢
  clear kL hsz hw1 hown hrow
  refine wpIn_rangeFunc_ownH rfl (by omega) (gf := 75) (lb := lb) rfl trivial (enters_of Try.func75 (by kernel_rfl) rfl)
    hseq (fun h k => h.trans k) (keeps_b (w := w1) (fun k hk => by have := hS k hk; have := HSZ.out; omega)) hb1 (fun _ => rfl)
    (PutI base w.heap.size S w l0) (fun _ _ _ => False) (PutI.own hbase (by have := HSZ.out; omega) hS) (fun _ _ _ _ _ hs _ _ => hs) hI0
    (fun x a' W => ∃ Bx, w.heap.size < Bx ∧ Blk W Bx #[.int .i64 x.1.plot, .int .i64 x.1.loads] 80 ∧ a' = { tmps := #[.slice a0 l0.length c0, .func (.func 75) #[] lb, .pointer (some ⟨w.heap.size, 0, none⟩), undef, .slice none 0 0, .pointer (some ⟨Bx, 0, none⟩), undef, .func (.func 75) #[] lb, .agg #[.int .i64 x.1.plot, .int .i64 x.1.loads], undef, undef, undef, undef, undef, undef, undef, undef, undef, undef, undef, undef, undef, undef, undef, undef, undef, undef, undef, undef, undef, undef, undef, undef, undef, undef, undef, undef, undef, undef], defers := [] })
    (fun x a' s X Y row hs hg hr => by obtain ⟨Bx, h1, h2, h3⟩ := hs; exact ⟨Bx, h1, own_blk w1.heap.size Bx _ (fun _ : Unit => #[.int .i64 x.1.plot, .int .i64 x.1.loads]) () X Y row h2 hg hr, h3⟩)
    ?assign ?body ?done ?stop
  case assign =>
    intro L pre x W K hi' hK
    unfold encP
    gi_wp2
    have hWs : w.heap.size < W.heap.size := by have := hi'.keeps.size; obtain ⟨_, _, k, _⟩ := hi'.row; exact k.lt
    exact hK _ _ ((KeepsOthers.alloc _ _).from _) ⟨by simp, fun k hk => Below.heap_alloc _ _ _ (hi'.keeps.lt hS k hk)⟩ (PutI.own (w1 := w) hbase (Nat.le_refl _) hS |>.alloc _ hi') ⟨W.heap.size, hWs, Blk.new _ _ _, rfl⟩
  case body =>
    rintro L pre ⟨⟨pl, ld⟩, hp1, hp2⟩ a' W hL ⟨r, hr⟩ ⟨⟨a, c, kL, hown, hrow⟩, hbel, hkp⟩ ⟨Bx, hBx, kX, rfl⟩ hlt
    dsimp only at hp1 hp2 kX ⊢
    have hps := putL_snoc l0 (pre.map (·.1)) ⟨pl, ld⟩
    have hpl := putL_len l0 (pre.map (·.1))
    have hpb := putL_bd l0 pre hl0 hm0
    rw [List.length_map] at hpl
    have hmap : ((pre ++ [⟨⟨pl, ld⟩, hp1, hp2⟩] : List Por).map (·.1)) = pre.map (·.1) ++ [⟨pl, ld⟩] := by simp
    rw [← hmap] at hps
    have HPS := Lib.hid hps
    clear hmap hps
    generalize putL l0 (pre.map (·.1)) = A at *
    have x0 := kX.cell 0
    have x1 := kX.cell 1
    have c0' := kL.cell 0
    have f0' := kL.frozen 0
    have lX := kX.lt
    have lL := kL.lt
    simp only [List.getElem?_toArray, List.getElem?_cons_zero, List.getElem?_cons_succ] at x0 x1 c0'
    have hmx : A.length + 1 ≤ maxLen := by unfold maxLen; omega
    have hpush : ∀ W4 : World, Below W.heap.size W W4 → (Blk W4 w.heap.size #[.slice a A.length c] 43 ∧ W4.ownsRow base 80 2 (.slice a A.length c) A.length (A.flatMap cellsPrt) ∧ Below base w W4 ∧ Keeps S w W4 ∧ Blk W4 Bx #[.int .i64 pl, .int .i64 ld] 80) := fun W4 hb => ⟨kL.belowS hb, own_below hown hb, hbel.trans (hb.mono (Nat.le_trans hbase hkp.size)), hkp.trans (Keeps.of_below hb (hkp.lt hS)), kX.belowS hb⟩
    have HPU := Lib.hid hpush
    have HROW := Lib.hid hrow
    clear hpush
    rcases List.eq_nil_or_concat A with rfl | ⟨B, q, rfl⟩
    · gi_wp2_with fail
      refine round_quiet (by kernel_rfl) (by kernel_rfl) (by kernel_rfl) ?_
      repeat (gi_big_quiet_step (fail))
      refine wpQuietIn_nil ?_
      intro _ hw'
      obtain ⟨nq, rfl⟩ := hw'
      have hbq : Below W.heap.size W (W.drewN nq) := below_drewN' _ _ _
      obtain ⟨kL4, own4, bel4, kp4, kX4⟩ := HPU.out _ hbq
      have HO : KeepsOthers W (W.drewN nq) := others_of hbq
      have HKs : Keeps S W (W.drewN nq) := Keeps.of_below hbq (hkp.lt hS)
      clear x0 x1 c0' f0' lX lL kL hown hbel kX
      generalize W.drewN nq = W4 at *
      have x0 := kX4.cell 0
      have x1 := kX4.cell 1
      have c0' := kL4.cell 0
      have lX := kX4.lt
      have lL := kL4.lt
      simp only [List.getElem?_toArray, List.getElem?_cons_zero, List.getElem?_cons_succ, List.length_nil] at x0 x1 c0'
      have kE := Blk.new W4 80 #[.int .i64 pl, .int .i64 ld]
      have hneH : some w.heap.size ≠ (Value.slice a 0 c).ownBlock := fun e => by rw [rowOf_own'] at e; exact (HROW.out _ e.symm).1 rfl
      have hb4 : base ≤ W4.heap.size := Nat.le_trans hbase kp4.size
      gi_wp2_with (gi_at_builtin; refine wpListIn_append_own_at _ rfl _ _ 43 rfl base 80 i0 (.agg #[.int .i64 0, .int .i64 0]) 2 16 Try.underlying43 hi hz0 hz1 hz2 rfl (by decide) (.slice a 0 c) 0 _ rfl (own4.alloc _) ⟨W4.heap.size, 0, none⟩ 1 1 [.int .i64 pl, .int .i64 ld] rfl rfl (World.news_of_block kE) (by simp [Value.oneCell']) hmx (by decide) (by simp; omega) ?_; intro v' w6 hown6 hgrow hnil hat; obtain ⟨g', cap', rfl⟩ := ownsRow_succ hown6; have kL6 := (kL4.alloc (.cells #[.int .i64 pl, .int .i64 ld] 80)).kept hgrow hneH; have z6 := kL6.cell 0; have z7 := kL6.frozen 0; simp only [List.getElem?_toArray, List.getElem?_cons_zero, List.length_nil] at z6; have HOWN6 := Lib.hid hown6; have HGR := Lib.hid hgrow; have HAT := Lib.hid hat; clear hown6 hgrow hat)
      obtain ⟨⟨s1, s2⟩, s3, s4, s5⟩ := put_step (A := []) (p := ⟨pl, ld⟩) rfl hbase (Nat.le_refl _) hS kL4 own4 HROW.out bel4 kp4 HOWN6.out HGR.out HAT.out
      exact ⟨(HO.trans s1).from _, HKs.trans s2, ⟨by rw [HPS.out]; exact s3, s4, s5⟩⟩
    · rw [List.concat_eq_append] at *
      have hqb := hpb q (by simp)
      rcases row_at cellsPrt 2 (fun _ => rfl) hown with ⟨_, h0⟩ | ⟨g, cap, hv, hbg, hg, hcap, hcap2, key⟩
      · simp at h0
      obtain ⟨rfl, _, rfl⟩ := slice_inj hv
      have k0 := key B.length q (by simp) 0 (by omega)
      have k1 := key B.length q (by simp) 1 (by omega)
      have e0 : W.cell? ⟨g, B.length * 2, none⟩ = some (.int .i64 q.plot) := k0
      have e1 : W.cell? ⟨g, B.length * 2 + 1, none⟩ = some (.int .i64 q.loads) := k1
      have hn : (B ++ [q]).length = B.length + 1 := by simp
      rw [hn] at c0' hcap
      have hb0 : (0 : Int) ≤ (B.length : Int) := Int.natCast_nonneg _
      have hKEY := Lib.hid key
      have HN := Lib.hid hn
      have hb1' : (B.length : Int) < (B.length : Int) + 1 := by omega
      obtain ⟨qp, ql⟩ := q
      dsimp only at hqb e0 e1
      clear k0 k1 key hv hn
      gi_wp2_with fail
      by_cases hpq : qp = pl
      · subst hpq
        have q1 : (qp == qp) = true := by simp
        refine round_quiet (by kernel_rfl) (by kernel_rfl) (by kernel_rfl) ?_
        repeat (gi_big_quiet_step (fail))
        refine wpQuietIn_nil ?_
        intro _ hw'
        obtain ⟨nq, rfl⟩ := hw'
        have hbq : Below W.heap.size W (W.drewN nq) := below_drewN' _ _ _
        obtain ⟨kL4, own4, bel4, kp4, kX4⟩ := HPU.out _ hbq
        have HO : KeepsOthers W (W.drewN nq) := others_of hbq
        have HKs : Keeps S W (W.drewN nq) := Keeps.of_below hbq (hkp.lt hS)
        have e0' := (hbq.cell (p := ⟨g, B.length * 2, none⟩) hg).trans e0
        have e1' := (hbq.cell (p := ⟨g, B.length * 2 + 1, none⟩) hg).trans e1
        clear x0 x1 c0' f0' lX lL kL hown hbel kX e0 e1
        generalize W.drewN nq = W4 at *
        have x0 := kX4.cell 0
        have x1 := kX4.cell 1
        have c0' := kL4.cell 0
        have lX := kX4.lt
        have lL := kL4.lt
        simp only [List.getElem?_toArray, List.getElem?_cons_zero, List.getElem?_cons_succ] at x0 x1 c0'
        rw [HN.out] at c0'
        have hfz : W4.frozen? ⟨g, B.length * 2 + 1, none⟩ = false := by
          rcases own4.2 with ⟨e, _⟩ | ⟨g', cap', cur, e, _, hgg, _⟩
          · cases e
          · obtain ⟨e2, _, _⟩ := slice_inj e
            obtain rfl : g = g' := by injection e2 with e2; injection e2
            exact Blk.frozen (show Blk W4 g cur _ from hgg) _
        have lg : g < W4.heap.size := Nat.lt_of_lt_of_le hg hbq.size
        have hw1 : IntKind.i64.wrap (ql + ld) = ql + ld := by rw [IntKind.wrap_i64]; omega
        gi_wp2_with fail
        have hgr := HROW.out g rfl
        have hP : PutI base w.heap.size S w l0 (pre ++ [⟨⟨qp, ld⟩, hp1, hp2⟩]) (W4.setCell ⟨g, B.length * 2 + 1, none⟩ (.int .i64 (ql + ld))) := by
          obtain ⟨s3, s4, s5⟩ := put_set (q := ⟨qp, ql⟩) (x := ql + ld) kL4 own4 hgr hbg bel4 kp4
          exact ⟨by rw [HPS.out, pushL_same B ⟨qp, ql⟩ ⟨qp, ld⟩ rfl]; exact s3, s4, s5⟩
        have hP2 := hP.drew hS
        have hK2 : KeepsOthers W (W4.setCell ⟨g, B.length * 2 + 1, none⟩ (.int .i64 (ql + ld))).drew := (HO.trans (KeepsOthers.setCell _ _ _)).trans (KeepsOthers.drew _)
        have hK3 : Keeps S W (W4.setCell ⟨g, B.length * 2 + 1, none⟩ (.int .i64 (ql + ld))).drew := (HKs.setCell (p := ⟨g, B.length * 2 + 1, none⟩) hgr.2 _).trans (Keeps.of_below ((Below.refl _ _).drew) ((HKs.setCell (p := ⟨g, B.length * 2 + 1, none⟩) hgr.2 _).lt (hkp.lt hS)))
        have HP2 := Lib.hid hP2
        have HK2 := Lib.hid hK2
        have HK3 := Lib.hid hK3
        clear hP hP2 hK2 hK3
        gi_region
        all_goals exact ⟨HK2.out.from _, HK3.out, HP2.out⟩
      · have q1 : (qp == pl) = false := by simp [hpq]
        refine round_quiet (by kernel_rfl) (by kernel_rfl) (by kernel_rfl) ?_
        repeat (gi_big_quiet_step (fail))
        refine wpQuietIn_nil ?_
        intro _ hw'
        obtain ⟨nq, rfl⟩ := hw'
        have hbq : Below W.heap.size W (W.drewN nq) := below_drewN' _ _ _
        obtain ⟨kL4, own4, bel4, kp4, kX4⟩ := HPU.out _ hbq
        have HO : KeepsOthers W (W.drewN nq) := others_of hbq
        have HKs : Keeps S W (W.drewN nq) := Keeps.of_below hbq (hkp.lt hS)
        have e0' := (hbq.cell (p := ⟨g, B.length * 2, none⟩) hg).trans e0
        have e1' := (hbq.cell (p := ⟨g, B.length * 2 + 1, none⟩) hg).trans e1
        clear x0 x1 c0' f0' lX lL kL hown hbel kX e0 e1
        generalize W.drewN nq = W4 at *
        have x0 := kX4.cell 0
        have x1 := kX4.cell 1
        have c0' := kL4.cell 0
        have lX := kX4.lt
        have lL := kL4.lt
        simp only [List.getElem?_toArray, List.getElem?_cons_zero, List.getElem?_cons_succ] at x0 x1 c0'
        rw [HN.out] at c0'
        have own5 := own4
        rw [HN.out] at own5
        have hmx2 : B.length + 1 + 1 ≤ maxLen := by rw [← HN.out]; exact hmx
        have hbl : B.length + 1 ≤ 200000 := by rw [← HN.out]; omega
        have kE := Blk.new W4 80 #[.int .i64 pl, .int .i64 ld]
        have hneH : some w.heap.size ≠ (Value.slice (some (⟨g, 0, none⟩ : Addr)) (B.length + 1) c).ownBlock := fun e => by rw [rowOf_own'] at e; exact (HROW.out _ e.symm).1 rfl
        have hb4 : base ≤ W4.heap.size := Nat.le_trans hbase kp4.size
        gi_wp2_with (gi_at_builtin; refine wpListIn_append_own_at _ rfl _ _ 43 rfl base 80 i0 (.agg #[.int .i64 0, .int .i64 0]) 2 16 Try.underlying43 hi hz0 hz1 hz2 rfl (by decide) (.slice (some ⟨g, 0, none⟩) (B.length + 1) c) (B.length + 1) _ rfl (own5.alloc _) ⟨W4.heap.size, 0, none⟩ 1 1 [.int .i64 pl, .int .i64 ld] rfl rfl (World.news_of_block kE) (by simp [Value.oneCell']) hmx2 (by omega) (by simp; omega) ?_; intro v' w6 hown6 hgrow hnil hat; obtain ⟨g', cap', rfl⟩ := ownsRow_succ hown6; have kL6 := (kL4.alloc (.cells #[.int .i64 pl, .int .i64 ld] 80)).kept hgrow hneH; have z6 := kL6.cell 0; have z7 := kL6.frozen 0; simp only [List.getElem?_toArray, List.getElem?_cons_zero] at z6; rw [HN.out] at z6; have HOWN6 := Lib.hid hown6; have HGR := Lib.hid hgrow; have HAT := Lib.hid hat; clear hown6 hgrow hat)
        obtain ⟨⟨s1, s2⟩, s3, s4, s5⟩ := put_step (A := B ++ [⟨qp, ql⟩]) (p := ⟨pl, ld⟩) HN.out hbase (Nat.le_refl _) hS (HN.out ▸ kL4) own5 HROW.out bel4 kp4 HOWN6.out (HN.out ▸ HGR.out) HAT.out
        exact ⟨(HO.trans s1).from _, HKs.trans s2, ⟨by rw [HPS.out, pushL_other B ⟨qp, ql⟩ ⟨pl, ld⟩ hpq]; exact s3, s4, s5⟩⟩
  case done =>
    rintro D xs W hD rfl hi' hK
    obtain ⟨⟨a, c, k1, k2, k3⟩, k4, k5⟩ := hi'
    have c0' := k1.cell 0
    have lL := k1.lt
    simp only [List.getElem?_toArray, List.getElem?_cons_zero] at c0'
    gi_wp2
    refine ⟨by simp, .inl ⟨_, _, rfl, run_takeDeferred hK, ?_⟩⟩
    have hDw : w.heap.size ≤ D := by have := HSZ.out; omega
    exact ⟨.slice a _ c, by simp [results, Try.results70, go_sem], a, c, rfl, ownsRow_putObj k2 _ hK rfl, fun a1 e => (k3 _ (by rw [e]; rfl)).2, below_putObj k4 _ (by omega) (Nat.le_trans hbase k5.size), k5.trans (keeps_b (w := w) hS W D _ _ hDw hK rfl rfl)⟩
  case stop => rintro D c pre W hD _ h _; exact h.elim
end
end Go.Proofs.Ytghepojnimlafaa
