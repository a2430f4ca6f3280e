/- A bundle (straw). -/
import Derived.Test.YtkohmgmoeffgnaaQJR
import Derived.Test.YtkohmgmoeffgnaaQGX
namespace Go.Proofs.Ytkohmgmoeffgnaa
open Go.RowKit

/-- What Bundle returns. -/
def bunM (F : Frm) (S : Sto) (nm : ByteArray) (k : Int) : Int × List Prt :=
  if storeE F S = 0 then (match S.heaps.find? (fun h => strB h.name nm) with
    | none => (7, [])
    | some h => if h.stage = 3 then (if isFromB k 0 (loadsM h.parts / h.per - 1) = true then (0, cutT h.per (cutR (k * h.per) h.parts)) else (1, [])) else (8, []))
  else (storeE F S, [])
theorem idxH_cases (nm : ByteArray) (l : List Hep) : (idxH l nm = -1 ∧ l.find? (fun h => strB h.name nm) = none) ∨ ∃ (j : Nat) (h : Hep), idxH l nm = j ∧ l[j]? = some h ∧ l.find? (fun h => strB h.name nm) = some h := by
  have key : ∀ l : List Hep, (l.findIdx? (fun h => strB h.name nm) = none ∧ l.find? (fun h => strB h.name nm) = none) ∨ ∃ (j : Nat) (h : Hep), l.findIdx? (fun h => strB h.name nm) = some j ∧ l[j]? = some h ∧ l.find? (fun h => strB h.name nm) = some h := by
    intro l
    induction l with
    | nil => exact .inl ⟨rfl, rfl⟩
    | cons x l ih =>
      cases hx : strB x.name nm with
      | true => exact .inr ⟨0, x, by simp [List.findIdx?_cons, hx], rfl, by simp [hx]⟩
      | false =>
        rcases ih with ⟨h1, h2⟩ | ⟨j, h, h1, h2, h3⟩
        · exact .inl ⟨by simp [List.findIdx?_cons, hx, h1], by simp [hx, h2]⟩
        · exact .inr ⟨j + 1, h, by simp [List.findIdx?_cons, hx, h1], by simpa using h2, by simp [hx, h3]⟩
  rcases key l with ⟨h1, h2⟩ | ⟨j, h, h1, h2, h3⟩
  · exact .inl ⟨by rw [idxH, h1], h2⟩
  · exact .inr ⟨j, h, by rw [idxH, h1], h2, h3⟩
/-- What a bundle is told to be. -/
def BunSaid (F : Frm) (S : Sto) (nm : ByteArray) (k : Int) (w : World) (e : Ending) (w' : World) : Prop :=
  (∃ a c, e = .returned (.tuple #[.slice a (bunM F S nm k).2.length c, .int .i64 (bunM F S nm k).1]) ∧ IsPrts w' a c (bunM F S nm k).2) ∧ Below w.heap.size w w'
theorem BunSaid.nil {F : Frm} {S : Sto} {nm : ByteArray} {k v : Int} {w w' : World} (h : bunM F S nm k = (v, [])) (hb : Below w.heap.size w w') : BunSaid F S nm k w (.returned (.tuple #[.slice none 0 0, .int .i64 v])) w' :=
  ⟨⟨none, 0, by rw [h]; rfl, by rw [h]; exact .inl rfl⟩, hb⟩
/-- The numbers of bundles, and what is made with them. -/
theorem bun_nums {v per k : Int} (hv0 : 0 ≤ v) (hv1 : v ≤ 100000000) (hp : 1 ≤ per ∧ per ≤ 100) : v.tdiv per = v / per ∧ (0 ≤ v / per ∧ v / per ≤ 100000000) ∧ (isFromB k 0 (v / per - 1) = true → 0 ≤ k ∧ 0 ≤ k * per ∧ k * per ≤ 100000000) := by
  have h1 : (v / per) * per ≤ v := Int.ediv_mul_le v (by omega)
  have h2 : 0 ≤ v / per := Int.ediv_nonneg hv0 (by omega)
  have h3 : v / per ≤ v := Int.ediv_le_self per hv0
  refine ⟨Int.tdiv_eq_ediv_of_nonneg hv0, ⟨h2, by omega⟩, fun h => ?_⟩
  have h4 := isFromB_iff.1 h
  have h5 : k * per ≤ (v / per) * per := Int.mul_le_mul_of_nonneg_right (by omega) (by omega)
  exact ⟨h4.1, Int.mul_nonneg h4.1 (by omega), by omega⟩

theorem putTaken_any (a : Option Addr) (c : Nat) (l : List Prt) (skip left : Int) (n : Nat) (w : World) (hl : IsPrts w a c l) (hok : ∀ p ∈ l, p.ok n) (hap : ap none l) (hlen : l.length ≤ 1000) (hs0 : 0 ≤ skip) (hs1 : skip ≤ 100000000000) (hl0 : 0 ≤ left) (hl1 : left ≤ 100000000000) :
    Calls Try.prog 36 #[.slice none 0 0, .func (.func 54) #[] #[.pointer (some ⟨w.heap.size + 1, 0, none⟩), .pointer (some ⟨w.heap.size + 1 + 1, 0, none⟩), .pointer (some ⟨w.heap.size, 0, none⟩)]]
      (((w.alloc (.cells #[.slice a l.length c] 31)).alloc (.cells #[.int .i64 skip] 3)).alloc (.cells #[.int .i64 left] 3)) fun e w' =>
      (∃ a' c', e = .returned (.slice a' (cutT left (cutR skip l)).length c') ∧ IsPrts w' a' c' (cutT left (cutR skip l))) ∧ Below w.heap.size w w' := by
  have hb : Below w.heap.size w (((w.alloc (.cells #[.slice a l.length c] 31)).alloc (.cells #[.int .i64 skip] 3)).alloc (.cells #[.int .i64 left] 3)) := (((Below.refl _ w).alloc (by simp) _).alloc (by simp) _).alloc (by simp; omega) _
  have k0 : Blk (((w.alloc (.cells #[.slice a l.length c] 31)).alloc (.cells #[.int .i64 skip] 3)).alloc (.cells #[.int .i64 left] 3)) w.heap.size #[.slice a l.length c] 31 := ((Blk.new w _ _).alloc _).alloc _
  have k1 : Blk (((w.alloc (.cells #[.slice a l.length c] 31)).alloc (.cells #[.int .i64 skip] 3)).alloc (.cells #[.int .i64 left] 3)) (w.heap.size + 1) #[.int .i64 skip] 3 := by
    have := (Blk.new (w.alloc (.cells #[.slice a l.length c] 31)) 3 #[.int .i64 skip]).alloc (.cells #[.int .i64 left] 3)
    simpa using this
  have k2 : Blk (((w.alloc (.cells #[.slice a l.length c] 31)).alloc (.cells #[.int .i64 skip] 3)).alloc (.cells #[.int .i64 left] 3)) (w.heap.size + 1 + 1) #[.int .i64 left] 3 := by
    have := Blk.new ((w.alloc (.cells #[.slice a l.length c] 31)).alloc (.cells #[.int .i64 skip] 3)) 3 #[.int .i64 left]
    simpa using this
  have hlw := hl.belowS hb
  generalize (((w.alloc (.cells #[.slice a l.length c] 31)).alloc (.cells #[.int .i64 skip] 3)).alloc (.cells #[.int .i64 left] 3)) = w1 at *
  have hld : ∀ p ∈ l, 1 ≤ p.loads ∧ p.loads ≤ 100000 := fun p hp => (hok p hp).2
  have hseq := taken_stops 4 (by omega) w.heap.size (w.heap.size + 1) (w.heap.size + 1 + 1) a c (fun k => k < w1.heap.size) l skip left hs0 hs1 hl0 hl1 hld k0.lt k1.lt k2.lt w1 (fun _ h => h) (k0.cell 0) (k1.cell 0) (k2.cell 0) (PrtsIn.of hlw fun _ h => h)
  have h := put_any w1.heap.size (fun k => k < w1.heap.size) none 0 [] 0 _ l.length (takenL skip left l) _ w1 (World.ownsRow_nil _ _ _ _) (fun k h => by cases h) (Nat.le_refl _) (fun _ h => h) (fun q h => by cases h) (by omega) (by omega) (by simp) (by omega) hseq
  have he : putL [] (takenL skip left l) = cutT left (cutR skip l) := by
    rw [put_taken (fun p hp => (hld p hp).1) hs0 hl0 hap, taken_cut (fun p hp => (hld p hp).1) hs0 hl0]
  rw [he] at h
  refine h.mono ?_
  rintro e w' ⟨a', c', rfl, hown, _, hb', _⟩
  exact ⟨⟨a', c', rfl, isPrts_own hown⟩, hb.trans (hb'.mono hb.size)⟩

set_option maxRecDepth 100000 in
set_option maxHeartbeats 4000000 in
theorem bundle_any (F : Frm) (S : Sto) (nm : ByteArray) (k : Int) (w : World) (hF : IsFarm w F) (hS : IsStore w S) (hfit : S.fit) :
    Calls Try.prog 22 #[.agg #[.slice F.pa F.ps.length F.pc, .int .i64 F.dry], stoV S, .string nm, .int .i64 k] w (BunSaid F S nm k w) := by
  have hcs := checkStore_any F S
  have hhl := hS.heaps.len
  unfold stoV at hcs ⊢
  have HF := Lib.hid hF
  have HS := Lib.hid hS
  have hsh := hS.heaps
  generalize hgb : S.ha = sha at *
  have HSH := Lib.hid hsh
  have HCS := Lib.hid hcs
  clear hF hS hsh hgb hcs
  have kB := (Blk.new w 24 (frmC F)).alloc (.cells #[.int .i64 S.year, .slice S.la S.last.length S.lc, .slice S.ga S.given.length S.gc, .slice sha S.heaps.length S.hc, .slice S.ua S.used.length S.uc, .slice S.wa S.waste.length S.wc] 33)
  have kD := Blk.new (w.alloc (.cells (frmC F) 24)) 33 #[.int .i64 S.year, .slice S.la S.last.length S.lc, .slice S.ga S.given.length S.gc, .slice sha S.heaps.length S.hc, .slice S.ua S.used.length S.uc, .slice S.wa S.waste.length S.wc]
  have hB : Below w.heap.size w ((w.alloc (.cells (frmC F) 24)).alloc (.cells #[.int .i64 S.year, .slice S.la S.last.length S.lc, .slice S.ga S.given.length S.gc, .slice sha S.heaps.length S.hc, .slice S.ua S.used.length S.uc, .slice S.wa S.waste.length S.wc] 33)) := ((Below.refl _ w).alloc (by simp) _).alloc (by simp) _
  simp only [World.size_alloc] at kD
  unfold frmC at kB kD hB
  go_enter Try.func22, Try.ntmps22
  go_upto_region 1 with fail
  generalize ((w.alloc (.cells #[.slice F.pa F.ps.length F.pc, .int .i64 F.dry] 24)).alloc (.cells #[.int .i64 S.year, .slice S.la S.last.length S.lc, .slice S.ga S.given.length S.gc, .slice sha S.heaps.length S.hc, .slice S.ua S.used.length S.uc, .slice S.wa S.waste.length S.wc] 33)) = w1 at *
  have lF0 := kB.lt
  have lS0 := kD.lt
  obtain ⟨f0, f1⟩ := frm_cells kB
  have d0 := kD.cell 0
  have d1 := kD.cell 1
  have d2 := kD.cell 2
  have d3 := kD.cell 3
  have d4 := kD.cell 4
  have d5 := kD.cell 5
  have HB0 := Lib.hid hB
  have KD0 := Lib.hid kD
  clear kB kD hB
  go_wp2_with fail
  refine (HCS.out _ (HF.out.below HB0.out) (HS.out.below HB0.out) hfit).mono ?_
  rintro e w2 ⟨rfl, hb⟩
  have HB1 := Lib.hid (HB0.out.trans (hb.mono HB0.out.size))
  have KD1 := Lib.hid (KD0.out.belowS hb)
  clear d0 d1 d2 d3 d4 d5 f0 f1 lF0 lS0 hb
  obtain ⟨v2, rfl⟩ : ∃ v2 : World, v2 = w2 := ⟨_, rfl⟩
  by_cases hE : storeE F S = 0
  · obtain ⟨hn, _, _, _, hhp⟩ := store_ok hE
    have hbm : bunM F S nm k = (match S.heaps.find? (fun h => strB h.name nm) with
      | none => (7, [])
      | some h => if h.stage = 3 then (if isFromB k 0 (loadsM h.parts / h.per - 1) = true then (0, cutT h.per (cutR (k * h.per) h.parts)) else (1, [])) else (8, [])) := by rw [bunM, if_pos hE]
    have HH := Lib.hid hhp
    have HFI := Lib.hid hfit
    have HBM := Lib.hid hbm
    have z1 : ((0 : Int) == 0) = true := rfl
    rw [hE]
    clear hE hhp hfit hbm
    have lS1 := KD1.out.lt
    have d3 : v2.cell? ⟨w.heap.size + 1, 3, none⟩ = some (.slice sha S.heaps.length S.hc) := KD1.out.cell 3
    go_wp2_with fail
    refine (findHeap_any sha S.hc S.heaps nm _ (HSH.out.belowS HB1.out)).mono ?_
    rintro e w3 ⟨rfl, hb⟩
    have HB2 := Lib.hid (HB1.out.trans (hb.mono HB1.out.size))
    have KD2 := Lib.hid (KD1.out.belowS hb)
    clear lS1 d3 hb
    rcases idxH_cases nm S.heaps with ⟨h1, h2⟩ | ⟨j, h, h1, h2, h3⟩
    · have HV := Lib.hid (show bunM F S nm k = (7, []) by rw [HBM.out, h2])
      rw [h1]
      clear h1 h2
      go_wp2_with fail
      exact bodyPost_ret (v := .tuple #[.slice none 0 0, .int .i64 7]) (by simp [results, Try.results22, go_sem]) rfl (BunSaid.nil HV.out HB2.out)
    · have hbm : bunM F S nm k = (if h.stage = 3 then (if isFromB k 0 (loadsM h.parts / h.per - 1) = true then (0, cutT h.per (cutR (k * h.per) h.parts)) else (1, [])) else (8, [])) := by rw [HBM.out, h3]
      have HBH := Lib.hid hbm
      have hjl : j < S.heaps.length := (List.getElem?_eq_some_iff.1 h2).1
      have hmem := List.mem_of_getElem? h2
      have HHB := Lib.hid (HH.out h hmem)
      have hpl := HFI.out.parts h hmem
      rw [h1]
      obtain ⟨b, off, hea, hblt, hcap, hcx, ⟨c0, c1, c2, c3, c4, c5, c6⟩, hpp, _⟩ := (HSH.out.belowS HB2.out).at h2
      subst hea
      have HPP := Lib.hid hpp
      have hj0 : (0 : Int) ≤ (j : Int) := Int.natCast_nonneg _
      have hj1 : (j : Int) < (S.heaps.length : Int) := by omega
      have lS2 := KD2.out.lt
      have d3 : w3.cell? ⟨w.heap.size + 1, 3, none⟩ = some (.slice (some ⟨b, off, none⟩) S.heaps.length S.hc) := KD2.out.cell 3
      have kH := Blk.new w3 58 #[.string h.name, .int .i64 h.crop, .int .i64 h.stage, .slice h.pa h.parts.length h.pc, .int .i64 h.per, .int .i64 h.wlo, .int .i64 h.whi]
      have hb1 : Below w3.heap.size w3 (w3.alloc (.cells #[.string h.name, .int .i64 h.crop, .int .i64 h.stage, .slice h.pa h.parts.length h.pc, .int .i64 h.per, .int .i64 h.wlo, .int .i64 h.whi] 58)) := (Below.refl _ w3).alloc (Nat.le_refl _) _
      clear h1 h2 h3 hbm hmem hpp HH
      go_upto_region 8 with fail
      generalize w3.alloc (.cells #[.string h.name, .int .i64 h.crop, .int .i64 h.stage, .slice h.pa h.parts.length h.pc, .int .i64 h.per, .int .i64 h.wlo, .int .i64 h.whi] 58) = w4 at *
      have HB4 := Lib.hid (HB2.out.trans (hb1.mono HB2.out.size))
      have KH := Lib.hid kH
      have HPH := Lib.hid (HPP.out.belowS hb1)
      clear c0 c1 c2 c3 c4 c5 c6 d3 lS2 hb1 kH hblt
      have lH := KH.out.lt
      obtain ⟨e0, e1, e2, e3, e4, e5, e6⟩ := hep_cells KH.out
      by_cases h8 : h.stage = 3
      · have hpok := heapB_parts HHB.out
        have hbd := loadsM_bd hpok
        have hcond := HHB.out
        simp only [heapB, Bool.and_eq_true, if_pos h8] at hcond
        obtain ⟨_, _, _, _, _, hpb, _, hper, _⟩ := hcond
        have hper2 := isFromB_iff.1 hper
        obtain ⟨hp1, hp2⟩ := hper2
        have hv1 : loadsM h.parts ≤ 100000000 := by omega
        obtain ⟨htd, ⟨hq0, hq1⟩, hkk⟩ := bun_nums (k := k) hbd.1 hv1 ⟨hp1, hp2⟩
        have HOK := Lib.hid hpok
        have HAP := Lib.hid (partsB_ap hpb)
        have q8 : (h.stage == 3) = true := by simp [h8]
        have q8' : (h.stage != 3) = false := by simp [h8]
        have hbm2 : bunM F S nm k = (if isFromB k 0 (loadsM h.parts / h.per - 1) = true then (0, cutT h.per (cutR (k * h.per) h.parts)) else (1, [])) := by rw [HBH.out, if_pos h8]
        have HB3 := Lib.hid hbm2
        have HKK := Lib.hid hkk
        have hp0 : ¬ h.per = 0 := by omega
        have hp0' : (h.per == 0) = false := by simp [hp0]
        obtain ⟨hv0, _⟩ := hbd
        have hlo : ∀ w', IsPrts w' h.pa h.pc h.parts → Calls Try.prog 35 #[.slice h.pa h.parts.length h.pc] w' fun e w'' => e = .returned (.int .i64 (loadsM h.parts)) ∧ Below w'.heap.size w' w'' := fun w' hw => loadsOf_any F.ps.length h.pa h.pc h.parts w' hw HOK.out hpl
        clear h8 hbm2 hkk hpok hpb hper
        go_upto_region 10 with fail
        generalize hgq : loadsM h.parts / h.per = q at *
        generalize hgv : loadsM h.parts = v at *
        have HLO := Lib.hid hlo
        have hwq : IntKind.i64.wrap q = q := IntWalk.i64_in _ (by omega)
        have hwq1 : IntKind.i64.wrap (q - 1) = q - 1 := IntWalk.i64_in _ (by omega)
        have hx : HeldH w4 w3.heap.size h w4.drew := ⟨(Below.refl _ _).drew, hep_cells (KH.out.drew)⟩
        clear hgq hgv hlo e0 e1 e2 e3 e4 e5 e6
        cases h9 : isFromB k 0 (q - 1) with
        | false =>
          have HV := Lib.hid (show bunM F S nm k = (1, []) by rw [HB3.out, if_neg (by rw [h9]; simp)])
          have H9 := Lib.hid h9
          clear h9
          go_region_held3 (fun w' => Below w4.heap.size w4 w' ∧ (w'.cell? ⟨w3.heap.size, 0, none⟩ = some (.string h.name) ∧ w'.cell? ⟨w3.heap.size, 1, none⟩ = some (.int .i64 h.crop) ∧ w'.cell? ⟨w3.heap.size, 2, none⟩ = some (.int .i64 h.stage) ∧ w'.cell? ⟨w3.heap.size, 3, none⟩ = some (.slice h.pa h.parts.length h.pc) ∧ w'.cell? ⟨w3.heap.size, 4, none⟩ = some (.int .i64 h.per) ∧ w'.cell? ⟨w3.heap.size, 5, none⟩ = some (.int .i64 h.wlo) ∧ w'.cell? ⟨w3.heap.size, 6, none⟩ = some (.int .i64 h.whi)))
            (first | (with_reducible exact hx) | (with_reducible refine HeldH.step ?_ lH hb5; with_reducible assumption) | (with_reducible assumption))
            (first | (go_at_call 34; (with_reducible refine (isFrom_is H9.out _).mono ?_); rintro r w5 ⟨rfl, rfl⟩) | (go_at_call 35; (refine (HLO.out _ (HPH.out.belowS (And.left (by with_reducible assumption) : Below w4.heap.size w4 _))).mono ?_); rintro r w5 ⟨rfl, hb5⟩))
          all_goals
            go_wp2_with fail
            exact bodyPost_ret (v := .tuple #[.slice none 0 0, .int .i64 1]) (by simp [results, Try.results22, go_sem]) rfl (BunSaid.nil HV.out (HB4.out.trans ((And.left (by with_reducible assumption) : Below w4.heap.size w4 _).mono HB4.out.size)))
        | true =>
          have HV := Lib.hid (show bunM F S nm k = (0, cutT h.per (cutR (k * h.per) h.parts)) by rw [HB3.out, if_pos h9])
          obtain ⟨hk0, hk1, hk2⟩ := HKK.out h9
          have hwk : IntKind.i64.wrap (k * h.per) = k * h.per := IntWalk.i64_in _ (by omega)
          have H9 := Lib.hid h9
          clear h9
          go_region_held3 (fun w' => Below w4.heap.size w4 w' ∧ (w'.cell? ⟨w3.heap.size, 0, none⟩ = some (.string h.name) ∧ w'.cell? ⟨w3.heap.size, 1, none⟩ = some (.int .i64 h.crop) ∧ w'.cell? ⟨w3.heap.size, 2, none⟩ = some (.int .i64 h.stage) ∧ w'.cell? ⟨w3.heap.size, 3, none⟩ = some (.slice h.pa h.parts.length h.pc) ∧ w'.cell? ⟨w3.heap.size, 4, none⟩ = some (.int .i64 h.per) ∧ w'.cell? ⟨w3.heap.size, 5, none⟩ = some (.int .i64 h.wlo) ∧ w'.cell? ⟨w3.heap.size, 6, none⟩ = some (.int .i64 h.whi)))
            (first | (with_reducible exact hx) | (with_reducible refine HeldH.step ?_ lH hb5; with_reducible assumption) | (with_reducible assumption))
            (first | (go_at_call 34; (with_reducible refine (isFrom_is H9.out _).mono ?_); rintro r w5 ⟨rfl, rfl⟩) | (go_at_call 35; (refine (HLO.out _ (HPH.out.belowS (And.left (by with_reducible assumption) : Below w4.heap.size w4 _))).mono ?_); rintro r w5 ⟨rfl, hb5⟩))
          all_goals
            go_wp2_with fail
            refine (taken_any h.pa h.parts.length h.pc (k * h.per) h.per _).mono ?_
            rintro e w8 ⟨rfl, rfl⟩
            go_wp2_with fail
            refine (putTaken_any h.pa h.pc h.parts (k * h.per) h.per F.ps.length _ (HPH.out.belowS (And.left (by with_reducible assumption) : Below w4.heap.size w4 _)) HOK.out HAP.out hpl hk1 (by omega) (by omega) (by omega)).mono ?_
            rintro e w9 ⟨⟨a', c', rfl, hpr⟩, hb9⟩
            have HPR := Lib.hid hpr
            clear hpr
            go_wp2_with fail
            refine bodyPost_ret (v := .tuple #[.slice a' (cutT h.per (cutR (k * h.per) h.parts)).length c', .int .i64 0]) (by simp [results, Try.results22, go_sem]) rfl ⟨⟨a', c', by rw [HV.out], by rw [HV.out]; exact HPR.out⟩, ?_⟩
            have h7 := HB4.out.trans ((And.left (by with_reducible assumption) : Below w4.heap.size w4 _).mono HB4.out.size)
            exact h7.trans (hb9.mono h7.size)
      · have HV := Lib.hid (show bunM F S nm k = (8, []) by rw [HBH.out, if_neg h8])
        have q8 : (h.stage == 3) = false := by simp [h8]
        have q8' : (h.stage != 3) = true := by simp [h8]
        clear h8
        go_wp2_with fail
        exact bodyPost_ret (v := .tuple #[.slice none 0 0, .int .i64 8]) (by simp [results, Try.results22, go_sem]) rfl (BunSaid.nil HV.out HB4.out)
  · have HE := Lib.hid hE
    have HV := Lib.hid (show bunM F S nm k = (storeE F S, []) by rw [bunM, if_neg hE])
    have hne : (storeE F S == 0) = false := by simpa using hE
    generalize hg : storeE F S = v at *
    go_wp2_with fail
    exact bodyPost_ret (v := .tuple #[.slice none 0 0, .int .i64 v]) (by simp [results, Try.results22, go_sem]) rfl (BunSaid.nil (by have := HV.out; first | exact this | (rw [hg] at this; exact this)) HB1.out)
end Go.Proofs.Ytkohmgmoeffgnaa
