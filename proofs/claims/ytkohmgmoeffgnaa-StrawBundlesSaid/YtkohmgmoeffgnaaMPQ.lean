/- StrawBundles' walk. No condition. -/
import Derived.Test.YtkohmgmoeffgnaaMLQ
import Derived.Test.YtkohmgmoeffgnaaMNQ
import Derived.Test.YtkohmgmoeffgnaaMOQ
import Derived.StillTailTactics
import Derived.Deep.AppendLies
set_option linter.unusedSimpArgs false
namespace Go.Proofs.Ytkohmgmoeffgnaa
open Go.RowKit

/-- Parts in an own row. -/
def OwnP (base : Nat) (w : World) (a : Option Addr) (c : Nat) (l : List Prt) : Prop := w.ownsRow base 66 2 (.slice a l.length c) l.length (l.flatMap cellsPrt)
theorem OwnP.below {base : Nat} {w w' : World} {a : Option Addr} {c : Nat} {l : List Prt} (h : OwnP base w a c l) (hb : Below w.heap.size w w') : OwnP base w' a c l := own_below h hb
theorem OwnP.turn {base : Nat} {X : Nat → Prop} {w w' : World} {a : Option Addr} {c : Nat} {l : List Prt} (h : OwnP base w a c l) (ht : Turn X w w') (hx : ∀ k, X k → a.map (·.block) ≠ some k) : OwnP base w' a c l := ht.row h hx
theorem OwnP.is {base : Nat} {w : World} {a : Option Addr} {c : Nat} {l : List Prt} (h : OwnP base w a c l) : IsPrts w a c l := isPrts_own h
theorem bundle_own (F : Frm) (S : Sto) (nm : ByteArray) (k e : Int) (p : List Prt) (w : World) (hF : IsFarm w F) (hS : IsStore w S) (hT : tot S ≤ 1000) (hb : bunM F S nm k = (e, p)) :
    Calls Try.prog 22 #[.agg #[.slice F.pa F.ps.length F.pc, .int .i64 F.dry], .agg #[.int .i64 S.year, .slice S.la S.last.length S.lc, .slice S.ga S.given.length S.gc, .slice S.ha S.heaps.length S.hc, .slice S.ua S.used.length S.uc, .slice S.wa S.waste.length S.wc], .string nm, .int .i64 k] w fun r w' => (∃ a c, r = .returned (.tuple #[.slice a p.length c, .int .i64 e]) ∧ OwnP w.heap.size w' a c p) ∧ Below w.heap.size w w' := by
  have h := bundleOwn_any F S nm k w hF hS (ptot_fit hT)
  unfold BunOwn at h
  rw [hb] at h
  exact h
theorem put_bd {n : Nat} {u v : List Prt} (hu : ∀ q ∈ u, q.ok n) (hul : u.length ≤ 1000) (hv : ∀ q ∈ v, q.ok n) (hvl : v.length ≤ 1000) : (∀ q ∈ putL u v, 1 ≤ q.loads ∧ q.loads ≤ 200000000) ∧ (putL u v).length ≤ 2000 := by
  have h1 := ok1 hu
  have h2 := ok1 hv
  have h3 := put_from h2 h1
  refine ⟨fun q hq => ⟨(h3 q hq).1, ?_⟩, by have := putL_len u v; omega⟩
  have h4 := (le_of (fun r hr => (h3 r hr).1) q hq).1
  rw [ofM_put] at h4
  have h5 := (ofM_bd q.plot hu).2
  have h6 := (ofM_bd q.plot hv).2
  omega

set_option maxRecDepth 100000 in
set_option maxHeartbeats 16000000 in
theorem strawBundlesLaw_any (F : Frm) (a : Option Addr) (c : Nat) (l : List Chr)  (w : World) (hF : IsFarm w F) (hL : IsChrs w a c l)  :
    Calls Try.prog 7 #[.agg #[.slice F.pa F.ps.length F.pc, .int .i64 F.dry], .slice a l.length c] w fun e w' => e = .returned (.bool true) ∧ Below w.heap.size w w' := by
  have hb1 : Below w.heap.size w (w.alloc (.cells #[.slice F.pa F.ps.length F.pc, .int .i64 F.dry] 24)) := (Below.refl _ w).alloc (Nat.le_refl _) _
  have kB := Blk.new w 24 #[.slice F.pa F.ps.length F.pc, .int .i64 F.dry]
  have HF := Lib.hid hF
  have HL := Lib.hid hL
  clear hF hL
  go_enter Try.func7, Try.ntmps7
  go_upto_region 1 with fail
  generalize (w.alloc (.cells #[.slice F.pa F.ps.length F.pc, .int .i64 F.dry] 24)) = w1 at *
  have lF := kB.lt
  obtain ⟨f0, f1⟩ := frm_cells kB
  have HB1 := Lib.hid hb1
  have KB1 := Lib.hid kB
  clear kB hb1
  go_wp2_with fail
  refine (great_any F _ (HF.out.below HB1.out)).mono ?_
  rintro e w2 ⟨⟨gb, rfl⟩, hb⟩
  have HB2 := Lib.hid (HB1.out.trans (hb.mono HB1.out.size))
  have KB2 := Lib.hid (KB1.out.belowS hb)
  clear f0 f1 lF hb KB1 HB1
  cases gb with
  | true =>
    go_wp2_with fail
    refine (lives_any _).mono ?_
    rintro e w3 ⟨rfl, hb3⟩
    go_wp2_with fail
    go_ret
    exact ⟨rfl, HB2.out.trans (hb3.mono HB2.out.size)⟩
  | false =>
  go_wp2_with fail
  refine (long_any a c l _ (HL.out.belowS HB2.out)).mono ?_
  rintro e w3 ⟨⟨lb, rfl, hlb⟩, hb⟩
  have HB3 := Lib.hid (HB2.out.trans (hb.mono HB2.out.size))
  have KB3 := Lib.hid (KB2.out.belowS hb)
  clear hb KB2 HB2
  cases lb with
  | true =>
    go_wp2_with fail
    refine (lives_any _).mono ?_
    rintro e w4 ⟨rfl, hb3⟩
    go_wp2_with fail
    go_ret
    exact ⟨rfl, HB3.out.trans (hb3.mono HB3.out.size)⟩
  | false =>
  have hlen := HL.out.len
  by_cases h40 : 40 < l.length
  · have q40 : (40 : Int) < (l.length : Int) := by omega
    go_wp2_with fail
    refine (lives_any _).mono ?_
    rintro e w4 ⟨rfl, hb3⟩
    go_wp2_with fail
    go_ret
    exact ⟨rfl, HB3.out.trans (hb3.mono HB3.out.size)⟩
  have q40 : ¬ (40 : Int) < (l.length : Int) := by omega
  have H40 := Lib.hid (Nat.not_lt.1 h40)
  clear hlb h40
  have lF := KB3.out.lt
  obtain ⟨f0, f1⟩ := frm_cells KB3.out
  go_wp2_with fail
  refine (after_any F a c l _ (HF.out.below HB3.out) (HL.out.belowS HB3.out) H40.out).mono ?_
  rintro e w4 ⟨⟨bo, S, rfl, hoS, hok⟩, hb⟩
  have HB4 := Lib.hid (HB3.out.trans (hb.mono HB3.out.size))
  have kB4 := KB3.out.belowS hb
  clear f0 f1 lF hb KB3 q40 hlen
  have kA := Blk.new w4 33 (stoC S)
  have hbA : Below w4.heap.size w4 (w4.alloc (.cells #[.int .i64 S.year, .slice S.la S.last.length S.lc, .slice S.ga S.given.length S.gc, .slice S.ha S.heaps.length S.hc, .slice S.ua S.used.length S.uc, .slice S.wa S.waste.length S.wc] 33)) := (Below.refl _ w4).alloc (Nat.le_refl _) _
  have kB5 := kB4.belowS hbA
  have hoS5 := hoS.below hbA
  have HB5 := Lib.hid (HB4.out.trans (hbA.mono HB4.out.size))
  clear kB4 hoS hbA
  unfold stoV
  cases bo with
  | false =>
    clear kA kB5 hoS5 hok
    go_wp2_with fail
    refine (lives_any _).mono ?_
    rintro e w6 ⟨rfl, hb3⟩
    go_wp2_with fail
    go_ret
    exact ⟨rfl, HB5.out.trans (hb3.mono HB5.out.size)⟩
  | true =>
  obtain ⟨hE, hT⟩ := hok rfl
  have HE := Lib.hid hE
  have HT := Lib.hid (show tot S ≤ 1000 by omega)
  clear hok hE hT
  go_upto_region 6 with fail
  generalize w4.alloc (.cells #[.int .i64 S.year, .slice S.la S.last.length S.lc, .slice S.ga S.given.length S.gc, .slice S.ha S.heaps.length S.hc, .slice S.ua S.used.length S.uc, .slice S.wa S.waste.length S.wc] 33) = w5 at *
  have KA5 := Lib.hid kA
  have KB5 := Lib.hid kB5
  have HO5 := Lib.hid hoS5.store
  clear kA kB5 hoS5
  have hhl := (goodS_of HE.out).heaps.few
  go_wp2_with fail
  go_loopw [7, 8, 9, 10, 11, 12, 13, 14, 15, 16] (fun s7 _ _ _ _ _ _ _ _ _ wr => ∃ j : Nat, j ≤ S.heaps.length ∧ s7 = .int .i64 j ∧ Below w5.heap.size w5 wr) (fun i _ _ _ _ _ _ _ _ _ _ => S.heaps.length - (intOf i).toNat)
  case atStart => exact ⟨0, Nat.zero_le _, rfl, Below.refl _ _⟩
  case round =>
  obtain ⟨j, hj, rfl, hb6⟩ := hrel
  obtain ⟨w6, rfl⟩ : ∃ w6 : World, w6 = wr := ⟨_, rfl⟩
  have HB56 := Lib.hid hb6
  have HB6 := Lib.hid (HB5.out.trans (hb6.mono HB5.out.size))
  have HJ := Lib.hid hj
  have kA6 := KA5.out.belowS hb6
  have lA := kA6.lt
  obtain ⟨s0, s1, s2, s3, s4, s5⟩ := sto_cells kA6
  by_cases hlj : j < S.heaps.length
  rotate_left
  · have hlj' : ¬ (j : Int) < (S.heaps.length : Int) := by omega
    clear hlj hj hb6 hhl
    go_wp2_with fail
    refine (lives_any _).mono ?_
    rintro e w7 ⟨rfl, hb3⟩
    go_wp2_with fail
    go_ret
    exact ⟨rfl, HB6.out.trans (hb3.mono HB6.out.size)⟩
  have hlj' : (j : Int) < (S.heaps.length : Int) := by omega
  have hjs : IntKind.i64.wrap ((j : Int) + 1) = ((j + 1 : Nat) : Int) := by rw [IntKind.wrap_i64]; omega
  have HLJ := Lib.hid hlj
  have hq : S.heaps[j]? = some S.heaps[j] := List.getElem?_eq_getElem hlj
  obtain ⟨hm8, hm3⟩ := bundle_math HE.out hq
  obtain ⟨b, off, hea, hblt, hcap, hcx, ⟨y0, y1, y2, y3, y4, y5, y6⟩, yp, hnm⟩ := (HO5.out.below hb6).heaps.at hq
  have HPB := Lib.hid (heapB_parts ((goodS_of HE.out).heaps.each _ (List.mem_of_getElem? hq)))
  have HPL := Lib.hid ((ptot_fit HT.out).parts _ (List.mem_of_getElem? hq))
  generalize S.heaps[j] = h at *
  rw [hea] at s3
  have HNM := Lib.hid hnm
  have HYP := Lib.hid yp
  have HM8 := Lib.hid hm8
  have HM3 := Lib.hid hm3
  have hbH : Below w6.heap.size w6 (w6.alloc (.cells #[.string h.name, .int .i64 h.crop, .int .i64 h.stage, .slice h.pa h.parts.length h.pc, .int .i64 h.per, .int .i64 h.wlo, .int .i64 h.whi] 58)) := (Below.refl _ w6).alloc (Nat.le_refl _) _
  have kH := Blk.new w6 58 #[.string h.name, .int .i64 h.crop, .int .i64 h.stage, .slice h.pa h.parts.length h.pc, .int .i64 h.per, .int .i64 h.wlo, .int .i64 h.whi]
  have HB57 := Lib.hid (hb6.trans (hbH.mono hb6.size))
  have HP7 := Lib.hid (yp.belowS hbH)
  clear hq hm8 hm3 yp hnm hb6 hbH hlj hj hhl
  go_upto_region 10 with fail
  clear s0 s1 s2 s3 s4 s5 y0 y1 y2 y3 y4 y5 y6 hea hblt hcap hcx lA kA6
  generalize w6.alloc (.cells #[.string h.name, .int .i64 h.crop, .int .i64 h.stage, .slice h.pa h.parts.length h.pc, .int .i64 h.per, .int .i64 h.wlo, .int .i64 h.whi] 58) = w7 at *
  have HB7 := Lib.hid (HB5.out.trans (HB57.out.mono HB5.out.size))
  have KH7 := Lib.hid kH
  have kA7 := KA5.out.belowS HB57.out
  have kB7 := KB5.out.belowS HB57.out
  have lA := kA7.lt
  have lF := kB7.lt
  have lH := kH.lt
  obtain ⟨f0, f1⟩ := frm_cells kB7
  obtain ⟨s0, s1, s2, s3, s4, s5⟩ := sto_cells kA7
  have y0 : w7.cell? ⟨w6.heap.size, 0, none⟩ = some (.string h.name) := kH.cell 0
  clear kA7 kB7 kH
  by_cases h3 : h.stage = 3
  rotate_left
  · have hbn := HM8.out h3
    have q3 : (h.stage == 3) = false := by simp [h3]
    have q3' : (h.stage != 3) = true := by simp [h3]
    go_wp2_with fail
    refine (bundle_own F S h.name 0 8 [] _ (HF.out.below HB7.out) (HO5.out.below HB57.out) HT.out hbn).mono ?_
    rintro r w8 ⟨⟨a1, c1, rfl, _⟩, hb⟩
    have lH := (KH7.out.belowS hb).lt
    have y2 : w8.cell? ⟨w6.heap.size, 2, none⟩ = some (.int .i64 h.stage) := (KH7.out.belowS hb).cell 2
    have HB58 := Lib.hid (HB57.out.trans (hb.mono HB57.out.size))
    clear f0 f1 s0 s1 s2 s3 s4 s5 y0 hb hbn h3
    go_wp2_with fail
    refine ⟨⟨j + 1, by have := HLJ.out; omega, rfl, HB58.out⟩, ?_⟩
    have := HLJ.out
    simp [intOf]
    omega
  obtain ⟨hper, hmod, hq1, hqn, hbq, hbk, ha0, haq⟩ := HM3.out h3
  obtain ⟨p0, hp0⟩ : ∃ p0, bunM F S h.name 0 = (0, p0) := ⟨_, (hbk 0 (Int.le_refl _) (by omega)).1⟩
  have hnb := loadsM_bd HPB.out
  have hpl := HPL.out
  have htd : (loadsM h.parts).tdiv h.per = loadsM h.parts / h.per := Int.tdiv_eq_ediv_of_nonneg hnb.1
  have htm : (loadsM h.parts).tmod h.per = 0 := by rw [Int.tmod_eq_emod_of_nonneg hnb.1]; exact hmod
  have hqle : loadsM h.parts / h.per ≤ loadsM h.parts := Int.ediv_le_self _ hnb.1
  have hsum : ∀ w', IsPrts w' h.pa h.pc h.parts → Calls Try.prog 20 #[.slice h.pa h.parts.length h.pc, .int .i64 (-1)] w' fun e w'' => e = .returned (.int .i64 (loadsM h.parts)) ∧ w'' = w' := fun w' hw => by
    have := sum_any F.ps.length h.pa h.pc h.parts (-1) w' hw HPB.out HPL.out
    rwa [show sumM (-1) h.parts = loadsM h.parts from if_pos (by decide)] at this
  generalize hgq : loadsM h.parts / h.per = q at *
  generalize hgn : loadsM h.parts = n at *
  have HBQ := Lib.hid hbq
  have HBK := Lib.hid hbk
  have HA0 := Lib.hid ha0
  have HAQ := Lib.hid haq
  have HQN := Lib.hid (show 1 ≤ q ∧ q ≤ 100000000 ∧ 1 ≤ h.per ∧ h.per ≤ 100 by omega)
  have HSUM := Lib.hid hsum
  have HTD := Lib.hid htd
  have q3 : (h.stage == 3) = true := by simp [h3]
  have q3' : (h.stage != 3) = false := by simp [h3]
  clear hbq hbk ha0 haq hgq hgn hqle hnb hsum hpl hqn hmod hq1 h3
  go_wp2_with fail
  refine (bundle_own F S h.name 0 0 p0 _ (HF.out.below HB7.out) (HO5.out.below HB57.out) HT.out hp0).mono ?_
  rintro r w8 ⟨⟨a1, c1, rfl, _⟩, hb⟩
  have HB58 := Lib.hid (HB57.out.trans (hb.mono HB57.out.size))
  have KH8 := Lib.hid (KH7.out.belowS hb)
  have HP8 := Lib.hid (HP7.out.belowS hb)
  clear f0 f1 s0 s1 s2 s3 s4 s5 y0 hb hp0 lA lF lH KH7 HP7
  have lH := KH8.out.lt
  have y2 : w8.cell? ⟨w6.heap.size, 2, none⟩ = some (.int .i64 h.stage) := KH8.out.cell 2
  have y3 : w8.cell? ⟨w6.heap.size, 3, none⟩ = some (.slice h.pa h.parts.length h.pc) := KH8.out.cell 3
  have y4 : w8.cell? ⟨w6.heap.size, 4, none⟩ = some (.int .i64 h.per) := KH8.out.cell 4
  go_wp2_with fail
  refine (HSUM.out _ HP8.out).mono ?_
  rintro e wz ⟨rfl, rfl⟩
  have hper1 : ¬ h.per < 1 := by omega
  have hper0 : ¬ h.per = 0 := by omega
  have hper0' : (h.per == 0) = false := by simp [hper0]
  have hwq : IntKind.i64.wrap q = q := by have := HQN.out; rw [IntKind.wrap_i64]; omega
  go_wp2_with fail
  obtain ⟨w9, rfl⟩ : ∃ w9 : World, w9 = wz := ⟨_, rfl⟩
  have HKM := Lib.hid (show (0 : Int) ≤ min q 300 ∧ min q 300 ≤ q ∧ min q 300 ≤ 300 ∧ (q ≤ 300 → min q 300 = q) by have := HQN.out; omega)
  clear htd htm hper1 hper0 hper0' y2 y3 y4 lH
  obtain ⟨i0, hi, hz0, hz1, hz2⟩ := info_parts info_portion
  go_loopw [12, 13, 14, 15, 16] (fun s12 s13 _ _ _ wr => ∃ (k : Nat) (A : List Prt) (aa : Option Addr) (cc : Nat), (k : Int) ≤ min q 300 ∧ s13 = .int .i64 k ∧ s12 = .slice aa A.length cc ∧ cutT ((k : Int) * h.per) h.parts = A ∧ OwnP w9.heap.size wr aa cc A ∧ Below w9.heap.size w9 wr) (fun _ i _ _ _ _ => 300 - (intOf i).toNat)
  case atStart => exact ⟨0, [], none, 0, HKM.out.1, rfl, rfl, HA0.out, World.ownsRow_nil _ _ _ _, Below.refl _ _⟩
  case round =>
  obtain ⟨k, A, aa, cc, hk, rfl, rfl, hA, hown, hb10⟩ := hrel
  obtain ⟨w10, rfl⟩ : ∃ w10 : World, w10 = wr := ⟨_, rfl⟩
  have HA := Lib.hid hA
  have HOW := Lib.hid hown
  have HB910 := Lib.hid hb10
  have HB510 := Lib.hid (HB58.out.trans (hb10.mono HB58.out.size))
  have HB10 := Lib.hid (HB5.out.trans (HB510.out.mono HB5.out.size))
  have KH10 := Lib.hid (KH8.out.belowS hb10)
  have HP10 := Lib.hid (HP8.out.belowS hb10)
  have HK := Lib.hid hk
  have HAL := Lib.hid (show A.length ≤ 1000 from by rw [← hA]; exact Nat.le_trans (cutT_len _ _) HPL.out)
  have HAK := Lib.hid (show ∀ x ∈ A, x.ok F.ps.length from by rw [← hA]; exact cutT_ok HPB.out)
  clear hA hown hb10 hk
  have lH := KH10.out.lt
  have y4 : w10.cell? ⟨w6.heap.size, 4, none⟩ = some (.int .i64 h.per) := KH10.out.cell 4
  obtain ⟨bb, hbb⟩ : ∃ bb : Bool, decide ((k : Int) < min q 300) = bb := ⟨_, rfl⟩
  have HBB := Lib.hid hbb
  clear hbb
  have hqq := HQN.out
  have htd : n.tdiv h.per = q := HTD.out
  have hper0 : ¬ h.per = 0 := by omega
  have hper0' : (h.per == 0) = false := by simp [hper0]
  go_upto_region 19 with fail
  go_cut [86] from 80 to 85 (fun t wx => t = .bool bb ∧ wx = w10)
  case first =>
    clear hqq
    go_wp2_with fail
    all_goals
      go_meet
      refine ⟨?_, rfl⟩
      rw [← HBB.out]
      congr 2
      simp only [eq_iff_iff]
      omega
  case rest =>
  obtain ⟨rfl, rfl⟩ := hcut
  obtain ⟨w10, rfl⟩ : ∃ w10 : World, w10 = wc := ⟨_, rfl⟩
  clear hqq htd
  cases bb with
  | false =>
    have hkx : ¬ (k : Int) < min q 300 := of_decide_eq_false HBB.out
    have HKE := Lib.hid (show (k : Int) = min q 300 by have := HK.out; omega)
    clear hkx y4 lH
    have hst : ∀ w', Below w10.heap.size w10 w' → (fun w' : World => Below w10.heap.size w10 w' ∧ (w'.cell? ⟨w.heap.size, 0, none⟩ = some (.slice F.pa F.ps.length F.pc) ∧ w'.cell? ⟨w.heap.size, 1, none⟩ = some (.int .i64 F.dry) ∧ w'.cell? ⟨w4.heap.size, 0, none⟩ = some (.int .i64 S.year) ∧ w'.cell? ⟨w4.heap.size, 1, none⟩ = some (.slice S.la S.last.length S.lc) ∧ w'.cell? ⟨w4.heap.size, 2, none⟩ = some (.slice S.ga S.given.length S.gc) ∧ w'.cell? ⟨w4.heap.size, 3, none⟩ = some (.slice S.ha S.heaps.length S.hc) ∧ w'.cell? ⟨w4.heap.size, 4, none⟩ = some (.slice S.ua S.used.length S.uc) ∧ w'.cell? ⟨w4.heap.size, 5, none⟩ = some (.slice S.wa S.waste.length S.wc) ∧ w'.cell? ⟨w6.heap.size, 0, none⟩ = some (.string h.name) ∧ w'.cell? ⟨w6.heap.size, 4, none⟩ = some (.int .i64 h.per))) w' := fun w' hb => by
      have k0 := KB5.out.belowS (HB510.out.trans (hb.mono HB510.out.size))
      have k1 := KA5.out.belowS (HB510.out.trans (hb.mono HB510.out.size))
      have k2 := KH10.out.belowS hb
      exact ⟨hb, k0.cell 0, k0.cell 1, k1.cell 0, k1.cell 1, k1.cell 2, k1.cell 3, k1.cell 4, k1.cell 5, k2.cell 0, k2.cell 4⟩
    have HST := Lib.hid hst
    have HBU := Lib.hid (fun (w' : World) (hb : Below w10.heap.size w10 w') => bundle_own F S h.name q 1 [] w' (HF.out.below (HB10.out.trans (hb.mono HB10.out.size))) (HO5.out.below (HB510.out.trans (hb.mono HB510.out.size))) HT.out HBQ.out)
    have hlb : w.heap.size < w10.heap.size ∧ w4.heap.size < w10.heap.size ∧ w6.heap.size < w10.heap.size := ⟨(KB5.out.belowS HB510.out).lt, (KA5.out.belowS HB510.out).lt, KH10.out.lt⟩
    have htd : n.tdiv h.per = q := HTD.out
    clear hst
    go_upto_region 30 with fail
    go_cut [10] from 153 to 164 (fun e' wx => e' = .int .i64 1 ∧ Below w10.heap.size w10 wx)
    case first =>
      have hx := HST.out w10.drew ((Below.refl _ w10).drew)
      refine wp_region_E 13 (fun w' : World => Below w10.heap.size w10 w' ∧ (w'.cell? ⟨w.heap.size, 0, none⟩ = some (.slice F.pa F.ps.length F.pc) ∧ w'.cell? ⟨w.heap.size, 1, none⟩ = some (.int .i64 F.dry) ∧ w'.cell? ⟨w4.heap.size, 0, none⟩ = some (.int .i64 S.year) ∧ w'.cell? ⟨w4.heap.size, 1, none⟩ = some (.slice S.la S.last.length S.lc) ∧ w'.cell? ⟨w4.heap.size, 2, none⟩ = some (.slice S.ga S.given.length S.gc) ∧ w'.cell? ⟨w4.heap.size, 3, none⟩ = some (.slice S.ha S.heaps.length S.hc) ∧ w'.cell? ⟨w4.heap.size, 4, none⟩ = some (.slice S.ua S.used.length S.uc) ∧ w'.cell? ⟨w4.heap.size, 5, none⟩ = some (.slice S.wa S.waste.length S.wc) ∧ w'.cell? ⟨w6.heap.size, 0, none⟩ = some (.string h.name) ∧ w'.cell? ⟨w6.heap.size, 4, none⟩ = some (.int .i64 h.per))) (by kernel_rfl) ?_
      refine E_takeR (i := 0) (oi := _) (v := ?v1) rfl (by kernel_rfl) (by kernel_rfl) (by kernel_rfl) (by decide) (fun _ _ _ h => h) hx (Or.inl ⟨by rfl, ?y1⟩) ?r1
      case y1 => (intro w' hSw; (try dsimp only at hSw); go_simp; try with_reducible rfl)
      try simp only [Act.put, List.getElem_toArray, List.getElem_cons_zero, List.getElem_cons_succ, List.setIfInBounds_toArray, List.set_cons_zero, List.set_cons_succ]
      refine E_takeR (i := 1) (oi := _) (v := ?v2) rfl (by kernel_rfl) (by kernel_rfl) (by kernel_rfl) (by decide) (fun _ _ _ h => h) hx (Or.inl ⟨by rfl, ?y2⟩) ?r2
      case y2 => (intro w' hSw; (try dsimp only at hSw); go_simp; try with_reducible rfl)
      try simp only [Act.put, List.getElem_toArray, List.getElem_cons_zero, List.getElem_cons_succ, List.setIfInBounds_toArray, List.set_cons_zero, List.set_cons_succ]
      refine E_takeR (i := 2) (oi := _) (v := ?v3) rfl (by kernel_rfl) (by kernel_rfl) (by kernel_rfl) (by decide) (fun _ _ _ h => h) hx (Or.inl ⟨by rfl, ?y3⟩) ?r3
      case y3 => (intro w' hSw; (try dsimp only at hSw); go_simp; try with_reducible rfl)
      try simp only [Act.put, List.getElem_toArray, List.getElem_cons_zero, List.getElem_cons_succ, List.setIfInBounds_toArray, List.set_cons_zero, List.set_cons_succ]
      refine E_takeR (i := 3) (oi := _) (v := ?v4) rfl (by kernel_rfl) (by kernel_rfl) (by kernel_rfl) (by decide) (fun _ _ _ h => h) hx (Or.inl ⟨by rfl, ?y4⟩) ?r4
      case y4 => (intro w' hSw; (try dsimp only at hSw); go_simp; try with_reducible rfl)
      try simp only [Act.put, List.getElem_toArray, List.getElem_cons_zero, List.getElem_cons_succ, List.setIfInBounds_toArray, List.set_cons_zero, List.set_cons_succ]
      refine E_takeR (i := 4) (oi := _) (v := ?v5) rfl (by kernel_rfl) (by kernel_rfl) (by kernel_rfl) (by decide) (fun _ _ _ h => h) hx (Or.inl ⟨by rfl, ?y5⟩) ?r5
      case y5 => (intro w' hSw; (try dsimp only at hSw); go_simp; try with_reducible rfl)
      try simp only [Act.put, List.getElem_toArray, List.getElem_cons_zero, List.getElem_cons_succ, List.setIfInBounds_toArray, List.set_cons_zero, List.set_cons_succ]
      refine E_takeR (i := 5) (oi := _) (v := ?v6) rfl (by kernel_rfl) (by kernel_rfl) (by kernel_rfl) (by decide) (fun _ _ _ h => h) hx (Or.inl ⟨by rfl, ?y6⟩) ?r6
      case y6 => (intro w' hSw; (try dsimp only at hSw); go_simp; try with_reducible rfl)
      try simp only [Act.put, List.getElem_toArray, List.getElem_cons_zero, List.getElem_cons_succ, List.setIfInBounds_toArray, List.set_cons_zero, List.set_cons_succ]
      refine E_takeR (i := 6) (oi := _) (v := ?v7) rfl (by kernel_rfl) (by kernel_rfl) (by kernel_rfl) (by decide) (fun _ _ _ h => h) hx (Or.inl ⟨by rfl, ?y7⟩) ?r7
      case y7 => (intro w' hSw; (try dsimp only at hSw); go_simp; try with_reducible rfl)
      try simp only [Act.put, List.getElem_toArray, List.getElem_cons_zero, List.getElem_cons_succ, List.setIfInBounds_toArray, List.set_cons_zero, List.set_cons_succ]
      refine E_takeR (i := 7) (oi := _) (v := ?v8) rfl (by kernel_rfl) (by kernel_rfl) (by kernel_rfl) (by decide) (fun _ _ _ h => h) hx (Or.inl ⟨by rfl, ?y8⟩) ?r8
      case y8 => (intro w' hSw; (try dsimp only at hSw); go_simp; try with_reducible rfl)
      try simp only [Act.put, List.getElem_toArray, List.getElem_cons_zero, List.getElem_cons_succ, List.setIfInBounds_toArray, List.set_cons_zero, List.set_cons_succ]
      refine E_step (i := 8) (o := _) (by kernel_rfl) rfl (fun K hK => ?_)
      go_simp
      refine (HBU.out _ hx.1).mono ?_
      rintro r w11 ⟨⟨a2, c2, rfl, _⟩, hb11⟩
      dsimp only
      have hb11' : Below w10.heap.size w10 w11 := hx.1.trans (hb11.mono hx.1.size)
      have hx11 := HST.out w11 hb11'
      refine hK.out _ _ (fun _ => hx11) ?_
      clear hK K
      try simp only [Act.put, List.getElem_toArray, List.getElem_cons_zero, List.getElem_cons_succ, List.setIfInBounds_toArray, List.set_cons_zero, List.set_cons_succ]
      refine E_takeR (i := 9) (oi := _) (v := ?v9) rfl (by kernel_rfl) (by kernel_rfl) (by kernel_rfl) (by decide) (fun _ _ _ h => h) hx11 (Or.inl ⟨by rfl, ?y9⟩) ?r9
      case y9 => (intro w' hSw; (try dsimp only at hSw); go_simp; try with_reducible rfl)
      try simp only [Act.put, List.getElem_toArray, List.getElem_cons_zero, List.getElem_cons_succ, List.setIfInBounds_toArray, List.set_cons_zero, List.set_cons_succ]
      refine E_takeR (i := 10) (oi := _) (v := ?v10) rfl (by kernel_rfl) (by kernel_rfl) (by kernel_rfl) (by decide) (fun _ _ _ h => h) hx11 (Or.inl ⟨by rfl, ?y10⟩) ?r10
      case y10 => (intro w' hSw; (try dsimp only at hSw); go_simp; try with_reducible rfl)
      try simp only [Act.put, List.getElem_toArray, List.getElem_cons_zero, List.getElem_cons_succ, List.setIfInBounds_toArray, List.set_cons_zero, List.set_cons_succ]
      refine E_takeR (i := 11) (oi := _) (v := ?v11) rfl (by kernel_rfl) (by kernel_rfl) (by kernel_rfl) (by decide) (fun _ _ _ h => h) hx11 (Or.inl ⟨by rfl, ?y11⟩) ?r11
      case y11 => (intro w' hSw; (try dsimp only at hSw); go_simp; try with_reducible rfl)
      try simp only [Act.put, List.getElem_toArray, List.getElem_cons_zero, List.getElem_cons_succ, List.setIfInBounds_toArray, List.set_cons_zero, List.set_cons_succ]
      refine E_takeR (i := 12) (oi := _) (v := ?v12) rfl (by kernel_rfl) (by kernel_rfl) (by kernel_rfl) (by decide) (fun _ _ _ h => h) hx11 (Or.inl ⟨by rfl, ?y12⟩) ?r12
      case y12 => (intro w' hSw; (try dsimp only at hSw); go_simp; try with_reducible rfl)
      try simp only [Act.put, List.getElem_toArray, List.getElem_cons_zero, List.getElem_cons_succ, List.setIfInBounds_toArray, List.set_cons_zero, List.set_cons_succ]
      refine E_done (by kernel_rfl) ?_ _
      have HBX := Lib.hid hb11'
      clear hx hx11 hb11 hb11'
      go_wp2_with fail
      go_meet
      exact ⟨rfl, HBX.out⟩
    case rest =>
    obtain ⟨rfl, hb11⟩ := hcut
    obtain ⟨w11, rfl⟩ : ∃ w11 : World, w11 = wc := ⟨_, rfl⟩
    have HB511 := Lib.hid (HB510.out.trans (hb11.mono HB510.out.size))
    have HP11 := Lib.hid (HP10.out.belowS hb11)
    have HOW11 := Lib.hid (HOW.out.below hb11)
    have kH11 := KH10.out.belowS hb11
    have lH := kH11.lt
    have y3 : w11.cell? ⟨w6.heap.size, 3, none⟩ = some (.slice h.pa h.parts.length h.pc) := kH11.cell 3
    have y4 : w11.cell? ⟨w6.heap.size, 4, none⟩ = some (.int .i64 h.per) := kH11.cell 4
    clear hb11 kH11 HST HBU hlb
    by_cases hq3 : q ≤ 300
    · obtain rfl : A = h.parts := by
        rw [← HA.out, HKE.out, HKM.out.2.2.2 hq3]
        exact HAQ.out
      have HSA := Lib.hid (refSameParts_any aa h.pa cc h.pc h.parts w11 HOW11.out.is HP11.out)
      go_wp2_with fail
      refine HSA.out.mono ?_
      rintro e w12 ⟨rfl, hb⟩
      have HB512 := Lib.hid (HB511.out.trans (hb.mono HB511.out.size))
      clear hb y3 y4 lH
      go_wp2_with fail
      refine ⟨⟨j + 1, by have := HLJ.out; omega, rfl, HB512.out⟩, ?_⟩
      have := HLJ.out
      simp [intOf]
      omega
    · go_wp2_with fail
      refine ⟨⟨j + 1, by have := HLJ.out; omega, rfl, HB511.out⟩, ?_⟩
      have := HLJ.out
      simp [intOf]
      omega
  | true =>
  have hkq : (k : Int) < min q 300 := of_decide_eq_true HBB.out
  have hkq2 := HKM.out
  obtain ⟨hbu, hpe, hpu⟩ := HBK.out k (by omega) (by omega)
  have hks : IntKind.i64.wrap ((k : Int) + 1) = ((k + 1 : Nat) : Int) := by rw [IntKind.wrap_i64]; omega
  have HKQ := Lib.hid (show ((k + 1 : Nat) : Int) ≤ min q 300 ∧ k < 300 by omega)
  rw [HA.out] at hpu
  have HPOK := Lib.hid (show ∀ x ∈ cutT h.per (cutR ((k : Int) * h.per) h.parts), x.ok F.ps.length from cutT_ok (cutR_ok HPB.out (Int.mul_nonneg (by omega) (by omega))))
  have HPLE := Lib.hid (show (cutT h.per (cutR ((k : Int) * h.per) h.parts)).length ≤ 1000 from Nat.le_trans (cutT_len _ _) (Nat.le_trans (cutR_len _ _) HPL.out))
  generalize cutT h.per (cutR ((k : Int) * h.per) h.parts) = p at *
  have HPU := Lib.hid hpu
  have HPE := Lib.hid hpe
  clear hpu hpe hkq hkq2
  have kA10 := KA5.out.belowS HB510.out
  have kB10 := KB5.out.belowS HB510.out
  have lA := kA10.lt
  have lF := kB10.lt
  obtain ⟨f0, f1⟩ := frm_cells kB10
  obtain ⟨s0, s1, s2, s3, s4, s5⟩ := sto_cells kA10
  have y0 : w10.cell? ⟨w6.heap.size, 0, none⟩ = some (.string h.name) := KH10.out.cell 0
  clear kA10 kB10
  go_wp2_with fail
  refine (bundle_own F S h.name k 0 p _ (HF.out.below HB10.out) (HO5.out.below HB510.out) HT.out hbu).mono ?_
  rintro r w11 ⟨⟨pa, pc, rfl, hpo⟩, hb⟩
  have HB911 := Lib.hid (HB910.out.trans (hb.mono HB910.out.size))
  have HOW11 := Lib.hid (HOW.out.below hb)
  have HPO11 := Lib.hid hpo
  have kH11 := KH10.out.belowS hb
  have hlt11 : ∀ g, aa.map (·.block) = some g → g < w10.heap.size := fun g hg => (own_ge HOW.out hg).2
  have HDJ := Lib.hid (show ∀ g, aa.map (·.block) = some g → pa.map (·.block) ≠ some g from fun g hg e => by
    have h1 := hlt11 g hg
    have h2 := (own_ge hpo e).1
    omega)
  clear f0 f1 s0 s1 s2 s3 s4 s5 y0 y4 lA lF lH hb hpo hbu hlt11 HOW
  have lH := kH11.lt
  have y4 : w11.cell? ⟨w6.heap.size, 4, none⟩ = some (.int .i64 h.per) := kH11.cell 4
  have hsp : ∀ n', Calls Try.prog 20 #[.slice pa p.length pc, .int .i64 (-1)] (w11.drewN n') fun e w' => e = .returned (.int .i64 h.per) ∧ w' = w11.drewN n' := fun n' => by
    have := sum_any F.ps.length pa pc p (-1) (w11.drewN n') ((HPO11.out.below (below_drewN' _ _ n')).is) HPOK.out HPLE.out
    rwa [show sumM (-1) p = loadsM p from if_pos (by decide), HPE.out] at this
  have HSP := Lib.hid hsp
  have pp : (h.per != h.per) = false := by simp
  clear hsp kH11
  go_upto_region 22 with fail
  go_quiet (first | (go_at_call 20; with_reducible refine Calls.quiet_of_same (HSP.out _)))
  generalize hw12 : w11.drewN _ = w12
  have hb12 : Below w11.heap.size w11 w12 := by rw [← hw12]; exact below_drewN' _ _ _
  have HB912 := Lib.hid (HB911.out.trans (hb12.mono HB911.out.size))
  have HOW12 := Lib.hid (HOW11.out.below hb12)
  have HPO12 := Lib.hid (HPO11.out.below hb12)
  clear hw12 hb12 y4 lH pp HSP HOW11 HPO11 HB911
  have hpl12 := HPLE.out
  go_wp2_with fail
  go_loopw [12, 16] (fun s12 s16 wr => ∃ (m : Nat) (B : List Prt) (ba : Option Addr) (bc : Nat), m ≤ p.length ∧ s16 = .int .i64 m ∧ s12 = .slice ba B.length bc ∧ putL A (p.take m) = B ∧ OwnP w9.heap.size wr ba bc B ∧ OwnP w10.heap.size wr pa pc p ∧ (∀ g, ba.map (·.block) = some g → pa.map (·.block) ≠ some g) ∧ Below w9.heap.size w9 wr) (fun _ i _ => p.length - (intOf i).toNat)
  case atStart => exact ⟨0, A, aa, cc, Nat.zero_le _, rfl, rfl, rfl, HOW12.out, HPO12.out, HDJ.out, HB912.out⟩
  case round =>
  obtain ⟨m, B, ba, bc, hm, rfl, rfl, hB, hob, hop, hdj, hb13⟩ := hrel
  obtain ⟨w13, rfl⟩ : ∃ w13 : World, w13 = wr := ⟨_, rfl⟩
  have HB913 := Lib.hid hb13
  have HOB := Lib.hid hob
  have HOP := Lib.hid hop
  have HDJ13 := Lib.hid hdj
  clear hb13 hob hop hdj HOW12 HPO12 HDJ HB912
  by_cases hlm : m < p.length
  rotate_left
  · have hlm' : ¬ (m : Int) < (p.length : Int) := by omega
    obtain rfl : m = p.length := by omega
    rw [List.take_length, HPU.out] at hB
    have HBB2 := Lib.hid hB
    clear hB hlm hm hpl12
    go_wp2_with fail
    refine ⟨⟨k + 1, B, ba, bc, HKQ.out.1, rfl, rfl, ?_, HOB.out, HB913.out⟩, ?_⟩
    · have := HBB2.out
      rw [← this]
      congr 1
    · have := HKQ.out.2
      simp [intOf]
      omega
  have hlm' : (m : Int) < (p.length : Int) := by omega
  have hqm : p[m]? = some p[m] := List.getElem?_eq_getElem hlm
  have HNX := Lib.hid (show putL A (p.take (m + 1)) = pushL B p[m] by rw [take_snoc' hqm, putL_snoc, hB])
  have hbd := put_bd HAK.out HAL.out (v := p.take m) (fun q hq => HPOK.out q (List.mem_of_mem_take hq)) (by have := HPLE.out; rw [List.length_take]; omega)
  rw [hB] at hbd
  have hpm := HPOK.out _ (List.getElem_mem hlm)
  have hms : IntKind.i64.wrap ((m : Int) + 1) = ((m + 1 : Nat) : Int) := by rw [IntKind.wrap_i64]; omega
  obtain ⟨pb, po, hpae, hpbl, hpcap, hpcx, x0, x1⟩ := HOP.out.is.at hqm
  subst hpae
  generalize p[m] = pm at *
  obtain ⟨_, hpm1, hpm2⟩ := hpm
  obtain ⟨hbd1, hbd2⟩ := hbd
  clear hB hqm hm
  rcases List.eq_nil_or_concat B with hBn | ⟨C, q1, hBc⟩
  · have hl : B.length = 0 := by rw [hBn]; rfl
    rw [hl]
    go_upto_region 27 with fail
    go_quiet (fail)
    generalize hw14 : w13.drewN _ = w14
    have hb14 : Below w13.heap.size w13 w14 := by rw [← hw14]; exact below_drewN' _ _ _
    have HOB14 := Lib.hid (HOB.out.below hb14)
    have HOP14 := Lib.hid (HOP.out.below hb14)
    have HB914 := Lib.hid (HB913.out.trans (hb14.mono HB913.out.size))
    have x0 : w14.cell? ⟨pb, po + m * 2, none⟩ = some (.int .i64 pm.plot) := (hb14.cell (p := ⟨pb, po + m * 2, none⟩) hpbl).trans x0
    have x1 : w14.cell? ⟨pb, po + m * 2 + 1, none⟩ = some (.int .i64 pm.loads) := (hb14.cell (p := ⟨pb, po + m * 2 + 1, none⟩) hpbl).trans x1
    have hpbl : pb < w14.heap.size := Nat.lt_of_lt_of_le hpbl hb14.size
    clear hw14
    have own14 := HOB14.out
    unfold OwnP at own14
    rw [hl] at own14
    have HPUSH := Lib.hid (show pushL B pm = B ++ [pm] by rw [hBn]; rfl)
    clear hBn hbd1
    have kE := Blk.new w14 66 #[.int .i64 pm.plot, .int .i64 pm.loads]
    have hmx : 0 + 1 ≤ maxLen := by unfold maxLen; omega
    have hs14 := HB914.out.size
    have HOWN14 := Lib.hid own14
    go_wp2_with (at_builtin; refine wpList_append_lies _ rfl _ _ 31 rfl w9.heap.size 66 i0 (.agg #[.int .i64 0, .int .i64 0]) 2 16 Try.underlying31 hi hz0 hz1 hz2 rfl (by decide) (.slice ba (0) bc) (0) _ rfl (HOWN14.out.alloc _) ⟨w14.heap.size, 0, none⟩ 1 1 [.int .i64 pm.plot, .int .i64 pm.loads] rfl rfl (World.news_of_block kE) (by simp [Value.oneCell']) (by decide) hmx (by omega) (by simp; omega) _ rfl ?_; intro g' cap' w15 hown15 hgrow hat hlt; have HO15 := Lib.hid hown15; have HGR := Lib.hid hgrow; have HAT := Lib.hid hat; clear hown15 hgrow hat hlt)
    have hl2 : (B ++ [pm]).length = 0 + 1 := by rw [List.length_append, hl]; rfl
    have hbA : Below w14.heap.size w14 (w14.alloc (.cells #[.int .i64 pm.plot, .int .i64 pm.loads] 66)) := (Below.refl _ w14).alloc (Nat.le_refl _) _
    have HDJ14 : ∀ k, (Value.slice ba (0) bc).ownBlock = some k → (some (⟨pb, po, none⟩ : Addr)).map (·.block) ≠ some k := fun k e => by
      rw [rowOf_own'] at e
      exact HDJ13.out k e
    refine ⟨⟨m + 1, B ++ [pm], some ⟨g', 0, none⟩, cap', by omega, rfl, by rw [hl2], by rw [HNX.out, HPUSH.out], ?_, (HOP14.out.below hbA).turn (Turn.of_grown HGR.out) (fun k e => HDJ14 k e), fun g2 e => ?_, ((HB914.out.alloc HB914.out.size _).grown HGR.out (by simp; omega) (fun k e => ?_))⟩, ?_⟩
    · unfold OwnP
      rw [hl2]
      have o := HO15.out
      simpa [cellsPrt] using o
    · obtain rfl : g' = g2 := by simpa using e
      rcases HAT.out with h1 | h1
      · exact HDJ14 _ h1
      · intro h2
        have h3 : pb = g' := by simpa using h2
        have h4 : (w14.alloc (.cells #[.int .i64 pm.plot, .int .i64 pm.loads] 66)).heap.size = w14.heap.size + 1 := World.size_alloc _ _
        rw [h4] at h1
        omega
    · rw [rowOf_own'] at e
      exact (own_ge HOB14.out e).1
    · simp [intOf]; omega
  · rw [List.concat_eq_append] at hBc
    have hl : B.length = C.length + 1 := by rw [hBc]; simp
    have hql := hbd1 q1 (by rw [hBc]; simp)
    rcases row_at cellsPrt 2 (fun _ => rfl) (show w13.ownsRow w9.heap.size 66 2 (.slice ba B.length bc) B.length (B.flatMap cellsPrt) from HOB.out) with ⟨_, h0⟩ | ⟨g, cap, hv, hbg, hg, hcap, hcap2, key⟩
    · rw [h0] at hl; simp at hl
    obtain ⟨rfl, _, rfl⟩ := slice_inj hv
    have hqC : B[C.length]? = some q1 := by rw [hBc]; simp
    have e0 : w13.cell? ⟨g, C.length * 2, none⟩ = some (.int .i64 q1.plot) := key C.length q1 hqC 0 (by omega)
    have e1 : w13.cell? ⟨g, C.length * 2 + 1, none⟩ = some (.int .i64 q1.loads) := key C.length q1 hqC 1 (by omega)
    have hsub : IntKind.i64.wrap (((C.length + 1 : Nat) : Int) - 1) = (C.length : Int) := by rw [IntKind.wrap_i64]; omega
    have hgt : decide ((0 : Int) < ((C.length + 1 : Nat) : Int)) = true := decide_eq_true (by omega)
    have hsub2 : IntKind.i64.wrap (C.length : Int) = (C.length : Int) := by rw [IntKind.wrap_i64]; omega
    have hsub3 : IntKind.i64.wrap ((C.length : Int) + 1 - 1) = (C.length : Int) := by rw [IntKind.wrap_i64]; omega
    have hCl2 : (C.length : Int) < (C.length : Int) + 1 := by omega
    have hC0 : (0 : Int) ≤ (C.length : Int) := by omega
    have hCl : (C.length : Int) < ((C.length + 1 : Nat) : Int) := by omega
    rw [hl]
    rw [hl] at hcap
    clear key hv hqC
    by_cases hpq : q1.plot = pm.plot
    · have hqq1 : (q1.plot == pm.plot) = true := by simp [hpq]
      have HPUSH := Lib.hid (show pushL B pm = C ++ [Prt.mk q1.plot (q1.loads + pm.loads)] by rw [hBc]; exact pushL_same C q1 pm hpq)
      clear hpq
      go_upto_region 27 with fail
      go_quiet (fail)
      generalize hw14 : w13.drewN _ = w14
      have hb14 : Below w13.heap.size w13 w14 := by rw [← hw14]; exact below_drewN' _ _ _
      have HOB14 := Lib.hid (HOB.out.below hb14)
      have HOP14 := Lib.hid (HOP.out.below hb14)
      have HB914 := Lib.hid (HB913.out.trans (hb14.mono HB913.out.size))
      have x0 : w14.cell? ⟨pb, po + m * 2, none⟩ = some (.int .i64 pm.plot) := (hb14.cell (p := ⟨pb, po + m * 2, none⟩) hpbl).trans x0
      have x1 : w14.cell? ⟨pb, po + m * 2 + 1, none⟩ = some (.int .i64 pm.loads) := (hb14.cell (p := ⟨pb, po + m * 2 + 1, none⟩) hpbl).trans x1
      have hpbl : pb < w14.heap.size := Nat.lt_of_lt_of_le hpbl hb14.size
      clear hw14
      have e1' := (hb14.cell (p := ⟨g, C.length * 2 + 1, none⟩) hg).trans e1
      have lg : g < w14.heap.size := Nat.lt_of_lt_of_le hg hb14.size
      have hwl : IntKind.i64.wrap (q1.loads + pm.loads) = q1.loads + pm.loads := by rw [IntKind.wrap_i64]; omega
      clear e0 e1
      go_upto_region 28 with fail
      go_still_tail 15, (by kernel_rfl)
      change wpList _ _ _ _ _ w14.drew
      have HOB15 := Lib.hid (HOB14.out.below ((Below.refl _ w14).drew))
      have HOP15 := Lib.hid (HOP14.out.below ((Below.refl _ w14).drew))
      have HB915 := Lib.hid (HB914.out.trans (((Below.refl w14.heap.size w14).drew).mono HB914.out.size))
      have e1'' : w14.drew.cell? ⟨g, C.length * 2 + 1, none⟩ = some (.int .i64 (q1.loads)) := (((Below.refl _ w14).drew).cell (p := ⟨g, C.length * 2 + 1, none⟩) lg).trans e1'
      have lg' : g < w14.drew.heap.size := lg
      have x0' : w14.drew.cell? ⟨pb, po + m * 2, none⟩ = some (.int .i64 pm.plot) := x0
      have x1' : w14.drew.cell? ⟨pb, po + m * 2 + 1, none⟩ = some (.int .i64 pm.loads) := x1
      have lpb' : pb < w14.drew.heap.size := hpbl
      clear x0 x1 e1' lg hpbl
      generalize w14.drew = w15 at *
      have hfz : w15.frozen? ⟨g, C.length * 2 + 1, none⟩ = false := by
        rcases HOB15.out.2 with ⟨e, _⟩ | ⟨g', cap', cur, e, _, hgg, _⟩
        · cases e
        · obtain ⟨e2, _, _⟩ := slice_inj e
          obtain rfl : g = g' := by injection e2 with e2; injection e2
          exact Blk.frozen (show Blk w15 g cur _ from hgg) _
      have HDJ15 := Lib.hid (HDJ13.out g rfl)
      go_wp2_with fail
      have ht : Turn (fun k => k = g) w15 (w15.setCell ⟨g, C.length * 2 + 1, none⟩ (.int .i64 (q1.loads + pm.loads))) := (Turn.of_below (X := fun k => k = g) (Below.refl _ w15)).setCell (B := g) rfl _ _
      have hl2 : (C ++ [Prt.mk q1.plot (q1.loads + pm.loads)]).length = C.length + 1 := by simp
      refine ⟨⟨m + 1, C ++ [Prt.mk q1.plot (q1.loads + pm.loads)], some ⟨g, 0, none⟩, bc, by omega, rfl, by rw [hl2], by rw [HNX.out, HPUSH.out], ?_, HOP15.out.turn ht (fun k e => by rw [show k = g from e]; exact HDJ15.out), fun g2 e => ?_, HB915.out.trans (ht.below HB915.out.size (fun k e => by rw [show k = g from e]; exact hbg))⟩, ?_⟩
      · have o := HOB15.out
        unfold OwnP at o ⊢
        rw [hl] at o
        rw [hl2, ← set_flat]
        rw [hBc] at o
        exact ownsRow_setOwn o (by omega) _
      · obtain rfl : g = g2 := by simpa using e
        exact HDJ15.out
      · simp [intOf]; omega
    · have hqq1 : (q1.plot == pm.plot) = false := by simp [hpq]
      have HPUSH := Lib.hid (show pushL B pm = B ++ [pm] by rw [hBc]; exact pushL_other C q1 pm hpq)
      clear hpq
      go_upto_region 27 with fail
      go_quiet (fail)
      generalize hw14 : w13.drewN _ = w14
      have hb14 : Below w13.heap.size w13 w14 := by rw [← hw14]; exact below_drewN' _ _ _
      have HOB14 := Lib.hid (HOB.out.below hb14)
      have HOP14 := Lib.hid (HOP.out.below hb14)
      have HB914 := Lib.hid (HB913.out.trans (hb14.mono HB913.out.size))
      have x0 : w14.cell? ⟨pb, po + m * 2, none⟩ = some (.int .i64 pm.plot) := (hb14.cell (p := ⟨pb, po + m * 2, none⟩) hpbl).trans x0
      have x1 : w14.cell? ⟨pb, po + m * 2 + 1, none⟩ = some (.int .i64 pm.loads) := (hb14.cell (p := ⟨pb, po + m * 2 + 1, none⟩) hpbl).trans x1
      have hpbl : pb < w14.heap.size := Nat.lt_of_lt_of_le hpbl hb14.size
      clear hw14
      have own14 := HOB14.out
      unfold OwnP at own14
      rw [hl] at own14
      clear e0 e1 hBc hql hbd1
      have kE := Blk.new w14 66 #[.int .i64 pm.plot, .int .i64 pm.loads]
      have hmx : (C.length + 1) + 1 ≤ maxLen := by unfold maxLen; omega
      have hs14 := HB914.out.size
      have HOWN14 := Lib.hid own14
      go_wp2_with (at_builtin; refine wpList_append_lies _ rfl _ _ 31 rfl w9.heap.size 66 i0 (.agg #[.int .i64 0, .int .i64 0]) 2 16 Try.underlying31 hi hz0 hz1 hz2 rfl (by decide) (.slice (some ⟨g, 0, none⟩) ((C.length + 1)) bc) ((C.length + 1)) _ rfl (HOWN14.out.alloc _) ⟨w14.heap.size, 0, none⟩ 1 1 [.int .i64 pm.plot, .int .i64 pm.loads] rfl rfl (World.news_of_block kE) (by simp [Value.oneCell']) (by decide) hmx (by omega) (by simp; omega) _ rfl ?_; intro g' cap' w15 hown15 hgrow hat hlt; have HO15 := Lib.hid hown15; have HGR := Lib.hid hgrow; have HAT := Lib.hid hat; clear hown15 hgrow hat hlt)
      have hl2 : (B ++ [pm]).length = (C.length + 1) + 1 := by rw [List.length_append, hl]; rfl
      have hbA : Below w14.heap.size w14 (w14.alloc (.cells #[.int .i64 pm.plot, .int .i64 pm.loads] 66)) := (Below.refl _ w14).alloc (Nat.le_refl _) _
      have HDJ14 : ∀ k, (Value.slice (some ⟨g, 0, none⟩) ((C.length + 1)) bc).ownBlock = some k → (some (⟨pb, po, none⟩ : Addr)).map (·.block) ≠ some k := fun k e => by
        rw [rowOf_own'] at e
        exact HDJ13.out k e
      refine ⟨⟨m + 1, B ++ [pm], some ⟨g', 0, none⟩, cap', by omega, rfl, by rw [hl2], by rw [HNX.out, HPUSH.out], ?_, (HOP14.out.below hbA).turn (Turn.of_grown HGR.out) (fun k e => HDJ14 k e), fun g2 e => ?_, ((HB914.out.alloc HB914.out.size _).grown HGR.out (by simp; omega) (fun k e => ?_))⟩, ?_⟩
      · unfold OwnP
        rw [hl2]
        have o := HO15.out
        simpa [cellsPrt] using o
      · obtain rfl : g' = g2 := by simpa using e
        rcases HAT.out with h1 | h1
        · exact HDJ14 _ h1
        · intro h2
          have h3 : pb = g' := by simpa using h2
          have h4 : (w14.alloc (.cells #[.int .i64 pm.plot, .int .i64 pm.loads] 66)).heap.size = w14.heap.size + 1 := World.size_alloc _ _
          rw [h4] at h1
          omega
      · rw [rowOf_own'] at e
        exact (own_ge HOB14.out e).1
      · simp [intOf]; omega
end Go.Proofs.Ytkohmgmoeffgnaa
