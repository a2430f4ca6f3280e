/- StrawSwapped's walk. No condition. -/
import Derived.Test.YtghepojnimlafaaMTQ
import Derived.Test.YtghepojnimlafaaMWQ
import Derived.Deep.AppendLies
set_option linter.unusedSimpArgs false
namespace Go.Proofs.Ytghepojnimlafaa
open Go.RowKit

theorem info_plot : ((Try.prog : Program).info? 37).map (fun i => (i.zero, i.size, i.bytes)) = some (some (.agg #[.string ⟨#[]⟩, .int .i64 0, .int .i64 0, .int .i64 0, .int .i64 0, .int .i64 0, .int .i64 0, .int .i64 0, .int .i64 0]), 9, 80) := by kernel_rfl
theorem info_chore : ((Try.prog : Program).info? 40).map (fun i => (i.zero, i.size, i.bytes)) = some (some (.agg #[.int .i64 0, .int .i64 0, .int .i64 0, .string ⟨#[]⟩, .string ⟨#[]⟩, .int .i64 0, .int .i64 0, .int .i64 0, .int .i64 0]), 9, 88) := by kernel_rfl
abbrev pltL (p : Plt) : List Value := [.string p.name, .int .i64 p.crop, .int .i64 p.size, .int .i64 p.ylo, .int .i64 p.yhi, .int .i64 p.rest, .int .i64 p.wlo, .int .i64 p.whi, .int .i64 p.cost]
abbrev chrL (a : Chr) : List Value := (chrC a).toList
theorem plt_block {w w' : World} {b o : Nat} {p : Plt} (h : PltAt w b o p) (hb : w'.heap[b]? = w.heap[b]?) : PltAt w' b o p := by
  have c : ∀ i, w'.cell? ⟨b, i, none⟩ = w.cell? ⟨b, i, none⟩ := fun i => by simp only [World.cell?, hb]
  obtain ⟨h0, h1, h2, h3, h4, h5, h6, h7, h8⟩ := h
  exact ⟨(c _).trans h0, (c _).trans h1, (c _).trans h2, (c _).trans h3, (c _).trans h4, (c _).trans h5, (c _).trans h6, (c _).trans h7, (c _).trans h8⟩
theorem isPlts_own {w : World} {base c : Nat} {a : Option Addr} {l : List Plt} (h : w.ownsRow base 37 9 (.slice a l.length c) l.length (l.flatMap pltL)) (hn : ∀ p ∈ l, p.name.size ≤ maxLen) : IsPlts w (.slice a l.length c) l := by
  rcases row_at pltL 9 (fun _ => rfl) h with ⟨hv, rfl⟩ | ⟨g, cap, hv, hb, hg, h1, h2, key⟩
  · exact .inl ⟨hv, rfl⟩
  · refine .inr ⟨g, 0, cap, hv, hg, h1, h2, fun j f hj => ⟨?_, hn f (List.mem_of_getElem? hj)⟩⟩
    rw [Nat.zero_add]
    have k := key j f hj
    exact ⟨k 0 (by omega), k 1 (by omega), k 2 (by omega), k 3 (by omega), k 4 (by omega), k 5 (by omega), k 6 (by omega), k 7 (by omega), k 8 (by omega)⟩
theorem isChrs_own {w : World} {base c : Nat} {a : Option Addr} {l : List Chr} (h : w.ownsRow base 40 9 (.slice a l.length c) l.length (l.flatMap chrL)) (hn : ∀ x ∈ l, x.name.size ≤ maxLen ∧ x.other.size ≤ maxLen) : IsChrs w a c l := by
  rcases row_at chrL 9 (fun _ => rfl) h with ⟨hv, rfl⟩ | ⟨g, cap, hv, hb, hg, h1, h2, key⟩
  · exact .inl rfl
  · obtain ⟨rfl, _, rfl⟩ := slice_inj hv
    refine .inr ⟨g, 0, rfl, hg, h1, h2, fun j f hj => ⟨?_, hn f (List.mem_of_getElem? hj)⟩⟩
    rw [Nat.zero_add]
    have k := key j f hj
    exact ⟨k 0 (by omega), k 1 (by omega), k 2 (by omega), k 3 (by omega), k 4 (by omega), k 5 (by omega), k 6 (by omega), k 7 (by omega), k 8 (by omega)⟩
theorem IsFarm.names {w : World} {F : Frm} (h : IsFarm w F) : ∀ p ∈ F.ps, p.name.size ≤ maxLen := fun p hp => by
  obtain ⟨j, hj⟩ := List.getElem?_of_mem hp
  rcases h with ⟨_, h0⟩ | ⟨b, off, cap, _, _, _, _, hx⟩
  · rw [h0] at hj; simp at hj
  · exact (hx j p hj).2
theorem IsChrs.names {w : World} {a : Option Addr} {c : Nat} {l : List Chr} (h : IsChrs w a c l) : ∀ x ∈ l, x.name.size ≤ maxLen ∧ x.other.size ≤ maxLen := fun x hx => by
  obtain ⟨j, hj⟩ := List.getElem?_of_mem hx
  obtain ⟨_, _, _, _, _, _, _, h1, h2⟩ := h.at hj
  exact ⟨h1, h2⟩
def chC (ps : List Plt) (n : Ned) : Int := if needB n = true then (chooseM ps n).least else 0
def chB (ps : List Plt) (n : Ned) : Bool := if needB n = true then (chooseM ps n).found else false
def chErr (n : Ned) : Int := if needB n = true then 0 else 1
theorem chC_rev (ps : List Plt) (n : Ned) : chC ps.reverse n = chC ps n := by unfold chC; rw [(choose_rev ps n).2]
theorem chB_rev (ps : List Plt) (n : Ned) : chB ps.reverse n = chB ps n := by unfold chB; rw [(choose_rev ps n).1]
theorem choose_end (F : Frm) (n : Ned) (w : World) (hF : IsFarm w F) (hE : checkE F = 0) :
    Calls Try.prog 11 #[.agg #[.slice F.pa F.ps.length F.pc, .int .i64 F.dry], .agg #[.int .i64 n.reed, .int .i64 n.straw, .int .i64 n.heather]] w fun e w' => (∃ v, e = .returned (.tuple #[v, .int .i64 (chC F.ps n), .bool (chB F.ps n), .int .i64 (chErr n)])) ∧ Below w.heap.size w w' := by
  refine (choose_any F n w hF).mono ?_
  rintro e w' ⟨hb, ⟨h1, rfl⟩ | ⟨_, h2, ba, bc, rfl, _, _⟩⟩
  · refine ⟨⟨.slice none 0 0, ?_⟩, hb⟩
    unfold chooseE at h1 ⊢
    rw [if_neg (by simp [hE])] at h1 ⊢
    have h3 : needB n = false := by
      cases h : needB n with
      | false => rfl
      | true => rw [if_neg (by simp [h])] at h1; exact absurd rfl h1
    rw [if_pos h3]
    unfold chC chB chErr
    rw [if_neg (by simp [h3]), if_neg (by simp [h3]), if_neg (by simp [h3])]
  · refine ⟨⟨.slice ba (chooseM F.ps n).best.length bc, ?_⟩, hb⟩
    unfold chC chB chErr
    rw [if_pos h2, if_pos h2, if_pos h2]
theorem run_equalIn_any (d : Nat) (v0 v1 v2 v3 : Int) (w : World) :
    (Op.equalIn (d + 2) 54 (.agg #[.int .i64 v0, .int .i64 v1, .int .i64 v2, .int .i64 v3]) (.agg #[.int .i64 v0, .int .i64 v1, .int .i64 v2, .int .i64 v3])).run Try.prog w = .ok true w := by
  rw [run_equalIn_struct w (d + 1) 54 _ _ (by kernel_rfl) (by kernel_rfl)]
  simp [Program.fieldsOf, Try.underlying54, Op.eqFields, go_sem]
theorem same_revS {S T : Sto} {n : Int} (h : SameSto S T) : SameSto (revS n S) (revS n T) := by
  refine ⟨h.year, ?_, ?_, ?_, ?_, ?_, ?_⟩
  · show S.last.reverse = T.last.reverse
    rw [h.last]
  · show S.given.reverse = T.given.reverse
    rw [h.given]
  · show S.used.map (revP n) = T.used.map (revP n)
    rw [h.used]
  · show S.waste.map (revP n) = T.waste.map (revP n)
    rw [h.waste]
  · show (S.heaps.map (revH n)).length = (T.heaps.map (revH n)).length
    rw [List.length_map, List.length_map, h.many]
  · intro i g k hg hk
    have hg' : (S.heaps.map (revH n))[i]? = some g := hg
    have hk' : (T.heaps.map (revH n))[i]? = some k := hk
    rw [List.getElem?_map] at hg' hk'
    cases h1 : S.heaps[i]? with
    | none => rw [h1] at hg'; cases hg'
    | some x =>
      cases h2 : T.heaps[i]? with
      | none => rw [h2] at hk'; cases hk'
      | some y =>
        rw [h1] at hg'
        rw [h2] at hk'
        cases hg'
        cases hk'
        have e := h.heaps i x y h1 h2
        exact ⟨e.name, e.crop, e.stage, by show x.parts.map (revP n) = y.parts.map (revP n); rw [e.parts], e.per, e.wlo, e.whi⟩
/-- Fields in an own row. -/
def OwnF (base : Nat) (w : World) (a : Option Addr) (c : Nat) (l : List Plt) : Prop := w.ownsRow base 37 9 (.slice a l.length c) l.length (l.flatMap pltL)

set_option maxRecDepth 100000 in
set_option maxHeartbeats 16000000 in
theorem strawSwappedLaw_any (F : Frm) (a : Option Addr) (c : Nat) (l : List Chr) (n : Ned) (w : World) (hF : IsFarm w F) (hL : IsChrs w a c l) (hpl : ∀ x ∈ l, -9223372036854775808 ≤ x.plot ∧ x.plot ≤ 9223372036854775807) :
    Calls Try.prog 3 #[.agg #[.slice F.pa F.ps.length F.pc, .int .i64 F.dry], .slice a l.length c, .agg #[.int .i64 n.reed, .int .i64 n.straw, .int .i64 n.heather]] w fun e w' => e = .returned (.bool true) ∧ Below w.heap.size w w' := by
  have hb1 : Below w.heap.size w ((w.alloc (.cells #[.slice F.pa F.ps.length F.pc, .int .i64 F.dry] 24)).alloc (.cells #[.int .i64 n.reed, .int .i64 n.straw, .int .i64 n.heather] 27)) := ((Below.refl _ w).alloc (Nat.le_refl _) _).alloc (by simp) _
  have kB := (Blk.new w 24 #[.slice F.pa F.ps.length F.pc, .int .i64 F.dry]).alloc (.cells #[.int .i64 n.reed, .int .i64 n.straw, .int .i64 n.heather] 27)
  have kN := Blk.new (w.alloc (.cells #[.slice F.pa F.ps.length F.pc, .int .i64 F.dry] 24)) 27 #[.int .i64 n.reed, .int .i64 n.straw, .int .i64 n.heather]
  rw [World.size_alloc] at kN
  have HF := Lib.hid hF
  have HL := Lib.hid hL
  clear hF hL
  have HPL := Lib.hid hpl
  clear hpl
  go_enter Try.func3, Try.ntmps3
  go_upto_region 1 with fail
  generalize ((w.alloc (.cells #[.slice F.pa F.ps.length F.pc, .int .i64 F.dry] 24)).alloc (.cells #[.int .i64 n.reed, .int .i64 n.straw, .int .i64 n.heather] 27)) = w1 at *
  have KN1 := Lib.hid kN
  clear kN
  have lF := kB.lt
  obtain ⟨f0, f1⟩ := frm_cells kB
  have HB1 := Lib.hid hb1
  have KB1 := Lib.hid kB
  clear kB hb1
  go_wp2_with fail
  refine (great_any F _ (HF.out.below HB1.out)).mono ?_
  rintro e w2 ⟨⟨gb, rfl⟩, hb⟩
  have HB2 := Lib.hid (HB1.out.trans (hb.mono HB1.out.size))
  have KB2 := Lib.hid (KB1.out.belowS hb)
  have KN2 := Lib.hid (KN1.out.belowS hb)
  clear f0 f1 lF hb KB1 HB1
  cases gb with
  | true =>
    go_wp2_with fail
    refine (lives_any _).mono ?_
    rintro e w3 ⟨rfl, hb3⟩
    go_wp2_with fail
    go_ret
    exact ⟨rfl, HB2.out.trans (hb3.mono HB2.out.size)⟩
  | false =>
  go_wp2_with fail
  refine (long_any a c l _ (HL.out.belowS HB2.out)).mono ?_
  rintro e w3 ⟨⟨lb, rfl, hlb⟩, hb⟩
  have HB3 := Lib.hid (HB2.out.trans (hb.mono HB2.out.size))
  have KB3 := Lib.hid (KB2.out.belowS hb)
  have KN3 := Lib.hid (KN2.out.belowS hb)
  clear hb KB2 HB2
  cases lb with
  | true =>
    go_wp2_with fail
    refine (lives_any _).mono ?_
    rintro e w4 ⟨rfl, hb3⟩
    go_wp2_with fail
    go_ret
    exact ⟨rfl, HB3.out.trans (hb3.mono HB3.out.size)⟩
  | false =>
  have hlen := HL.out.len
  by_cases h40 : 40 < l.length
  · have q40 : (40 : Int) < (l.length : Int) := by omega
    go_wp2_with fail
    refine (lives_any _).mono ?_
    rintro e w4 ⟨rfl, hb3⟩
    go_wp2_with fail
    go_ret
    exact ⟨rfl, HB3.out.trans (hb3.mono HB3.out.size)⟩
  have q40 : ¬ (40 : Int) < (l.length : Int) := by omega
  have H40 := Lib.hid (Nat.not_lt.1 h40)
  clear hlb h40
  have lF := KB3.out.lt
  obtain ⟨f0, f1⟩ := frm_cells KB3.out
  go_wp2_with fail
  refine (check_any F _ (HF.out.below HB3.out)).mono ?_
  rintro e w4 ⟨rfl, hb⟩
  have HB4 := Lib.hid (HB3.out.trans (hb.mono HB3.out.size))
  have kB4 := KB3.out.belowS hb
  have kN4 := KN3.out.belowS hb
  clear f0 f1 lF hb KB3 KN3 HB3
  by_cases hE : checkE F = 0
  rotate_left
  · generalize checkE F = E at *
    have q1 : (E == 0) = false := by simp [hE]
    have q2 : (E != 0) = true := by simp [hE]
    clear hE kB4 kN4
    go_wp2_with fail
    refine (lives_any _).mono ?_
    rintro e w6 ⟨rfl, hb3⟩
    go_wp2_with fail
    go_ret
    exact ⟨rfl, HB4.out.trans (hb3.mono HB4.out.size)⟩
  rw [hE]
  have HE := Lib.hid hE
  have hn12 := (checkE_ok hE).1
  have lF := kB4.lt
  obtain ⟨f0, f1⟩ := frm_cells kB4
  have kO := Blk.new w4 24 #[.slice none 0 0, .int .i64 F.dry]
  have hbO : Below w4.heap.size w4 (w4.alloc (.cells #[.slice none 0 0, .int .i64 F.dry] 24)) := (Below.refl _ w4).alloc (Nat.le_refl _) _
  have hwn : IntKind.i64.wrap ((F.ps.length : Int) - 1) = (F.ps.length : Int) - 1 := by rw [IntKind.wrap_i64]; omega
  have hsz5 : (w4.alloc (.cells #[.slice none 0 0, .int .i64 F.dry] 24)).heap.size = w4.heap.size + 1 := World.size_alloc _ _
  have KB4 := Lib.hid kB4
  have KN4 := Lib.hid kN4
  clear hE kB4 kN4
  go_upto_region 5 with fail
  generalize w4.alloc (.cells #[.slice none 0 0, .int .i64 F.dry] 24) = w5 at *
  have HSZ5 := Lib.hid hsz5
  clear hsz5 f0 f1 lF
  obtain ⟨i0, hi, hz0, hz1, hz2⟩ := info_parts info_plot
  go_wp2_with fail
  go_loopw [9] (fun s9 wr => ∃ (j : Nat) (oa : Option Addr) (oc : Nat), j ≤ F.ps.length ∧ s9 = .int .i64 ((F.ps.length : Int) - 1 - j) ∧ Blk wr w4.heap.size #[.slice oa j oc, .int .i64 F.dry] 24 ∧ wr.ownsRow (w4.heap.size + 1) 37 9 (.slice oa j oc) j ((F.ps.reverse.take j).flatMap pltL) ∧ Below w4.heap.size w4 wr) (fun i _ => (intOf i + 1).toNat)
  case atStart => exact ⟨0, none, 0, Nat.zero_le _, by simp, kO, World.ownsRow_nil _ _ _ _, hbO⟩
  case round =>
  obtain ⟨j, oa, oc, hj, rfl, ko, hown, hb6⟩ := hrel
  obtain ⟨w6, rfl⟩ : ∃ w6 : World, w6 = wr := ⟨_, rfl⟩
  clear kO hbO hwn
  have kf := KB4.out.belowS hb6
  by_cases hjn : j < F.ps.length
  · obtain ⟨idx, hidx⟩ : ∃ idx : Nat, (F.ps.length : Int) - 1 - j = (idx : Int) := ⟨F.ps.length - 1 - j, by omega⟩
    have hil : idx < F.ps.length := by omega
    have hge : (0 : Int) ≤ (idx : Int) := by omega
    have hil' : (idx : Int) < (F.ps.length : Int) := by omega
    rw [hidx]
    have hdec : IntKind.i64.wrap ((idx : Int) - 1) = (F.ps.length : Int) - 1 - ((j + 1 : Nat) : Int) := by rw [IntKind.wrap_i64]; omega
    have hq : F.ps[idx]? = some F.ps[idx] := List.getElem?_eq_getElem hil
    have hrq : F.ps.reverse[j]? = some F.ps[idx] := by rw [List.getElem?_reverse hjn, show F.ps.length - 1 - j = idx by omega, hq]
    have HNX := Lib.hid (show (F.ps.reverse.take (j + 1)).flatMap pltL = (F.ps.reverse.take j).flatMap pltL ++ pltL F.ps[idx] by rw [take_snoc' hrq]; simp)
    obtain ⟨b, off, hea, hblt, hcap, hcx, hp0⟩ := IsPlts.at (HF.out.below HB4.out) hq
    generalize F.ps[idx] = p at *
    have HJ := Lib.hid (And.intro hj hjn)
    have hb6s := hb6.size
    have hbl6 : b < w6.heap.size := Nat.lt_of_lt_of_le hblt hb6s
    have hp6 : PltAt w6 b (off + idx * 9) p := hp0.below hb6 hblt
    have hneF : some w.heap.size ≠ (Value.slice oa j oc).ownBlock := fun e => by rw [rowOf_own'] at e; have := (own_ge hown e.symm).1; have := KB4.out.lt; omega
    have hneO : some w4.heap.size ≠ (Value.slice oa j oc).ownBlock := fun e => by rw [rowOf_own'] at e; have := (own_ge hown e.symm).1; omega
    have hneB : some b ≠ (Value.slice oa j oc).ownBlock := fun e => by rw [rowOf_own'] at e; have := (own_ge hown e.symm).1; omega
    have hrl : ∀ k, (Value.slice oa j oc).ownBlock = some k → w4.heap.size + 1 ≤ k := fun k e => by rw [rowOf_own'] at e; exact (own_ge hown e).1
    have hkeep : ∀ w', Blk w' w.heap.size #[.slice F.pa F.ps.length F.pc, .int .i64 F.dry] 24 → Blk w' w4.heap.size #[.slice oa j oc, .int .i64 F.dry] 24 → PltAt w' b (off + idx * 9) p → (fun w' : World => (w'.cell? ⟨w.heap.size, 0, none⟩ = some (.slice (some ⟨b, off, none⟩) F.ps.length F.pc) ∧ w'.cell? ⟨w.heap.size, 1, none⟩ = some (.int .i64 F.dry) ∧ w'.cell? ⟨w4.heap.size, 0, none⟩ = some (.slice oa j oc) ∧ w'.cell? ⟨w4.heap.size, 1, none⟩ = some (.int .i64 F.dry) ∧ w'.cell? ⟨b, off + idx * 9, none⟩ = some (.string p.name) ∧ w'.cell? ⟨b, off + idx * 9 + 1, none⟩ = some (.int .i64 p.crop) ∧ w'.cell? ⟨b, off + idx * 9 + 2, none⟩ = some (.int .i64 p.size) ∧ w'.cell? ⟨b, off + idx * 9 + 3, none⟩ = some (.int .i64 p.ylo) ∧ w'.cell? ⟨b, off + idx * 9 + 4, none⟩ = some (.int .i64 p.yhi) ∧ w'.cell? ⟨b, off + idx * 9 + 5, none⟩ = some (.int .i64 p.rest) ∧ w'.cell? ⟨b, off + idx * 9 + 6, none⟩ = some (.int .i64 p.wlo) ∧ w'.cell? ⟨b, off + idx * 9 + 7, none⟩ = some (.int .i64 p.whi) ∧ w'.cell? ⟨b, off + idx * 9 + 8, none⟩ = some (.int .i64 p.cost))) w' := fun w' k1 k2 k3 => by
      have e0 : w'.cell? ⟨w.heap.size, 0, none⟩ = some (.slice F.pa F.ps.length F.pc) := k1.cell 0
      rw [hea] at e0
      exact ⟨e0, k1.cell 1, k2.cell 0, k2.cell 1, k3⟩
    have HKE := Lib.hid hkeep
    have hx := hkeep w6.drew (kf.drew) (ko.drew) (hp6.below ((Below.refl w6.heap.size w6).drew) hbl6)
    have lF := kf.lt
    have lO := ko.lt
    have zO := ko.frozen 0
    have hmx : j + 1 ≤ maxLen := by unfold maxLen; omega
    have HOW := Lib.hid hown
    have HB6 := Lib.hid hb6
    have HKF := Lib.hid kf
    have HKO := Lib.hid ko
    have HP6 := Lib.hid hp6
    have kE := Blk.new w6.drew 37 #[.string p.name, .int .i64 p.crop, .int .i64 p.size, .int .i64 p.ylo, .int .i64 p.yhi, .int .i64 p.rest, .int .i64 p.wlo, .int .i64 p.whi, .int .i64 p.cost]
    have HDI := Lib.hid hidx
    clear hq hrq hp0 hp6 hown hb6 kf ko hkeep hea hidx
    go_upto_region 8 with fail
    refine wp_region_E 10 (fun w' : World => (w'.cell? ⟨w.heap.size, 0, none⟩ = some (.slice (some ⟨b, off, none⟩) F.ps.length F.pc) ∧ w'.cell? ⟨w.heap.size, 1, none⟩ = some (.int .i64 F.dry) ∧ w'.cell? ⟨w4.heap.size, 0, none⟩ = some (.slice oa j oc) ∧ w'.cell? ⟨w4.heap.size, 1, none⟩ = some (.int .i64 F.dry) ∧ w'.cell? ⟨b, off + idx * 9, none⟩ = some (.string p.name) ∧ w'.cell? ⟨b, off + idx * 9 + 1, none⟩ = some (.int .i64 p.crop) ∧ w'.cell? ⟨b, off + idx * 9 + 2, none⟩ = some (.int .i64 p.size) ∧ w'.cell? ⟨b, off + idx * 9 + 3, none⟩ = some (.int .i64 p.ylo) ∧ w'.cell? ⟨b, off + idx * 9 + 4, none⟩ = some (.int .i64 p.yhi) ∧ w'.cell? ⟨b, off + idx * 9 + 5, none⟩ = some (.int .i64 p.rest) ∧ w'.cell? ⟨b, off + idx * 9 + 6, none⟩ = some (.int .i64 p.wlo) ∧ w'.cell? ⟨b, off + idx * 9 + 7, none⟩ = some (.int .i64 p.whi) ∧ w'.cell? ⟨b, off + idx * 9 + 8, none⟩ = some (.int .i64 p.cost))) (by kernel_rfl) ?_
    refine E_take (i := 0) (oi := _) (v := ?vt2) rfl (by kernel_rfl) (by kernel_rfl) (by kernel_rfl) (by kernel_rfl) (fun _ _ _ h => h) hx (Or.inl ⟨by rfl, ?yt2⟩) ?rt2
    case yt2 => (intro w' hSw; (try dsimp only at hSw); go_simp; try with_reducible rfl)
    try simp only [Act.put, List.getElem_toArray, List.getElem_cons_zero, List.getElem_cons_succ, List.setIfInBounds_toArray, List.set_cons_zero, List.set_cons_succ]
    refine E_take (i := 1) (oi := _) (v := ?vt3) rfl (by kernel_rfl) (by kernel_rfl) (by kernel_rfl) (by kernel_rfl) (fun _ _ _ h => h) hx (Or.inl ⟨by rfl, ?yt3⟩) ?rt3
    case yt3 => (intro w' hSw; (try dsimp only at hSw); go_simp; try with_reducible rfl)
    try simp only [Act.put, List.getElem_toArray, List.getElem_cons_zero, List.getElem_cons_succ, List.setIfInBounds_toArray, List.set_cons_zero, List.set_cons_succ]
    refine E_take (i := 2) (oi := _) (v := ?vt4) rfl (by kernel_rfl) (by kernel_rfl) (by kernel_rfl) (by kernel_rfl) (fun _ _ _ h => h) hx (Or.inl ⟨by rfl, ?yt4⟩) ?rt4
    case yt4 => (intro w' hSw; (try dsimp only at hSw); go_simp; try with_reducible rfl)
    try simp only [Act.put, List.getElem_toArray, List.getElem_cons_zero, List.getElem_cons_succ, List.setIfInBounds_toArray, List.set_cons_zero, List.set_cons_succ]
    refine E_take (i := 3) (oi := _) (v := ?vt5) rfl (by kernel_rfl) (by kernel_rfl) (by kernel_rfl) (by kernel_rfl) (fun _ _ _ h => h) hx (Or.inl ⟨by rfl, ?yt5⟩) ?rt5
    case yt5 => (intro w' hSw; (try dsimp only at hSw); go_simp; try with_reducible rfl)
    try simp only [Act.put, List.getElem_toArray, List.getElem_cons_zero, List.getElem_cons_succ, List.setIfInBounds_toArray, List.set_cons_zero, List.set_cons_succ]
    refine E_take (i := 4) (oi := _) (v := ?vt6) rfl (by kernel_rfl) (by kernel_rfl) (by kernel_rfl) (by kernel_rfl) (fun _ _ _ h => h) hx (Or.inl ⟨by rfl, ?yt6⟩) ?rt6
    case yt6 => (intro w' hSw; (try dsimp only at hSw); go_simp; try with_reducible rfl)
    try simp only [Act.put, List.getElem_toArray, List.getElem_cons_zero, List.getElem_cons_succ, List.setIfInBounds_toArray, List.set_cons_zero, List.set_cons_succ]
    refine E_take (i := 5) (oi := _) (v := ?vt7) rfl (by kernel_rfl) (by kernel_rfl) (by kernel_rfl) (by kernel_rfl) (fun _ _ _ h => h) hx (Or.inl ⟨by rfl, ?yt7⟩) ?rt7
    case yt7 => (intro w' hSw; (try dsimp only at hSw); go_simp; try with_reducible rfl)
    try simp only [Act.put, List.getElem_toArray, List.getElem_cons_zero, List.getElem_cons_succ, List.setIfInBounds_toArray, List.set_cons_zero, List.set_cons_succ]
    refine E_take (i := 6) (oi := _) (v := ?vt8) rfl (by kernel_rfl) (by kernel_rfl) (by kernel_rfl) (by kernel_rfl) (fun _ _ _ h => h) hx (Or.inl ⟨by rfl, ?yt8⟩) ?rt8
    case yt8 => (intro w' hSw; (try dsimp only at hSw); go_simp; try with_reducible rfl)
    try simp only [Act.put, List.getElem_toArray, List.getElem_cons_zero, List.getElem_cons_succ, List.setIfInBounds_toArray, List.set_cons_zero, List.set_cons_succ]
    refine E_step (i := 7) (o := _) (by kernel_rfl) rfl (fun K hK => ?_)
    go_simp
    have hbA : Below w6.heap.size w6 (w6.drew.alloc (.cells #[.string p.name, .int .i64 p.crop, .int .i64 p.size, .int .i64 p.ylo, .int .i64 p.yhi, .int .i64 p.rest, .int .i64 p.wlo, .int .i64 p.whi, .int .i64 p.cost] 37)) := ((Below.refl w6.heap.size w6).drew).alloc (Nat.le_refl _) _
    refine hK.out _ _ (fun _ => HKE.out _ (HKF.out.belowS hbA) (HKO.out.belowS hbA) (HP6.out.below hbA hbl6)) ?_
    clear hK K
    try simp only [Act.put, List.getElem_toArray, List.getElem_cons_zero, List.getElem_cons_succ, List.setIfInBounds_toArray, List.set_cons_zero, List.set_cons_succ]
    refine E_step (i := 8) (o := _) (by kernel_rfl) rfl (fun K hK => ?_)
    refine step_append_lies _ (by rfl) _ _ _ (by rfl) (w4.heap.size + 1) 37 i0 _ 9 80 Try.underlying22 hi hz0 hz1 hz2 rfl (by omega) _ j ((F.ps.reverse.take j).flatMap pltL) (by rfl) (own_below HOW.out hbA)
      ⟨w6.heap.size, 0, none⟩ 1 1 (pltL p) (by rfl) (by rfl) (World.news_of_block kE) (by simp [Value.oneCell']) (by omega) hmx (by omega) (by simp; omega) (w6.heap.size + 1) (by simp) ?_
    intro g' cap' w9 hown9 hgrow hat hlt9
    have ht9 := Turn.of_grown hgrow
    have kf9 := ht9.blk (HKF.out.belowS hbA) (fun e => hneF e.symm)
    have ko9 := ht9.blk (HKO.out.belowS hbA) (fun e => hneO e.symm)
    have kp9 := plt_block (HP6.out.below hbA hbl6) (ht9.block b (Nat.lt_of_lt_of_le hbl6 hbA.size) (fun e => hneB e.symm))
    have hx9 := HKE.out _ kf9 ko9 kp9
    refine hK.out _ _ (fun _ => hx9) ?_
    clear hK K
    try simp only [Act.put, List.getElem_toArray, List.getElem_cons_zero, List.getElem_cons_succ, List.setIfInBounds_toArray, List.set_cons_zero, List.set_cons_succ]
    refine E_take (i := 9) (oi := _) (v := ?vt1) rfl (by kernel_rfl) (by kernel_rfl) (by kernel_rfl) (by kernel_rfl) (fun _ _ _ h => h) hx9 (Or.inl ⟨by rfl, ?yt1⟩) ?rt1
    case yt1 => (intro w' hSw; (try dsimp only at hSw); go_simp; try with_reducible rfl)
    try simp only [Act.put, List.getElem_toArray, List.getElem_cons_zero, List.getElem_cons_succ, List.setIfInBounds_toArray, List.set_cons_zero, List.set_cons_succ]
    have lO9 := ko9.lt
    have zO9 := ko9.frozen 0
    have cO9 : w9.cell? ⟨w4.heap.size, 0, none⟩ = some (.slice oa j oc) := ko9.cell 0
    refine E_step (i := 10) (o := _) (by kernel_rfl) rfl (fun K hK => ?_)
    go_simp
    refine hK.out _ _ (fun h => absurd rfl h) ?_
    clear hK K
    try simp only [Act.put, List.getElem_toArray, List.getElem_cons_zero, List.getElem_cons_succ, List.setIfInBounds_toArray, List.set_cons_zero, List.set_cons_succ]
    refine E_done (by kernel_rfl) ?_ _
    have HO9 := Lib.hid hown9
    have HKO9 := Lib.hid ko9
    have HB9 := Lib.hid (((HB6.out.trans (hbA.mono HB6.out.size)).grown hgrow (by have := hbA.size; omega) (fun k e => Nat.le_of_succ_le (hrl k e))))
    clear hx hx9 hown9 hgrow hat ht9 kf9 ko9 kp9 hbA lO9 zO9 cO9 kE lF lO zO
    go_wp2_with fail
    refine ⟨⟨j + 1, some ⟨g', 0, none⟩, cap', by omega, rfl, HKO9.out.set 0 _, ?_, HB9.out.setCell (p := ⟨w4.heap.size, 0, none⟩) (Nat.le_refl _) _⟩, ?_⟩
    · rw [HNX.out]
      exact ownsRow_setCell_below HO9.out (a := ⟨w4.heap.size, 0, none⟩) (Nat.lt_succ_self _) _
    · have := HDI.out
      simp [intOf]
      omega
  · have hjN : j = F.ps.length := by omega
    subst hjN
    have hil' : ¬ (0 : Int) ≤ (F.ps.length : Int) - 1 - (F.ps.length : Int) := by omega
    rw [List.take_of_length_le (by rw [List.length_reverse]; exact Nat.le_refl _)] at hown
    have hrl : F.ps.reverse.length = F.ps.length := List.length_reverse ..
    have HG6 := Lib.hid (show IsFarm w6 ⟨oa, oc, F.ps.reverse, F.dry⟩ from by
      have h : w6.ownsRow (w4.heap.size + 1) 37 9 (.slice oa F.ps.reverse.length oc) F.ps.reverse.length (F.ps.reverse.flatMap pltL) := by rw [hrl]; exact hown
      exact isPlts_own h (fun p hp => (HF.out.names) p (List.mem_reverse.1 hp)))
    have HKO6 := Lib.hid ko
    have HKF6 := Lib.hid kf
    have HKN6 := Lib.hid (KN4.out.belowS hb6)
    have HB6 := Lib.hid (HB4.out.trans (hb6.mono HB4.out.size))
    clear ko kf hown hb6 hj hjn hrl hi hz0 hz1 hz2
    obtain ⟨i1, hi, hz0, hz1, hz2⟩ := info_parts info_chore
    go_wp2_with fail
    have h40 := H40.out
    go_loopw [10, 11, 12] (fun s10 s11 _ wr => ∃ (j : Nat) (ba : Option Addr) (bc : Nat), j ≤ l.length ∧ s11 = .int .i64 j ∧ s10 = .slice ba j bc ∧ wr.ownsRow w6.heap.size 40 9 (.slice ba j bc) j (((l.map (revC F.ps.length)).take j).flatMap chrL) ∧ Below w6.heap.size w6 wr) (fun _ i _ _ => l.length - (intOf i).toNat)
    case atStart => exact ⟨0, none, 0, Nat.zero_le _, rfl, rfl, World.ownsRow_nil _ _ _ _, Below.refl _ _⟩
    case round =>
    obtain ⟨j, ba, bc, hj, rfl, rfl, hown, hb7⟩ := hrel
    obtain ⟨w7, rfl⟩ : ∃ w7 : World, w7 = wr := ⟨_, rfl⟩
    have HB7 := Lib.hid (HB6.out.trans (hb7.mono HB6.out.size))
    by_cases hlj : j < l.length
    · have hlj' : (j : Int) < (l.length : Int) := by omega
      have hq : l[j]? = some l[j] := List.getElem?_eq_getElem hlj
      obtain ⟨b, off, hea, hblt, hcap, hcx, ⟨x0, x1, x2, x3, x4, x5, x6, x7, x8⟩, hn1, hn2⟩ := (HL.out.belowS HB7.out).at hq
      have HNX := Lib.hid (show ((l.map (revC F.ps.length)).take (j + 1)).flatMap chrL = ((l.map (revC F.ps.length)).take j).flatMap chrL ++ chrL (revC F.ps.length l[j]) by rw [take_snoc' (x := revC F.ps.length l[j]) (by rw [List.getElem?_map, hq]; rfl)]; simp)
      have hjs : IntKind.i64.wrap ((j : Int) + 1) = ((j + 1 : Nat) : Int) := by rw [IntKind.wrap_i64]; omega
      subst hea
      generalize l[j] = x at *
      have hbC : Below w7.heap.size w7 (w7.alloc (.cells (chrC x) 40)) := (Below.refl _ w7).alloc (Nat.le_refl _) _
      have kC := Blk.new w7 40 (chrC x)
      have hrl : ∀ k, ba.map (·.block) = some k → w6.heap.size ≤ k ∧ k < w7.heap.size := fun k e => own_ge hown e
      have own8 := own_below hown hbC
      have hb8 := hb7.trans (hbC.mono hb7.size)
      have hs7 := hb7.size
      have hmx : j + 1 ≤ maxLen := by unfold maxLen; omega
      clear hq hown hb7
      go_upto_region 14 with fail
      clear x0 x1 x2 x3 x4 x5 x6 x7 x8 hblt hcap hcx
      generalize w7.alloc (.cells (chrC x) 40) = w8 at *
      have lC := kC.lt
      have HOW := Lib.hid own8
      have HB8 := Lib.hid hb8
      have HRL := Lib.hid hrl
      have HS7 := Lib.hid hs7
      clear own8 hb8 hbC hrl
      by_cases k2 : x.kind = 2
      · have q2 : (x.kind == 2) = true := by simp [k2]
        have hwn1 : IntKind.i64.wrap ((F.ps.length : Int) - 1) = (F.ps.length : Int) - 1 := by rw [IntKind.wrap_i64]; omega
        obtain ⟨v, hv⟩ : ∃ v : Int, IntKind.i64.wrap ((F.ps.length : Int) - 1 - x.plot) = v := ⟨_, rfl⟩
        have HPU := Lib.hid (show chrL (revC F.ps.length x) = chrL { x with plot := v } by unfold revC; rw [if_pos k2, hv])
        have y0 : w8.cell? ⟨w7.heap.size, 0, none⟩ = some (.int .i64 x.kind) := kC.cell 0
        have y1 : w8.cell? ⟨w7.heap.size, 1, none⟩ = some (.int .i64 x.plot) := kC.cell 1
        have z1 := kC.frozen 1
        clear k2
        go_upto_region 16 with fail
        have kC9 : Blk (w8.setCell ⟨w7.heap.size, 1, none⟩ (.int .i64 v)) w7.heap.size (chrC { x with plot := v }) 40 := kC.set 1 (.int .i64 v)
        have ht : Turn (fun k => k = w7.heap.size) w8 (w8.setCell ⟨w7.heap.size, 1, none⟩ (.int .i64 v)) := (Turn.of_below (X := fun k => k = w7.heap.size) (Below.refl _ w8)).setCell (B := w7.heap.size) rfl 1 (.int .i64 v)
        have HOW9 := Lib.hid (ht.row HOW.out (fun k e h => by have := (HRL.out k h).2; have := (show k = w7.heap.size from e); omega))
        have HB9 := Lib.hid (HB8.out.trans (ht.below HB8.out.size (fun k e => by rw [show k = w7.heap.size from e]; exact HS7.out)))
        clear y0 y1 z1 hv hwn1 ht kC
        generalize w8.setCell ⟨w7.heap.size, 1, none⟩ (.int .i64 v) = w9 at *
        have lC := kC9.lt
        have kE := Blk.new w9 40 (chrC { x with plot := v })
        obtain ⟨y0, y1, y2, y3, y4, y5, y6, y7, y8⟩ := (show w9.cell? ⟨w7.heap.size, 0, none⟩ = some (.int .i64 x.kind) ∧ w9.cell? ⟨w7.heap.size, 1, none⟩ = some (.int .i64 v) ∧ w9.cell? ⟨w7.heap.size, 2, none⟩ = some (.int .i64 x.loads) ∧ w9.cell? ⟨w7.heap.size, 3, none⟩ = some (.string x.name) ∧ w9.cell? ⟨w7.heap.size, 4, none⟩ = some (.string x.other) ∧ w9.cell? ⟨w7.heap.size, 5, none⟩ = some (.int .i64 x.days) ∧ w9.cell? ⟨w7.heap.size, 6, none⟩ = some (.int .i64 x.per) ∧ w9.cell? ⟨w7.heap.size, 7, none⟩ = some (.int .i64 x.rlo) ∧ w9.cell? ⟨w7.heap.size, 8, none⟩ = some (.int .i64 x.rhi) from ⟨kC9.cell 0, kC9.cell 1, kC9.cell 2, kC9.cell 3, kC9.cell 4, kC9.cell 5, kC9.cell 6, kC9.cell 7, kC9.cell 8⟩)
        have hs8 := HB9.out.size
        go_wp2_with (at_builtin; refine wpList_append_lies _ rfl _ _ 25 rfl w6.heap.size 40 i1 (.agg #[.int .i64 0, .int .i64 0, .int .i64 0, .string ⟨#[]⟩, .string ⟨#[]⟩, .int .i64 0, .int .i64 0, .int .i64 0, .int .i64 0]) 9 88 Try.underlying25 hi hz0 hz1 hz2 rfl (by decide) (.slice ba j bc) j _ rfl (HOW9.out.alloc _) ⟨w9.heap.size, 0, none⟩ 1 1 (chrL { x with plot := v }) rfl rfl (World.news_of_block kE) (by simp [Value.oneCell']) (by decide) hmx (by omega) (by simp; omega) _ rfl ?_; intro g' cap' w10 hown9 hgrow hat hlt; have HO9 := Lib.hid hown9; have HGR := Lib.hid hgrow; clear hown9 hgrow hat hlt)
        refine ⟨⟨j + 1, some ⟨g', 0, none⟩, cap', by omega, rfl, rfl, by rw [HNX.out, HPU.out]; exact HO9.out, (HB9.out.alloc HB9.out.size _).grown HGR.out (by simp; omega) (fun k e => by rw [rowOf_own'] at e; exact (HRL.out k e).1)⟩, by simp [intOf]; omega⟩
      · have q2 : (x.kind == 2) = false := by simp [k2]
        have HPU := Lib.hid (show chrL (revC F.ps.length x) = chrL x by unfold revC; rw [if_neg k2])
        have y0 : w8.cell? ⟨w7.heap.size, 0, none⟩ = some (.int .i64 x.kind) := kC.cell 0
        clear k2
        go_upto_region 16 with fail
        clear y0
        have kE := Blk.new w8 40 (chrC x)
        obtain ⟨y0, y1, y2, y3, y4, y5, y6, y7, y8⟩ := (show w8.cell? ⟨w7.heap.size, 0, none⟩ = some (.int .i64 x.kind) ∧ w8.cell? ⟨w7.heap.size, 1, none⟩ = some (.int .i64 x.plot) ∧ w8.cell? ⟨w7.heap.size, 2, none⟩ = some (.int .i64 x.loads) ∧ w8.cell? ⟨w7.heap.size, 3, none⟩ = some (.string x.name) ∧ w8.cell? ⟨w7.heap.size, 4, none⟩ = some (.string x.other) ∧ w8.cell? ⟨w7.heap.size, 5, none⟩ = some (.int .i64 x.days) ∧ w8.cell? ⟨w7.heap.size, 6, none⟩ = some (.int .i64 x.per) ∧ w8.cell? ⟨w7.heap.size, 7, none⟩ = some (.int .i64 x.rlo) ∧ w8.cell? ⟨w7.heap.size, 8, none⟩ = some (.int .i64 x.rhi) from ⟨kC.cell 0, kC.cell 1, kC.cell 2, kC.cell 3, kC.cell 4, kC.cell 5, kC.cell 6, kC.cell 7, kC.cell 8⟩)
        have hs8 := HB8.out.size
        go_wp2_with (at_builtin; refine wpList_append_lies _ rfl _ _ 25 rfl w6.heap.size 40 i1 (.agg #[.int .i64 0, .int .i64 0, .int .i64 0, .string ⟨#[]⟩, .string ⟨#[]⟩, .int .i64 0, .int .i64 0, .int .i64 0, .int .i64 0]) 9 88 Try.underlying25 hi hz0 hz1 hz2 rfl (by decide) (.slice ba j bc) j _ rfl (HOW.out.alloc _) ⟨w8.heap.size, 0, none⟩ 1 1 (chrL x) rfl rfl (World.news_of_block kE) (by simp [Value.oneCell']) (by decide) hmx (by omega) (by simp; omega) _ rfl ?_; intro g' cap' w9 hown9 hgrow hat hlt; have HO9 := Lib.hid hown9; have HGR := Lib.hid hgrow; clear hown9 hgrow hat hlt)
        refine ⟨⟨j + 1, some ⟨g', 0, none⟩, cap', by omega, rfl, rfl, by rw [HNX.out, HPU.out]; exact HO9.out, (HB8.out.alloc HB8.out.size _).grown HGR.out (by simp; omega) (fun k e => by rw [rowOf_own'] at e; exact (HRL.out k e).1)⟩, by simp [intOf]; omega⟩
    · have hlj' : ¬ (j : Int) < (l.length : Int) := by omega
      obtain rfl : j = l.length := by omega
      rw [List.take_of_length_le (by rw [List.length_map]; exact Nat.le_refl _)] at hown
      have HBK := Lib.hid (show IsChrs w7 ba bc (l.map (revC F.ps.length)) from by
        have hml : (l.map (revC F.ps.length)).length = l.length := List.length_map ..
        have h : w7.ownsRow w6.heap.size 40 9 (.slice ba (l.map (revC F.ps.length)).length bc) (l.map (revC F.ps.length)).length ((l.map (revC F.ps.length)).flatMap chrL) := by rw [hml]; exact hown
        refine isChrs_own h (fun x hx => ?_)
        obtain ⟨y, hy, rfl⟩ := List.mem_map.1 hx
        have := (HL.out.names) y hy
        unfold revC
        split <;> exact this)
      have HF7 := Lib.hid (HF.out.below HB7.out)
      have HG7 := Lib.hid (HG6.out.below hb7)
      have HL7 := Lib.hid (HL.out.belowS HB7.out)
      have KF7 := Lib.hid (HKF6.out.belowS hb7)
      have KO7 := Lib.hid (HKO6.out.belowS hb7)
      have KN7 := Lib.hid (HKN6.out.belowS hb7)
      have HGE := Lib.hid (check_rev (G := ⟨oa, oc, F.ps.reverse, F.dry⟩) rfl rfl HE.out)
      have H40 := Lib.hid (show l.length ≤ 40 by omega)
      clear hown hb7 hlj hj hi hz0 hz1 hz2 h40
      have lF := KF7.out.lt
      obtain ⟨f0, f1⟩ := frm_cells KF7.out
      go_wp2_with fail
      refine (new_any F _ HF7.out).mono ?_
      rintro e w8 ⟨hs, hb⟩
      rcases hs with ⟨hx, _⟩ | ⟨_, v, rfl, K1, K2, c1, c2, rfl, hk1, hk2⟩
      · exact absurd HE.out hx
      have HB8 := Lib.hid (HB7.out.trans (hb.mono HB7.out.size))
      have HB8s := Lib.hid hb.size
      have kS := Blk.new w8 45 #[.int .i64 0, .slice K1 F.ps.length c1, .slice K2 F.ps.length c2, .slice none 0 0, .slice none 0 0, .slice none 0 0]
      have hbS : Below w8.heap.size w8 (w8.alloc (.cells #[.int .i64 0, .slice K1 F.ps.length c1, .slice K2 F.ps.length c2, .slice none 0 0, .slice none 0 0, .slice none 0 0] 45)) := (Below.refl _ w8).alloc (Nat.le_refl _) _
      have hb79 := hb.trans (hbS.mono hb.size)
      have hk19 := hk1.belowS hbS
      have hk29 := hk2.belowS hbS
      clear f0 f1 lF hb hk1 hk2
      go_upto_region 18 with fail
      generalize w8.alloc (.cells #[.int .i64 0, .slice K1 F.ps.length c1, .slice K2 F.ps.length c2, .slice none 0 0, .slice none 0 0, .slice none 0 0] 45) = w9 at *
      have HB79 := Lib.hid hb79
      have KS9 := Lib.hid kS
      have HK1 := Lib.hid hk19
      have HK2 := Lib.hid hk29
      have kO9 := KO7.out.belowS hb79
      have lO := kO9.lt
      obtain ⟨g0, g1⟩ := (show w9.cell? ⟨w4.heap.size, 0, none⟩ = some (.slice oa F.ps.length oc) ∧ w9.cell? ⟨w4.heap.size, 1, none⟩ = some (.int .i64 F.dry) from ⟨kO9.cell 0, kO9.cell 1⟩)
      have hnewG := new_own ⟨oa, oc, F.ps.reverse, F.dry⟩ w9 (HG7.out.below hb79)
      simp only [List.length_reverse, NewOwn] at hnewG
      have HNG := Lib.hid hnewG
      clear kS hk19 hk29 hb79 hbS kO9 hnewG
      go_wp2_with fail
      refine HNG.out.mono ?_
      rintro e w10 ⟨hs, hb⟩
      rcases hs with ⟨hx, _⟩ | ⟨_, N1, N2, rfl, hN1, hN2, hl1, hl2⟩
      · exact absurd HGE.out hx
      have hb710 := HB79.out.trans (hb.mono HB79.out.size)
      have HS910 := Lib.hid hb.size
      have kT := Blk.new w10 45 #[.int .i64 0, .slice (some ⟨N1, 0, none⟩) F.ps.length F.ps.length, .slice (some ⟨N2, 0, none⟩) F.ps.length F.ps.length, .slice none 0 0, .slice none 0 0, .slice none 0 0]
      have hbT : Below w10.heap.size w10 (w10.alloc (.cells #[.int .i64 0, .slice (some ⟨N1, 0, none⟩) F.ps.length F.ps.length, .slice (some ⟨N2, 0, none⟩) F.ps.length F.ps.length, .slice none 0 0, .slice none 0 0, .slice none 0 0] 45)) := (Below.refl _ w10).alloc (Nat.le_refl _) _
      have hb711 := hb710.trans (hbT.mono hb710.size)
      have hb911 := hb.trans (hbT.mono hb.size)
      have hl19 := hl1.belowS hbT
      have hl29 := hl2.belowS hbT
      clear g0 g1 lO hb hb710 hl1 hl2
      go_upto_region 19 with fail
      generalize w10.alloc (.cells #[.int .i64 0, .slice (some ⟨N1, 0, none⟩) F.ps.length F.ps.length, .slice (some ⟨N2, 0, none⟩) F.ps.length F.ps.length, .slice none 0 0, .slice none 0 0, .slice none 0 0] 45) = w11 at *
      have HB711 := Lib.hid hb711
      have HB911 := Lib.hid hb911
      have KT11 := Lib.hid kT
      have HL1 := Lib.hid hl19
      have HL2 := Lib.hid hl29
      have kS11 := KS9.out.belowS hb911
      have KS11 := Lib.hid kS11
      have KF11 := Lib.hid (KF7.out.belowS hb711)
      have KO11 := Lib.hid (KO7.out.belowS hb711)
      have KN11 := Lib.hid (KN7.out.belowS hb711)
      have HK111 := Lib.hid (HK1.out.belowS hb911)
      have HK211 := Lib.hid (HK2.out.belowS hb911)
      clear hb711 hb911 kT hl19 hl29 hbT HNG
      have lF := KF11.out.lt
      obtain ⟨f0, f1⟩ := frm_cells KF11.out
      have lS := kS11.lt
      obtain ⟨s0, s1, s2, s3, s4, s5⟩ := sto_cells (S := firstOf F K1 K2 c1 c2) (by simpa only [stoC, firstOf, List.length_replicate, List.length_nil] using kS11)
      clear kS11
      obtain ⟨Y, m, ev, hall, hn, hev, hdone, hpart⟩ := parts_math (first_ok HE.out K1 K2 c1 c2) (first_tot F K1 K2 c1 c2) H40.out
      obtain ⟨Y', hy1, hy2, hy3, hy4⟩ := hpart m (Nat.le_refl m)
      rw [hdone] at hy1
      obtain rfl : Y = Y' := by simpa using hy1
      have HY := Lib.hid hall
      have HY3 := Lib.hid hy3
      have HY4 := Lib.hid hy4
      clear hall hn hev hdone hpart hy1 hy2 hy3 hy4
      simp only [firstOf, List.length_replicate, List.length_nil] at s0 s1 s2 s3 s4 s5
      go_wp2_with fail
      refine (run_first F K1 K2 c1 c2 a c l l.length _ rfl (HF7.out.below HB711.out) HK111.out HK211.out (HL7.out.belowS HB711.out) HE.out H40.out HY.out).mono ?_
      rintro e w12 ⟨⟨T, rfl, hoT, hsT⟩, hb⟩
      have hb712 := HB711.out.trans (hb.mono HB711.out.size)
      have kS12 := KS11.out.belowS hb
      have kT12 := KT11.out.belowS hb
      have kN1 := HL1.out.belowS hb
      have kN2 := HL2.out.belowS hb
      have HS78 := Lib.hid HB8s.out
      have HS89 := Lib.hid (show w8.heap.size < w9.heap.size from KS9.out.lt)
      have HS11 := Lib.hid (show w10.heap.size < w11.heap.size from KT11.out.lt)
      have HSN := Lib.hid (show w9.heap.size ≤ N1 ∧ w9.heap.size ≤ N2 ∧ w9.heap.size ≤ w10.heap.size from ⟨hN1, hN2, HS910.out⟩)
      clear s0 s1 s2 s3 s4 s5 lS f0 f1 lF hN1 hN2
      obtain ⟨s0, s1, s2, s3, s4, s5⟩ := (show w12.cell? ⟨w8.heap.size, 0, none⟩ = some (.int .i64 0) ∧ w12.cell? ⟨w8.heap.size, 1, none⟩ = some (.slice K1 F.ps.length c1) ∧ w12.cell? ⟨w8.heap.size, 2, none⟩ = some (.slice K2 F.ps.length c2) ∧ w12.cell? ⟨w8.heap.size, 3, none⟩ = some (.slice none 0 0) ∧ w12.cell? ⟨w8.heap.size, 4, none⟩ = some (.slice none 0 0) ∧ w12.cell? ⟨w8.heap.size, 5, none⟩ = some (.slice none 0 0) from ⟨kS12.cell 0, kS12.cell 1, kS12.cell 2, kS12.cell 3, kS12.cell 4, kS12.cell 5⟩)
      have lS := kS12.lt
      have z0 := kS12.frozen 0
      have z1 := kS12.frozen 1
      have z2 := kS12.frozen 2
      have z3 := kS12.frozen 3
      have z4 := kS12.frozen 4
      have z5 := kS12.frozen 5
      have HS1112 := Lib.hid hb.size
      have kO12 := KO11.out.belowS hb
      have kF12 := KF11.out.belowS hb
      have kNe12 := KN11.out.belowS hb
      have HS47 := Lib.hid KO7.out.lt
      have HS07 := Lib.hid KF7.out.lt
      have HS17 := Lib.hid KN7.out.lt
      have HN12 := Lib.hid hn12
      clear hb hn12
      go_upto_region 22 with fail
      have kS13 : Blk ((((((w12.setCell ⟨w8.heap.size, 0, none⟩ (.int .i64 T.year)).setCell ⟨w8.heap.size, 1, none⟩ (.slice T.la T.last.length T.lc)).setCell ⟨w8.heap.size, 2, none⟩ (.slice T.ga T.given.length T.gc)).setCell ⟨w8.heap.size, 3, none⟩ (.slice T.ha T.heaps.length T.hc)).setCell ⟨w8.heap.size, 4, none⟩ (.slice T.ua T.used.length T.uc)).setCell ⟨w8.heap.size, 5, none⟩ (.slice T.wa T.waste.length T.wc)) w8.heap.size (stoC T) 45 := ((((((kS12.set 0 (.int .i64 T.year)).set 1 (.slice T.la T.last.length T.lc)).set 2 (.slice T.ga T.given.length T.gc)).set 3 (.slice T.ha T.heaps.length T.hc)).set 4 (.slice T.ua T.used.length T.uc)).set 5 (.slice T.wa T.waste.length T.wc))
      have ht : Turn (fun k => k = w8.heap.size) w12 ((((((w12.setCell ⟨w8.heap.size, 0, none⟩ (.int .i64 T.year)).setCell ⟨w8.heap.size, 1, none⟩ (.slice T.la T.last.length T.lc)).setCell ⟨w8.heap.size, 2, none⟩ (.slice T.ga T.given.length T.gc)).setCell ⟨w8.heap.size, 3, none⟩ (.slice T.ha T.heaps.length T.hc)).setCell ⟨w8.heap.size, 4, none⟩ (.slice T.ua T.used.length T.uc)).setCell ⟨w8.heap.size, 5, none⟩ (.slice T.wa T.waste.length T.wc)) := (((((((Turn.of_below (X := fun k => k = w8.heap.size) (Below.refl _ w12)).setCell (B := w8.heap.size) rfl 0 (.int .i64 T.year)).setCell (B := w8.heap.size) rfl 1 (.slice T.la T.last.length T.lc)).setCell (B := w8.heap.size) rfl 2 (.slice T.ga T.given.length T.gc)).setCell (B := w8.heap.size) rfl 3 (.slice T.ha T.heaps.length T.hc)).setCell (B := w8.heap.size) rfl 4 (.slice T.ua T.used.length T.uc)).setCell (B := w8.heap.size) rfl 5 (.slice T.wa T.waste.length T.wc))
      generalize ((((((w12.setCell ⟨w8.heap.size, 0, none⟩ (.int .i64 T.year)).setCell ⟨w8.heap.size, 1, none⟩ (.slice T.la T.last.length T.lc)).setCell ⟨w8.heap.size, 2, none⟩ (.slice T.ga T.given.length T.gc)).setCell ⟨w8.heap.size, 3, none⟩ (.slice T.ha T.heaps.length T.hc)).setCell ⟨w8.heap.size, 4, none⟩ (.slice T.ua T.used.length T.uc)).setCell ⟨w8.heap.size, 5, none⟩ (.slice T.wa T.waste.length T.wc)) = w13 at *
      clear s0 s1 s2 s3 s4 s5 z0 z1 z2 z3 z4 z5 lS
      have kT13 := ht.blk kT12 (fun e => by have := HS89.out; have := HSN.out; have := (show w10.heap.size = w8.heap.size from e); omega)
      have kN13 := ht.blk kN1 (fun e => by have := HS89.out; have := HSN.out; have := (show N1 = w8.heap.size from e); omega)
      have kN23 := ht.blk kN2 (fun e => by have := HS89.out; have := HSN.out; have := (show N2 = w8.heap.size from e); omega)
      have kO13 := ht.blk kO12 (fun e => by have := HS47.out; have := HS78.out; have := (show w4.heap.size = w8.heap.size from e); omega)
      have kF13 := ht.blk kF12 (fun e => by have := HS07.out; have := HS78.out; have := (show w.heap.size = w8.heap.size from e); omega)
      have kNe13 := ht.blk kNe12 (fun e => by have := HS17.out; have := HS78.out; have := (show w.heap.size + 1 = w8.heap.size from e); omega)
      have hoT13 := set_rows hoT ht (by have := HS89.out; have := HS11.out; have := HSN.out; omega)
      have hb713 := hb712.trans (ht.below hb712.size (fun k e => by rw [show k = w8.heap.size from e]; exact HS78.out))
      have HS1113 := Lib.hid (Nat.le_trans HS1112.out ht.size)
      have HB713 := Lib.hid hb713
      have KS13 := Lib.hid kS13
      have KT13 := Lib.hid kT13
      have KF13 := Lib.hid kF13
      have KO13 := Lib.hid kO13
      have KNe13 := Lib.hid kNe13
      have HOT := Lib.hid hoT13
      have HST := Lib.hid hsT
      have hN1 : IsNums w13 (some ⟨N1, 0, none⟩) F.ps.length (List.replicate (F.ps.reverse.length) (-1)) := by
        rw [List.length_reverse]
        exact nums_last kN13 (by have := HN12.out; omega)
      have hN2 : IsNums w13 (some ⟨N2, 0, none⟩) F.ps.length (List.replicate (F.ps.reverse.length) 0) := by
        rw [List.length_reverse]
        exact nums_given kN23 (by have := HN12.out; omega)
      obtain ⟨Y2, hY2, hsY2⟩ : ∃ Y2, runL ⟨oa, oc, F.ps.reverse, F.dry⟩ (firstOf ⟨oa, oc, F.ps.reverse, F.dry⟩ (some ⟨N1, 0, none⟩) (some ⟨N2, 0, none⟩) F.ps.length F.ps.length) (l.map (revC F.ps.length)) = (Y2, m, ev) ∧ SameSto Y2 (revS F.ps.length Y) := by
        have h1 := same_run (F := ⟨oa, oc, F.ps.reverse, F.dry⟩) (l := l.map (revC F.ps.length)) (first_rev (F := F) (G := ⟨oa, oc, F.ps.reverse, F.dry⟩) rfl K1 K2 (some ⟨N1, 0, none⟩) (some ⟨N2, 0, none⟩) c1 c2 F.ps.length F.ps.length)
        have h2 := run_rev (F := F) (G := ⟨oa, oc, F.ps.reverse, F.dry⟩) rfl rfl (l := l) (first_ok HE.out K1 K2 c1 c2) HPL.out
        rw [HY.out] at h2
        exact ⟨_, Prod.ext rfl (h1.2.trans h2.2), h1.1.trans (by rw [h2.1]; exact SameSto.refl _)⟩
      have HSY2 := Lib.hid hsY2
      have hr2 := run_first ⟨oa, oc, F.ps.reverse, F.dry⟩ (some ⟨N1, 0, none⟩) (some ⟨N2, 0, none⟩) F.ps.length F.ps.length ba bc (l.map (revC F.ps.length)) l.length w13 (List.length_map ..) (HG7.out.below HB713.out) hN1 hN2 (HBK.out.belowS HB713.out) HGE.out (by rw [List.length_map]; exact H40.out) hY2
      simp only [List.length_reverse] at hr2
      have HR2 := Lib.hid hr2
      clear kS12 kS13 kT12 kN1 kN2 kN13 kN23 ht hoT hoT13 hsT hb712 hb713 hN1 hN2 hY2 hsY2 hr2 kO12 kF12 kNe12 kF13 kNe13
      obtain ⟨t0, t1, t2, t3, t4, t5⟩ := (show w13.cell? ⟨w10.heap.size, 0, none⟩ = some (.int .i64 0) ∧ w13.cell? ⟨w10.heap.size, 1, none⟩ = some (.slice (some ⟨N1, 0, none⟩) F.ps.length F.ps.length) ∧ w13.cell? ⟨w10.heap.size, 2, none⟩ = some (.slice (some ⟨N2, 0, none⟩) F.ps.length F.ps.length) ∧ w13.cell? ⟨w10.heap.size, 3, none⟩ = some (.slice none 0 0) ∧ w13.cell? ⟨w10.heap.size, 4, none⟩ = some (.slice none 0 0) ∧ w13.cell? ⟨w10.heap.size, 5, none⟩ = some (.slice none 0 0) from ⟨kT13.cell 0, kT13.cell 1, kT13.cell 2, kT13.cell 3, kT13.cell 4, kT13.cell 5⟩)
      obtain ⟨g0, g1⟩ := (show w13.cell? ⟨w4.heap.size, 0, none⟩ = some (.slice oa F.ps.length oc) ∧ w13.cell? ⟨w4.heap.size, 1, none⟩ = some (.int .i64 F.dry) from ⟨kO13.cell 0, kO13.cell 1⟩)
      have lT := kT13.lt
      have lO := kO13.lt
      clear kT13 kO13
      go_wp2_with fail
      refine HR2.out.mono ?_
      rintro e w14 ⟨⟨T2, rfl, hoT2, hsT2⟩, hb⟩
      clear t0 t1 t2 t3 t4 t5 g0 g1 lT lO HR2
      have kT14 := KT13.out.belowS hb
      have HS1314 := Lib.hid hb.size
      have kO14 := KO13.out.belowS hb
      have kF14 := KF13.out.belowS hb
      have kNe14 := KNe13.out.belowS hb
      have kS14 := KS13.out.belowS hb
      have hoT14 := HOT.out.below hb
      have hb714 := HB713.out.trans (hb.mono HB713.out.size)
      obtain ⟨t0, t1, t2, t3, t4, t5⟩ := (show w14.cell? ⟨w10.heap.size, 0, none⟩ = some (.int .i64 0) ∧ w14.cell? ⟨w10.heap.size, 1, none⟩ = some (.slice (some ⟨N1, 0, none⟩) F.ps.length F.ps.length) ∧ w14.cell? ⟨w10.heap.size, 2, none⟩ = some (.slice (some ⟨N2, 0, none⟩) F.ps.length F.ps.length) ∧ w14.cell? ⟨w10.heap.size, 3, none⟩ = some (.slice none 0 0) ∧ w14.cell? ⟨w10.heap.size, 4, none⟩ = some (.slice none 0 0) ∧ w14.cell? ⟨w10.heap.size, 5, none⟩ = some (.slice none 0 0) from ⟨kT14.cell 0, kT14.cell 1, kT14.cell 2, kT14.cell 3, kT14.cell 4, kT14.cell 5⟩)
      have lT := kT14.lt
      have z0 := kT14.frozen 0
      have z1 := kT14.frozen 1
      have z2 := kT14.frozen 2
      have z3 := kT14.frozen 3
      have z4 := kT14.frozen 4
      have z5 := kT14.frozen 5
      clear hb KS13 KT13 KF13 KO13 KNe13
      go_upto_region 25 with fail
      have kT15 : Blk ((((((w14.setCell ⟨w10.heap.size, 0, none⟩ (.int .i64 T2.year)).setCell ⟨w10.heap.size, 1, none⟩ (.slice T2.la T2.last.length T2.lc)).setCell ⟨w10.heap.size, 2, none⟩ (.slice T2.ga T2.given.length T2.gc)).setCell ⟨w10.heap.size, 3, none⟩ (.slice T2.ha T2.heaps.length T2.hc)).setCell ⟨w10.heap.size, 4, none⟩ (.slice T2.ua T2.used.length T2.uc)).setCell ⟨w10.heap.size, 5, none⟩ (.slice T2.wa T2.waste.length T2.wc)) w10.heap.size (stoC T2) 45 := ((((((kT14.set 0 (.int .i64 T2.year)).set 1 (.slice T2.la T2.last.length T2.lc)).set 2 (.slice T2.ga T2.given.length T2.gc)).set 3 (.slice T2.ha T2.heaps.length T2.hc)).set 4 (.slice T2.ua T2.used.length T2.uc)).set 5 (.slice T2.wa T2.waste.length T2.wc))
      have ht : Turn (fun k => k = w10.heap.size) w14 ((((((w14.setCell ⟨w10.heap.size, 0, none⟩ (.int .i64 T2.year)).setCell ⟨w10.heap.size, 1, none⟩ (.slice T2.la T2.last.length T2.lc)).setCell ⟨w10.heap.size, 2, none⟩ (.slice T2.ga T2.given.length T2.gc)).setCell ⟨w10.heap.size, 3, none⟩ (.slice T2.ha T2.heaps.length T2.hc)).setCell ⟨w10.heap.size, 4, none⟩ (.slice T2.ua T2.used.length T2.uc)).setCell ⟨w10.heap.size, 5, none⟩ (.slice T2.wa T2.waste.length T2.wc)) := (((((((Turn.of_below (X := fun k => k = w10.heap.size) (Below.refl _ w14)).setCell (B := w10.heap.size) rfl 0 (.int .i64 T2.year)).setCell (B := w10.heap.size) rfl 1 (.slice T2.la T2.last.length T2.lc)).setCell (B := w10.heap.size) rfl 2 (.slice T2.ga T2.given.length T2.gc)).setCell (B := w10.heap.size) rfl 3 (.slice T2.ha T2.heaps.length T2.hc)).setCell (B := w10.heap.size) rfl 4 (.slice T2.ua T2.used.length T2.uc)).setCell (B := w10.heap.size) rfl 5 (.slice T2.wa T2.waste.length T2.wc))
      generalize ((((((w14.setCell ⟨w10.heap.size, 0, none⟩ (.int .i64 T2.year)).setCell ⟨w10.heap.size, 1, none⟩ (.slice T2.la T2.last.length T2.lc)).setCell ⟨w10.heap.size, 2, none⟩ (.slice T2.ga T2.given.length T2.gc)).setCell ⟨w10.heap.size, 3, none⟩ (.slice T2.ha T2.heaps.length T2.hc)).setCell ⟨w10.heap.size, 4, none⟩ (.slice T2.ua T2.used.length T2.uc)).setCell ⟨w10.heap.size, 5, none⟩ (.slice T2.wa T2.waste.length T2.wc)) = w15 at *
      clear t0 t1 t2 t3 t4 t5 z0 z1 z2 z3 z4 z5 lT
      have kS15 := ht.blk kS14 (fun e => by have := HS89.out; have := HSN.out; have := (show w8.heap.size = w10.heap.size from e); omega)
      have kO15 := ht.blk kO14 (fun e => by have := HS47.out; have := HS78.out; have := HS89.out; have := HSN.out; have := (show w4.heap.size = w10.heap.size from e); omega)
      have kF15 := ht.blk kF14 (fun e => by have := HS07.out; have := HS78.out; have := HS89.out; have := HSN.out; have := (show w.heap.size = w10.heap.size from e); omega)
      have kNe15 := ht.blk kNe14 (fun e => by have := HS17.out; have := HS78.out; have := HS89.out; have := HSN.out; have := (show w.heap.size + 1 = w10.heap.size from e); omega)
      have hoT15 := set_rows hoT14 ht HS11.out
      have hoU15 := set_rows hoT2 ht (by have := HS11.out; have := HS1113.out; omega)
      have HB715 := Lib.hid (hb714.trans (ht.below hb714.size (fun k e => by rw [show k = w10.heap.size from e]; have := HS78.out; have := HS89.out; have := HSN.out; omega)))
      have HB15 := Lib.hid (HB7.out.trans (HB715.out.mono HB7.out.size))
      have KS15 := Lib.hid kS15
      have KT15 := Lib.hid kT15
      have KF15 := Lib.hid kF15
      have KO15 := Lib.hid kO15
      have KNe15 := Lib.hid kNe15
      have HO15 := Lib.hid hoT15.store
      have HU15 := Lib.hid hoU15.store
      have HST2 := Lib.hid (hsT2.trans HSY2.out)
      have HE1 := Lib.hid (show storeE F T = 0 by rw [same_storeE HST.out]; exact HY3.out)
      have HT1 := Lib.hid (show tot T ≤ 1000 by rw [same_tot HST.out]; exact Nat.le_trans HY4.out (by decide))
      have HE2 := Lib.hid (show storeE ⟨oa, oc, F.ps.reverse, F.dry⟩ T2 = 0 by rw [same_storeE HST2.out]; exact store_rev rfl rfl HY3.out)
      have HT2 := Lib.hid (show tot T2 ≤ 1000 by rw [same_tot HST2.out, tot_rev]; exact Nat.le_trans HY4.out (by decide))
      have hl2 := fun w' (h1 : IsFarm w' ⟨oa, oc, F.ps.reverse, F.dry⟩) (h2 : IsStore w' T2) => ledger_row ⟨oa, oc, F.ps.reverse, F.dry⟩ T2 w' h1 h2 HT2.out HE2.out
      simp only [List.length_reverse] at hl2
      have HLE2 := Lib.hid hl2
      clear kS14 kS15 kT14 kT15 kO14 kO15 kF14 kF15 kNe14 kNe15 ht hoT14 hoT15 hoT2 hoU15 hb714 hsT2 hl2
      obtain ⟨s0, s1, s2, s3, s4, s5⟩ := sto_cells KS15.out
      obtain ⟨f0, f1⟩ := frm_cells KF15.out
      have lS := KS15.out.lt
      have lF := KF15.out.lt
      go_wp2_with fail
      refine (ledger_row F T _ (HF7.out.below HB715.out) HO15.out HT1.out HE1.out).mono ?_
      rintro e w16 ⟨a1, cc1, rfl, hc16, hb⟩
      have HB716 := Lib.hid (HB715.out.trans (hb.mono HB715.out.size))
      have KF16 := Lib.hid (KF15.out.belowS hb)
      have KO16 := Lib.hid (KO15.out.belowS hb)
      have KNe16 := Lib.hid (KNe15.out.belowS hb)
      have KT16 := Lib.hid (KT15.out.belowS hb)
      have HU16 := Lib.hid (HU15.out.below hb)
      have HC16 := Lib.hid hc16
      clear s0 s1 s2 s3 s4 s5 f0 f1 lS lF hb hc16
      obtain ⟨t0, t1, t2, t3, t4, t5⟩ := sto_cells KT16.out
      obtain ⟨g0, g1⟩ := (show w16.cell? ⟨w4.heap.size, 0, none⟩ = some (.slice oa F.ps.length oc) ∧ w16.cell? ⟨w4.heap.size, 1, none⟩ = some (.int .i64 F.dry) from ⟨KO16.out.cell 0, KO16.out.cell 1⟩)
      have lT := KT16.out.lt
      have lO := KO16.out.lt
      go_wp2_with fail
      refine (HLE2.out _ (HG7.out.below HB716.out) HU16.out).mono ?_
      rintro e w17 ⟨a2, cc2, rfl, hc17, hb⟩
      have HB717 := Lib.hid (HB716.out.trans (hb.mono HB716.out.size))
      have HB17 := Lib.hid (HB7.out.trans (HB717.out.mono HB7.out.size))
      have KF17 := Lib.hid (KF16.out.belowS hb)
      have KO17 := Lib.hid (KO16.out.belowS hb)
      have KNe17 := Lib.hid (KNe16.out.belowS hb)
      have HC17 := Lib.hid (HC16.out.below hb)
      have HD17 := Lib.hid hc17
      clear t0 t1 t2 t3 t4 t5 g0 g1 lT lO hb hc17
      go_wp2_with fail
      go_loopw [21] (fun s21 wr => ∃ j : Nat, j ≤ F.ps.length ∧ s21 = .int .i64 j ∧ Below w17.heap.size w17 wr) (fun i _ => F.ps.length - (intOf i).toNat)
      case atStart => exact ⟨0, Nat.zero_le _, rfl, Below.refl _ _⟩
      case round =>
      obtain ⟨k, hk, rfl, hb18⟩ := hrel
      obtain ⟨w18, rfl⟩ : ∃ w18 : World, w18 = wr := ⟨_, rfl⟩
      by_cases hkn : k < F.ps.length
      · have hkn' : (k : Int) < (F.ps.length : Int) := by omega
        obtain ⟨r, hr⟩ : ∃ r : Nat, r = F.ps.length - 1 - k := ⟨_, rfl⟩
        have hrn : r < F.ps.length := by omega
        have hrn' : (r : Int) < (F.ps.length : Int) := by omega
        have hn12 := HN12.out
        have hw1 : IntKind.i64.wrap ((F.ps.length : Int) - 1) = (F.ps.length : Int) - 1 := by rw [IntKind.wrap_i64]; omega
        have hw2 : IntKind.i64.wrap ((F.ps.length : Int) - 1 - (k : Int)) = (r : Int) := by rw [IntKind.wrap_i64]; omega
        have hw3 : IntKind.i64.wrap ((k : Int) + 1) = ((k + 1 : Nat) : Int) := by rw [IntKind.wrap_i64]; omega
        obtain ⟨Ka, hKe, hKn, hKc, hKb, n0, n1, n2, n3⟩ := (HC17.out.below hb18).at hkn
        obtain ⟨Kb, hKe', hKn', hKc', hKb', m0, m1, m2, m3⟩ := (HD17.out.below hb18).at hrn
        have HKE := Lib.hid hKe
        have HKE' := Lib.hid hKe'
        obtain ⟨q0, q1, q2, q3⟩ := cnt_rev HE1.out hkn
        have HS := Lib.hid (show givenAt T2.given r = givenAt T.given k ∧ ofM (r : Int) T2.used = ofM k T.used ∧ leftM (r : Int) T2.heaps = leftM k T.heaps ∧ ofM (r : Int) T2.waste = ofM k T.waste by
          have e := HST2.out.trans (same_revS HST.out.symm)
          rw [hr, e.given, e.used, e.waste, same_left e.sameH]
          exact ⟨q0, q1, q2, q3⟩)
        rw [HS.out.1] at m0
        rw [HS.out.2.1] at m1
        rw [HS.out.2.2.1] at m2
        rw [HS.out.2.2.2] at m3
        subst hKe hKe'
        have HB18 := Lib.hid hb18
        have HKN := Lib.hid hkn
        clear q0 q1 q2 q3 HKE HKE' hr hk hkn hb18
        generalize givenAt T.given k = v0 at *
        generalize ofM (k : Int) T.used = v1 at *
        generalize leftM (k : Int) T.heaps = v2 at *
        generalize ofM (k : Int) T.waste = v3 at *
        have he : ∀ w, (Op.equalIn 10000 54 (.agg #[.int .i64 v0, .int .i64 v1, .int .i64 v2, .int .i64 v3]) (.agg #[.int .i64 v0, .int .i64 v1, .int .i64 v2, .int .i64 v3])).run Try.prog w = .ok true w := fun w => run_equalIn_any 9998 v0 v1 v2 v3 w
        go_upto_region 32 with fail
        go_quiet (fail)
        go_wp2_with fail
        refine ⟨⟨k + 1, by have := HKN.out; omega, rfl, HB18.out.trans ⟨rfl, rfl, rfl, Nat.le_refl _, fun _ _ => rfl⟩⟩, by have := HKN.out; simp [intOf]; omega⟩
      · have hkn' : ¬ (k : Int) < (F.ps.length : Int) := by omega
        have HB718 := Lib.hid (HB717.out.trans (hb18.mono HB717.out.size))
        have HB18 := Lib.hid (HB7.out.trans (HB718.out.mono HB7.out.size))
        have KF18 := Lib.hid (KF17.out.belowS hb18)
        have KO18 := Lib.hid (KO17.out.belowS hb18)
        have KNe18 := Lib.hid (KNe17.out.belowS hb18)
        obtain ⟨f0, f1⟩ := frm_cells KF18.out
        obtain ⟨n0, n1, n2⟩ := (show w18.cell? ⟨w.heap.size + 1, 0, none⟩ = some (.int .i64 n.reed) ∧ w18.cell? ⟨w.heap.size + 1, 1, none⟩ = some (.int .i64 n.straw) ∧ w18.cell? ⟨w.heap.size + 1, 2, none⟩ = some (.int .i64 n.heather) from ⟨KNe18.out.cell 0, KNe18.out.cell 1, KNe18.out.cell 2⟩)
        have lF := KF18.out.lt
        have lN := KNe18.out.lt
        have hl2 := fun w' (h1 : IsFarm w' ⟨oa, oc, F.ps.reverse, F.dry⟩) => choose_end ⟨oa, oc, F.ps.reverse, F.dry⟩ n w' h1 HGE.out
        simp only [List.length_reverse, chC_rev, chB_rev] at hl2
        have HLE3 := Lib.hid hl2
        have hl1 := fun w' (h1 : IsFarm w' F) => choose_end F n w' h1 HE.out
        generalize chC F.ps n = C at *
        generalize chB F.ps n = B at *
        generalize chErr n = E at *
        have HLE1 := Lib.hid hl1
        clear hk hkn hb18 hl1 hl2
        go_wp2_with fail
        refine (HLE1.out _ (HF7.out.below HB718.out)).mono ?_
        rintro e w19 ⟨⟨v, rfl⟩, hb⟩
        have HB719 := Lib.hid (HB718.out.trans (hb.mono HB718.out.size))
        have KO19 := Lib.hid (KO18.out.belowS hb)
        have KNe19 := Lib.hid (KNe18.out.belowS hb)
        clear f0 f1 n0 n1 n2 lF lN hb
        obtain ⟨g0, g1⟩ := (show w19.cell? ⟨w4.heap.size, 0, none⟩ = some (.slice oa F.ps.length oc) ∧ w19.cell? ⟨w4.heap.size, 1, none⟩ = some (.int .i64 F.dry) from ⟨KO19.out.cell 0, KO19.out.cell 1⟩)
        obtain ⟨n0, n1, n2⟩ := (show w19.cell? ⟨w.heap.size + 1, 0, none⟩ = some (.int .i64 n.reed) ∧ w19.cell? ⟨w.heap.size + 1, 1, none⟩ = some (.int .i64 n.straw) ∧ w19.cell? ⟨w.heap.size + 1, 2, none⟩ = some (.int .i64 n.heather) from ⟨KNe19.out.cell 0, KNe19.out.cell 1, KNe19.out.cell 2⟩)
        have lO := KO19.out.lt
        have lN := KNe19.out.lt
        go_wp2_with fail
        refine (HLE3.out _ (HG7.out.below HB719.out)).mono ?_
        rintro e w20 ⟨⟨v2, rfl⟩, hb⟩
        have HB20 := Lib.hid (HB7.out.trans ((HB719.out.trans (hb.mono HB719.out.size)).mono HB7.out.size))
        clear g0 g1 n0 n1 n2 lO lN hb
        go_wp2_with fail
        refine (lives_any _).mono ?_
        rintro e w21 ⟨rfl, hb3⟩
        go_wp2_with fail
        go_ret
        exact ⟨rfl, HB20.out.trans (hb3.mono HB20.out.size)⟩
end Go.Proofs.Ytghepojnimlafaa
