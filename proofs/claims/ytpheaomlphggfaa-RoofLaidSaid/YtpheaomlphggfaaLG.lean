/- layFace: the walk. -/
import Derived.Test.YtpheaomlphggfaaLF
import Derived.Deep.DeepCutAuto
import Derived.StillTail
import Derived.Deep.RegionHeld3
namespace Go.Proofs.Ytpheaomlphggfaa
open Go.RowKit

theorem Try.info_pt : (Try.prog.info? 68).map (fun i => (i.zero, i.size, i.bytes)) = some (some (.agg #[.int .i64 0, .int .i64 0]), 2, 16) := by kernel_rfl
theorem Try.info_box : (Try.prog.info? 70).map (fun i => (i.zero, i.size, i.bytes)) = some (some (.agg #[.int .i64 0, .int .i64 0, .int .i64 0, .int .i64 0]), 4, 32) := by kernel_rfl
theorem face_len {R : Roo} (hE : checkE R = 0) {i : Nat} {F : Fac} (hF : R.fs[i]? = some F) : 3 ≤ F.cs.length ∧ F.cs.length ≤ 12 := by
  have hz := firstNZ_all (checkE_parts hE).1 i (List.getElem?_eq_some_iff.1 hF).1
  rw [hF] at hz
  obtain ⟨h1, h2, _⟩ := outline_ok (faceE_pts hz)
  exact ⟨h1, h2⟩
theorem take_snoc {α : Type} {l : List α} {t : Nat} {x : α} (h : l[t]? = some x) : l.take (t + 1) = l.take t ++ [x] := by rw [List.take_add_one, h]; rfl

theorem Keeps.belowT {S : Nat → Prop} {A B C : World} (h : Keeps S A B) (hS : ∀ k, S k → k < A.heap.size) (hb : Below B.heap.size B C) : Keeps S A C := h.trans (Keeps.of_below hb (h.lt hS))
theorem Keeps.grown {S : Nat → Prop} {A B C : World} {row : Option Nat} (h : Keeps S A B) (hg : B.grownBy C row) (hS : ∀ k, S k → k < A.heap.size) (hr : ∀ k, S k → some k ≠ row) : Keeps S A C :=
  h.trans ⟨hg.size, fun k hk => hg.block k (h.lt hS k hk) (hr k hk)⟩

/-! ### A drawn region whose last operation waits for all others and writes what was read: what is held need not hold behind it -/
section
variable {P : Program} {ops : Array Oper} {Q : Exit → Act → World → Prop} {md : Region.Mode} {S : World → Prop} {last : Nat}
def heldE (P : Program) (md : Region.Mode) (ops : Array Oper) (Q : Exit → Act → World → Prop) (S : World → Prop) (last : Nat) : Nat → Array Bool → Act → World → Prop
  | 0, listed, a, w => Region.ready md ops listed = [] ∧ Q .normal a w
  | fuel + 1, listed, a, w => (Region.ready md ops listed = [] → Q .normal a w) ∧
      ∀ i ∈ Region.ready md ops listed, wpOp P ops Q i (fun a' w' => (i ≠ last → S w') ∧ heldE P md ops Q S last fuel (listed.setIfInBounds i true) a' w') a w
theorem any_of_E : ∀ (fuel : Nat) (listed : Array Bool) (a : Act) (w : World), heldE P md ops Q S last fuel listed a w → wpAny P md ops Q fuel listed a w
  | 0, _, _, _, h => h
  | fuel + 1, _, _, _, h => ⟨h.1, fun i hi => wpOp_mono (fun a' w' h' => any_of_E fuel _ a' w' h'.2) (h.2 i hi)⟩
theorem not_listed {i : Nat} {listed : Array Bool} (h0 : listed.getD i true = false) (h1 : listed.getD i false = true) : False := by
  rcases Nat.lt_or_ge i listed.size with h' | h'
  · simp [h'] at h0 h1
    rw [h0] at h1
    cases h1
  · simp [Array.getElem?_eq_none h'] at h1
/-- One that reads may be taken first: whatever comes up before it is not the last one. -/
theorem E_first {i : Nat} {oi : Oper} {v : Value} (hi : ops[i]? = some oi) (hsel : ∀ (j : Nat) (o : Oper) cs b, ops[j]? = some o → o.op ≠ .select cs b)
    (hQ : ∀ c a w, Q (.panic c) (a.put oi.dst v) w → Q (.panic c) a w) (hwait : Region.waitsFor md ops last i = true) :
    ∀ (fuel : Nat) (listed : Array Bool) (a : Act) (w : World),
      (∀ j oj, ops[j]? = some oj → j ≠ i → listed.getD j true = false → (∀ e ∈ oj.after, Region.binds md e = true → e.on ≠ i) → oi.apart ops oj = true) →
      i ∈ Region.ready md ops listed → YieldsIf P ops S oi v a → S w →
      heldE P md ops Q S last fuel (listed.setIfInBounds i true) (a.put oi.dst v) w → heldE P md ops Q S last (fuel + 1) listed a w := by
  obtain ⟨ol, hol, el, hel, helb, heli⟩ := Region.waitsFor_spec hwait
  intro fuel
  induction fuel with
  | zero =>
    intro listed a w _ hr hy hS H
    refine ⟨fun h => (by rw [h] at hr; cases hr), fun j hj => ?_⟩
    by_cases hji : j = i
    · subst hji
      exact hy.wpOp hi hS ⟨fun _ => hS, H⟩
    · have hj2 := ready_mono hj hji
      rw [H.1] at hj2
      cases hj2
  | succ fuel ih =>
    intro listed a w hfree hr hy hS H
    refine ⟨fun h => (by rw [h] at hr; cases hr), fun j hj => ?_⟩
    by_cases hji : j = i
    · subst hji
      exact hy.wpOp hi hS ⟨fun _ => hS, H⟩
    · obtain ⟨hjun, oj, hoj, hall⟩ := mem_ready.1 hj
      have hiu := (mem_ready.1 hr).1
      have hno : ∀ e ∈ oj.after, Region.binds md e = true → e.on ≠ i := fun e he hb heq => not_listed hiu (heq ▸ hall e he hb)
      have hjl : j ≠ last := by
        rintro rfl
        rw [hoj] at hol
        cases hol
        exact hno el hel helb heli
      have hw := wpOp_putIf hoj (hfree j oj hoj hji hjun hno) (fun cs b => hsel i oi cs b hi) (fun cs b => hsel j oj cs b hoj) hQ hy (H.2 j (ready_mono hj hji))
      refine wpOp_mono (fun a' w' h3 => ⟨fun _ => h3.2.1 hjl, ih (listed.setIfInBounds j true) a' w' (fun k ok hk hki hun hn => hfree k ok hk hki ?_ hn) (ready_mono hr (Ne.symm hji)) h3.1 (h3.2.1 hjl) ?_⟩) hw
      · by_cases hjk : j = k
        · subst hjk
          exact hjun
        · rwa [getD_set_ne true hjk] at hun
      · rw [Array.setIfInBounds_comm _ _ hji]
        exact h3.2.2
theorem E_take {i : Nat} {oi : Oper} {v : Value} {fuel : Nat} {listed : Array Bool} {a : Act} {w : World} (hi : ops[i]? = some oi)
    (hs : Region.noSelect ops = true) (hf : Region.free md ops listed i = true) (hr : (Region.ready md ops listed).contains i = true) (hwait : Region.waitsFor md ops last i = true)
    (hQ : ∀ c a w, Q (.panic c) (a.put oi.dst v) w → Q (.panic c) a w) (hS : S w) (hy : YieldsIf P ops S oi v a)
    (h : heldE P md ops Q S last fuel (listed.setIfInBounds i true) (a.put oi.dst v) w) : heldE P md ops Q S last (fuel + 1) listed a w :=
  E_first hi (Region.noSelect_spec hs) hQ hwait fuel listed a w (Region.free_spec hi hf) (by simpa using hr) hy hS h
theorem E_step {i : Nat} {o : Oper} {fuel : Nat} {listed : Array Bool} {a : Act} {w : World} (hr : Region.ready md ops listed = [i]) (ho : ops[i]? = some o)
    (h : ∀ K' : Act → World → Prop, Shut (∀ a w, (i ≠ last → S w) → heldE P md ops Q S last fuel (listed.setIfInBounds i true) a w → K' a w) → if Region.wanted o (yielded ops a.tmps) = true then Oper.wp P o a w K' Q else K' (a.put o.dst undef) w) :
    heldE P md ops Q S last (fuel + 1) listed a w :=
  ⟨(fun h0 => by rw [hr] at h0; cases h0), fun j hj => by
    rw [hr] at hj
    obtain rfl := List.mem_singleton.1 hj
    exact wpOp_step ho (fun K' hK => h K' (fun a w hS hW => hK a w ⟨hS, hW⟩))⟩
theorem E_step2 {i i' : Nat} {o o' : Oper} {fuel : Nat} {listed : Array Bool} {a : Act} {w : World} (hr : Region.ready md ops listed = [i, i']) (ho : ops[i]? = some o) (ho' : ops[i']? = some o')
    (h : ∀ K' : Act → World → Prop, Shut (∀ a w, (i ≠ last → S w) → heldE P md ops Q S last fuel (listed.setIfInBounds i true) a w → K' a w) → if Region.wanted o (yielded ops a.tmps) = true then Oper.wp P o a w K' Q else K' (a.put o.dst undef) w)
    (h' : ∀ K' : Act → World → Prop, Shut (∀ a w, (i' ≠ last → S w) → heldE P md ops Q S last fuel (listed.setIfInBounds i' true) a w → K' a w) → if Region.wanted o' (yielded ops a.tmps) = true then Oper.wp P o' a w K' Q else K' (a.put o'.dst undef) w) :
    heldE P md ops Q S last (fuel + 1) listed a w :=
  ⟨(fun h0 => by rw [hr] at h0; cases h0), fun j hj => by
    rw [hr] at hj
    rcases List.mem_cons.1 hj with rfl | hj
    · exact wpOp_step ho (fun K' hK => h K' (fun a w hS hW => hK a w ⟨hS, hW⟩))
    · obtain rfl := List.mem_singleton.1 hj
      exact wpOp_step ho' (fun K' hK => h' K' (fun a w hS hW => hK a w ⟨hS, hW⟩))⟩
theorem E_done {listed : Array Bool} {a : Act} {w : World} (hr : Region.ready md ops listed = []) (h : Q .normal a w) : ∀ fuel, heldE P md ops Q S last fuel listed a w
  | 0 => ⟨hr, h⟩
  | _ + 1 => ⟨fun _ => h, fun i hi => by rw [hr] at hi; cases hi⟩
theorem wp_region_E {id : Nat} {a : Act} {w : World} (last : Nat) (S : World → Prop) (hm : P.follows .mixedOrders = true)
    (h : heldE P .any ops Q S last ops.size (Array.replicate ops.size false) a w.drew) : (Code.region id ops true).wp P Q a w := wp_region_any hm (any_of_E _ _ _ _ h)
end

theorem near_mono {p : Pnt} (h : p.near 10000) : p.near 1000000 := by
  obtain ⟨⟨h1, h2⟩, h3, h4⟩ := h
  exact ⟨⟨by omega, by omega⟩, by omega, by omega⟩
theorem pts_two (W : World) (P Q : Pnt) : IsPts (W.alloc (.cells #[.int .i64 P.x, .int .i64 P.y, .int .i64 Q.x, .int .i64 Q.y] 68)) (.slice (some ⟨W.heap.size, 0, none⟩) [P, Q].length 2) [P, Q] := by
  have k := Blk.new W 68 #[.int .i64 P.x, .int .i64 P.y, .int .i64 Q.x, .int .i64 Q.y]
  refine .inr ⟨W.heap.size, 0, 2, rfl, k.lt, Nat.le_refl _, by decide, fun j p hj => ?_⟩
  match j, hj with
  | 0, hj => obtain rfl : P = p := by simpa using hj
             exact ⟨k.cell 0, k.cell 1⟩
  | 1, hj => obtain rfl : Q = p := by simpa using hj
             exact ⟨k.cell 2, k.cell 3⟩
  | j + 2, hj => simp at hj

/-- What layFace returns. -/
def LayFSaid (F : Fac) (os : List Opn) (i : Nat) (w : World) (e : Ending) (w' : World) : Prop :=
  Below w.heap.size w w' ∧ if wideF F os i = true then e = .returned (.tuple #[.agg #[.slice none 0 0, .slice none 0 0], .int .i64 9]) else
    ∃ v u, e = .returned (.tuple #[.agg #[v, u], .int .i64 0]) ∧ (IsPts w' v (outF F) ∧ ∀ b, v.ownBlock = some b → w.heap.size ≤ b) ∧ IsBxs w' u (holF F os i) ∧ ∀ b, u.ownBlock = some b → w.heap.size ≤ b

set_option maxRecDepth 100000 in
set_option maxHeartbeats 16000000 in
theorem layFace_any (R : Roo) (i : Nat) (F : Fac) (hF : R.fs[i]? = some F) (hE : checkE R = 0) (w : World) (hR : IsRoof w R) :
    Calls Try.prog 52 #[.agg #[.slice R.fa R.fs.length R.fc, .slice R.oa R.os.length R.oc], .int .i64 i] w (LayFSaid F R.os i w) := by
  obtain ⟨i0, hi, hz0, hz1, hz2⟩ := info_parts Try.info_pt
  obtain ⟨i4, hi4, hy0, hy1, hy2⟩ := info_parts Try.info_box
  obtain ⟨hs1, hs4, _, _, _, _, _, _, _, _⟩ := checkE_ok hE F (List.mem_of_getElem? hF)
  obtain ⟨hokp, _⟩ := (checkE_faces hE).2 F (List.mem_of_getElem? hF)
  obtain ⟨hl3, hl12⟩ := face_len hE hF
  obtain ⟨hol, hofn⟩ := opens_fine hE
  have hfl := (checkE_faces hE).1
  have hil := (List.getElem?_eq_some_iff.1 hF).1
  obtain ⟨fb, fo, hfa, f2, f3, f4, hfac, hfin⟩ := hR.face hF
  obtain ⟨fa, fc, fs, oa, oc, os⟩ := R
  simp only [] at hF hofn hol hfl hil hfa f3 f4 ⊢
  subst hfa
  have HR := Lib.hid hR
  clear hR hE hF
  have hFeq : ∀ G : Fac, G = F → LayFSaid G os i w = LayFSaid F os i w := fun G e => by rw [e]
  obtain ⟨nm, sd, ft, ba, ri, ru, ca, cc, cs⟩ := F
  obtain ⟨d0, d1, d2, d3, d4, d5, d6⟩ := hfac
  have hip := hfin.1
  simp only [] at hs1 hs4 hokp hl3 hl12 d0 d1 d2 d3 d4 d5 d6 hip
  clear hFeq hfin
  rcases hip with ⟨_, hn⟩ | ⟨cb, co, c, e1, hcb, hcc, hcc', hpt⟩
  · rw [hn] at hl3; simp at hl3
  obtain ⟨rfl, _, rfl⟩ := slice_inj e1
  clear e1
  have hown := ownMeasure_any sd hs1 hs4
  have hownp := fun p hp w => ownP_any sd hs1 hs4 p hp w
  have henter := own_enter sd
  generalize hN : ownN sd = N at hown hownp henter
  have hQ : ∀ k p, cs[k]? = some p → (cs.map (ownP sd))[k]? = some (ownP sd p) := fun k p h => by rw [List.getElem?_map, h]; rfl
  have hQn : ∀ p ∈ cs.map (ownP sd), p.near 10000 := by
    intro p hp
    obtain ⟨q, hq, rfl⟩ := List.mem_map.1 hp
    exact own_near sd (hokp q hq)
  have hQl : (cs.map (ownP sd)).length = cs.length := List.length_map ..
  have HO := Lib.hid hown
  have HOP := Lib.hid hownp
  have HQ := Lib.hid hQ
  have HQN := Lib.hid hQn
  have HQL := Lib.hid hQl
  have HPT := Lib.hid hpt
  have HOK := Lib.hid hokp
  have HON := Lib.hid hofn
  clear hown hownp hN hQ hQn hQl hpt hokp hofn
  have hi0 : (0 : Int) ≤ (i : Int) := Int.natCast_nonneg _
  have hi1 : (i : Int) < (fs.length : Int) := by omega
  have hB0 : Below w.heap.size w (((w.alloc (.cells #[.slice (some ⟨fb, fo, none⟩) fs.length fc, .slice oa os.length oc] 25)).alloc (.cells #[.slice none 0 0, .slice none 0 0] 61)).alloc (.cells #[.string nm, .int .i64 sd, .int .i64 ft, .int .i64 ba, .int .i64 ri, .int .i64 ru, .slice (some ⟨cb, co, none⟩) cs.length cc] 37)) :=
    (((Below.refl _ _).alloc (Nat.le_refl _) _).alloc (by simp) _).alloc (by simp; omega) _
  have kR := ((Blk.new w 25 #[.slice (some ⟨fb, fo, none⟩) fs.length fc, .slice oa os.length oc]).alloc (.cells #[.slice none 0 0, .slice none 0 0] 61)).alloc (.cells #[.string nm, .int .i64 sd, .int .i64 ft, .int .i64 ba, .int .i64 ri, .int .i64 ru, .slice (some ⟨cb, co, none⟩) cs.length cc] 37)
  have kA := (Blk.new (w.alloc (.cells #[.slice (some ⟨fb, fo, none⟩) fs.length fc, .slice oa os.length oc] 25)) 61 #[.slice none 0 0, .slice none 0 0]).alloc (.cells #[.string nm, .int .i64 sd, .int .i64 ft, .int .i64 ba, .int .i64 ri, .int .i64 ru, .slice (some ⟨cb, co, none⟩) cs.length cc] 37)
  have kF := Blk.new ((w.alloc (.cells #[.slice (some ⟨fb, fo, none⟩) fs.length fc, .slice oa os.length oc] 25)).alloc (.cells #[.slice none 0 0, .slice none 0 0] 61)) 37 #[.string nm, .int .i64 sd, .int .i64 ft, .int .i64 ba, .int .i64 ri, .int .i64 ru, .slice (some ⟨cb, co, none⟩) cs.length cc]
  simp only [World.size_alloc] at kA kF
  go_enter Try.func52, Try.ntmps52
  go_wp2_with fail
  refine (HO.out _).mono ?_
  rintro e w1 ⟨rfl, hb1⟩
  have hB1 := hB0.trans (hb1.mono hB0.size)
  have kR1 := kR.belowS hb1
  have kA1 := kA.belowS hb1
  have kF1 := kF.belowS hb1
  clear kR kA kF hb1 hB0 d0 d1 d2 d3 d4 d5 d6
  have y6 := kF1.cell 6
  simp only [List.getElem?_toArray, List.getElem?_cons_zero, List.getElem?_cons_succ] at y6
  have lF := kF1.lt
  go_wp2_with fail
  have kL := Blk.new w1 61 #[.slice none 0 0, .slice none 0 0]
  have hw2 : Below w1.heap.size w1 (w1.alloc (.cells #[.slice none 0 0, .slice none 0 0] 61)) := (Below.refl _ _).alloc (Nat.le_refl _) _
  have hsz : (w1.alloc (.cells #[.slice none 0 0, .slice none 0 0] 61)).heap.size = w1.heap.size + 1 := by simp
  generalize w1.alloc (.cells #[.slice none 0 0, .slice none 0 0] 61) = W2 at *
  have hB2 := hB1.trans (hw2.mono hB1.size)
  have kR2 := kR1.belowS hw2
  have kA2 := kA1.belowS hw2
  have kF2 := kF1.belowS hw2
  have hw1 := hB1.size
  clear kR1 kA1 kF1 hw2 y6 hB1
  have HSZ := Lib.hid hsz
  clear hsz
  go_loopw [29, 10] (fun i _ wr => ∃ (j : Nat) (v : Value), j ≤ cs.length ∧ i = .int .i64 j ∧ Blk wr w1.heap.size #[v, .slice none 0 0] 61 ∧ wr.ownsRow W2.heap.size 68 2 v j (rowsP ((cs.map (ownP sd)).take j)) ∧ Keeps (fun k => k < W2.heap.size ∧ k ≠ w1.heap.size) W2 wr ∧ Below w.heap.size w wr) (fun i _ _ => cs.length - (intOf i).toNat)
  case atStart => exact ⟨0, .slice none 0 0, Nat.zero_le _, rfl, kL, World.ownsRow_nil _ _ _ _, Keeps.refl _ _, hB2⟩
  case round =>
    obtain ⟨j, v, hj, rfl, kL1, hown, hkp, hB3⟩ := hrel
    have HOWN := Lib.hid hown
    clear hown kL
    by_cases hlt : j < cs.length
    · obtain ⟨p, hp⟩ : ∃ p, cs[j]? = some p := ⟨_, List.getElem?_eq_getElem hlt⟩
      have hpk := HOK.out p (List.mem_of_getElem? hp)
      obtain ⟨c0, c1⟩ := HPT.out.below hB3 hcb j p hp
      have hqj := HQ.out j p hp
      have htk := take_snoc hqj
      have HTK := Lib.hid htk
      have hown2 := HOP.out p hpk
      have HOW2 := Lib.hid hown2
      clear hp hpk hqj htk hown2
      have hj0 : (0 : Int) ≤ (j : Int) := Int.natCast_nonneg _
      have hj1 : (j : Int) < (cs.length : Int) := by omega
      have hcbr : cb < wr.heap.size := Nat.lt_of_lt_of_le hcb hB3.size
      go_wp2_with fail
      have kX := Blk.new wr 27 #[.int .i64 p.x, .int .i64 p.y]
      have hbx : Below wr.heap.size wr (wr.alloc (.cells #[.int .i64 p.x, .int .i64 p.y] 27)) := (Below.refl _ _).alloc (Nat.le_refl _) _
      have kL2 := kL1.belowS hbx
      have hOW := ownsRow_below HOWN.out hbx
      have hrowlt := HOWN.out.lt
      have hlw := kL1.lt
      have hsw := hkp.size
      generalize wr.alloc (.cells #[.int .i64 p.x, .int .i64 p.y] 27) = W6 at *
      clear c0 c1 kL1
      generalize hxs : rowsP ((cs.map (ownP sd)).take j) = xs at *
      have HXS := Lib.hid hxs
      have HOW6 := Lib.hid hOW
      have HRL := Lib.hid hrowlt
      have hne : ∀ b, b < W2.heap.size ∨ wr.heap.size ≤ b → some b ≠ v.ownBlock := fun b hb he => by
        obtain ⟨h1, h2⟩ := HRL.out b he.symm
        omega
      have HNE := Lib.hid hne
      have hLr : some w1.heap.size ≠ v.ownBlock := HNE.out _ (.inl (by have := HSZ.out; omega))
      have hXr : some wr.heap.size ≠ v.ownBlock := HNE.out _ (.inr (Nat.le_refl _))
      have hXL : wr.heap.size ≠ w1.heap.size := by have := HSZ.out; omega
      have hn5 : j + 1 ≤ maxLen := by unfold maxLen; omega
      clear hxs hOW hrowlt hne HOWN
      have hT : TC W6 w1.heap.size 0 v W6.drew := (TC.start (c := 0) kL2 rfl).drew
      have hx : HeldPt wr.heap.size p.x p.y W6.drew := hp_below ⟨kX.cell 0, kX.cell 1⟩ ((Below.refl _ _).drew)
      have t1 := hT.cell
      have t2 := hT.frozen
      have t3 := hT.lt
      have t4 := kL2.cell 0
      have t5 := kL2.frozen 0
      have t6 := kL2.lt
      simp only [List.getElem?_toArray, List.getElem?_cons_zero] at t4
      have hB6 := hB3.trans (hbx.mono hB3.size)
      clear kX
      have hx : (fun w' : World => (w'.cell? ⟨wr.heap.size, 0, none⟩ = some (.int .i64 p.x) ∧ w'.cell? ⟨wr.heap.size, 1, none⟩ = some (.int .i64 p.y)) ∧ w'.cell? ⟨w1.heap.size, 0, none⟩ = some v) W6.drew := ⟨hx, t1⟩
      refine wp_region_E 8 (fun w' => (w'.cell? ⟨wr.heap.size, 0, none⟩ = some (.int .i64 p.x) ∧ w'.cell? ⟨wr.heap.size, 1, none⟩ = some (.int .i64 p.y)) ∧ w'.cell? ⟨w1.heap.size, 0, none⟩ = some v) (by kernel_rfl) ?_
      refine E_take (i := 0) (oi := _) (v := ?v0) rfl (by kernel_rfl) (by kernel_rfl) (by kernel_rfl) (by kernel_rfl) (fun _ _ _ h => h) hx (Or.inl ⟨by rfl, ?y0⟩) ?r0
      case y0 => (intro w' hSw; (try dsimp only at hSw); go_simp; try with_reducible rfl)
      try simp only [Act.put]
      refine E_take (i := 1) (oi := _) (v := ?v1) rfl (by kernel_rfl) (by kernel_rfl) (by kernel_rfl) (by kernel_rfl) (fun _ _ _ h => h) hx (Or.inl ⟨by rfl, ?y1⟩) ?r1
      case y1 => (intro w' hSw; (try dsimp only at hSw); go_simp; try with_reducible rfl)
      try simp only [Act.put]
      refine E_take (i := 2) (oi := _) (v := ?v2) rfl (by kernel_rfl) (by kernel_rfl) (by kernel_rfl) (by kernel_rfl) (fun _ _ _ h => h) hx (Or.inl ⟨by rfl, ?y2⟩) ?r2
      case y2 => (intro w' hSw; (try dsimp only at hSw); go_simp; try with_reducible rfl)
      try simp only [Act.put]
      refine E_take (i := 3) (oi := _) (v := ?v3) rfl (by kernel_rfl) (by kernel_rfl) (by kernel_rfl) (by kernel_rfl) (fun _ _ _ h => h) hx (Or.inl ⟨by rfl, ?y3⟩) ?r3
      case y3 => (intro w' hSw; (try dsimp only at hSw); go_simp; try with_reducible rfl)
      try simp only [Act.put]
      refine E_step (i := 4) (o := _) (by kernel_rfl) rfl (fun K hK => ?_)
      go_simp
      refine (HOW2.out _).mono ?_
      rintro r w8 ⟨rfl, hb8⟩
      dsimp only
      have hT8 := hT.belowS hb8
      have y1 := hT8.cell
      have y2 := hT8.frozen
      have y3 := hT8.lt
      refine hK.out _ _ (fun _ => ⟨hp_below hx.1 hb8, hT8.cell⟩) ?_
      clear hK K
      try simp only [Act.put]
      refine E_step (i := 5) (o := _) (by kernel_rfl) rfl (fun K hK => ?_)
      go_simp
      refine hK.out _ _ (fun _ => ⟨hp_alloc (hp_below hx.1 hb8) _, (hT8.alloc _).cell⟩) ?_
      clear hK K
      try simp only [Act.put]
      refine E_step (i := 6) (o := _) (by kernel_rfl) rfl (fun K hK => ?_)
      have hTb := hT8.alloc (.cells #[.int .i64 (ownP sd p).x, .int .i64 (ownP sd p).y] 68)
      refine step_append_lies _ (by rfl) _ _ _ (by rfl) W2.heap.size 68 i0 _ 2 16 Try.underlying58 hi hz0 hz1 hz2 rfl (by omega) _ j xs (by rfl) ((ownsRow_below HOW6.out hT8.below).alloc _)
        ⟨w8.heap.size, 0, none⟩ 1 1 [.int .i64 (ownP sd p).x, .int .i64 (ownP sd p).y] (by rfl) (by rfl) (World.news_of_block (cs := #[.int .i64 (ownP sd p).x, .int .i64 (ownP sd p).y]) (t := 68) (fr := (0, 0)) (heap_alloc_new w8 _)) (by simp [Value.oneCell'])
        (by omega) hn5 (by omega) (by have := hTb.below.size; have := hbx.size; omega) (w8.heap.size + 1) (by simp) ?_
      intro gg cap w9 hown9 hgrow hat hlt9
      have z1 := (hgrow.cell_far ⟨w1.heap.size, 0, none⟩ hTb.lt hLr).trans hTb.cell
      have z2 := (hgrow.frozen_far ⟨w1.heap.size, 0, none⟩ hTb.lt hLr).trans hTb.frozen
      refine hK.out _ _ (fun _ => ⟨hp_grow (hp_alloc (hp_below hx.1 hb8) _) hgrow hXr, z1⟩) ?_
      clear hK K
      try simp only [Act.put]
      refine E_take (i := 7) (oi := _) (v := ?v7) rfl (by kernel_rfl) (by kernel_rfl) (by kernel_rfl) (by kernel_rfl) (fun _ _ _ h => h) ⟨hp_grow (hp_alloc (hp_below hx.1 hb8) _) hgrow hXr, z1⟩ (Or.inl ⟨by rfl, ?y7⟩) ?r7
      case y7 => (intro w' hSw; (try dsimp only at hSw); go_simp; try with_reducible rfl)
      try simp only [Act.put]
      refine E_step (i := 8) (o := _) (by kernel_rfl) rfl (fun K hK => ?_)
      go_simp
      refine hK.out _ _ (fun h => absurd rfl h) ?_
      clear hK K
      try simp only [Act.put]
      refine E_done (by kernel_rfl) ?_ _
      all_goals
        have hk9 := (kL2.belowS hTb.below).kept hgrow hLr
        have hB9 := (hB6.trans (hTb.below.mono hB6.size)).grown hgrow (by have := hTb.below.size; have := hB6.size; omega) (fun k e => by have := (HRL.out k e).1; have := hB2.size; omega)
        have hS0 : ∀ k, (k < W2.heap.size ∧ k ≠ w1.heap.size) → k < W2.heap.size := fun k hk => hk.1
        have hK9 := (((hkp.belowT hS0 hbx).belowT hS0 hTb.below).grown hgrow hS0 (fun k hk => HNE.out k (.inl hk.1))).setCell (p := ⟨w1.heap.size, 0, none⟩) (fun h => h.2 rfl) (.slice (some ⟨gg, 0, none⟩) (j + 1) cap)
        clear t1 t2 t3 t4 t5 t6 hx
        have HW9 := Lib.hid hown9
        clear hown9
        go_wp2_with fail
        refine ⟨⟨j + 1, .slice (some ⟨gg, 0, none⟩) (j + 1) cap, by omega, by simp, hk9.set 0 _, ?_, hK9, hB9.setCell (p := ⟨w1.heap.size, 0, none⟩) hw1 _⟩, by simp [intOf]; omega⟩
        rw [HTK.out, rowsP_snoc, HXS.out]
        exact ownsRow_set HW9.out (by have := HSZ.out; omega) _
    · obtain rfl : j = cs.length := by omega
      have hrow0 := row_of (f := cellsP) (n := 2) (l := cs.map (ownP sd)) (fun _ => rfl) (by have := HOWN.out; rw [List.take_of_length_le (by rw [HQL.out]; exact Nat.le_refl _)] at this; rw [HQL.out]; exact this)
      rcases hrow0 with ⟨_, hn⟩ | ⟨g, cap, cur, rfl, hgb, kG, hcap, hcap', hrow⟩
      · have := HQL.out
        rw [hn] at this
        simp at this
        omega
      rw [HQL.out] at hcap kL1
      have HROW := Lib.hid hrow
      clear hrow HOWN
      have hS0 : ∀ k, (k < W2.heap.size ∧ k ≠ w1.heap.size) → k < W2.heap.size := fun k hk => hk.1
      have hsz2 := HSZ.out
      have hb2s := hB2.size
      have kR3 : Blk wr w.heap.size #[.slice (some ⟨fb, fo, none⟩) fs.length fc, .slice oa os.length oc] 25 := (hkp.block _ ⟨kR2.lt, by omega⟩).trans kR2
      have kA3 : Blk wr (w.heap.size + 1) #[.slice none 0 0, .slice none 0 0] 61 := (hkp.block _ ⟨kA2.lt, by omega⟩).trans kA2
      have lgG := kG.lt
      have hgL : g ≠ w1.heap.size := by omega
      have lL3 := kL1.lt
      have r1 := kR3.cell 1
      simp only [List.getElem?_toArray, List.getElem?_cons_zero, List.getElem?_cons_succ] at r1
      obtain ⟨w3, rfl⟩ : ∃ w3 : World, w3 = wr := ⟨_, rfl⟩
      clear hkp kR2 kA2 kF2 hB2 hS0 hlt hj
      go_wp2_with fail
      clear r1
      go_loopw [45, 12] (fun i' _ wr => ∃ (t : Nat) (u : Value), t ≤ os.length ∧ i' = .int .i64 t ∧ Blk wr w1.heap.size #[.slice (some ⟨g, 0, none⟩) cs.length cap, u] 61 ∧ wr.ownsRow w3.heap.size 70 4 u (((os.take t).filter fun o => o.face == (i : Int)).map (holeO sd)).length (rowsB (((os.take t).filter fun o => o.face == (i : Int)).map (holeO sd))) ∧ Keeps (fun k => k < w3.heap.size ∧ k ≠ w1.heap.size) w3 wr ∧ Below w.heap.size w wr) (fun i' _ _ => os.length - (intOf i').toNat)
      case atStart => exact ⟨0, .slice none 0 0, Nat.zero_le _, rfl, kL1, World.ownsRow_nil _ _ _ _, Keeps.refl _ _, hB3⟩
      case round =>
        obtain ⟨t, u, ht, rfl, kL4, hown, hkp, hB4⟩ := hrel
        have HOWN := Lib.hid hown
        clear hown kL1
        have hS3 : ∀ k, (k < w3.heap.size ∧ k ≠ w1.heap.size) → k < w3.heap.size := fun k hk => hk.1
        by_cases hlt : t < os.length
        · have hq : os[t]? = some os[t] := List.getElem?_eq_getElem hlt
          obtain ⟨ob, oo, rfl, q2, q3, q4, hoa, _⟩ := (HR.out.below hB4).opn hq
          simp only [] at q3 q4
          obtain ⟨d0, d1, d2, d3, d4, d5⟩ := hoa
          have hfine := HON.out _ (List.getElem_mem hlt)
          have htk := take_snoc hq
          generalize os[t] = O at *
          have hlo := HOP.out O.lo hfine.lo
          have hhi := HOP.out O.hi hfine.hi
          have hnlo := own_near sd hfine.lo
          have hnhi := own_near sd hfine.hi
          obtain ⟨on, oface, ⟨lx, ly⟩, ⟨ux, uy⟩⟩ := O
          simp only [] at d0 d1 d2 d3 d4 d5 hlo hhi hnlo hnhi
          have HTK := Lib.hid htk
          have HLO := Lib.hid hlo
          have HHI := Lib.hid hhi
          have ht0 : (0 : Int) ≤ (t : Int) := Int.natCast_nonneg _
          have ht1 : (t : Int) < (os.length : Int) := by omega
          have hlen1 : ((((os.take t).filter fun o => o.face == (i : Int)).map (holeO sd)).length) ≤ t := by
            rw [List.length_map]
            exact Nat.le_trans (List.length_filter_le ..) (by rw [List.length_take]; omega)
          clear hq htk hlo hhi hfine
          by_cases hof : oface = (i : Int)
          · have hHs : (((os.take (t + 1)).filter fun o => o.face == (i : Int)).map (holeO sd)) = (((os.take t).filter fun o => o.face == (i : Int)).map (holeO sd)) ++ [holeO sd ⟨on, oface, ⟨lx, ly⟩, ⟨ux, uy⟩⟩] := by
              rw [HTK.out, List.filter_append, List.map_append]
              simp [hof]
            have hHO : holeO sd ⟨on, oface, ⟨lx, ly⟩, ⟨ux, uy⟩⟩ = boxP (fstP [ownP sd ⟨lx, ly⟩, ownP sd ⟨ux, uy⟩]) [ownP sd ⟨lx, ly⟩, ownP sd ⟨ux, uy⟩] := rfl
            rw [hHO] at hHs
            have HHS := Lib.hid hHs
            clear hHs hHO
            subst hof
            generalize hHT : (((os.take t).filter fun o => o.face == (i : Int)).map (holeO sd)) = HT at *
            have HHT := Lib.hid hHT
            clear hHT
            generalize ownP sd ⟨lx, ly⟩ = P at *
            generalize ownP sd ⟨ux, uy⟩ = Q at *
            have hnPQ : ∀ p ∈ [P, Q], p.near 1000000 := by
              intro p hp
              rcases List.mem_cons.1 hp with rfl | hp
              · exact near_mono hnlo
              · obtain rfl := List.mem_singleton.1 hp
                exact near_mono hnhi
            have hbnd : ∀ W : World, Calls Try.prog 85 #[.slice (some ⟨W.heap.size, 0, none⟩) 2 2] (W.alloc (.cells #[.int .i64 P.x, .int .i64 P.y, .int .i64 Q.x, .int .i64 Q.y] 68)) fun e w' => e = .returned (.agg (boxC (boxP (fstP [P, Q]) [P, Q]))) ∧ Below (W.alloc (.cells #[.int .i64 P.x, .int .i64 P.y, .int .i64 Q.x, .int .i64 Q.y] 68)).heap.size (W.alloc (.cells #[.int .i64 P.x, .int .i64 P.y, .int .i64 Q.x, .int .i64 Q.y] 68)) w' :=
              fun W => bounds_any _ 2 [P, Q] _ (pts_two W P Q) (show 0 < 2 by decide) (show 2 ≤ 1000 by decide) hnPQ
            generalize boxP (fstP [P, Q]) [P, Q] = BO at *
            have HBND := Lib.hid hbnd
            clear hnPQ hnlo hnhi hbnd
            go_wp2_with fail
            have kX := Blk.new wr 43 #[.string on, .int .i64 (i : Int), .int .i64 lx, .int .i64 ly, .int .i64 ux, .int .i64 uy]
            have hbx : Below wr.heap.size wr (wr.alloc (.cells #[.string on, .int .i64 (i : Int), .int .i64 lx, .int .i64 ly, .int .i64 ux, .int .i64 uy] 43)) := (Below.refl _ _).alloc (Nat.le_refl _) _
            have kL5 := kL4.belowS hbx
            have hOW := ownsRow_below HOWN.out hbx
            have hrowlt := HOWN.out.lt
            have hlw := kL4.lt
            have hsw := hkp.size
            generalize wr.alloc (.cells #[.string on, .int .i64 (i : Int), .int .i64 lx, .int .i64 ly, .int .i64 ux, .int .i64 uy] 43) = W6 at *
            clear d0 d1 d2 d3 d4 d5 kL4
            generalize hxs : rowsB HT = xs at *
            generalize hnn : HT.length = n at *
            have HXS := Lib.hid hxs
            have HNN := Lib.hid hnn
            have HOW6 := Lib.hid hOW
            have HRL := Lib.hid hrowlt
            have hne : ∀ b, b < w3.heap.size ∨ wr.heap.size ≤ b → some b ≠ u.ownBlock := fun b hb he => by
              obtain ⟨h1, h2⟩ := HRL.out b he.symm
              omega
            have HNE := Lib.hid hne
            have hLr : some w1.heap.size ≠ u.ownBlock := HNE.out _ (.inl lL3)
            have hXr : some wr.heap.size ≠ u.ownBlock := HNE.out _ (.inr (Nat.le_refl _))
            have hXL : wr.heap.size ≠ w1.heap.size := by omega
            have hn5 : n + 1 ≤ maxLen := by unfold maxLen; omega
            clear hxs hnn hOW hrowlt hne HOWN
            have hT : TC W6 w1.heap.size 1 u W6.drew := (TC.start (c := 1) kL5 rfl).drew
            have hx : HeldQt wr.heap.size lx ly ux uy W6.drew := hq_below ⟨⟨kX.cell 2, kX.cell 3⟩, kX.cell 4, kX.cell 5⟩ ((Below.refl _ _).drew)
            have t1 := hT.cell
            have t2 := hT.frozen
            have t3 := hT.lt
            have t4 := kL5.cell 1
            have t5 := kL5.frozen 1
            have t6 := kL5.lt
            simp only [List.getElem?_toArray, List.getElem?_cons_zero, List.getElem?_cons_succ] at t4
            have hB6 := hB4.trans (hbx.mono hB4.size)
            clear kX
            have hx : (fun w' : World => ((w'.cell? ⟨wr.heap.size, 2, none⟩ = some (.int .i64 lx) ∧ w'.cell? ⟨wr.heap.size, 3, none⟩ = some (.int .i64 ly)) ∧ w'.cell? ⟨wr.heap.size, 4, none⟩ = some (.int .i64 ux) ∧ w'.cell? ⟨wr.heap.size, 5, none⟩ = some (.int .i64 uy)) ∧ w'.cell? ⟨w1.heap.size, 1, none⟩ = some u) W6.drew := ⟨hx, t1⟩
            refine wp_region_E 15 (fun w' : World => ((w'.cell? ⟨wr.heap.size, 2, none⟩ = some (.int .i64 lx) ∧ w'.cell? ⟨wr.heap.size, 3, none⟩ = some (.int .i64 ly)) ∧ w'.cell? ⟨wr.heap.size, 4, none⟩ = some (.int .i64 ux) ∧ w'.cell? ⟨wr.heap.size, 5, none⟩ = some (.int .i64 uy)) ∧ w'.cell? ⟨w1.heap.size, 1, none⟩ = some u) (by kernel_rfl) ?_
            refine E_take (i := 0) (oi := _) (v := ?vb0) rfl (by kernel_rfl) (by kernel_rfl) (by kernel_rfl) (by kernel_rfl) (fun _ _ _ h => h) hx (Or.inl ⟨by rfl, ?yb0⟩) ?rb0
            case yb0 => (intro w' hSw; (try dsimp only at hSw); go_simp; try with_reducible rfl)
            try simp only [Act.put]
            refine E_take (i := 1) (oi := _) (v := ?vb1) rfl (by kernel_rfl) (by kernel_rfl) (by kernel_rfl) (by kernel_rfl) (fun _ _ _ h => h) hx (Or.inl ⟨by rfl, ?yb1⟩) ?rb1
            case yb1 => (intro w' hSw; (try dsimp only at hSw); go_simp; try with_reducible rfl)
            try simp only [Act.put]
            refine E_take (i := 2) (oi := _) (v := ?vb2) rfl (by kernel_rfl) (by kernel_rfl) (by kernel_rfl) (by kernel_rfl) (fun _ _ _ h => h) hx (Or.inl ⟨by rfl, ?yb2⟩) ?rb2
            case yb2 => (intro w' hSw; (try dsimp only at hSw); go_simp; try with_reducible rfl)
            try simp only [Act.put]
            refine E_take (i := 3) (oi := _) (v := ?vb3) rfl (by kernel_rfl) (by kernel_rfl) (by kernel_rfl) (by kernel_rfl) (fun _ _ _ h => h) hx (Or.inl ⟨by rfl, ?yb3⟩) ?rb3
            case yb3 => (intro w' hSw; (try dsimp only at hSw); go_simp; try with_reducible rfl)
            try simp only [Act.put]
            refine E_take (i := 4) (oi := _) (v := ?vb4) rfl (by kernel_rfl) (by kernel_rfl) (by kernel_rfl) (by kernel_rfl) (fun _ _ _ h => h) hx (Or.inl ⟨by rfl, ?yb4⟩) ?rb4
            case yb4 => (intro w' hSw; (try dsimp only at hSw); go_simp; try with_reducible rfl)
            try simp only [Act.put]
            refine E_take (i := 6) (oi := _) (v := ?vb6) rfl (by kernel_rfl) (by kernel_rfl) (by kernel_rfl) (by kernel_rfl) (fun _ _ _ h => h) hx (Or.inl ⟨by rfl, ?yb6⟩) ?rb6
            case yb6 => (intro w' hSw; (try dsimp only at hSw); go_simp; try with_reducible rfl)
            try simp only [Act.put]
            refine E_take (i := 7) (oi := _) (v := ?vb7) rfl (by kernel_rfl) (by kernel_rfl) (by kernel_rfl) (by kernel_rfl) (fun _ _ _ h => h) hx (Or.inl ⟨by rfl, ?yb7⟩) ?rb7
            case yb7 => (intro w' hSw; (try dsimp only at hSw); go_simp; try with_reducible rfl)
            try simp only [Act.put]
            refine E_take (i := 8) (oi := _) (v := ?vb8) rfl (by kernel_rfl) (by kernel_rfl) (by kernel_rfl) (by kernel_rfl) (fun _ _ _ h => h) hx (Or.inl ⟨by rfl, ?yb8⟩) ?rb8
            case yb8 => (intro w' hSw; (try dsimp only at hSw); go_simp; try with_reducible rfl)
            try simp only [Act.put]
            refine E_step (i := 5) (o := _) (by kernel_rfl) rfl (fun K hK => ?_)
            go_simp
            refine (HLO.out _).mono ?_
            rintro r wl ⟨rfl, hbl⟩
            dsimp only
            have hTl := hT.belowS hbl
            have hql := hq_below hx.1 hbl
            refine hK.out _ _ (fun _ => ⟨hql, hTl.cell⟩) ?_
            clear hK K
            try simp only [Act.put]
            refine E_step (i := 9) (o := _) (by kernel_rfl) rfl (fun K hK => ?_)
            go_simp
            refine (HHI.out _).mono ?_
            rintro r wz ⟨rfl, hbh⟩
            dsimp only
            have hTz := hTl.belowS hbh
            have hqz := hq_below hql hbh
            refine hK.out _ _ (fun _ => ⟨hqz, hTz.cell⟩) ?_
            clear hK K
            try simp only [Act.put]
            have yz1 := hTz.cell
            have yz2 := hTz.frozen
            have yz3 := hTz.lt
            refine E_step (i := 10) (o := _) (by kernel_rfl) rfl (fun K hK => ?_)
            go_simp
            refine hK.out _ _ (fun _ => ⟨hq_alloc hqz _, (hTz.alloc _).cell⟩) ?_
            clear hK K
            try simp only [Act.put]
            refine E_step (i := 11) (o := _) (by kernel_rfl) rfl (fun K hK => ?_)
            go_simp
            refine (HBND.out _).mono ?_
            rintro r wb ⟨rfl, hbb⟩
            dsimp only
            have hTb := (hTz.alloc _).belowS hbb
            have hqb := hq_below (hq_alloc hqz _) hbb
            have yb1 := hTb.cell
            have yb2 := hTb.frozen
            have yb3 := hTb.lt
            refine hK.out _ _ (fun _ => ⟨hqb, hTb.cell⟩) ?_
            clear hK K
            try simp only [Act.put]
            refine E_step (i := 12) (o := _) (by kernel_rfl) rfl (fun K hK => ?_)
            go_simp
            refine hK.out _ _ (fun _ => ⟨hq_alloc hqb _, (hTb.alloc _).cell⟩) ?_
            clear hK K
            try simp only [Act.put]
            refine E_step (i := 13) (o := _) (by kernel_rfl) rfl (fun K hK => ?_)
            have hTe := hTb.alloc (.cells (boxC BO) 70)
            refine step_append_lies _ (by rfl) _ _ _ (by rfl) w3.heap.size 70 i4 _ 4 32 Try.underlying59 hi4 hy0 hy1 hy2 rfl (by omega) _ n xs (by rfl) ((ownsRow_below HOW6.out hTb.below).alloc _)
              ⟨wb.heap.size, 0, none⟩ 1 1 (cellsB BO) (by rfl) (by rfl) (World.news_of_block (cs := boxC BO) (t := 70) (fr := (0, 0)) (heap_alloc_new wb _)) (by simp [Value.oneCell', cellsB])
              (by omega) hn5 (by omega) (by have := hTb.below.size; have := hbx.size; simp only [World.size_alloc]; omega) (wb.heap.size + 1) (by simp) ?_
            intro gg cap2 w9 hown9 hgrow hat hlt9
            have z1 := (hgrow.cell_far ⟨w1.heap.size, 1, none⟩ hTe.lt hLr).trans hTe.cell
            have z2 := (hgrow.frozen_far ⟨w1.heap.size, 1, none⟩ hTe.lt hLr).trans hTe.frozen
            refine hK.out _ _ (fun _ => ⟨hq_grow (hq_alloc hqb _) hgrow hXr, z1⟩) ?_
            clear hK K
            try simp only [Act.put]
            refine E_take (i := 14) (oi := _) (v := .pointer (some ⟨w1.heap.size, 1, none⟩)) rfl (by kernel_rfl) (by kernel_rfl) (by kernel_rfl) (by kernel_rfl) (fun _ _ _ h => h) ⟨hq_grow (hq_alloc hqb _) hgrow hXr, z1⟩ (Or.inl ⟨by rfl, ?_⟩) ?_
            · (intro w' hSw; (try dsimp only at hSw); go_simp; try with_reducible rfl)
            try simp only [Act.put]
            refine E_step (i := 15) (o := _) (by kernel_rfl) rfl (fun K hK => ?_)
            go_simp
            refine hK.out _ _ (fun h => absurd rfl h) ?_
            clear hK K
            try simp only [Act.put]
            refine E_done (by kernel_rfl) ?_ _
            all_goals
              have hk9 := (kL5.belowS hTe.below).kept hgrow hLr
              have hB9 := (hB6.trans (hTe.below.mono hB6.size)).grown hgrow (by have := hTe.below.size; have := hB6.size; omega) (fun k e => by have := (HRL.out k e).1; have := hB3.size; omega)
              have hK9 := (((hkp.belowT hS3 hbx).belowT hS3 hTe.below).grown hgrow hS3 (fun k hk => HNE.out k (.inl hk.1))).setCell (p := ⟨w1.heap.size, 1, none⟩) (fun h => h.2 rfl) (.slice (some ⟨gg, 0, none⟩) (n + 1) cap2)
              clear t1 t2 t3 t4 t5 t6 hx
              have HW9 := Lib.hid hown9
              clear hown9
              go_wp2_with fail
              refine ⟨⟨t + 1, .slice (some ⟨gg, 0, none⟩) (n + 1) cap2, by omega, by simp, hk9.set 1 _, ?_, hK9, hB9.setCell (p := ⟨w1.heap.size, 1, none⟩) hw1 _⟩, by simp [intOf]; omega⟩
              rw [HHS.out, rowsB_snoc, HXS.out, List.length_append, HNN.out]
              exact ownsRow_set HW9.out lL3 _
          · have hHs : (((os.take (t + 1)).filter fun o => o.face == (i : Int)).map (holeO sd)) = (((os.take t).filter fun o => o.face == (i : Int)).map (holeO sd)) := by
              rw [HTK.out, List.filter_append, List.map_append]
              simp [hof]
            have HHS := Lib.hid hHs
            clear hHs
            have hfb : (oface == (i : Int)) = false := by rw [beq_eq_false_iff_ne]; exact hof
            have hbx : Below wr.heap.size wr (wr.alloc (.cells #[.string on, .int .i64 oface, .int .i64 lx, .int .i64 ly, .int .i64 ux, .int .i64 uy] 43)) := (Below.refl _ _).alloc (Nat.le_refl _) _
            clear hof
            go_wp2_with fail
            refine ⟨⟨t + 1, u, by omega, by simp, kL4.belowS hbx, ?_, hkp.belowT hS3 hbx, hB4.trans (hbx.mono hB4.size)⟩, by simp [intOf]; omega⟩
            rw [HHS.out]
            exact ownsRow_below HOWN.out hbx
        · obtain rfl : t = os.length := by omega
          rw [List.take_length] at HOWN
          have hrow2 := row_of (f := cellsB) (n := 4) (l := ((os.filter fun o => o.face == (i : Int)).map (holeO sd))) (fun _ => rfl) HOWN.out
          have hwd : ∀ ca', wideF ⟨nm, sd, ft, ba, ri, ru, ca', cc, cs⟩ os i = (decide (400 < (boxP (fstP (cs.map (ownP sd))) (cs.map (ownP sd))).hi.x - (boxP (fstP (cs.map (ownP sd))) (cs.map (ownP sd))).lo.x) || decide (400 < (boxP (fstP (cs.map (ownP sd))) (cs.map (ownP sd))).hi.y - (boxP (fstP (cs.map (ownP sd))) (cs.map (ownP sd))).lo.y) || decide (6 < ((os.filter fun o => o.face == (i : Int)).map (holeO sd)).length)) := fun _ => rfl
          have hou : ∀ ca', outF ⟨nm, sd, ft, ba, ri, ru, ca', cc, cs⟩ = (cs.map (ownP sd)).map (subP (boxP (fstP (cs.map (ownP sd))) (cs.map (ownP sd))).lo) := fun _ => rfl
          have hho : ∀ ca', holF ⟨nm, sd, ft, ba, ri, ru, ca', cc, cs⟩ os i = ((os.filter fun o => o.face == (i : Int)).map (holeO sd)).map (subB (boxP (fstP (cs.map (ownP sd))) (cs.map (ownP sd))).lo) := fun _ => rfl
          have hhn : ∀ b ∈ ((os.filter fun o => o.face == (i : Int)).map (holeO sd)), b.lo.near 10000 ∧ b.hi.near 10000 := by
            intro b hb
            obtain ⟨o, ho, rfl⟩ := List.mem_map.1 hb
            have hof := HON.out o (List.mem_filter.1 ho).1
            have a1 := own_near sd hof.lo
            have a2 := own_near sd hof.hi
            have a3 : ∀ p ∈ [ownP sd o.lo, ownP sd o.hi], p.near 10000 := by
              intro p hp
              rcases List.mem_cons.1 hp with rfl | hp
              · exact a1
              · obtain rfl := List.mem_singleton.1 hp
                exact a2
            exact ⟨loP_near _ _ a1 a3, hiP_near _ _ a1 a3⟩
          have hhl : ((os.filter fun o => o.face == (i : Int)).map (holeO sd)).length ≤ 12 := by
            rw [List.length_map]
            exact Nat.le_trans (List.length_filter_le ..) hol
          have hbn : ∀ W, Blk W g cur 68 → Calls Try.prog 85 #[.slice (some ⟨g, 0, none⟩) cs.length cap] W fun e w' => e = .returned (.agg (boxC (boxP (fstP (cs.map (ownP sd))) (cs.map (ownP sd))))) ∧ Below W.heap.size W w' := fun W hb => by
            have h := bounds_any (some ⟨g, 0, none⟩) cap (cs.map (ownP sd)) W (pts_of_row hb (by rw [HQL.out]; exact hcap) hcap' HROW.out) (by rw [HQL.out]; omega) (by rw [HQL.out]; omega) (fun p hp => near_mono (HQN.out p hp))
            rwa [HQL.out] at h
          have hbq : (boxP (fstP (cs.map (ownP sd))) (cs.map (ownP sd))).lo.near 10000 ∧ (boxP (fstP (cs.map (ownP sd))) (cs.map (ownP sd))).hi.near 10000 := by
            have hf0 : (fstP (cs.map (ownP sd))).near 10000 := by
              unfold fstP
              rw [List.getElem?_eq_getElem (by rw [HQL.out]; omega)]
              exact HQN.out _ (List.getElem_mem _)
            exact ⟨loP_near _ _ hf0 HQN.out, hiP_near _ _ hf0 HQN.out⟩
          generalize ((os.filter fun o => o.face == (i : Int)).map (holeO sd)) = HH at *
          generalize boxP (fstP (cs.map (ownP sd))) (cs.map (ownP sd)) = BX at *
          generalize cs.map (ownP sd) = Q at *
          obtain ⟨ua, ucap, rfl⟩ : ∃ ua ucap, u = .slice ua HH.length ucap := by
            rcases hrow2 with ⟨rfl, hn⟩ | ⟨g4, cap4, cur4, rfl, _⟩
            · exact ⟨none, 0, by rw [hn]; rfl⟩
            · exact ⟨_, _, rfl⟩
          have HW2 := Lib.hid hrow2
          have HWD := Lib.hid hwd
          have HOU := Lib.hid hou
          have HHO := Lib.hid hho
          have HHN := Lib.hid hhn
          have HBN := Lib.hid hbn
          clear hrow2 hwd hou hho hhn hbn HOWN
          have kA5 : Blk wr (w.heap.size + 1) #[.slice none 0 0, .slice none 0 0] 61 := (hkp.block _ ⟨kA3.lt, by omega⟩).trans kA3
          have kG5 : Blk wr g cur 68 := (hkp.block _ ⟨lgG, hgL⟩).trans kG
          have hgr := kG5.lt
          have lL5 := kL4.lt
          have v0 := kL4.cell 0
          have v1 := kL4.cell 1
          simp only [List.getElem?_toArray, List.getElem?_cons_zero, List.getElem?_cons_succ] at v0 v1
          obtain ⟨w5, rfl⟩ : ∃ w5 : World, w5 = wr := ⟨_, rfl⟩
          clear hkp kG kA3 kR3 hS3
          go_wp2_with fail
          refine (HBN.out _ kG5).mono ?_
          rintro e w6 ⟨rfl, hb6⟩
          have kA6 := kA5.belowS hb6
          have kG6 := kG5.belowS hb6
          have kL6 := kL4.belowS hb6
          have hB6 := hB4.trans (hb6.mono hB4.size)
          have hw56 := hb6.size
          have hb56 := hb6
          clear v0 v1 kA5 kG5 kL4 hb6 hB4 hB3
          have v0 := kL6.cell 0
          have v1 := kL6.cell 1
          have a0 := kA6.cell 0
          have a1 := kA6.cell 1
          have a2 := kA6.frozen 0
          have a3 := kA6.frozen 1
          have lA6 := kA6.lt
          have lL6 := kL6.lt
          simp only [List.getElem?_toArray, List.getElem?_cons_zero, List.getElem?_cons_succ] at v0 v1 a0 a1
          obtain ⟨⟨⟨n1, n2⟩, n3, n4⟩, ⟨n5, n6⟩, n7, n8⟩ := hbq
          go_upto_region 16 with fail
          have kB7 := Blk.new w6 70 (boxC BX)
          have hb7 : Below w6.heap.size w6 (w6.alloc (.cells (boxC BX) 70)) := (Below.refl _ _).alloc (Nat.le_refl _) _
          simp only [boxC] at kB7 hb7
          generalize w6.alloc (.cells #[.int .i64 BX.lo.x, .int .i64 BX.lo.y, .int .i64 BX.hi.x, .int .i64 BX.hi.y] 70) = W7 at *
          have kA7 := kA6.belowS hb7
          have kG7 := kG6.belowS hb7
          have kL7 := kL6.belowS hb7
          have hB7 := hB6.trans (hb7.mono hB6.size)
          have hw67 := hb7.size
          have hb57 := hb56.trans (hb7.mono hb56.size)
          clear hb56
          clear v0 v1 a0 a1 a2 a3 kA6 kG6 kL6 hb7 hB6
          have v0 := kL7.cell 0
          have v1 := kL7.cell 1
          have a0 := kA7.cell 0
          have a1 := kA7.cell 1
          have a2 := kA7.frozen 0
          have a3 := kA7.frozen 1
          have lA7 := kA7.lt
          have lL7 := kL7.lt
          have b0 := kB7.cell 0
          have b1 := kB7.cell 1
          have b2 := kB7.cell 2
          have b3 := kB7.cell 3
          simp only [List.getElem?_toArray, List.getElem?_cons_zero, List.getElem?_cons_succ] at v0 v1 a0 a1 b0 b1 b2 b3
          by_cases h1 : 400 < BX.hi.x - BX.lo.x
          · have hwt : wideF ⟨nm, sd, ft, ba, ri, ru, some ⟨cb, co, none⟩, cc, cs⟩ os i = true := by rw [HWD.out]; simp [h1]
            have HWT := Lib.hid hwt
            have k2 := (kA7.set 0 (.slice none 0 0)).set 1 (.slice none 0 0)
            have z0 := k2.cell 0
            have z1 := k2.cell 1
            simp only [List.setIfInBounds_toArray, List.set_cons_zero, List.set_cons_succ, List.getElem?_toArray, List.getElem?_cons_zero, List.getElem?_cons_succ] at z0 z1
            clear hwt k2
            go_wp2_with fail
            refine bodyPost_ret (v := .tuple #[.agg #[.slice none 0 0, .slice none 0 0], .int .i64 9]) (by simp [results, Try.results52, go_sem, z0, z1]) rfl ⟨(hB7.setCell (by simp) _).setCell (by simp) _, ?_⟩
            rw [if_pos HWT.out]
          · by_cases h2 : 400 < BX.hi.y - BX.lo.y
            · have hwt : wideF ⟨nm, sd, ft, ba, ri, ru, some ⟨cb, co, none⟩, cc, cs⟩ os i = true := by rw [HWD.out]; simp [h2]
              have HWT := Lib.hid hwt
              have k2 := (kA7.set 0 (.slice none 0 0)).set 1 (.slice none 0 0)
              have z0 := k2.cell 0
              have z1 := k2.cell 1
              simp only [List.setIfInBounds_toArray, List.set_cons_zero, List.set_cons_succ, List.getElem?_toArray, List.getElem?_cons_zero, List.getElem?_cons_succ] at z0 z1
              clear hwt k2
              go_wp2_with fail
              refine bodyPost_ret (v := .tuple #[.agg #[.slice none 0 0, .slice none 0 0], .int .i64 9]) (by simp [results, Try.results52, go_sem, z0, z1]) rfl ⟨(hB7.setCell (by simp) _).setCell (by simp) _, ?_⟩
              rw [if_pos HWT.out]
            · by_cases h3 : (6 : Int) < (HH.length : Int)
              · have hwt : wideF ⟨nm, sd, ft, ba, ri, ru, some ⟨cb, co, none⟩, cc, cs⟩ os i = true := by rw [HWD.out]; simp [show 6 < HH.length by omega]
                have HWT := Lib.hid hwt
                have k2 := (kA7.set 0 (.slice none 0 0)).set 1 (.slice none 0 0)
                have z0 := k2.cell 0
                have z1 := k2.cell 1
                simp only [List.setIfInBounds_toArray, List.set_cons_zero, List.set_cons_succ, List.getElem?_toArray, List.getElem?_cons_zero, List.getElem?_cons_succ] at z0 z1
                clear hwt k2
                go_wp2_with fail
                refine bodyPost_ret (v := .tuple #[.agg #[.slice none 0 0, .slice none 0 0], .int .i64 9]) (by simp [results, Try.results52, go_sem, z0, z1]) rfl ⟨(hB7.setCell (by simp) _).setCell (by simp) _, ?_⟩
                rw [if_pos HWT.out]
              · have hwt : wideF ⟨nm, sd, ft, ba, ri, ru, some ⟨cb, co, none⟩, cc, cs⟩ os i = false := by rw [HWD.out]; simp; omega
                have HWT := Lib.hid hwt
                clear hwt
                go_wp2_with fail
                clear v0 v1 a0 a1 a2 a3 b0 b1 b2 b3 h1 h2 h3
                have HW3 := Lib.hid HW2.out
                have HBE := Lib.hid hb57
                clear hb57
                go_loopw [100, 14, 15] (fun i' _ _ wr => ∃ t : Nat, t ≤ cs.length ∧ i' = .int .i64 t ∧ ∃ cur1, Blk wr g cur1 68 ∧ Row cellsP 2 (mixL (subP BX.lo) Q t) cur1 ∧ Keeps (fun k => k < W7.heap.size ∧ k ≠ g) W7 wr ∧ Below w.heap.size w wr) (fun i' _ _ _ => cs.length - (intOf i').toNat)
                case atStart => exact ⟨0, Nat.zero_le _, rfl, cur, kG7, by rw [mixL_zero]; exact HROW.out, Keeps.refl _ _, hB7⟩
                case round =>
                  obtain ⟨t, ht, rfl, cur1, kG8, hrw, hkp, hB8⟩ := hrel
                  clear kG7
                  have hS7 : ∀ k, (k < W7.heap.size ∧ k ≠ g) → k < W7.heap.size := fun k hk => hk.1
                  have kL8 : Blk wr w1.heap.size #[.slice (some ⟨g, 0, none⟩) cs.length cap, .slice ua HH.length ucap] 61 := (hkp.block _ ⟨lL7, Ne.symm hgL⟩).trans kL7
                  have kB8 : Blk wr w6.heap.size #[.int .i64 BX.lo.x, .int .i64 BX.lo.y, .int .i64 BX.hi.x, .int .i64 BX.hi.y] 70 := (hkp.block _ ⟨kB7.lt, by omega⟩).trans kB7
                  have HRW := Lib.hid hrw
                  clear hrw
                  by_cases hlt : t < cs.length
                  · obtain ⟨q, hq⟩ : ∃ q, Q[t]? = some q := ⟨_, List.getElem?_eq_getElem (by rw [HQL.out]; exact hlt)⟩
                    have htQ : t ≤ Q.length := by rw [HQL.out]; omega
                    have hmx : (mixL (subP BX.lo) Q t)[t]? = some q := by rw [mixL_at _ _ htQ, if_neg (by omega), hq]
                    have hrs := HRW.out.1
                    rw [mixL_len _ _ htQ, HQL.out] at hrs
                    have c0 : wr.cell? ⟨g, t * 2, none⟩ = some (.int .i64 q.x) := (kG8.cell _).trans (HRW.out.2 t 0 q hmx (by omega))
                    have c1 : wr.cell? ⟨g, t * 2 + 1, none⟩ = some (.int .i64 q.y) := (kG8.cell _).trans (HRW.out.2 t 1 q hmx (by omega))
                    have hqn := HQN.out q (List.mem_of_getElem? hq)
                    have hms := fun k => mixL_succ (subP BX.lo) Q hq k
                    have HMS := Lib.hid hms
                    have hles := lessP_any q BX.lo (near_mono hqn) ⟨⟨by omega, by omega⟩, by omega, by omega⟩
                    have HLES := Lib.hid hles
                    have ht0 : (0 : Int) ≤ (t : Int) := Int.natCast_nonneg _
                    have ht1 : (t : Int) < (cs.length : Int) := by omega
                    have hlg8 := kG8.lt
                    clear hq hmx hqn hms hles
                    go_wp2_with fail
                    have kX := Blk.new wr 68 #[.int .i64 q.x, .int .i64 q.y]
                    have hbx : Below wr.heap.size wr (wr.alloc (.cells #[.int .i64 q.x, .int .i64 q.y] 68)) := (Below.refl _ _).alloc (Nat.le_refl _) _
                    generalize wr.alloc (.cells #[.int .i64 q.x, .int .i64 q.y] 68) = W8 at *
                    clear c0 c1
                    have hdr : Below W8.heap.size W8 W8.drew := (Below.refl _ _).drew
                    have kG9 := (kG8.belowS hbx).belowS hdr
                    have x0 := (kX.belowS hdr).cell 0
                    have x1 := (kX.belowS hdr).cell 1
                    have v0 := ((kL8.belowS hbx).belowS hdr).cell 0
                    have b0 := ((kB8.belowS hbx).belowS hdr).cell 0
                    have b1 := ((kB8.belowS hbx).belowS hdr).cell 1
                    simp only [List.getElem?_toArray, List.getElem?_cons_zero, List.getElem?_cons_succ] at x0 x1 v0 b0 b1
                    have nXg : wr.heap.size ≠ g := by omega
                    have nLg : w1.heap.size ≠ g := Ne.symm hgL
                    have nBg : w6.heap.size ≠ g := by omega
                    have hB9 := hB8.trans (hbx.mono hB8.size)
                    clear kX
                    go_region_held3 (fun w' => (w'.cell? ⟨wr.heap.size, 0, none⟩ = some (.int .i64 q.x) ∧ w'.cell? ⟨wr.heap.size, 1, none⟩ = some (.int .i64 q.y)) ∧ w'.cell? ⟨w1.heap.size, 0, none⟩ = some (.slice (some ⟨g, 0, none⟩) cs.length cap) ∧ w'.cell? ⟨w6.heap.size, 0, none⟩ = some (.int .i64 BX.lo.x) ∧ w'.cell? ⟨w6.heap.size, 1, none⟩ = some (.int .i64 BX.lo.y))
                      ((refine ⟨⟨?_, ?_⟩, ?_, ?_, ?_⟩ <;> (repeat (first | (with_reducible assumption) | (refine cell_set_other ?_ nXg) | (refine cell_set_other ?_ nLg) | (refine cell_set_other ?_ nBg) | (refine cell_below ?_ hb9)))))
                      (first | ((with_reducible refine (HLES.out _).mono ?_); rintro r w9 ⟨rfl, hb9⟩; (try dsimp only); have kg := kG9.belowS hb9; have e0 := (kg.cell (t * 2)).trans (Array.getElem?_eq_getElem (by omega)); have e1 := (kg.cell (t * 2 + 1)).trans (Array.getElem?_eq_getElem (by omega)); have e2 := kg.frozen (t * 2); have e3 := kg.frozen (t * 2 + 1); have e4 := kg.lt))
                    all_goals
                      have hK9 := (((hkp.belowT hS7 hbx).belowT hS7 hdr).belowT hS7 hb9)
                      have hB10 := hB9.drew.trans (hb9.mono hB9.drew.size)
                      clear x0 x1 v0 b0 b1
                      go_wp2_with fail
                      refine ⟨⟨t + 1, by omega, by simp, _, (kg.set (t * 2) (.int .i64 (subP BX.lo q).x)).set (t * 2 + 1) (.int .i64 (subP BX.lo q).y), ?_, (hK9.setCell (p := ⟨g, t * 2, none⟩) (fun h => h.2 rfl) _).setCell (p := ⟨g, t * 2 + 1, none⟩) (fun h => h.2 rfl) _, (hB10.setCell (p := ⟨g, t * 2, none⟩) (by simp; omega) _).setCell (p := ⟨g, t * 2 + 1, none⟩) (by simp; omega) _⟩, by simp [intOf]; omega⟩
                      refine row_set (f := cellsP) (fun _ => rfl) HRW.out (j := t) (x := subP BX.lo q) (by rw [mixL_len _ _ htQ, HQL.out]; exact hlt) HMS.out (by simp) (fun c hc => ?_) (fun k c hk hc => ?_)
                      · match c, hc with
                        | 0, _ => rw [Array.getElem?_setIfInBounds_ne (by omega), Nat.add_zero, Array.getElem?_setIfInBounds_self_of_lt (by omega)]; rfl
                        | 1, _ => rw [Array.getElem?_setIfInBounds_self_of_lt (by simp; omega)]; rfl
                      · rw [Array.getElem?_setIfInBounds_ne (by omega), Array.getElem?_setIfInBounds_ne (by omega)]
                  · obtain rfl : t = cs.length := by omega
                    have hrf : Row cellsP 2 (Q.map (subP BX.lo)) cur1 := by
                      have := HRW.out
                      rw [← HQL.out, mixL_all] at this
                      exact this
                    have HRF := Lib.hid hrf
                    have hsh : (HH = [] ∧ ua = none ∧ ucap = 0) ∨ ∃ g4 cur4, ua = some ⟨g4, 0, none⟩ ∧ w3.heap.size ≤ g4 ∧ Blk wr g4 cur4 70 ∧ HH.length ≤ ucap ∧ ucap ≤ 9223372036854775807 ∧ Row cellsB 4 HH cur4 := by
                      rcases HW3.out with ⟨e, hn⟩ | ⟨g4, cap4, cur4, e, q1, q2, q3, q4, q5⟩
                      · obtain ⟨rfl, _, rfl⟩ := slice_inj e
                        exact .inl ⟨hn, rfl, rfl⟩
                      · obtain ⟨rfl, _, rfl⟩ := slice_inj e
                        have q2' : Blk W7 g4 cur4 70 := (HBE.out.block g4 q2.lt).trans q2
                        exact .inr ⟨g4, cur4, rfl, q1, (hkp.block _ ⟨q2'.lt, by omega⟩).trans q2', q3, q4, q5⟩
                    have kA8 : Blk wr (w.heap.size + 1) #[.slice none 0 0, .slice none 0 0] 61 := (hkp.block _ ⟨lA7, by omega⟩).trans kA7
                    have v1 := kL8.cell 1
                    simp only [List.getElem?_toArray, List.getElem?_cons_zero, List.getElem?_cons_succ] at v1
                    have lL8 := kL8.lt
                    have lB8 := kB8.lt
                    have lA8 := kA8.lt
                    have lG8 := kG8.lt
                    have hw78 := hkp.size
                    obtain ⟨w8, rfl⟩ : ∃ w8 : World, w8 = wr := ⟨_, rfl⟩
                    clear hrf hlt ht hkp hS7 kA7 kL7 kB7 hB7
                    go_wp2_with fail
                    clear v1
                    go_loopw [117, 16, 17] (fun i' _ _ wr => ∃ t : Nat, t ≤ HH.length ∧ i' = .int .i64 t ∧ ((HH = [] ∧ ua = none ∧ ucap = 0) ∨ ∃ g4 cur4, ua = some ⟨g4, 0, none⟩ ∧ w3.heap.size ≤ g4 ∧ g4 < w8.heap.size ∧ Blk wr g4 cur4 70 ∧ HH.length ≤ ucap ∧ ucap ≤ 9223372036854775807 ∧ Row cellsB 4 (mixL (subB BX.lo) HH t) cur4) ∧
                      Keeps (fun k => k < w8.heap.size ∧ ∀ g4, ua = some ⟨g4, 0, none⟩ → w3.heap.size ≤ g4 → k ≠ g4) w8 wr ∧ Below w.heap.size w wr) (fun i' _ _ _ => HH.length - (intOf i').toNat)
                    case atStart =>
                      refine ⟨0, Nat.zero_le _, rfl, ?_, Keeps.refl _ _, hB8⟩
                      rcases hsh with h | ⟨g4, cur4, q0, q1, q2, q3, q4, q5⟩
                      · exact .inl h
                      · exact .inr ⟨g4, cur4, q0, q1, q2.lt, q2, q3, q4, by rw [mixL_zero]; exact q5⟩
                    case round =>
                      obtain ⟨t, ht, rfl, hrows, hkp, hB9⟩ := hrel
                      clear hsh
                      have hS8 : ∀ k, (k < w8.heap.size ∧ ∀ g4, ua = some ⟨g4, 0, none⟩ → w3.heap.size ≤ g4 → k ≠ g4) → k < w8.heap.size := fun k hk => hk.1
                      have kL9 : Blk wr w1.heap.size #[.slice (some ⟨g, 0, none⟩) cs.length cap, .slice ua HH.length ucap] 61 := (hkp.block _ ⟨lL8, fun _ _ h => by omega⟩).trans kL8
                      have kB9 : Blk wr w6.heap.size #[.int .i64 BX.lo.x, .int .i64 BX.lo.y, .int .i64 BX.hi.x, .int .i64 BX.hi.y] 70 := by
                        refine (hkp.block _ ⟨lB8, fun g4 e h => ?_⟩).trans kB8
                        rcases HW3.out with ⟨e', hn⟩ | ⟨g5, cap4, cur4, e', q1, q2, _⟩
                        · obtain ⟨rfl, _, _⟩ := slice_inj e'
                          cases e
                        · obtain ⟨rfl, _, rfl⟩ := slice_inj e'
                          cases e
                          have := q2.lt
                          omega
                      by_cases hlt : t < HH.length
                      · rcases hrows with ⟨rfl, _, _⟩ | ⟨g4, cur4, rfl, hg4, hg48, kH, hc4, hc4', hrw⟩
                        · simp at hlt
                        have HRW := Lib.hid hrw
                        clear hrw
                        obtain ⟨q, hq⟩ : ∃ q, HH[t]? = some q := ⟨_, List.getElem?_eq_getElem hlt⟩
                        have htH : t ≤ HH.length := by omega
                        have hmx : (mixL (subB BX.lo) HH t)[t]? = some q := by rw [mixL_at _ _ htH, if_neg (by omega), hq]
                        have hrs := HRW.out.1
                        rw [mixL_len _ _ htH] at hrs
                        have c0 : wr.cell? ⟨g4, t * 4, none⟩ = some (.int .i64 q.lo.x) := (kH.cell _).trans (HRW.out.2 t 0 q hmx (by omega))
                        have c1 : wr.cell? ⟨g4, t * 4 + 1, none⟩ = some (.int .i64 q.lo.y) := (kH.cell _).trans (HRW.out.2 t 1 q hmx (by omega))
                        have c2 : wr.cell? ⟨g4, t * 4 + 2, none⟩ = some (.int .i64 q.hi.x) := (kH.cell _).trans (HRW.out.2 t 2 q hmx (by omega))
                        have c3 : wr.cell? ⟨g4, t * 4 + 3, none⟩ = some (.int .i64 q.hi.y) := (kH.cell _).trans (HRW.out.2 t 3 q hmx (by omega))
                        obtain ⟨hql, hqh⟩ := HHN.out q (List.mem_of_getElem? hq)
                        have hms := fun k => mixL_succ (subB BX.lo) HH hq k
                        have HMS := Lib.hid hms
                        have hlo := lessP_any q.lo BX.lo (near_mono hql) ⟨⟨by omega, by omega⟩, by omega, by omega⟩
                        have hhi := lessP_any q.hi BX.lo (near_mono hqh) ⟨⟨by omega, by omega⟩, by omega, by omega⟩
                        have HLO := Lib.hid hlo
                        have HHI := Lib.hid hhi
                        have ht0 : (0 : Int) ≤ (t : Int) := Int.natCast_nonneg _
                        have ht1 : (t : Int) < (HH.length : Int) := by omega
                        have hlg8 := kH.lt
                        obtain ⟨⟨qa, qb⟩, qc, qd⟩ := q
                        simp only [] at c0 c1 c2 c3 hlo hhi
                        clear hq hmx hql hqh hms hlo hhi
                        go_wp2_with fail
                        have kX := Blk.new wr 70 #[.int .i64 qa, .int .i64 qb, .int .i64 qc, .int .i64 qd]
                        have hbx : Below wr.heap.size wr (wr.alloc (.cells #[.int .i64 qa, .int .i64 qb, .int .i64 qc, .int .i64 qd] 70)) := (Below.refl _ _).alloc (Nat.le_refl _) _
                        generalize wr.alloc (.cells #[.int .i64 qa, .int .i64 qb, .int .i64 qc, .int .i64 qd] 70) = W9 at *
                        clear c0 c1 c2 c3
                        have hdr : Below W9.heap.size W9 W9.drew := (Below.refl _ _).drew
                        have kH9 := (kH.belowS hbx).belowS hdr
                        have x0 := (kX.belowS hdr).cell 0
                        have x1 := (kX.belowS hdr).cell 1
                        have x2 := (kX.belowS hdr).cell 2
                        have x3 := (kX.belowS hdr).cell 3
                        have v1 := ((kL9.belowS hbx).belowS hdr).cell 1
                        have b0 := ((kB9.belowS hbx).belowS hdr).cell 0
                        have b1 := ((kB9.belowS hbx).belowS hdr).cell 1
                        simp only [List.getElem?_toArray, List.getElem?_cons_zero, List.getElem?_cons_succ] at x0 x1 x2 x3 v1 b0 b1
                        have nXg : wr.heap.size ≠ g4 := by omega
                        have nLg : w1.heap.size ≠ g4 := by omega
                        have nBg : w6.heap.size ≠ g4 := by
                          rcases HW3.out with ⟨e', hn⟩ | ⟨g5, cap4, cur4, e', q1, q2, _⟩
                          · obtain ⟨e'', _, _⟩ := slice_inj e'
                            cases e''
                          · obtain ⟨e'', _, _⟩ := slice_inj e'
                            cases e''
                            have := q2.lt
                            omega
                        have hB10 := hB9.trans (hbx.mono hB9.size)
                        clear kX
                        go_region_held3 (fun w' => ((w'.cell? ⟨wr.heap.size, 0, none⟩ = some (.int .i64 qa) ∧ w'.cell? ⟨wr.heap.size, 1, none⟩ = some (.int .i64 qb)) ∧ w'.cell? ⟨wr.heap.size, 2, none⟩ = some (.int .i64 qc) ∧ w'.cell? ⟨wr.heap.size, 3, none⟩ = some (.int .i64 qd)) ∧ w'.cell? ⟨w1.heap.size, 1, none⟩ = some (.slice (some ⟨g4, 0, none⟩) HH.length ucap) ∧ w'.cell? ⟨w6.heap.size, 0, none⟩ = some (.int .i64 BX.lo.x) ∧ w'.cell? ⟨w6.heap.size, 1, none⟩ = some (.int .i64 BX.lo.y))
                          ((refine ⟨⟨⟨?_, ?_⟩, ?_, ?_⟩, ?_, ?_, ?_⟩ <;> (repeat (first | (with_reducible assumption) | (refine cell_set_other ?_ nXg) | (refine cell_set_other ?_ nLg) | (refine cell_set_other ?_ nBg) | (refine cell_below ?_ hbl) | (refine cell_below ?_ hbh)))))
                          (first
                            | ((with_reducible refine (HLO.out _).mono ?_); rintro r wl ⟨rfl, hbl⟩; (try dsimp only); (first | (have kgl := kH9.belowS hbl; have hbz := hbl) | (have kgl := kgh.belowS hbl; have hbz := hbh.trans (hbl.mono hbh.size))); have hky := kgl; have e0 := (kgl.cell (t * 4)).trans (Array.getElem?_eq_getElem (by omega)); have e1 := (kgl.cell (t * 4 + 1)).trans (Array.getElem?_eq_getElem (by omega)); have e2 := (kgl.cell (t * 4 + 2)).trans (Array.getElem?_eq_getElem (by omega)); have e3 := (kgl.cell (t * 4 + 3)).trans (Array.getElem?_eq_getElem (by omega)); have e5 := kgl.frozen (t * 4); have e6 := kgl.frozen (t * 4 + 1); have e7 := kgl.frozen (t * 4 + 2); have e8 := kgl.frozen (t * 4 + 3))
                            | ((with_reducible refine (HHI.out _).mono ?_); rintro r wh ⟨rfl, hbh⟩; (try dsimp only); (first | (have kgh := kH9.belowS hbh; have hbz := hbh) | (have kgh := kgl.belowS hbh; have hbz := hbl.trans (hbh.mono hbl.size))); have hky := kgh; have e0 := (kgh.cell (t * 4)).trans (Array.getElem?_eq_getElem (by omega)); have e1 := (kgh.cell (t * 4 + 1)).trans (Array.getElem?_eq_getElem (by omega)); have e2 := (kgh.cell (t * 4 + 2)).trans (Array.getElem?_eq_getElem (by omega)); have e3 := (kgh.cell (t * 4 + 3)).trans (Array.getElem?_eq_getElem (by omega)); have e5 := kgh.frozen (t * 4); have e6 := kgh.frozen (t * 4 + 1); have e7 := kgh.frozen (t * 4 + 2); have e8 := kgh.frozen (t * 4 + 3)))
                        all_goals
                          have hK9 := (((hkp.belowT hS8 hbx).belowT hS8 hdr).belowT hS8 hbz)
                          have hB11 := hB10.drew.trans (hbz.mono hB10.drew.size)
                          clear x0 x1 x2 x3 v1 b0 b1
                          go_wp2_with fail
                          have hno : ¬ (g4 < w8.heap.size ∧ ∀ g5, some (⟨g4, 0, none⟩ : Addr) = some ⟨g5, 0, none⟩ → w3.heap.size ≤ g5 → g4 ≠ g5) := fun h => h.2 g4 rfl hg4 rfl
                          refine ⟨⟨t + 1, by omega, by simp, .inr ⟨g4, _, rfl, hg4, hg48, (((hky.set (t * 4) (.int .i64 (subP BX.lo ⟨qa, qb⟩).x)).set (t * 4 + 1) (.int .i64 (subP BX.lo ⟨qa, qb⟩).y)).set (t * 4 + 2) (.int .i64 (subP BX.lo ⟨qc, qd⟩).x)).set (t * 4 + 3) (.int .i64 (subP BX.lo ⟨qc, qd⟩).y), hc4, hc4', ?_⟩,
                            (((hK9.setCell (p := ⟨g4, t * 4, none⟩) hno _).setCell (p := ⟨g4, t * 4 + 1, none⟩) hno _).setCell (p := ⟨g4, t * 4 + 2, none⟩) hno _).setCell (p := ⟨g4, t * 4 + 3, none⟩) hno _,
                            (((hB11.setCell (p := ⟨g4, t * 4, none⟩) (by simp; omega) _).setCell (p := ⟨g4, t * 4 + 1, none⟩) (by simp; omega) _).setCell (p := ⟨g4, t * 4 + 2, none⟩) (by simp; omega) _).setCell (p := ⟨g4, t * 4 + 3, none⟩) (by simp; omega) _⟩, by simp [intOf]; omega⟩
                          refine row_set (f := cellsB) (fun _ => rfl) HRW.out (j := t) (x := subB BX.lo ⟨⟨qa, qb⟩, ⟨qc, qd⟩⟩) (by rw [mixL_len _ _ htH]; exact hlt) HMS.out (by simp) (fun c hc => ?_) (fun k c hk hc => ?_)
                          · match c, hc with
                            | 0, _ => rw [Array.getElem?_setIfInBounds_ne (by omega), Array.getElem?_setIfInBounds_ne (by omega), Array.getElem?_setIfInBounds_ne (by omega), Nat.add_zero, Array.getElem?_setIfInBounds_self_of_lt (by omega)]; rfl
                            | 1, _ => rw [Array.getElem?_setIfInBounds_ne (by omega), Array.getElem?_setIfInBounds_ne (by omega), Array.getElem?_setIfInBounds_self_of_lt (by simp; omega)]; rfl
                            | 2, _ => rw [Array.getElem?_setIfInBounds_ne (by omega), Array.getElem?_setIfInBounds_self_of_lt (by simp; omega)]; rfl
                            | 3, _ => rw [Array.getElem?_setIfInBounds_self_of_lt (by simp; omega)]; rfl
                          · rw [Array.getElem?_setIfInBounds_ne (by omega), Array.getElem?_setIfInBounds_ne (by omega), Array.getElem?_setIfInBounds_ne (by omega), Array.getElem?_setIfInBounds_ne (by omega)]
                      · obtain rfl : t = HH.length := by omega
                        have nA : ∀ g4, ua = some ⟨g4, 0, none⟩ → w3.heap.size ≤ g4 → w.heap.size + 1 ≠ g4 := fun g4 _ h => by omega
                        have nG : ∀ g4, ua = some ⟨g4, 0, none⟩ → w3.heap.size ≤ g4 → g ≠ g4 := fun g4 _ h => by omega
                        have kA9 : Blk wr (w.heap.size + 1) #[.slice none 0 0, .slice none 0 0] 61 := (hkp.block _ ⟨lA8, nA⟩).trans kA8
                        have kG9 : Blk wr g cur1 68 := (hkp.block _ ⟨lG8, nG⟩).trans kG8
                        have v0 := kL9.cell 0
                        have v1 := kL9.cell 1
                        have a0 := kA9.cell 0
                        have a1 := kA9.cell 1
                        have a2 := kA9.frozen 0
                        have a3 := kA9.frozen 1
                        simp only [List.getElem?_toArray, List.getElem?_cons_zero, List.getElem?_cons_succ] at v0 v1 a0 a1
                        have k2 := (kA9.set 0 (.slice (some ⟨g, 0, none⟩) cs.length cap)).set 1 (.slice ua HH.length ucap)
                        have z0 := k2.cell 0
                        have z1 := k2.cell 1
                        simp only [List.setIfInBounds_toArray, List.set_cons_zero, List.set_cons_succ, List.getElem?_toArray, List.getElem?_cons_zero, List.getElem?_cons_succ] at z0 z1
                        clear k2
                        have HRO := Lib.hid hrows
                        clear hrows
                        go_wp2_with fail
                        refine bodyPost_ret (v := .tuple #[.agg #[.slice (some ⟨g, 0, none⟩) cs.length cap, .slice ua HH.length ucap], .int .i64 0]) (by simp [results, Try.results52, go_sem, z0, z1]) rfl ⟨(hB9.setCell (by simp) _).setCell (by simp) _, ?_⟩
                        rw [if_neg (by rw [HWT.out]; simp)]
                        refine ⟨_, _, rfl, ⟨?_, fun b hb => by cases hb; show w.heap.size ≤ g; omega⟩, ?_, ?_⟩
                        · have hkf := (kG9.other (B' := w.heap.size + 1) (i := 0) (by omega) (.slice (some ⟨g, 0, none⟩) cs.length cap)).other (B' := w.heap.size + 1) (i := 1) (by omega) (.slice ua HH.length ucap)
                          have h := pts_of_row hkf (by rw [List.length_map, HQL.out]; exact hcap) hcap' HRF.out
                          rw [List.length_map, HQL.out] at h
                          rw [HOU.out]
                          exact h
                        · rw [HHO.out]
                          rcases HRO.out with ⟨rfl, rfl, rfl⟩ | ⟨g4, cur4, rfl, hg4, hg48, kH, hc4, hc4', hrw⟩
                          · exact .inl ⟨rfl, rfl⟩
                          · rw [mixL_all] at hrw
                            have hkf := (kH.other (B' := w.heap.size + 1) (i := 0) (by omega) (.slice (some ⟨g, 0, none⟩) cs.length cap)).other (B' := w.heap.size + 1) (i := 1) (by omega) (.slice (some ⟨g4, 0, none⟩) HH.length ucap)
                            have h := bxs_of_row hkf (by rw [List.length_map]; exact hc4) hc4' hrw
                            rw [List.length_map] at h
                            exact h
                        · intro b hb
                          rcases HRO.out with ⟨rfl, rfl, rfl⟩ | ⟨g4, cur4, rfl, hg4, _⟩
                          · cases hb
                          · cases hb
                            show w.heap.size ≤ g4
                            omega
end Go.Proofs.Ytpheaomlphggfaa
