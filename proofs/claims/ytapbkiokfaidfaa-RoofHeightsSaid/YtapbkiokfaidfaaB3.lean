/- The law's own lists of edges: edges, edge. -/
import Derived.Test.YtapbkiokfaidfaaB2
import Derived.Test.YtapbkiokfaidfaaZT
namespace Go.Proofs.Ytapbkiokfaidfaa
open Go.RowKit

theorem IsEds.shape {w : World} {v : Value} {l : List EdR} (h : IsEds w v l) : ∃ a cap, v = .slice a l.length cap ∧ l.length ≤ cap ∧ cap ≤ 9223372036854775807 ∧
    ∀ (j : Nat) (x : EdR), l[j]? = some x → ∃ g, a = some ⟨g, 0, none⟩ ∧ g < w.heap.size ∧ EdAt w g (j * 5) x := by
  rcases h with ⟨rfl, rfl⟩ | ⟨g, cap, rfl, h2, h3, h4, h5⟩
  · exact ⟨none, 0, rfl, Nat.le_refl _, by omega, fun j x hx => by simp at hx⟩
  · exact ⟨some ⟨g, 0, none⟩, cap, rfl, h3, h4, fun j x hx => ⟨g, rfl, h2, h5 j x hx⟩⟩

theorem edgR_face (fs : List Fac) (i : Nat) (f : Fac) (n : Nat) : (edgR fs i f n).face = i := by unfold edgR; split <;> rfl
theorem edgR_number (fs : List Fac) (i : Nat) (f : Fac) (n : Nat) : (edgR fs i f n).number = n := by unfold edgR; split <;> rfl

/-- What the law's 'edges' returns of a roof that may be. -/
def EdgesLSaid (R : Roo) (w : World) (e : Ending) (w' : World) : Prop :=
  Below w.heap.size w w' ∧ ∃ v, e = .returned (.tuple #[v, .bool true]) ∧ IsEds w' v (allR R.fs R.fs.length)

set_option maxRecDepth 100000 in
set_option maxHeartbeats 4000000 in
theorem edgesL_any (R : Roo) (w : World) (hR : IsRoof w R) (hE : checkE R = 0) :
    Calls Try.prog 16 #[.agg #[.slice R.fa R.fs.length R.fc, .slice R.oa R.os.length R.oc]] w (EdgesLSaid R w) := by
  have hedges := edges_is R
  obtain ⟨fa, fc, fs, oa, oc, os⟩ := R
  simp only [] at hedges
  have hB : Below w.heap.size w (w.alloc (.cells #[.slice fa fs.length fc, .slice oa os.length oc] 25)) := (Below.refl _ _).alloc (Nat.le_refl _) _
  have kR := Blk.new w 25 #[.slice fa fs.length fc, .slice oa os.length oc]
  have HED := Lib.hid hedges
  have HE := Lib.hid hE
  have HR := Lib.hid hR
  clear hR hedges hE
  go_enter Try.func16, Try.ntmps16
  go_wp2_with fail
  refine (HED.out _ (HR.out.below hB)).mono ?_
  rintro e w2 ⟨hb2, hif⟩
  rw [if_neg (by rw [HE.out]; simp)] at hif
  obtain ⟨v, rfl, heds⟩ := hif
  have hB2 := hB.trans (hb2.mono hB.size)
  have kR2 := kR.belowS hb2
  clear kR hB hb2
  have HEDS := Lib.hid heds
  obtain ⟨la, lcap, rfl, hn1, hn2, hn3⟩ := heds.shape
  have hlf := (checkE_faces HE.out).1
  have hokf := (checkE_faces HE.out).2
  have hlen := allR_len (fs := fs) (fun f hf => (hokf f hf).2) fs.length
  simp only [] at hlf hn1 hn3 ⊢ hokf
  have HOK := Lib.hid hokf
  have HN3 := Lib.hid hn3
  generalize hN : (allR fs fs.length).length = N at *
  have HNN := Lib.hid hN
  clear hn3 hN heds hokf
  have c0 := kR2.cell 0
  simp only [List.getElem?_toArray, List.getElem?_cons_zero] at c0
  go_wp2_with fail
  go_loopw [6, 7, 8] (fun at' i _ wr => ∃ j : Nat, j ≤ fs.length ∧ i = .int .i64 j ∧ at' = .int .i64 ((allR fs j).length : Nat) ∧ w2 = wr) (fun _ i _ _ => fs.length - (intOf i).toNat)
  case atStart => exact ⟨0, Nat.zero_le _, rfl, rfl, rfl⟩
  case round =>
    obtain ⟨j, hj, rfl, rfl, rfl⟩ := hrel
    have hRr := HR.out.below hB2
    by_cases hlj : j < fs.length
    · have hq : fs[j]? = some fs[j] := List.getElem?_eq_getElem hlj
      obtain ⟨b, off, rfl, h2, h3, h4, hfa, hfin⟩ := hRr.face hq
      obtain ⟨hokp, hcl⟩ := HOK.out fs[j] (List.getElem_mem hlj)
      have hsucc : (allR fs (j + 1)).length = (allR fs j).length + fs[j].cs.length := by rw [allR_succ hq, List.length_append, rowR_len]
      have hnext : ∀ k, k < fs[j].cs.length → (allR fs fs.length)[(allR fs j).length + k]? = some (edgR fs j fs[j] k) := fun k hk => allR_at hq hk hlj (Nat.le_refl _)
      generalize fs[j] = F at *
      have HNX := Lib.hid hnext
      have HSU := Lib.hid hsucc
      have HFI := Lib.hid hfin
      obtain ⟨d0, d1, d2, d3, d4, d5, d6⟩ := hfa
      clear hnext hsucc hfin hRr hq d0 d1 d2 d3 d4 d5 hokp
      have hj0 : (0 : Int) ≤ (j : Int) := Int.natCast_nonneg _
      have hj1 : (j : Int) < (fs.length : Int) := by omega
      generalize hT : (allR fs j).length = T at *
      have HTT := Lib.hid hT
      clear hT
      go_wp2_with fail
      go_loopw [6, 8] (fun at' k wr => ∃ m : Nat, m ≤ F.cs.length ∧ k = .int .i64 m ∧ at' = .int .i64 ((T + m : Nat) : Int) ∧ w2 = wr) (fun _ k _ => F.cs.length - (intOf k).toNat)
      case atStart => exact ⟨0, Nat.zero_le _, rfl, rfl, rfl⟩
      case round =>
        obtain ⟨m, hm, rfl, rfl, rfl⟩ := hrel
        have hm0 : (0 : Int) ≤ (m : Int) := Int.natCast_nonneg _
        have hm1 : (m : Int) ≤ (F.cs.length : Int) := by omega
        by_cases hlm : m < F.cs.length
        · have hx := HNX.out m hlm
          have htN : T + m < N := by
            have := (List.getElem?_eq_some_iff.1 hx).1
            have := HNN.out
            omega
          obtain ⟨g, rfl, hgl, e0, e1, e2, e3, e4⟩ := HN3.out _ _ hx
          rw [edgR_face] at e0
          rw [edgR_number] at e1
          generalize hS : T + m = S at *
          have HS := Lib.hid hS
          have hs0 : (0 : Int) ≤ (S : Int) := Int.natCast_nonneg _
          have htN' : (S : Int) < (N : Int) := by omega
          clear hx e2 e3 e4 hS
          go_wp2_with fail
          refine ⟨⟨m + 1, by omega, by simp, ?_, trivial⟩, by simp [intOf]; omega⟩
          rw [show T + (m + 1) = S + 1 by have := HS.out; omega]
          rfl
        · obtain rfl : m = F.cs.length := by omega
          go_wp2_with fail
          refine ⟨⟨j + 1, by omega, by simp, ?_, trivial⟩, by simp [intOf]; omega⟩
          rw [HSU.out]
    · obtain rfl : j = fs.length := by omega
      rw [HNN.out]
      go_wp2_with fail
      go_ret2
      exact ⟨hB2, _, rfl, HEDS.out⟩

/-- What the law's 'edge' returns of an edge that there is. -/
def EdgeLSaid (x : EdR) (w : World) (e : Ending) (w' : World) : Prop :=
  Below w.heap.size w w' ∧ e = .returned (.tuple #[.agg #[.int .i64 x.face, .int .i64 x.number, .int .i64 x.kind, .int .i64 x.wth, .int .i64 x.at_], .bool true])

set_option maxRecDepth 100000 in
set_option maxHeartbeats 4000000 in
theorem edgeL_any (R : Roo) (w : World) (hR : IsRoof w R) (hE : checkE R = 0) (g lcap : Nat) (hg : g < w.heap.size) (hl : (allR R.fs R.fs.length).length ≤ lcap)
    (i k : Nat) (f : Fac) (hf : R.fs[i]? = some f) (hk : k < f.cs.length) (hx : EdAt w g (((allR R.fs i).length + k) * 5) (edgR R.fs i f k)) :
    Calls Try.prog 17 #[.agg #[.slice R.fa R.fs.length R.fc, .slice R.oa R.os.length R.oc], .slice (some ⟨g, 0, none⟩) (allR R.fs R.fs.length).length lcap, .int .i64 i, .int .i64 k] w (EdgeLSaid (edgR R.fs i f k) w) := by
  obtain ⟨fa, fc, fs, oa, oc, os⟩ := R
  simp only [] at hf hl hx ⊢
  have hil : i < fs.length := (List.getElem?_eq_some_iff.1 hf).1
  have hB : Below w.heap.size w ((w.alloc (.cells #[.slice fa fs.length fc, .slice oa os.length oc] 25)).alloc (.cells #[.int .i64 0, .int .i64 0, .int .i64 0, .int .i64 0, .int .i64 0] 51)) := ((Below.refl _ _).alloc (Nat.le_refl _) _).alloc (by simp) _
  have kR := (Blk.new w 25 #[.slice fa fs.length fc, .slice oa os.length oc]).alloc (.cells #[.int .i64 0, .int .i64 0, .int .i64 0, .int .i64 0, .int .i64 0] 51)
  have kX := Blk.new (w.alloc (.cells #[.slice fa fs.length fc, .slice oa os.length oc] 25)) 51 #[.int .i64 0, .int .i64 0, .int .i64 0, .int .i64 0, .int .i64 0]
  simp only [World.size_alloc] at kX
  have hcl := ((checkE_faces hE).2 f (List.mem_of_getElem? hf)).2
  have hokc := (checkE_faces hE).2
  have hlf := (checkE_faces hE).1
  have hlen : ∀ j, j ≤ fs.length → (allR fs j).length ≤ 16000 := fun j hj => by
    have := allR_len (fs := fs) (fun f hf => (hokc f hf).2) j
    simp only [] at hlf
    omega
  have hlt : (allR fs i).length + k < (allR fs fs.length).length := (List.getElem?_eq_some_iff.1 (allR_at hf hk hil (Nat.le_refl _))).1
  have hmono : ∀ (j : Nat) F, j < fs.length → fs[j]? = some F → (allR fs (j + 1)).length = (allR fs j).length + F.cs.length := fun j F hj hq => by rw [allR_succ hq, List.length_append, rowR_len]
  obtain ⟨b, off, e1, h2, h3, h4, hfa, hfin⟩ := (hR.below hB).face hf
  simp only [] at e1 h3 h4
  subst e1
  have HR := Lib.hid hR
  have HX := Lib.hid hx
  have HMO := Lib.hid hmono
  have HLE := Lib.hid hlen
  have HOK := Lib.hid hokc
  obtain ⟨d0, d1, d2, d3, d4, d5, d6⟩ := hfa
  clear hR hx hmono hlen hokc hfin d0 d1 d2 d3 d4 d5
  have hi0 : (0 : Int) ≤ (i : Int) := Int.natCast_nonneg _
  have hi1 : (i : Int) < (fs.length : Int) := by omega
  have hk0 : (0 : Int) ≤ (k : Int) := Int.natCast_nonneg _
  have hk1 : (k : Int) < (f.cs.length : Int) := by omega
  simp only [] at hlf
  go_enter Try.func17, Try.ntmps17
  go_wp2_with fail
  go_loopw [3, 10] (fun k' m' wr => ∃ m : Nat, m ≤ i ∧ m' = .int .i64 m ∧ k' = .int .i64 ((k + (allR fs m).length : Nat) : Int) ∧ Blk wr w.heap.size #[.slice (some ⟨b, off, none⟩) fs.length fc, .slice oa os.length oc] 25 ∧
      Blk wr (w.heap.size + 1) #[.int .i64 0, .int .i64 0, .int .i64 0, .int .i64 0, .int .i64 0] 51 ∧ Below w.heap.size w wr) (fun _ m' _ => i - (intOf m').toNat)
  case atStart => exact ⟨0, Nat.zero_le _, rfl, rfl, kR, kX, hB⟩
  case round =>
    clear d6
    obtain ⟨m, hm, rfl, rfl, g1, g2, g3⟩ := hrel
    by_cases hlm : m < i
    · have hq : fs[m]? = some fs[m] := List.getElem?_eq_getElem (by omega)
      obtain ⟨b', off', e1, h2', h3', h4', hfa', _⟩ := (HR.out.below g3).face hq
      simp only [Option.some.injEq, Addr.mk.injEq, and_true] at e1
      obtain ⟨rfl, rfl⟩ := e1
      have hsu := HMO.out m _ (by omega) hq
      have hl1 := HLE.out m (by omega)
      have hcl' := (HOK.out _ (List.getElem_mem (show m < fs.length by omega))).2
      generalize fs[m] = F at *
      obtain ⟨d0, d1, d2, d3, d4, d5, d6⟩ := hfa'
      have c0 := g1.cell 0
      simp only [List.getElem?_toArray, List.getElem?_cons_zero] at c0
      have hm0 : (0 : Int) ≤ (m : Int) := Int.natCast_nonneg _
      have hm1 : (m : Int) < (fs.length : Int) := by omega
      generalize hT : (allR fs m).length = T at *
      have HS := Lib.hid hsu
      clear hsu d0 d1 d2 d3 d4 d5 hq hT
      go_wp2_with fail
      refine ⟨⟨m + 1, by omega, by simp, ?_, g1, g2, g3⟩, by simp [intOf]; omega⟩
      rw [HS.out]
      congr 1
      omega
    · obtain rfl : m = i := by omega
      obtain ⟨e0, e1, e2, e3, e4⟩ := HX.out.below g3 hg
      have hsw : k + (allR fs m).length = (allR fs m).length + k := Nat.add_comm _ _
      rw [hsw]
      generalize (allR fs m).length + k = S at *
      generalize (allR fs fs.length).length = N at *
      have hs0 : (0 : Int) ≤ (S : Int) := Int.natCast_nonneg _
      have hs1 : (S : Int) < (N : Int) := by omega
      have q0 := g2.cell 0
      have q1 := g2.cell 1
      have q2 := g2.cell 2
      have q3 := g2.cell 3
      have q4 := g2.cell 4
      have f0 := g2.frozen 0
      have f1 := g2.frozen 1
      have f2 := g2.frozen 2
      have f3 := g2.frozen 3
      have f4 := g2.frozen 4
      have lq := g2.lt
      simp only [List.getElem?_toArray, List.getElem?_cons_zero, List.getElem?_cons_succ] at q0 q1 q2 q3 q4
      generalize edgR fs m f k = x at *
      clear hsw
      go_wp2_with fail
      have kX2 := ((((g2.set 0 (.int .i64 x.face)).set 1 (.int .i64 x.number)).set 2 (.int .i64 x.kind)).set 3 (.int .i64 x.wth)).set 4 (.int .i64 x.at_)
      have t0 := kX2.cell 0
      have t1 := kX2.cell 1
      have t2 := kX2.cell 2
      have t3 := kX2.cell 3
      have t4 := kX2.cell 4
      simp only [List.setIfInBounds_toArray, List.set_cons_zero, List.set_cons_succ, List.getElem?_toArray, List.getElem?_cons_zero, List.getElem?_cons_succ] at t0 t1 t2 t3 t4
      refine bodyPost_ret (v := .tuple #[.agg #[.int .i64 x.face, .int .i64 x.number, .int .i64 x.kind, .int .i64 x.wth, .int .i64 x.at_], .bool true]) (by simp [results, Try.results17, go_sem, t0, t1, t2, t3, t4]) rfl ⟨?_, rfl⟩
      exact ((((g3.setCell (p := ⟨w.heap.size + 1, 0, none⟩) (by simp) _).setCell (p := ⟨w.heap.size + 1, 1, none⟩) (by simp) _).setCell (p := ⟨w.heap.size + 1, 2, none⟩) (by simp) _).setCell (p := ⟨w.heap.size + 1, 3, none⟩) (by simp) _).setCell (p := ⟨w.heap.size + 1, 4, none⟩) (by simp) _
end Go.Proofs.Ytapbkiokfaidfaa
