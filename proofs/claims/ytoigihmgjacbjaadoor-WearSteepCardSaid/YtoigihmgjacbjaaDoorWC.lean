/- The range over the sides of an outline (plane.Around): its iterator's contract, and the law of a loop over it. No condition. -/
import Derived.Test.YtoigihmgjacbjaaDoorWE
import Derived.RangeFuncNested

set_option linter.unusedSimpArgs false
namespace Go.Proofs.YtoigihmgjacbjaaDoor
section
open Go.RowKit Go.Shelf
attribute [local go_sem] Oper.semAt_some

theorem around_any (a : Option Addr) (len cap : Nat) (w : World) :
    Calls Tryd.prog 92 #[.slice a len cap] w fun e w' => e = .returned (.func (.func 99) #[] #[.pointer (some ⟨w.heap.size, 0, none⟩)]) ∧ w' = w.alloc (.cells #[.slice a len cap] 22) := by
  go_enter Tryd.func92, Tryd.ntmps92
  go_wp2
  go_ret
  exact ⟨rfl, rfl⟩

theorem yield_bool {e : Ending} {A B : Prop} (h : (e = .returned (.bool true) ∧ A) ∨ (e = .returned (.bool false) ∧ B)) : ∃ bb : Bool, e = .returned (.bool bb) ∧ ((bb = true ∧ A) ∨ (bb = false ∧ B)) := by
  rcases h with ⟨h1, h2⟩ | ⟨h1, h2⟩
  · exact ⟨true, h1, .inl ⟨rfl, h2⟩⟩
  · exact ⟨false, h1, .inr ⟨rfl, h2⟩⟩
/-- What the iterator hands over at corner k. -/
def encP (l : List Pnt) (k : Fin l.length) : Array Value :=
  #[.agg #[.int .i64 (edgN l k.1).a.x, .int .i64 (edgN l k.1).a.y], .agg #[.int .i64 (edgN l k.1).b.x, .int .i64 (edgN l k.1).b.y]]


set_option maxRecDepth 100000 in
set_option maxHeartbeats 8000000 in
theorem around1_in (n : Nat) (hn : 1 ≤ n) (L Bs b off cap : Nat) (S : Nat → Prop) (l : List Pnt) (hl : l.length ≤ 1000) (hb : S b) (hBn : S Bs) (J Jx : List (Fin l.length) → World → Prop)
    (hY : ∀ pre x W, J pre W → pre.length < l.length → YieldAt Fence.wide (n - 1) Tryd.prog L (encP l x) W fun e W' =>
      (e = .returned (.bool true) ∧ J (pre ++ [x]) W' ∧ Keeps S W W') ∨ (e = .returned (.bool false) ∧ Jx (pre ++ [x]) W'))
    (hJ : ∀ pre A B, J pre A → Below A.heap.size A B → J pre B)
    (W : World) (hS : ∀ k, S k → k < W.heap.size) (hBs : W.cell? ⟨Bs, 0, none⟩ = some (.slice (some ⟨b, off, none⟩) l.length cap)) (hc : PtsAt W b off l) (h0 : J [] W) :
    CallsIn Fence.wide n Tryd.prog 99 #[.func (.yield L) #[] #[], .pointer (some ⟨Bs, 0, none⟩)] W fun e W' => (∃ v, e = .returned v) ∧
      ((∃ ys, ys = List.finRange l.length ∧ J ys W') ∨ (∃ pre, (∃ k, k ≤ l.length ∧ pre = (List.finRange l.length).take k) ∧ Jx pre W')) := by
  refine callsIn_of_wp Tryd.func99 rfl trivial ?_ rfl
  simp only [Tryd.ntmps99, List.size_toArray, List.length_cons, List.length_nil, Nat.reduceAdd, Nat.reduceSub, Array.replicate_succ, Array.replicate_zero, List.push_toArray, List.append_toArray, List.nil_append, List.cons_append]
  gi_wp2
  gi_loopw [3, 4, 7] (fun _ _ i wr => ∃ k : Nat, k ≤ l.length ∧ i = .int .i64 k ∧ J ((List.finRange l.length).take k) wr ∧ Keeps S W wr)
    (fun _ _ i _ => l.length - (intOf i).toNat)
  case atStart => exact ⟨0, Nat.zero_le _, rfl, h0, Keeps.refl _ _⟩
  case round =>
    obtain ⟨k, hk, rfl, hJs, hnx⟩ := hrel
    have hbs := (hnx.cell (p := ⟨Bs, 0, none⟩) hBn).trans hBs
    by_cases hlt : k < l.length
    · have hcr := hc.keeps hnx hb
      have hk2 : (k + 1) % l.length < l.length := Nat.mod_lt _ (by omega)
      have e1 : l[k]? = some (edgN l k).a := by simp [edgN, hlt]
      have e2 : l[(k + 1) % l.length]? = some (edgN l k).b := by simp [edgN, hk2]
      obtain ⟨p0, p1⟩ := hcr _ _ e1
      obtain ⟨q0, q1⟩ := hcr _ _ e2
      have hmod : ((k : Int) + 1).tmod (l.length : Int) = (((k + 1) % l.length : Nat) : Int) := by
        rw [Int.tmod_eq_emod_of_nonneg (by omega)]
        push_cast
        rfl
      have hwk : IntKind.i64.wrap ((k : Int) + 1) = (k : Int) + 1 := by rw [IntKind.wrap_i64]; omega
      obtain ⟨m, hm⟩ : ∃ m, (k + 1) % l.length = m := ⟨_, rfl⟩
      rw [hm] at hmod q0 q1 hk2
      clear e1 e2 hm
      have hkl : (k : Int) < (l.length : Int) := by omega
      have hml : (m : Int) < (l.length : Int) := by omega
      have hn0 : ¬ (l.length : Int) = 0 := by omega
      have hn0' : ((l.length : Int) == 0) = false := by rw [beq_eq_false_iff_ne]; omega
      have hn1 : ¬ l = [] := fun e => by rw [e] at hlt; simp at hlt
      have hn2 : ¬ l.length = 0 := by omega
      have hbl : b < wr.heap.size := World.block_lt_of_cell? _ _ p0
      have hbB : Bs < wr.heap.size := World.block_lt_of_cell? _ _ hbs
      obtain ⟨fn, tmps, assign, body, hy, hR⟩ := hY _ ⟨k, hlt⟩ ((wr.alloc (.cells #[.int .i64 (edgN l k).a.x, .int .i64 (edgN l k).a.y] 45)).drew) (hJ _ _ _ hJs (((Below.refl _ wr).alloc (Nat.le_refl _) _).drew)) (by simp [List.length_take]; omega)
      dsimp only [encP] at hy
      generalize (edgN l k).a = pa at *
      generalize (edgN l k).b = pb at *
      gi_wp2_with fail
      gi_region_with (refine hR.mono ?_; rintro e W3 h; obtain ⟨bb, rfl, hh⟩ := yield_bool h; have HH := Lib.hid hh; clear hh h)
      all_goals
        have hkp : Keeps S W ((wr.alloc (.cells #[.int .i64 pa.x, .int .i64 pa.y] 45)).drew) := hnx.trans (Keeps.of_below (((Below.refl _ wr).alloc (Nat.le_refl _) _).drew) (hnx.lt hS))
        cases bb with
        | true =>
          obtain ⟨hJ3, hk3⟩ : J ((List.finRange l.length).take k ++ [⟨k, hlt⟩]) W3 ∧ Keeps S ((wr.alloc (.cells #[.int .i64 pa.x, .int .i64 pa.y] 45)).drew) W3 := by
            rcases HH.out with ⟨_, h⟩ | ⟨h, _⟩
            · exact h
            · cases h
          clear HH
          gi_wp2
          go_roundw
          case rel => exact ⟨k + 1, by omega, by simp [hwk], by rw [fin_take_succ _ _ hlt]; exact hJ3, hkp.trans hk3⟩
          case measure => simp [intOf]; omega
        | false =>
          have hJx3 : Jx ((List.finRange l.length).take k ++ [⟨k, hlt⟩]) W3 := by
            rcases HH.out with ⟨h, _⟩ | ⟨_, h⟩
            · cases h
            · exact h
          clear HH
          gi_wp2
          refine bodyPost_ret (results_none rfl _ _ _) rfl ?_
          exact ⟨⟨_, rfl⟩, .inr ⟨_, ⟨k + 1, by omega, (fin_take_succ _ _ hlt).symm⟩, hJx3⟩⟩
    · obtain rfl : k = l.length := by omega
      gi_wp2
      go_end0
      exact ⟨⟨_, rfl⟩, .inl ⟨_, by rw [List.take_of_length_le (by simp)], hJs⟩⟩

set_option maxRecDepth 100000 in
set_option maxHeartbeats 1000000 in
theorem around1_nil_in (n : Nat) (L Bs : Nat) (sa : Option Addr) (sc : Nat) {α : Type} (J : List α → World → Prop) (W : World) (hBs : W.cell? ⟨Bs, 0, none⟩ = some (.slice sa 0 sc)) (h0 : J [] W) :
    CallsIn Fence.wide n Tryd.prog 99 #[.func (.yield L) #[] #[], .pointer (some ⟨Bs, 0, none⟩)] W fun e W' => (∃ v, e = .returned v) ∧ J [] W' := by
  refine callsIn_of_wp Tryd.func99 rfl trivial ?_ rfl
  simp only [Tryd.ntmps99, List.size_toArray, List.length_cons, List.length_nil, Nat.reduceAdd, Nat.reduceSub, Array.replicate_succ, Array.replicate_zero, List.push_toArray, List.append_toArray, List.nil_append, List.cons_append]
  gi_wp2
  gi_loopw [3, 4, 7] (fun _ _ i wr => i = .int .i64 0 ∧ J [] wr) (fun _ _ _ _ => 0)
  case atStart => exact ⟨rfl, h0⟩
  case round =>
    obtain ⟨rfl, hJs⟩ := hrel
    gi_wp2
    go_end0
    exact ⟨⟨_, rfl⟩, hJs⟩

/-- The range over an outline's edges keeps its word to every loop body that keeps the outline's blocks. -/
theorem around_stops (n : Nat) (hn : 1 ≤ n) (Bs : Nat) (S : Nat → Prop) (sv : Value) (l : List Pnt) (hl : l.length ≤ 1000) (w : World) (hBs : S Bs) (hS : ∀ k, S k → k < w.heap.size)
    (hc : w.cell? ⟨Bs, 0, none⟩ = some sv) (hI : ((∃ a c, sv = .slice a 0 c) ∧ l = []) ∨ ∃ b off cap, sv = .slice (some ⟨b, off, none⟩) l.length cap ∧ S b ∧ PtsAt w b off l) :
    SeqStopsK Fence.wide n Tryd.prog 99 #[.pointer (some ⟨Bs, 0, none⟩)] (encP l) (Keeps S) (fun ys => ys = List.finRange l.length)
      (fun pre => ∃ k, k ≤ l.length ∧ pre = (List.finRange l.length).take k) l.length w := fun L J Jx W hW hJ _ hY h0 => by
  have hW' := Keeps.of_below hW hS
  have hc' := (hW'.cell (p := ⟨Bs, 0, none⟩) hBs).trans hc
  rcases hI with ⟨⟨sa, sc, rfl⟩, rfl⟩ | ⟨b, off, cap, rfl, hb, hcs⟩
  · exact (around1_nil_in n L Bs sa sc J W hc' h0).mono fun e W' ⟨he, hj⟩ => ⟨he, .inl ⟨_, by simp, hj⟩⟩
  · exact around1_in n hn L Bs b off cap S l hl hb hBs J Jx hY
      (fun pre A B hs hb' => hJ pre A B none hs ⟨hb'.os, hb'.tape, hb'.output, hb'.size, fun k hk _ => hb'.block k hk⟩ (fun r e => by cases e))
      W (hW'.lt hS) hc' (hcs.keeps hW' hb) h0

end
end Go.Proofs.YtoigihmgjacbjaaDoor
