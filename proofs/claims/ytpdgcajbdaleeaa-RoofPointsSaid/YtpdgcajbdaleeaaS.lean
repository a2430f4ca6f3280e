/- How a face is seen by somebody who looks up it: ownMeasure and its four functions; seen; lowestTerms. -/
import Derived.Test.YtpdgcajbdaleeaaR
import Derived.Laws.EntriesVeiled
namespace Go.Proofs.Ytpdgcajbdaleeaa
open Go.RowKit

/-- A point in the own measure of a side. -/
def ownU (s : Int) (p : Pnt) : Int := if s = 1 then p.x else if s = 2 then p.y else if s = 3 then -p.x else -p.y
def ownV (s : Int) (p : Pnt) : Int := if s = 1 then p.y else if s = 2 then -p.x else if s = 3 then -p.y else p.x

theorem own1_any (p : Pnt) (hp : -1000000 ≤ p.x ∧ p.x ≤ 1000000) (hp' : -1000000 ≤ p.y ∧ p.y ≤ 1000000) (w : World) : Calls Try.prog 94 #[.agg #[.int .i64 p.x, .int .i64 p.y]] w fun e w' => e = .returned (.agg #[.int .i64 (p.x), .int .i64 (p.y)]) ∧ Below w.heap.size w w' := by
  obtain ⟨h1, h2⟩ := hp
  obtain ⟨h3, h4⟩ := hp'
  go_enter Try.func94, Try.ntmps94
  go_wp2
  exact bodyPost_ret (v := .agg #[.int .i64 (p.x), .int .i64 (p.y)]) (by simp [results, Try.results94, go_sem]) rfl ⟨rfl, ((Below.refl _ _).alloc (Nat.le_refl _) _).alloc (by simp) _⟩
theorem ownMeasure1_any (w : World) : Calls Try.prog 57 #[.int .i64 1] w fun e w' => e = .returned (.func (.func 94) #[] #[]) ∧ Below w.heap.size w w' := by
  go_enter Try.func57, Try.ntmps57
  go_wp2
  go_ret
  exact ⟨rfl, (Below.refl _ _).alloc (Nat.le_refl _) _⟩
theorem own2_any (p : Pnt) (hp : -1000000 ≤ p.x ∧ p.x ≤ 1000000) (hp' : -1000000 ≤ p.y ∧ p.y ≤ 1000000) (w : World) : Calls Try.prog 95 #[.agg #[.int .i64 p.x, .int .i64 p.y]] w fun e w' => e = .returned (.agg #[.int .i64 (p.y), .int .i64 (-p.x)]) ∧ Below w.heap.size w w' := by
  obtain ⟨h1, h2⟩ := hp
  obtain ⟨h3, h4⟩ := hp'
  go_enter Try.func95, Try.ntmps95
  go_wp2
  exact bodyPost_ret (v := .agg #[.int .i64 (p.y), .int .i64 (-p.x)]) (by simp [results, Try.results95, go_sem]) rfl ⟨rfl, ((Below.refl _ _).alloc (Nat.le_refl _) _).alloc (by simp) _⟩
theorem ownMeasure2_any (w : World) : Calls Try.prog 57 #[.int .i64 2] w fun e w' => e = .returned (.func (.func 95) #[] #[]) ∧ Below w.heap.size w w' := by
  go_enter Try.func57, Try.ntmps57
  go_wp2
  go_ret
  exact ⟨rfl, (Below.refl _ _).alloc (Nat.le_refl _) _⟩
theorem own3_any (p : Pnt) (hp : -1000000 ≤ p.x ∧ p.x ≤ 1000000) (hp' : -1000000 ≤ p.y ∧ p.y ≤ 1000000) (w : World) : Calls Try.prog 96 #[.agg #[.int .i64 p.x, .int .i64 p.y]] w fun e w' => e = .returned (.agg #[.int .i64 (-p.x), .int .i64 (-p.y)]) ∧ Below w.heap.size w w' := by
  obtain ⟨h1, h2⟩ := hp
  obtain ⟨h3, h4⟩ := hp'
  go_enter Try.func96, Try.ntmps96
  go_wp2
  exact bodyPost_ret (v := .agg #[.int .i64 (-p.x), .int .i64 (-p.y)]) (by simp [results, Try.results96, go_sem]) rfl ⟨rfl, ((Below.refl _ _).alloc (Nat.le_refl _) _).alloc (by simp) _⟩
theorem ownMeasure3_any (w : World) : Calls Try.prog 57 #[.int .i64 3] w fun e w' => e = .returned (.func (.func 96) #[] #[]) ∧ Below w.heap.size w w' := by
  go_enter Try.func57, Try.ntmps57
  go_wp2
  go_ret
  exact ⟨rfl, (Below.refl _ _).alloc (Nat.le_refl _) _⟩
theorem own4_any (p : Pnt) (hp : -1000000 ≤ p.x ∧ p.x ≤ 1000000) (hp' : -1000000 ≤ p.y ∧ p.y ≤ 1000000) (w : World) : Calls Try.prog 97 #[.agg #[.int .i64 p.x, .int .i64 p.y]] w fun e w' => e = .returned (.agg #[.int .i64 (-p.y), .int .i64 (p.x)]) ∧ Below w.heap.size w w' := by
  obtain ⟨h1, h2⟩ := hp
  obtain ⟨h3, h4⟩ := hp'
  go_enter Try.func97, Try.ntmps97
  go_wp2
  exact bodyPost_ret (v := .agg #[.int .i64 (-p.y), .int .i64 (p.x)]) (by simp [results, Try.results97, go_sem]) rfl ⟨rfl, ((Below.refl _ _).alloc (Nat.le_refl _) _).alloc (by simp) _⟩
theorem ownMeasure4_any (w : World) : Calls Try.prog 57 #[.int .i64 4] w fun e w' => e = .returned (.func (.func 97) #[] #[]) ∧ Below w.heap.size w w' := by
  go_enter Try.func57, Try.ntmps57
  go_wp2
  go_ret
  exact ⟨rfl, (Below.refl _ _).alloc (Nat.le_refl _) _⟩

/-- The greatest common divisor's quotients. -/
def lowN (n d : Int) : Int := n / (Int.gcd n d : Int)
def lowD (n d : Int) : Int := d / (Int.gcd n d : Int)

set_option maxRecDepth 100000 in
set_option maxHeartbeats 1000000 in
theorem lowest_any (n d : Int) (hn : -1000000000 ≤ n) (hn' : n ≤ 1000000000) (hd : 1 ≤ d) (hd' : d ≤ 1000000000) (w : World) :
    Calls Try.prog 58 #[.int .i64 n, .int .i64 d] w fun e w' => e = .returned (.agg #[.int .i64 (lowN n d), .int .i64 (lowD n d)]) ∧ Below w.heap.size w w' := by
  have hB : Below w.heap.size w (w.alloc (.cells #[.int .i64 0, .int .i64 0] 31)) := (Below.refl _ _).alloc (Nat.le_refl _) _
  have hbk : Blk (w.alloc (.cells #[.int .i64 0, .int .i64 0] 31)) w.heap.size #[.int .i64 0, .int .i64 0] 31 := Blk.new _ _ _
  have hloop : ∀ (a b : Nat), a ≤ 1000000000 → b ≤ 1000000000 → Nat.gcd a b = Int.gcd n d → b = 0 → a = Int.gcd n d := by
    intro a b _ _ h hb
    subst hb
    simpa using h
  have hgpos : 0 < Int.gcd n d := Int.gcd_pos_of_ne_zero_right n (by omega)
  have hgd : (Int.gcd n d : Int) ∣ n := Int.gcd_dvd_left ..
  have htd : n.tdiv (Int.gcd n d : Int) = n / (Int.gcd n d : Int) := Int.tdiv_eq_ediv_of_dvd hgd
  have hle : (Int.gcd n d : Int) ≤ 1000000000 := by
    have := Int.le_of_dvd (by omega) (Int.gcd_dvd_right n d)
    omega
  have HL := Lib.hid hloop
  have HD := Lib.hid htd
  clear hloop htd hgd
  have hg0 : Nat.gcd n.natAbs d.natAbs = Int.gcd n d := rfl
  have HG := Lib.hid hg0
  clear hg0
  rcases (show n < 0 ∨ 0 ≤ n by omega) with h0 | h0
  all_goals
    go_enter Try.func58, Try.ntmps58
    go_wp2_with fail
    go_loopw [5, 6] (fun x y wr => ∃ a b : Nat, a ≤ 1000000000 ∧ b ≤ 1000000000 ∧ x = .int .i64 a ∧ y = .int .i64 b ∧ Nat.gcd a b = Int.gcd n d ∧ Blk wr w.heap.size #[.int .i64 0, .int .i64 0] 31 ∧ Below w.heap.size w wr) (fun _ y _ => (intOf y).toNat)
    case atStart => exact ⟨n.natAbs, d.natAbs, by omega, by omega, by congr 1; omega, by congr 1; omega, HG.out, hbk, hB⟩
    case round =>
      obtain ⟨a, b, ha, hb, rfl, rfl, hg, g1, g2⟩ := hrel
      by_cases hb0 : b = 0
      · have hag : a = Int.gcd n d := HL.out a b ha hb hg hb0
        subst hb0
        clear hg
        subst hag
        have t0 := g1.cell 0
        have t1 := g1.cell 1
        have t2 := g1.frozen 0
        have t3 := g1.frozen 1
        have t4 := g1.lt
        simp only [List.getElem?_toArray, List.getElem?_cons_zero, List.getElem?_cons_succ] at t0 t1
        generalize hG : Int.gcd n d = G at *
        have HGG := Lib.hid hG
        clear hG
        have hG1 : (1 : Int) ≤ (G : Int) := by omega
        have hz : ((0 : Int) == 0) = true := rfl
        go_wp2_with fail
        go_region
        all_goals go_wp2
        all_goals
          have hq := HD.out
          first
            | (refine bodyPost_ret (v := .agg #[.int .i64 (n.tdiv (G : Int)), .int .i64 (d / (G : Int))]) ?_ rfl ⟨by rw [hq, lowN, lowD, HGG.out], ((g2.setCell (p := ⟨w.heap.size, 0, none⟩) (Nat.le_refl _) _).setCell (p := ⟨w.heap.size, 1, none⟩) (Nat.le_refl _) _).drew⟩
               have r0 := ((g1.set 0 (.int .i64 (n.tdiv (G : Int)))).set 1 (.int .i64 (d / (G : Int)))).cell 0
               have r1 := ((g1.set 0 (.int .i64 (n.tdiv (G : Int)))).set 1 (.int .i64 (d / (G : Int)))).cell 1
               simp at r0 r1
               simp [results, Try.results58, go_sem, r0, r1]
               done)
            | (refine bodyPost_ret (v := .agg #[.int .i64 (n / (G : Int)), .int .i64 (d / (G : Int))]) ?_ rfl ⟨by rw [lowN, lowD, HGG.out], ((g2.setCell (p := ⟨w.heap.size, 0, none⟩) (Nat.le_refl _) _).setCell (p := ⟨w.heap.size, 1, none⟩) (Nat.le_refl _) _).drew⟩
               have r0 := ((g1.set 0 (.int .i64 (n / (G : Int)))).set 1 (.int .i64 (d / (G : Int)))).cell 0
               have r1 := ((g1.set 0 (.int .i64 (n / (G : Int)))).set 1 (.int .i64 (d / (G : Int)))).cell 1
               simp at r0 r1
               simp [results, Try.results58, go_sem, r0, r1])
      · have hb1 : (1 : Int) ≤ (b : Int) := by omega
        have hz : ((b : Int) == 0) = false := by simp [hb0]
        have hz' : ((b : Int) != 0) = true := by simp [hb0]
        have hgm : Nat.gcd b (a % b) = Int.gcd n d := by rw [← hg, Nat.gcd_comm b (a % b), ← Nat.gcd_rec b a]; exact Nat.gcd_comm b a
        have hml : a % b < b := Nat.mod_lt _ (by omega)
        have hm0 : (0 : Int) ≤ (a : Int) % (b : Int) := Int.emod_nonneg _ (by omega)
        have hm1 : (a : Int) % (b : Int) < (b : Int) := Int.emod_lt_of_pos _ (by omega)
        have HM := Lib.hid hgm
        have HML := Lib.hid hml
        clear hg hgm hb0 hml
        go_wp2_with fail
        go_region
        all_goals go_wp2
        all_goals exact ⟨⟨b, a % b, hb, by omega, rfl, by congr 1, HM.out, g1, g2.drew⟩, by have := HML.out; simp [intOf]; omega⟩
end Go.Proofs.Ytpdgcajbdaleeaa
