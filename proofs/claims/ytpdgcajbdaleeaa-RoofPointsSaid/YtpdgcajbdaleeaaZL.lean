/- The chapter's house in memory, and what is told of it. -/
import Derived.Test.YtpdgcajbdaleeaaZI
namespace Go.Proofs.Ytpdgcajbdaleeaa
open Go.RowKit

def houseS (n : Nat) : Fac := ⟨⟨#[115]⟩, 1, 0, 300, 1, 1, some ⟨n + 1, 0, none⟩, 4, [⟨0, 0⟩, ⟨100, 0⟩, ⟨100, 40⟩, ⟨0, 40⟩]⟩
def houseN (n : Nat) : Fac := ⟨⟨#[110]⟩, 3, 80, 300, 1, 1, some ⟨n + 1 + 1, 0, none⟩, 4, [⟨100, 80⟩, ⟨0, 80⟩, ⟨0, 40⟩, ⟨100, 40⟩]⟩
def houseO : Opn := ⟨⟨#[115, 116, 97, 99, 107]⟩, 0, ⟨10, 10⟩, ⟨20, 30⟩⟩
/-- The house whose blocks begin at n. -/
def houseR (n : Nat) : Roo := ⟨some ⟨n + 1 + 1 + 1, 0, none⟩, 2, [houseS n, houseN n], some ⟨n + 1 + 1 + 1 + 1, 0, none⟩, 1, [houseO]⟩

set_option maxRecDepth 100000 in
theorem house_check (n : Nat) : checkE (houseR n) = 0 := by kernel_rfl
set_option maxRecDepth 100000 in
theorem house_edges (n : Nat) : rowsV (allR (houseR n).fs (houseR n).fs.length) = [.int .i64 0, .int .i64 0, .int .i64 1, .int .i64 (-1), .int .i64 (-1), .int .i64 0, .int .i64 1, .int .i64 2, .int .i64 (-1), .int .i64 (-1),
    .int .i64 0, .int .i64 2, .int .i64 5, .int .i64 1, .int .i64 2, .int .i64 0, .int .i64 3, .int .i64 2, .int .i64 (-1), .int .i64 (-1),
    .int .i64 1, .int .i64 0, .int .i64 1, .int .i64 (-1), .int .i64 (-1), .int .i64 1, .int .i64 1, .int .i64 2, .int .i64 (-1), .int .i64 (-1),
    .int .i64 1, .int .i64 2, .int .i64 5, .int .i64 0, .int .i64 2, .int .i64 1, .int .i64 3, .int .i64 2, .int .i64 (-1), .int .i64 (-1)] := by kernel_rfl
set_option maxRecDepth 100000 in
theorem house_len (n : Nat) : (allR (houseR n).fs (houseR n).fs.length).length = 8 := by kernel_rfl
theorem house_hgt (n : Nat) : hgtN (houseN n) ⟨50, 0⟩ = 380 ∧ hgtD (houseN n) ⟨50, 0⟩ = 1 := ⟨by kernel_rfl, by kernel_rfl⟩

set_option maxRecDepth 100000 in
set_option maxHeartbeats 4000000 in
theorem house_any (w : World) :
    Calls Try.prog 31 #[] w fun e w' => e = .returned (.agg #[.slice (some ⟨w.heap.size + 1 + 1 + 1, 0, none⟩) 2 2, .slice (some ⟨w.heap.size + 1 + 1 + 1 + 1, 0, none⟩) 1 1]) ∧ IsRoof w' (houseR w.heap.size) ∧ Below w.heap.size w w' := by
  have k1 := (((Blk.new (w.alloc (.cells #[.slice (some ⟨w.heap.size + 1 + 1 + 1, 0, none⟩) 2 2, .slice (some ⟨w.heap.size + 1 + 1 + 1 + 1, 0, none⟩) 1 1] 25)) 27 #[.int .i64 0, .int .i64 0, .int .i64 100, .int .i64 0, .int .i64 100, .int .i64 40, .int .i64 0, .int .i64 40]).alloc (.cells #[.int .i64 100, .int .i64 80, .int .i64 0, .int .i64 80, .int .i64 0, .int .i64 40, .int .i64 100, .int .i64 40] 27)).alloc (.cells #[.string ⟨#[115]⟩, .int .i64 1, .int .i64 0, .int .i64 300, .int .i64 1, .int .i64 1, .slice (some ⟨w.heap.size + 1, 0, none⟩) 4 4, .string ⟨#[110]⟩, .int .i64 3, .int .i64 80, .int .i64 300, .int .i64 1, .int .i64 1, .slice (some ⟨w.heap.size + 1 + 1, 0, none⟩) 4 4] 72)).alloc (.cells #[.string ⟨#[115, 116, 97, 99, 107]⟩, .int .i64 0, .int .i64 10, .int .i64 10, .int .i64 20, .int .i64 30] 76)
  have k2 := ((Blk.new ((w.alloc (.cells #[.slice (some ⟨w.heap.size + 1 + 1 + 1, 0, none⟩) 2 2, .slice (some ⟨w.heap.size + 1 + 1 + 1 + 1, 0, none⟩) 1 1] 25)).alloc (.cells #[.int .i64 0, .int .i64 0, .int .i64 100, .int .i64 0, .int .i64 100, .int .i64 40, .int .i64 0, .int .i64 40] 27)) 27 #[.int .i64 100, .int .i64 80, .int .i64 0, .int .i64 80, .int .i64 0, .int .i64 40, .int .i64 100, .int .i64 40]).alloc (.cells #[.string ⟨#[115]⟩, .int .i64 1, .int .i64 0, .int .i64 300, .int .i64 1, .int .i64 1, .slice (some ⟨w.heap.size + 1, 0, none⟩) 4 4, .string ⟨#[110]⟩, .int .i64 3, .int .i64 80, .int .i64 300, .int .i64 1, .int .i64 1, .slice (some ⟨w.heap.size + 1 + 1, 0, none⟩) 4 4] 72)).alloc (.cells #[.string ⟨#[115, 116, 97, 99, 107]⟩, .int .i64 0, .int .i64 10, .int .i64 10, .int .i64 20, .int .i64 30] 76)
  have k3 := (Blk.new (((w.alloc (.cells #[.slice (some ⟨w.heap.size + 1 + 1 + 1, 0, none⟩) 2 2, .slice (some ⟨w.heap.size + 1 + 1 + 1 + 1, 0, none⟩) 1 1] 25)).alloc (.cells #[.int .i64 0, .int .i64 0, .int .i64 100, .int .i64 0, .int .i64 100, .int .i64 40, .int .i64 0, .int .i64 40] 27)).alloc (.cells #[.int .i64 100, .int .i64 80, .int .i64 0, .int .i64 80, .int .i64 0, .int .i64 40, .int .i64 100, .int .i64 40] 27)) 72 #[.string ⟨#[115]⟩, .int .i64 1, .int .i64 0, .int .i64 300, .int .i64 1, .int .i64 1, .slice (some ⟨w.heap.size + 1, 0, none⟩) 4 4, .string ⟨#[110]⟩, .int .i64 3, .int .i64 80, .int .i64 300, .int .i64 1, .int .i64 1, .slice (some ⟨w.heap.size + 1 + 1, 0, none⟩) 4 4]).alloc (.cells #[.string ⟨#[115, 116, 97, 99, 107]⟩, .int .i64 0, .int .i64 10, .int .i64 10, .int .i64 20, .int .i64 30] 76)
  have k4 := Blk.new ((((w.alloc (.cells #[.slice (some ⟨w.heap.size + 1 + 1 + 1, 0, none⟩) 2 2, .slice (some ⟨w.heap.size + 1 + 1 + 1 + 1, 0, none⟩) 1 1] 25)).alloc (.cells #[.int .i64 0, .int .i64 0, .int .i64 100, .int .i64 0, .int .i64 100, .int .i64 40, .int .i64 0, .int .i64 40] 27)).alloc (.cells #[.int .i64 100, .int .i64 80, .int .i64 0, .int .i64 80, .int .i64 0, .int .i64 40, .int .i64 100, .int .i64 40] 27)).alloc (.cells #[.string ⟨#[115]⟩, .int .i64 1, .int .i64 0, .int .i64 300, .int .i64 1, .int .i64 1, .slice (some ⟨w.heap.size + 1, 0, none⟩) 4 4, .string ⟨#[110]⟩, .int .i64 3, .int .i64 80, .int .i64 300, .int .i64 1, .int .i64 1, .slice (some ⟨w.heap.size + 1 + 1, 0, none⟩) 4 4] 72)) 76 #[.string ⟨#[115, 116, 97, 99, 107]⟩, .int .i64 0, .int .i64 10, .int .i64 10, .int .i64 20, .int .i64 30]
  have k0 := ((((Blk.new w 25 #[.slice (some ⟨w.heap.size + 1 + 1 + 1, 0, none⟩) 2 2, .slice (some ⟨w.heap.size + 1 + 1 + 1 + 1, 0, none⟩) 1 1]).alloc (.cells #[.int .i64 0, .int .i64 0, .int .i64 100, .int .i64 0, .int .i64 100, .int .i64 40, .int .i64 0, .int .i64 40] 27)).alloc (.cells #[.int .i64 100, .int .i64 80, .int .i64 0, .int .i64 80, .int .i64 0, .int .i64 40, .int .i64 100, .int .i64 40] 27)).alloc (.cells #[.string ⟨#[115]⟩, .int .i64 1, .int .i64 0, .int .i64 300, .int .i64 1, .int .i64 1, .slice (some ⟨w.heap.size + 1, 0, none⟩) 4 4, .string ⟨#[110]⟩, .int .i64 3, .int .i64 80, .int .i64 300, .int .i64 1, .int .i64 1, .slice (some ⟨w.heap.size + 1 + 1, 0, none⟩) 4 4] 72)).alloc (.cells #[.string ⟨#[115, 116, 97, 99, 107]⟩, .int .i64 0, .int .i64 10, .int .i64 10, .int .i64 20, .int .i64 30] 76)
  have hB : Below w.heap.size w (((((w.alloc (.cells #[.slice (some ⟨w.heap.size + 1 + 1 + 1, 0, none⟩) 2 2, .slice (some ⟨w.heap.size + 1 + 1 + 1 + 1, 0, none⟩) 1 1] 25)).alloc (.cells #[.int .i64 0, .int .i64 0, .int .i64 100, .int .i64 0, .int .i64 100, .int .i64 40, .int .i64 0, .int .i64 40] 27)).alloc (.cells #[.int .i64 100, .int .i64 80, .int .i64 0, .int .i64 80, .int .i64 0, .int .i64 40, .int .i64 100, .int .i64 40] 27)).alloc (.cells #[.string ⟨#[115]⟩, .int .i64 1, .int .i64 0, .int .i64 300, .int .i64 1, .int .i64 1, .slice (some ⟨w.heap.size + 1, 0, none⟩) 4 4, .string ⟨#[110]⟩, .int .i64 3, .int .i64 80, .int .i64 300, .int .i64 1, .int .i64 1, .slice (some ⟨w.heap.size + 1 + 1, 0, none⟩) 4 4] 72)).alloc (.cells #[.string ⟨#[115, 116, 97, 99, 107]⟩, .int .i64 0, .int .i64 10, .int .i64 10, .int .i64 20, .int .i64 30] 76)) :=
    (((((Below.refl _ w).alloc (Nat.le_refl _) _).alloc (by simp) _).alloc (by simp; omega) _).alloc (by simp; omega) _).alloc (by simp; omega) _
  simp only [World.size_alloc] at k1 k2 k3 k4
  go_enter Try.func31, Try.ntmps31
  go_wp2_with fail
  generalize (((((w.alloc (.cells #[.slice (some ⟨w.heap.size + 1 + 1 + 1, 0, none⟩) 2 2, .slice (some ⟨w.heap.size + 1 + 1 + 1 + 1, 0, none⟩) 1 1] 25)).alloc (.cells #[.int .i64 0, .int .i64 0, .int .i64 100, .int .i64 0, .int .i64 100, .int .i64 40, .int .i64 0, .int .i64 40] 27)).alloc (.cells #[.int .i64 100, .int .i64 80, .int .i64 0, .int .i64 80, .int .i64 0, .int .i64 40, .int .i64 100, .int .i64 40] 27)).alloc (.cells #[.string ⟨#[115]⟩, .int .i64 1, .int .i64 0, .int .i64 300, .int .i64 1, .int .i64 1, .slice (some ⟨w.heap.size + 1, 0, none⟩) 4 4, .string ⟨#[110]⟩, .int .i64 3, .int .i64 80, .int .i64 300, .int .i64 1, .int .i64 1, .slice (some ⟨w.heap.size + 1 + 1, 0, none⟩) 4 4] 72)).alloc (.cells #[.string ⟨#[115, 116, 97, 99, 107]⟩, .int .i64 0, .int .i64 10, .int .i64 10, .int .i64 20, .int .i64 30] 76)) = W at *
  have t0 := k0.cell 0
  have t1 := k0.cell 1
  simp only [List.getElem?_toArray, List.getElem?_cons_zero, List.getElem?_cons_succ] at t0 t1
  refine bodyPost_ret (v := .agg #[.slice (some ⟨w.heap.size + 1 + 1 + 1, 0, none⟩) 2 2, .slice (some ⟨w.heap.size + 1 + 1 + 1 + 1, 0, none⟩) 1 1]) (by simp [results, Try.results31, go_sem, t0, t1]) rfl ⟨rfl, ⟨?_, ?_⟩, hB⟩
  · have p1 : IsPts W (.slice (some ⟨w.heap.size + 1, 0, none⟩) 4 4) (houseS w.heap.size).cs := by
      refine .inr ⟨_, 0, 4, rfl, k1.lt, Nat.le_refl _, by decide, fun j p hj => ?_⟩
      match j, hj with
      | 0, hj => cases hj; exact ⟨k1.cell 0, k1.cell 1⟩
      | 1, hj => cases hj; exact ⟨k1.cell 2, k1.cell 3⟩
      | 2, hj => cases hj; exact ⟨k1.cell 4, k1.cell 5⟩
      | 3, hj => cases hj; exact ⟨k1.cell 6, k1.cell 7⟩
      | k + 4, hj => cases hj
    have p2 : IsPts W (.slice (some ⟨w.heap.size + 1 + 1, 0, none⟩) 4 4) (houseN w.heap.size).cs := by
      refine .inr ⟨_, 0, 4, rfl, k2.lt, Nat.le_refl _, by decide, fun j p hj => ?_⟩
      match j, hj with
      | 0, hj => cases hj; exact ⟨k2.cell 0, k2.cell 1⟩
      | 1, hj => cases hj; exact ⟨k2.cell 2, k2.cell 3⟩
      | 2, hj => cases hj; exact ⟨k2.cell 4, k2.cell 5⟩
      | 3, hj => cases hj; exact ⟨k2.cell 6, k2.cell 7⟩
      | k + 4, hj => cases hj
    refine .inr ⟨_, 0, 2, rfl, k3.lt, Nat.le_refl _, by decide, fun j f hj => ?_⟩
    match j, hj with
    | 0, hj => cases hj; exact ⟨⟨k3.cell 0, k3.cell 1, k3.cell 2, k3.cell 3, k3.cell 4, k3.cell 5, k3.cell 6⟩, p1, by show 1 ≤ maxLen; unfold maxLen; omega⟩
    | 1, hj => cases hj; exact ⟨⟨k3.cell 7, k3.cell 8, k3.cell 9, k3.cell 10, k3.cell 11, k3.cell 12, k3.cell 13⟩, p2, by show 1 ≤ maxLen; unfold maxLen; omega⟩
    | k + 2, hj => cases hj
  · refine .inr ⟨_, 0, 1, rfl, k4.lt, Nat.le_refl _, by decide, fun j f hj => ?_⟩
    match j, hj with
    | 0, hj => cases hj; exact ⟨⟨k4.cell 0, k4.cell 1, k4.cell 2, k4.cell 3, k4.cell 4, k4.cell 5⟩, by show 5 ≤ maxLen; unfold maxLen; omega⟩
    | k + 1, hj => cases hj
end Go.Proofs.Ytpdgcajbdaleeaa
