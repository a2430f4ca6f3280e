/- cheapest and Choose. -/
import Derived.Test.YtmaehiomljnkgaaFD
namespace Go.Proofs.Ytmaehiomljnkgaa
open Go.RowKit

/-- A slice of numbers in memory. -/
def IsNats (w : World) (a : Option Addr) (c : Nat) (l : List Nat) : Prop := w.ownsRow 0 3 1 (.slice a l.length c) l.length (natsV l)
theorem IsNats.belowS {w w' : World} {a : Option Addr} {c : Nat} {l : List Nat} (h : IsNats w a c l) (hb : Below w.heap.size w w') : IsNats w' a c l := ownsRow_belowS h hb

set_option maxRecDepth 100000 in
set_option maxHeartbeats 4000000 in
theorem cheapest_any (sa : Option Addr) (sc : Nat) (n : Ned) (ps : List Plt) (w : World) (hs : IsPlts w (.slice sa ps.length sc) ps) (hok : ∀ p ∈ ps, p.ok) (hlen : ps.length ≤ 12) :
    Calls Try.prog 40 #[.slice sa ps.length sc, .agg #[.int .i64 n.reed, .int .i64 n.straw, .int .i64 n.heather]] w fun e w' =>
      (∃ ba bc, e = .returned (.tuple #[.slice ba (chooseM ps n).best.length bc, .int .i64 (chooseM ps n).least, .bool (chooseM ps n).found]) ∧ IsNats w' ba bc (chooseM ps n).best ∧ (chooseM ps n).best.length ≤ 12) ∧ Below w.heap.size w w' := by
  have HS := Lib.hid hs
  clear hs
  have k0 := (((((((Blk.new w 22 #[.slice sa ps.length sc]).alloc (.cells #[.int .i64 n.reed, .int .i64 n.straw, .int .i64 n.heather] 62)).alloc (.cells #[.slice none 0 0] 25)).alloc (.cells #[.int .i64 0] 3)).alloc (.cells #[.bool false] 4)).alloc (.cells #[.slice none 0 0] 25)).alloc (.cells #[.nilFunc] 110))
  have k1 := ((((((Blk.new (w.alloc (.cells #[.slice sa ps.length sc] 22)) 62 #[.int .i64 n.reed, .int .i64 n.straw, .int .i64 n.heather]).alloc (.cells #[.slice none 0 0] 25)).alloc (.cells #[.int .i64 0] 3)).alloc (.cells #[.bool false] 4)).alloc (.cells #[.slice none 0 0] 25)).alloc (.cells #[.nilFunc] 110))
  have k2 := (((((Blk.new ((w.alloc (.cells #[.slice sa ps.length sc] 22)).alloc (.cells #[.int .i64 n.reed, .int .i64 n.straw, .int .i64 n.heather] 62)) 25 #[.slice none 0 0]).alloc (.cells #[.int .i64 0] 3)).alloc (.cells #[.bool false] 4)).alloc (.cells #[.slice none 0 0] 25)).alloc (.cells #[.nilFunc] 110))
  have k3 := ((((Blk.new (((w.alloc (.cells #[.slice sa ps.length sc] 22)).alloc (.cells #[.int .i64 n.reed, .int .i64 n.straw, .int .i64 n.heather] 62)).alloc (.cells #[.slice none 0 0] 25)) 3 #[.int .i64 0]).alloc (.cells #[.bool false] 4)).alloc (.cells #[.slice none 0 0] 25)).alloc (.cells #[.nilFunc] 110))
  have k4 := (((Blk.new ((((w.alloc (.cells #[.slice sa ps.length sc] 22)).alloc (.cells #[.int .i64 n.reed, .int .i64 n.straw, .int .i64 n.heather] 62)).alloc (.cells #[.slice none 0 0] 25)).alloc (.cells #[.int .i64 0] 3)) 4 #[.bool false]).alloc (.cells #[.slice none 0 0] 25)).alloc (.cells #[.nilFunc] 110))
  have k5 := ((Blk.new (((((w.alloc (.cells #[.slice sa ps.length sc] 22)).alloc (.cells #[.int .i64 n.reed, .int .i64 n.straw, .int .i64 n.heather] 62)).alloc (.cells #[.slice none 0 0] 25)).alloc (.cells #[.int .i64 0] 3)).alloc (.cells #[.bool false] 4)) 25 #[.slice none 0 0]).alloc (.cells #[.nilFunc] 110))
  have k6 := (Blk.new ((((((w.alloc (.cells #[.slice sa ps.length sc] 22)).alloc (.cells #[.int .i64 n.reed, .int .i64 n.straw, .int .i64 n.heather] 62)).alloc (.cells #[.slice none 0 0] 25)).alloc (.cells #[.int .i64 0] 3)).alloc (.cells #[.bool false] 4)).alloc (.cells #[.slice none 0 0] 25)) 110 #[.nilFunc])
  have hB : Below w.heap.size w (((((((w.alloc (.cells #[.slice sa ps.length sc] 22)).alloc (.cells #[.int .i64 n.reed, .int .i64 n.straw, .int .i64 n.heather] 62)).alloc (.cells #[.slice none 0 0] 25)).alloc (.cells #[.int .i64 0] 3)).alloc (.cells #[.bool false] 4)).alloc (.cells #[.slice none 0 0] 25)).alloc (.cells #[.nilFunc] 110)) := ((((((((Below.refl _ w).alloc (by simp; try omega) _).alloc (by simp; try omega) _).alloc (by simp; try omega) _).alloc (by simp; try omega) _).alloc (by simp; try omega) _).alloc (by simp; try omega) _).alloc (by simp; try omega) _)
  simp only [World.size_alloc, Nat.add_assoc, Nat.reduceAdd] at k0 k1 k2 k3 k4 k5 k6
  go_enter Try.func40, Try.ntmps40
  go_upto_region 3 with fail
  generalize (((((((w.alloc (.cells #[.slice sa ps.length sc] 22)).alloc (.cells #[.int .i64 n.reed, .int .i64 n.straw, .int .i64 n.heather] 62)).alloc (.cells #[.slice none 0 0] 25)).alloc (.cells #[.int .i64 0] 3)).alloc (.cells #[.bool false] 4)).alloc (.cells #[.slice none 0 0] 25)).alloc (.cells #[.nilFunc] 110)) = w1 at k0 k1 k2 k3 k4 k5 k6 hB ⊢
  simp only [Nat.add_assoc, Nat.reduceAdd]
  have c6 := k6.cell 0
  have f6 := k6.frozen 0
  simp only [List.getElem?_toArray, List.getElem?_cons_zero] at c6
  have hst : (store ⟨w.heap.size + 6, 0, none⟩ (walkV w.heap.size)).run Try.prog w1 = .ok () (w1.setCell ⟨w.heap.size + 6, 0, none⟩ (walkV w.heap.size)) := by
    rw [run_store _ _ _ _ _ rfl]
    simp [c6, f6]
  unfold walkV at hst
  go_upto_region 4 with (rw [hst])
  have hS : Stt w w.heap.size (.slice sa ps.length sc) n [] ⟨[], 0, false⟩ none 0 none 0 (w1.setCell ⟨w.heap.size + 6, 0, none⟩ (walkV w.heap.size)) :=
    ⟨hB.setCell (by simp) _, k0.other (by omega) _, k1.other (by omega) _, k2.other (by omega) _, k3.other (by omega) _, k4.other (by omega) _, k5.other (by omega) _, k6.set 0 _, World.ownsRow_nil _ _ _ _, World.ownsRow_nil _ _ _ _, .inl rfl⟩
  unfold walkV at hS
  generalize w1.setCell ⟨w.heap.size + 6, 0, none⟩ _ = w2 at hS ⊢
  have x6 : w2.cell? ⟨w.heap.size + 6, 0, none⟩ = some (walkV w.heap.size) := hS.walk.cell 0
  have hSS := Lib.hid hS
  clear k0 k1 k2 k3 k4 k5 k6 c6 f6 hB hS
  go_upto_region 5 with fail
  refine (walk_any w w.heap.size sa sc n ps HS.out rfl hok hlen ps.length ps 0 [] 0 Sur.none ⟨[], 0, false⟩ none 0 none 0 w2 (Nat.le_refl _) rfl (Nat.zero_le _) (fun _ => rfl) (Nat.le_refl _) (by simp) (by simp) (by simp [Sur.none]) hSS.out).mono ?_
  rintro e w3 ⟨rfl, hbl, ca, cc, ba, bc, hS3, hK3⟩
  have hM : chooseM ps n = loopL n ps 0 [] 0 Sur.none (Bst.visit n ⟨[], 0, false⟩ [] 0 Sur.none) := rfl
  rw [← hM] at hbl hS3
  clear hM
  generalize hb3 : chooseM ps n = b3 at hbl hS3
  have HB3 := Lib.hid hb3
  clear hb3
  have d2 := hS3.best.cell 0
  have d3 := hS3.least.cell 0
  have d4 := hS3.found.cell 0
  have g2 := hS3.best.frozen 0
  have g3 := hS3.least.frozen 0
  have g4 := hS3.found.frozen 0
  simp only [List.getElem?_toArray, List.getElem?_cons_zero] at d2 d3 d4
  have l6 := hS3.walk.lt
  have HS3 := Lib.hid hS3
  clear hS3 hK3 x6 hSS
  go_upto_region 5 with fail
  go_region
  go_wp2_with fail
  have hS4 := HS3.out
  have k2 : Blk (((w3.setCell ⟨w.heap.size + 2, 0, none⟩ (.slice ba b3.best.length bc)).setCell ⟨w.heap.size + 3, 0, none⟩ (.int .i64 b3.least)).setCell ⟨w.heap.size + 4, 0, none⟩ (.bool b3.found)).drew (w.heap.size + 2) #[.slice ba b3.best.length bc] 25 := (((hS4.best.set 0 _).other (by omega) _).other (by omega) _).drew
  have k3 : Blk (((w3.setCell ⟨w.heap.size + 2, 0, none⟩ (.slice ba b3.best.length bc)).setCell ⟨w.heap.size + 3, 0, none⟩ (.int .i64 b3.least)).setCell ⟨w.heap.size + 4, 0, none⟩ (.bool b3.found)).drew (w.heap.size + 3) #[.int .i64 b3.least] 3 := (((hS4.least.other (by omega) _).set 0 _).other (by omega) _).drew
  have k4 : Blk (((w3.setCell ⟨w.heap.size + 2, 0, none⟩ (.slice ba b3.best.length bc)).setCell ⟨w.heap.size + 3, 0, none⟩ (.int .i64 b3.least)).setCell ⟨w.heap.size + 4, 0, none⟩ (.bool b3.found)).drew (w.heap.size + 4) #[.bool b3.found] 4 := (((hS4.found.other (by omega) _).other (by omega) _).set 0 _).drew
  have hBf : Below w.heap.size w (((w3.setCell ⟨w.heap.size + 2, 0, none⟩ (.slice ba b3.best.length bc)).setCell ⟨w.heap.size + 3, 0, none⟩ (.int .i64 b3.least)).setCell ⟨w.heap.size + 4, 0, none⟩ (.bool b3.found)).drew := (((hS4.below.setCell (by simp) _).setCell (by simp) _).setCell (by simp) _).drew
  have hOf : IsNats (((w3.setCell ⟨w.heap.size + 2, 0, none⟩ (.slice ba b3.best.length bc)).setCell ⟨w.heap.size + 3, 0, none⟩ (.int .i64 b3.least)).setCell ⟨w.heap.size + 4, 0, none⟩ (.bool b3.found)).drew ba bc b3.best := ownsRow_base (ownsRow_belowS (ownsRow_set (ownsRow_set (ownsRow_set hS4.bests (by omega)) (by omega)) (by omega)) (Below.refl _ _).drew) (Nat.zero_le _)
  clear hS4 d2 d3 d4 g2 g3 g4
  generalize (((w3.setCell ⟨w.heap.size + 2, 0, none⟩ (.slice ba b3.best.length bc)).setCell ⟨w.heap.size + 3, 0, none⟩ (.int .i64 b3.least)).setCell ⟨w.heap.size + 4, 0, none⟩ (.bool b3.found)).drew = w5 at k2 k3 k4 hBf hOf ⊢
  have t2 := k2.cell 0
  have t3 := k3.cell 0
  have t4 := k4.cell 0
  simp only [List.getElem?_toArray, List.getElem?_cons_zero] at t2 t3 t4
  exact bodyPost_ret (v := .tuple #[.slice ba b3.best.length bc, .int .i64 b3.least, .bool b3.found]) (by simp [results, Try.results40, go_sem, t2, t3, t4]) rfl ⟨⟨ba, bc, by rw [HB3.out], by rw [HB3.out]; exact hOf, by rw [HB3.out]; exact hbl⟩, hBf⟩
end Go.Proofs.Ytmaehiomljnkgaa
