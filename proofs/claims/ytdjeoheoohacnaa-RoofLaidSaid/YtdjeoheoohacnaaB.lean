/- Lists of points in memory; edges of an outline; the range over an outline's edges. -/
import Derived.Test.YtdjeoheoohacnaaA
namespace Go.Proofs.Ytdjeoheoohacnaa
open Go.RowKit

/-- The cells of a list of points from an address on. -/
def PtsAt (w : World) (b off : Nat) (l : List Pnt) : Prop :=
  ∀ j p, l[j]? = some p → w.cell? ⟨b, off + j * 2, none⟩ = some (.int .i64 p.x) ∧ w.cell? ⟨b, off + j * 2 + 1, none⟩ = some (.int .i64 p.y)

theorem PtsAt.below {w w' : World} {B b off : Nat} {l : List Pnt} (h : PtsAt w b off l) (hb : Below B w w') (hlt : b < B) : PtsAt w' b off l :=
  fun j p hj => ⟨(hb.cell (p := ⟨b, _, none⟩) hlt).trans (h j p hj).1, (hb.cell (p := ⟨b, _, none⟩) hlt).trans (h j p hj).2⟩

theorem edgeAt_any (b off len cap i k : Nat) (p q : Pnt) (w : World) (hi : i < len) (hl : len ≤ 1000) (hk : ((i : Int) + 1) % (len : Int) = (k : Int)) (hkl : k < len)
    (hp : w.cell? ⟨b, off + i * 2, none⟩ = some (.int .i64 p.x)) (hp' : w.cell? ⟨b, off + i * 2 + 1, none⟩ = some (.int .i64 p.y))
    (hq : w.cell? ⟨b, off + k * 2, none⟩ = some (.int .i64 q.x)) (hq' : w.cell? ⟨b, off + k * 2 + 1, none⟩ = some (.int .i64 q.y)) :
    Calls Try.prog 80 #[.slice (some ⟨b, off, none⟩) len cap, .int .i64 i] w fun r w' => r = .returned (.agg #[.int .i64 p.x, .int .i64 p.y, .int .i64 q.x, .int .i64 q.y]) ∧ Below w.heap.size w w' := by
  have hb : b < w.heap.size := World.block_lt_of_cell? _ _ hp
  go_enter Try.func80, Try.ntmps80
  go_wp2
  go_region
  all_goals go_wp2
  all_goals exact bodyPost_ret (v := .agg #[.int .i64 p.x, .int .i64 p.y, .int .i64 q.x, .int .i64 q.y]) (by simp [results, Try.results80, go_sem]) rfl ⟨rfl, ((Below.refl _ _).alloc (Nat.le_refl _) _).drew⟩

/-- The edge of an outline that begins at corner k. -/
def edgN (l : List Pnt) (k : Nat) : Edg := ⟨l[k]?.getD ⟨0, 0⟩, l[(k + 1) % l.length]?.getD ⟨0, 0⟩⟩

theorem edgeAt_pts (b off cap i : Nat) (l : List Pnt) (w : World) (hi : i < l.length) (hl : l.length ≤ 1000) (h : PtsAt w b off l) :
    Calls Try.prog 80 #[.slice (some ⟨b, off, none⟩) l.length cap, .int .i64 i] w fun r w' =>
      r = .returned (.agg #[.int .i64 (edgN l i).a.x, .int .i64 (edgN l i).a.y, .int .i64 (edgN l i).b.x, .int .i64 (edgN l i).b.y]) ∧ Below w.heap.size w w' := by
  have hk : (i + 1) % l.length < l.length := Nat.mod_lt _ (by omega)
  have e1 : l[i]? = some (edgN l i).a := by simp [edgN, hi]
  have e2 : l[(i + 1) % l.length]? = some (edgN l i).b := by simp [edgN, hk]
  exact edgeAt_any b off l.length cap i ((i + 1) % l.length) _ _ w hi hl (by push_cast; rfl) hk (h _ _ e1).1 (h _ _ e1).2 (h _ _ e2).1 (h _ _ e2).2

/-- A slice value that holds a list of points. -/
def IsPts (w : World) (v : Value) (l : List Pnt) : Prop :=
  ((∃ a c, v = .slice a 0 c) ∧ l = []) ∨ ∃ b off cap, v = .slice (some ⟨b, off, none⟩) l.length cap ∧ b < w.heap.size ∧ l.length ≤ cap ∧ cap ≤ 9223372036854775807 ∧ PtsAt w b off l

theorem IsPts.below {w w' : World} {v : Value} {l : List Pnt} (h : IsPts w v l) (hb : Below w.heap.size w w') : IsPts w' v l := by
  rcases h with h | ⟨b, off, cap, e, hl, hc, hc', hp⟩
  · exact .inl h
  · exact .inr ⟨b, off, cap, e, Nat.lt_of_lt_of_le hl hb.size, hc, hc', hp.below hb hl⟩

theorem walk_any (a : Option Addr) (len cap : Nat) (w : World) :
    Calls Try.prog 52 #[.slice a len cap] w fun e w' => e = .returned (.func (.func 87) #[] #[.pointer (some ⟨w.heap.size, 0, none⟩)]) ∧ w' = w.alloc (.cells #[.slice a len cap] 35) := by
  go_enter Try.func52, Try.ntmps52
  go_wp2
  go_ret
  exact ⟨rfl, rfl⟩
end Go.Proofs.Ytdjeoheoohacnaa
