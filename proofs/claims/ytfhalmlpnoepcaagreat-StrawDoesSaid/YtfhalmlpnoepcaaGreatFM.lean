/- The choice of fields: a model of the walk over all choices, and what it finds. -/
import Derived.ProofKit
namespace Go.Proofs.YtfhalmlpnoepcaaGreat

/-- A field. -/
structure Plt where
  name : ByteArray
  crop : Int
  size : Int
  ylo : Int
  yhi : Int
  rest : Int
  wlo : Int
  whi : Int
  cost : Int
structure Ned where
  reed : Int
  straw : Int
  heather : Int
/-- Loads of each crop. -/
structure Sur where
  z : Int
  r : Int
  s : Int
  h : Int
def Sur.none : Sur := ⟨0, 0, 0, 0⟩
def Sur.add (c : Sur) (p : Plt) : Sur :=
  if p.crop = 1 then ⟨c.z, c.r + p.size * p.ylo, c.s, c.h⟩ else if p.crop = 2 then ⟨c.z, c.r, c.s + p.size * p.ylo, c.h⟩ else ⟨c.z, c.r, c.s, c.h + p.size * p.ylo⟩
def Sur.enough (c : Sur) (n : Ned) : Bool := decide (n.reed ≤ c.r) && decide (n.straw ≤ c.s) && decide (n.heather ≤ c.h)
/-- The best choice so far. -/
structure Bst where
  best : List Nat
  least : Int
  found : Bool
def Bst.better (b : Bst) (ch : List Nat) (cost : Int) : Bool := !b.found || (decide (cost < b.least) || (decide (cost = b.least) && decide (ch.length < b.best.length)))
def Bst.visit (n : Ned) (b : Bst) (ch : List Nat) (cost : Int) (c : Sur) : Bst := if b.better ch cost && c.enough n then ⟨ch, cost, true⟩ else b
/-- The rounds of the walk over the fields that are left, from field i on. -/
def loopL (n : Ned) : List Plt → Nat → List Nat → Int → Sur → Bst → Bst
  | [], _, _, _, _, b => b
  | p :: ps, i, ch, cost, c, b => loopL n ps (i + 1) ch cost c (loopL n ps (i + 1) (ch ++ [i]) (cost + p.cost) (c.add p) (b.visit n (ch ++ [i]) (cost + p.cost) (c.add p)))
def chooseM (ps : List Plt) (n : Ned) : Bst := loopL n ps 0 [] 0 Sur.none (Bst.visit n ⟨[], 0, false⟩ [] 0 Sur.none)

/-- Which fields, from field i on, in order. -/
def Ext : List Plt → Nat → List Nat → Prop
  | [], _, l => l = []
  | _ :: ps, i, l => Ext ps (i + 1) l ∨ ∃ t, l = i :: t ∧ Ext ps (i + 1) t

def nothing : Plt := ⟨.empty, 3, 0, 0, 0, 0, 0, 0, 0⟩
def pltAt (PS : List Plt) (i : Nat) : Plt := PS[i]?.getD nothing
def costOf (PS : List Plt) (l : List Nat) : Int := l.foldl (fun c i => c + (pltAt PS i).cost) 0
def sureOf (PS : List Plt) (l : List Nat) : Sur := l.foldl (fun c i => c.add (pltAt PS i)) Sur.none
theorem costOf_snoc (PS : List Plt) (l : List Nat) (i : Nat) : costOf PS (l ++ [i]) = costOf PS l + (pltAt PS i).cost := by simp [costOf]
theorem sureOf_snoc (PS : List Plt) (l : List Nat) (i : Nat) : sureOf PS (l ++ [i]) = (sureOf PS l).add (pltAt PS i) := by simp [sureOf]
theorem pltAt_drop {PS ps : List Plt} {p : Plt} {i : Nat} (h : PS.drop i = p :: ps) : pltAt PS i = p ∧ PS.drop (i + 1) = ps := by
  have h0 : PS[i]? = some p := by
    have := congrArg (fun l => l[0]?) h
    simpa using this
  refine ⟨by rw [pltAt, h0]; rfl, ?_⟩
  have := congrArg (List.drop 1) h
  rw [List.drop_drop] at this
  simpa using this

theorem visit_cases (n : Ned) (b : Bst) (ch : List Nat) (cost : Int) (c : Sur) : b.visit n ch cost c = b ∨ (b.visit n ch cost c = ⟨ch, cost, true⟩ ∧ c.enough n = true) := by
  unfold Bst.visit
  split
  · next h => exact .inr ⟨rfl, by simp at h; exact h.2⟩
  · exact .inl rfl
end Go.Proofs.YtfhalmlpnoepcaaGreat
