/- A store whose rows are the call's own and lie apart: what the chores change. -/
import Derived.Test.YtfhalmlpnoepcaaGreatJF
import Derived.Test.YtfhalmlpnoepcaaGreatGA
namespace Go.Proofs.YtfhalmlpnoepcaaGreat
open Go.RowKit

theorem isHeps_own {w : World} {base c : Nat} {t : TypeId} {a : Option Addr} {l : List Hep} (h : w.ownsRow base t 7 (.slice a l.length c) l.length (l.flatMap cellsHep)) (hp : ∀ x ∈ l, IsPrts w x.pa x.pc x.parts ∧ x.name.size ≤ maxLen) : IsHeps w a c l := by
  rcases row_at cellsHep 7 (fun _ => rfl) h with ⟨e, rfl⟩ | ⟨g, cap, hv, _, hg, h1, h2, key⟩
  · obtain ⟨rfl, _, rfl⟩ := slice_inj e
    exact .inl rfl
  · obtain ⟨rfl, _, rfl⟩ := slice_inj hv
    refine .inr ⟨g, 0, rfl, hg, h1, h2, fun j x hj => ?_⟩
    have k := fun i hi => key j x hj i hi
    obtain ⟨p1, p2⟩ := hp x (List.mem_of_getElem? hj)
    refine ⟨⟨?_, ?_, ?_, ?_, ?_, ?_, ?_⟩, p1, p2⟩
    all_goals rw [Nat.zero_add]
    · exact k 0 (by omega)
    · exact k 1 (by omega)
    · exact k 2 (by omega)
    · exact k 3 (by omega)
    · exact k 4 (by omega)
    · exact k 5 (by omega)
    · exact k 6 (by omega)
/-- The blocks of a store's rows. -/
def rowsOf (S : Sto) : List Nat := ([S.la, S.ga, S.ha, S.ua, S.wa] ++ S.heaps.map (·.pa)).filterMap (·.map (·.block))
/-- A store whose rows are own ones from a base on, and apart from one another. -/
structure OwnSto (base : Nat) (w : World) (S : Sto) : Prop where
  last : w.ownsRow base 3 1 (.slice S.la S.last.length S.lc) S.last.length (S.last.flatMap cellsI)
  given : w.ownsRow base 3 1 (.slice S.ga S.given.length S.gc) S.given.length (S.given.flatMap cellsI)
  heaps : w.ownsRow base 53 7 (.slice S.ha S.heaps.length S.hc) S.heaps.length (S.heaps.flatMap cellsHep)
  parts : ∀ h ∈ S.heaps, w.ownsRow base 79 2 (.slice h.pa h.parts.length h.pc) h.parts.length (h.parts.flatMap cellsPrt)
  used : w.ownsRow base 79 2 (.slice S.ua S.used.length S.uc) S.used.length (S.used.flatMap cellsPrt)
  waste : w.ownsRow base 79 2 (.slice S.wa S.waste.length S.wc) S.waste.length (S.waste.flatMap cellsPrt)
  names : ∀ h ∈ S.heaps, h.name.size ≤ maxLen
  apart : (rowsOf S).Nodup
theorem OwnSto.store {base : Nat} {w : World} {S : Sto} (h : OwnSto base w S) : IsStore w S :=
  ⟨isNums_own h.last, isNums_own h.given, isHeps_own h.heaps fun x hx => ⟨isPrts_own (h.parts x hx), h.names x hx⟩, isPrts_own h.used, isPrts_own h.waste⟩
theorem OwnSto.below {base : Nat} {w w' : World} {S : Sto} (h : OwnSto base w S) (hb : Below w.heap.size w w') : OwnSto base w' S :=
  ⟨own_below h.last hb, own_below h.given hb, own_below h.heaps hb, fun x hx => own_below (h.parts x hx) hb, own_below h.used hb, own_below h.waste hb, h.names, h.apart⟩
/-- Each row lies at or above the base. -/
theorem OwnSto.ge {base : Nat} {w : World} {S : Sto} (h : OwnSto base w S) : ∀ k ∈ rowsOf S, base ≤ k ∧ k < w.heap.size := by
  have key : ∀ {t : TypeId} {sz n c : Nat} {a : Option Addr} {xs : List Value}, w.ownsRow base t sz (.slice a n c) n xs → ∀ k, a.map (·.block) = some k → base ≤ k ∧ k < w.heap.size := fun hr k hk => hr.lt k (by rw [rowOf_own']; exact hk)
  intro k hk
  simp only [rowsOf, List.mem_filterMap, List.mem_append, List.mem_cons, List.mem_map, List.not_mem_nil, or_false] at hk
  obtain ⟨a, ha, hk⟩ := hk
  rcases ha with (rfl | rfl | rfl | rfl | rfl) | ⟨x, hx, rfl⟩
  · exact key h.last k hk
  · exact key h.given k hk
  · exact key h.heaps k hk
  · exact key h.used k hk
  · exact key h.waste k hk
  · exact key (h.parts x hx) k hk

end Go.Proofs.YtfhalmlpnoepcaaGreat
