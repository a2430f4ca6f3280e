/- Some loads of parts, behind some others: as the program takes them, as the specification cuts them. -/
import Derived.Test.YtfhalmlpnoepcaaGreatGB
namespace Go.Proofs.YtfhalmlpnoepcaaGreat
open Go.RowKit

def takenL (skip left : Int) : List Prt → List Prt
  | [] => []
  | p :: l => (if 0 < min left (p.loads - min skip p.loads) then [⟨p.plot, min left (p.loads - min skip p.loads)⟩] else []) ++ takenL (skip - min skip p.loads) (left - min left (p.loads - min skip p.loads)) l
def cutT (n : Int) : List Prt → List Prt
  | [] => []
  | p :: l => (if 0 < min n p.loads then [⟨p.plot, min n p.loads⟩] else []) ++ cutT (n - min n p.loads) l
def cutR (n : Int) : List Prt → List Prt
  | [] => []
  | p :: l => (if min n p.loads < p.loads then [⟨p.plot, p.loads - min n p.loads⟩] else []) ++ cutR (n - min n p.loads) l
def pushL (l : List Prt) (p : Prt) : List Prt := match l.getLast? with
  | some q => if q.plot = p.plot then l.dropLast ++ [⟨q.plot, q.loads + p.loads⟩] else l ++ [p]
  | none => [p]
def putL (l : List Prt) (ps : List Prt) : List Prt := ps.foldl pushL l
theorem putL_snoc (l ps : List Prt) (p : Prt) : putL l (ps ++ [p]) = pushL (putL l ps) p := by simp [putL]

theorem taken_cut {l : List Prt} (h : ∀ p ∈ l, 1 ≤ p.loads) : ∀ {skip left : Int}, 0 ≤ skip → 0 ≤ left → takenL skip left l = cutT left (cutR skip l) := by
  induction l with
  | nil => intros; rfl
  | cons p l ih =>
    intro skip left hs hl
    have hp := h p (by simp)
    have ih := @ih (fun q hq => h q (by simp [hq]))
    simp only [takenL, cutR]
    by_cases hlt : min skip p.loads < p.loads
    · rw [if_pos hlt]
      simp only [List.cons_append, List.nil_append, cutT]
      rw [ih (by omega) (by omega)]
    · rw [if_neg hlt, List.nil_append]
      have h0 : min left (p.loads - min skip p.loads) = 0 := by omega
      rw [h0, if_neg (by omega), List.nil_append, ih (by omega) (by omega), Int.sub_zero]
theorem taken_none (l : List Prt) : ∀ {skip left : Int}, left ≤ 0 → (∀ p ∈ l, 1 ≤ p.loads) → 0 ≤ skip → takenL skip left l = [] := by
  induction l with
  | nil => intros; rfl
  | cons p l ih =>
    intro skip left hl h hs
    have hp := h p (by simp)
    simp only [takenL]
    rw [if_neg (by omega), List.nil_append]
    exact ih (by omega) (fun q hq => h q (by simp [hq])) (by omega)

/-- No two neighbours are of one field; the first one is not of the field o. -/
def ap (o : Option Int) : List Prt → Prop
  | [] => True
  | p :: l => o ≠ some p.plot ∧ ap (some p.plot) l
theorem ap_none {o : Option Int} {l : List Prt} (h : ap o l) : ap none l := by
  cases l with
  | nil => trivial
  | cons p l => exact ⟨by simp, h.2⟩
def lastP (l : List Prt) : Option Int := l.getLast?.map (·.plot)
theorem lastP_snoc (l : List Prt) (p : Prt) : lastP (l ++ [p]) = some p.plot := by simp [lastP]
theorem push_apart {l : List Prt} {p : Prt} (h : lastP l ≠ some p.plot) : pushL l p = l ++ [p] := by
  unfold pushL
  unfold lastP at h
  cases hl : l.getLast? with
  | none =>
    have : l = [] := by simpa using hl
    subst this
    rfl
  | some q =>
    rw [hl] at h
    simp only [Option.map_some, ne_eq, Option.some.injEq] at h
    simp only [h, if_false]
theorem put_taken0 {l : List Prt} (h : ∀ p ∈ l, 1 ≤ p.loads) : ∀ {acc : List Prt} {left : Int}, 0 ≤ left → ap (lastP acc) l → putL acc (takenL 0 left l) = acc ++ takenL 0 left l := by
  induction l with
  | nil => intro acc left _ _; simp [takenL, putL]
  | cons p l ih =>
    intro acc left hl ha
    have hp := h p (by simp)
    have ih := @ih (fun q hq => h q (by simp [hq]))
    have e0 : min (0 : Int) p.loads = 0 := by omega
    simp only [takenL, e0, Int.sub_zero]
    by_cases hlt : 0 < min left p.loads
    · rw [if_pos hlt]
      simp only [List.cons_append, List.nil_append]
      have e1 : putL acc (⟨p.plot, min left p.loads⟩ :: takenL 0 (left - min left p.loads) l) = putL (pushL acc ⟨p.plot, min left p.loads⟩) (takenL 0 (left - min left p.loads) l) := rfl
      rw [e1, push_apart (p := ⟨p.plot, min left p.loads⟩) ha.1, ih (by omega) (by rw [lastP_snoc]; exact ha.2)]
      simp
    · rw [if_neg hlt, List.nil_append, taken_none l (by omega) (fun q hq => h q (by simp [hq])) (by omega)]
      simp [putL]
/-- What is taken of parts in order is in order. -/
theorem put_taken {l : List Prt} (h : ∀ p ∈ l, 1 ≤ p.loads) : ∀ {skip left : Int}, 0 ≤ skip → 0 ≤ left → ap none l → putL [] (takenL skip left l) = takenL skip left l := by
  induction l with
  | nil => intros; rfl
  | cons p l ih =>
    intro skip left hs hl ha
    have hp := h p (by simp)
    have ih := @ih (fun q hq => h q (by simp [hq]))
    simp only [takenL]
    by_cases hlt : skip < p.loads
    · have e0 : min skip p.loads = skip := by omega
      rw [e0, Int.sub_self]
      by_cases hn : 0 < min left (p.loads - skip)
      · rw [if_pos hn]
        simp only [List.cons_append, List.nil_append]
        have e1 : putL [] (⟨p.plot, min left (p.loads - skip)⟩ :: takenL 0 (left - min left (p.loads - skip)) l) = putL [⟨p.plot, min left (p.loads - skip)⟩] (takenL 0 (left - min left (p.loads - skip)) l) := rfl
        rw [e1, put_taken0 (fun q hq => h q (by simp [hq])) (by omega) (by exact ha.2)]
        rfl
      · rw [if_neg hn, List.nil_append, taken_none l (by omega) (fun q hq => h q (by simp [hq])) (by omega)]
        rfl
    · have e0 : min skip p.loads = p.loads := by omega
      have e1 : min left (p.loads - p.loads) = 0 := by omega
      rw [e0, e1, if_neg (by omega), List.nil_append, Int.sub_zero]
      exact ih (by omega) hl (ap_none ha.2)
theorem ap_of {l : List Prt} : ∀ {o : Option Int}, (∀ p, l[0]? = some p → o ≠ some p.plot) → (∀ (i : Nat) (q p : Prt), l[i]? = some q → l[i + 1]? = some p → q.plot ≠ p.plot) → ap o l := by
  induction l with
  | nil => intros; trivial
  | cons p l ih =>
    intro o h0 h1
    refine ⟨h0 p rfl, ih (fun q hq => ?_) (fun i q r hq hr => h1 (i + 1) q r (by simpa using hq) (by simpa using hr))⟩
    have := h1 0 p q rfl (by simpa using hq)
    simpa using this
theorem partsB_ap {n : Nat} {l : List Prt} (h : partsB n l = true) : ap none l := by
  refine ap_of (fun p _ => by simp) fun i q p hq hp => ?_
  have hlt : i + 1 < l.length := (List.getElem?_eq_some_iff.1 hp).1
  have := List.all_eq_true.1 h (i + 1) (by simpa using hlt)
  simp only [hp, Nat.add_sub_cancel, hq] at this
  simpa using (Bool.and_eq_true_iff.1 this).2
theorem cutT_len (l : List Prt) : ∀ n, (cutT n l).length ≤ l.length := by
  induction l with
  | nil => intro n; simp [cutT]
  | cons p l ih =>
    intro n
    simp only [cutT, List.length_append, List.length_cons]
    have := ih (n - min n p.loads)
    split <;> simp <;> omega
theorem cutR_len (l : List Prt) : ∀ n, (cutR n l).length ≤ l.length := by
  induction l with
  | nil => intro n; simp [cutR]
  | cons p l ih =>
    intro n
    simp only [cutR, List.length_append, List.length_cons]
    have := ih (n - min n p.loads)
    split <;> simp <;> omega
theorem cutR_ok {m : Nat} {l : List Prt} (h : ∀ p ∈ l, p.ok m) : ∀ {n : Int}, 0 ≤ n → ∀ p ∈ cutR n l, p.ok m := by
  induction l with
  | nil => intro n _ p hp; simp [cutR] at hp
  | cons q l ih =>
    intro n hn p hp
    simp only [cutR] at hp
    obtain ⟨h1, h2, h3⟩ := h q (by simp)
    rcases List.mem_append.1 hp with hp | hp
    · split at hp
      · obtain rfl := List.mem_singleton.1 hp
        exact ⟨h1, by show 1 ≤ q.loads - min n q.loads; omega, by show q.loads - min n q.loads ≤ 100000; omega⟩
      · simp at hp
    · exact ih (fun r hr => h r (by simp [hr])) (by omega) p hp
end Go.Proofs.YtfhalmlpnoepcaaGreat
