/- Faces and openings in memory; a face found by its name. -/
import Derived.Test.YtdjeoheoohacnaaK
namespace Go.Proofs.Ytdjeoheoohacnaa
open Go.RowKit

structure Fac where
  name : ByteArray
  side : Int
  foot : Int
  base : Int
  rise : Int
  run : Int
  ca : Option Addr
  cc : Nat
  cs : List Pnt
structure Opn where
  name : ByteArray
  face : Int
  lo : Pnt
  hi : Pnt

/-- The cells of a face at an address. -/
def FacAt (w : World) (b o : Nat) (f : Fac) : Prop :=
  w.cell? ⟨b, o, none⟩ = some (.string f.name) ∧ w.cell? ⟨b, o + 1, none⟩ = some (.int .i64 f.side) ∧ w.cell? ⟨b, o + 2, none⟩ = some (.int .i64 f.foot) ∧ w.cell? ⟨b, o + 3, none⟩ = some (.int .i64 f.base) ∧
    w.cell? ⟨b, o + 4, none⟩ = some (.int .i64 f.rise) ∧ w.cell? ⟨b, o + 5, none⟩ = some (.int .i64 f.run) ∧ w.cell? ⟨b, o + 6, none⟩ = some (.slice f.ca f.cs.length f.cc)
def OpnAt (w : World) (b o : Nat) (f : Opn) : Prop :=
  w.cell? ⟨b, o, none⟩ = some (.string f.name) ∧ w.cell? ⟨b, o + 1, none⟩ = some (.int .i64 f.face) ∧ w.cell? ⟨b, o + 2, none⟩ = some (.int .i64 f.lo.x) ∧ w.cell? ⟨b, o + 3, none⟩ = some (.int .i64 f.lo.y) ∧
    w.cell? ⟨b, o + 4, none⟩ = some (.int .i64 f.hi.x) ∧ w.cell? ⟨b, o + 5, none⟩ = some (.int .i64 f.hi.y)
theorem FacAt.below {w w' : World} {B b o : Nat} {f : Fac} (h : FacAt w b o f) (hb : Below B w w') (hlt : b < B) : FacAt w' b o f := by
  have c : ∀ i, w'.cell? ⟨b, i, none⟩ = w.cell? ⟨b, i, none⟩ := fun i => hb.cell (p := ⟨b, i, none⟩) hlt
  obtain ⟨h0, h1, h2, h3, h4, h5, h6⟩ := h
  exact ⟨(c _).trans h0, (c _).trans h1, (c _).trans h2, (c _).trans h3, (c _).trans h4, (c _).trans h5, (c _).trans h6⟩
theorem OpnAt.below {w w' : World} {B b o : Nat} {f : Opn} (h : OpnAt w b o f) (hb : Below B w w') (hlt : b < B) : OpnAt w' b o f := by
  have c : ∀ i, w'.cell? ⟨b, i, none⟩ = w.cell? ⟨b, i, none⟩ := fun i => hb.cell (p := ⟨b, i, none⟩) hlt
  obtain ⟨h0, h1, h2, h3, h4, h5⟩ := h
  exact ⟨(c _).trans h0, (c _).trans h1, (c _).trans h2, (c _).trans h3, (c _).trans h4, (c _).trans h5⟩

/-- What a face's value refers to. -/
def FacIn (w : World) (f : Fac) : Prop := IsPts w (.slice f.ca f.cs.length f.cc) f.cs ∧ f.name.size ≤ maxLen
/-- A slice value that holds faces. -/
def IsFacs (w : World) (v : Value) (l : List Fac) : Prop :=
  (v = .slice none 0 0 ∧ l = []) ∨ ∃ b off cap, v = .slice (some ⟨b, off, none⟩) l.length cap ∧ b < w.heap.size ∧ l.length ≤ cap ∧ cap ≤ 9223372036854775807 ∧ ∀ j f, l[j]? = some f → FacAt w b (off + j * 7) f ∧ FacIn w f
def IsOpns (w : World) (v : Value) (l : List Opn) : Prop :=
  (v = .slice none 0 0 ∧ l = []) ∨ ∃ b off cap, v = .slice (some ⟨b, off, none⟩) l.length cap ∧ b < w.heap.size ∧ l.length ≤ cap ∧ cap ≤ 9223372036854775807 ∧ ∀ j f, l[j]? = some f → OpnAt w b (off + j * 6) f ∧ f.name.size ≤ maxLen
theorem FacIn.below {w w' : World} {f : Fac} (h : FacIn w f) (hb : Below w.heap.size w w') : FacIn w' f := ⟨h.1.below hb, h.2⟩
theorem IsFacs.below {w w' : World} {v : Value} {l : List Fac} (h : IsFacs w v l) (hb : Below w.heap.size w w') : IsFacs w' v l := by
  rcases h with h | ⟨b, off, cap, e, hl, hc, hc', hp⟩
  · exact .inl h
  · exact .inr ⟨b, off, cap, e, Nat.lt_of_lt_of_le hl hb.size, hc, hc', fun j f hj => ⟨(hp j f hj).1.below hb hl, (hp j f hj).2.below hb⟩⟩
theorem IsOpns.below {w w' : World} {v : Value} {l : List Opn} (h : IsOpns w v l) (hb : Below w.heap.size w w') : IsOpns w' v l := by
  rcases h with h | ⟨b, off, cap, e, hl, hc, hc', hp⟩
  · exact .inl h
  · exact .inr ⟨b, off, cap, e, Nat.lt_of_lt_of_le hl hb.size, hc, hc', fun j f hj => ⟨(hp j f hj).1.below hb hl, (hp j f hj).2⟩⟩

/-- Two strings are one. -/
def strB (a b : ByteArray) : Bool := a.toList == b.toList

theorem findFace1_any (f : Fac) (B : Nat) (m : ByteArray) (w : World) (hm : w.cell? ⟨B, 0, none⟩ = some (.string m)) :
    Calls Try.prog 92 #[.agg #[.string f.name, .int .i64 f.side, .int .i64 f.foot, .int .i64 f.base, .int .i64 f.rise, .int .i64 f.run, .slice f.ca f.cs.length f.cc], .pointer (some ⟨B, 0, none⟩)] w
      fun e w' => e = .returned (.bool (strB f.name m)) ∧ Below w.heap.size w w' := by
  have hlt : B < w.heap.size := World.block_lt_of_cell? _ _ hm
  go_enter Try.func92, Try.ntmps92
  go_wp2
  go_ret
  exact ⟨rfl, (Below.refl _ _).alloc (Nat.le_refl _) _⟩

/-- The first face of a name, or -1. -/
def idxF (l : List Fac) (m : ByteArray) : Int := match l.findIdx? (fun f => strB f.name m) with | some k => k | none => -1

set_option maxRecDepth 100000 in
set_option maxHeartbeats 1000000 in
theorem indexF_any (sa : Option Addr) (slen cap B : Nat) (l : List Fac) (m : ByteArray) (w : World) (hs : IsFacs w (.slice sa slen cap) l) (hl : l.length ≤ 100000) (hm : w.cell? ⟨B, 0, none⟩ = some (.string m)) :
    Calls Try.prog 91 #[.slice sa slen cap, .func (.func 92) #[] #[.pointer (some ⟨B, 0, none⟩)]] w fun e w' => e = .returned (.int .i64 (idxF l m)) ∧ Below w.heap.size w w' := by
  have hB : B < w.heap.size := World.block_lt_of_cell? _ _ hm
  rcases hs with ⟨h1, rfl⟩ | ⟨b, off, c, h1, h2, h3, h4, h5⟩
  · obtain ⟨rfl, rfl, rfl⟩ := slice_inj h1
    clear h1
    go_enter Try.func91, Try.ntmps91
    go_wp2_with fail
    go_loopw [8, 5] (fun i _ wr => i = .int .i64 0 ∧ Below w.heap.size w wr) (fun _ _ _ => 0)
    case atStart => exact ⟨rfl, Below.refl _ _⟩
    case round =>
      obtain ⟨rfl, hb⟩ := hrel
      go_wp2_with fail
      go_ret
      exact ⟨rfl, hb⟩
  · obtain ⟨rfl, rfl, rfl⟩ := slice_inj h1
    clear h1
    go_enter Try.func91, Try.ntmps91
    go_wp2_with fail
    go_loopw [8, 5] (fun i _ wr => ∃ j : Nat, j ≤ l.length ∧ i = .int .i64 j ∧ (∀ f ∈ l.take j, strB f.name m = false) ∧ Below w.heap.size w wr) (fun i _ _ => l.length - (intOf i).toNat)
    case atStart => exact ⟨0, Nat.zero_le _, rfl, by simp, Below.refl _ _⟩
    case round =>
      obtain ⟨j, hj, rfl, hno, g2⟩ := hrel
      have hmr := (g2.cell (p := ⟨B, 0, none⟩) hB).trans hm
      by_cases hlj : j < l.length
      · have hq : l[j]? = some l[j] := List.getElem?_eq_getElem hlj
        obtain ⟨c0, c1, c2, c3, c4, c5, c6⟩ := (h5 j _ hq).1.below g2 h2
        have htk : l.take (j + 1) = l.take j ++ [l[j]] := by rw [List.take_add_one, hq]; rfl
        generalize l[j] = q at *
        have HQ := Lib.hid hq
        have HT := Lib.hid htk
        have HN := Lib.hid hno
        have H5 := Lib.hid h5
        clear hq htk hno h5
        have hj0 : (0 : Int) ≤ (j : Int) := Int.natCast_nonneg _
        have hj1 : (j : Int) < (l.length : Int) := by omega
        go_wp2_with fail
        refine (findFace1_any q B m _ hmr).mono ?_
        rintro e w1 ⟨rfl, hb1⟩
        have hb2 := g2.trans (hb1.mono g2.size)
        cases hst : strB q.name m with
        | true =>
          have hv : idxF l m = j := by rw [idxF, findIdx_at l _ j q HQ.out hst HN.out]
          have HV := Lib.hid hv
          clear hv
          go_wp2_with fail
          go_ret
          exact ⟨by rw [HV.out]; rfl, hb2⟩
        | false =>
          have HS := Lib.hid hst
          go_wp2_with fail
          refine ⟨⟨j + 1, by omega, by simp, ?_, hb2⟩, by simp [intOf]; omega⟩
          intro x hx
          rw [HT.out] at hx
          rcases List.mem_append.1 hx with hx | hx
          · exact HN.out x hx
          · obtain rfl := List.mem_singleton.1 hx
            exact HS.out
      · obtain rfl : j = l.length := by omega
        rw [List.take_length] at hno
        have hv : idxF l m = -1 := by rw [idxF, findIdx_none_take l _ hno]
        have HV := Lib.hid hv
        clear hv hno
        go_wp2_with fail
        go_ret
        exact ⟨by rw [HV.out]; rfl, g2⟩

theorem findFace_any (sa : Option Addr) (slen cap : Nat) (l : List Fac) (m : ByteArray) (w : World) (hs : IsFacs w (.slice sa slen cap) l) (hl : l.length ≤ 100000) :
    Calls Try.prog 56 #[.slice sa slen cap, .string m] w fun e w' => e = .returned (.int .i64 (idxF l m)) ∧ Below w.heap.size w w' := by
  have hB : Below w.heap.size w (w.alloc (.cells #[.string m] 9)) := (Below.refl _ _).alloc (Nat.le_refl _) _
  go_enter Try.func56, Try.ntmps56
  go_wp2_with fail
  refine (indexF_any sa slen cap w.heap.size l m _ (hs.below hB) hl ((Blk.new w _ _).cell 0)).mono ?_
  rintro e w1 ⟨rfl, hb1⟩
  go_wp2
  go_ret
  exact ⟨rfl, hB.trans (hb1.mono (by simp))⟩
end Go.Proofs.Ytdjeoheoohacnaa
