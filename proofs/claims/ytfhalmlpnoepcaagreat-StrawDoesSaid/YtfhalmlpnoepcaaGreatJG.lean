/- A chore, and what its kind names; moistures. -/
import Derived.Test.YtfhalmlpnoepcaaGreatGB
namespace Go.Proofs.YtfhalmlpnoepcaaGreat
open Go.RowKit

/-- A chore. -/
structure Chr where
  kind : Int
  plot : Int
  loads : Int
  name : ByteArray
  other : ByteArray
  days : Int
  per : Int
  rlo : Int
  rhi : Int
abbrev chrC (a : Chr) : Array Value := #[.int .i64 a.kind, .int .i64 a.plot, .int .i64 a.loads, .string a.name, .string a.other, .int .i64 a.days, .int .i64 a.per, .int .i64 a.rlo, .int .i64 a.rhi]
/-- What the kind names. -/
def namedM (a : Chr) : Chr :=
  if a.kind = 2 then ⟨a.kind, a.plot, a.loads, a.name, ⟨#[]⟩, 0, 0, 0, 0⟩
  else if a.kind = 3 then ⟨a.kind, 0, 0, a.name, ⟨#[]⟩, a.days, 0, a.rlo, a.rhi⟩
  else if a.kind = 4 ∨ a.kind = 7 then ⟨a.kind, 0, a.loads, a.name, ⟨#[]⟩, 0, 0, 0, 0⟩
  else if a.kind = 5 then ⟨a.kind, 0, 0, a.name, a.other, 0, 0, 0, 0⟩
  else if a.kind = 6 then ⟨a.kind, 0, 0, a.name, a.other, 0, a.per, 0, 0⟩
  else if a.kind = 8 then ⟨a.kind, 0, 0, a.name, ⟨#[]⟩, 0, 0, 0, 0⟩
  else ⟨a.kind, 0, 0, ⟨#[]⟩, ⟨#[]⟩, 0, 0, 0, 0⟩
theorem blk_mid (w : World) (o1 o3 : Obj) (cs : Array Value) (t : TypeId) : Blk (((w.alloc o1).alloc (.cells cs t)).alloc o3) (w.heap.size + 1) cs t := by
  have := (Blk.new (w.alloc o1) t cs).alloc o3
  simpa using this
theorem below_mid (w : World) (o1 o2 o3 : Obj) : Below w.heap.size w (((w.alloc o1).alloc o2).alloc o3) := (((Below.refl _ w).alloc (by simp) _).alloc (by simp) _).alloc (by simp; omega) _
/-- What a sum of moistures comes to. -/
def moistM (n : Int) : Int := max 0 (min n 1000)
theorem moisture_any (n : Int) (w : World) : Calls Tryz.prog 87 #[.int .i64 n] w fun e w' => e = .returned (.int .i64 (moistM n)) ∧ w = w' := by
  go_enter Tryz.func87, Tryz.ntmps87
  go_wp2
  all_goals go_ret
  all_goals refine ⟨?_, rfl⟩
  all_goals show Ending.returned (Value.int .i64 _) = Ending.returned (Value.int .i64 (moistM n))
  all_goals congr 2
  all_goals unfold moistM
  all_goals (rename_i h1; split at h1 <;> omega)
theorem clamp_any (n : Int) (w : World) : Calls Tryz.prog 45 #[.int .i64 n] w fun e w' => e = .returned (.int .i64 (moistM n)) ∧ w = w' := by
  go_enter Tryz.func45, Tryz.ntmps45
  go_wp2
  all_goals go_ret
  all_goals refine ⟨?_, rfl⟩
  all_goals show Ending.returned (Value.int .i64 _) = Ending.returned (Value.int .i64 (moistM n))
  all_goals congr 2
  all_goals unfold moistM
  all_goals (rename_i h1; split at h1 <;> omega)


set_option maxRecDepth 100000 in
set_option maxHeartbeats 4000000 in
theorem named_any (a : Chr) (w : World) :
    Calls Tryz.prog 38 #[.agg (chrC a)] w fun e w' => e = .returned (.agg (chrC (namedM a))) ∧ Below w.heap.size w w' := by
  obtain ⟨kd, pl, ld, nm, ot, dy, pr, rl, rh⟩ := a
  show Calls _ _ #[.agg #[.int .i64 kd, .int .i64 pl, .int .i64 ld, .string nm, .string ot, .int .i64 dy, .int .i64 pr, .int .i64 rl, .int .i64 rh]] _ _
  by_cases h2 : kd = 2
  · have hv : namedM ⟨kd, pl, ld, nm, ot, dy, pr, rl, rh⟩ = ⟨kd, pl, ld, nm, ⟨#[]⟩, 0, 0, 0, 0⟩ := by subst h2; simp [namedM]
    have HV := Lib.hid hv
    have q2 : (kd == 2) = true := by simp [h2]
    clear hv h2
    go_enter Tryz.func38, Tryz.ntmps38
    go_upto_region 4 with fail
    go_region
    all_goals go_wp2_with fail
    have k := (blk_mid w (.cells #[.int .i64 kd, .int .i64 pl, .int .i64 ld, .string nm, .string ot, .int .i64 dy, .int .i64 pr, .int .i64 rl, .int .i64 rh] 34) (.cells #[.int .i64 kd, .int .i64 pl, .int .i64 ld, .string nm, .string ⟨#[]⟩, .int .i64 0, .int .i64 0, .int .i64 0, .int .i64 0] 34) #[.int .i64 kd, .int .i64 pl, .int .i64 ld, .string nm, .string ⟨#[]⟩, .int .i64 0, .int .i64 0, .int .i64 0, .int .i64 0] 34).drew
    have x0 := k.cell 0
    have x1 := k.cell 1
    have x2 := k.cell 2
    have x3 := k.cell 3
    have x4 := k.cell 4
    have x5 := k.cell 5
    have x6 := k.cell 6
    have x7 := k.cell 7
    have x8 := k.cell 8
    simp only [List.getElem?_toArray, List.getElem?_cons_zero, List.getElem?_cons_succ] at x0 x1 x2 x3 x4 x5 x6 x7 x8
    exact bodyPost_ret (v := .agg #[.int .i64 kd, .int .i64 pl, .int .i64 ld, .string nm, .string ⟨#[]⟩, .int .i64 0, .int .i64 0, .int .i64 0, .int .i64 0]) (by simp [results, Tryz.results38, go_sem, x0, x1, x2, x3, x4, x5, x6, x7, x8]) rfl ⟨by rw [HV.out], (below_mid _ _ _ _).drew⟩
  · skip
    by_cases h3 : kd = 3
    · have hv : namedM ⟨kd, pl, ld, nm, ot, dy, pr, rl, rh⟩ = ⟨kd, 0, 0, nm, ⟨#[]⟩, dy, 0, rl, rh⟩ := by subst h3; simp [namedM]
      have HV := Lib.hid hv
      have q2 : (kd == 2) = false := by simp [h2]
      have q3 : (kd == 3) = true := by simp [h3]
      clear hv h2 h3
      go_enter Tryz.func38, Tryz.ntmps38
      go_upto_region 6 with fail
      go_region
      all_goals go_wp2_with fail
      have k := (blk_mid w (.cells #[.int .i64 kd, .int .i64 pl, .int .i64 ld, .string nm, .string ot, .int .i64 dy, .int .i64 pr, .int .i64 rl, .int .i64 rh] 34) (.cells #[.int .i64 kd, .int .i64 0, .int .i64 0, .string nm, .string ⟨#[]⟩, .int .i64 dy, .int .i64 0, .int .i64 rl, .int .i64 rh] 34) #[.int .i64 kd, .int .i64 0, .int .i64 0, .string nm, .string ⟨#[]⟩, .int .i64 dy, .int .i64 0, .int .i64 rl, .int .i64 rh] 34).drew
      have x0 := k.cell 0
      have x1 := k.cell 1
      have x2 := k.cell 2
      have x3 := k.cell 3
      have x4 := k.cell 4
      have x5 := k.cell 5
      have x6 := k.cell 6
      have x7 := k.cell 7
      have x8 := k.cell 8
      simp only [List.getElem?_toArray, List.getElem?_cons_zero, List.getElem?_cons_succ] at x0 x1 x2 x3 x4 x5 x6 x7 x8
      exact bodyPost_ret (v := .agg #[.int .i64 kd, .int .i64 0, .int .i64 0, .string nm, .string ⟨#[]⟩, .int .i64 dy, .int .i64 0, .int .i64 rl, .int .i64 rh]) (by simp [results, Tryz.results38, go_sem, x0, x1, x2, x3, x4, x5, x6, x7, x8]) rfl ⟨by rw [HV.out], (below_mid _ _ _ _).drew⟩
    · skip
      by_cases h4 : kd = 4
      · have hv : namedM ⟨kd, pl, ld, nm, ot, dy, pr, rl, rh⟩ = ⟨kd, 0, ld, nm, ⟨#[]⟩, 0, 0, 0, 0⟩ := by subst h4; simp [namedM]
        have HV := Lib.hid hv
        have q2 : (kd == 2) = false := by simp [h2]
        have q3 : (kd == 3) = false := by simp [h3]
        have q4 : (kd == 4) = true := by simp [h4]
        clear hv h2 h3 h4
        go_enter Tryz.func38, Tryz.ntmps38
        go_upto_region 9 with fail
        go_region
        all_goals go_wp2_with fail
        have k := (blk_mid w (.cells #[.int .i64 kd, .int .i64 pl, .int .i64 ld, .string nm, .string ot, .int .i64 dy, .int .i64 pr, .int .i64 rl, .int .i64 rh] 34) (.cells #[.int .i64 kd, .int .i64 0, .int .i64 ld, .string nm, .string ⟨#[]⟩, .int .i64 0, .int .i64 0, .int .i64 0, .int .i64 0] 34) #[.int .i64 kd, .int .i64 0, .int .i64 ld, .string nm, .string ⟨#[]⟩, .int .i64 0, .int .i64 0, .int .i64 0, .int .i64 0] 34).drew
        have x0 := k.cell 0
        have x1 := k.cell 1
        have x2 := k.cell 2
        have x3 := k.cell 3
        have x4 := k.cell 4
        have x5 := k.cell 5
        have x6 := k.cell 6
        have x7 := k.cell 7
        have x8 := k.cell 8
        simp only [List.getElem?_toArray, List.getElem?_cons_zero, List.getElem?_cons_succ] at x0 x1 x2 x3 x4 x5 x6 x7 x8
        exact bodyPost_ret (v := .agg #[.int .i64 kd, .int .i64 0, .int .i64 ld, .string nm, .string ⟨#[]⟩, .int .i64 0, .int .i64 0, .int .i64 0, .int .i64 0]) (by simp [results, Tryz.results38, go_sem, x0, x1, x2, x3, x4, x5, x6, x7, x8]) rfl ⟨by rw [HV.out], (below_mid _ _ _ _).drew⟩
      · skip
        by_cases h7 : kd = 7
        · have hv : namedM ⟨kd, pl, ld, nm, ot, dy, pr, rl, rh⟩ = ⟨kd, 0, ld, nm, ⟨#[]⟩, 0, 0, 0, 0⟩ := by subst h7; simp [namedM]
          have HV := Lib.hid hv
          have q2 : (kd == 2) = false := by simp [h2]
          have q3 : (kd == 3) = false := by simp [h3]
          have q4 : (kd == 4) = false := by simp [h4]
          have q7 : (kd == 7) = true := by simp [h7]
          clear hv h2 h3 h4 h7
          go_enter Tryz.func38, Tryz.ntmps38
          go_upto_region 9 with fail
          go_region
          all_goals go_wp2_with fail
          have k := (blk_mid w (.cells #[.int .i64 kd, .int .i64 pl, .int .i64 ld, .string nm, .string ot, .int .i64 dy, .int .i64 pr, .int .i64 rl, .int .i64 rh] 34) (.cells #[.int .i64 kd, .int .i64 0, .int .i64 ld, .string nm, .string ⟨#[]⟩, .int .i64 0, .int .i64 0, .int .i64 0, .int .i64 0] 34) #[.int .i64 kd, .int .i64 0, .int .i64 ld, .string nm, .string ⟨#[]⟩, .int .i64 0, .int .i64 0, .int .i64 0, .int .i64 0] 34).drew
          have x0 := k.cell 0
          have x1 := k.cell 1
          have x2 := k.cell 2
          have x3 := k.cell 3
          have x4 := k.cell 4
          have x5 := k.cell 5
          have x6 := k.cell 6
          have x7 := k.cell 7
          have x8 := k.cell 8
          simp only [List.getElem?_toArray, List.getElem?_cons_zero, List.getElem?_cons_succ] at x0 x1 x2 x3 x4 x5 x6 x7 x8
          exact bodyPost_ret (v := .agg #[.int .i64 kd, .int .i64 0, .int .i64 ld, .string nm, .string ⟨#[]⟩, .int .i64 0, .int .i64 0, .int .i64 0, .int .i64 0]) (by simp [results, Tryz.results38, go_sem, x0, x1, x2, x3, x4, x5, x6, x7, x8]) rfl ⟨by rw [HV.out], (below_mid _ _ _ _).drew⟩
        · skip
          by_cases h5 : kd = 5
          · have hv : namedM ⟨kd, pl, ld, nm, ot, dy, pr, rl, rh⟩ = ⟨kd, 0, 0, nm, ot, 0, 0, 0, 0⟩ := by subst h5; simp [namedM]
            have HV := Lib.hid hv
            have q2 : (kd == 2) = false := by simp [h2]
            have q3 : (kd == 3) = false := by simp [h3]
            have q4 : (kd == 4) = false := by simp [h4]
            have q7 : (kd == 7) = false := by simp [h7]
            have q5 : (kd == 5) = true := by simp [h5]
            clear hv h2 h3 h4 h7 h5
            go_enter Tryz.func38, Tryz.ntmps38
            go_upto_region 11 with fail
            go_region
            all_goals go_wp2_with fail
            have k := (blk_mid w (.cells #[.int .i64 kd, .int .i64 pl, .int .i64 ld, .string nm, .string ot, .int .i64 dy, .int .i64 pr, .int .i64 rl, .int .i64 rh] 34) (.cells #[.int .i64 kd, .int .i64 0, .int .i64 0, .string nm, .string ot, .int .i64 0, .int .i64 0, .int .i64 0, .int .i64 0] 34) #[.int .i64 kd, .int .i64 0, .int .i64 0, .string nm, .string ot, .int .i64 0, .int .i64 0, .int .i64 0, .int .i64 0] 34).drew
            have x0 := k.cell 0
            have x1 := k.cell 1
            have x2 := k.cell 2
            have x3 := k.cell 3
            have x4 := k.cell 4
            have x5 := k.cell 5
            have x6 := k.cell 6
            have x7 := k.cell 7
            have x8 := k.cell 8
            simp only [List.getElem?_toArray, List.getElem?_cons_zero, List.getElem?_cons_succ] at x0 x1 x2 x3 x4 x5 x6 x7 x8
            exact bodyPost_ret (v := .agg #[.int .i64 kd, .int .i64 0, .int .i64 0, .string nm, .string ot, .int .i64 0, .int .i64 0, .int .i64 0, .int .i64 0]) (by simp [results, Tryz.results38, go_sem, x0, x1, x2, x3, x4, x5, x6, x7, x8]) rfl ⟨by rw [HV.out], (below_mid _ _ _ _).drew⟩
          · skip
            by_cases h6 : kd = 6
            · have hv : namedM ⟨kd, pl, ld, nm, ot, dy, pr, rl, rh⟩ = ⟨kd, 0, 0, nm, ot, 0, pr, 0, 0⟩ := by subst h6; simp [namedM]
              have HV := Lib.hid hv
              have q2 : (kd == 2) = false := by simp [h2]
              have q3 : (kd == 3) = false := by simp [h3]
              have q4 : (kd == 4) = false := by simp [h4]
              have q7 : (kd == 7) = false := by simp [h7]
              have q5 : (kd == 5) = false := by simp [h5]
              have q6 : (kd == 6) = true := by simp [h6]
              clear hv h2 h3 h4 h7 h5 h6
              go_enter Tryz.func38, Tryz.ntmps38
              go_upto_region 13 with fail
              go_region
              all_goals go_wp2_with fail
              have k := (blk_mid w (.cells #[.int .i64 kd, .int .i64 pl, .int .i64 ld, .string nm, .string ot, .int .i64 dy, .int .i64 pr, .int .i64 rl, .int .i64 rh] 34) (.cells #[.int .i64 kd, .int .i64 0, .int .i64 0, .string nm, .string ot, .int .i64 0, .int .i64 pr, .int .i64 0, .int .i64 0] 34) #[.int .i64 kd, .int .i64 0, .int .i64 0, .string nm, .string ot, .int .i64 0, .int .i64 pr, .int .i64 0, .int .i64 0] 34).drew
              have x0 := k.cell 0
              have x1 := k.cell 1
              have x2 := k.cell 2
              have x3 := k.cell 3
              have x4 := k.cell 4
              have x5 := k.cell 5
              have x6 := k.cell 6
              have x7 := k.cell 7
              have x8 := k.cell 8
              simp only [List.getElem?_toArray, List.getElem?_cons_zero, List.getElem?_cons_succ] at x0 x1 x2 x3 x4 x5 x6 x7 x8
              exact bodyPost_ret (v := .agg #[.int .i64 kd, .int .i64 0, .int .i64 0, .string nm, .string ot, .int .i64 0, .int .i64 pr, .int .i64 0, .int .i64 0]) (by simp [results, Tryz.results38, go_sem, x0, x1, x2, x3, x4, x5, x6, x7, x8]) rfl ⟨by rw [HV.out], (below_mid _ _ _ _).drew⟩
            · skip
              by_cases h8 : kd = 8
              · have hv : namedM ⟨kd, pl, ld, nm, ot, dy, pr, rl, rh⟩ = ⟨kd, 0, 0, nm, ⟨#[]⟩, 0, 0, 0, 0⟩ := by subst h8; simp [namedM]
                have HV := Lib.hid hv
                have q2 : (kd == 2) = false := by simp [h2]
                have q3 : (kd == 3) = false := by simp [h3]
                have q4 : (kd == 4) = false := by simp [h4]
                have q7 : (kd == 7) = false := by simp [h7]
                have q5 : (kd == 5) = false := by simp [h5]
                have q6 : (kd == 6) = false := by simp [h6]
                have q8 : (kd == 8) = true := by simp [h8]
                clear hv h2 h3 h4 h7 h5 h6 h8
                go_enter Tryz.func38, Tryz.ntmps38
                all_goals go_wp2_with fail
                have k := (blk_mid w (.cells #[.int .i64 kd, .int .i64 pl, .int .i64 ld, .string nm, .string ot, .int .i64 dy, .int .i64 pr, .int .i64 rl, .int .i64 rh] 34) (.cells #[.int .i64 kd, .int .i64 0, .int .i64 0, .string nm, .string ⟨#[]⟩, .int .i64 0, .int .i64 0, .int .i64 0, .int .i64 0] 34) #[.int .i64 kd, .int .i64 0, .int .i64 0, .string nm, .string ⟨#[]⟩, .int .i64 0, .int .i64 0, .int .i64 0, .int .i64 0] 34)
                have x0 := k.cell 0
                have x1 := k.cell 1
                have x2 := k.cell 2
                have x3 := k.cell 3
                have x4 := k.cell 4
                have x5 := k.cell 5
                have x6 := k.cell 6
                have x7 := k.cell 7
                have x8 := k.cell 8
                simp only [List.getElem?_toArray, List.getElem?_cons_zero, List.getElem?_cons_succ] at x0 x1 x2 x3 x4 x5 x6 x7 x8
                exact bodyPost_ret (v := .agg #[.int .i64 kd, .int .i64 0, .int .i64 0, .string nm, .string ⟨#[]⟩, .int .i64 0, .int .i64 0, .int .i64 0, .int .i64 0]) (by simp [results, Tryz.results38, go_sem, x0, x1, x2, x3, x4, x5, x6, x7, x8]) rfl ⟨by rw [HV.out], (below_mid _ _ _ _)⟩
              · skip
                have hv : namedM ⟨kd, pl, ld, nm, ot, dy, pr, rl, rh⟩ = ⟨kd, 0, 0, ⟨#[]⟩, ⟨#[]⟩, 0, 0, 0, 0⟩ := by simp [namedM, h2, h3, h4, h7, h5, h6, h8]
                have HV := Lib.hid hv
                have q2 : (kd == 2) = false := by simp [h2]
                have q3 : (kd == 3) = false := by simp [h3]
                have q4 : (kd == 4) = false := by simp [h4]
                have q7 : (kd == 7) = false := by simp [h7]
                have q5 : (kd == 5) = false := by simp [h5]
                have q6 : (kd == 6) = false := by simp [h6]
                have q8 : (kd == 8) = false := by simp [h8]
                clear hv h2 h3 h4 h7 h5 h6 h8
                go_enter Tryz.func38, Tryz.ntmps38
                all_goals go_wp2_with fail
                have k := (blk_mid w (.cells #[.int .i64 kd, .int .i64 pl, .int .i64 ld, .string nm, .string ot, .int .i64 dy, .int .i64 pr, .int .i64 rl, .int .i64 rh] 34) (.cells #[.int .i64 kd, .int .i64 0, .int .i64 0, .string ⟨#[]⟩, .string ⟨#[]⟩, .int .i64 0, .int .i64 0, .int .i64 0, .int .i64 0] 34) #[.int .i64 kd, .int .i64 0, .int .i64 0, .string ⟨#[]⟩, .string ⟨#[]⟩, .int .i64 0, .int .i64 0, .int .i64 0, .int .i64 0] 34)
                have x0 := k.cell 0
                have x1 := k.cell 1
                have x2 := k.cell 2
                have x3 := k.cell 3
                have x4 := k.cell 4
                have x5 := k.cell 5
                have x6 := k.cell 6
                have x7 := k.cell 7
                have x8 := k.cell 8
                simp only [List.getElem?_toArray, List.getElem?_cons_zero, List.getElem?_cons_succ] at x0 x1 x2 x3 x4 x5 x6 x7 x8
                exact bodyPost_ret (v := .agg #[.int .i64 kd, .int .i64 0, .int .i64 0, .string ⟨#[]⟩, .string ⟨#[]⟩, .int .i64 0, .int .i64 0, .int .i64 0, .int .i64 0]) (by simp [results, Tryz.results38, go_sem, x0, x1, x2, x3, x4, x5, x6, x7, x8]) rfl ⟨by rw [HV.out], (below_mid _ _ _ _)⟩

set_option maxRecDepth 100000 in
set_option maxHeartbeats 4000000 in
theorem refNamed_any (a : Chr) (w : World) :
    Calls Tryz.prog 22 #[.agg (chrC a)] w fun e w' => e = .returned (.agg (chrC (namedM a))) ∧ Below w.heap.size w w' := by
  obtain ⟨kd, pl, ld, nm, ot, dy, pr, rl, rh⟩ := a
  show Calls _ _ #[.agg #[.int .i64 kd, .int .i64 pl, .int .i64 ld, .string nm, .string ot, .int .i64 dy, .int .i64 pr, .int .i64 rl, .int .i64 rh]] _ _
  by_cases h2 : kd = 2
  · have hv : namedM ⟨kd, pl, ld, nm, ot, dy, pr, rl, rh⟩ = ⟨kd, pl, ld, nm, ⟨#[]⟩, 0, 0, 0, 0⟩ := by subst h2; simp [namedM]
    have HV := Lib.hid hv
    have q2 : (kd == 2) = true := by simp [h2]
    clear hv h2
    go_enter Tryz.func22, Tryz.ntmps22
    go_upto_region 4 with fail
    go_region
    all_goals go_wp2_with fail
    have k := (blk_mid w (.cells #[.int .i64 kd, .int .i64 pl, .int .i64 ld, .string nm, .string ot, .int .i64 dy, .int .i64 pr, .int .i64 rl, .int .i64 rh] 34) (.cells #[.int .i64 kd, .int .i64 pl, .int .i64 ld, .string nm, .string ⟨#[]⟩, .int .i64 0, .int .i64 0, .int .i64 0, .int .i64 0] 34) #[.int .i64 kd, .int .i64 pl, .int .i64 ld, .string nm, .string ⟨#[]⟩, .int .i64 0, .int .i64 0, .int .i64 0, .int .i64 0] 34).drew
    have x0 := k.cell 0
    have x1 := k.cell 1
    have x2 := k.cell 2
    have x3 := k.cell 3
    have x4 := k.cell 4
    have x5 := k.cell 5
    have x6 := k.cell 6
    have x7 := k.cell 7
    have x8 := k.cell 8
    simp only [List.getElem?_toArray, List.getElem?_cons_zero, List.getElem?_cons_succ] at x0 x1 x2 x3 x4 x5 x6 x7 x8
    exact bodyPost_ret (v := .agg #[.int .i64 kd, .int .i64 pl, .int .i64 ld, .string nm, .string ⟨#[]⟩, .int .i64 0, .int .i64 0, .int .i64 0, .int .i64 0]) (by simp [results, Tryz.results22, go_sem, x0, x1, x2, x3, x4, x5, x6, x7, x8]) rfl ⟨by rw [HV.out], (below_mid _ _ _ _).drew⟩
  · skip
    by_cases h3 : kd = 3
    · have hv : namedM ⟨kd, pl, ld, nm, ot, dy, pr, rl, rh⟩ = ⟨kd, 0, 0, nm, ⟨#[]⟩, dy, 0, rl, rh⟩ := by subst h3; simp [namedM]
      have HV := Lib.hid hv
      have q2 : (kd == 2) = false := by simp [h2]
      have q3 : (kd == 3) = true := by simp [h3]
      clear hv h2 h3
      go_enter Tryz.func22, Tryz.ntmps22
      go_upto_region 6 with fail
      go_region
      all_goals go_wp2_with fail
      have k := (blk_mid w (.cells #[.int .i64 kd, .int .i64 pl, .int .i64 ld, .string nm, .string ot, .int .i64 dy, .int .i64 pr, .int .i64 rl, .int .i64 rh] 34) (.cells #[.int .i64 kd, .int .i64 0, .int .i64 0, .string nm, .string ⟨#[]⟩, .int .i64 dy, .int .i64 0, .int .i64 rl, .int .i64 rh] 34) #[.int .i64 kd, .int .i64 0, .int .i64 0, .string nm, .string ⟨#[]⟩, .int .i64 dy, .int .i64 0, .int .i64 rl, .int .i64 rh] 34).drew
      have x0 := k.cell 0
      have x1 := k.cell 1
      have x2 := k.cell 2
      have x3 := k.cell 3
      have x4 := k.cell 4
      have x5 := k.cell 5
      have x6 := k.cell 6
      have x7 := k.cell 7
      have x8 := k.cell 8
      simp only [List.getElem?_toArray, List.getElem?_cons_zero, List.getElem?_cons_succ] at x0 x1 x2 x3 x4 x5 x6 x7 x8
      exact bodyPost_ret (v := .agg #[.int .i64 kd, .int .i64 0, .int .i64 0, .string nm, .string ⟨#[]⟩, .int .i64 dy, .int .i64 0, .int .i64 rl, .int .i64 rh]) (by simp [results, Tryz.results22, go_sem, x0, x1, x2, x3, x4, x5, x6, x7, x8]) rfl ⟨by rw [HV.out], (below_mid _ _ _ _).drew⟩
    · skip
      by_cases h4 : kd = 4
      · have hv : namedM ⟨kd, pl, ld, nm, ot, dy, pr, rl, rh⟩ = ⟨kd, 0, ld, nm, ⟨#[]⟩, 0, 0, 0, 0⟩ := by subst h4; simp [namedM]
        have HV := Lib.hid hv
        have q2 : (kd == 2) = false := by simp [h2]
        have q3 : (kd == 3) = false := by simp [h3]
        have q4 : (kd == 4) = true := by simp [h4]
        clear hv h2 h3 h4
        go_enter Tryz.func22, Tryz.ntmps22
        go_upto_region 9 with fail
        go_region
        all_goals go_wp2_with fail
        have k := (blk_mid w (.cells #[.int .i64 kd, .int .i64 pl, .int .i64 ld, .string nm, .string ot, .int .i64 dy, .int .i64 pr, .int .i64 rl, .int .i64 rh] 34) (.cells #[.int .i64 kd, .int .i64 0, .int .i64 ld, .string nm, .string ⟨#[]⟩, .int .i64 0, .int .i64 0, .int .i64 0, .int .i64 0] 34) #[.int .i64 kd, .int .i64 0, .int .i64 ld, .string nm, .string ⟨#[]⟩, .int .i64 0, .int .i64 0, .int .i64 0, .int .i64 0] 34).drew
        have x0 := k.cell 0
        have x1 := k.cell 1
        have x2 := k.cell 2
        have x3 := k.cell 3
        have x4 := k.cell 4
        have x5 := k.cell 5
        have x6 := k.cell 6
        have x7 := k.cell 7
        have x8 := k.cell 8
        simp only [List.getElem?_toArray, List.getElem?_cons_zero, List.getElem?_cons_succ] at x0 x1 x2 x3 x4 x5 x6 x7 x8
        exact bodyPost_ret (v := .agg #[.int .i64 kd, .int .i64 0, .int .i64 ld, .string nm, .string ⟨#[]⟩, .int .i64 0, .int .i64 0, .int .i64 0, .int .i64 0]) (by simp [results, Tryz.results22, go_sem, x0, x1, x2, x3, x4, x5, x6, x7, x8]) rfl ⟨by rw [HV.out], (below_mid _ _ _ _).drew⟩
      · skip
        by_cases h7 : kd = 7
        · have hv : namedM ⟨kd, pl, ld, nm, ot, dy, pr, rl, rh⟩ = ⟨kd, 0, ld, nm, ⟨#[]⟩, 0, 0, 0, 0⟩ := by subst h7; simp [namedM]
          have HV := Lib.hid hv
          have q2 : (kd == 2) = false := by simp [h2]
          have q3 : (kd == 3) = false := by simp [h3]
          have q4 : (kd == 4) = false := by simp [h4]
          have q7 : (kd == 7) = true := by simp [h7]
          clear hv h2 h3 h4 h7
          go_enter Tryz.func22, Tryz.ntmps22
          go_upto_region 9 with fail
          go_region
          all_goals go_wp2_with fail
          have k := (blk_mid w (.cells #[.int .i64 kd, .int .i64 pl, .int .i64 ld, .string nm, .string ot, .int .i64 dy, .int .i64 pr, .int .i64 rl, .int .i64 rh] 34) (.cells #[.int .i64 kd, .int .i64 0, .int .i64 ld, .string nm, .string ⟨#[]⟩, .int .i64 0, .int .i64 0, .int .i64 0, .int .i64 0] 34) #[.int .i64 kd, .int .i64 0, .int .i64 ld, .string nm, .string ⟨#[]⟩, .int .i64 0, .int .i64 0, .int .i64 0, .int .i64 0] 34).drew
          have x0 := k.cell 0
          have x1 := k.cell 1
          have x2 := k.cell 2
          have x3 := k.cell 3
          have x4 := k.cell 4
          have x5 := k.cell 5
          have x6 := k.cell 6
          have x7 := k.cell 7
          have x8 := k.cell 8
          simp only [List.getElem?_toArray, List.getElem?_cons_zero, List.getElem?_cons_succ] at x0 x1 x2 x3 x4 x5 x6 x7 x8
          exact bodyPost_ret (v := .agg #[.int .i64 kd, .int .i64 0, .int .i64 ld, .string nm, .string ⟨#[]⟩, .int .i64 0, .int .i64 0, .int .i64 0, .int .i64 0]) (by simp [results, Tryz.results22, go_sem, x0, x1, x2, x3, x4, x5, x6, x7, x8]) rfl ⟨by rw [HV.out], (below_mid _ _ _ _).drew⟩
        · skip
          by_cases h5 : kd = 5
          · have hv : namedM ⟨kd, pl, ld, nm, ot, dy, pr, rl, rh⟩ = ⟨kd, 0, 0, nm, ot, 0, 0, 0, 0⟩ := by subst h5; simp [namedM]
            have HV := Lib.hid hv
            have q2 : (kd == 2) = false := by simp [h2]
            have q3 : (kd == 3) = false := by simp [h3]
            have q4 : (kd == 4) = false := by simp [h4]
            have q7 : (kd == 7) = false := by simp [h7]
            have q5 : (kd == 5) = true := by simp [h5]
            clear hv h2 h3 h4 h7 h5
            go_enter Tryz.func22, Tryz.ntmps22
            go_upto_region 11 with fail
            go_region
            all_goals go_wp2_with fail
            have k := (blk_mid w (.cells #[.int .i64 kd, .int .i64 pl, .int .i64 ld, .string nm, .string ot, .int .i64 dy, .int .i64 pr, .int .i64 rl, .int .i64 rh] 34) (.cells #[.int .i64 kd, .int .i64 0, .int .i64 0, .string nm, .string ot, .int .i64 0, .int .i64 0, .int .i64 0, .int .i64 0] 34) #[.int .i64 kd, .int .i64 0, .int .i64 0, .string nm, .string ot, .int .i64 0, .int .i64 0, .int .i64 0, .int .i64 0] 34).drew
            have x0 := k.cell 0
            have x1 := k.cell 1
            have x2 := k.cell 2
            have x3 := k.cell 3
            have x4 := k.cell 4
            have x5 := k.cell 5
            have x6 := k.cell 6
            have x7 := k.cell 7
            have x8 := k.cell 8
            simp only [List.getElem?_toArray, List.getElem?_cons_zero, List.getElem?_cons_succ] at x0 x1 x2 x3 x4 x5 x6 x7 x8
            exact bodyPost_ret (v := .agg #[.int .i64 kd, .int .i64 0, .int .i64 0, .string nm, .string ot, .int .i64 0, .int .i64 0, .int .i64 0, .int .i64 0]) (by simp [results, Tryz.results22, go_sem, x0, x1, x2, x3, x4, x5, x6, x7, x8]) rfl ⟨by rw [HV.out], (below_mid _ _ _ _).drew⟩
          · skip
            by_cases h6 : kd = 6
            · have hv : namedM ⟨kd, pl, ld, nm, ot, dy, pr, rl, rh⟩ = ⟨kd, 0, 0, nm, ot, 0, pr, 0, 0⟩ := by subst h6; simp [namedM]
              have HV := Lib.hid hv
              have q2 : (kd == 2) = false := by simp [h2]
              have q3 : (kd == 3) = false := by simp [h3]
              have q4 : (kd == 4) = false := by simp [h4]
              have q7 : (kd == 7) = false := by simp [h7]
              have q5 : (kd == 5) = false := by simp [h5]
              have q6 : (kd == 6) = true := by simp [h6]
              clear hv h2 h3 h4 h7 h5 h6
              go_enter Tryz.func22, Tryz.ntmps22
              go_upto_region 13 with fail
              go_region
              all_goals go_wp2_with fail
              have k := (blk_mid w (.cells #[.int .i64 kd, .int .i64 pl, .int .i64 ld, .string nm, .string ot, .int .i64 dy, .int .i64 pr, .int .i64 rl, .int .i64 rh] 34) (.cells #[.int .i64 kd, .int .i64 0, .int .i64 0, .string nm, .string ot, .int .i64 0, .int .i64 pr, .int .i64 0, .int .i64 0] 34) #[.int .i64 kd, .int .i64 0, .int .i64 0, .string nm, .string ot, .int .i64 0, .int .i64 pr, .int .i64 0, .int .i64 0] 34).drew
              have x0 := k.cell 0
              have x1 := k.cell 1
              have x2 := k.cell 2
              have x3 := k.cell 3
              have x4 := k.cell 4
              have x5 := k.cell 5
              have x6 := k.cell 6
              have x7 := k.cell 7
              have x8 := k.cell 8
              simp only [List.getElem?_toArray, List.getElem?_cons_zero, List.getElem?_cons_succ] at x0 x1 x2 x3 x4 x5 x6 x7 x8
              exact bodyPost_ret (v := .agg #[.int .i64 kd, .int .i64 0, .int .i64 0, .string nm, .string ot, .int .i64 0, .int .i64 pr, .int .i64 0, .int .i64 0]) (by simp [results, Tryz.results22, go_sem, x0, x1, x2, x3, x4, x5, x6, x7, x8]) rfl ⟨by rw [HV.out], (below_mid _ _ _ _).drew⟩
            · skip
              by_cases h8 : kd = 8
              · have hv : namedM ⟨kd, pl, ld, nm, ot, dy, pr, rl, rh⟩ = ⟨kd, 0, 0, nm, ⟨#[]⟩, 0, 0, 0, 0⟩ := by subst h8; simp [namedM]
                have HV := Lib.hid hv
                have q2 : (kd == 2) = false := by simp [h2]
                have q3 : (kd == 3) = false := by simp [h3]
                have q4 : (kd == 4) = false := by simp [h4]
                have q7 : (kd == 7) = false := by simp [h7]
                have q5 : (kd == 5) = false := by simp [h5]
                have q6 : (kd == 6) = false := by simp [h6]
                have q8 : (kd == 8) = true := by simp [h8]
                clear hv h2 h3 h4 h7 h5 h6 h8
                go_enter Tryz.func22, Tryz.ntmps22
                all_goals go_wp2_with fail
                have k := (blk_mid w (.cells #[.int .i64 kd, .int .i64 pl, .int .i64 ld, .string nm, .string ot, .int .i64 dy, .int .i64 pr, .int .i64 rl, .int .i64 rh] 34) (.cells #[.int .i64 kd, .int .i64 0, .int .i64 0, .string nm, .string ⟨#[]⟩, .int .i64 0, .int .i64 0, .int .i64 0, .int .i64 0] 34) #[.int .i64 kd, .int .i64 0, .int .i64 0, .string nm, .string ⟨#[]⟩, .int .i64 0, .int .i64 0, .int .i64 0, .int .i64 0] 34)
                have x0 := k.cell 0
                have x1 := k.cell 1
                have x2 := k.cell 2
                have x3 := k.cell 3
                have x4 := k.cell 4
                have x5 := k.cell 5
                have x6 := k.cell 6
                have x7 := k.cell 7
                have x8 := k.cell 8
                simp only [List.getElem?_toArray, List.getElem?_cons_zero, List.getElem?_cons_succ] at x0 x1 x2 x3 x4 x5 x6 x7 x8
                exact bodyPost_ret (v := .agg #[.int .i64 kd, .int .i64 0, .int .i64 0, .string nm, .string ⟨#[]⟩, .int .i64 0, .int .i64 0, .int .i64 0, .int .i64 0]) (by simp [results, Tryz.results22, go_sem, x0, x1, x2, x3, x4, x5, x6, x7, x8]) rfl ⟨by rw [HV.out], (below_mid _ _ _ _)⟩
              · skip
                have hv : namedM ⟨kd, pl, ld, nm, ot, dy, pr, rl, rh⟩ = ⟨kd, 0, 0, ⟨#[]⟩, ⟨#[]⟩, 0, 0, 0, 0⟩ := by simp [namedM, h2, h3, h4, h7, h5, h6, h8]
                have HV := Lib.hid hv
                have q2 : (kd == 2) = false := by simp [h2]
                have q3 : (kd == 3) = false := by simp [h3]
                have q4 : (kd == 4) = false := by simp [h4]
                have q7 : (kd == 7) = false := by simp [h7]
                have q5 : (kd == 5) = false := by simp [h5]
                have q6 : (kd == 6) = false := by simp [h6]
                have q8 : (kd == 8) = false := by simp [h8]
                clear hv h2 h3 h4 h7 h5 h6 h8
                go_enter Tryz.func22, Tryz.ntmps22
                all_goals go_wp2_with fail
                have k := (blk_mid w (.cells #[.int .i64 kd, .int .i64 pl, .int .i64 ld, .string nm, .string ot, .int .i64 dy, .int .i64 pr, .int .i64 rl, .int .i64 rh] 34) (.cells #[.int .i64 kd, .int .i64 0, .int .i64 0, .string ⟨#[]⟩, .string ⟨#[]⟩, .int .i64 0, .int .i64 0, .int .i64 0, .int .i64 0] 34) #[.int .i64 kd, .int .i64 0, .int .i64 0, .string ⟨#[]⟩, .string ⟨#[]⟩, .int .i64 0, .int .i64 0, .int .i64 0, .int .i64 0] 34)
                have x0 := k.cell 0
                have x1 := k.cell 1
                have x2 := k.cell 2
                have x3 := k.cell 3
                have x4 := k.cell 4
                have x5 := k.cell 5
                have x6 := k.cell 6
                have x7 := k.cell 7
                have x8 := k.cell 8
                simp only [List.getElem?_toArray, List.getElem?_cons_zero, List.getElem?_cons_succ] at x0 x1 x2 x3 x4 x5 x6 x7 x8
                exact bodyPost_ret (v := .agg #[.int .i64 kd, .int .i64 0, .int .i64 0, .string ⟨#[]⟩, .string ⟨#[]⟩, .int .i64 0, .int .i64 0, .int .i64 0, .int .i64 0]) (by simp [results, Tryz.results22, go_sem, x0, x1, x2, x3, x4, x5, x6, x7, x8]) rfl ⟨by rw [HV.out], (below_mid _ _ _ _)⟩

end Go.Proofs.YtfhalmlpnoepcaaGreat
