/- Edges, whole: what it returns of any roof. -/
import Derived.Test.YtpdgcajbdaleeaaZE
namespace Go.Proofs.Ytpdgcajbdaleeaa
open Go.RowKit

/-- The numbers of a face that may be are within their limits. -/
theorem faceE_ok {f : Fac} {l : List Fac} (h : faceE f l = 0) : f.ok := by
  unfold faceE at h
  split at h
  · omega
  split at h
  · omega
  split at h
  · omega
  rename_i h1
  split at h
  · omega
  rename_i h2
  split at h
  · omega
  rename_i h3
  split at h
  · omega
  rename_i h4
  split at h
  · omega
  rename_i h5
  simp [isFromB] at h1 h2 h3 h4 h5
  exact ⟨h1.1, h1.2, h2.1, h2.2, h3.1, h3.2, h4.1, h4.2, h5.1, h5.2⟩
theorem facesE_ok {fs : List Fac} (h : facesE fs = 0) : ∀ f ∈ fs, f.ok := by
  intro f hf
  obtain ⟨i, hi, rfl⟩ := List.getElem_of_mem hf
  have := firstNZ_all h i hi
  rw [List.getElem?_eq_getElem hi] at this
  exact faceE_ok this
theorem checkE_ok {R : Roo} (h : checkE R = 0) : ∀ f ∈ R.fs, f.ok := by
  unfold checkE at h
  split at h
  · omega
  split at h
  · rename_i h2
    exact absurd h h2
  rename_i h2
  exact facesE_ok (Classical.not_not.1 h2)

/-- What Edges returns. -/
def EdgesSaid (R : Roo) (w : World) (e : Ending) (w' : World) : Prop :=
  Below w.heap.size w w' ∧
    if ¬ checkE R = 0 then e = .returned (.tuple #[.slice none 0 0, .int .i64 (checkE R)]) else
      ∃ v, e = .returned (.tuple #[v, .int .i64 0]) ∧ w'.ownsRow w.heap.size 57 5 v (allR R.fs R.fs.length).length (rowsV (allR R.fs R.fs.length))

set_option maxRecDepth 100000 in
set_option maxHeartbeats 2000000 in
theorem edges_any (R : Roo) (w : World) (hR : IsRoof w R) :
    Calls Try.prog 25 #[.agg #[.slice R.fa R.fs.length R.fc, .slice R.oa R.os.length R.oc]] w (EdgesSaid R w) := by
  obtain ⟨fa, fc, fs, oa, oc, os⟩ := R
  have hB : Below w.heap.size w (w.alloc (.cells #[.slice fa fs.length fc, .slice oa os.length oc] 25)) := (Below.refl _ _).alloc (Nat.le_refl _) _
  have kR := Blk.new w 25 #[.slice fa fs.length fc, .slice oa os.length oc]
  have hsz : (w.alloc (.cells #[.slice fa fs.length fc, .slice oa os.length oc] 25)).heap.size = w.heap.size + 1 := by simp
  have HSZ := Lib.hid hsz
  have HR := Lib.hid hR
  clear hR hsz
  go_enter Try.func25, Try.ntmps25
  go_wp2_with fail
  refine (check_any ⟨fa, fc, fs, oa, oc, os⟩ _ (HR.out.below hB)).mono ?_
  rintro e w1 ⟨rfl, hb1⟩
  have hB1 := hB.trans (hb1.mono (by rw [HSZ.out]; omega))
  have kR1 := kR.belowS hb1
  clear kR hB hb1
  generalize hE : checkE ⟨fa, fc, fs, oa, oc, os⟩ = E
  have HE := Lib.hid hE
  clear hE
  by_cases h0 : E = 0
  · subst h0
    have hz : ((0 : Int) == 0) = true := rfl
    have c0 := kR1.cell 0
    have c1 := kR1.cell 1
    simp only [List.getElem?_toArray, List.getElem?_cons_zero, List.getElem?_cons_succ] at c0 c1
    go_wp2_with fail
    refine (edgesOf_any ⟨fa, fc, fs, oa, oc, os⟩ _ (HR.out.below hB1) (checkE_faces HE.out).1 (checkE_faces HE.out).2 (checkE_ok HE.out)).mono ?_
    rintro e w2 ⟨v, rfl, hrow, hb2⟩
    have HROW := Lib.hid hrow
    have hs1 := hB1.size
    clear hrow
    go_wp2_with fail
    go_ret2
    refine ⟨hB1.trans (hb2.mono hs1), ?_⟩
    rw [if_neg (by rw [HE.out]; simp)]
    exact ⟨v, rfl, ownsRow_kept2 HROW.out hs1 (fun _ _ h _ => h)⟩
  · have hz : (E == 0) = false := by simp [h0]
    have hz' : (E != 0) = true := by simp [h0]
    have H0 := Lib.hid h0
    clear h0
    go_wp2_with fail
    go_ret2
    refine ⟨hB1, ?_⟩
    rw [if_pos (by rw [HE.out]; exact H0.out), HE.out]
    rfl
end Go.Proofs.Ytpdgcajbdaleeaa
