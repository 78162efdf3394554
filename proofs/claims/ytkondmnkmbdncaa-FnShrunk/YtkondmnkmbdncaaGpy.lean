/-
  Groups made one each lead nowhere round (no program).
-/
import Derived.Test.YtkondmnkmbdncaaGpw
import Derived.Test.YtkondmnkmbdncaaGpr
namespace Go.Proofs.Ytkondmnkmbdncaa.Gpy
open Go.Proofs.Ytkondmnkmbdncaa.Rel Go.Proofs.Ytkondmnkmbdncaa.Gpu Go.Proofs.Ytkondmnkmbdncaa.Gpb Go.Proofs.Ytkondmnkmbdncaa.Gpv Go.Proofs.Ytkondmnkmbdncaa.Gpw Go.Proofs.Ytkondmnkmbdncaa.Gpr

theorem shrink_at (xs : Ll) {i : Nat} (h : i < (shrinkN xs).length) : (shrinkN xs).getD i [] = shrinkRow xs (groupsN xs) i := by
  rw [shrink_len] at h
  simp [shrinkN, List.getD, h]
theorem shrink_less {xs : Ll} {i : Nat} {z : Int} (h : z ∈ shrinkRow xs (groupsN xs) i) : 0 ≤ z ∧ z < (i : Int) := mem_numN.1 (List.mem_filter.1 h).1
theorem shrink_good {xs : Ll} (hg : GoodP xs) : GoodP (shrinkN xs) := by
  refine ⟨by rw [shrink_len]; exact Nat.le_trans (groups_len xs xs.length (numN xs.length)) hg.few, fun r hr => ?_, fun r hr z hz => ?_⟩
  · obtain ⟨i, hi, rfl⟩ := List.mem_map.1 hr
    exact up_filter (up_numN i) _
  · obtain ⟨i, hi, rfl⟩ := List.mem_map.1 hr
    have h1 := List.mem_range.1 hi
    have h2 := shrink_less hz
    rw [shrink_len]
    omega
theorem shrink_down {xs : Ll} {i j : Int} (hi : 0 ≤ i) (h : Rch (shrinkN xs) i j) : 0 ≤ j ∧ j ≤ i := by
  induction h with
  | refl => omega
  | step _ he ih =>
    rename_i j k _
    have hj : j.toNat < (shrinkN xs).length := by
      by_cases hl : j.toNat < (shrinkN xs).length
      · exact hl
      · unfold gRow at he
        rw [List.getD, List.getElem?_eq_none (by omega)] at he
        cases he
    unfold gRow at he
    rw [shrink_at xs hj] at he
    have := shrink_less he
    omega
theorem shrink_plain {xs : Ll} (hg : GoodP xs) : plainV (shrinkN xs) = true ∧ goodG (shrinkN xs) = true := by
  have hG := good_iff.2 (shrink_good hg)
  refine ⟨?_, hG⟩
  unfold plainV
  rw [hG, round_no (fun j hj => ?_)]
  · rfl
  · cases h : roundAt (shrinkN xs) (j : Int)
    · rfl
    · exfalso
      obtain ⟨y, hy, hr⟩ := round_iff.1 h
      unfold gRow at hy
      rw [show ((j : Int)).toNat = j by omega, shrink_at xs hj] at hy
      have h1 := shrink_less hy
      have h2 := shrink_down h1.1 hr
      omega


end Go.Proofs.Ytkondmnkmbdncaa.Gpy
