/-
  Links without a round (no program).
-/
import Derived.Test.YtkondmnkmbdncaaGpu
namespace Go.Proofs.Ytkondmnkmbdncaa.Gpr
open Go.Proofs.Ytkondmnkmbdncaa.Rel Go.Proofs.Ytkondmnkmbdncaa.Gpu

noncomputable def roundAt (xs : Ll) (k : Int) : Bool := (gRow xs k).any fun y => rB xs y k
noncomputable def roundB (xs : Ll) : Bool := (numN xs.length).any (roundAt xs)
noncomputable def plainV (xs : Ll) : Bool := goodG xs && !roundB xs
theorem round_iff {xs : Ll} {k : Int} : roundAt xs k = true ↔ ∃ y ∈ gRow xs k, Rch xs y k := by
  unfold roundAt
  rw [List.any_eq_true]
  exact ⟨fun ⟨y, h1, h2⟩ => ⟨y, h1, rB_iff.1 h2⟩, fun ⟨y, h1, h2⟩ => ⟨y, h1, rB_iff.2 h2⟩⟩
/-- A rising list of more than one has one that is not a given one. -/
theorem other_in {l : List Int} (h : UpN l) (hl : 1 < l.length) (k : Int) : ∃ j ∈ l, j ≠ k := by
  have h01 := upN_get h (i := 0) (j := 1) (by omega) hl
  by_cases e : l.getD 0 0 = k
  · exact ⟨l.getD 1 0, Mem.getD_mem hl, by omega⟩
  · exact ⟨l.getD 0 0, Mem.getD_mem (by omega), e⟩
theorem two_in {l : List Int} {j k : Int} (hj : j ∈ l) (hk : k ∈ l) (h : j ≠ k) : 1 < l.length := by
  match l, hj, hk with
  | [], hj, _ => cases hj
  | [x], hj, hk => rw [List.mem_singleton.1 hj, List.mem_singleton.1 hk] at h; exact absurd rfl h
  | _ :: _ :: _, _, _ => simp
theorem round_as {xs : Ll} (hg : GoodP xs) {k : Int} (hk : 0 ≤ k ∧ k < (xs.length : Int)) : (decide (k ∈ gRow xs k) || decide (1 < (groupN xs k).length)) = roundAt xs k := by
  rw [Bool.eq_iff_iff, Bool.or_eq_true, decide_eq_true_eq, decide_eq_true_eq, round_iff]
  constructor
  · rintro (h | h)
    · exact ⟨k, h, .refl⟩
    · obtain ⟨j, hj, hne⟩ := other_in (up_group xs k) h k
      obtain ⟨_, h1, h2⟩ := mem_group.1 hj
      rcases h1.first with e | ⟨y, hy, hr⟩
      · exact absurd e.symm hne
      · exact ⟨y, hy, hr.trans h2⟩
  · rintro ⟨y, hy, hr⟩
    by_cases e : y = k
    · subst e; exact .inl hy
    · exact .inr (two_in (mem_group.2 ⟨row_in hg hy, .one hy, hr⟩) (mem_group.2 ⟨hk, .refl, .refl⟩) e)
theorem round_no {xs : Ll} (h : ∀ j : Nat, j < xs.length → roundAt xs (j : Int) = false) : roundB xs = false := by
  unfold roundB
  rw [List.any_eq_false]
  intro z hz
  have := mem_numN.1 hz
  have h2 := h z.toNat (by omega)
  rw [show (z.toNat : Int) = z by omega] at h2
  rw [h2]
  decide
theorem round_yes {xs : Ll} {k : Nat} (hk : k < xs.length) (h : roundAt xs (k : Int) = true) : roundB xs = true :=
  List.any_eq_true.2 ⟨(k : Int), mem_numN.2 (by omega), h⟩


end Go.Proofs.Ytkondmnkmbdncaa.Gpr
