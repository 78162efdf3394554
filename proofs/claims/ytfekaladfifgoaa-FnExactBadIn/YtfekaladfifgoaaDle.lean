/-
  Marks of one sentence are held: contract of the laws' heldDep.
-/
import Derived.Test.YtfekaladfifgoaaDlk
namespace Go.Proofs.Ytfekaladfifgoaa.Dle
open Go.RowKit
open Go.Proofs.Ytfekaladfifgoaa.Frame Go.Proofs.Ytfekaladfifgoaa.Mem Go.Proofs.Ytfekaladfifgoaa.Ints Go.Proofs.Ytfekaladfifgoaa.Kep Go.Proofs.Ytfekaladfifgoaa.Lls Go.Proofs.Ytfekaladfifgoaa.Dls Go.Proofs.Ytfekaladfifgoaa.Dlk

set_option maxHeartbeats 800000 in
theorem e_held (u t : Value) (lo hi : Nat) (k nx : Int) (w : World) (h : EMarked w lo hi u t k nx) :
    Calls Try.prog 77 #[.agg #[u, t], .int .i64 k] w fun e w' => e = .returned (.int .i64 nx) ∧ Below w.heap.size w w' := by
  obtain ⟨n, m, ⟨ua, un, uc, rfl, uo, uw, ub, ur⟩, ⟨ta, tn, tc, rfl, to, tw, tb, tr⟩, rfl, hk0, hk1, hf⟩ := h
  have hnm : n = un := by have := uo.1; rw [ints_length, marks_length] at this; omega
  subst hnm
  have hmm : m = tn := by have := to.1; rw [ints_length, marks_length] at this; omega
  subst hmm
  obtain ⟨a', c', e, hr⟩ := isRow_own uo uw
  cases e
  obtain ⟨a'', c'', e, hs⟩ := isRow_own to tw
  cases e
  have b0 : Below w.heap.size w (w.alloc (.cells #[.slice ua n uc, .slice ta m tc] 26)) := (Below.refl w.heap.size w).alloc (Nat.le_refl _) _
  have HR : Hid (IsRow .i64 (w.alloc (.cells #[.slice ua n uc, .slice ta m tc] 26)) ua n uc (marks k n)) := IsRow.below hr b0
  have HS : Hid (IsRow .i64 (w.alloc (.cells #[.slice ua n uc, .slice ta m tc] 26)) ta m tc (marks (k + (n : Int)) m)) := IsRow.below hs b0
  have B0 : Hid (Below w.heap.size w (w.alloc (.cells #[.slice ua n uc, .slice ta m tc] 26))) := b0
  have hz1 : ¬ k + (n : Int) < 0 := by omega
  have hz2 : ¬ k + (n : Int) + (m : Int) < 0 := by omega
  clear b0 uo to ur tr tw uw hr hs hf
  go_enter Try.func77, Try.ntmps77
  go_wp2_with fail
  refine (Ints.heldIntS _ _ _ k _ HR.out ub hk0 (by omega)).mono ?_
  rintro e w1 ⟨rfl, rfl⟩
  go_wp2_with fail
  refine (Ints.heldIntS _ _ _ (k + (n : Int)) _ HS.out tb (by omega) (by omega)).mono ?_
  rintro e w2 ⟨rfl, rfl⟩
  go_wp2
  go_ret
  exact ⟨rfl, B0.out⟩


end Go.Proofs.Ytfekaladfifgoaa.Dle
