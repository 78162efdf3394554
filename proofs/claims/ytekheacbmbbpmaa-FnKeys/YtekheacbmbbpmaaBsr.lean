/-
  The first bad list of columns: contracts of BadIn, of the model and of the program.
-/
import Derived.Test.YtekheacbmbbpmaaBsq
import Derived.Test.YtekheacbmbbpmaaLsa
import Derived.Deep.LoopGhost
import Derived.Deep.DeepCutAuto
import Derived.Test.YtekheacbmbbpmaaIvb
namespace Go.Proofs.Ytekheacbmbbpmaa.Bsr
open Go.RowKit
open Go.Proofs.Ytekheacbmbbpmaa.Frame Go.Proofs.Ytekheacbmbbpmaa.Mem Go.Proofs.Ytekheacbmbbpmaa.Ints Go.Proofs.Ytekheacbmbbpmaa.Kep Go.Proofs.Ytekheacbmbbpmaa.Lls Go.Proofs.Ytekheacbmbbpmaa.Mis Go.Proofs.Ytekheacbmbbpmaa.Dls Go.Proofs.Ytekheacbmbbpmaa.Dlk Go.Proofs.Ytekheacbmbbpmaa.Csa Go.Proofs.Ytekheacbmbbpmaa.Csb Go.Proofs.Ytekheacbmbbpmaa.Csc Go.Proofs.Ytekheacbmbbpmaa.Csd Go.Proofs.Ytekheacbmbbpmaa.Csf Go.Proofs.Ytekheacbmbbpmaa.Csg Go.Proofs.Ytekheacbmbbpmaa.Ssc Go.Proofs.Ytekheacbmbbpmaa.Spx Go.Proofs.Ytekheacbmbbpmaa.Spy Go.Proofs.Ytekheacbmbbpmaa.Bpu Go.Proofs.Ytekheacbmbbpmaa.Bsp Go.Proofs.Ytekheacbmbbpmaa.Bsq
open Go.Proofs.Ytekheacbmbbpmaa.Rel hiding Ll
open Go.Proofs.Ytekheacbmbbpmaa.Cpu hiding Dp

theorem bad_no {cols : Int} {ds : List Dp} {ps : List Int} (h : closG cols ds ps = false) : badV cols ds ps = ([], []) ∧ badG cols ds ps = false := by
  unfold badV badG
  rw [h]
  exact ⟨rfl, rfl⟩
theorem bad_yes {cols : Int} {ds : List Dp} {ps : List Int} (h : closG cols ds ps = true) : badV cols ds ps = badO ds ps (badF ds ps) ∧ badG cols ds ps = (badF ds ps).isSome := by
  unfold badV badG
  rw [h]
  exact ⟨rfl, rfl⟩
theorem clos_of {cols : Int} {ds : List Dp} {ps : List Int} (h : closG cols ds ps = true) : goodD cols ds = true ∧ Cols ds ∧ UpN ps ∧ InC ps ∧ 1 ≤ cols ∧ cols ≤ 6 ∧ ∀ z ∈ ps, z < cols := by
  unfold closG at h
  rw [Bool.and_eq_true] at h
  obtain ⟨hg, hr⟩ := h
  have hc := cols_of hg
  exact ⟨hg, hc.1, (rise_iff.1 hr).2, rise_cols hr hc.2.2.1, hc.2.1, hc.2.2.1, fun z hz => by have := (rise_iff.1 hr).1 z hz; omega⟩
theorem depR_more {w w1 w2 : World} {d : Dp} {b : Nat} {ok : Bool} {ua ta : Option Addr} {un uc tn tc : Nat} (h : EOwn w2 w1.heap.size w2.heap.size (.slice ua un uc) (.slice ta tn tc) d) (hb : b < w1.heap.size) (hw : w.heap.size ≤ b) (hB : Below w.heap.size w w2) (v0 v1 : Value) : DepR d ok w (.returned (.tuple #[.agg #[.slice ua un uc, .slice ta tn tc], .bool ok])) ((w2.setCell ⟨b, 0, none⟩ v0).setCell ⟨b, 1, none⟩ v1) :=
  ⟨_, _, _, _, _, _, rfl, eOwn_wide (eOwn_set (eOwn_set h _ _ hb) _ _ hb) (by omega) (by simp), (hB.setCell hw _).setCell hw _⟩


theorem pow_six {c : Nat} (h : c ≤ 6) : 2 ^ c ≤ 64 := by
  obtain rfl | rfl | rfl | rfl | rfl | rfl | rfl : c = 0 ∨ c = 1 ∨ c = 2 ∨ c = 3 ∨ c = 4 ∨ c = 5 ∨ c = 6 := by omega
  all_goals decide
theorem shl_one {c : Nat} (h : c ≤ 6) : wrap64 ((2 : Int) ^ c) = ((2 ^ c : Nat) : Int) := by
  obtain rfl | rfl | rfl | rfl | rfl | rfl | rfl : c = 0 ∨ c = 1 ∨ c = 2 ∨ c = 3 ∨ c = 4 ∨ c = 5 ∨ c = 6 := by omega
  all_goals kernel_rfl
theorem em_bool (b : Bool) : b = false ∨ b = true := by cases b <;> simp
theorem within_all {f g : Cs} (h : ∀ i, i < 6 → f i = true → g i = true) : withinB f g = true := withinB_iff.2 h
theorem within_not {f g : Cs} {i : Nat} (hi : i < 6) (hf : f i = true) (hg : g i = false) : withinB f g = false := by
  cases h : withinB f g
  · rfl
  · have := withinB_iff.1 h i hi hf
    rw [hg] at this
    cases this


end Go.Proofs.Ytekheacbmbbpmaa.Bsr
