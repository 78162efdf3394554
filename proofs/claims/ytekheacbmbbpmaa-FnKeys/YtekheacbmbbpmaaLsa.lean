/-
  Tables taken apart, in the program: contracts of isDepWithin, IsKept.
-/
import Derived.Test.YtekheacbmbbpmaaSpx
namespace Go.Proofs.Ytekheacbmbbpmaa.Lsa
open Go.RowKit
open Go.Proofs.Ytekheacbmbbpmaa.Frame Go.Proofs.Ytekheacbmbbpmaa.Mem Go.Proofs.Ytekheacbmbbpmaa.Ints Go.Proofs.Ytekheacbmbbpmaa.Kep Go.Proofs.Ytekheacbmbbpmaa.Lls Go.Proofs.Ytekheacbmbbpmaa.Mis Go.Proofs.Ytekheacbmbbpmaa.Dls Go.Proofs.Ytekheacbmbbpmaa.Dlk Go.Proofs.Ytekheacbmbbpmaa.Csa Go.Proofs.Ytekheacbmbbpmaa.Csb Go.Proofs.Ytekheacbmbbpmaa.Csc Go.Proofs.Ytekheacbmbbpmaa.Csd Go.Proofs.Ytekheacbmbbpmaa.Csg Go.Proofs.Ytekheacbmbbpmaa.Spx
open Go.Proofs.Ytekheacbmbbpmaa.Rel hiding Ll
open Go.Proofs.Ytekheacbmbbpmaa.Cpu hiding Dp

theorem one_isG {W : World} {g : Nat} {fa ta : Option Addr} {fn fc tn tc : Nat} {d : Dp} (h : EIs W (.slice fa fn fc) (.slice ta tn tc) d) (hg : g < W.heap.size) (c0 : W.cell? ⟨g, 0, none⟩ = some (.slice fa fn fc)) (c1 : W.cell? ⟨g, 1, none⟩ = some (.slice ta tn tc)) : IsG W (some ⟨g, 0, none⟩) 1 1 [⟨fa, fn, fc, d.1⟩, ⟨ta, tn, tc, d.2⟩] := by
  obtain ⟨⟨_, _, _, e, hf, _⟩, ⟨_, _, _, e', ht, _⟩⟩ := h
  cases e
  cases e'
  refine ⟨rfl, Nat.le_refl _, by unfold maxLen; omega, fun r hr => ?_, fun _ => ⟨g, 0, rfl, hg, fun i hi => ?_⟩⟩
  · rcases List.mem_cons.1 hr with rfl | hr
    · exact hf
    · rw [List.mem_singleton.1 hr]; exact ht
  · obtain rfl : i = 0 := by omega
    exact ⟨c0, c1⟩
theorem part_of {cols : Int} {ps : List Int} {d : Dp} (h : partG cols ps d = true) : 1 ≤ cols ∧ cols ≤ 6 ∧ depB cols d = true ∧ InC d.1 ∧ InC d.2 ∧ InC ps ∧ UpN d.1 ∧ UpN d.2 ∧ UpN ps ∧ insideB d.1 ps = true ∧ insideB d.2 ps = true := by
  unfold partG at h
  rw [Bool.and_eq_true, Bool.and_eq_true, Bool.and_eq_true] at h
  obtain ⟨⟨hg, hr⟩, h1, h2⟩ := h
  have hc := cols_of hg
  have hd := hc.2.2.2.2 d (List.mem_singleton.2 rfl)
  have hdc := depB_cols hd hc.2.2.1
  have hr6 := rise_cols hr hc.2.2.1
  have hd' := hd
  unfold depB at hd'
  rw [Bool.and_eq_true, rise_iff, rise_iff] at hd'
  exact ⟨hc.2.1, hc.2.2.1, hd, hdc.1, hdc.2, hr6, hd'.1.2, hd'.2.2, (rise_iff.1 hr).2, h1, h2⟩
theorem cells_one (w : World) (x y : Value) (t : TypeId) : (w.alloc (.cells #[x, y] t)).cell? ⟨w.heap.size, 0, none⟩ = some x ∧ (w.alloc (.cells #[x, y] t)).cell? ⟨w.heap.size, 1, none⟩ = some y := by
  constructor <;> rw [World.cell?_alloc_at _ _ _ _ rfl] <;> rfl


end Go.Proofs.Ytekheacbmbbpmaa.Lsa
