/-
  A bad part's sentence splits it (no program).
-/
import Derived.Test.YthhldnlbneamiaaSqh
namespace Go.Proofs.Ythhldnlbneamiaa.Sps
open Go.RowKit
open Go.Proofs.Ythhldnlbneamiaa.Dls Go.Proofs.Ythhldnlbneamiaa.Csa Go.Proofs.Ythhldnlbneamiaa.Csb Go.Proofs.Ythhldnlbneamiaa.Csc Go.Proofs.Ythhldnlbneamiaa.Csd Go.Proofs.Ythhldnlbneamiaa.Csf Go.Proofs.Ythhldnlbneamiaa.Csg Go.Proofs.Ythhldnlbneamiaa.Spx Go.Proofs.Ythhldnlbneamiaa.Bpu Go.Proofs.Ythhldnlbneamiaa.Spr Go.Proofs.Ythhldnlbneamiaa.Sqh
open Go.Proofs.Ythhldnlbneamiaa.Rel hiding Ll
open Go.Proofs.Ythhldnlbneamiaa.Cpu hiding Dp

theorem rise_good {c : Nat} {p : List Int} (h : GoodP c p) : riseB 0 ((c : Int) - 1) p = true := rise_iff.2 ⟨fun z hz => by have := h.2 z hz; omega, h.1⟩
theorem bad_sub {ds : List Dp} {p : List Int} (h : isBad ds p = true) : UpN (dOf ds p).1 ∧ UpN (dOf ds p).2 ∧ (∀ z ∈ (dOf ds p).1, z ∈ p) ∧ (∀ z ∈ (dOf ds p).2, z ∈ p) ∧ ∀ z ∈ (dOf ds p).1, z ∉ (dOf ds p).2 := by
  obtain ⟨n, hn, hf, hb⟩ := bad_get h
  have hw : withinB (bitS (n : Int)) (inS p) = true := by
    unfold badP at hb
    rw [Bool.and_eq_true] at hb
    exact hb.1
  have hd : dOf ds p = (listI (bitS (n : Int)), listI (lessS (tolS ds p n) (bitS (n : Int)))) := by unfold dOf; rw [hf]; rfl
  rw [hd]
  have key : ∀ i, inS p i = true → (i : Int) ∈ p := fun i hi => by
    unfold inS at hi
    exact of_decide_eq_true hi
  have hl : ∀ i, lessS (tolS ds p n) (bitS (n : Int)) i = true → tolS ds p n i = true ∧ bitS (n : Int) i = false := fun i hi => by
    have h' : (tolS ds p n i && !bitS (n : Int) i) = true := hi
    rw [Bool.and_eq_true] at h'
    exact ⟨h'.1, by simpa using h'.2⟩
  refine ⟨up_listI _, up_listI _, fun z hz => ?_, fun z hz => ?_, fun z hz hz2 => ?_⟩
  · obtain ⟨i, hi, hb, rfl⟩ := mem_listI.1 hz
    exact key i (withinB_iff.1 hw i hi hb)
  · obtain ⟨i, hi, hb, rfl⟩ := mem_listI.1 hz
    exact key i (tol_in i hi (hl i hb).1)
  · obtain ⟨i, hi, hb, rfl⟩ := mem_listI.1 hz
    obtain ⟨j, hj, hb2, e⟩ := mem_listI.1 hz2
    have e2 : i = j := by omega
    subst e2
    rw [(hl i hb2).2] at hb
    cases hb
theorem spl_bad {ds : List Dp} {p : List Int} {c : Nat} (hp : GoodP c p) (h1 : 1 ≤ c) (hc : c ≤ 6) (h : isBad ds p = true) : splG (c : Int) p (dOf ds p) = true := by
  obtain ⟨u1, u2, s1, s2, nd⟩ := bad_sub h
  have g1 : GoodP c (dOf ds p).1 := ⟨u1, fun z hz => hp.2 z (s1 z hz)⟩
  have g2 : GoodP c (dOf ds p).2 := ⟨u2, fun z hz => hp.2 z (s2 z hz)⟩
  have hdp : depB (c : Int) (dOf ds p) = true := by
    unfold depB
    rw [rise_good g1, rise_good g2]
    rfl
  unfold splG partG
  rw [goodD_one (by omega) (by omega), hdp, rise_good hp]
  have i1 : insideB (dOf ds p).1 p = true := insideB_iff.2 s1
  have i2 : insideB (dOf ds p).2 p = true := insideB_iff.2 s2
  rw [i1, i2]
  have hb : bothL (dOf ds p).1 (dOf ds p).2 = [] := List.filter_eq_nil_iff.2 (fun z hz => by rw [decide_eq_false (nd z hz)]; decide)
  rw [decide_eq_true hb]
  rfl


end Go.Proofs.Ythhldnlbneamiaa.Sps
