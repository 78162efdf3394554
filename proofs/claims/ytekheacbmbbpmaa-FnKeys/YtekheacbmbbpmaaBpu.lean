/-
  The first bad list of columns, as data; a set of columns by its number: what both ways of looking for it rest on.
-/
import Derived.Test.YtekheacbmbbpmaaSpx
import Derived.Test.YtekheacbmbbpmaaSsc
namespace Go.Proofs.Ytekheacbmbbpmaa.Bpu
open Go.RowKit
open Go.Proofs.Ytekheacbmbbpmaa.Frame Go.Proofs.Ytekheacbmbbpmaa.Mem Go.Proofs.Ytekheacbmbbpmaa.Csa Go.Proofs.Ytekheacbmbbpmaa.Csb Go.Proofs.Ytekheacbmbbpmaa.Csc Go.Proofs.Ytekheacbmbbpmaa.Csd Go.Proofs.Ytekheacbmbbpmaa.Csf Go.Proofs.Ytekheacbmbbpmaa.Csg Go.Proofs.Ytekheacbmbbpmaa.Spx
open Go.Proofs.Ytekheacbmbbpmaa.Rel hiding Ll
open Go.Proofs.Ytekheacbmbbpmaa.Cpu

/-! Sets by their numbers. -/
theorem bit_far : ∀ c, c < 7 → ∀ m, m < 64 → 2 ^ c ≤ m → ∃ i, i < 6 ∧ c ≤ i ∧ bitS ((m : Nat) : Int) i = true := by
  have h : (∀ c : Fin 7, ∀ m : Fin 64, 2 ^ c.val ≤ m.val → ∃ i : Fin 6, c.val ≤ i.val ∧ bitS ((m.val : Nat) : Int) i.val = true) := by decide +kernel
  intro c hc m hm hcm
  obtain ⟨i, h1, h2⟩ := h ⟨c, hc⟩ ⟨m, hm⟩ hcm
  exact ⟨i.val, i.isLt, h1, h2⟩
theorem bit_le : ∀ m n, m < 64 → n < 64 → withinB (bitS ((m : Nat) : Int)) (bitS ((n : Nat) : Int)) = true → m ≤ n := by
  have h : (∀ m n : Fin 64, withinB (bitS ((m.val : Nat) : Int)) (bitS ((n.val : Nat) : Int)) = true → m.val ≤ n.val) := by decide +kernel
  exact fun m n hm hn hw => h ⟨m, hm⟩ ⟨n, hn⟩ hw
theorem bit_and : ∀ m n, m < 64 → n < 64 → (bits .and .i64 ((m : Nat) : Int) ((n : Nat) : Int) == ((m : Nat) : Int)) = withinB (bitS ((m : Nat) : Int)) (bitS ((n : Nat) : Int)) := by
  have h : (∀ m n : Fin 64, (bits .and .i64 ((m.val : Nat) : Int) ((n.val : Nat) : Int) == ((m.val : Nat) : Int)) = withinB (bitS ((m.val : Nat) : Int)) (bitS ((n.val : Nat) : Int))) := by decide +kernel
  exact fun m n hm hn => h ⟨m, hm⟩ ⟨n, hn⟩
theorem bit_or : ∀ m k, m < 64 → k < 6 → ∃ m', m' < 64 ∧ bits .or .i64 ((m : Nat) : Int) ((2 ^ k : Nat) : Int) = ((m' : Nat) : Int) ∧ ∀ i, i < 6 → bitS ((m' : Nat) : Int) i = setS (bitS ((m : Nat) : Int)) k true i := by
  have h : (∀ m : Fin 64, ∀ k : Fin 6, ∃ m' : Fin 64, bits .or .i64 ((m.val : Nat) : Int) ((2 ^ k.val : Nat) : Int) = ((m'.val : Nat) : Int) ∧ ∀ i : Fin 6, bitS ((m'.val : Nat) : Int) i.val = setS (bitS ((m.val : Nat) : Int)) k.val true i.val) := by decide +kernel
  intro m k hm hk
  obtain ⟨m', h1, h2⟩ := h ⟨m, hm⟩ ⟨k, hk⟩
  exact ⟨m'.val, m'.isLt, h1, fun i hi => h2 ⟨i, hi⟩⟩
theorem within_congr {f f' g g' : Cs} (hf : ∀ i, i < 6 → f i = f' i) (hg : ∀ i, i < 6 → g i = g' i) : withinB f g = withinB f' g' := by
  rw [Bool.eq_iff_iff, withinB_iff, withinB_iff]
  exact ⟨fun h i hi hx => by rw [← hg i hi]; exact h i hi (by rw [hf i hi]; exact hx), fun h i hi hx => by rw [hg i hi]; exact h i hi (by rw [← hf i hi]; exact hx)⟩
theorem same_congr {f f' g g' : Cs} (hf : ∀ i, i < 6 → f i = f' i) (hg : ∀ i, i < 6 → g i = g' i) : sameS f g = sameS f' g' := by
  rw [Bool.eq_iff_iff, sameS_iff, sameS_iff]
  exact ⟨fun h i hi => by rw [← hf i hi, ← hg i hi]; exact h i hi, fun h i hi => by rw [hf i hi, hg i hi]; exact h i hi⟩

/-! What is bad. -/
noncomputable def tolS (ds : List Dp) (ps : List Int) (n : Nat) : Cs := andS (clS ds (bitS (n : Int))) (inS ps)
noncomputable def badP (ds : List Dp) (ps : List Int) (n : Nat) : Bool := withinB (bitS (n : Int)) (inS ps) && (!sameS (tolS ds ps n) (bitS (n : Int)) && !sameS (tolS ds ps n) (inS ps))
noncomputable def badF (ds : List Dp) (ps : List Int) : Option Nat := (List.range 64).find? (badP ds ps)
noncomputable def badO (ds : List Dp) (ps : List Int) : Option Nat → Dp
  | none => ([], [])
  | some n => (listI (bitS (n : Int)), listI (lessS (tolS ds ps n) (bitS (n : Int))))
noncomputable def badG (cols : Int) (ds : List Dp) (ps : List Int) : Bool := closG cols ds ps && (badF ds ps).isSome
noncomputable def badV (cols : Int) (ds : List Dp) (ps : List Int) : Dp := if closG cols ds ps then badO ds ps (badF ds ps) else ([], [])
theorem bad_at {ds : List Dp} {ps : List Int} {k : Nat} (h0 : ∀ m, m < k → badP ds ps m = false) (h : badP ds ps k = true) (hk : k < 64) : badF ds ps = some k := by
  unfold badF
  rw [List.find?_range_eq_some]
  refine ⟨h, List.mem_range.2 hk, fun j hj => ?_⟩
  rw [h0 j hj]
  rfl
theorem bad_none {ds : List Dp} {ps : List Int} (h0 : ∀ m, m < 64 → badP ds ps m = false) : badF ds ps = none := by
  unfold badF
  rw [List.find?_range_eq_none]
  intro j hj
  rw [h0 j hj]
  rfl
theorem bad_out {ds : List Dp} {ps : List Int} {n : Nat} (h : withinB (bitS (n : Int)) (inS ps) = false) : badP ds ps n = false := by unfold badP; rw [h]; rfl
theorem bad_all {ds : List Dp} {ps : List Int} {c : Nat} (hc : c ≤ 6) (hp : ∀ z ∈ ps, z < (c : Int)) (h0 : ∀ m, m < 2 ^ c → badP ds ps m = false) : badF ds ps = none := by
  refine bad_none (fun m hm => ?_)
  by_cases hlt : m < 2 ^ c
  · exact h0 m hlt
  · refine bad_out ?_
    obtain ⟨i, hi, hci, hb⟩ := bit_far c (by omega) m hm (by omega)
    cases hw : withinB (bitS (m : Int)) (inS ps)
    · rfl
    · have := of_decide_eq_true (withinB_iff.1 hw i hi hb)
      have := hp _ this
      omega
theorem bad_upto {ds : List Dp} {ps : List Int} {n : Nat} (hn : n < 64) (hs : ∀ i, i < 6 → bitS (n : Int) i = inS ps i) (h0 : ∀ m, m ≤ n → badP ds ps m = false) : badF ds ps = none := by
  refine bad_none (fun m hm => ?_)
  by_cases hle : m ≤ n
  · exact h0 m hle
  · refine bad_out ?_
    cases hw : withinB (bitS (m : Int)) (inS ps)
    · rfl
    · rw [← within_congr (f := bitS (m : Int)) (fun _ _ => rfl) hs] at hw
      exact absurd (bit_le m n hm hn hw) hle

/-! The lists that the model holds against each other. -/
theorem len_lt {f g : Cs} (h : ∀ i, i < 6 → f i = true → g i = true) : decide ((listI f).length < (listI g).length) = !sameS g f := by
  rw [Ssc.listI_count, Ssc.listI_count]
  cases hs : sameS g f
  · refine decide_eq_true (Csc.countP_lt _ (fun i hi hp => h i (List.mem_range.1 hi) hp) ?_)
    apply Classical.byContradiction
    intro hno
    have : sameS g f = true := sameS_iff.2 (fun i hi => by
      cases hg : g i
      · cases hf : f i
        · rfl
        · rw [h i hi hf] at hg; cases hg
      · cases hf : f i
        · exact absurd ⟨i, List.mem_range.2 hi, hg, hf⟩ hno
        · rfl)
    rw [hs] at this
    cases this
  · refine decide_eq_false ?_
    have e : List.countP g (List.range 6) = List.countP f (List.range 6) := List.countP_congr (fun i hi => by rw [sameS_iff.1 hs i (List.mem_range.1 hi)])
    rw [e]
    exact Nat.lt_irrefl _
theorem told_is {ds : List Dp} {ps : List Int} {n : Nat} (hd : Cols ds) (hu : UpN ps) (hp : InC ps) : bothL ps (clL ds (listI (bitS (n : Int)))) = listI (tolS ds ps n) := by
  have hc : InC (listI (bitS (n : Int))) := fun z hz => by obtain ⟨i, hi, _, rfl⟩ := mem_listI.1 hz; omega
  refine upN_told (both_up hu) (up_listI _) (fun s => ?_)
  rw [mem_both, mem_clL hd hc, setP_list, show tolS ds ps n = andS (clS ds (bitS (n : Int))) (inS ps) from rfl, setP_and, setP_inS hp]
  have e : Cl ds (fun z => z ∈ listI (bitS (n : Int))) s ↔ setP (clS ds (bitS (n : Int))) s := by
    constructor
    · intro h
      have hz := Cl.col hd hc h
      exact ⟨s.toNat, by omega, clS_iff.2 (by rw [show ((s.toNat : Nat) : Int) = s by omega]; exact Cl.mono (fun z hz => Cl.base (setP_list.1 hz)) h), by omega⟩
    · rintro ⟨i, _, h, rfl⟩
      exact Cl.mono (fun z hz => Cl.base (setP_list.2 hz)) (clS_iff.1 h)
  rw [e]
  exact And.comm
theorem bit_tol {ds : List Dp} {ps : List Int} {n : Nat} (h : withinB (bitS (n : Int)) (inS ps) = true) : ∀ i, i < 6 → bitS (n : Int) i = true → tolS ds ps n i = true := fun i hi hb => by
  show (clS ds (bitS (n : Int)) i && inS ps i) = true
  rw [withinB_iff.1 h i hi hb, Bool.and_true, clS_iff]
  exact Cl.base ⟨i, hi, hb, rfl⟩
theorem tol_in {ds : List Dp} {ps : List Int} {n : Nat} : ∀ i, i < 6 → tolS ds ps n i = true → inS ps i = true := fun i _ h => by
  have h' : (clS ds (bitS (n : Int)) i && inS ps i) = true := h
  rw [Bool.and_eq_true] at h'
  exact h'.2
theorem same_comm (f g : Cs) : sameS f g = sameS g f := by
  rw [Bool.eq_iff_iff, sameS_iff, sameS_iff]
  exact ⟨fun h i hi => (h i hi).symm, fun h i hi => (h i hi).symm⟩
theorem bad_len {ds : List Dp} {ps : List Int} {n : Nat} (hu : UpN ps) (hp : InC ps) (hw : withinB (bitS (n : Int)) (inS ps) = true) :
    badP ds ps n = (decide ((listI (bitS (n : Int))).length < (listI (tolS ds ps n)).length) && decide ((listI (tolS ds ps n)).length < ps.length)) := by
  have e : ps.length = (listI (inS ps)).length := congrArg List.length (listI_of hu hp)
  rw [e, len_lt (bit_tol hw), len_lt tol_in]
  unfold badP
  rw [hw, Bool.true_and, same_comm (inS ps)]
theorem less_tol {ds : List Dp} {ps : List Int} {n : Nat} : lessC (listI (tolS ds ps n)) (listI (bitS (n : Int))) = listI (lessS (tolS ds ps n) (bitS (n : Int))) :=
  upN_told (less_up (up_listI _)) (up_listI _) (fun s => by rw [mem_less, setP_list, setP_list, setP_list, setP_less])


end Go.Proofs.Ytekheacbmbbpmaa.Bpu
