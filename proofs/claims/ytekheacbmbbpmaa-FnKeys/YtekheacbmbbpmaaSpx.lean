/-
  Lists of columns as data: what is in both, in either, in one and not in the other; what loses nothing, what is kept, what is split.
-/
import Derived.Test.YtekheacbmbbpmaaCsg
import Derived.Test.YtekheacbmbbpmaaCsf
import Derived.Test.YtekheacbmbbpmaaSsc
namespace Go.Proofs.Ytekheacbmbbpmaa.Spx
open Go.RowKit
open Go.Proofs.Ytekheacbmbbpmaa.Frame Go.Proofs.Ytekheacbmbbpmaa.Mem Go.Proofs.Ytekheacbmbbpmaa.Csa Go.Proofs.Ytekheacbmbbpmaa.Csb Go.Proofs.Ytekheacbmbbpmaa.Csc Go.Proofs.Ytekheacbmbbpmaa.Csd Go.Proofs.Ytekheacbmbbpmaa.Csf Go.Proofs.Ytekheacbmbbpmaa.Csg
open Go.Proofs.Ytekheacbmbbpmaa.Rel hiding Ll
open Go.Proofs.Ytekheacbmbbpmaa.Cpu

abbrev InC (zs : List Int) : Prop := ∀ z ∈ zs, 0 ≤ z ∧ z < 6
def bothL (xs zs : List Int) : List Int := xs.filter fun z => decide (z ∈ zs)
def lessC (xs zs : List Int) : List Int := xs.filter fun z => !decide (z ∈ zs)
def eithL (xs zs : List Int) : List Int := listI (orS (inS xs) (inS zs))
theorem filter_no {p : Int → Bool} {ys : List Int} {x : Int} (e : p x = false) : (ys ++ [x]).filter p = ys.filter p := by
  rw [List.filter_append, List.filter_cons_of_neg (by rw [e]; decide), List.filter_nil, List.append_nil]
theorem filter_yes {p : Int → Bool} {ys : List Int} {x : Int} (e : p x = true) : (ys ++ [x]).filter p = ys.filter p ++ [x] := by
  rw [List.filter_append, List.filter_cons_of_pos e, List.filter_nil]
theorem bothL_no {ys zs : List Int} {x : Int} (e : decide (x ∈ zs) = false) : bothL (ys ++ [x]) zs = bothL ys zs := filter_no e
theorem bothL_yes {ys zs : List Int} {x : Int} (e : decide (x ∈ zs) = true) : bothL (ys ++ [x]) zs = bothL ys zs ++ [x] := filter_yes e
theorem lessC_no {ys zs : List Int} {x : Int} (e : decide (x ∈ zs) = true) : lessC (ys ++ [x]) zs = lessC ys zs := filter_no (by rw [e]; rfl)
theorem lessC_yes {ys zs : List Int} {x : Int} (e : decide (x ∈ zs) = false) : lessC (ys ++ [x]) zs = lessC ys zs ++ [x] := filter_yes (by rw [e]; rfl)
theorem mem_both {xs zs : List Int} {z : Int} : z ∈ bothL xs zs ↔ z ∈ xs ∧ z ∈ zs := by
  unfold bothL
  rw [List.mem_filter, decide_eq_true_eq]
theorem mem_less {xs zs : List Int} {z : Int} : z ∈ lessC xs zs ↔ z ∈ xs ∧ z ∉ zs := by
  unfold lessC
  rw [List.mem_filter, Bool.not_eq_true', decide_eq_false_iff_not]
theorem both_up {xs zs : List Int} (h : UpN xs) : UpN (bothL xs zs) := List.Pairwise.filter _ h
theorem less_up {xs zs : List Int} (h : UpN xs) : UpN (lessC xs zs) := List.Pairwise.filter _ h
theorem both_col {xs zs : List Int} (h : InC xs) : InC (bothL xs zs) := fun z hz => h z (mem_both.1 hz).1
theorem less_col {xs zs : List Int} (h : InC xs) : InC (lessC xs zs) := fun z hz => h z (mem_less.1 hz).1
theorem setP_list {f : Cs} {z : Int} : z ∈ listI f ↔ setP f z := mem_listI
theorem setP_or {f g : Cs} {z : Int} : setP (orS f g) z ↔ setP f z ∨ setP g z := by
  unfold setP orS
  constructor
  · rintro ⟨i, hi, h, rfl⟩
    rcases Bool.or_eq_true_iff.1 h with h | h
    · exact Or.inl ⟨i, hi, h, rfl⟩
    · exact Or.inr ⟨i, hi, h, rfl⟩
  · rintro (⟨i, hi, h, rfl⟩ | ⟨i, hi, h, rfl⟩)
    · exact ⟨i, hi, by rw [h]; rfl, rfl⟩
    · exact ⟨i, hi, by rw [h, Bool.or_true], rfl⟩
theorem setP_and {f g : Cs} {z : Int} : setP (andS f g) z ↔ setP f z ∧ setP g z := by
  unfold setP andS
  constructor
  · rintro ⟨i, hi, h, rfl⟩
    rw [Bool.and_eq_true] at h
    exact ⟨⟨i, hi, h.1, rfl⟩, ⟨i, hi, h.2, rfl⟩⟩
  · rintro ⟨⟨i, hi, h, rfl⟩, ⟨j, hj, h', e⟩⟩
    have : i = j := by omega
    subst this
    exact ⟨i, hi, by rw [h, h']; rfl, rfl⟩
theorem setP_less {f g : Cs} {z : Int} : setP (lessS f g) z ↔ setP f z ∧ ¬ setP g z := by
  unfold setP lessS
  constructor
  · rintro ⟨i, hi, h, rfl⟩
    rw [Bool.and_eq_true, Bool.not_eq_true'] at h
    refine ⟨⟨i, hi, h.1, rfl⟩, ?_⟩
    rintro ⟨j, _, h', e⟩
    have : i = j := by omega
    subst this
    rw [h.2] at h'
    cases h'
  · rintro ⟨⟨i, hi, h, rfl⟩, hn⟩
    refine ⟨i, hi, ?_, rfl⟩
    rw [h, Bool.true_and, Bool.not_eq_true']
    cases hg : g i
    · rfl
    · exact (hn ⟨i, hi, hg, rfl⟩).elim
theorem mem_eith {xs zs : List Int} (hx : InC xs) (hz : InC zs) {z : Int} : z ∈ eithL xs zs ↔ z ∈ xs ∨ z ∈ zs := by
  unfold eithL
  rw [setP_list, setP_or, setP_inS hx, setP_inS hz]
theorem both_is {xs zs : List Int} (hu : UpN xs) (hx : InC xs) (hz : InC zs) : listI (andS (inS xs) (inS zs)) = bothL xs zs :=
  upN_told (up_listI _) (both_up hu) (fun s => by rw [setP_list, setP_and, setP_inS hx, setP_inS hz, mem_both])
theorem less_is {xs zs : List Int} (hu : UpN xs) (hx : InC xs) (hz : InC zs) : listI (lessS (inS xs) (inS zs)) = lessC xs zs :=
  upN_told (up_listI _) (less_up hu) (fun s => by rw [setP_list, setP_less, setP_inS hx, setP_inS hz, mem_less])
theorem eith_up (xs zs : List Int) : UpN (eithL xs zs) := up_listI _

theorem cl_both {ds : List Dp} {xs zs : List Int} (hx : InC xs) (hz : InC zs) (i : Nat) : clS ds (andS (inS xs) (inS zs)) i = clB ds (bothL xs zs) i := by
  rw [Bool.eq_iff_iff, clS_iff, clB_iff]
  have e : ∀ z, setP (andS (inS xs) (inS zs)) z ↔ z ∈ bothL xs zs := fun z => by rw [setP_and, setP_inS hx, setP_inS hz, mem_both]
  exact ⟨Cl.mono (fun z hz => Cl.base ((e z).1 hz)), Cl.mono (fun z hz => Cl.base ((e z).2 hz))⟩
theorem within_both {ds : List Dp} {ks xs zs : List Int} (ha : InC ks) (hx : InC xs) (hz : InC zs) : withinB (inS ks) (clS ds (andS (inS xs) (inS zs))) = insideB ks (clL ds (bothL xs zs)) := by
  rw [Bool.eq_iff_iff, within_in ha, insideB_iff]
  have e : ∀ z, setP (clS ds (andS (inS xs) (inS zs))) z ↔ z ∈ clL ds (bothL xs zs) := fun z => by
    unfold clL
    rw [← listI_congr (fun i _ => cl_both hx hz i), setP_list]
  exact ⟨fun h z hz => (e z).1 (h z hz), fun h z hz => (e z).2 (h z hz)⟩
theorem within_two {ks bs ps : List Int} (ha : InC ks) (hb : InC bs) : withinB (orS (inS ks) (inS bs)) (inS ps) = (insideB ks ps && insideB bs ps) := by
  rw [Bool.eq_iff_iff, Bool.and_eq_true, insideB_iff, insideB_iff, withinB_iff]
  constructor
  · intro h
    have k : ∀ z, setP (orS (inS ks) (inS bs)) z → z ∈ ps := fun z hz => by
      obtain ⟨i, hi, hf, rfl⟩ := hz
      exact of_decide_eq_true (h i hi hf)
    exact ⟨fun z hz => k z (setP_or.2 (Or.inl ((setP_inS ha z).2 hz))), fun z hz => k z (setP_or.2 (Or.inr ((setP_inS hb z).2 hz)))⟩
  · rintro ⟨h1, h2⟩ i hi hf
    rcases Bool.or_eq_true_iff.1 hf with h | h
    · exact decide_eq_true (h1 _ (of_decide_eq_true h))
    · exact decide_eq_true (h2 _ (of_decide_eq_true h))

/-- All columns: as many as there are. -/
theorem first_same {c : Nat} {f : Cs} (h6 : c ≤ 6) (hf : ∀ i, i < 6 → f i = true → i < c) : sameS f (firstS c) = decide (((listI f).length : Int) = (c : Int)) := by
  have hc : (List.range 6).countP (firstS c) = c := by
    obtain rfl | rfl | rfl | rfl | rfl | rfl | rfl : c = 0 ∨ c = 1 ∨ c = 2 ∨ c = 3 ∨ c = 4 ∨ c = 5 ∨ c = 6 := by omega
    all_goals decide
  rw [Bool.eq_iff_iff, sameS_iff, decide_eq_true_eq, Ssc.listI_count]
  constructor
  · intro h
    rw [List.countP_congr (q := firstS c) (fun i hi => by rw [h i (List.mem_range.1 hi)]), hc]
  · intro h i hi
    cases hfi : f i
    · cases hi2 : firstS c i
      · rfl
      · have := Csc.countP_lt (p := f) (q := firstS c) (List.range 6) (fun j hj hp => decide_eq_true (hf j (List.mem_range.1 hj) hp)) ⟨i, List.mem_range.2 hi, hi2, hfi⟩
        omega
    · exact (decide_eq_true (hf i hi hfi)).symm

/-! What the functions tell. -/
def losG (cols : Int) (ds : List Dp) (xs zs : List Int) : Bool := closG cols ds xs && closG cols ds zs && decide (((eithL xs zs).length : Int) = cols)
noncomputable def losV (cols : Int) (ds : List Dp) (xs zs : List Int) : Bool := losG cols ds xs zs && (insideB xs (clL ds (bothL xs zs)) || insideB zs (clL ds (bothL xs zs)))
def partG (cols : Int) (ps : List Int) (d : Dp) : Bool := goodD cols [d] && riseB 0 (cols - 1) ps && (insideB d.1 ps && insideB d.2 ps)
def keptG (cols : Int) (ds : List Dp) (ps : List Int) (d : Dp) : Bool := goodD cols ds && partG cols ps d
noncomputable def keptV (cols : Int) (ds : List Dp) (ps : List Int) (d : Dp) : Bool := keptG cols ds ps d && impB ds d
def splG (cols : Int) (ps : List Int) (d : Dp) : Bool := partG cols ps d && decide (bothL d.1 d.2 = [])
def splA (cols : Int) (ps : List Int) (d : Dp) : List Int := if splG cols ps d then eithL d.1 d.2 else []
def splB (cols : Int) (ps : List Int) (d : Dp) : List Int := if splG cols ps d then lessC ps d.2 else []
theorem goodD_one {cols : Int} {d : Dp} (h1 : 1 ≤ cols) (h6 : cols ≤ 6) : goodD cols [d] = depB cols d := by
  unfold goodD
  rw [show Val.inB cols 1 6 = true by unfold Val.inB; exact decide_eq_true ⟨h1, h6⟩, show decide (([d] : List Dp).length ≤ 8) = true by rfl, List.all_cons, List.all_nil, Bool.and_true, Bool.and_true, Bool.true_and]
theorem less_same {xs zs : List Int} (hx : InC xs) : sameS (lessS (inS xs) (inS zs)) (inS xs) = decide (bothL xs zs = []) := by
  rw [Bool.eq_iff_iff, sameS_iff, decide_eq_true_eq]
  constructor
  · intro h
    refine List.eq_nil_iff_forall_not_mem.2 (fun z hm => ?_)
    obtain ⟨h1, h2⟩ := mem_both.1 hm
    have hc := hx z h1
    have e : ((z.toNat : Nat) : Int) = z := by omega
    have k := h z.toNat (by omega)
    unfold lessS inS at k
    rw [e, decide_eq_true h1, decide_eq_true h2] at k
    cases k
  · intro h i _
    unfold lessS inS
    by_cases h1 : (i : Int) ∈ xs
    · have h2 : (i : Int) ∉ zs := fun h2 => by
        have : (i : Int) ∈ bothL xs zs := mem_both.2 ⟨h1, h2⟩
        rw [h] at this
        cases this
      rw [decide_eq_true h1, decide_eq_false h2]
      rfl
    · rw [decide_eq_false h1]
      rfl


end Go.Proofs.Ytekheacbmbbpmaa.Spx
