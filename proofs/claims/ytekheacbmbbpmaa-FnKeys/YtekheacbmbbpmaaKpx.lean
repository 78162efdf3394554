/-
  What keys tell, and that what may be left out follows still (no program's text is asked).
-/
import Derived.Test.YtekheacbmbbpmaaKpu
import Derived.Test.YtekheacbmbbpmaaCvi
namespace Go.Proofs.Ytekheacbmbbpmaa.Kpx
open Go.Proofs.Ytekheacbmbbpmaa.Csa Go.Proofs.Ytekheacbmbbpmaa.Csb Go.Proofs.Ytekheacbmbbpmaa.Csc Go.Proofs.Ytekheacbmbbpmaa.Csd Go.Proofs.Ytekheacbmbbpmaa.Csf Go.Proofs.Ytekheacbmbbpmaa.Spx Go.Proofs.Ytekheacbmbbpmaa.Bpu Go.Proofs.Ytekheacbmbbpmaa.Kpu Go.Proofs.Ytekheacbmbbpmaa.Cvi
open Go.Proofs.Ytekheacbmbbpmaa.Rel hiding Ll
open Go.Proofs.Ytekheacbmbbpmaa.Cpu
abbrev Dp := Cpu.Dp

theorem bits_clos {cols : Int} {ds : List Dp} {c n : Nat} (hc : cols = (c : Int)) (h6 : c ≤ 6) (hg : goodD cols ds = true) (hn : n < 2 ^ c) : closG cols ds (listI (bitS (n : Int))) = true ∧ (whB ds c n = decide (((closV cols ds (listI (bitS (n : Int)))).length : Int) = cols)) := by
  have g : closG cols ds (listI (bitS (n : Int))) = true := by
    unfold closG
    rw [Bool.and_eq_true, rise_iff]
    refine ⟨hg, fun z hz => ?_, up_listI _⟩
    obtain ⟨i, hi, hb, rfl⟩ := mem_listI.1 hz
    have := bit_few c n i (by omega) hn hi hb
    omega
  refine ⟨g, ?_⟩
  have e : closV cols ds (listI (bitS (n : Int))) = clL ds (listI (bitS (n : Int))) := by unfold closV; rw [if_pos g]
  rw [e, hc]
  subst hc
  exact wh_len (inD_of hg) h6 hn
theorem less_is {n k : Nat} {zs : List Int} (hz : zs = listI (bitS (n : Int))) (hn : n < 64) {i : Nat} (hi : i < zs.length) (hk : zs.getD i 0 = (k : Int)) (hk6 : k < 6) (hb : bitS (n : Int) k = true) : zs.take i ++ zs.drop (i + 1) = listI (bitS ((n - 2 ^ k : Nat) : Int)) := by
  have hu : UpN zs := by rw [hz]; exact up_listI _
  have he : zs.take i ++ zs.drop (i + 1) = zs.eraseIdx i := (List.eraseIdx_eq_take_drop_succ zs i).symm
  rw [he]
  refine upN_told (List.Pairwise.sublist (List.eraseIdx_sublist zs i) hu) (up_listI _) (fun s => ?_)
  rw [List.mem_eraseIdx_iff_getElem, mem_listI]
  have gi : ∀ j (hj : j < zs.length), zs[j] = zs.getD j 0 := fun j hj => by simp [List.getD, hj]
  constructor
  · rintro ⟨j, hj, hne, rfl⟩
    have hm : zs[j] ∈ listI (bitS (n : Int)) := by rw [← hz]; exact List.getElem_mem hj
    obtain ⟨q, hq, hqb, hqe⟩ := mem_listI.1 hm
    refine ⟨q, hq, ?_, hqe⟩
    rw [(bit_sub n k hn hk6 hb).2 q hq, hqb]
    have : q ≠ k := fun e => by
      have h1 : zs.getD j 0 = zs.getD i 0 := by rw [← gi j hj, hqe, hk, e]
      rcases Nat.lt_or_gt_of_ne hne with h | h
      · have := upN_get hu h hi; omega
      · have := upN_get hu h hj; omega
    simp [this]
  · rintro ⟨q, hq, hqb, rfl⟩
    rw [(bit_sub n k hn hk6 hb).2 q hq, Bool.and_eq_true] at hqb
    have hm : (q : Int) ∈ zs := by rw [hz]; exact mem_listI.2 ⟨q, hq, hqb.1, rfl⟩
    obtain ⟨j, hj, hje⟩ := List.getElem_of_mem hm
    refine ⟨j, hj, fun e => ?_, hje⟩
    subst e
    rw [gi j hj, hk] at hje
    have : k = q := by omega
    have := hqb.2
    simp_all
/-- A key tells all columns, and no part of it does. -/
theorem key_tells {cols : Int} {ds : List Dp} (hg : goodD cols ds = true) {zs : List Int} (hz : zs ∈ keysV cols ds) :
    closG cols ds zs = true ∧ ((closV cols ds zs).length : Int) = cols ∧ ∀ i, i < zs.length → closG cols ds (zs.take i ++ zs.drop (i + 1)) = true ∧ ((closV cols ds (zs.take i ++ zs.drop (i + 1))).length : Int) ≠ cols := by
  obtain ⟨_, h1, h6, _, _⟩ := cols_of hg
  have hc : cols = (cols.toNat : Int) := by omega
  have hc6 : cols.toNat ≤ 6 := by omega
  unfold keysV at hz
  rw [if_pos hg] at hz
  unfold keysTo at hz
  obtain ⟨n, hn, rfl⟩ := List.mem_map.1 hz
  rw [List.mem_filter, List.mem_range, key_iff] at hn
  obtain ⟨hn, hw, hl⟩ := hn
  have hn64 : n < 64 := Nat.lt_of_lt_of_le hn (Nat.pow_le_pow_right (by omega) hc6)
  have k := bits_clos hc hc6 hg hn
  refine ⟨k.1, ?_, fun i hi => ?_⟩
  · rw [hw] at k
    exact of_decide_eq_true k.2.symm
  · have hm : (listI (bitS (n : Int)))[i] ∈ listI (bitS (n : Int)) := List.getElem_mem hi
    obtain ⟨q, hq, hqb, hqe⟩ := mem_listI.1 hm
    have e := less_is (n := n) (k := q) rfl hn64 hi (by simp [List.getD, hi, hqe]) hq hqb
    have hlt : n - 2 ^ q < 2 ^ cols.toNat := Nat.lt_of_le_of_lt (Nat.sub_le _ _) hn
    have k2 := bits_clos hc hc6 hg hlt
    rw [hl q (bit_few _ n q (by omega) hn hq hqb) hqb] at k2
    rw [e]
    exact ⟨k2.1, of_decide_eq_false k2.2.symm⟩
theorem all_bits : ∀ c, c < 7 → ∀ i, i < 6 → bitS ((2 ^ c - 1 : Nat) : Int) i = decide (i < c) := by
  have h : ∀ c : Fin 7, ∀ i : Fin 6, bitS ((2 ^ c.val - 1 : Nat) : Int) i.val = decide (i.val < c.val) := by decide +kernel
  exact fun c hc i hi => h ⟨c, hc⟩ ⟨i, hi⟩
/-- There is a key. -/
theorem key_some {cols : Int} {ds : List Dp} (hg : goodD cols ds = true) : keysV cols ds ≠ [] := by
  obtain ⟨_, h1, h6, _, _⟩ := cols_of hg
  have hc : cols = (cols.toNat : Int) := by omega
  have hc6 : cols.toNat ≤ 6 := by omega
  have hI : InD cols.toNat ds := inD_of (by rw [← hc]; exact hg)
  have hp := Nat.two_pow_pos cols.toNat
  have hw : whB ds cols.toNat (2 ^ cols.toNat - 1) = true := by
    unfold whB
    rw [sameS_iff]
    intro i hi
    show _ = decide (i < cols.toNat)
    rw [← all_bits cols.toNat (by omega) i hi]
    cases hb : bitS ((2 ^ cols.toNat - 1 : Nat) : Int) i
    · cases hcl : clS ds (bitS ((2 ^ cols.toNat - 1 : Nat) : Int)) i
      · rfl
      · have := cl_few hI hc6 (by omega) hcl
        rw [all_bits cols.toNat (by omega) i hi] at hb
        have := of_decide_eq_false hb
        omega
    · exact clS_iff.2 (Cl.base ⟨i, hi, hb, rfl⟩)
  obtain ⟨m, hm, hk, _⟩ := key_in (ds := ds) hc6 (2 ^ cols.toNat) (2 ^ cols.toNat - 1) (by omega) (by omega) hw
  intro he
  unfold keysV at he
  rw [if_pos hg] at he
  have : listI (bitS (m : Int)) ∈ keysTo ds cols.toNat (2 ^ cols.toNat) := List.mem_map.2 ⟨m, List.mem_filter.2 ⟨List.mem_range.2 (by omega), hk⟩, rfl⟩
  rw [he] at this
  cases this

/-- One sentence that follows of the others may be left out. -/
theorem left_out {ds es : List Dp} {d : Dp} (hC : Cols es) (h1 : ∀ z ∈ d.1, 0 ≤ z ∧ z < 6) (hi : impB es d = true) (hs : ∀ x ∈ ds, x ∈ es ∨ x = d) {s : Int → Prop} {z : Int} (h : Cl ds s z) : Cl es s z := by
  induction h with
  | base h => exact Cl.base h
  | step hd _ hz ih =>
    rcases hs _ hd with hm | rfl
    · exact Cl.step hm ih hz
    · have k := insideB_iff.1 hi _ hz
      rw [mem_clL hC h1] at k
      exact Cl.mono ih k
theorem cov_keeps : ∀ (f : Nat) (l : List Dp) (k : Nat), Cols l → (∀ d ∈ covS f l k, d ∈ l) ∧ (covS f l k).length ≤ l.length ∧ ∀ (s : Int → Prop) (z : Int), Cl l s z → Cl (covS f l k) s z
  | 0, l, k, _ => by unfold covS; exact ⟨fun d h => h, Nat.le_refl _, fun s z h => h⟩
  | f + 1, l, k, hC => by
    unfold covS
    by_cases hk : k < l.length
    · rw [if_pos hk]
      cases hi : impB (othersD l k) (l.getD k Dls.d0)
      · rw [if_neg (by decide)]
        exact cov_keeps f l (k + 1) hC
      · rw [if_pos rfl]
        have hsub : ∀ d ∈ othersD l k, d ∈ l := fun d hd => by
          unfold othersD at hd
          rcases List.mem_append.1 hd with h | h
          · exact List.mem_of_mem_take h
          · exact List.mem_of_mem_drop h
        have hlen : (othersD l k).length ≤ l.length := by unfold othersD; simp; omega
        have hC2 : Cols (othersD l k) := fun d hd => hC d (hsub d hd)
        obtain ⟨k1, k2, k3⟩ := cov_keeps f (othersD l k) k hC2
        have hm : l.getD k Dls.d0 ∈ l := by simp only [List.getD, List.getElem?_eq_getElem hk, Option.getD_some]; exact List.getElem_mem hk
        refine ⟨fun d hd => hsub d (k1 d hd), Nat.le_trans k2 hlen, fun s z h => k3 s z (left_out hC2 (hC _ hm).1 hi (fun x hx => ?_) h)⟩
        obtain ⟨j, hj, rfl⟩ := List.getElem_of_mem hx
        by_cases e : j = k
        · subst e
          exact Or.inr (by simp [List.getD, hj])
        · refine Or.inl ?_
          unfold othersD
          rw [← List.eraseIdx_eq_take_drop_succ, List.mem_eraseIdx_iff_getElem]
          exact ⟨j, hj, e, rfl⟩
    · rw [if_neg hk]
      exact ⟨fun d h => h, Nat.le_refl _, fun s z h => h⟩
/-- What was left out follows still. -/
theorem cover_tells {cols : Int} {ds : List Dp} (hg : goodD cols ds = true) {d : Dp} (hd : d ∈ ds) : impG cols (coverV cols ds) d = true ∧ impB (coverV cols ds) d = true := by
  obtain ⟨hC, h1, h6, h8, hall⟩ := cols_of hg
  have e : coverV cols ds = covS ds.length ds 0 := by unfold coverV; rw [if_pos hg]
  obtain ⟨k1, k2, k3⟩ := cov_keeps ds.length ds 0 hC
  rw [e]
  have hC2 : Cols (covS ds.length ds 0) := fun x hx => hC x (k1 x hx)
  constructor
  · unfold impG goodD
    unfold goodD at hg
    rw [Bool.and_eq_true, Bool.and_eq_true] at hg
    rw [hg.1.1, Bool.true_and, Bool.and_eq_true, Bool.and_eq_true, decide_eq_true_eq, List.all_eq_true]
    exact ⟨⟨by omega, fun x hx => hall x (k1 x hx)⟩, hall d hd⟩
  · refine insideB_iff.2 (fun z hz => (mem_clL hC2 (hC d hd).1).2 (k3 _ z (Cl.step hd (fun x hx => Cl.base hx) hz)))


end Go.Proofs.Ytekheacbmbbpmaa.Kpx
