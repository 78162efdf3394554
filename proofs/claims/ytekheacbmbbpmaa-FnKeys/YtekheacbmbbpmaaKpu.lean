/-
  Keys as data: sets of columns that tell all of them, of which no part does; both ways of finding them find the same.
-/
import Derived.Test.YtekheacbmbbpmaaBpu
import Derived.Test.YtekheacbmbbpmaaTold
namespace Go.Proofs.Ytekheacbmbbpmaa.Kpu
open Go.RowKit
open Go.Proofs.Ytekheacbmbbpmaa.Frame Go.Proofs.Ytekheacbmbbpmaa.Mem Go.Proofs.Ytekheacbmbbpmaa.Csa Go.Proofs.Ytekheacbmbbpmaa.Csb Go.Proofs.Ytekheacbmbbpmaa.Csc Go.Proofs.Ytekheacbmbbpmaa.Csd Go.Proofs.Ytekheacbmbbpmaa.Csf Go.Proofs.Ytekheacbmbbpmaa.Spx Go.Proofs.Ytekheacbmbbpmaa.Bpu
open Go.Proofs.Ytekheacbmbbpmaa.Rel hiding Ll
open Go.Proofs.Ytekheacbmbbpmaa.Cpu

theorem bit_sub : ∀ n k, n < 64 → k < 6 → bitS ((n : Nat) : Int) k = true → 2 ^ k ≤ n ∧ ∀ i, i < 6 → bitS ((n - 2 ^ k : Nat) : Int) i = (bitS ((n : Nat) : Int) i && !(i == k)) := by
  have h : (∀ n : Fin 64, ∀ k : Fin 6, bitS ((n.val : Nat) : Int) k.val = true → 2 ^ k.val ≤ n.val ∧ ∀ i : Fin 6, bitS ((n.val - 2 ^ k.val : Nat) : Int) i.val = (bitS ((n.val : Nat) : Int) i.val && !(i.val == k.val))) := by decide +kernel
  intro n k hn hk hb
  obtain ⟨h1, h2⟩ := h ⟨n, hn⟩ ⟨k, hk⟩ hb
  exact ⟨h1, fun i hi => h2 ⟨i, hi⟩⟩
theorem bit_more : ∀ m n, m < 64 → n < 64 → m ≠ n → withinB (bitS ((m : Nat) : Int)) (bitS ((n : Nat) : Int)) = true → ∃ k, k < 6 ∧ bitS ((n : Nat) : Int) k = true ∧ bitS ((m : Nat) : Int) k = false := by
  have h : (∀ m n : Fin 64, m.val ≠ n.val → withinB (bitS ((m.val : Nat) : Int)) (bitS ((n.val : Nat) : Int)) = true → ∃ k : Fin 6, bitS ((n.val : Nat) : Int) k.val = true ∧ bitS ((m.val : Nat) : Int) k.val = false) := by decide +kernel
  intro m n hm hn hne hw
  obtain ⟨k, h1, h2⟩ := h ⟨m, hm⟩ ⟨n, hn⟩ hne hw
  exact ⟨k.val, k.isLt, h1, h2⟩
theorem bit_few : ∀ c n k, c < 7 → n < 2 ^ c → k < 6 → bitS ((n : Nat) : Int) k = true → k < c := by
  have h : (∀ c : Fin 7, ∀ n : Fin 64, n.val < 2 ^ c.val → ∀ k : Fin 6, bitS ((n.val : Nat) : Int) k.val = true → k.val < c.val) := by decide +kernel
  intro c n k hc hn hk hb
  have hn64 : n < 64 := Nat.lt_of_lt_of_le hn (Nat.pow_le_pow_right (by omega) (show c ≤ 6 by omega))
  exact h ⟨c, hc⟩ ⟨n, hn64⟩ hn ⟨k, hk⟩ hb

/-- Whether all columns follow from those of a number. -/
noncomputable def whB (ds : List Dp) (c n : Nat) : Bool := sameS (clS ds (bitS (n : Int))) (firstS c)
noncomputable def keyB (ds : List Dp) (c n : Nat) : Bool := whB ds c n && (List.range c).all fun k => !bitS (n : Int) k || !whB ds c (n - 2 ^ k)
noncomputable def keysTo (ds : List Dp) (c N : Nat) : List (List Int) := ((List.range N).filter (keyB ds c)).map fun (n : Nat) => listI (bitS (n : Int))
noncomputable def keysV (cols : Int) (ds : List Dp) : List (List Int) := if goodD cols ds then keysTo ds cols.toNat (2 ^ cols.toNat) else []
def InD (c : Nat) (ds : List Dp) : Prop := ∀ d ∈ ds, (∀ z ∈ d.1, 0 ≤ z ∧ z < (c : Int)) ∧ ∀ z ∈ d.2, 0 ≤ z ∧ z < (c : Int)
theorem inD_of {c : Nat} {ds : List Dp} (h : goodD (c : Int) ds = true) : InD c ds := fun d hd => by
  have hb := (cols_of h).2.2.2.2 d hd
  unfold depB at hb
  rw [Bool.and_eq_true, rise_iff, rise_iff] at hb
  exact ⟨fun z hz => by have := hb.1.1 z hz; omega, fun z hz => by have := hb.2.1 z hz; omega⟩
theorem cl_few {ds : List Dp} {c n i : Nat} (hd : InD c ds) (hc : c ≤ 6) (hn : n < 2 ^ c) (h : clS ds (bitS (n : Int)) i = true) : i < c := by
  have := Cl.least (p := fun z => 0 ≤ z ∧ z < (c : Int)) (fun z hz => by obtain ⟨k, hk, hb, rfl⟩ := hz; have := bit_few c n k (by omega) hn hk hb; omega) (fun d h' _ z hz => (hd d h').2 z hz) (clS_iff.1 h)
  omega
theorem wh_mono {ds : List Dp} {c m n : Nat} (hd : InD c ds) (hc : c ≤ 6) (hn : n < 2 ^ c) (hw : withinB (bitS (m : Int)) (bitS (n : Int)) = true) (h : whB ds c m = true) : whB ds c n = true := by
  unfold whB at *
  rw [sameS_iff] at *
  intro i hi
  cases hf : firstS c i
  · cases hcl : clS ds (bitS (n : Int)) i
    · rfl
    · have := cl_few hd hc hn hcl
      have : firstS c i = true := decide_eq_true this
      rw [hf] at this
      cases this
  · have h1 : clS ds (bitS (m : Int)) i = true := by rw [h i hi]; exact hf
    exact clS_iff.2 (Cl.mono (fun z hz => Cl.base (by obtain ⟨k, hk, hb, rfl⟩ := hz; exact ⟨k, hk, withinB_iff.1 hw k hk hb, rfl⟩)) (clS_iff.1 h1))
theorem wh_len {ds : List Dp} {c n : Nat} (hd : InD c ds) (hc : c ≤ 6) (hn : n < 2 ^ c) : whB ds c n = decide (((clL ds (listI (bitS (n : Int)))).length : Int) = (c : Int)) := by
  have e : clL ds (listI (bitS (n : Int))) = listI (clS ds (bitS (n : Int))) := listI_congr (fun i _ => by
    rw [Bool.eq_iff_iff, clB_iff, clS_iff]
    exact ⟨Cl.mono (fun z hz => Cl.base (setP_list.1 hz)), Cl.mono (fun z hz => Cl.base (setP_list.2 hz))⟩)
  rw [e]
  exact first_same hc (fun i _ h => cl_few hd hc hn h)
theorem within_sub {n k : Nat} (hn : n < 64) (hk : k < 6) (hb : bitS (n : Int) k = true) : withinB (bitS ((n - 2 ^ k : Nat) : Int)) (bitS (n : Int)) = true :=
  withinB_iff.2 (fun i hi h => by rw [(bit_sub n k hn hk hb).2 i hi, Bool.and_eq_true] at h; exact h.1)
theorem within_trans {f g h : Cs} (h1 : withinB f g = true) (h2 : withinB g h = true) : withinB f h = true := withinB_iff.2 (fun i hi hf => withinB_iff.1 h2 i hi (withinB_iff.1 h1 i hi hf))
theorem within_self (f : Cs) : withinB f f = true := withinB_iff.2 (fun _ _ h => h)
theorem key_iff {ds : List Dp} {c n : Nat} : keyB ds c n = true ↔ whB ds c n = true ∧ ∀ k, k < c → bitS (n : Int) k = true → whB ds c (n - 2 ^ k) = false := by
  unfold keyB
  rw [Bool.and_eq_true, List.all_eq_true]
  constructor
  · rintro ⟨h1, h2⟩
    refine ⟨h1, fun k hk hb => ?_⟩
    have := h2 k (List.mem_range.2 hk)
    rw [hb] at this
    simpa using this
  · rintro ⟨h1, h2⟩
    refine ⟨h1, fun k hk => ?_⟩
    cases hb : bitS (n : Int) k
    · rfl
    · rw [h2 k (List.mem_range.1 hk) hb]; rfl
theorem key_in {ds : List Dp} {c : Nat} (hc : c ≤ 6) : ∀ N n, n < N → n < 2 ^ c → whB ds c n = true → ∃ m, m ≤ n ∧ keyB ds c m = true ∧ withinB (bitS (m : Int)) (bitS (n : Int)) = true := by
  intro N
  induction N with
  | zero => intro n h; omega
  | succ N ih =>
    intro n hn hlt hw
    cases hk : keyB ds c n
    · obtain ⟨k, hkc, hb, hw2⟩ : ∃ k, k < c ∧ bitS (n : Int) k = true ∧ whB ds c (n - 2 ^ k) = true := by
        apply Classical.byContradiction
        intro hno
        have : keyB ds c n = true := key_iff.2 ⟨hw, fun k hkc hb => by
          cases h : whB ds c (n - 2 ^ k)
          · rfl
          · exact absurd ⟨k, hkc, hb, h⟩ hno⟩
        rw [hk] at this
        cases this
      have hn64 : n < 64 := Nat.lt_of_lt_of_le hlt (Nat.pow_le_pow_right (by omega) hc)
      have hs := (bit_sub n k hn64 (by omega) hb).1
      have hp := Nat.two_pow_pos k
      obtain ⟨m, hm, hkm, hwm⟩ := ih (n - 2 ^ k) (by omega) (by omega) hw2
      exact ⟨m, by omega, hkm, within_trans hwm (within_sub hn64 (by omega) hb)⟩
    · exact ⟨n, Nat.le_refl _, hk, within_self _⟩
theorem key_step {ds : List Dp} {c n : Nat} (hd : InD c ds) (hc : c ≤ 6) (hn : n < 2 ^ c) : keyB ds c n = (whB ds c n && !(keysTo ds c n).any fun zs => withinB (inS zs) (bitS (n : Int))) := by
  have hn64 : n < 64 := Nat.lt_of_lt_of_le hn (Nat.pow_le_pow_right (by omega) hc)
  have hany : (keysTo ds c n).any (fun zs => withinB (inS zs) (bitS (n : Int))) = true ↔ ∃ m, m < n ∧ keyB ds c m = true ∧ withinB (bitS (m : Int)) (bitS (n : Int)) = true := by
    unfold keysTo
    rw [List.any_eq_true]
    have e : ∀ m : Nat, withinB (inS (listI (bitS (m : Int)))) (bitS (n : Int)) = withinB (bitS (m : Int)) (bitS (n : Int)) := fun m => within_congr (fun i hi => by
      unfold inS
      rw [Bool.eq_iff_iff, decide_eq_true_eq, mem_listI]
      exact ⟨fun ⟨j, _, hb, e⟩ => by have : j = i := by omega
                                     rw [← this]; exact hb, fun hb => ⟨i, hi, hb, rfl⟩⟩) (fun _ _ => rfl)
    constructor
    · rintro ⟨zs, hz, hw⟩
      obtain ⟨m, hm, rfl⟩ := List.mem_map.1 hz
      have := List.mem_filter.1 hm
      exact ⟨m, List.mem_range.1 this.1, this.2, by rw [← e]; exact hw⟩
    · rintro ⟨m, hm, hk, hw⟩
      exact ⟨_, List.mem_map.2 ⟨m, List.mem_filter.2 ⟨List.mem_range.2 hm, hk⟩, rfl⟩, by rw [e]; exact hw⟩
  rw [Bool.eq_iff_iff, Bool.and_eq_true, Bool.not_eq_true', ← Bool.not_eq_true, hany]
  constructor
  · intro h
    refine ⟨(key_iff.1 h).1, ?_⟩
    rintro ⟨m, hm, hk, hw⟩
    obtain ⟨k, hk6, hbn, hbm⟩ := bit_more m n (by omega) hn64 (by omega) hw
    have hkc := bit_few c n k (by omega) hn hk6 hbn
    have hno := (key_iff.1 h).2 k hkc hbn
    have hs := bit_sub n k hn64 hk6 hbn
    have : whB ds c (n - 2 ^ k) = true := wh_mono hd hc (by have := Nat.two_pow_pos k; omega) (withinB_iff.2 (fun i hi hb => by
      rw [hs.2 i hi, withinB_iff.1 hw i hi hb, Bool.true_and]
      by_cases e : i = k
      · rw [e, hbm] at hb; cases hb
      · simpa using e)) (key_iff.1 hk).1
    rw [hno] at this
    cases this
  · rintro ⟨hw, hno⟩
    refine key_iff.2 ⟨hw, fun k hkc hb => ?_⟩
    cases h : whB ds c (n - 2 ^ k)
    · rfl
    · have hs := (bit_sub n k hn64 (by omega) hb).1
      have hp := Nat.two_pow_pos k
      obtain ⟨m, hm, hk, hwm⟩ := key_in hc (n - 2 ^ k + 1) (n - 2 ^ k) (by omega) (by omega) h
      exact absurd ⟨m, by omega, hk, within_trans hwm (within_sub hn64 (by omega) hb)⟩ hno
theorem keys_yes {ds : List Dp} {c n : Nat} (h : keyB ds c n = true) : keysTo ds c (n + 1) = keysTo ds c n ++ [listI (bitS (n : Int))] := by
  unfold keysTo
  rw [List.range_succ, List.filter_append, List.map_append, List.filter_cons, h]
  rfl
theorem keys_no {ds : List Dp} {c n : Nat} (h : keyB ds c n = false) : keysTo ds c (n + 1) = keysTo ds c n := by
  unfold keysTo
  rw [List.range_succ, List.filter_append, List.map_append, List.filter_cons, h]
  simp
theorem keys_col {ds : List Dp} {c n : Nat} : ∀ zs ∈ keysTo ds c n, InC zs := fun zs hz => by
  unfold keysTo at hz
  obtain ⟨m, _, rfl⟩ := List.mem_map.1 hz
  intro z h
  obtain ⟨i, hi, _, rfl⟩ := mem_listI.1 h
  omega
theorem keys_length (ds : List Dp) (c n : Nat) : (keysTo ds c n).length ≤ n := by
  unfold keysTo
  rw [List.length_map]
  exact Nat.le_trans (List.length_filter_le _ _) (by simp)


end Go.Proofs.Ytekheacbmbbpmaa.Kpu
