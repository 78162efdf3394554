/-
  Contracts of the program's onceEach: of numbers and of tuples.
-/
import Derived.Test.YtekheacbmbbpmaaOc
namespace Go.Proofs.Ytekheacbmbbpmaa.Od
open Go.RowKit
open Go.Proofs.Ytekheacbmbbpmaa.Frame Go.Proofs.Ytekheacbmbbpmaa.Mem Go.Proofs.Ytekheacbmbbpmaa.Ints Go.Proofs.Ytekheacbmbbpmaa.Kep Go.Proofs.Ytekheacbmbbpmaa.Lls Go.Proofs.Ytekheacbmbbpmaa.Rpu Go.Proofs.Ytekheacbmbbpmaa.Krl Go.Proofs.Ytekheacbmbbpmaa.Oa Go.Proofs.Ytekheacbmbbpmaa.Osr Go.Proofs.Ytekheacbmbbpmaa.Mis Go.Proofs.Ytekheacbmbbpmaa.Oc Go.Proofs.Ytekheacbmbbpmaa.Rel

/-- What has been put by so far: in order, each once, the members of the part that was read. -/
def OnceN (os ys : List Int) : Prop := UpN os ∧ ∀ s, s ∈ os ↔ s ∈ ys
theorem asc_get {ys : List Int} (h : Asc ys) {i j : Nat} (hij : i ≤ j) (hj : j < ys.length) : ys.getD i 0 ≤ ys.getD j 0 := by
  by_cases e : i = j
  · subst e; exact Int.le_refl _
  · have := (List.pairwise_iff_getElem.1 h) i j (by omega) hj (by omega)
    simpa [List.getD, hj, show i < ys.length by omega] using this
theorem once_add {os ys : List Int} {k : Nat} (hk : k < ys.length) (ha : Asc ys) (h : OnceN os (ys.take k)) (hn : k = 0 ∨ ys.getD (k - 1) 0 ≠ ys.getD k 0) : OnceN (os ++ [ys.getD k 0]) (ys.take (k + 1)) := by
  have e : ys.take (k + 1) = ys.take k ++ [ys.getD k 0] := take_succ_getD hk
  refine ⟨?_, fun s => by rw [e, List.mem_append, List.mem_append, h.2 s]⟩
  unfold UpN
  rw [List.pairwise_append]
  refine ⟨h.1, List.pairwise_singleton _ _, fun a hm b hb => ?_⟩
  obtain rfl := List.mem_singleton.1 hb
  have hm' := (h.2 a).1 hm
  obtain ⟨i, hi, rfl⟩ := List.getElem_of_mem hm'
  have hik : i < k := by simp at hi; omega
  have h1 := asc_get ha (i := i) (j := k - 1) (by omega) (by omega)
  have h2 := asc_get ha (i := k - 1) (j := k) (by omega) hk
  have e1 : (ys.take k)[i] = ys.getD i 0 := by simp [List.getD, show i < ys.length by omega]
  rw [e1]
  rcases hn with h0 | h0
  · omega
  · omega
theorem once_skip {os ys : List Int} {k : Nat} (hk : k < ys.length) (h : OnceN os (ys.take k)) (h0 : 0 < k) (hn : ys.getD (k - 1) 0 = ys.getD k 0) : OnceN os (ys.take (k + 1)) := by
  have e : ys.take (k + 1) = ys.take k ++ [ys.getD k 0] := take_succ_getD hk
  refine ⟨h.1, fun s => ?_⟩
  rw [h.2 s, e, List.mem_append]
  constructor
  · exact .inl
  · rintro (hs | hs)
    · exact hs
    · rw [List.mem_singleton.1 hs, ← hn]
      have : (ys.take k).getD (k - 1) 0 = ys.getD (k - 1) 0 := by simp [List.getD, show k - 1 < k by omega]
      rw [← this]
      exact getD_mem (by simp; omega)

/-- The same for tuples: of those that were read, in their order. -/
def OnceL (os qs : List LV) : Prop := os.Sublist qs ∧ Strict (lplain os) ∧ ∀ s, s ∈ lplain os ↔ s ∈ lplain qs
theorem ascL_get {ts : Rel.Ll} (h : AscL ts) {i j : Nat} (hij : i ≤ j) (hj : j < ts.length) : ¬ cmpL (ts.getD j []) (ts.getD i []) < 0 := by
  by_cases e : i = j
  · subst e; rw [cmpL_self]; decide
  · have := (List.pairwise_iff_getElem.1 h) i j (by omega) hj (by omega)
    simpa [List.getD, hj, show i < ts.length by omega] using this
theorem lplain_append (xs ys : List LV) : lplain (xs ++ ys) = lplain xs ++ lplain ys := by simp [lplain]
theorem lplain_take (xs : List LV) (k : Nat) : lplain (xs.take k) = (lplain xs).take k := by simp [lplain, List.map_take]
theorem onceL_add {os qs : List LV} {k : Nat} (hk : k < qs.length) (ha : AscL (lplain qs)) (h : OnceL os (qs.take k)) (hn : k = 0 ∨ (qs.getD (k - 1) ld).zs ≠ (qs.getD k ld).zs) : OnceL (os ++ [qs.getD k ld]) (qs.take (k + 1)) := by
  have e : qs.take (k + 1) = qs.take k ++ [qs.getD k ld] := take_succ_ld hk
  refine ⟨?_, ?_, fun s => by rw [e, lplain_append, lplain_append, List.mem_append, List.mem_append, h.2.2 s]⟩
  · rw [e]
    exact List.Sublist.append h.1 (List.Sublist.refl _)
  · unfold Strict
    rw [lplain_append, List.pairwise_append]
    refine ⟨h.2.1, List.pairwise_singleton _ _, fun a hm b hb => ?_⟩
    have hb' : b = (qs.getD k ld).zs := by simpa [lplain] using hb
    subst hb'
    have hm' := (h.2.2 a).1 hm
    rw [lplain_take] at hm'
    obtain ⟨i, hi', rfl⟩ := List.getElem_of_mem hm'
    have hik : i < k := by simp at hi'; omega
    have hl : (lplain qs).length = qs.length := Oa.lplain_length qs
    have h1 := ascL_get ha (i := i) (j := k - 1) (by omega) (by omega)
    have h2 := ascL_get ha (i := k - 1) (j := k) (by omega) (by omega)
    rw [lplain_get qs (k - 1) (by omega)] at h1 h2
    rw [lplain_get qs k hk] at h2
    have e1 : ((lplain qs).take k)[i] = (lplain qs).getD i [] := by simp [List.getD, show i < (lplain qs).length by omega]
    rw [e1]
    generalize (lplain qs).getD i [] = A at h1
    generalize (qs.getD (k - 1) ld).zs = B at *
    generalize (qs.getD k ld).zs = C at *
    rcases hn with h0 | h0
    · omega
    · have t1 := cmpL_turn A B
      have t2 := cmpL_turn B C
      have hBC : cmpL B C < 0 := by
        rcases cmpL_three B C with h | h | h
        · omega
        · exact absurd (cmpL_zero h) h0
        · omega
      by_cases hAB : cmpL A B = 0
      · rw [cmpL_zero hAB]; exact hBC
      · have hAB' : cmpL A B < 0 := by
          rcases cmpL_three A B with h | h | h <;> omega
        exact cmpL_trans hAB' hBC
theorem onceL_skip {os qs : List LV} {k : Nat} (hk : k < qs.length) (h : OnceL os (qs.take k)) (h0 : 0 < k) (hn : (qs.getD (k - 1) ld).zs = (qs.getD k ld).zs) : OnceL os (qs.take (k + 1)) := by
  have e : qs.take (k + 1) = qs.take k ++ [qs.getD k ld] := take_succ_ld hk
  refine ⟨?_, h.2.1, fun s => ?_⟩
  · rw [e]
    exact h.1.trans (List.sublist_append_left _ _)
  · rw [h.2.2 s, e, lplain_append, List.mem_append]
    constructor
    · exact .inl
    · rintro (hs | hs)
      · exact hs
      · have hs' : s = (qs.getD k ld).zs := by simpa [lplain] using hs
        rw [hs', ← hn]
        have hm : qs.getD (k - 1) ld ∈ qs.take k := by
          have : (qs.take k).getD (k - 1) ld = qs.getD (k - 1) ld := by simp [List.getD, show k - 1 < k by omega]
          rw [← this]
          exact getD_mem_ld (by simp; omega)
        exact List.mem_map_of_mem hm


end Go.Proofs.Ytekheacbmbbpmaa.Od
