/-
  What a walk with a queue reaches (no program).
-/
import Derived.Test.YtkondmnkmbdncaaGpu
namespace Go.Proofs.Ytkondmnkmbdncaa.Gpb
open Go.Proofs.Ytkondmnkmbdncaa.Rel Go.Proofs.Ytkondmnkmbdncaa.Gpu

theorem putN_len {n : Int} : ∀ {l : List Int}, n ∉ l → (putN n l).length = l.length + 1
  | [], _ => rfl
  | x :: l, h => by
    have hx : ¬ x = n := fun e => h (by simp [e])
    have hl : n ∉ l := fun e => h (by simp [e])
    rw [putN, if_neg hx]
    split
    · rw [List.length_cons, putN_len hl, List.length_cons]
    · simp
theorem up_few {n : Nat} {l : List Int} (h : UpN l) (hm : ∀ z ∈ l, 0 ≤ z ∧ z < (n : Int)) : l.length ≤ n := by
  have e : l = (numN n).filter (fun z => decide (z ∈ l)) := upN_told h (up_filter (up_numN n) _) (fun s => by
    rw [List.mem_filter, mem_numN, decide_eq_true_eq]
    exact ⟨fun hs => ⟨hm s hs, hs⟩, fun hs => hs.2⟩)
  have := List.length_filter_le (fun z => decide (z ∈ l)) (numN n)
  rw [numN_length] at this
  rw [e]
  exact this

structure Bf (xs : Ll) (i : Int) (zs qs : List Int) : Prop where
  up : UpN zs
  mem0 : i ∈ zs
  reach : ∀ j ∈ zs, Rch xs i j
  sub : ∀ q ∈ qs, q ∈ zs
  closed : ∀ x ∈ zs, x ∉ qs → ∀ y ∈ gRow xs x, y ∈ zs
structure Bm (xs : Ll) (i k : Int) (j : Nat) (zs qs : List Int) : Prop where
  up : UpN zs
  mem0 : i ∈ zs
  reach : ∀ j ∈ zs, Rch xs i j
  sub : ∀ q ∈ qs, q ∈ zs
  closed : ∀ x ∈ zs, x ∉ qs → x ≠ k → ∀ y ∈ gRow xs x, y ∈ zs
  kin : k ∈ zs
  done : ∀ t, t < j → (gRow xs k).getD t 0 ∈ zs
theorem bf_start {xs : Ll} (i : Int) : Bf xs i [i] [i] :=
  ⟨by simp [UpN], by simp, fun j hj => by rw [List.mem_singleton.1 hj]; exact .refl, fun q hq => hq, fun x hx hq => absurd hx hq⟩
theorem bm_start {xs : Ll} {i k : Int} {zs qs : List Int} (h : Bf xs i zs (k :: qs)) : Bm xs i k 0 zs qs :=
  ⟨h.up, h.mem0, h.reach, fun q hq => h.sub q (List.mem_cons_of_mem _ hq), fun x hx hq hk => h.closed x hx (fun e => by
    rcases List.mem_cons.1 e with e | e
    · exact hk e
    · exact hq e), h.sub k (List.mem_cons_self ..), fun t ht => absurd ht (by omega)⟩
theorem bm_has {xs : Ll} {i k : Int} {j : Nat} {zs qs : List Int} (h : Bm xs i k j zs qs) (hy : (gRow xs k).getD j 0 ∈ zs) : Bm xs i k (j + 1) zs qs :=
  ⟨h.up, h.mem0, h.reach, h.sub, h.closed, h.kin, fun t ht => by
    by_cases e : t = j
    · subst e; exact hy
    · exact h.done t (by omega)⟩
theorem bm_new {xs : Ll} {i k : Int} {j : Nat} {zs qs : List Int} (h : Bm xs i k j zs qs) (hj : j < (gRow xs k).length) : Bm xs i k (j + 1) (putN ((gRow xs k).getD j 0) zs) (qs ++ [(gRow xs k).getD j 0]) := by
  have hm : ∀ z, z ∈ zs → z ∈ putN ((gRow xs k).getD j 0) zs := fun z hz => mem_putN.2 (.inr hz)
  have he : (gRow xs k).getD j 0 ∈ gRow xs k := Mem.getD_mem hj
  refine ⟨up_putN h.up, hm _ h.mem0, fun z hz => ?_, fun q hq => ?_, fun x hx hq hk y hy => ?_, hm _ h.kin, fun t ht => ?_⟩
  · rcases mem_putN.1 hz with rfl | hz
    · exact (h.reach k h.kin).step he
    · exact h.reach z hz
  · rcases List.mem_append.1 hq with hq | hq
    · exact hm q (h.sub q hq)
    · rw [List.mem_singleton.1 hq]; exact mem_putN.2 (.inl rfl)
  · have hxq : x ∉ qs := fun e => hq (List.mem_append_left _ e)
    have hxn : x ≠ (gRow xs k).getD j 0 := fun e => hq (List.mem_append_right _ (by rw [← e]; exact List.mem_singleton.2 rfl))
    rcases mem_putN.1 hx with e | hx
    · exact absurd e hxn
    · exact hm y (h.closed x hx hxq hk y hy)
  · by_cases e : t = j
    · subst e; exact mem_putN.2 (.inl rfl)
    · exact hm _ (h.done t (by omega))
theorem bm_end {xs : Ll} {i k : Int} {zs qs : List Int} (h : Bm xs i k (gRow xs k).length zs qs) : Bf xs i zs qs :=
  ⟨h.up, h.mem0, h.reach, h.sub, fun x hx hq y hy => by
    by_cases e : x = k
    · subst e
      obtain ⟨t, ht, rfl⟩ := List.getElem_of_mem hy
      have := h.done t ht
      rwa [show (gRow xs x).getD t 0 = (gRow xs x)[t] by simp [List.getD, ht]] at this
    · exact h.closed x hx hq e y hy⟩
theorem bf_end {xs : Ll} (hg : GoodP xs) {i : Int} (hi : 0 ≤ i ∧ i < (xs.length : Int)) {zs : List Int} (h : Bf xs i zs []) : zs = reachN xs i :=
  closed_told hg hi h.up h.mem0 h.reach (fun x hx y hy => h.closed x hx (by simp) y hy)
theorem bm_in {xs : Ll} (hg : GoodP xs) {i k : Int} (hi : 0 ≤ i ∧ i < (xs.length : Int)) {j : Nat} {zs qs : List Int} (h : Bm xs i k j zs qs) : ∀ z ∈ zs, 0 ≤ z ∧ z < (xs.length : Int) := fun z hz => (h.reach z hz).inside hg hi
theorem bf_in {xs : Ll} (hg : GoodP xs) {i : Int} (hi : 0 ≤ i ∧ i < (xs.length : Int)) {zs qs : List Int} (h : Bf xs i zs qs) : ∀ z ∈ zs, 0 ≤ z ∧ z < (xs.length : Int) := fun z hz => (h.reach z hz).inside hg hi


end Go.Proofs.Ytkondmnkmbdncaa.Gpb
