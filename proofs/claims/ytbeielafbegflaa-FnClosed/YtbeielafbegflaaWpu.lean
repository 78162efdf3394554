/-
  A witness as data: two tuples, of which one is all 0 and one is 1 where a column does not follow.
-/
import Derived.Test.YtbeielafbegflaaSpx
import Derived.Test.YtbeielafbegflaaTold
namespace Go.Proofs.Ytbeielafbegflaa.Wpu
open Go.RowKit
open Go.Proofs.Ytbeielafbegflaa.Frame Go.Proofs.Ytbeielafbegflaa.Mem Go.Proofs.Ytbeielafbegflaa.Ints Go.Proofs.Ytbeielafbegflaa.Kep Go.Proofs.Ytbeielafbegflaa.Lls Go.Proofs.Ytbeielafbegflaa.Rpu Go.Proofs.Ytbeielafbegflaa.Knl Go.Proofs.Ytbeielafbegflaa.Krl Go.Proofs.Ytbeielafbegflaa.Told Go.Proofs.Ytbeielafbegflaa.Csa Go.Proofs.Ytbeielafbegflaa.Csd Go.Proofs.Ytbeielafbegflaa.Csf Go.Proofs.Ytbeielafbegflaa.Spx
open Go.Proofs.Ytbeielafbegflaa.Rel hiding Ll
open Go.Proofs.Ytbeielafbegflaa.Cpu

def namesC (c : Nat) : List Int := (List.range c).map fun (i : Nat) => (i : Int)
noncomputable def unl (ds : List Dp) (zs : List Int) (c : Nat) : List Int := (List.range c).map fun i => if clB ds zs i then 0 else 1
noncomputable def witG (cols : Int) (ds : List Dp) (d : Dp) : Bool := impG cols ds d && !impB ds d
noncomputable def witV (cols : Int) (ds : List Dp) (d : Dp) : Rl := if witG cols ds d then (namesC cols.toNat, [List.replicate cols.toNat 0, unl ds d.1 cols.toNat]) else ([], [])

theorem names_succ (k : Nat) : namesC (k + 1) = namesC k ++ [(k : Int)] := by unfold namesC; rw [List.range_succ, List.map_append]; rfl
theorem unl_succ (ds : List Dp) (zs : List Int) (k : Nat) : unl ds zs (k + 1) = unl ds zs k ++ [if clB ds zs k then 0 else 1] := by unfold unl; rw [List.range_succ, List.map_append]; rfl
theorem names_length (k : Nat) : (namesC k).length = k := by unfold namesC; simp
theorem unl_length (ds : List Dp) (zs : List Int) (k : Nat) : (unl ds zs k).length = k := by unfold unl; simp
theorem names_mem {c : Nat} {z : Int} (h : z ∈ namesC c) : 0 ≤ z ∧ z < (c : Int) := by
  unfold namesC at h
  obtain ⟨i, hi, rfl⟩ := List.mem_map.1 h
  have := List.mem_range.1 hi
  omega
theorem unl_mem {ds : List Dp} {zs : List Int} {c : Nat} {z : Int} (h : z ∈ unl ds zs c) : z = 0 ∨ z = 1 := by
  unfold unl at h
  obtain ⟨i, _, rfl⟩ := List.mem_map.1 h
  split
  · exact Or.inl rfl
  · exact Or.inr rfl
theorem names_wf {c : Nat} (hc : c ≤ 6) : ∀ z ∈ namesC c, (Lit.int .i64 z).wf = true := fun z hz => by
  have := names_mem hz
  exact int_wf z (by omega) (by omega)
theorem unl_wf (ds : List Dp) (zs : List Int) (c : Nat) : ∀ z ∈ unl ds zs c, (Lit.int .i64 z).wf = true := fun z hz => by
  rcases unl_mem hz with rfl | rfl
  · exact int_wf 0 (by omega) (by omega)
  · exact int_wf 1 (by omega) (by omega)
theorem zero_wf (c : Nat) : ∀ z ∈ List.replicate c (0 : Int), (Lit.int .i64 z).wf = true := fun z hz => by
  rw [(List.mem_replicate.1 hz).2]
  exact int_wf 0 (by omega) (by omega)
theorem first_names {c : Nat} (hc : c ≤ 6) : listI (firstS c) = namesC c := by
  obtain rfl | rfl | rfl | rfl | rfl | rfl | rfl : c = 0 ∨ c = 1 ∨ c = 2 ∨ c = 3 ∨ c = 4 ∨ c = 5 ∨ c = 6 := by omega
  all_goals decide
theorem less_zero : ∀ (l : List Int), (∀ z ∈ l, z = 0 ∨ z = 1) → (1 : Int) ∈ l → lessL (List.replicate l.length 0) l = true
  | [], _, h => by cases h
  | x :: l, h, h1 => by
    rw [List.length_cons, List.replicate_succ, lessL_cons]
    rcases h x (by simp) with rfl | rfl
    · rw [if_pos rfl]
      refine less_zero l (fun z hz => h z (by simp [hz])) ?_
      rcases List.mem_cons.1 h1 with e | e
      · exact absurd e (by decide)
      · exact e
    · rfl
theorem one_unl {cols : Int} {ds : List Dp} {d : Dp} {c : Nat} (hc : cols = (c : Int)) (h6 : c ≤ 6) (hd : depB cols d = true) (h : impB ds d = false) : (1 : Int) ∈ unl ds d.1 c := by
  obtain ⟨z, hz, hn⟩ : ∃ z ∈ d.2, z ∉ clL ds d.1 := by
    apply Classical.byContradiction
    intro hno
    have : impB ds d = true := insideB_iff.2 (fun z hz => Classical.byContradiction (fun hzn => hno ⟨z, hz, hzn⟩))
    rw [h] at this
    cases this
  unfold depB at hd
  rw [Bool.and_eq_true, rise_iff, rise_iff] at hd
  have hb := hd.2.1 z hz
  unfold unl
  refine List.mem_map.2 ⟨z.toNat, List.mem_range.2 (by omega), ?_⟩
  cases hcl : clB ds d.1 z.toNat
  · rfl
  · exact absurd (mem_listI.2 ⟨z.toNat, by omega, hcl, by omega⟩) hn
theorem wit_good {cols : Int} {ds : List Dp} {d : Dp} {c : Nat} (hc : cols = (c : Int)) (h6 : c ≤ 6) (hd : depB cols d = true) (h : impB ds d = false) : tellL [List.replicate c 0, unl ds d.1 c] = [List.replicate c 0, unl ds d.1 c] ∧ goodR (namesC c) [List.replicate c 0, unl ds d.1 c] = true := by
  have hl : ∀ s ∈ [List.replicate c (0 : Int), unl ds d.1 c], s.length = c := fun s hs => by
    rcases List.mem_cons.1 hs with rfl | hs
    · simp
    · rw [List.mem_singleton.1 hs]; exact unl_length _ _ _
  have hu : Up [List.replicate c (0 : Int), unl ds d.1 c] := by
    have k := less_zero (unl ds d.1 c) (fun z hz => unl_mem hz) (one_unl hc h6 hd h)
    rw [unl_length] at k
    unfold Up
    rw [List.pairwise_cons]
    exact ⟨fun y hy => by rw [List.mem_singleton.1 hy]; exact k, List.pairwise_singleton _ _⟩
  refine ⟨told_up hl hu, good_iff.2 ⟨by rw [names_length]; exact h6, fun n hn => by have := names_mem hn; omega, ?_, by simp, fun t ht => by rw [names_length]; exact hl t ht, fun t ht z hz => ?_, hu⟩⟩
  · unfold UpN namesC
    rw [List.pairwise_map]
    exact List.Pairwise.imp (fun {a b} h => by omega) (List.pairwise_lt_range (n := c))
  · rcases List.mem_cons.1 ht with rfl | ht
    · rw [(List.mem_replicate.1 hz).2]; omega
    · rw [List.mem_singleton.1 ht] at hz
      rcases unl_mem hz with rfl | rfl <;> omega

theorem wit_none {w w1 : World} {b : Nat} {v0 v1 : Value} (hb : w.heap.size ≤ b) (hB : Below w.heap.size w w1) : RTold ([], []) false w (.returned (.tuple #[.agg #[.slice none 0 0, .slice none 0 0], .bool false])) ((w1.setCell ⟨b, 0, none⟩ v0).setCell ⟨b, 1, none⟩ v1) :=
  ⟨_, _, _, _, _, _, rfl, own_none _ _ _, (hB.setCell hb _).setCell hb _⟩

/-- Two lists that grow by turns. -/
theorem two_app {base : Nat} {W W' : World} {a1 a2 : Option Addr} {n1 c1 n2 c2 g : Nat} {ys : List Value} (h2 : W.ownsRow base 3 1 (.slice a2 n2 c2) n2 ys) (hf : Far a1 a2) (hg : W.grownBy W' (Value.slice a1 n1 c1).ownBlock) (hat : (Value.slice a1 n1 c1).ownBlock = some g ∨ g = W.heap.size) :
    W'.ownsRow base 3 1 (.slice a2 n2 c2) n2 ys ∧ Far (some ⟨g, 0, none⟩) a2 := by
  constructor
  · refine World.ownsRow.kept h2 hg ?_
    rcases a2 with _ | y
    · exact Or.inl rfl
    · refine Or.inr (fun e => ?_)
      rcases a1 with _ | x
      · simp [Value.ownBlock] at e
      · simp [Value.ownBlock] at e
        exact hf x y rfl rfl e.symm
  · intro x y hx hy
    cases hx
    have hb := own_block h2 y hy
    rcases hat with hat | hat
    · rcases a1 with _ | x
      · simp [Value.ownBlock] at hat
      · simp [Value.ownBlock] at hat
        have := hf x y rfl hy
        simpa [hat] using this
    · have : (⟨g, 0, none⟩ : Addr).block = g := rfl
      rw [this]
      omega


end Go.Proofs.Ytbeielafbegflaa.Wpu
