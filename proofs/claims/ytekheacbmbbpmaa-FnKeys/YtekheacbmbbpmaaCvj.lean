/-
  Appends of lists in a region that draws its order; a list of sentences grows by one. Contract of the model's CoverOf: what it wants.
-/
import Derived.Test.YtekheacbmbbpmaaCvi
import Derived.Test.YtekheacbmbbpmaaApp
import Derived.Deep.AppendLies
import Derived.Test.YtekheacbmbbpmaaIvb
import Derived.Test.YtekheacbmbbpmaaSc
namespace Go.Proofs.Ytekheacbmbbpmaa.Cvj
open Go.RowKit
open Go.Proofs.Ytekheacbmbbpmaa.Frame Go.Proofs.Ytekheacbmbbpmaa.Mem Go.Proofs.Ytekheacbmbbpmaa.Ints Go.Proofs.Ytekheacbmbbpmaa.Kep Go.Proofs.Ytekheacbmbbpmaa.Lls Go.Proofs.Ytekheacbmbbpmaa.Mis Go.Proofs.Ytekheacbmbbpmaa.Dls Go.Proofs.Ytekheacbmbbpmaa.Dlt Go.Proofs.Ytekheacbmbbpmaa.Dlk
open Go.Proofs.Ytekheacbmbbpmaa.Cpu hiding Dp

/-- One list of numbers appended to an empty one. -/
structure App1 (w w' : World) (blk : Nat) (a' : Option Addr) (m c' : Nat) (zs : List Int) : Prop where
  own : w'.ownsRow blk 3 1 (.slice a' m c') m (ints .i64 zs)
  lies : ∀ x, a' = some x → x.block = blk ∨ w.heap.size ≤ x.block
  only : OnlyAt (some ⟨blk, 0, none⟩) w w'

theorem step_int (w : World) {ops : Array Oper} {o : Oper} {a : Act} {K : Act → World → Prop} {Q : Exit → Act → World → Prop} {E : Prop} (hgd : o.guard = none) (s x : Operand)
    (ho : o.op = .call { callee := .builtin .append, args := #[s, x], argTypes := #[34, 34] })
    (blk : Nat) (sp : Option Addr) (m c : Nat) (zs : List Int) (hx : a.eval x = .slice sp m c) (hs : a.eval s = .slice (some ⟨blk, 0, none⟩) 0 0)
    (hown : w.ownsRow blk 3 1 (.slice (some ⟨blk, 0, none⟩) 0 0) 0 []) (hr : IsRow .i64 w sp m c zs) (hm : m ≤ 1048576)
    (h : ∀ a' c' w', App1 w w' blk a' m c' zs → K (a.put o.dst (.slice a' m c')) w') :
    if Region.wanted o (yielded ops a.tmps) = true then Oper.wp Try.prog o a w K Q else E := by
  obtain ⟨i0, hi, hz0, hz1, hz2⟩ := info_parts Ints.info
  have hb := own_block hown _ rfl
  by_cases h0 : 0 < m
  · obtain ⟨ad, rfl, hn⟩ := news_row hr h0
    refine step_append_lies w hgd s x 34 ho blk 3 i0 (.int .i64 0) 1 8 Try.underlying34 hi hz0 hz1 hz2 rfl (by decide) _ 0 [] hs hown ad m c (ints .i64 zs) hx (by rw [ints_length, hr.len]; omega) hn (one_int _) h0 (by unfold maxLen; omega) (by omega) (Nat.le_of_lt hb.2) _ rfl (fun g cap w' h2 h3 h4 _ => ?_)
    rw [Nat.zero_add] at h2 ⊢
    rw [List.nil_append] at h2
    refine h _ _ w' ⟨h2, fun x hx => ?_, Sc.only_grown h3⟩
    cases hx
    rcases h4 with h4 | h4
    · simp [Value.ownBlock] at h4
      exact Or.inl h4.symm
    · exact Or.inr (Nat.le_of_eq h4.symm)
  · obtain rfl : m = 0 := by omega
    have hz : zs = [] := List.eq_nil_of_length_eq_zero hr.len
    subst hz
    have hrun := App.run_append_zero (P := Try.prog) w blk 34 o.type 3 i0 1 Try.underlying34 hi _ 0 [] hown sp c
    have hw : Region.wanted o (yielded ops a.tmps) = true := by simp [Region.wanted, hgd]
    rw [if_pos hw]
    unfold Oper.wp
    simp [execOp, ho, resolve, invoke, builtin, hs, hx, hrun, Result.andThen]
    exact h _ _ w ⟨hown, fun x hx => by cases hx; exact Or.inl rfl, OnlyAt.refl _ _⟩

theorem app_fin {V P w2 wx w3 : World} {b1 b2 : Nat} {a2 a3 : Option Addr} {n2 c2 n3 c3 : Nat} {d : Dp} (A1 : App1 P w2 b1 a2 n2 c2 d.1) (hx : Below w2.heap.size w2 wx) (A2 : App1 wx w3 b2 a3 n3 c3 d.2) (h1 : V.heap.size ≤ b1) (h2 : V.heap.size ≤ b2) (hne : b1 ≠ b2) (hb2 : b2 < P.heap.size ∨ w2.heap.size ≤ b2) (hP : Below V.heap.size V P) (hw1 : ∀ z ∈ d.1, (Lit.int .i64 z).wf = true) (hw2 : ∀ z ∈ d.2, (Lit.int .i64 z).wf = true) (hn2 : n2 ≤ 1048576) (hn3 : n3 ≤ 1048576) :
    EOwn w3 V.heap.size w3.heap.size (.slice a2 n2 c2) (.slice a3 n3 c3) d ∧ Below V.heap.size V w3 := by
  have sx := hx.size
  have sP := hP.size
  have s2 := A1.only.size
  have s3 := A2.only.size
  have k1 := own_block A1.own
  have k2 := own_block A2.own
  have f2 : ∀ x, a2 = some x → x.block ≠ b2 := fun x hx => by
    have := k1 x hx
    rcases A1.lies x hx with h | h
    · omega
    · rcases hb2 with hb | hb <;> omega
  have o1 := own_touch (own_below A1.own hx) A2.only (fun x y hx hy => by cases hy; exact f2 x hx)
  have B2 : Below V.heap.size V w2 := below_touch hP A1.only (fun x hx => by cases hx; exact h1) sP
  have B3 : Below V.heap.size V w3 := below_touch (Frame.next B2 hx B2.size) A2.only (fun x hx => by cases hx; exact h2) (by omega)
  have ff : Far a2 a3 := fun x y hx hy => by
    have := k1 x hx
    have := f2 x hx
    rcases A2.lies y hy with h | h
    · omega
    · omega
  exact ⟨⟨iOwn_of (own_base o1 h1) hw1 hn2, iOwn_of (own_base A2.own h2) hw2 hn3, ff⟩, B3⟩
theorem app_below {V P w2 : World} {b1 : Nat} {a2 : Option Addr} {n2 c2 : Nat} {zs : List Int} (A1 : App1 P w2 b1 a2 n2 c2 zs) (h1 : V.heap.size ≤ b1) (hP : Below V.heap.size V P) : Below V.heap.size V w2 := below_touch hP A1.only (fun x hx => by cases hx; exact h1) hP.size
theorem app_other {P w2 : World} {b1 b2 : Nat} {a2 : Option Addr} {n2 c2 : Nat} {zs : List Int} (A1 : App1 P w2 b1 a2 n2 c2 zs) (h : P.ownsRow b2 3 1 (.slice (some ⟨b2, 0, none⟩) 0 0) 0 []) (hne : b2 ≠ b1) : w2.ownsRow b2 3 1 (.slice (some ⟨b2, 0, none⟩) 0 0) 0 [] := own_touch h A1.only (fun x y hx hy => by cases hx; cases hy; exact hne)
theorem intNeD : (3 : TypeId) ≠ 36 := by decide
theorem g_push {W W' : World} {base m c c' : Nat} {a a' : Option Addr} {rs : List LV} {r q : LV} (h : OwnG W base a m c rs) (hr : W.ownsRow base 3 1 (.slice r.a r.n r.c) r.n (ints .i64 r.zs)) (hq : W.ownsRow base 3 1 (.slice q.a q.n q.c) q.n (ints .i64 q.zs)) (hw : ∀ z ∈ r.zs, (Lit.int .i64 z).wf = true) (hw2 : ∀ z ∈ q.zs, (Lit.int .i64 z).wf = true) (hf : ∀ s ∈ rs, Far s.a r.a ∧ Far s.a q.a) (hrq : Far r.a q.a)
    (hg : W.grownBy W' (Value.slice a m c).ownBlock) (ho : W'.ownsRow base 36 2 (.slice a' (m + 1) c') (m + 1) (lcells (rs ++ [r, q]))) : OwnG W' base a' (m + 1) c' (rs ++ [r, q]) := by
  have kept : ∀ s ∈ rs ++ [r, q], W'.ownsRow base 3 1 (.slice s.a s.n s.c) s.n (ints .i64 s.zs) := fun s hs => by
    rcases List.mem_append.1 hs with hs | hs
    · exact Sc.own_kept (h.inner s hs) h.outer intNeD hg
    · rcases List.mem_cons.1 hs with rfl | hs
      · exact Sc.own_kept hr h.outer intNeD hg
      · rw [List.mem_singleton.1 hs]; exact Sc.own_kept hq h.outer intNeD hg
  refine ⟨ho, kept, fun s hs => ?_, ?_, fun s hs => Far.symm (Sc.own_far (kept s hs) ho intNeD)⟩
  · rcases List.mem_append.1 hs with hs | hs
    · exact h.wf s hs
    · rcases List.mem_cons.1 hs with rfl | hs
      · exact hw
      · rw [List.mem_singleton.1 hs]; exact hw2
  · rw [List.pairwise_append]
    refine ⟨h.apart, ?_, fun s hs t ht => ?_⟩
    · exact List.pairwise_cons.2 ⟨fun t ht => by rw [List.mem_singleton.1 ht]; exact hrq, List.pairwise_singleton _ _⟩
    · rcases List.mem_cons.1 ht with rfl | ht
      · exact (hf s hs).1
      · rw [List.mem_singleton.1 ht]; exact (hf s hs).2
theorem news_two (w : World) (u v : Value) (t : TypeId) : 0 < 1 → ∃ ad, (some ⟨w.heap.size, 0, none⟩ : Option Addr) = some ad ∧ ∀ j x, ([u, v] : List Value)[j]? = some x → (w.alloc (.cells #[u, v] t)).cell? (ad.add j) = some x := fun _ => ⟨_, rfl, fun j x hx => by
  rcases j with _ | _ | j
  · simp at hx
    subst hx
    exact (Lsa.cells_one w u v t).1
  · simp at hx
    subst hx
    exact (Lsa.cells_one w u v t).2
  · simp at hx⟩
theorem grown_cell {w w' : World} {a : Option Addr} {n c b o : Nat} {v : Value} (hg : w.grownBy w' (Value.slice a n c).ownBlock) (hb : b < w.heap.size) (hne : ∀ x, a = some x → b ≠ x.block) (h : w.cell? ⟨b, o, none⟩ = some v) : w'.cell? ⟨b, o, none⟩ = some v := by
  rw [(Sc.only_grown hg).cell hb hne]
  exact h


end Go.Proofs.Ytekheacbmbbpmaa.Cvj
