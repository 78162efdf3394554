/-
  Contracts of the model's l3Pick, l3Add, l1Put.
-/
import Derived.Test.YtkondmnkmbdncaaSa
import Derived.Test.YtkondmnkmbdncaaMis
import Derived.Test.YtkondmnkmbdncaaTold
namespace Go.Proofs.Ytkondmnkmbdncaa.Sc
open Go.RowKit
open Go.Proofs.Ytkondmnkmbdncaa.Frame Go.Proofs.Ytkondmnkmbdncaa.Mem Go.Proofs.Ytkondmnkmbdncaa.Ints Go.Proofs.Ytkondmnkmbdncaa.Kep Go.Proofs.Ytkondmnkmbdncaa.Lls Go.Proofs.Ytkondmnkmbdncaa.Rpu Go.Proofs.Ytkondmnkmbdncaa.Krl Go.Proofs.Ytkondmnkmbdncaa.Sa Go.Proofs.Ytkondmnkmbdncaa.Mis Go.Proofs.Ytkondmnkmbdncaa.Told Go.Proofs.Ytkondmnkmbdncaa.Rel

theorem own_far {w : World} {b1 b2 s1 s2 : Nat} {e1 e2 : TypeId} {a a' : Option Addr} {n c n' c' : Nat} {xs ys : List Value} (h1 : w.ownsRow b1 e1 s1 (.slice a n c) n xs) (h2 : w.ownsRow b2 e2 s2 (.slice a' n' c') n' ys) (he : e1 ≠ e2) : Far a a' := by
  intro x y hx hy e
  rcases h1.2 with ⟨h, _⟩ | ⟨g, cap, cur, hv, _, hh, _⟩
  · simp only [Value.slice.injEq] at h
    rw [h.1] at hx
    cases hx
  · rcases h2.2 with ⟨h, _⟩ | ⟨g', cap', cur', hv', _, hh', _⟩
    · simp only [Value.slice.injEq] at h
      rw [h.1] at hy
      cases hy
    · simp only [Value.slice.injEq] at hv hv'
      rw [hv.1] at hx
      rw [hv'.1] at hy
      cases hx
      cases hy
      simp only at e
      subst e
      rw [hh] at hh'
      simp only [Option.some.injEq, Obj.cells.injEq] at hh'
      exact he hh'.2.1
theorem only_grown {w w' : World} {a : Option Addr} {n c : Nat} (hg : w.grownBy w' (Value.slice a n c).ownBlock) : OnlyAt a w w' := by
  refine ⟨hg.os, hg.tape, hg.output, hg.size, fun k hk hne => hg.block k hk (fun e => ?_)⟩
  cases a with
  | none => simp [Value.ownBlock] at e
  | some x => exact hne x rfl (by simpa [Value.ownBlock] using e)
theorem own_kept {w w' : World} {b1 b2 s1 s2 : Nat} {e1 e2 : TypeId} {a a' : Option Addr} {n c n' c' : Nat} {xs ys : List Value} (h1 : w.ownsRow b1 e1 s1 (.slice a n c) n xs) (h2 : w.ownsRow b2 e2 s2 (.slice a' n' c') n' ys) (he : e1 ≠ e2) (hg : w.grownBy w' (Value.slice a' n' c').ownBlock) : w'.ownsRow b1 e1 s1 (.slice a n c) n xs :=
  own_touch h1 (only_grown hg) (own_far h1 h2 he)
theorem intNe : (3 : TypeId) ≠ 24 := by decide
theorem ownR_kept {w w' : World} {base b2 : Nat} {x : LV} {a' : Option Addr} {n' c' : Nat} {ys : List Value} (h : OwnR w base x) (h2 : w.ownsRow b2 24 1 (.slice a' n' c') n' ys) (hg : w.grownBy w' (Value.slice a' n' c').ownBlock) : OwnR w' base x := ⟨own_kept h.1 h2 intNe hg, h.2⟩

theorem add_end {w W w2 w4 w5 : World} {base n cap k nk tn : Nat} {a a3 a4 a5 : Option Addr} {c3 c4 c5 : Nat} {rs : List LV} {ts : List Int} (hin : insL ts (lplain rs) = (lplain rs).take k ++ ts :: (lplain rs).drop k) (ho : OwnLs w base a n cap rs) (hb : base ≤ w.heap.size) (hl : ∀ r ∈ rs, r.zs.length = tn) (htl : ts.length = tn) (htw : ∀ z ∈ ts, (Lit.int .i64 z).wf = true)
    (bW : Below w.heap.size w W) (b4 : Below W.heap.size W w4) (o4 : w4.ownsRow W.heap.size 24 1 (.slice a4 (k + 1) c4) (k + 1) (lcells (rs.take k) ++ [.slice a3 tn c3])) (r4 : w4.ownsRow w2.heap.size 3 1 (.slice a3 tn c3) tn (ints .i64 ts)) (hs2 : W.heap.size ≤ w2.heap.size)
    (o5 : w5.ownsRow W.heap.size 24 1 (.slice a5 (k + 1 + nk) c5) (k + 1 + nk) (lcells (rs.take k) ++ .slice a3 tn c3 :: lcells (rs.drop k))) (g5 : w4.grownBy w5 (Value.slice a4 (k + 1) c4).ownBlock) :
    ∃ rs', OwnLs w5 base a5 (k + 1 + nk) c5 rs' ∧ lplain rs' = insL ts (lplain rs) ∧ (∀ r ∈ rs', r.zs.length = tn) ∧ Below w.heap.size w w5 := by
  have b5 : Below W.heap.size W w5 := below_app b4 o4 g5 b4.size (Nat.le_refl _)
  have bw : Below w.heap.size w w5 := Frame.next bW b5 bW.size
  have r5 : w5.ownsRow w2.heap.size 3 1 (.slice a3 tn c3) tn (ints .i64 ts) := own_kept r4 o4 intNe g5
  have hmem : ∀ r ∈ rs.take k ++ ⟨a3, tn, c3, ts⟩ :: rs.drop k, r = ⟨a3, tn, c3, ts⟩ ∨ r ∈ rs := fun r hr => by
    rcases List.mem_append.1 hr with h | h
    · exact .inr (List.mem_of_mem_take h)
    · rcases List.mem_cons.1 h with h | h
      · exact .inl h
      · exact .inr (List.mem_of_mem_drop h)
  have hsW := bW.size
  have hold : ∀ r ∈ rs, ∀ x, r.a = some x → x.block < w.heap.size := fun r hr x hx => (own_block (ho.inner r hr) x hx).2
  have hnew : ∀ x, a3 = some x → w2.heap.size ≤ x.block := fun x hx => (own_block r5 x hx).1
  have hinner : ∀ r ∈ rs, w5.ownsRow base 3 1 (.slice r.a r.n r.c) r.n (ints .i64 r.zs) := fun r hr => own_below (ho.inner r hr) bw
  refine ⟨rs.take k ++ ⟨a3, tn, c3, ts⟩ :: rs.drop k, ⟨?_, fun r hr => ?_, fun r hr => ?_, ?_, fun r hr => ?_⟩, ?_, fun r hr => ?_, bw⟩
  · have e : lcells (rs.take k ++ ⟨a3, tn, c3, ts⟩ :: rs.drop k) = lcells (rs.take k) ++ .slice a3 tn c3 :: lcells (rs.drop k) := by simp [lcells, lcell]
    rw [e]
    exact own_base o5 (by omega)
  · rcases hmem r hr with rfl | h
    · exact own_base r5 (by omega)
    · exact hinner r h
  · rcases hmem r hr with rfl | h
    · exact htw
    · exact ho.wf r h
  · have hp := ho.apart
    have hsplit : rs = rs.take k ++ rs.drop k := (List.take_append_drop k rs).symm
    rw [hsplit, List.pairwise_append] at hp
    obtain ⟨p1, p2, p3⟩ := hp
    have far1 : ∀ r ∈ rs, Far r.a a3 := fun r hr x y hx hy => by have := hold r hr x hx; have := hnew y hy; omega
    rw [List.pairwise_append, List.pairwise_cons]
    refine ⟨p1, ⟨fun s hs => (far1 s (List.mem_of_mem_drop hs)).symm, p2⟩, fun r hr s hs => ?_⟩
    rcases List.mem_cons.1 hs with rfl | hs
    · exact far1 r (List.mem_of_mem_take hr)
    · exact p3 r hr s hs
  · rcases hmem r hr with rfl | h
    · exact own_far o5 r5 (Ne.symm intNe)
    · exact own_far o5 (hinner r h) (Ne.symm intNe)
  · rw [hin]
    simp [lplain, List.map_take, List.map_drop]
  · rcases hmem r hr with rfl | h
    · exact htl
    · exact hl r h


end Go.Proofs.Ytkondmnkmbdncaa.Sc
