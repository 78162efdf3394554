/-
  Contract of the model's l2Own: a table's rows anew, by append.
-/
import Derived.Test.YtciaegdgoabipaaGtab
import Derived.Test.YtciaegdgoabipaaCpy
namespace Go.Proofs.Ytciaegdgoabipaa.Own
open Go.RowKit
open Go.Proofs.Ytciaegdgoabipaa.Frame Go.Proofs.Ytciaegdgoabipaa.Mem Go.Proofs.Ytciaegdgoabipaa.Vals Go.Proofs.Ytciaegdgoabipaa.Rws Go.Proofs.Ytciaegdgoabipaa.Val Go.Proofs.Ytciaegdgoabipaa.Tab Go.Proofs.Ytciaegdgoabipaa.Reg Go.Proofs.Ytciaegdgoabipaa.Gtab Go.Proofs.Ytciaegdgoabipaa.Cpy

theorem own_grown {w w1 : World} {base : Nat} {e : TypeId} {size : Nat} {v : Value} {n : Nat} {xs : List Value} {row : Option Nat} (h : w.ownsRow base e size v n xs) (hg : w.grownBy w1 row) (hne : ∀ g, v.ownBlock = some g → some g ≠ row) : w1.ownsRow base e size v n xs := by
  refine ⟨h.1, ?_⟩
  rcases h.2 with h0 | ⟨g, cap, cur, rfl, hb, hh, rest⟩
  · exact Or.inl h0
  · refine Or.inr ⟨g, cap, cur, rfl, hb, ?_, rest⟩
    have hlt : g < w.heap.size := by
      by_cases hx : g < w.heap.size
      · exact hx
      · rw [Array.getElem?_eq_none (by omega)] at hh; cases hh
    rw [hg.block g hlt (hne g rfl)]
    exact hh

theorem ownRows_nil (w : World) (base : Nat) : OwnRows w base none 0 0 [] :=
  ⟨World.ownsRow_nil _ _ _ _, fun r hr => absurd hr (by simp), fun r hr => absurd hr (by simp), List.Pairwise.nil, fun r hr => absurd hr (by simp)⟩

theorem OwnRows.appended {w w1 : World} {base k c g cap' : Nat} {a : Option Addr} {qs : List RowV} {r : RowV} (h : OwnRows w base a k c qs) (hr : w.ownsRow base 45 2 (.slice r.a r.n r.c) r.n (vcells r.vs))
    (hwf : (Lit.int .i64 r.key).wf = true ∧ ∀ v ∈ r.vs, (Lit.int .i64 v.2).wf = true) (f0 : Far a r.a) (f1 : ∀ q ∈ qs, Far q.a r.a)
    (ho : w1.ownsRow base 26 2 (.slice (some ⟨g, 0, none⟩) (k + 1) cap') (k + 1) (rcells qs ++ rcells [r])) (hg : w.grownBy w1 (Value.slice a k c).ownBlock) (hat : (Value.slice a k c).ownBlock = some g ∨ g = w.heap.size) :
    OwnRows w1 base (some ⟨g, 0, none⟩) (k + 1) cap' (qs ++ [r]) := by
  have inn : ∀ q ∈ qs ++ [r], w.ownsRow base 45 2 (.slice q.a q.n q.c) q.n (vcells q.vs) ∧ Far a q.a := by
    intro q hq
    rcases List.mem_append.1 hq with hq | hq
    · exact ⟨h.inner q hq, h.apart0 q hq⟩
    · rw [List.mem_singleton.1 hq]; exact ⟨hr, f0⟩
  refine ⟨by rw [rcells_append]; exact ho, fun q hq => own_grown (inn q hq).1 hg ?_, ?_, ?_, ?_⟩
  · intro g' e1 e2
    cases ha : a with
    | none => rw [ha] at e2; simp [Value.ownBlock] at e2
    | some x =>
      cases hb : q.a with
      | none => rw [hb] at e1; simp [Value.ownBlock] at e1
      | some y =>
        rw [ha] at e2
        rw [hb] at e1
        simp only [Value.ownBlock, Option.some.injEq] at e1 e2
        exact (inn q hq).2 x y ha hb (by omega)
  · intro q hq
    rcases List.mem_append.1 hq with hq | hq
    · exact h.wf q hq
    · rw [List.mem_singleton.1 hq]; exact hwf
  · refine List.pairwise_append.2 ⟨h.apart, List.pairwise_singleton _ _, fun q hq s hs => ?_⟩
    rw [List.mem_singleton.1 hs]
    exact f1 q hq
  · intro q hq x y hx hy
    cases hx
    show g ≠ y.block
    rcases hat with hat | hat
    · cases ha : a with
      | none => rw [ha] at hat; simp [Value.ownBlock] at hat
      | some x =>
        rw [ha] at hat
        simp only [Value.ownBlock, Option.some.injEq] at hat
        rw [← hat]
        exact (inn q hq).2 x y ha hy
    · have := (own_block (inn q hq).1 y hy).2
      omega

theorem plain_take_succ {rs : List RowV} {k : Nat} (h : k < rs.length) : plain (rs.take (k + 1)) = plain (rs.take k) ++ [((rs.getD k rd).key, (rs.getD k rd).vs)] := by
  rw [take_succ_rd h]; simp [plain]

set_option maxHeartbeats 800000 in
theorem spec_l2Own (a : Option Addr) (n cap : Nat) (rs : List RowV) (w : World) (h : IsRows w a n cap rs) (hn : n ≤ 1048576) (hv : ∀ r ∈ rs, r.n ≤ 1048576) :
    Calls Try.prog 60 #[.slice a n cap] w fun e w' => ∃ a' c' qs, e = .returned (.slice a' n c') ∧ plain qs = plain rs ∧ OwnRows w' w.heap.size a' n c' qs ∧ Below w.heap.size w w' := by
  obtain ⟨i0, hi, hz0, hz1, hz2⟩ := info_parts infoR
  have HL : Hid (rs.length = n) := h.len
  have HI : Hid (IsRows w a n cap rs) := h
  have HV : Hid (∀ r ∈ rs, r.n ≤ 1048576) := hv
  clear h hv
  go_enter Try.func60, Try.ntmps60
  go_wp2_with fail
  go_loopw [3, 8] (fun o i wr => ∃ (k : Nat) (a' : Option Addr) (c' : Nat) (qs : List RowV), k ≤ n ∧ i = .int .i64 k ∧ o = .slice a' k c' ∧ plain qs = plain (rs.take k) ∧ OwnRows wr w.heap.size a' k c' qs ∧ Below w.heap.size w wr) (fun _ i _ => n - (intOf i).toNat)
  case atStart => exact ⟨0, none, 0, [], Nat.zero_le _, rfl, rfl, rfl, ownRows_nil _ _, Below.refl _ _⟩
  case round =>
    obtain ⟨k, a', c', qs, hk, rfl, rfl, hp, ho, hnx⟩ := hrel
    have HP : Hid (plain qs = plain (rs.take k)) := hp
    have HO : Hid (OwnRows wr w.heap.size a' k c' qs) := ho
    have HN : Hid (Below w.heap.size w wr) := hnx
    have hsr := hnx.size
    clear hp ho hnx
    by_cases hlt : k < n
    · obtain ⟨b, off, rfl, hbl, hc⟩ := HI.out.cells (by omega)
      have hkl : k < rs.length := by rw [HL.out]; exact hlt
      have p0 : wr.cell? ⟨b, off + k * 2, none⟩ = some (.int .i64 (rs.getD k rd).key) := by rw [HN.out.cell (p := ⟨b, off + k * 2, none⟩) hbl]; exact (hc k hlt).1
      have p1 : wr.cell? ⟨b, off + k * 2 + 1, none⟩ = some (.slice (rs.getD k rd).a (rs.getD k rd).n (rs.getD k rd).c) := by rw [HN.out.cell (p := ⟨b, off + k * 2 + 1, none⟩) hbl]; exact (hc k hlt).2
      have hkI : (k : Int) < (n : Int) := by omega
      have HR : Hid (((Lit.int .i64 (rs.getD k rd).key).wf = true ∧ IsVals w (rs.getD k rd).a (rs.getD k rd).n (rs.getD k rd).c (rs.getD k rd).vs) ∧ (rs.getD k rd).n ≤ 1048576) := ⟨HI.out.rows _ (getD_mem_rd hkl), HV.out _ (getD_mem_rd hkl)⟩
      have HPn : Hid (plain (rs.take (k + 1)) = plain (rs.take k) ++ [((rs.getD k rd).key, (rs.getD k rd).vs)]) := plain_take_succ hkl
      generalize rs.getD k rd = r at p0 p1 HR HPn
      obtain ⟨rk, ra, rn, rc, rvs⟩ := r
      simp only at p0 p1
      have HR2 : Hid (((Lit.int .i64 rk).wf = true ∧ IsVals w ra rn rc rvs) ∧ rn ≤ 1048576) := HR.out
      have HPn2 : Hid (plain (rs.take (k + 1)) = plain (rs.take k) ++ [(rk, rvs)]) := HPn.out
      clear hc hkl HR HPn
      go_wp2_with fail
      refine (spec_l2Copy rk ra rn rc rvs _ (HR2.out.1.2.below (HN.out.alloc hsr _)) HR2.out.2).mono ?_
      rintro e w2 ⟨a1, c1, rfl, ho2, hb2⟩
      have hs2 : wr.heap.size + 1 ≤ w2.heap.size := by simpa using hb2.size
      have HN2 : Hid (Below w.heap.size w w2) := Frame.next (HN.out.alloc hsr _) hb2 (by simp; omega)
      have HO2 : Hid (OwnRows w2 w.heap.size a' k c' qs) := OwnRows.below (OwnRows.below HO.out ((Below.refl _ _).alloc (Nat.le_refl _) _)) hb2
      have HI2 : Hid (w2.ownsRow (wr.heap.size + 1) 45 2 (.slice a1 rn c1) rn (vcells rvs)) := own_base ho2 (by simp)
      have HF : Hid (Far a' a1 ∧ ∀ q ∈ qs, Far q.a a1) := ⟨fun x y hx hy => by
          have h1 := (own_block HO.out.outer x hx).2
          have h2 := (own_block HI2.out y hy).1
          omega, fun q hq x y hx hy => by
          have h1 := (own_block (HO.out.inner q hq) x hx).2
          have h2 := (own_block HI2.out y hy).1
          omega⟩
      have HO3 : Hid (OwnRows (w2.alloc (.cells #[.int .i64 rk, .slice a1 rn c1] 26)) w.heap.size a' k c' qs) := OwnRows.below HO2.out ((Below.refl _ _).alloc (Nat.le_refl _) _)
      have HI3 : Hid ((w2.alloc (.cells #[.int .i64 rk, .slice a1 rn c1] 26)).ownsRow w.heap.size 45 2 (.slice a1 rn c1) rn (vcells rvs)) := own_base (own_below HI2.out ((Below.refl _ _).alloc (Nat.le_refl _) _)) (by omega)
      have HN3 : Hid (Below w.heap.size w (w2.alloc (.cells #[.int .i64 rk, .slice a1 rn c1] 26))) := HN2.out.alloc (by omega) _
      clear ho2 hb2 p0 p1
      go_wp2_with (at_builtin; refine wpList_append_lies _ rfl _ _ 23 rfl w.heap.size 26 i0 (.agg #[.int .i64 0, .slice none 0 0]) 2 32 Try.underlying23 hi hz0 hz1 hz2 rfl (by decide) _ _ _ rfl HO3.out.outer ⟨w2.heap.size, 0, none⟩ 1 1 [.int .i64 rk, .slice a1 rn c1] rfl rfl (World.news_of_block (heap_alloc_new w2 _)) ?c2 (by decide) ?c3 ?c4 HN3.out.size _ rfl ?_)
      case c2 => intro u hu; simp only [List.mem_cons, List.not_mem_nil, or_false] at hu; rcases hu with rfl | rfl <;> rfl
      case c3 => unfold maxLen; omega
      case c4 => omega
      intro g cap' w3 hown3 hgrow hat hlt3
      have HO4 : Hid (OwnRows w3 w.heap.size (some ⟨g, 0, none⟩) (k + 1) cap' (qs ++ [⟨rk, a1, rn, c1, rvs⟩])) :=
        OwnRows.appended (r := ⟨rk, a1, rn, c1, rvs⟩) HO3.out HI3.out ⟨HR2.out.1.1, HR2.out.1.2.wf⟩ HF.out.1 HF.out.2 hown3 hgrow (hat.imp id (fun e => by simpa using e))
      have HN4 : Hid (Below w.heap.size w w3) := below_grown HN3.out hgrow HN3.out.size (fun g' hg' => by
        cases ha : a' with
        | none => rw [ha] at hg'; simp [Value.ownBlock] at hg'
        | some x =>
          rw [ha] at hg'
          simp only [Value.ownBlock, Option.some.injEq] at hg'
          have := (own_block HO3.out.outer x ha).1
          omega)
      have HP4 : Hid (plain (qs ++ [⟨rk, a1, rn, c1, rvs⟩]) = plain (rs.take (k + 1))) := by
        show _ = _
        rw [HPn2.out, ← HP.out]
        simp [plain]
      clear hown3 hgrow hat
      go_wp2
      go_roundw
      case rel => exact ⟨k + 1, some ⟨g, 0, none⟩, cap', qs ++ [⟨rk, a1, rn, c1, rvs⟩], by omega, by go_num, rfl, HP4.out, HO4.out, HN4.out⟩
      case measure => simp [intOf]; omega
    · obtain rfl : k = n := by omega
      have HPE : Hid (plain qs = plain rs) := by show _ = _; rw [HP.out, List.take_of_length_le (by rw [HL.out]; omega)]
      go_wp2
      go_ret
      exact ⟨a', c', qs, rfl, HPE.out, HO.out, HN.out⟩


end Go.Proofs.Ytciaegdgoabipaa.Own
