/-
  Contract of the model's Rename.
-/
import Derived.Test.YteihhpjneeaiaabSg
import Derived.Test.YteihhpjneeaiaabSi
import Derived.Test.YteihhpjneeaiaabReq
namespace Go.Proofs.Yteihhpjneeaiaab.Sj
open Go.RowKit
open Go.Proofs.Yteihhpjneeaiaab.Frame Go.Proofs.Yteihhpjneeaiaab.Mem Go.Proofs.Yteihhpjneeaiaab.Ints Go.Proofs.Yteihhpjneeaiaab.Kep Go.Proofs.Yteihhpjneeaiaab.Lls Go.Proofs.Yteihhpjneeaiaab.Rpu Go.Proofs.Yteihhpjneeaiaab.Krl Go.Proofs.Yteihhpjneeaiaab.Sa Go.Proofs.Yteihhpjneeaiaab.Sb Go.Proofs.Yteihhpjneeaiaab.Sc Go.Proofs.Yteihhpjneeaiaab.Sd Go.Proofs.Yteihhpjneeaiaab.Si Go.Proofs.Yteihhpjneeaiaab.Mis Go.Proofs.Yteihhpjneeaiaab.Told Go.Proofs.Yteihhpjneeaiaab.Rel Go.Proofs.Yteihhpjneeaiaab.Req

theorem start2 {w : World} {ua ta : Option Addr} {un uc tn tc : Nat} {w7 : World} (hb7 : Below ((w.alloc (.cells #[.slice ua un uc, .slice ta tn tc] 27)).alloc (.cells #[.slice none 0 0, .slice none 0 0] 27)).heap.size ((w.alloc (.cells #[.slice ua un uc, .slice ta tn tc] 27)).alloc (.cells #[.slice none 0 0, .slice none 0 0] 27)) w7) :
    (w7.cell? ⟨w.heap.size, 0, none⟩ = some (.slice ua un uc) ∧ w7.cell? ⟨w.heap.size, 1, none⟩ = some (.slice ta tn tc)) ∧ (w7.cell? ⟨w.heap.size + 1, 0, none⟩ = some (.slice none 0 0) ∧ w7.cell? ⟨w.heap.size + 1, 1, none⟩ = some (.slice none 0 0) ∧ w7.frozen? ⟨w.heap.size + 1, 0, none⟩ = false ∧ w7.frozen? ⟨w.heap.size + 1, 1, none⟩ = false ∧ w.heap.size + 1 + 1 ≤ w7.heap.size) ∧ Below w.heap.size w w7 := by
  have hs2 : ((w.alloc (.cells #[.slice ua un uc, .slice ta tn tc] 27)).alloc (.cells #[.slice none 0 0, .slice none 0 0] 27)).heap.size = w.heap.size + 2 := by simp
  have B2 : Below w.heap.size w ((w.alloc (.cells #[.slice ua un uc, .slice ta tn tc] 27)).alloc (.cells #[.slice none 0 0, .slice none 0 0] 27)) := ((Below.refl _ _).alloc (Nat.le_refl _) _).alloc (by simp) _
  have bc := Frame.bcell hb7
  rw [hs2] at bc
  refine ⟨⟨?_, ?_⟩, ⟨?_, ?_, ?_, ?_, bc.2.2⟩, Frame.next B2 hb7 B2.size⟩
  · rw [bc.1 _ _ (by omega)]; go_simp
  · rw [bc.1 _ _ (by omega)]; go_simp
  · rw [bc.1 _ _ (by omega)]; go_simp
  · rw [bc.1 _ _ (by omega)]; go_simp
  · rw [bc.2.1 _ _ (by omega)]; go_simp
  · rw [bc.2.1 _ _ (by omega)]; go_simp
theorem rename_no {r : Rl} {x y : Int} (h : renameB r x y = false) : renameV r x y = ([], []) ∧ renameG r x y = false := by
  unfold renameV renameG
  rw [h]
  exact ⟨rfl, rfl⟩
theorem rename_yes {r : Rl} {x y : Int} (h : renameB r x y = true) : renameV r x y = tellV (renameN r x y) (renameL r x y) ∧ renameG r x y = tellG (renameN r x y) (renameL r x y) := by
  unfold renameV renameG
  rw [h]
  exact ⟨rfl, rfl⟩
def keepN (x : Int) (l : List Int) : List Int := l.filter fun n => decide (n ≠ x)
theorem take_succ0 {l : List Int} {k : Nat} (h : k < l.length) : l.take (k + 1) = l.take k ++ [l.getD k 0] := by
  rw [List.take_succ_eq_append_getElem h]
  simp [List.getD, h]
theorem keep_in {x : Int} {l : List Int} {k : Nat} (h : k < l.length) (e : l.getD k 0 ≠ x) : keepN x (l.take (k + 1)) = keepN x (l.take k) ++ [l.getD k 0] := by
  rw [take_succ0 h]
  unfold keepN
  rw [List.filter_append, List.filter_cons, if_pos (decide_eq_true e)]
  rfl
theorem keep_out {x : Int} {l : List Int} {k : Nat} (h : k < l.length) (e : l.getD k 0 = x) : keepN x (l.take (k + 1)) = keepN x (l.take k) := by
  rw [take_succ0 h]
  unfold keepN
  rw [List.filter_append, List.filter_cons, if_neg (by rw [e]; simp)]
  simp
theorem order_succ {r : Rl} {x y : Int} {k : Nat} (h : k < (renameN r x y).length) (v : Int) (e : v = if (renameN r x y).getD k 0 = y then x else (renameN r x y).getD k 0) : (renameO r x y).take (k + 1) = (renameO r x y).take k ++ [v] := by
  have hl : k < (renameO r x y).length := by unfold renameO; rw [List.length_map]; exact h
  rw [take_succ0 hl, e]
  congr 2
  unfold renameO
  simp [List.getD, h]
theorem order_in {r : Rl} {x y z : Int} (hx : x ∈ r.1) (hz : z ∈ renameO r x y) : z ∈ r.1 := by
  unfold renameO at hz
  obtain ⟨n, hn, e⟩ := List.mem_map.1 hz
  by_cases h : n = y
  · rw [if_pos h] at e; rw [← e]; exact hx
  · rw [if_neg h] at e
    rcases mem_renameN.1 hn with h1 | h1
    · exact absurd h1 h
    · rw [← e]; exact h1.1
theorem own_shape {w : World} {base : Nat} {e : TypeId} {a : Option Addr} {n c : Nat} {xs : List Value} (h : w.ownsRow base e 1 (.slice a n c) n xs) : (n = 0 ∧ a = none ∧ c = 0) ∨ ∃ g, a = some ⟨g, 0, none⟩ := by
  rcases h.2 with ⟨hv, h0⟩ | ⟨g, cap, cur, hv, _⟩
  · simp only [Value.slice.injEq] at hv
    exact Or.inl ⟨h0, hv.1, hv.2.2⟩
  · simp only [Value.slice.injEq] at hv
    exact Or.inr ⟨g, hv.1⟩
theorem own_row {w : World} {base : Nat} {a : Option Addr} {n c : Nat} {zs : List Int} (h : w.ownsRow base 3 1 (.slice a n c) n (ints .i64 zs)) (hw : ∀ z ∈ zs, (Lit.int .i64 z).wf = true) : IsRow .i64 w a n c zs := by
  obtain ⟨a', c', e, hr⟩ := isRow_own h hw
  cases e
  exact hr

set_option maxRecDepth 4000 in
set_option maxHeartbeats 6400000 in
theorem spec_Rename (u t : Value) (r : Rl) (x y : Int) (w : World) (h : QIs w u t r) (_hx : (Lit.int .i64 x).wf = true) (hy : (Lit.int .i64 y).wf = true) : Calls Try.prog 16 #[.agg #[u, t], .int .i64 x, .int .i64 y] w (RTold (renameV r x y) (renameG r x y) w) := by
  obtain ⟨i0, hi, hz0, hz1, hz2⟩ := info_parts infoL
  obtain ⟨j0, hj, jz0, jz1, jz2⟩ := info_parts Ints.info
  have HQ : Hid (QIs w u t r) := h
  obtain ⟨⟨ua, un, uc, rfl, hu, hun⟩, ta, tn, tc, rs, rfl, ht, hrs, htt⟩ := h
  have HU : Hid (IsRow .i64 w ua un uc r.1) := hu
  have HT : Hid (IsLs w ta tn tc rs) := ht
  have HRS : Hid (lplain rs = r.2) := hrs
  have HTL : Hid (rs.length = tn) := ht.len
  have HUL : Hid (r.1.length = un) := hu.len
  have HYW : Hid ((Lit.int .i64 y).wf = true) := hy
  have B2 : Hid (Below w.heap.size w ((w.alloc (.cells #[.slice ua un uc, .slice ta tn tc] 27)).alloc (.cells #[.slice none 0 0, .slice none 0 0] 27))) := ((Below.refl _ _).alloc (Nat.le_refl _) _).alloc (by simp) _
  obtain ⟨jx, hjx⟩ : ∃ j, Lib.idxOf r.1 x = j := ⟨_, rfl⟩
  obtain ⟨jy, hjy⟩ : ∃ j, Lib.idxOf r.1 y = j := ⟨_, rfl⟩
  have HJX : Hid (Lib.idxOf r.1 x = jx) := hjx
  have HJY : Hid (Lib.idxOf r.1 y = jy) := hjy
  have HB : Hid (renameB r x y = (goodR r.1 r.2 && decide (0 ≤ jx) && !decide (0 ≤ jy) && Val.inB y 0 20)) := by show _ = _; unfold renameB; rw [hjx, hjy]
  clear hu ht hrs htt hy hjx hjy
  cases hg : goodR r.1 r.2
  · have HG : Hid (goodR r.1 r.2 = false) := hg
    have F : Hid (renameV r x y = ([], []) ∧ renameG r x y = false) := rename_no (by rw [HB.out, hg]; rfl)
    clear hg
    go_enter Try.func16, Try.ntmps16
    go_wp2_with fail
    refine (spec_GoodRelation _ _ r _ (qIs_below HQ.out B2.out)).mono ?_
    rintro e w1 ⟨rfl, hb1⟩
    rw [HG.out]
    obtain ⟨⟨d0, d1⟩, ⟨c0, c1, f0, f1, hs1⟩, b1⟩ := start2 hb1
    have B1 : Hid (Below w.heap.size w w1) := b1
    have C1 : Hid (w1.cell? ⟨w.heap.size + 1, 0, none⟩ = some (.slice none 0 0) ∧ w1.cell? ⟨w.heap.size + 1, 1, none⟩ = some (.slice none 0 0) ∧ w1.frozen? ⟨w.heap.size + 1, 0, none⟩ = false ∧ w1.frozen? ⟨w.heap.size + 1, 1, none⟩ = false ∧ w.heap.size + 1 + 1 ≤ w1.heap.size) := ⟨c0, c1, f0, f1, hs1⟩
    have D1 : Hid (w1.cell? ⟨w.heap.size, 0, none⟩ = some (.slice ua un uc) ∧ w1.cell? ⟨w.heap.size, 1, none⟩ = some (.slice ta tn tc)) := ⟨d0, d1⟩
    clear hb1 b1
    go_wp2
    refine bodyPost_ret (v := .tuple #[.agg #[.slice none 0 0, .slice none 0 0], .bool false]) (by simp [results, Try.results16, go_sem, c0, c1]) rfl ?_
    rw [F.out.1, F.out.2]
    exact Sg.told_none (by omega) B1.out
  · have HG : Hid (goodR r.1 r.2 = true) := hg
    have GG : Hid (Rel.Good r.1 r.2) := good_iff.1 hg
    have hfew : un ≤ 6 := by have := GG.out.few; rw [HUL.out] at this; exact this
    clear hg
    by_cases hjx0 : jx < 0
    · have F : Hid (renameV r x y = ([], []) ∧ renameG r x y = false) := rename_no (by rw [HB.out, decide_eq_false (show ¬ 0 ≤ jx by omega)]; simp)
      go_enter Try.func16, Try.ntmps16
      go_wp2_with fail
      refine (spec_GoodRelation _ _ r _ (qIs_below HQ.out B2.out)).mono ?_
      rintro e w1 ⟨rfl, hb1⟩
      rw [HG.out]
      obtain ⟨⟨d0, d1⟩, ⟨c0, c1, f0, f1, hs1⟩, b1⟩ := start2 hb1
      have B1 : Hid (Below w.heap.size w w1) := b1
      have C1 : Hid (w1.cell? ⟨w.heap.size + 1, 0, none⟩ = some (.slice none 0 0) ∧ w1.cell? ⟨w.heap.size + 1, 1, none⟩ = some (.slice none 0 0) ∧ w1.frozen? ⟨w.heap.size + 1, 0, none⟩ = false ∧ w1.frozen? ⟨w.heap.size + 1, 1, none⟩ = false ∧ w.heap.size + 1 + 1 ≤ w1.heap.size) := ⟨c0, c1, f0, f1, hs1⟩
      have D1 : Hid (w1.cell? ⟨w.heap.size, 0, none⟩ = some (.slice ua un uc) ∧ w1.cell? ⟨w.heap.size, 1, none⟩ = some (.slice ta tn tc)) := ⟨d0, d1⟩
      clear hb1 b1
      go_wp2_with fail
      refine (spec_l3At _ _ _ r.1 x _ (IsRow.below HU.out B1.out)).mono ?_
      rintro e w' ⟨rfl, hw'⟩; have hw'' := hw'.symm; clear hw'; subst hw''
      rw [HJX.out]
      go_wp2
      refine bodyPost_ret (v := .tuple #[.agg #[.slice none 0 0, .slice none 0 0], .bool false]) (by simp [results, Try.results16, go_sem, c0, c1]) rfl ?_
      rw [F.out.1, F.out.2]
      exact Sg.told_none (by omega) B1.out
    · have hjx1 : 0 ≤ jx := by omega
      have HXM : Hid (x ∈ r.1) := (idx_nonneg _ _).1 (by rw [HJX.out]; exact hjx1)
      by_cases hjy0 : 0 ≤ jy
      · have F : Hid (renameV r x y = ([], []) ∧ renameG r x y = false) := rename_no (by rw [HB.out, decide_eq_true hjy0]; simp)
        go_enter Try.func16, Try.ntmps16
        go_wp2_with fail
        refine (spec_GoodRelation _ _ r _ (qIs_below HQ.out B2.out)).mono ?_
        rintro e w1 ⟨rfl, hb1⟩
        rw [HG.out]
        obtain ⟨⟨d0, d1⟩, ⟨c0, c1, f0, f1, hs1⟩, b1⟩ := start2 hb1
        have B1 : Hid (Below w.heap.size w w1) := b1
        have C1 : Hid (w1.cell? ⟨w.heap.size + 1, 0, none⟩ = some (.slice none 0 0) ∧ w1.cell? ⟨w.heap.size + 1, 1, none⟩ = some (.slice none 0 0) ∧ w1.frozen? ⟨w.heap.size + 1, 0, none⟩ = false ∧ w1.frozen? ⟨w.heap.size + 1, 1, none⟩ = false ∧ w.heap.size + 1 + 1 ≤ w1.heap.size) := ⟨c0, c1, f0, f1, hs1⟩
        have D1 : Hid (w1.cell? ⟨w.heap.size, 0, none⟩ = some (.slice ua un uc) ∧ w1.cell? ⟨w.heap.size, 1, none⟩ = some (.slice ta tn tc)) := ⟨d0, d1⟩
        clear hb1 b1
        go_wp2_with fail
        refine (spec_l3At _ _ _ r.1 x _ (IsRow.below HU.out B1.out)).mono ?_
        rintro e w' ⟨rfl, hw'⟩; have hw'' := hw'.symm; clear hw'; subst hw''
        rw [HJX.out]
        go_wp2_with fail
        refine (spec_l3At _ _ _ r.1 y _ (IsRow.below HU.out B1.out)).mono ?_
        rintro e w' ⟨rfl, hw'⟩; have hw'' := hw'.symm; clear hw'; subst hw''
        rw [HJY.out]
        go_wp2
        refine bodyPost_ret (v := .tuple #[.agg #[.slice none 0 0, .slice none 0 0], .bool false]) (by simp [results, Try.results16, go_sem, c0, c1]) rfl ?_
        rw [F.out.1, F.out.2]
        exact Sg.told_none (by omega) B1.out
      · have hjy1 : jy < 0 := by omega
        cases hdn : Val.inB y 0 20
        · have HN : Hid (Val.inB y 0 20 = false) := hdn
          have F : Hid (renameV r x y = ([], []) ∧ renameG r x y = false) := rename_no (by rw [HB.out, hdn]; simp)
          clear hdn
          go_enter Try.func16, Try.ntmps16
          go_wp2_with fail
          refine (spec_GoodRelation _ _ r _ (qIs_below HQ.out B2.out)).mono ?_
          rintro e w1 ⟨rfl, hb1⟩
          rw [HG.out]
          obtain ⟨⟨d0, d1⟩, ⟨c0, c1, f0, f1, hs1⟩, b1⟩ := start2 hb1
          have B1 : Hid (Below w.heap.size w w1) := b1
          have C1 : Hid (w1.cell? ⟨w.heap.size + 1, 0, none⟩ = some (.slice none 0 0) ∧ w1.cell? ⟨w.heap.size + 1, 1, none⟩ = some (.slice none 0 0) ∧ w1.frozen? ⟨w.heap.size + 1, 0, none⟩ = false ∧ w1.frozen? ⟨w.heap.size + 1, 1, none⟩ = false ∧ w.heap.size + 1 + 1 ≤ w1.heap.size) := ⟨c0, c1, f0, f1, hs1⟩
          have D1 : Hid (w1.cell? ⟨w.heap.size, 0, none⟩ = some (.slice ua un uc) ∧ w1.cell? ⟨w.heap.size, 1, none⟩ = some (.slice ta tn tc)) := ⟨d0, d1⟩
          clear hb1 b1
          go_wp2_with fail
          refine (spec_l3At _ _ _ r.1 x _ (IsRow.below HU.out B1.out)).mono ?_
          rintro e w' ⟨rfl, hw'⟩; have hw'' := hw'.symm; clear hw'; subst hw''
          rw [HJX.out]
          go_wp2_with fail
          refine (spec_l3At _ _ _ r.1 y _ (IsRow.below HU.out B1.out)).mono ?_
          rintro e w' ⟨rfl, hw'⟩; have hw'' := hw'.symm; clear hw'; subst hw''
          rw [HJY.out]
          go_wp2_with fail
          refine (Val.spec_In y 0 20 _).mono ?_
          rintro e w' ⟨rfl, hw'⟩; have hw'' := hw'.symm; clear hw'; subst hw''
          rw [HN.out]
          go_wp2
          refine bodyPost_ret (v := .tuple #[.agg #[.slice none 0 0, .slice none 0 0], .bool false]) (by simp [results, Try.results16, go_sem, c0, c1]) rfl ?_
          rw [F.out.1, F.out.2]
          exact Sg.told_none (by omega) B1.out
        · have HN : Hid (Val.inB y 0 20 = true) := hdn
          have F : Hid (renameV r x y = tellV (renameN r x y) (renameL r x y) ∧ renameG r x y = tellG (renameN r x y) (renameL r x y)) := rename_yes (by rw [HB.out, hdn, HG.out, decide_eq_true hjx1, decide_eq_false hjy0]; rfl)
          have hmost : tn ≤ 60 := by
            have h1 := GG.out.most
            rw [← HRS.out, Sb.lplain_length, HTL.out] at h1
            exact h1
          have HRN : Hid (∀ x ∈ rs, x.zs.length = un) := fun x hx => by
            have h1 := GG.out.wide x.zs (by rw [← HRS.out]; exact List.mem_map_of_mem hx)
            rw [h1, HUL.out]
          have HSM : Hid (∀ z ∈ renameO r x y, z ∈ r.1) := fun z hz => order_in HXM.out hz
          have HNN : Hid (renameN r x y = putN y (keepN x r.1)) := rfl
          clear hdn
          go_enter Try.func16, Try.ntmps16
          go_wp2_with fail
          refine (spec_GoodRelation _ _ r _ (qIs_below HQ.out B2.out)).mono ?_
          rintro e w1 ⟨rfl, hb1⟩
          rw [HG.out]
          obtain ⟨⟨d0, d1⟩, ⟨c0, c1, f0, f1, hs1⟩, b1⟩ := start2 hb1
          have B1 : Hid (Below w.heap.size w w1) := b1
          have C1 : Hid (w1.cell? ⟨w.heap.size + 1, 0, none⟩ = some (.slice none 0 0) ∧ w1.cell? ⟨w.heap.size + 1, 1, none⟩ = some (.slice none 0 0) ∧ w1.frozen? ⟨w.heap.size + 1, 0, none⟩ = false ∧ w1.frozen? ⟨w.heap.size + 1, 1, none⟩ = false ∧ w.heap.size + 1 + 1 ≤ w1.heap.size) := ⟨c0, c1, f0, f1, hs1⟩
          have D1 : Hid (w1.cell? ⟨w.heap.size, 0, none⟩ = some (.slice ua un uc) ∧ w1.cell? ⟨w.heap.size, 1, none⟩ = some (.slice ta tn tc)) := ⟨d0, d1⟩
          clear hb1 b1
          go_wp2_with fail
          refine (spec_l3At _ _ _ r.1 x _ (IsRow.below HU.out B1.out)).mono ?_
          rintro e w' ⟨rfl, hw'⟩; have hw'' := hw'.symm; clear hw'; subst hw''
          rw [HJX.out]
          go_wp2_with fail
          refine (spec_l3At _ _ _ r.1 y _ (IsRow.below HU.out B1.out)).mono ?_
          rintro e w' ⟨rfl, hw'⟩; have hw'' := hw'.symm; clear hw'; subst hw''
          rw [HJY.out]
          go_wp2_with fail
          refine (Val.spec_In y 0 20 _).mono ?_
          rintro e w' ⟨rfl, hw'⟩; have hw'' := hw'.symm; clear hw'; subst hw''
          rw [HN.out]
          clear c0 c1 f0 f1
          go_wp2_with fail
          clear d0 d1
          go_loopw [8, 43] (fun v i wr => ∃ (k m : Nat) (a' : Option Addr) (c' : Nat), k ≤ un ∧ m ≤ k ∧ i = .int .i64 k ∧ v = .slice a' m c' ∧ wr.ownsRow w1.heap.size 3 1 (.slice a' m c') m (ints .i64 (keepN x (r.1.take k))) ∧ Below w1.heap.size w1 wr) (fun _ i _ => un - (intOf i).toNat)
          case atStart => exact ⟨0, 0, none, 0, Nat.zero_le _, Nat.le_refl _, rfl, rfl, World.ownsRow_nil _ _ _ _, Below.refl _ _⟩
          case round =>
            obtain ⟨k, m, a', c', hk, hmk, rfl, rfl, ho, hnx⟩ := hrel
            have HO : Hid (wr.ownsRow w1.heap.size 3 1 (.slice a' m c') m (ints .i64 (keepN x (r.1.take k)))) := ho
            have HNX : Hid (Below w1.heap.size w1 wr) := hnx
            have HBW : Hid (Below w.heap.size w wr) := Frame.next B1.out hnx B1.out.size
            clear ho hnx
            by_cases hlt : k < un
            · obtain ⟨b, off, rfl, hbl, hc⟩ := HU.out.cells (by omega)
              have hkl : k < r.1.length := by rw [HUL.out]; exact hlt
              have p0 : wr.cell? ⟨b, off + k, none⟩ = some (.int .i64 (r.1.getD k 0)) := by rw [HBW.out.cell (p := ⟨b, off + k, none⟩) hbl]; exact hc k hlt
              have HIN : Hid (r.1.getD k 0 ≠ x → keepN x (r.1.take (k + 1)) = keepN x (r.1.take k) ++ [r.1.getD k 0]) := fun e => keep_in hkl e
              have HOUT : Hid (r.1.getD k 0 = x → keepN x (r.1.take (k + 1)) = keepN x (r.1.take k)) := fun e => keep_out hkl e
              generalize r.1.getD k 0 = v at p0 HIN HOUT
              clear hc hkl hbl
              by_cases he : v = x
              · have FX : Hid (keepN x (r.1.take (k + 1)) = keepN x (r.1.take k)) := HOUT.out he
                have heI : (v == x) = true := by rw [he]; exact beq_self_eq_true x
                clear he HIN HOUT
                go_wp2
                go_roundw
                case rel => exact ⟨k + 1, m, a', c', by omega, by omega, by go_num, rfl, by rw [FX.out]; exact HO.out, HNX.out⟩
                case measure => simp [intOf]; omega
              · have FX : Hid (keepN x (r.1.take (k + 1)) = keepN x (r.1.take k) ++ [v]) := HIN.out he
                have heI : (v == x) = false := by rw [beq_eq_false_iff_ne]; exact he
                clear HIN HOUT
                have O3 : Hid ((wr.alloc (.cells #[.int .i64 v] 3)).ownsRow w1.heap.size 3 1 (.slice a' m c') m (ints .i64 (keepN x (r.1.take k)))) := own_below HO.out ((Below.refl _ _).alloc (Nat.le_refl _) _)
                have N3 : Hid (Below w1.heap.size w1 (wr.alloc (.cells #[.int .i64 v] 3))) := HNX.out.alloc HNX.out.size _
                have S3 : Hid (0 < 1 → ∃ ad, (some ⟨wr.heap.size, 0, none⟩ : Option Addr) = some ad ∧ ∀ j u, ([.int .i64 v] : List Value)[j]? = some u → (wr.alloc (.cells #[.int .i64 v] 3)).cell? (ad.add j) = some u) := news_one wr _ _
                go_wp2_with (at_builtin; refine App.wpList_append_all _ rfl _ _ 22 rfl w1.heap.size 3 j0 (.int .i64 0) 1 8 Try.underlying22 hj jz0 jz1 jz2 rfl (by decide) _ _ _ rfl O3.out _ 1 _ [.int .i64 v] rfl rfl S3.out (by simp [Value.oneCell']) (by unfold maxLen; omega) (by omega) N3.out.size ?_)
                intro a4 c4 w4 hown4 hgrow4
                have O4 : Hid (w4.ownsRow w1.heap.size 3 1 (.slice a4 (m + 1) c4) (m + 1) (ints .i64 (keepN x (r.1.take (k + 1))))) := by show World.ownsRow _ _ _ _ _ _ _; rw [FX.out]; unfold ints; simpa [ints] using hown4
                have N4 : Hid (Below w1.heap.size w1 w4) := below_app N3.out O3.out hgrow4 N3.out.size (Nat.le_refl _)
                clear hown4 hgrow4
                go_wp2
                go_roundw
                case rel => exact ⟨k + 1, m + 1, a4, c4, by omega, by omega, by go_num, rfl, O4.out, N4.out⟩
                case measure => simp [intOf]; omega
            · have OA : Hid (wr.ownsRow w1.heap.size 3 1 (.slice a' m c') m (ints .i64 (keepN x r.1))) := by have := HO.out; rwa [List.take_of_length_le (by rw [HUL.out]; omega)] at this
              have RA : Hid (IsRow .i64 wr a' m c' (keepN x r.1)) := own_row OA.out (fun z hz => IsRow.wf HU.out z (List.mem_filter.1 hz).1)
              have hmk' : m ≤ un := by omega
              rename World => wA
              go_wp2_with fail
              refine (spec_l1Put _ _ _ (keepN x r.1) y _ RA.out (own_shape OA.out) (by omega) HYW.out).mono ?_
              rintro e w5 ⟨a5, m5, c5, rfl, hr5, hg5, hm5, hb5⟩
              have R5 : Hid (IsRow .i64 w5 a5 m5 c5 (renameN r x y)) := hr5
              have L5 : Hid ((renameN r x y).length = m5) := hr5.len
              have B15 : Hid (Below w1.heap.size w1 w5) := Frame.next HNX.out hb5 HNX.out.size
              have B5 : Hid (Below w.heap.size w w5) := Frame.next B1.out B15.out B1.out.size
              have D5 : Hid (w5.cell? ⟨w.heap.size, 0, none⟩ = some (.slice ua un uc) ∧ w5.cell? ⟨w.heap.size, 1, none⟩ = some (.slice ta tn tc)) := ⟨Frame.held_cell B15.out D1.out.1, Frame.held_cell B15.out D1.out.2⟩
              have C5 : Hid (w5.cell? ⟨w.heap.size + 1, 0, none⟩ = some (.slice none 0 0) ∧ w5.cell? ⟨w.heap.size + 1, 1, none⟩ = some (.slice none 0 0) ∧ w5.frozen? ⟨w.heap.size + 1, 0, none⟩ = false ∧ w5.frozen? ⟨w.heap.size + 1, 1, none⟩ = false ∧ w.heap.size + 1 + 1 ≤ w5.heap.size) := told_cells C1.out B15.out
              have OW : Hid (∀ z ∈ renameO r x y, (Lit.int .i64 z).wf = true) := fun z hz => IsRow.wf HU.out z (HSM.out z hz)
              clear hr5 hg5 hb5
              go_wp2_with fail
              go_loopw [9, 60] (fun v i wr => ∃ (k : Nat) (a' : Option Addr) (c' : Nat), k ≤ m5 ∧ i = .int .i64 k ∧ v = .slice a' k c' ∧ wr.ownsRow w5.heap.size 3 1 (.slice a' k c') k (ints .i64 ((renameO r x y).take k)) ∧ Below w5.heap.size w5 wr) (fun _ i _ => m5 - (intOf i).toNat)
              case atStart => exact ⟨0, none, 0, Nat.zero_le _, rfl, rfl, World.ownsRow_nil _ _ _ _, Below.refl _ _⟩
              case round =>
                clear HO HNX HBW OA RA
                obtain ⟨k, a', c', hk, rfl, rfl, ho, hnx⟩ := hrel
                have HO : Hid (wr.ownsRow w5.heap.size 3 1 (.slice a' k c') k (ints .i64 ((renameO r x y).take k))) := ho
                have HNX : Hid (Below w5.heap.size w5 wr) := hnx
                clear ho hnx
                by_cases hlt : k < m5
                · obtain ⟨b, off, rfl, hbl, hc⟩ := R5.out.cells (by omega)
                  have hkl : k < (renameN r x y).length := by rw [L5.out]; exact hlt
                  have p0 : wr.cell? ⟨b, off + k, none⟩ = some (.int .i64 ((renameN r x y).getD k 0)) := by rw [HNX.out.cell (p := ⟨b, off + k, none⟩) hbl]; exact hc k hlt
                  have HF : Hid (∀ v, (v = if (renameN r x y).getD k 0 = y then x else (renameN r x y).getD k 0) → (renameO r x y).take (k + 1) = (renameO r x y).take k ++ [v]) := fun v e => order_succ hkl v e
                  generalize (renameN r x y).getD k 0 = v at p0 HF
                  clear hc hkl hbl
                  by_cases he : v = y
                  · have FX : Hid ((renameO r x y).take (k + 1) = (renameO r x y).take k ++ [x]) := HF.out x (by rw [if_pos he])
                    have heI : (v == y) = true := by rw [he]; exact beq_self_eq_true y
                    clear he HF
                    have O3 : Hid ((wr.alloc (.cells #[.int .i64 x] 3)).ownsRow w5.heap.size 3 1 (.slice a' k c') k (ints .i64 ((renameO r x y).take k))) := own_below HO.out ((Below.refl _ _).alloc (Nat.le_refl _) _)
                    have N3 : Hid (Below w5.heap.size w5 (wr.alloc (.cells #[.int .i64 x] 3))) := HNX.out.alloc HNX.out.size _
                    have S3 : Hid (0 < 1 → ∃ ad, (some ⟨wr.heap.size, 0, none⟩ : Option Addr) = some ad ∧ ∀ j u, ([.int .i64 x] : List Value)[j]? = some u → (wr.alloc (.cells #[.int .i64 x] 3)).cell? (ad.add j) = some u) := news_one wr _ _
                    go_wp2_with (at_builtin; refine App.wpList_append_all _ rfl _ _ 22 rfl w5.heap.size 3 j0 (.int .i64 0) 1 8 Try.underlying22 hj jz0 jz1 jz2 rfl (by decide) _ _ _ rfl O3.out _ 1 _ [.int .i64 x] rfl rfl S3.out (by simp [Value.oneCell']) (by unfold maxLen; omega) (by omega) N3.out.size ?_)
                    intro a4 c4 w4 hown4 hgrow4
                    have O4 : Hid (w4.ownsRow w5.heap.size 3 1 (.slice a4 (k + 1) c4) (k + 1) (ints .i64 ((renameO r x y).take (k + 1)))) := by show World.ownsRow _ _ _ _ _ _ _; rw [FX.out]; unfold ints; simpa [ints] using hown4
                    have N4 : Hid (Below w5.heap.size w5 w4) := below_app N3.out O3.out hgrow4 N3.out.size (Nat.le_refl _)
                    clear hown4 hgrow4
                    go_wp2
                    go_roundw
                    case rel => exact ⟨k + 1, a4, c4, by omega, by go_num, rfl, O4.out, N4.out⟩
                    case measure => simp [intOf]; omega
                  · have FX : Hid ((renameO r x y).take (k + 1) = (renameO r x y).take k ++ [v]) := HF.out v (by rw [if_neg he])
                    have heI : (v == y) = false := by rw [beq_eq_false_iff_ne]; exact he
                    clear HF
                    have O3 : Hid ((wr.alloc (.cells #[.int .i64 v] 3)).ownsRow w5.heap.size 3 1 (.slice a' k c') k (ints .i64 ((renameO r x y).take k))) := own_below HO.out ((Below.refl _ _).alloc (Nat.le_refl _) _)
                    have N3 : Hid (Below w5.heap.size w5 (wr.alloc (.cells #[.int .i64 v] 3))) := HNX.out.alloc HNX.out.size _
                    have S3 : Hid (0 < 1 → ∃ ad, (some ⟨wr.heap.size, 0, none⟩ : Option Addr) = some ad ∧ ∀ j u, ([.int .i64 v] : List Value)[j]? = some u → (wr.alloc (.cells #[.int .i64 v] 3)).cell? (ad.add j) = some u) := news_one wr _ _
                    go_wp2_with (at_builtin; refine App.wpList_append_all _ rfl _ _ 22 rfl w5.heap.size 3 j0 (.int .i64 0) 1 8 Try.underlying22 hj jz0 jz1 jz2 rfl (by decide) _ _ _ rfl O3.out _ 1 _ [.int .i64 v] rfl rfl S3.out (by simp [Value.oneCell']) (by unfold maxLen; omega) (by omega) N3.out.size ?_)
                    intro a4 c4 w4 hown4 hgrow4
                    have O4 : Hid (w4.ownsRow w5.heap.size 3 1 (.slice a4 (k + 1) c4) (k + 1) (ints .i64 ((renameO r x y).take (k + 1)))) := by show World.ownsRow _ _ _ _ _ _ _; rw [FX.out]; unfold ints; simpa [ints] using hown4
                    have N4 : Hid (Below w5.heap.size w5 w4) := below_app N3.out O3.out hgrow4 N3.out.size (Nat.le_refl _)
                    clear hown4 hgrow4
                    go_wp2
                    go_roundw
                    case rel => exact ⟨k + 1, a4, c4, by omega, by go_num, rfl, O4.out, N4.out⟩
                    case measure => simp [intOf]; omega
                · obtain rfl : k = m5 := by omega
                  have OL : Hid ((renameO r x y).length = k) := by show _ = _; unfold renameO; rw [List.length_map]; exact L5.out
                  have OB : Hid (wr.ownsRow w5.heap.size 3 1 (.slice a' k c') k (ints .i64 (renameO r x y))) := by have := HO.out; rwa [List.take_of_length_le (by rw [OL.out]; omega)] at this
                  rename World => wB
                  have HW : Hid (IsRow .i64 wB a' k c' (renameO r x y)) := own_row OB.out OW.out
                  have BB : Hid (Below w.heap.size w wB) := Frame.next B5.out HNX.out B5.out.size
                  have DB : Hid (wB.cell? ⟨w.heap.size, 0, none⟩ = some (.slice ua un uc) ∧ wB.cell? ⟨w.heap.size, 1, none⟩ = some (.slice ta tn tc)) := ⟨Frame.held_cell HNX.out D5.out.1, Frame.held_cell HNX.out D5.out.2⟩
                  have CB : Hid (wB.cell? ⟨w.heap.size + 1, 0, none⟩ = some (.slice none 0 0) ∧ wB.cell? ⟨w.heap.size + 1, 1, none⟩ = some (.slice none 0 0) ∧ wB.frozen? ⟨w.heap.size + 1, 0, none⟩ = false ∧ wB.frozen? ⟨w.heap.size + 1, 1, none⟩ = false ∧ w.heap.size + 1 + 1 ≤ wB.heap.size) := told_cells C5.out HNX.out
                  have RB : Hid (IsRow .i64 wB a5 k c5 (renameN r x y)) := IsRow.below R5.out HNX.out
                  have hk7 : k ≤ 7 := by omega
                  have d1 : wB.cell? ⟨w.heap.size, 1, none⟩ = some (.slice ta tn tc) := DB.out.2
                  clear HO HNX OB R5 hlt
                  go_wp2_with fail
                  clear d1
                  go_loopw [14, 76] (fun o i wr => ∃ (q : Nat) (a9 : Option Addr) (c9 : Nat) (xs : List LV), q ≤ tn ∧ i = .int .i64 q ∧ o = .slice a9 q c9 ∧ wr.ownsRow wB.heap.size 22 1 (.slice a9 q c9) q (lcells xs) ∧ (∀ z ∈ xs, OwnR wr wB.heap.size z) ∧ lplain xs = (lplain (rs.take q)).map (fun z => pick r.1 z (renameO r x y)) ∧ Below wB.heap.size wB wr) (fun _ i _ => tn - (intOf i).toNat)
                  case atStart => exact ⟨0, none, 0, [], Nat.zero_le _, rfl, rfl, World.ownsRow_nil _ _ _ _, by simp, rfl, Below.refl _ _⟩
                  case round =>
                    obtain ⟨q, a9, c9, xs, hq, rfl, rfl, ho, hR, hP, hnx⟩ := hrel
                    have HO : Hid (wr.ownsRow wB.heap.size 22 1 (.slice a9 q c9) q (lcells xs)) := ho
                    have HR : Hid (∀ z ∈ xs, OwnR wr wB.heap.size z) := hR
                    have HP : Hid (lplain xs = (lplain (rs.take q)).map (fun z => pick r.1 z (renameO r x y))) := hP
                    have HNX : Hid (Below wB.heap.size wB wr) := hnx
                    have HBW : Hid (Below w.heap.size w wr) := Frame.next BB.out hnx BB.out.size
                    have q0 : wr.cell? ⟨w.heap.size, 0, none⟩ = some (.slice ua un uc) := Frame.held_cell hnx DB.out.1
                    have hsr := hnx.size
                    clear ho hR hP
                    by_cases hlt : q < tn
                    · obtain ⟨b, off, rfl, hbl, hc⟩ := HT.out.cells (by omega)
                      have hkl : q < rs.length := by rw [HTL.out]; exact hlt
                      have p0 : wr.cell? ⟨b, off + q, none⟩ = some (.slice (rs.getD q ld).a (rs.getD q ld).n (rs.getD q ld).c) := by rw [HBW.out.cell (p := ⟨b, off + q, none⟩) hbl]; exact hc q hlt
                      have hrow := IsRow.below (HT.out.rows _ (getD_mem_ld hkl)) HBW.out
                      have hln := HRN.out _ (getD_mem_ld hkl)
                      have hts := take_succ_ld hkl
                      generalize rs.getD q ld = z at p0 hrow hln hts
                      obtain ⟨xa, xn, xc, xzs⟩ := z
                      simp only at p0 hrow hln
                      have HX : Hid (IsRow .i64 wr xa xn xc xzs) := hrow
                      have HXN : Hid (xn = un) := by show _ = _; rw [← hrow.len]; exact hln
                      have HTS : Hid (rs.take (q + 1) = rs.take q ++ [⟨xa, xn, xc, xzs⟩]) := hts
                      clear hc hkl hrow hln hts hnx
                      go_wp2_with fail
                      refine (spec_l3Pick _ _ _ _ _ _ _ _ _ r.1 xzs (renameO r x y) _ (IsRow.below HU.out HBW.out) HX.out (IsRow.below HW.out HNX.out) (by omega) HXN.out HSM.out).mono ?_
                      rintro e w3 ⟨a3, c3, rfl, ho3, hw3, hb3⟩
                      have B3 : Hid (Below wB.heap.size wB w3) := Frame.next HNX.out hb3 hsr
                      have O3 : Hid ((w3.alloc (.cells #[.slice a3 k c3] 22)).ownsRow wB.heap.size 22 1 (.slice a9 q c9) q (lcells xs)) := own_below (own_below HO.out hb3) ((Below.refl _ _).alloc (Nat.le_refl _) _)
                      have N3 : Hid (Below wB.heap.size wB (w3.alloc (.cells #[.slice a3 k c3] 22))) := B3.out.alloc B3.out.size _
                      have S3 : Hid (0 < 1 → ∃ ad, (some ⟨w3.heap.size, 0, none⟩ : Option Addr) = some ad ∧ ∀ j u, ([.slice a3 k c3] : List Value)[j]? = some u → (w3.alloc (.cells #[.slice a3 k c3] 22)).cell? (ad.add j) = some u) := news_one w3 _ _
                      have R3 : Hid (∀ z ∈ xs ++ [⟨a3, k, c3, pick r.1 xzs (renameO r x y)⟩], OwnR (w3.alloc (.cells #[.slice a3 k c3] 22)) wB.heap.size z) := fun z hz => by
                        rcases List.mem_append.1 hz with hz | hz
                        · exact ownR_below (ownR_below (HR.out z hz) hb3) ((Below.refl _ _).alloc (Nat.le_refl _) _)
                        · rw [List.mem_singleton.1 hz]
                          exact ownR_below ⟨own_base ho3 hsr, hw3⟩ ((Below.refl _ _).alloc (Nat.le_refl _) _)
                      clear ho3 hw3 hb3 q0 p0
                      go_wp2_with (at_builtin; refine App.wpList_append_all _ rfl _ _ 23 rfl wB.heap.size 22 i0 (.slice none 0 0) 1 24 Try.underlying23 hi hz0 hz1 hz2 rfl (by decide) _ _ _ rfl O3.out _ 1 _ [.slice a3 k c3] rfl rfl S3.out (by simp [Value.oneCell']) (by unfold maxLen; omega) (by omega) N3.out.size ?_)
                      intro a4 c4 w4 hown4 hgrow4
                      have O4 : Hid (w4.ownsRow wB.heap.size 22 1 (.slice a4 (q + 1) c4) (q + 1) (lcells (xs ++ [⟨a3, k, c3, pick r.1 xzs (renameO r x y)⟩]))) := by show World.ownsRow _ _ _ _ _ _ _; simpa [lcells, lcell] using hown4
                      have N4 : Hid (Below wB.heap.size wB w4) := below_app N3.out O3.out hgrow4 N3.out.size (Nat.le_refl _)
                      have R4 : Hid (∀ z ∈ xs ++ [⟨a3, k, c3, pick r.1 xzs (renameO r x y)⟩], OwnR w4 wB.heap.size z) := fun z hz => ownR_kept (R3.out z hz) O3.out hgrow4
                      clear hown4 hgrow4
                      go_wp2
                      go_roundw
                      case rel =>
                        refine ⟨q + 1, a4, c4, xs ++ [⟨a3, k, c3, pick r.1 xzs (renameO r x y)⟩], by omega, by go_num, rfl, O4.out, R4.out, ?_, N4.out⟩
                        rw [HTS.out]
                        have hh := HP.out
                        simp only [lplain, List.map_append] at *
                        rw [hh]
                        rfl
                      case measure => simp [intOf]; omega
                    · obtain rfl : q = tn := by omega
                      have HPF : Hid (lplain xs = renameL r x y) := by
                        have := HP.out
                        rw [List.take_of_length_le (by rw [HTL.out]; omega), HRS.out] at this
                        exact this
                      have HL8 : Hid (IsLs wr a9 q c9 xs) := isLs_outer HO.out (fun z hz => ownR_is (HR.out z hz))
                      have HXL : Hid (∀ z ∈ xs, z.zs.length = k) := fun z hz => by
                        have h1 : z.zs ∈ lplain xs := List.mem_map_of_mem hz
                        rw [HPF.out] at h1
                        obtain ⟨y', _, e⟩ := List.mem_map.1 h1
                        rw [← e, pick_length, OL.out]
                      have CW : Hid (wr.cell? ⟨w.heap.size + 1, 0, none⟩ = some (.slice none 0 0) ∧ wr.cell? ⟨w.heap.size + 1, 1, none⟩ = some (.slice none 0 0) ∧ wr.frozen? ⟨w.heap.size + 1, 0, none⟩ = false ∧ wr.frozen? ⟨w.heap.size + 1, 1, none⟩ = false ∧ w.heap.size + 1 + 1 ≤ wr.heap.size) := told_cells CB.out hnx
                      clear hnx hlt hq q0
                      have hsm : q * (k + 1) ≤ 1048576 := by
                        have h1 : q * (k + 1) ≤ 60 * 8 := Nat.mul_le_mul hmost (by omega)
                        omega
                      go_wp2_with fail
                      refine (spec_l3Tell _ _ _ _ _ _ k (renameN r x y) xs _ (IsRow.below RB.out HNX.out) HL8.out (by omega) (by omega) (by omega) HXL.out hsm).mono ?_
                      rintro e w8 ⟨pa, pn, pc, sa, sn, sc, rfl, hq8, hb8⟩
                      rw [HPF.out] at hq8 ⊢
                      obtain ⟨c0, c1, f0, f1, hs8⟩ := told_cells CW.out hb8
                      have Q8 : Hid (QOwn w8 wr.heap.size w8.heap.size (.slice pa pn pc) (.slice sa sn sc) (tellV (renameN r x y) (renameL r x y))) := hq8
                      have B8 : Hid (Below w.heap.size w w8) := Frame.next HBW.out hb8 HBW.out.size
                      clear hq8 hb8
                      go_wp2
                      refine bodyPost_ret (v := .tuple #[.agg #[.slice pa pn pc, .slice sa sn sc], .bool (tellG (renameN r x y) (renameL r x y))]) (by simp [results, Try.results16, go_sem, c0, c1]) rfl ?_
                      rw [F.out.1, F.out.2]
                      exact told_end (by omega) (by have := CW.out.2.2.2.2; omega) CW.out.2.2.2.2 Q8.out B8.out


end Go.Proofs.Yteihhpjneeaiaab.Sj
