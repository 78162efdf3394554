/-
  Contracts of slices.Clone at []int and of the program's Rename.
-/
import Derived.Test.YteihhpjneeaiaabOg
import Derived.Test.YteihhpjneeaiaabReq
import Derived.Lib.SliceRun
namespace Go.Proofs.Yteihhpjneeaiaab.Ol
open Go.RowKit
open Go.Proofs.Yteihhpjneeaiaab.Frame Go.Proofs.Yteihhpjneeaiaab.Mem Go.Proofs.Yteihhpjneeaiaab.Ints Go.Proofs.Yteihhpjneeaiaab.Kep Go.Proofs.Yteihhpjneeaiaab.Lls Go.Proofs.Yteihhpjneeaiaab.Rpu Go.Proofs.Yteihhpjneeaiaab.Krl Go.Proofs.Yteihhpjneeaiaab.Oa Go.Proofs.Yteihhpjneeaiaab.Ob Go.Proofs.Yteihhpjneeaiaab.Oc Go.Proofs.Yteihhpjneeaiaab.Od Go.Proofs.Yteihhpjneeaiaab.Oe Go.Proofs.Yteihhpjneeaiaab.Of Go.Proofs.Yteihhpjneeaiaab.Og Go.Proofs.Yteihhpjneeaiaab.Mis Go.Proofs.Yteihhpjneeaiaab.Told Go.Proofs.Yteihhpjneeaiaab.Rel Go.Proofs.Yteihhpjneeaiaab.Req

set_option maxRecDepth 4000 in
set_option maxHeartbeats 1600000 in
theorem clone_int (a : Option Addr) (n ca : Nat) (zs : List Int) (w : World) (ha : IsRow .i64 w a n ca zs) (h0 : 0 < n) (hn : n ≤ 100000) :
    Calls Try.prog 49 #[.slice a n ca] w fun e w' => ∃ g c', e = .returned (.slice (some ⟨g, 0, none⟩) n c') ∧ w'.ownsRow w.heap.size 3 1 (.slice (some ⟨g, 0, none⟩) n c') n (ints .i64 zs) ∧ w.heap.size ≤ g ∧ Below w.heap.size w w' := by
  obtain ⟨i0, hi, hz0, hz1, hz2⟩ := info_parts Ints.info
  have HA : Hid (IsRow .i64 w a n ca zs) := ha
  have HL : Hid ((ints .i64 zs).length = n * 1) := by show _ = _; rw [ints_length, ha.len]; omega
  obtain ⟨b, off, rfl, hbl, hc⟩ := ha.cells h0
  have BA : Hid (Below w.heap.size w (w.alloc (.cells #[] 3))) := (Below.refl _ _).alloc (Nat.le_refl _) _
  have OA : Hid ((w.alloc (.cells #[] 3)).ownsRow w.heap.size 3 1 (.slice (some ⟨w.heap.size, 0, none⟩) 0 0) 0 []) := own_zero _ _ _ _ _ rfl (Nat.le_refl _)
  have S2 : Hid (0 < n → ∃ ad, (some ⟨b, off, none⟩ : Option Addr) = some ad ∧ ∀ j u, (ints .i64 zs)[j]? = some u → (w.alloc (.cells #[] 3)).cell? (ad.add j) = some u) := news_row (IsRow.below HA.out BA.out)
  have e0 : ∀ w, (binOp .eql 22 (.slice (some ⟨b, off, none⟩) n ca) (.slice none 0 0)).run Try.prog w = .ok (.bool false) w := fun w => Lib.run_eql_slice_nil w _ _ _ _ _ _ _ Try.underlying22
  clear ha hc
  go_enter Try.func49, Try.ntmps49
  go_wp2_with (at_builtin; refine App.wpList_append_all _ rfl _ _ 22 rfl w.heap.size 3 i0 (.int .i64 0) 1 8 Try.underlying22 hi hz0 hz1 hz2 rfl (by decide) _ _ _ rfl OA.out _ n _ (ints .i64 zs) rfl HL.out S2.out (one_int zs) (by unfold maxLen; omega) (by omega) BA.out.size ?_)
  intro a4 c4 w4 hown4 hgrow4
  have N4 : Hid (Below w.heap.size w w4) := below_app BA.out OA.out hgrow4 BA.out.size (Nat.le_refl _)
  have O4 : Hid (w4.ownsRow w.heap.size 3 1 (.slice a4 n c4) n (ints .i64 zs)) := by show World.ownsRow _ _ _ _ _ _ _; simpa using hown4
  clear hown4 hgrow4
  go_wp2
  go_ret
  obtain ⟨h1, h2⟩ := O4.out
  rcases h2 with ⟨_, hz⟩ | ⟨g, cap, cur, hv, hg, hrest⟩
  · omega
  · obtain ⟨ha4, hc4⟩ : a4 = some ⟨g, 0, none⟩ ∧ c4 = cap := by simpa using hv
    subst ha4 hc4
    exact ⟨g, c4, rfl, O4.out, hg, N4.out⟩

theorem far2 {w : World} {b b' o : Nat} {v v0 v1 : Value} (h : w.cell? ⟨b', o, none⟩ = some v) (hb : b ≠ b') : ((w.setCell ⟨b, 0, none⟩ v0).setCell ⟨b, 1, none⟩ v1).cell? ⟨b', o, none⟩ = some v := by
  rw [World.cell?_setCell_far _ _ _ _ hb, World.cell?_setCell_far _ _ _ _ hb]
  exact h
theorem small_prod {n m : Nat} (hn : n ≤ 60) (hm : m ≤ 6) : n * (m + 1) ≤ 1048576 := by
  have h1 : n * (m + 1) ≤ 60 * 7 := Nat.mul_le_mul (by omega) (by omega)
  omega
theorem own_row {w : World} {base : Nat} {a : Option Addr} {n c : Nat} {zs : List Int} (h : w.ownsRow base 3 1 (.slice a n c) n (ints .i64 zs)) (hw : ∀ z ∈ zs, (Lit.int .i64 z).wf = true) : IsRow .i64 w a n c zs := by
  obtain ⟨a', c', e, hr⟩ := isRow_own h hw
  cases e
  exact hr
theorem rename_no {r : Rl} {x y : Int} (h : renameB r x y = false) : renameV r x y = ([], []) ∧ renameG r x y = false := by
  unfold renameV renameG
  rw [h]
  exact ⟨rfl, rfl⟩
theorem rename_yes {r : Rl} {x y : Int} (h : renameB r x y = true) : renameV r x y = tellV (renameN r x y) (renameL r x y) ∧ renameG r x y = tellG (renameN r x y) (renameL r x y) := by
  unfold renameV renameG
  rw [h]
  exact ⟨rfl, rfl⟩
theorem renameB_is (r : Rl) (x y : Int) : renameB r x y = (goodR r.1 r.2 && decide (x ∈ r.1) && !decide (y ∈ r.1) && Val.inB y 0 20) := by
  unfold renameB
  have e : ∀ z, decide (0 ≤ Lib.idxOf r.1 z) = decide (z ∈ r.1) := fun z => decide_eq_decide.2 (idx_nonneg _ _)
  rw [e, e]

set_option maxRecDepth 4000 in
set_option maxHeartbeats 3200000 in
theorem impl_Rename (u t : Value) (r : Rl) (x y : Int) (w : World) (h : QIs w u t r) (_hx : (Lit.int .i64 x).wf = true) (hy : (Lit.int .i64 y).wf = true) : Calls Try.prog 17 #[.agg #[u, t], .int .i64 x, .int .i64 y] w (RTold (renameV r x y) (renameG r x y) w) := by
  have HQ : Hid (QIs w u t r) := h
  obtain ⟨⟨ua, un, uc, rfl, hu, hun⟩, ta, tn, tc, rs, rfl, ht, hrs, htt⟩ := h
  have HU : Hid (IsRow .i64 w ua un uc r.1) := hu
  have HT : Hid (IsLs w ta tn tc rs) := ht
  have HRS : Hid (lplain rs = r.2) := hrs
  have HTL : Hid (rs.length = tn) := ht.len
  have HUL : Hid (r.1.length = un) := hu.len
  have HYW : Hid ((Lit.int .i64 y).wf = true) := hy
  have B2 : Hid (Below w.heap.size w ((w.alloc (.cells #[.slice ua un uc, .slice ta tn tc] 27)).alloc (.cells #[.slice none 0 0, .slice none 0 0] 27))) := ((Below.refl _ _).alloc (Nat.le_refl _) _).alloc (by simp) _
  clear hu ht hrs htt hy
  have HB : Hid (renameB r x y = (goodR r.1 r.2 && decide (x ∈ r.1) && !decide (y ∈ r.1) && Val.inB y 0 20)) := renameB_is r x y
  cases hg : goodR r.1 r.2
  · have HG : Hid (goodR r.1 r.2 = false) := hg
    have F : Hid (renameV r x y = ([], []) ∧ renameG r x y = false) := rename_no (by rw [HB.out, hg]; rfl)
    clear hg
    go_enter Try.func17, Try.ntmps17
    go_wp2_with fail
    refine (impl_GoodRelation _ _ r _ (qIs_below HQ.out B2.out)).mono ?_
    rintro e w1 ⟨rfl, hb1⟩
    rw [HG.out]
    obtain ⟨⟨d0, d1⟩, ⟨c0, c1, f0, f1, hs1⟩, b1⟩ := start2 hb1
    have B1 : Hid (Below w.heap.size w w1) := b1
    have C1 : Hid (w1.cell? ⟨w.heap.size + 1, 0, none⟩ = some (.slice none 0 0) ∧ w1.cell? ⟨w.heap.size + 1, 1, none⟩ = some (.slice none 0 0) ∧ w1.frozen? ⟨w.heap.size + 1, 0, none⟩ = false ∧ w1.frozen? ⟨w.heap.size + 1, 1, none⟩ = false ∧ w.heap.size + 1 + 1 ≤ w1.heap.size) := ⟨c0, c1, f0, f1, hs1⟩
    have D1 : Hid (w1.cell? ⟨w.heap.size, 0, none⟩ = some (.slice ua un uc) ∧ w1.cell? ⟨w.heap.size, 1, none⟩ = some (.slice ta tn tc)) := ⟨d0, d1⟩
    clear hb1 b1
    go_wp2
    refine bodyPost_ret (v := .tuple #[.agg #[.slice none 0 0, .slice none 0 0], .bool false]) (by simp [results, Try.results17, go_sem, c0, c1]) rfl ?_
    rw [F.out.1, F.out.2]
    exact told_none (by omega) B1.out
  · have HG : Hid (goodR r.1 r.2 = true) := hg
    have GG : Hid (Rel.Good r.1 r.2) := good_iff.1 hg
    have hfew : un ≤ 6 := by have := GG.out.few; rw [HUL.out] at this; exact this
    clear hg
    cases hdx : decide (x ∈ r.1)
    · have HX : Hid (decide (x ∈ r.1) = false) := hdx
      have F : Hid (renameV r x y = ([], []) ∧ renameG r x y = false) := rename_no (by rw [HB.out, hdx]; simp)
      clear hdx
      go_enter Try.func17, Try.ntmps17
      go_wp2_with fail
      refine (impl_GoodRelation _ _ r _ (qIs_below HQ.out B2.out)).mono ?_
      rintro e w1 ⟨rfl, hb1⟩
      rw [HG.out]
      obtain ⟨⟨d0, d1⟩, ⟨c0, c1, f0, f1, hs1⟩, b1⟩ := start2 hb1
      have B1 : Hid (Below w.heap.size w w1) := b1
      have C1 : Hid (w1.cell? ⟨w.heap.size + 1, 0, none⟩ = some (.slice none 0 0) ∧ w1.cell? ⟨w.heap.size + 1, 1, none⟩ = some (.slice none 0 0) ∧ w1.frozen? ⟨w.heap.size + 1, 0, none⟩ = false ∧ w1.frozen? ⟨w.heap.size + 1, 1, none⟩ = false ∧ w.heap.size + 1 + 1 ≤ w1.heap.size) := ⟨c0, c1, f0, f1, hs1⟩
      have D1 : Hid (w1.cell? ⟨w.heap.size, 0, none⟩ = some (.slice ua un uc) ∧ w1.cell? ⟨w.heap.size, 1, none⟩ = some (.slice ta tn tc)) := ⟨d0, d1⟩
      clear hb1 b1
      go_wp2_with fail
      refine (has_int _ _ _ r.1 x _ (IsRow.below HU.out B1.out) (by omega) GG.out.upN).mono ?_
      rintro e w' ⟨rfl, hw'⟩; have hw'' := hw'.symm; clear hw'; subst hw''
      rw [HX.out]
      go_wp2
      refine bodyPost_ret (v := .tuple #[.agg #[.slice none 0 0, .slice none 0 0], .bool false]) (by simp [results, Try.results17, go_sem, c0, c1]) rfl ?_
      rw [F.out.1, F.out.2]
      exact told_none (by omega) B1.out
    · have HX : Hid (decide (x ∈ r.1) = true) := hdx
      have HXM : Hid (x ∈ r.1) := (of_decide_eq_true hdx : x ∈ r.1)
      cases hdn : Val.inB y 0 20
      · have HN : Hid (Val.inB y 0 20 = false) := hdn
        have F : Hid (renameV r x y = ([], []) ∧ renameG r x y = false) := rename_no (by rw [HB.out, hdn]; simp)
        clear hdx hdn
        go_enter Try.func17, Try.ntmps17
        go_wp2_with fail
        refine (impl_GoodRelation _ _ r _ (qIs_below HQ.out B2.out)).mono ?_
        rintro e w1 ⟨rfl, hb1⟩
        rw [HG.out]
        obtain ⟨⟨d0, d1⟩, ⟨c0, c1, f0, f1, hs1⟩, b1⟩ := start2 hb1
        have B1 : Hid (Below w.heap.size w w1) := b1
        have C1 : Hid (w1.cell? ⟨w.heap.size + 1, 0, none⟩ = some (.slice none 0 0) ∧ w1.cell? ⟨w.heap.size + 1, 1, none⟩ = some (.slice none 0 0) ∧ w1.frozen? ⟨w.heap.size + 1, 0, none⟩ = false ∧ w1.frozen? ⟨w.heap.size + 1, 1, none⟩ = false ∧ w.heap.size + 1 + 1 ≤ w1.heap.size) := ⟨c0, c1, f0, f1, hs1⟩
        have D1 : Hid (w1.cell? ⟨w.heap.size, 0, none⟩ = some (.slice ua un uc) ∧ w1.cell? ⟨w.heap.size, 1, none⟩ = some (.slice ta tn tc)) := ⟨d0, d1⟩
        clear hb1 b1
        go_wp2_with fail
        refine (has_int _ _ _ r.1 x _ (IsRow.below HU.out B1.out) (by omega) GG.out.upN).mono ?_
        rintro e w' ⟨rfl, hw'⟩; have hw'' := hw'.symm; clear hw'; subst hw''
        rw [HX.out]
        go_wp2_with fail
        refine (impl_isName y _).mono ?_
        rintro e w' ⟨rfl, hw'⟩; have hw'' := hw'.symm; clear hw'; subst hw''
        rw [HN.out]
        go_wp2
        refine bodyPost_ret (v := .tuple #[.agg #[.slice none 0 0, .slice none 0 0], .bool false]) (by simp [results, Try.results17, go_sem, c0, c1]) rfl ?_
        rw [F.out.1, F.out.2]
        exact told_none (by omega) B1.out
      · have HN : Hid (Val.inB y 0 20 = true) := hdn
        cases hdy : decide (y ∈ r.1)
        · have HY : Hid (decide (y ∈ r.1) = false) := hdy
          have HYM : Hid (y ∉ r.1) := (of_decide_eq_false hdy : y ∉ r.1)
          have F : Hid (renameV r x y = tellV (renameN r x y) (renameL r x y) ∧ renameG r x y = tellG (renameN r x y) (renameL r x y)) := rename_yes (by rw [HB.out, hdx, hdy, hdn, HG.out]; rfl)
          obtain ⟨hil, hie, hig⟩ := idx_at HXM.out
          have h0 : 0 < un := by rw [← HUL.out]; omega
          have hmost : tn ≤ 60 := by
            have h1 := GG.out.most
            rw [← HRS.out, Oa.lplain_length, HTL.out] at h1
            exact h1
          have HRN : Hid (∀ x ∈ rs, x.zs.length = un) := fun x hx => by
            have h1 := GG.out.wide x.zs (by rw [← HRS.out]; exact List.mem_map_of_mem hx)
            rw [h1, HUL.out]
          have HIE : Hid (Lib.idxOf r.1 x = (((Lib.idxOf r.1 x).toNat : Nat) : Int)) := hie
          have hil' : (Lib.idxOf r.1 x).toNat < un := by rw [← HUL.out]; exact hil
          have HRD : Hid (renamed r.1 x y = r.1.set (Lib.idxOf r.1 x).toNat y) := rfl
          generalize (Lib.idxOf r.1 x).toNat = ix at HIE hil' HRD
          clear hdx hdy hdn hil hie hig
          go_enter Try.func17, Try.ntmps17
          go_wp2_with fail
          refine (impl_GoodRelation _ _ r _ (qIs_below HQ.out B2.out)).mono ?_
          rintro e w1 ⟨rfl, hb1⟩
          rw [HG.out]
          obtain ⟨⟨d0, d1⟩, ⟨c0, c1, f0, f1, hs1⟩, b1⟩ := start2 hb1
          have B1 : Hid (Below w.heap.size w w1) := b1
          have C1 : Hid (w1.cell? ⟨w.heap.size + 1, 0, none⟩ = some (.slice none 0 0) ∧ w1.cell? ⟨w.heap.size + 1, 1, none⟩ = some (.slice none 0 0) ∧ w1.frozen? ⟨w.heap.size + 1, 0, none⟩ = false ∧ w1.frozen? ⟨w.heap.size + 1, 1, none⟩ = false ∧ w.heap.size + 1 + 1 ≤ w1.heap.size) := ⟨c0, c1, f0, f1, hs1⟩
          have D1 : Hid (w1.cell? ⟨w.heap.size, 0, none⟩ = some (.slice ua un uc) ∧ w1.cell? ⟨w.heap.size, 1, none⟩ = some (.slice ta tn tc)) := ⟨d0, d1⟩
          clear hb1 b1
          go_wp2_with fail
          refine (has_int _ _ _ r.1 x _ (IsRow.below HU.out B1.out) (by omega) GG.out.upN).mono ?_
          rintro e w' ⟨rfl, hw'⟩; have hw'' := hw'.symm; clear hw'; subst hw''
          rw [HX.out]
          go_wp2_with fail
          refine (impl_isName y _).mono ?_
          rintro e w' ⟨rfl, hw'⟩; have hw'' := hw'.symm; clear hw'; subst hw''
          rw [HN.out]
          go_wp2_with fail
          refine (has_int _ _ _ r.1 y _ (IsRow.below HU.out B1.out) (by omega) GG.out.upN).mono ?_
          rintro e w' ⟨rfl, hw'⟩; have hw'' := hw'.symm; clear hw'; subst hw''
          rw [HY.out]
          go_wp2_with fail
          refine (clone_int _ _ _ r.1 _ (IsRow.below HU.out B1.out) h0 (by omega)).mono ?_
          rintro e w2 ⟨g, cg, rfl, ho2, hg2, hb2⟩
          have B2' : Hid (Below w.heap.size w w2) := Frame.next B1.out hb2 B1.out.size
          have R2 : Hid (IsRow .i64 w2 (some ⟨g, 0, none⟩) un cg r.1) := own_row ho2 (IsRow.wf HU.out)
          have O2 : Hid (w2.ownsRow w1.heap.size 3 1 (.slice (some ⟨g, 0, none⟩) un cg) un (ints .i64 r.1)) := ho2
          have hfz := ho2.frozenAt ix
          have hce : w2.cell? ⟨g, ix, none⟩ = some (.int .i64 (r.1.getD ix 0)) := by
            obtain ⟨b', off', he, hb', hc'⟩ := R2.out.cells h0
            simp only [Option.some.injEq, Addr.mk.injEq] at he
            have := hc' ix hil'
            obtain ⟨rfl, rfl, _⟩ := he
            simpa using this
          clear ho2 c0 c1 f0 f1 d0 d1 hs1
          have hg0 : w.heap.size ≤ g := by have := B1.out.size; omega
          have B23 : Hid (Below w1.heap.size w1 (w2.setCell ⟨g, ix, none⟩ (.int .i64 y))) := hb2.setCell (p := ⟨g, ix, none⟩) hg2 _
          have B3 : Hid (Below w.heap.size w (w2.setCell ⟨g, ix, none⟩ (.int .i64 y))) := B2'.out.setCell (p := ⟨g, ix, none⟩) hg0 _
          have O3 : Hid ((w2.setCell ⟨g, ix, none⟩ (.int .i64 y)).ownsRow w1.heap.size 3 1 (.slice (some ⟨g, 0, none⟩) un cg) un (ints .i64 (renamed r.1 x y))) := by
            have h1 := (O2.out.stored ix (.int .i64 y)).1
            have e1 : (ints .i64 r.1).set ix (.int .i64 y) = ints .i64 (renamed r.1 x y) := by rw [HRD.out]; unfold ints; rw [List.map_set]
            rw [e1] at h1
            exact h1
          have RW : Hid (∀ z ∈ renamed r.1 x y, (Lit.int .i64 z).wf = true) := fun z hz => by
            rw [HRD.out] at hz
            rcases List.mem_or_eq_of_mem_set hz with h | h
            · exact IsRow.wf HU.out z h
            · rw [h]; exact HYW.out
          have R3 : Hid (IsRow .i64 (w2.setCell ⟨g, ix, none⟩ (.int .i64 y)) (some ⟨g, 0, none⟩) un cg (renamed r.1 x y)) := own_row O3.out RW.out
          have C3 : Hid ((w2.setCell ⟨g, ix, none⟩ (.int .i64 y)).cell? ⟨w.heap.size + 1, 0, none⟩ = some (.slice none 0 0) ∧ (w2.setCell ⟨g, ix, none⟩ (.int .i64 y)).cell? ⟨w.heap.size + 1, 1, none⟩ = some (.slice none 0 0) ∧ (w2.setCell ⟨g, ix, none⟩ (.int .i64 y)).frozen? ⟨w.heap.size + 1, 0, none⟩ = false ∧ (w2.setCell ⟨g, ix, none⟩ (.int .i64 y)).frozen? ⟨w.heap.size + 1, 1, none⟩ = false ∧ w.heap.size + 1 + 1 ≤ (w2.setCell ⟨g, ix, none⟩ (.int .i64 y)).heap.size) := told_cells C1.out B23.out
          have K0 : Hid ((w2.setCell ⟨g, ix, none⟩ (.int .i64 y)).cell? ⟨w.heap.size, 1, none⟩ = some (.slice ta tn tc)) := Frame.held_cell B23.out D1.out.2
          clear hb2 hg2
          go_wp2_with fail
          refine (slices_Index _ _ _ r.1 x _ R2.out).mono ?_
          rintro e w' ⟨rfl, hw'⟩; have hw'' := hw'.symm; clear hw'; subst hw''
          rw [HIE.out]
          go_wp2_with fail
          clear hfz hce
          go_region_held3 (fun w' => w'.cell? ⟨w.heap.size, 1, none⟩ = some (.slice ta tn tc)) (first | exact K0.out | exact K1.out | exact K4.out | exact K5.out) (first | (go_at_call 51; refine (once_int _ un cg (renamed r.1 x y) _ (IsRow.below R3.out ((Below.refl _ _).drew)) (by omega)).mono ?_; rintro e w4 ⟨a5, m5, c5, os, rfl, hm5, ho5, honce, hwf5, hb5'⟩; have hb5 : Below (w2.setCell ⟨g, ix, none⟩ (.int .i64 y)).heap.size (w2.setCell ⟨g, ix, none⟩ (.int .i64 y)) w4 := Frame.next ((Below.refl _ _).drew) hb5' (Nat.le_refl _); have OS : Hid (os = renameN r x y) := once_renamed GG.out.upN HXM.out honce.1 honce.2; have SUB : Hid (∀ z ∈ os, z ∈ renamed r.1 x y) := (fun z hz => (honce.2 z).1 hz); have B4 : Hid (Below w.heap.size w w4) := Frame.next B3.out hb5 B3.out.size; have R4 : Hid (IsRow .i64 w4 (some ⟨g, 0, none⟩) un cg (renamed r.1 x y)) := IsRow.below R3.out hb5; have R5 : Hid (IsRow .i64 w4 a5 m5 c5 os) := own_row ho5 hwf5; have C4 : Hid (w4.cell? ⟨w.heap.size + 1, 0, none⟩ = some (.slice none 0 0) ∧ w4.cell? ⟨w.heap.size + 1, 1, none⟩ = some (.slice none 0 0) ∧ w4.frozen? ⟨w.heap.size + 1, 0, none⟩ = false ∧ w4.frozen? ⟨w.heap.size + 1, 1, none⟩ = false ∧ w.heap.size + 1 + 1 ≤ w4.heap.size) := told_cells C3.out hb5; have K1 : Hid (w4.cell? ⟨w.heap.size, 1, none⟩ = some (.slice ta tn tc)) := Frame.held_cell hb5 K0.out; have PL : Hid ((lplain rs).map (fun z => pick (renamed r.1 x y) z os) = renameL r x y) := (by show _ = _; rw [OS.out, HRS.out]; exact rename_map GG.out.upN HXM.out HYM.out); clear ho5 honce hwf5 hb5 hb5') | (go_at_call 27; refine (impl_underNames _ _ _ _ _ _ _ _ _ (renamed r.1 x y) os rs _ R4.out (HT.out.below B4.out) R5.out (by omega) (by omega) (small_prod (by omega) (by omega)) HRN.out SUB.out).mono ?_; rintro e w8 ⟨pa, pn, pc, ya, yn, yc, rfl, hq8, hb8⟩; rw [PL.out, OS.out] at hq8 ⊢; obtain ⟨c0, c1, f0, f1, hs8⟩ := told_cells C4.out hb8; have Q8 : Hid (QOwn w8 w4.heap.size w8.heap.size (.slice pa pn pc) (.slice ya yn yc) (tellV (renameN r x y) (renameL r x y))) := hq8; have B8 : Hid (Below w.heap.size w w8) := Frame.next B4.out hb8 B4.out.size; have K4 : Hid (w8.cell? ⟨w.heap.size, 1, none⟩ = some (.slice ta tn tc)) := Frame.held_cell hb8 K1.out; have K5 : Hid (((w8.setCell ⟨w.heap.size + 1, 0, none⟩ (.slice pa pn pc)).setCell ⟨w.heap.size + 1, 1, none⟩ (.slice ya yn yc)).cell? ⟨w.heap.size, 1, none⟩ = some (.slice ta tn tc)) := far2 K4.out (by omega); clear hq8 hb8))
          go_wp2
          refine bodyPost_ret (v := .tuple #[.agg #[.slice pa pn pc, .slice ya yn yc], .bool (tellG (renameN r x y) (renameL r x y))]) (by simp [results, Try.results17, go_sem, c0, c1]) rfl ?_
          rw [F.out.1, F.out.2]
          exact told_end (by omega) (by have := C4.out.2.2.2.2; omega) C4.out.2.2.2.2 Q8.out B8.out
        · have HY : Hid (decide (y ∈ r.1) = true) := hdy
          have F : Hid (renameV r x y = ([], []) ∧ renameG r x y = false) := rename_no (by rw [HB.out, hdy]; simp)
          clear hdx hdy hdn
          go_enter Try.func17, Try.ntmps17
          go_wp2_with fail
          refine (impl_GoodRelation _ _ r _ (qIs_below HQ.out B2.out)).mono ?_
          rintro e w1 ⟨rfl, hb1⟩
          rw [HG.out]
          obtain ⟨⟨d0, d1⟩, ⟨c0, c1, f0, f1, hs1⟩, b1⟩ := start2 hb1
          have B1 : Hid (Below w.heap.size w w1) := b1
          have C1 : Hid (w1.cell? ⟨w.heap.size + 1, 0, none⟩ = some (.slice none 0 0) ∧ w1.cell? ⟨w.heap.size + 1, 1, none⟩ = some (.slice none 0 0) ∧ w1.frozen? ⟨w.heap.size + 1, 0, none⟩ = false ∧ w1.frozen? ⟨w.heap.size + 1, 1, none⟩ = false ∧ w.heap.size + 1 + 1 ≤ w1.heap.size) := ⟨c0, c1, f0, f1, hs1⟩
          have D1 : Hid (w1.cell? ⟨w.heap.size, 0, none⟩ = some (.slice ua un uc) ∧ w1.cell? ⟨w.heap.size, 1, none⟩ = some (.slice ta tn tc)) := ⟨d0, d1⟩
          clear hb1 b1
          go_wp2_with fail
          refine (has_int _ _ _ r.1 x _ (IsRow.below HU.out B1.out) (by omega) GG.out.upN).mono ?_
          rintro e w' ⟨rfl, hw'⟩; have hw'' := hw'.symm; clear hw'; subst hw''
          rw [HX.out]
          go_wp2_with fail
          refine (impl_isName y _).mono ?_
          rintro e w' ⟨rfl, hw'⟩; have hw'' := hw'.symm; clear hw'; subst hw''
          rw [HN.out]
          go_wp2_with fail
          refine (has_int _ _ _ r.1 y _ (IsRow.below HU.out B1.out) (by omega) GG.out.upN).mono ?_
          rintro e w' ⟨rfl, hw'⟩; have hw'' := hw'.symm; clear hw'; subst hw''
          rw [HY.out]
          go_wp2
          refine bodyPost_ret (v := .tuple #[.agg #[.slice none 0 0, .slice none 0 0], .bool false]) (by simp [results, Try.results17, go_sem, c0, c1]) rfl ?_
          rw [F.out.1, F.out.2]
          exact told_none (by omega) B1.out


end Go.Proofs.Yteihhpjneeaiaab.Ol
