/-
  Contracts of slices.Grow (at nil) and slices.Concat (of two lists of tuples), and of the program's UnionOf.
-/
import Derived.Test.YteihhpjneeaiaabOj
import Derived.Lib.AppendZerosOnto
import Derived.Lib.SliceRun
namespace Go.Proofs.Yteihhpjneeaiaab.Ok
open Go.RowKit
open Go.Proofs.Yteihhpjneeaiaab.Frame Go.Proofs.Yteihhpjneeaiaab.Mem Go.Proofs.Yteihhpjneeaiaab.Ints Go.Proofs.Yteihhpjneeaiaab.Kep Go.Proofs.Yteihhpjneeaiaab.Lls Go.Proofs.Yteihhpjneeaiaab.Rpu Go.Proofs.Yteihhpjneeaiaab.Krl Go.Proofs.Yteihhpjneeaiaab.Oa Go.Proofs.Yteihhpjneeaiaab.Ob Go.Proofs.Yteihhpjneeaiaab.Oe Go.Proofs.Yteihhpjneeaiaab.Og Go.Proofs.Yteihhpjneeaiaab.Oh Go.Proofs.Yteihhpjneeaiaab.Mis Go.Proofs.Yteihhpjneeaiaab.Told Go.Proofs.Yteihhpjneeaiaab.Rel

set_option maxRecDepth 4000 in
set_option maxHeartbeats 1600000 in
theorem grow_nil (n : Nat) (w : World) (hn : n ≤ 100000) :
    Calls Try.prog 59 #[.slice none 0 0, .int .i64 n] w fun e w' => ∃ a' c', e = .returned (.slice a' 0 c') ∧ w'.ownsRow w.heap.size 22 1 (.slice a' 0 c') 0 [] ∧ Below w.heap.size w w' := by
  obtain ⟨i0, hi, hz0, hz1, hz2⟩ := info_parts infoL
  by_cases h0 : n = 0
  · subst h0
    go_enter Try.func59, Try.ntmps59
    go_wp2
    go_ret
    exact ⟨none, 0, rfl, World.ownsRow_nil _ _ _ _, Below.refl _ _⟩
  · have hold : (Builtin.firstCells i0.size 0 (.slice none 0 0)).run Try.prog w.drew = .ok ([] : List Value).toArray w.drew := by simp [Builtin.firstCells]
    have hrz : ∀ ty, (Builtin.append_ #[23, 3] ty #[.slice none 0 0, .int .i64 n]).run Try.prog w = .ok (.slice (some ⟨w.heap.size, 0, none⟩) n (grownCap w n 0 22)) (w.drew.alloc (.cells (([] : List Value).toArray ++ Builtin.zeroCells (Value.slice none 0 0).cells n ++ Builtin.zeroCells (Value.slice none 0 0).cells (grownCap w n 0 22 - n)) 22)) := fun ty => by
      have h := Lib.run_append_grow_zeros w 23 3 ty 22 i0 (.slice none 0 0) .i64 .i64 Try.underlying23 Try.underlying3 hi hz0 none 0 0 [] hold n (by omega) (by omega) (by omega) (by omega) (by rw [hz2]; omega) (by rw [hz2]; exact growslice_fits (by omega) (by omega))
      rw [Nat.zero_add] at h
      exact h
    have hGn : n ≤ grownCap w n 0 22 := grownCap_ge w _ _ _
    have hGm : grownCap w n 0 22 ≤ maxLen := grownCap_le_maxLen w _ _ _ (by unfold maxLen; omega)
    generalize grownCap w n 0 22 = G at hrz hGn hGm
    have hOW : Hid ((w.drew.alloc (.cells (([] : List Value).toArray ++ Builtin.zeroCells (Value.slice none 0 0).cells n ++ Builtin.zeroCells (Value.slice none 0 0).cells (G - n)) 22)).ownsRow w.heap.size 22 1 (.slice (some ⟨w.heap.size, 0, none⟩) 0 G) 0 []) :=
      ⟨rfl, .inr ⟨w.heap.size, G, _, rfl, Nat.le_refl _, heap_alloc_new w.drew _, Nat.zero_le _, hGm, by simp [Builtin.zeroCells, Value.cells]; omega, by simp⟩⟩
    have hBW : Hid (Below w.heap.size w (w.drew.alloc (.cells (([] : List Value).toArray ++ Builtin.zeroCells (Value.slice none 0 0).cells n ++ Builtin.zeroCells (Value.slice none 0 0).cells (G - n)) 22))) := ((Below.refl _ _).drew).alloc (Nat.le_refl _) _
    generalize w.drew.alloc (.cells (([] : List Value).toArray ++ Builtin.zeroCells (Value.slice none 0 0).cells n ++ Builtin.zeroCells (Value.slice none 0 0).cells (G - n)) 22) = w9 at hrz hOW hBW
    have h1 : ¬ ((n : Int) < 0) := by omega
    have h4 : (n : Int) > 0 := by omega
    have hG63 : G ≤ 9223372036854775807 := by unfold maxLen at hGm; omega
    clear hold
    go_enter Try.func59, Try.ntmps59
    go_wp2_with (at_builtin; refine Lib.wpList_append_run _ rfl _ _ _ _ rfl _ _ rfl rfl _ _ (hrz _) ?_)
    go_ret
    exact ⟨_, _, rfl, hOW.out, hBW.out⟩

set_option maxRecDepth 4000 in
set_option maxHeartbeats 1600000 in
theorem concat_ls (pb : Nat) (ta sa : Option Addr) (tn tc sn sc : Nat) (rs qs : List LV) (w : World) (hc0 : w.cell? ⟨pb, 0, none⟩ = some (.slice ta tn tc)) (hc1 : w.cell? ⟨pb, 1, none⟩ = some (.slice sa sn sc)) (ht : IsLs w ta tn tc rs) (hs : IsLs w sa sn sc qs) (htn : tn ≤ 1000) (hsn : sn ≤ 1000) :
    Calls Try.prog 28 #[.slice (some ⟨pb, 0, none⟩) 2 2] w fun e w' => ∃ a' c', e = .returned (.slice a' (tn + sn) c') ∧ w'.ownsRow w.heap.size 22 1 (.slice a' (tn + sn) c') (tn + sn) (lcells (rs ++ qs)) ∧ Below w.heap.size w w' := by
  obtain ⟨i0, hi, hz0, hz1, hz2⟩ := info_parts infoL
  have HT : Hid (IsLs w ta tn tc rs) := ht
  have HS : Hid (IsLs w sa sn sc qs) := hs
  have HRL : Hid ((lcells rs).length = tn * 1) := by show _ = _; rw [lcells_length, ht.len]; omega
  have HQL : Hid ((lcells qs).length = sn * 1) := by show _ = _; rw [lcells_length, hs.len]; omega
  have HC : Hid (w.cell? ⟨pb, 0, none⟩ = some (.slice ta tn tc) ∧ w.cell? ⟨pb, 1, none⟩ = some (.slice sa sn sc)) := ⟨hc0, hc1⟩
  clear ht hs
  go_enter Try.func28, Try.ntmps28
  go_wp2_with fail
  go_loopw [3, 11] (fun s i wr => ((i = .int .i64 0 ∧ s = .int .i64 0) ∨ (i = .int .i64 1 ∧ s = .int .i64 tn) ∨ (i = .int .i64 2 ∧ s = .int .i64 ((tn + sn : Nat) : Int))) ∧ w = wr) (fun _ i _ => 2 - (intOf i).toNat)
  case atStart => exact ⟨Or.inl ⟨rfl, rfl⟩, rfl⟩
  case round =>
    obtain ⟨hcase, rfl⟩ := hrel
    rcases hcase with ⟨rfl, rfl⟩ | ⟨rfl, rfl⟩ | ⟨rfl, rfl⟩
    · go_wp2_with fail
      go_roundw
      case rel => exact ⟨Or.inr (Or.inl ⟨by go_num, by go_num⟩), trivial⟩
      case measure => simp [intOf]
    · go_wp2_with fail
      go_roundw
      case rel => exact ⟨Or.inr (Or.inr ⟨by go_num, by go_num⟩), trivial⟩
      case measure => simp [intOf]
    · clear hc0 hc1
      go_wp2_with fail
      refine (grow_nil (tn + sn) _ (by omega)).mono ?_
      rintro e w1 ⟨a1, c1, rfl, ho1, hb1⟩
      have O1 : Hid (w1.ownsRow w.heap.size 22 1 (.slice a1 0 c1) 0 (lcells [])) := ho1
      have B1 : Hid (Below w.heap.size w w1) := hb1
      clear ho1 hb1
      go_wp2_with fail
      go_loopw [6, 27] (fun v i wr => ∃ (m : Nat) (a' : Option Addr) (c' : Nat) (xs : List LV), ((i = .int .i64 0 ∧ m = 0 ∧ xs = []) ∨ (i = .int .i64 1 ∧ m = tn ∧ xs = rs) ∨ (i = .int .i64 2 ∧ m = tn + sn ∧ xs = rs ++ qs)) ∧ v = .slice a' m c' ∧ wr.ownsRow w.heap.size 22 1 (.slice a' m c') m (lcells xs) ∧ Below w.heap.size w wr) (fun _ i _ => 2 - (intOf i).toNat)
      case atStart => exact ⟨0, a1, c1, [], Or.inl ⟨rfl, rfl, rfl⟩, rfl, O1.out, B1.out⟩
      case round =>
        obtain ⟨m, a', c', xs, hcase, rfl, ho, hnx⟩ := hrel
        have HN : Hid (Below w.heap.size w wr) := hnx
        rcases hcase with ⟨rfl, hm, hx⟩ | ⟨rfl, hm, hx⟩ | ⟨rfl, hm, hx⟩
        · skip
          have HO : Hid (wr.ownsRow w.heap.size 22 1 (.slice a' (0) c') (0) (lcells ([]))) := by have := ho; rw [hm, hx] at this; exact this
          rw [hm]
          clear ho hm hx
          have p0 : wr.cell? ⟨pb, 0, none⟩ = some (.slice ta tn tc) := Frame.held_cell hnx HC.out.1
          have S2 : Hid (0 < tn → ∃ ad, ta = some ad ∧ ∀ j u, (lcells rs)[j]? = some u → wr.cell? (ad.add j) = some u) := news_ls (HT.out.below HN.out)
          clear hnx
          go_wp2_with (at_builtin; refine App.wpList_append_all _ rfl _ _ 23 rfl w.heap.size 22 i0 (.slice none 0 0) 1 24 Try.underlying23 hi hz0 hz1 hz2 rfl (by decide) _ _ _ rfl HO.out _ tn _ (lcells rs) rfl HRL.out S2.out (one_ls rs) (by unfold maxLen; omega) (by omega) HN.out.size ?_)
          intro a4 c4 w4 hown4 hgrow4
          have O4 : Hid (w4.ownsRow w.heap.size 22 1 (.slice a4 (tn) c4) (tn) (lcells (rs))) := by have := hown4; rw [show lcells [] = [] from rfl, List.nil_append] at this; exact this
          have N4 : Hid (Below w.heap.size w w4) := below_app HN.out HO.out hgrow4 HN.out.size (Nat.le_refl _)
          clear hown4 hgrow4
          go_wp2
          go_roundw
          case rel => exact ⟨_, a4, c4, _, Or.inr (Or.inl ⟨by go_num, rfl, rfl⟩), rfl, O4.out, N4.out⟩
          case measure => simp [intOf]
        · skip
          have HO : Hid (wr.ownsRow w.heap.size 22 1 (.slice a' (tn) c') (tn) (lcells (rs))) := by have := ho; rw [hm, hx] at this; exact this
          rw [hm]
          clear ho hm hx
          have p0 : wr.cell? ⟨pb, 1, none⟩ = some (.slice sa sn sc) := Frame.held_cell hnx HC.out.2
          have S2 : Hid (0 < sn → ∃ ad, sa = some ad ∧ ∀ j u, (lcells qs)[j]? = some u → wr.cell? (ad.add j) = some u) := news_ls (HS.out.below HN.out)
          clear hnx
          go_wp2_with (at_builtin; refine App.wpList_append_all _ rfl _ _ 23 rfl w.heap.size 22 i0 (.slice none 0 0) 1 24 Try.underlying23 hi hz0 hz1 hz2 rfl (by decide) _ _ _ rfl HO.out _ sn _ (lcells qs) rfl HQL.out S2.out (one_ls qs) (by unfold maxLen; omega) (by omega) HN.out.size ?_)
          intro a4 c4 w4 hown4 hgrow4
          have O4 : Hid (w4.ownsRow w.heap.size 22 1 (.slice a4 (tn + sn) c4) (tn + sn) (lcells (rs ++ qs))) := by have := hown4; unfold lcells at *; rw [List.map_append]; exact this
          have N4 : Hid (Below w.heap.size w w4) := below_app HN.out HO.out hgrow4 HN.out.size (Nat.le_refl _)
          clear hown4 hgrow4
          go_wp2
          go_roundw
          case rel => exact ⟨_, a4, c4, _, Or.inr (Or.inr ⟨by go_num, rfl, rfl⟩), rfl, O4.out, N4.out⟩
          case measure => simp [intOf]
        · skip
          have HO : Hid (wr.ownsRow w.heap.size 22 1 (.slice a' (tn + sn) c') (tn + sn) (lcells (rs ++ qs))) := by have := ho; rw [hm, hx] at this; exact this
          rw [hm]
          clear ho hm hx
          clear hnx
          go_wp2
          go_ret
          exact ⟨_, _, rfl, HO.out, HN.out⟩

theorem union_no {a b : Rl} (h : twoB a b = false) : unionV a b = ([], []) ∧ unionG a b = false := by
  unfold unionV unionG
  rw [h]
  exact ⟨rfl, rfl⟩
theorem union_yes {a b : Rl} (h : twoB a b = true) : unionV a b = tellV a.1 (a.2 ++ b.2) ∧ unionG a b = tellG a.1 (a.2 ++ b.2) := by
  unfold unionV unionG
  rw [h]
  exact ⟨rfl, rfl⟩
theorem far2 {w : World} {b b' o : Nat} {v v0 v1 : Value} (h : w.cell? ⟨b', o, none⟩ = some v) (hb : b ≠ b') : ((w.setCell ⟨b, 0, none⟩ v0).setCell ⟨b, 1, none⟩ v1).cell? ⟨b', o, none⟩ = some v := by
  rw [World.cell?_setCell_far _ _ _ _ hb, World.cell?_setCell_far _ _ _ _ hb]
  exact h

set_option maxRecDepth 4000 in
set_option maxHeartbeats 3200000 in
theorem impl_UnionOf (u t v s : Value) (a b : Rl) (w : World) (h1 : QIs w u t a) (h2 : QIs w v s b) : Calls Try.prog 10 #[.agg #[u, t], .agg #[v, s]] w (RTold (unionV a b) (unionG a b) w) := by
  have H1 : Hid (QIs w u t a) := h1
  have H2 : Hid (QIs w v s b) := h2
  obtain ⟨⟨ua, un, uc, rfl, hu, hun⟩, ta, tn, tc, rs, rfl, ht, hrs, htt⟩ := h1
  obtain ⟨⟨va, vn, vc, rfl, hv, hvn⟩, sa, sn, sc, qs, rfl, hs, hqs, hss⟩ := h2
  have HU : Hid (IsRow .i64 w ua un uc a.1) := hu
  have HT : Hid (IsLs w ta tn tc rs) := ht
  have HS : Hid (IsLs w sa sn sc qs) := hs
  have HRS : Hid (lplain rs = a.2) := hrs
  have HQS : Hid (lplain qs = b.2) := hqs
  have HTL : Hid (rs.length = tn) := ht.len
  have HSL : Hid (qs.length = sn) := hs.len
  have HUL : Hid (a.1.length = un) := hu.len
  have B2 : Hid (Below w.heap.size w (((w.alloc (.cells #[.slice ua un uc, .slice ta tn tc] 27)).alloc (.cells #[.slice va vn vc, .slice sa sn sc] 27)).alloc (.cells #[.slice none 0 0, .slice none 0 0] 27))) := (((Below.refl _ _).alloc (Nat.le_refl _) _).alloc (by simp) _).alloc (by simp; omega) _
  clear hu ht hrs htt hv hs hqs hss
  cases hg : twoB a b
  · have HG : Hid (twoB a b = false) := hg
    have F : Hid (unionV a b = ([], []) ∧ unionG a b = false) := union_no hg
    clear hg
    go_enter Try.func10, Try.ntmps10
    go_wp2_with fail
    refine (impl_haveSameNames _ _ _ _ a b _ (qIs_below H1.out B2.out) (qIs_below H2.out B2.out)).mono ?_
    rintro e w1 ⟨rfl, hb1⟩
    rw [HG.out]
    obtain ⟨⟨d0, d1, d2, d3⟩, ⟨c0, c1, f0, f1, hs1⟩, b1⟩ := Oj.start3 hb1
    have B1 : Hid (Below w.heap.size w w1) := b1
    clear hb1 b1
    go_wp2
    refine bodyPost_ret (v := .tuple #[.agg #[.slice none 0 0, .slice none 0 0], .bool false]) (by simp [results, Try.results10, go_sem, c0, c1]) rfl ?_
    rw [F.out.1, F.out.2]
    exact told_none (by omega) B1.out
  · have HG : Hid (twoB a b = true) := hg
    obtain ⟨ga, gb, gn⟩ := Oj.two_good hg
    have GA : Hid (Rel.Good a.1 a.2) := ga
    have F : Hid (unionV a b = tellV a.1 ((a.2 ++ b.2)) ∧ unionG a b = tellG a.1 ((a.2 ++ b.2))) := union_yes hg
    have hmost : tn ≤ 60 := by
      have h1 := ga.most
      rw [← HRS.out, Oa.lplain_length, HTL.out] at h1
      exact h1
    have hmostb : sn ≤ 60 := by
      have h1 := gb.most
      rw [← HQS.out, Oa.lplain_length, HSL.out] at h1
      exact h1
    have hfew : un ≤ 6 := by have := ga.few; rw [HUL.out] at this; exact this
    have HW : Hid (∀ x ∈ a.2 ++ b.2, x.length = a.1.length) := fun x hx => by
      rcases List.mem_append.1 hx with hx' | hx'
      · exact GA.out.wide x hx'
      · rw [gn]; exact gb.wide x hx'
    have HPL0 : Hid (lplain (rs ++ qs) = a.2 ++ b.2) := by show _ = _; unfold lplain at *; rw [List.map_append, HRS.out, HQS.out]
    have HRN : Hid (∀ x ∈ rs ++ qs, x.zs.length = un) := fun x hx => by
      rw [HW.out x.zs (by rw [← HPL0.out]; exact List.mem_map_of_mem hx), HUL.out]
    have HPL : Hid ((lplain (rs ++ qs)).map (fun x => pick a.1 x a.1) = a.2 ++ b.2) := by
      show _ = _
      rw [HPL0.out]
      exact map_pick_all GA.out.upN HW.out
    clear hg ga gb gn
    go_enter Try.func10, Try.ntmps10
    go_wp2_with fail
    refine (impl_haveSameNames _ _ _ _ a b _ (qIs_below H1.out B2.out) (qIs_below H2.out B2.out)).mono ?_
    rintro e w1 ⟨rfl, hb1⟩
    rw [HG.out]
    obtain ⟨⟨d0, d1, d2, d3⟩, ⟨c0, c1, f0, f1, hs1⟩, b1⟩ := Oj.start3 hb1
    have C1 : Hid (w1.cell? ⟨w.heap.size + 2, 0, none⟩ = some (.slice none 0 0) ∧ w1.cell? ⟨w.heap.size + 2, 1, none⟩ = some (.slice none 0 0) ∧ w1.frozen? ⟨w.heap.size + 2, 0, none⟩ = false ∧ w1.frozen? ⟨w.heap.size + 2, 1, none⟩ = false ∧ w.heap.size + 2 + 1 ≤ w1.heap.size) := ⟨c0, c1, f0, f1, hs1⟩
    have D1 : Hid (w1.cell? ⟨w.heap.size, 0, none⟩ = some (.slice ua un uc) ∧ w1.cell? ⟨w.heap.size, 1, none⟩ = some (.slice ta tn tc) ∧ w1.cell? ⟨w.heap.size + 1, 1, none⟩ = some (.slice sa sn sc)) := ⟨d0, d1, d3⟩
    have B1 : Hid (Below w.heap.size w w1) := b1
    clear hb1 b1 c0 c1 f0 f1
    go_wp2_with fail
    clear d0 d1 d2 d3
    have BA : Hid (Below w1.heap.size w1 (w1.drew.alloc (.cells #[.slice ta tn tc, .slice sa sn sc] 23))) := ((Below.refl _ _).drew).alloc (Nat.le_refl _) _
    have BBA : Hid (Below w.heap.size w (w1.drew.alloc (.cells #[.slice ta tn tc, .slice sa sn sc] 23))) := Frame.next B1.out BA.out B1.out.size
    have PA : Hid ((w1.drew.alloc (.cells #[.slice ta tn tc, .slice sa sn sc] 23)).cell? ⟨w1.heap.size, 0, none⟩ = some (.slice ta tn tc) ∧ (w1.drew.alloc (.cells #[.slice ta tn tc, .slice sa sn sc] 23)).cell? ⟨w1.heap.size, 1, none⟩ = some (.slice sa sn sc)) := ⟨by show (w1.drew.alloc _).cell? ⟨w1.drew.heap.size, 0, none⟩ = _; rw [World.cell?_alloc_at _ _ _ _ rfl]; rfl, by show (w1.drew.alloc _).cell? ⟨w1.drew.heap.size, 1, none⟩ = _; rw [World.cell?_alloc_at _ _ _ _ rfl]; rfl⟩
    have K0 : Hid (w1.drew.cell? ⟨w.heap.size, 0, none⟩ = some (.slice ua un uc) ∧ w1.drew.cell? ⟨w.heap.size, 1, none⟩ = some (.slice ta tn tc) ∧ w1.drew.cell? ⟨w.heap.size + 1, 1, none⟩ = some (.slice sa sn sc)) := D1.out
    have K1 : Hid ((w1.drew.alloc (.cells #[.slice ta tn tc, .slice sa sn sc] 23)).cell? ⟨w.heap.size, 0, none⟩ = some (.slice ua un uc) ∧ (w1.drew.alloc (.cells #[.slice ta tn tc, .slice sa sn sc] 23)).cell? ⟨w.heap.size, 1, none⟩ = some (.slice ta tn tc) ∧ (w1.drew.alloc (.cells #[.slice ta tn tc, .slice sa sn sc] 23)).cell? ⟨w.heap.size + 1, 1, none⟩ = some (.slice sa sn sc)) := ⟨Frame.held_cell BA.out D1.out.1, Frame.held_cell BA.out D1.out.2.1, Frame.held_cell BA.out D1.out.2.2⟩
    have hsm : (tn + sn) * (un + 1) ≤ 1048576 := by
      have h1 : (tn + sn) * (un + 1) ≤ 120 * 7 := Nat.mul_le_mul (by omega) (by omega)
      omega
    go_region_held3 (fun w' => w'.cell? ⟨w.heap.size, 0, none⟩ = some (.slice ua un uc) ∧ w'.cell? ⟨w.heap.size, 1, none⟩ = some (.slice ta tn tc) ∧ w'.cell? ⟨w.heap.size + 1, 1, none⟩ = some (.slice sa sn sc)) (first | exact K0.out | exact K1.out | exact K3.out | exact K4.out | exact K5.out) (first | (go_at_call 28; refine (concat_ls w1.heap.size ta sa tn tc sn sc rs qs _ PA.out.1 PA.out.2 (HT.out.below BBA.out) (HS.out.below BBA.out) (by omega) (by omega)).mono ?_; rintro e w3 ⟨a3, c3, rfl, ho3, hb3⟩; have B3 : Hid (Below w1.heap.size w1 w3) := Frame.next BA.out hb3 BA.out.size; have BB3 : Hid (Below w.heap.size w w3) := Frame.next B1.out B3.out B1.out.size; have HL3 : Hid (IsLs w3 a3 (tn + sn) c3 (rs ++ qs)) := isLs_outer ho3 (fun x hx => (List.mem_append.1 hx).elim (fun h => IsRow.below (HT.out.rows x h) BB3.out) (fun h => IsRow.below (HS.out.rows x h) BB3.out)); have K3 : Hid (w3.cell? ⟨w.heap.size, 0, none⟩ = some (.slice ua un uc) ∧ w3.cell? ⟨w.heap.size, 1, none⟩ = some (.slice ta tn tc) ∧ w3.cell? ⟨w.heap.size + 1, 1, none⟩ = some (.slice sa sn sc)) := ⟨Frame.held_cell B3.out D1.out.1, Frame.held_cell B3.out D1.out.2.1, Frame.held_cell B3.out D1.out.2.2⟩; have C3 : Hid (w3.cell? ⟨w.heap.size + 2, 0, none⟩ = some (.slice none 0 0) ∧ w3.cell? ⟨w.heap.size + 2, 1, none⟩ = some (.slice none 0 0) ∧ w3.frozen? ⟨w.heap.size + 2, 0, none⟩ = false ∧ w3.frozen? ⟨w.heap.size + 2, 1, none⟩ = false ∧ w.heap.size + 2 + 1 ≤ w3.heap.size) := told_cells C1.out B3.out; clear ho3 hb3) | (go_at_call 27; refine (impl_underNames _ _ _ _ _ _ _ _ _ a.1 a.1 (rs ++ qs) _ (IsRow.below HU.out BB3.out) HL3.out (IsRow.below HU.out BB3.out) (by omega) (by omega) hsm HRN.out (fun z hz => hz)).mono ?_; rintro e w8 ⟨pa, pn, pc, ya, yn, yc, rfl, hq8, hb8⟩; rw [HPL.out] at hq8 ⊢; obtain ⟨c0, c1, f0, f1, hs8⟩ := told_cells C3.out hb8; have Q8 : Hid (QOwn w8 w3.heap.size w8.heap.size (.slice pa pn pc) (.slice ya yn yc) (tellV a.1 (a.2 ++ b.2))) := hq8; have B8 : Hid (Below w.heap.size w w8) := Frame.next BB3.out hb8 BB3.out.size; have K4 : Hid (w8.cell? ⟨w.heap.size, 0, none⟩ = some (.slice ua un uc) ∧ w8.cell? ⟨w.heap.size, 1, none⟩ = some (.slice ta tn tc) ∧ w8.cell? ⟨w.heap.size + 1, 1, none⟩ = some (.slice sa sn sc)) := ⟨Frame.held_cell hb8 K3.out.1, Frame.held_cell hb8 K3.out.2.1, Frame.held_cell hb8 K3.out.2.2⟩; have K5 : Hid (((w8.setCell ⟨w.heap.size + 2, 0, none⟩ (.slice pa pn pc)).setCell ⟨w.heap.size + 2, 1, none⟩ (.slice ya yn yc)).cell? ⟨w.heap.size, 0, none⟩ = some (.slice ua un uc) ∧ ((w8.setCell ⟨w.heap.size + 2, 0, none⟩ (.slice pa pn pc)).setCell ⟨w.heap.size + 2, 1, none⟩ (.slice ya yn yc)).cell? ⟨w.heap.size, 1, none⟩ = some (.slice ta tn tc) ∧ ((w8.setCell ⟨w.heap.size + 2, 0, none⟩ (.slice pa pn pc)).setCell ⟨w.heap.size + 2, 1, none⟩ (.slice ya yn yc)).cell? ⟨w.heap.size + 1, 1, none⟩ = some (.slice sa sn sc)) := ⟨far2 K4.out.1 (by omega), far2 K4.out.2.1 (by omega), far2 K4.out.2.2 (by omega)⟩; clear hq8 hb8))
    go_wp2
    refine bodyPost_ret (v := .tuple #[.agg #[.slice pa pn pc, .slice ya yn yc], .bool (tellG a.1 (a.2 ++ b.2))]) (by simp [results, Try.results10, go_sem, c0, c1]) rfl ?_
    rw [F.out.1, F.out.2]
    exact told_end (by omega) (by have := C3.out.2.2.2.2; omega) C3.out.2.2.2.2 Q8.out B8.out


end Go.Proofs.Yteihhpjneeaiaab.Ok
