/-
  Contracts of slices.Grow (at nil) and slices.Concat (of two lists of tuples), and of the program's UnionOf.
-/
import Derived.Test.YthhldnlbneamiaaOj
import Derived.Lib.AppendZerosOnto
import Derived.Lib.SliceRun
namespace Go.Proofs.Ythhldnlbneamiaa.Ok
open Go.RowKit
open Go.Proofs.Ythhldnlbneamiaa.Frame Go.Proofs.Ythhldnlbneamiaa.Mem Go.Proofs.Ythhldnlbneamiaa.Ints Go.Proofs.Ythhldnlbneamiaa.Kep Go.Proofs.Ythhldnlbneamiaa.Lls Go.Proofs.Ythhldnlbneamiaa.Rpu Go.Proofs.Ythhldnlbneamiaa.Krl Go.Proofs.Ythhldnlbneamiaa.Oa Go.Proofs.Ythhldnlbneamiaa.Ob Go.Proofs.Ythhldnlbneamiaa.Oe Go.Proofs.Ythhldnlbneamiaa.Og Go.Proofs.Ythhldnlbneamiaa.Oh Go.Proofs.Ythhldnlbneamiaa.Mis Go.Proofs.Ythhldnlbneamiaa.Told Go.Proofs.Ythhldnlbneamiaa.Rel

set_option maxRecDepth 4000 in
set_option maxHeartbeats 1600000 in
theorem grow_nil (n : Nat) (w : World) (hn : n ≤ 100000) :
    Calls Try.prog 157 #[.slice none 0 0, .int .i64 n] w fun e w' => ∃ a' c', e = .returned (.slice a' 0 c') ∧ w'.ownsRow w.heap.size 24 1 (.slice a' 0 c') 0 [] ∧ Below w.heap.size w w' := by
  obtain ⟨i0, hi, hz0, hz1, hz2⟩ := info_parts infoL
  by_cases h0 : n = 0
  · subst h0
    go_enter Try.func157, Try.ntmps157
    go_wp2
    go_ret
    exact ⟨none, 0, rfl, World.ownsRow_nil _ _ _ _, Below.refl _ _⟩
  · have hold : (Builtin.firstCells i0.size 0 (.slice none 0 0)).run Try.prog w.drew = .ok ([] : List Value).toArray w.drew := by simp [Builtin.firstCells]
    have hrz : ∀ ty, (Builtin.append_ #[31, 3] ty #[.slice none 0 0, .int .i64 n]).run Try.prog w = .ok (.slice (some ⟨w.heap.size, 0, none⟩) n (grownCap w n 0 24)) (w.drew.alloc (.cells (([] : List Value).toArray ++ Builtin.zeroCells (Value.slice none 0 0).cells n ++ Builtin.zeroCells (Value.slice none 0 0).cells (grownCap w n 0 24 - n)) 24)) := fun ty => by
      have h := Lib.run_append_grow_zeros w 31 3 ty 24 i0 (.slice none 0 0) .i64 .i64 Try.underlying31 Try.underlying3 hi hz0 none 0 0 [] hold n (by omega) (by omega) (by omega) (by omega) (by rw [hz2]; omega) (by rw [hz2]; exact growslice_fits (by omega) (by omega))
      rw [Nat.zero_add] at h
      exact h
    have hGn : n ≤ grownCap w n 0 24 := grownCap_ge w _ _ _
    have hGm : grownCap w n 0 24 ≤ maxLen := grownCap_le_maxLen w _ _ _ (by unfold maxLen; omega)
    generalize grownCap w n 0 24 = G at hrz hGn hGm
    have hOW : Hid ((w.drew.alloc (.cells (([] : List Value).toArray ++ Builtin.zeroCells (Value.slice none 0 0).cells n ++ Builtin.zeroCells (Value.slice none 0 0).cells (G - n)) 24)).ownsRow w.heap.size 24 1 (.slice (some ⟨w.heap.size, 0, none⟩) 0 G) 0 []) :=
      ⟨rfl, .inr ⟨w.heap.size, G, _, rfl, Nat.le_refl _, heap_alloc_new w.drew _, Nat.zero_le _, hGm, by simp [Builtin.zeroCells, Value.cells]; omega, by simp⟩⟩
    have hBW : Hid (Below w.heap.size w (w.drew.alloc (.cells (([] : List Value).toArray ++ Builtin.zeroCells (Value.slice none 0 0).cells n ++ Builtin.zeroCells (Value.slice none 0 0).cells (G - n)) 24))) := ((Below.refl _ _).drew).alloc (Nat.le_refl _) _
    generalize w.drew.alloc (.cells (([] : List Value).toArray ++ Builtin.zeroCells (Value.slice none 0 0).cells n ++ Builtin.zeroCells (Value.slice none 0 0).cells (G - n)) 24) = w9 at hrz hOW hBW
    have h1 : ¬ ((n : Int) < 0) := by omega
    have h4 : (n : Int) > 0 := by omega
    have hG63 : G ≤ 9223372036854775807 := by unfold maxLen at hGm; omega
    clear hold
    go_enter Try.func157, Try.ntmps157
    go_wp2_with (at_builtin; refine Lib.wpList_append_run _ rfl _ _ _ _ rfl _ _ rfl rfl _ _ (hrz _) ?_)
    go_ret
    exact ⟨_, _, rfl, hOW.out, hBW.out⟩

set_option maxRecDepth 4000 in
set_option maxHeartbeats 1600000 in
theorem concat_ls (pb : Nat) (ta sa : Option Addr) (tn tc sn sc : Nat) (rs qs : List LV) (w : World) (hc0 : w.cell? ⟨pb, 0, none⟩ = some (.slice ta tn tc)) (hc1 : w.cell? ⟨pb, 1, none⟩ = some (.slice sa sn sc)) (ht : IsLs w ta tn tc rs) (hs : IsLs w sa sn sc qs) (htn : tn ≤ 1000) (hsn : sn ≤ 1000) :
    Calls Try.prog 105 #[.slice (some ⟨pb, 0, none⟩) 2 2] w fun e w' => ∃ a' c', e = .returned (.slice a' (tn + sn) c') ∧ w'.ownsRow w.heap.size 24 1 (.slice a' (tn + sn) c') (tn + sn) (lcells (rs ++ qs)) ∧ Below w.heap.size w w' := by
  obtain ⟨i0, hi, hz0, hz1, hz2⟩ := info_parts infoL
  have HT : Hid (IsLs w ta tn tc rs) := ht
  have HS : Hid (IsLs w sa sn sc qs) := hs
  have HRL : Hid ((lcells rs).length = tn * 1) := by show _ = _; rw [lcells_length, ht.len]; omega
  have HQL : Hid ((lcells qs).length = sn * 1) := by show _ = _; rw [lcells_length, hs.len]; omega
  have HC : Hid (w.cell? ⟨pb, 0, none⟩ = some (.slice ta tn tc) ∧ w.cell? ⟨pb, 1, none⟩ = some (.slice sa sn sc)) := ⟨hc0, hc1⟩
  clear ht hs
  go_enter Try.func105, Try.ntmps105
  go_wp2_with fail
  go_loopw [3, 11] (fun s i wr => ((i = .int .i64 0 ∧ s = .int .i64 0) ∨ (i = .int .i64 1 ∧ s = .int .i64 tn) ∨ (i = .int .i64 2 ∧ s = .int .i64 ((tn + sn : Nat) : Int))) ∧ w = wr) (fun _ i _ => 2 - (intOf i).toNat)
  case atStart => exact ⟨Or.inl ⟨rfl, rfl⟩, rfl⟩
  case round =>
    obtain ⟨hcase, rfl⟩ := hrel
    rcases hcase with ⟨rfl, rfl⟩ | ⟨rfl, rfl⟩ | ⟨rfl, rfl⟩
    · go_wp2_with fail
      go_roundw
      case rel => exact ⟨Or.inr (Or.inl ⟨by go_num, by go_num⟩), trivial⟩
      case measure => simp [intOf]
    · go_wp2_with fail
      go_roundw
      case rel => exact ⟨Or.inr (Or.inr ⟨by go_num, by go_num⟩), trivial⟩
      case measure => simp [intOf]
    · clear hc0 hc1
      go_wp2_with fail
      refine (grow_nil (tn + sn) _ (by omega)).mono ?_
      rintro e w1 ⟨a1, c1, rfl, ho1, hb1⟩
      have O1 : Hid (w1.ownsRow w.heap.size 24 1 (.slice a1 0 c1) 0 (lcells [])) := ho1
      have B1 : Hid (Below w.heap.size w w1) := hb1
      clear ho1 hb1
      go_wp2_with fail
      go_loopw [6, 27] (fun v i wr => ∃ (m : Nat) (a' : Option Addr) (c' : Nat) (xs : List LV), ((i = .int .i64 0 ∧ m = 0 ∧ xs = []) ∨ (i = .int .i64 1 ∧ m = tn ∧ xs = rs) ∨ (i = .int .i64 2 ∧ m = tn + sn ∧ xs = rs ++ qs)) ∧ v = .slice a' m c' ∧ wr.ownsRow w.heap.size 24 1 (.slice a' m c') m (lcells xs) ∧ Below w.heap.size w wr) (fun _ i _ => 2 - (intOf i).toNat)
      case atStart => exact ⟨0, a1, c1, [], Or.inl ⟨rfl, rfl, rfl⟩, rfl, O1.out, B1.out⟩
      case round =>
        obtain ⟨m, a', c', xs, hcase, rfl, ho, hnx⟩ := hrel
        have HN : Hid (Below w.heap.size w wr) := hnx
        rcases hcase with ⟨rfl, hm, hx⟩ | ⟨rfl, hm, hx⟩ | ⟨rfl, hm, hx⟩
        · skip
          have HO : Hid (wr.ownsRow w.heap.size 24 1 (.slice a' (0) c') (0) (lcells ([]))) := by have := ho; rw [hm, hx] at this; exact this
          rw [hm]
          clear ho hm hx
          have p0 : wr.cell? ⟨pb, 0, none⟩ = some (.slice ta tn tc) := Frame.held_cell hnx HC.out.1
          have S2 : Hid (0 < tn → ∃ ad, ta = some ad ∧ ∀ j u, (lcells rs)[j]? = some u → wr.cell? (ad.add j) = some u) := news_ls (HT.out.below HN.out)
          clear hnx
          go_wp2_with (at_builtin; refine App.wpList_append_all _ rfl _ _ 31 rfl w.heap.size 24 i0 (.slice none 0 0) 1 24 Try.underlying31 hi hz0 hz1 hz2 rfl (by decide) _ _ _ rfl HO.out _ tn _ (lcells rs) rfl HRL.out S2.out (one_ls rs) (by unfold maxLen; omega) (by omega) HN.out.size ?_)
          intro a4 c4 w4 hown4 hgrow4
          have O4 : Hid (w4.ownsRow w.heap.size 24 1 (.slice a4 (tn) c4) (tn) (lcells (rs))) := by have := hown4; rw [show lcells [] = [] from rfl, List.nil_append] at this; exact this
          have N4 : Hid (Below w.heap.size w w4) := below_app HN.out HO.out hgrow4 HN.out.size (Nat.le_refl _)
          clear hown4 hgrow4
          go_wp2
          go_roundw
          case rel => exact ⟨_, a4, c4, _, Or.inr (Or.inl ⟨by go_num, rfl, rfl⟩), rfl, O4.out, N4.out⟩
          case measure => simp [intOf]
        · skip
          have HO : Hid (wr.ownsRow w.heap.size 24 1 (.slice a' (tn) c') (tn) (lcells (rs))) := by have := ho; rw [hm, hx] at this; exact this
          rw [hm]
          clear ho hm hx
          have p0 : wr.cell? ⟨pb, 1, none⟩ = some (.slice sa sn sc) := Frame.held_cell hnx HC.out.2
          have S2 : Hid (0 < sn → ∃ ad, sa = some ad ∧ ∀ j u, (lcells qs)[j]? = some u → wr.cell? (ad.add j) = some u) := news_ls (HS.out.below HN.out)
          clear hnx
          go_wp2_with (at_builtin; refine App.wpList_append_all _ rfl _ _ 31 rfl w.heap.size 24 i0 (.slice none 0 0) 1 24 Try.underlying31 hi hz0 hz1 hz2 rfl (by decide) _ _ _ rfl HO.out _ sn _ (lcells qs) rfl HQL.out S2.out (one_ls qs) (by unfold maxLen; omega) (by omega) HN.out.size ?_)
          intro a4 c4 w4 hown4 hgrow4
          have O4 : Hid (w4.ownsRow w.heap.size 24 1 (.slice a4 (tn + sn) c4) (tn + sn) (lcells (rs ++ qs))) := by have := hown4; unfold lcells at *; rw [List.map_append]; exact this
          have N4 : Hid (Below w.heap.size w w4) := below_app HN.out HO.out hgrow4 HN.out.size (Nat.le_refl _)
          clear hown4 hgrow4
          go_wp2
          go_roundw
          case rel => exact ⟨_, a4, c4, _, Or.inr (Or.inr ⟨by go_num, rfl, rfl⟩), rfl, O4.out, N4.out⟩
          case measure => simp [intOf]
        · skip
          have HO : Hid (wr.ownsRow w.heap.size 24 1 (.slice a' (tn + sn) c') (tn + sn) (lcells (rs ++ qs))) := by have := ho; rw [hm, hx] at this; exact this
          rw [hm]
          clear ho hm hx
          clear hnx
          go_wp2
          go_ret
          exact ⟨_, _, rfl, HO.out, HN.out⟩

theorem union_no {a b : Rl} (h : twoB a b = false) : unionV a b = ([], []) ∧ unionG a b = false := by
  unfold unionV unionG
  rw [h]
  exact ⟨rfl, rfl⟩
theorem union_yes {a b : Rl} (h : twoB a b = true) : unionV a b = tellV a.1 (a.2 ++ b.2) ∧ unionG a b = tellG a.1 (a.2 ++ b.2) := by
  unfold unionV unionG
  rw [h]
  exact ⟨rfl, rfl⟩
theorem far2 {w : World} {b b' o : Nat} {v v0 v1 : Value} (h : w.cell? ⟨b', o, none⟩ = some v) (hb : b ≠ b') : ((w.setCell ⟨b, 0, none⟩ v0).setCell ⟨b, 1, none⟩ v1).cell? ⟨b', o, none⟩ = some v := by
  rw [World.cell?_setCell_far _ _ _ _ hb, World.cell?_setCell_far _ _ _ _ hb]
  exact h


end Go.Proofs.Ythhldnlbneamiaa.Ok
