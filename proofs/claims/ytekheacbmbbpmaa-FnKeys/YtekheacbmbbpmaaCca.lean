/-
  slices.Concat of two lists of sentences; parts of such lists.
-/
import Derived.Test.YtekheacbmbbpmaaJn
import Derived.Test.YtekheacbmbbpmaaDlk
namespace Go.Proofs.Ytekheacbmbbpmaa.Cca
open Go.RowKit
open Go.Proofs.Ytekheacbmbbpmaa.Frame Go.Proofs.Ytekheacbmbbpmaa.Mem Go.Proofs.Ytekheacbmbbpmaa.Ints Go.Proofs.Ytekheacbmbbpmaa.Kep Go.Proofs.Ytekheacbmbbpmaa.Lls Go.Proofs.Ytekheacbmbbpmaa.Mis Go.Proofs.Ytekheacbmbbpmaa.Dls Go.Proofs.Ytekheacbmbbpmaa.Dlk

theorem news_g {w : World} {a : Option Addr} {n c : Nat} {rs : List LV} (h : IsG w a n c rs) : 0 < n → ∃ ad, a = some ad ∧ ∀ j u, (lcells rs)[j]? = some u → w.cell? (ad.add j) = some u := fun h0 => by
  obtain ⟨b, off, ha, _, hc⟩ := h.cells h0
  refine ⟨_, ha, fun j u hu => ?_⟩
  have hl := h.len
  have hj : j < rs.length := by
    by_cases hx : j < rs.length
    · exact hx
    · rw [List.getElem?_eq_none (by rw [lcells_length]; omega)] at hu; cases hu
  rw [lcells_get rs j hj] at hu
  have hk := hc (j / 2) (by omega)
  rw [add_at]
  rcases (show j = j / 2 * 2 ∨ j = j / 2 * 2 + 1 by omega) with e | e
  · rw [e] at hu ⊢
    rw [hk.1]
    exact hu
  · rw [e] at hu ⊢
    rw [show off + (j / 2 * 2 + 1) = off + j / 2 * 2 + 1 by omega, hk.2]
    exact hu
theorem isG_pre {w : World} {a : Option Addr} {n c k : Nat} {rs : List LV} (h : IsG w a n c rs) (hk : k ≤ n) : IsG w a k c (rs.take (k * 2)) := by
  have hl := h.len
  refine ⟨by rw [List.length_take]; omega, Nat.le_trans hk h.fits, h.max, fun r hr => h.rows r (List.mem_of_mem_take hr), fun h0 => ?_⟩
  obtain ⟨b, off, ha, hb, hc⟩ := h.cells (by omega)
  refine ⟨b, off, ha, hb, fun i hi => ?_⟩
  have e0 : (rs.take (k * 2)).getD (i * 2) ld = rs.getD (i * 2) ld := by simp [List.getD, show i * 2 < k * 2 by omega]
  have e1 : (rs.take (k * 2)).getD (i * 2 + 1) ld = rs.getD (i * 2 + 1) ld := by simp [List.getD, show i * 2 + 1 < k * 2 by omega]
  rw [e0, e1]
  exact hc i (by omega)
theorem isG_suf {w : World} {b off n c k : Nat} {rs : List LV} (h : IsG w (some ⟨b, off, none⟩) n c rs) (hk : k ≤ n) : IsG w (some ⟨b, off + k * 2, none⟩) (n - k) (c - k) (rs.drop (k * 2)) := by
  have := h.fits
  have := h.max
  have hl := h.len
  refine ⟨by rw [List.length_drop]; omega, by omega, by omega, fun r hr => h.rows r (List.mem_of_mem_drop hr), fun h0 => ?_⟩
  obtain ⟨b', off', ha, hb, hc⟩ := h.cells (by omega)
  cases ha
  refine ⟨b, off + k * 2, rfl, hb, fun i hi => ?_⟩
  have e0 : (rs.drop (k * 2)).getD (i * 2) ld = rs.getD ((k + i) * 2) ld := by simp [List.getD, List.getElem?_drop, Nat.add_mul]
  have e1 : (rs.drop (k * 2)).getD (i * 2 + 1) ld = rs.getD ((k + i) * 2 + 1) ld := by simp [List.getD, List.getElem?_drop, Nat.add_mul, Nat.add_assoc]
  rw [e0, e1, show off + k * 2 + i * 2 = off + (k + i) * 2 by omega]
  exact hc (k + i) (by omega)
theorem dpl_take {rs : List LV} {n k : Nat} (hl : rs.length = n * 2) (hk : k ≤ n) : dpl (rs.take (k * 2)) = (dpl rs).take k := by
  have e := dpl_append k (rs.take (k * 2)) (rs.drop (k * 2)) (by rw [List.length_take]; omega)
  rw [List.take_append_drop] at e
  rw [e, List.take_left' (dpl_length k _ (by rw [List.length_take]; omega))]
theorem dpl_drop {rs : List LV} {n k : Nat} (hl : rs.length = n * 2) (hk : k ≤ n) : dpl (rs.drop (k * 2)) = (dpl rs).drop k := by
  have e := dpl_append k (rs.take (k * 2)) (rs.drop (k * 2)) (by rw [List.length_take]; omega)
  rw [List.take_append_drop] at e
  rw [e, List.drop_left' (dpl_length k _ (by rw [List.length_take]; omega))]

set_option maxRecDepth 1000000 in
set_option maxHeartbeats 1600000 in
theorem grow_nil (n : Nat) (w : World) (hn : n ≤ 100000) :
    Calls Try.prog 50 #[.slice none 0 0, .int .i64 n] w fun e w' => ∃ a' c', e = .returned (.slice a' 0 c') ∧ w'.ownsRow w.heap.size 36 2 (.slice a' 0 c') 0 [] ∧ Below w.heap.size w w' := by
  obtain ⟨i0, hi, hz0, hz1, hz2⟩ := info_parts infoD
  by_cases h0 : n = 0
  · subst h0
    go_enter Try.func50, Try.ntmps50
    go_wp2
    go_ret
    exact ⟨none, 0, rfl, World.ownsRow_nil _ _ _ _, Below.refl _ _⟩
  · have hold : (Builtin.firstCells i0.size 0 (.slice none 0 0)).run Try.prog w.drew = .ok ([] : List Value).toArray w.drew := by simp [Builtin.firstCells]
    have hrz : ∀ ty, (Builtin.append_ #[23, 3] ty #[.slice none 0 0, .int .i64 n]).run Try.prog w = .ok (.slice (some ⟨w.heap.size, 0, none⟩) n (grownCap w n 0 36)) (w.drew.alloc (.cells (([] : List Value).toArray ++ Builtin.zeroCells (Value.agg #[.slice none 0 0, .slice none 0 0]).cells n ++ Builtin.zeroCells (Value.agg #[.slice none 0 0, .slice none 0 0]).cells (grownCap w n 0 36 - n)) 36)) := fun ty => by
      have h := Lib.run_append_grow_zeros w 23 3 ty 36 i0 (.agg #[.slice none 0 0, .slice none 0 0]) .i64 .i64 Try.underlying23 Try.underlying3 hi hz0 none 0 0 [] hold n (by omega) (by omega) (by omega) (by omega) (by rw [hz2]; omega) (by rw [hz2]; exact growslice_fits (by omega) (by omega))
      rw [Nat.zero_add] at h
      exact h
    have hGn : n ≤ grownCap w n 0 36 := grownCap_ge w _ _ _
    have hGm : grownCap w n 0 36 ≤ maxLen := grownCap_le_maxLen w _ _ _ (by unfold maxLen; omega)
    generalize grownCap w n 0 36 = G at hrz hGn hGm
    have hOW : Hid ((w.drew.alloc (.cells (([] : List Value).toArray ++ Builtin.zeroCells (Value.agg #[.slice none 0 0, .slice none 0 0]).cells n ++ Builtin.zeroCells (Value.agg #[.slice none 0 0, .slice none 0 0]).cells (G - n)) 36)).ownsRow w.heap.size 36 2 (.slice (some ⟨w.heap.size, 0, none⟩) 0 G) 0 []) :=
      ⟨rfl, .inr ⟨w.heap.size, G, _, rfl, Nat.le_refl _, heap_alloc_new w.drew _, Nat.zero_le _, hGm, by simp [Builtin.zeroCells, Value.cells]; omega, by simp⟩⟩
    have hBW : Hid (Below w.heap.size w (w.drew.alloc (.cells (([] : List Value).toArray ++ Builtin.zeroCells (Value.agg #[.slice none 0 0, .slice none 0 0]).cells n ++ Builtin.zeroCells (Value.agg #[.slice none 0 0, .slice none 0 0]).cells (G - n)) 36))) := ((Below.refl _ _).drew).alloc (Nat.le_refl _) _
    generalize w.drew.alloc (.cells (([] : List Value).toArray ++ Builtin.zeroCells (Value.agg #[.slice none 0 0, .slice none 0 0]).cells n ++ Builtin.zeroCells (Value.agg #[.slice none 0 0, .slice none 0 0]).cells (G - n)) 36) = w9 at hrz hOW hBW
    have h1 : ¬ ((n : Int) < 0) := by omega
    have h4 : (n : Int) > 0 := by omega
    have hG63 : G ≤ 9223372036854775807 := by unfold maxLen at hGm; omega
    clear hold
    go_enter Try.func50, Try.ntmps50
    go_wp2_with (at_builtin; refine Lib.wpList_append_run _ rfl _ _ _ _ rfl _ _ rfl rfl _ _ (hrz _) ?_)
    go_ret
    exact ⟨_, _, rfl, hOW.out, hBW.out⟩

set_option maxRecDepth 100000 in
set_option maxHeartbeats 1600000 in
theorem concat_dep (pb : Nat) (ta sa : Option Addr) (tn tc sn sc : Nat) (rs qs : List LV) (w : World) (hc0 : w.cell? ⟨pb, 0, none⟩ = some (.slice ta tn tc)) (hc1 : w.cell? ⟨pb, 1, none⟩ = some (.slice sa sn sc)) (ht : IsG w ta tn tc rs) (hs : IsG w sa sn sc qs) (htn : tn ≤ 1000) (hsn : sn ≤ 1000) :
    Calls Try.prog 29 #[.slice (some ⟨pb, 0, none⟩) 2 2] w fun e w' => ∃ a' c', e = .returned (.slice a' (tn + sn) c') ∧ w'.ownsRow w.heap.size 36 2 (.slice a' (tn + sn) c') (tn + sn) (lcells (rs ++ qs)) ∧ Below w.heap.size w w' := by
  obtain ⟨i0, hi, hz0, hz1, hz2⟩ := info_parts infoD
  have HT : Hid (IsG w ta tn tc rs) := ht
  have HS : Hid (IsG w sa sn sc qs) := hs
  have HRL : Hid ((lcells rs).length = tn * 2) := by show _ = _; rw [lcells_length, ht.len]
  have HQL : Hid ((lcells qs).length = sn * 2) := by show _ = _; rw [lcells_length, hs.len]
  have HC : Hid (w.cell? ⟨pb, 0, none⟩ = some (.slice ta tn tc) ∧ w.cell? ⟨pb, 1, none⟩ = some (.slice sa sn sc)) := ⟨hc0, hc1⟩
  clear ht hs
  go_enter Try.func29, Try.ntmps29
  go_wp2_with fail
  go_loopw [3, 11] (fun s i wr => ((i = .int .i64 0 ∧ s = .int .i64 0) ∨ (i = .int .i64 1 ∧ s = .int .i64 tn) ∨ (i = .int .i64 2 ∧ s = .int .i64 ((tn + sn : Nat) : Int))) ∧ w = wr) (fun _ i _ => 2 - (intOf i).toNat)
  case atStart => exact ⟨Or.inl ⟨rfl, rfl⟩, rfl⟩
  case round =>
    obtain ⟨hcase, rfl⟩ := hrel
    rcases hcase with ⟨rfl, rfl⟩ | ⟨rfl, rfl⟩ | ⟨rfl, rfl⟩
    · go_wp2_with fail
      go_roundw
      case rel => exact ⟨Or.inr (Or.inl ⟨by go_num, by go_num⟩), trivial⟩
      case measure => simp [intOf]
    · go_wp2_with fail
      go_roundw
      case rel => exact ⟨Or.inr (Or.inr ⟨by go_num, by go_num⟩), trivial⟩
      case measure => simp [intOf]
    · clear hc0 hc1
      go_wp2_with fail
      refine (grow_nil (tn + sn) _ (by omega)).mono ?_
      rintro e w1 ⟨a1, c1, rfl, ho1, hb1⟩
      have O1 : Hid (w1.ownsRow w.heap.size 36 2 (.slice a1 0 c1) 0 ((lcells []))) := ho1
      have B1 : Hid (Below w.heap.size w w1) := hb1
      clear ho1 hb1
      go_wp2_with fail
      go_loopw [6, 27] (fun v i wr => ∃ (m : Nat) (a' : Option Addr) (c' : Nat) (xs : List LV), ((i = .int .i64 0 ∧ m = 0 ∧ xs = []) ∨ (i = .int .i64 1 ∧ m = tn ∧ xs = rs) ∨ (i = .int .i64 2 ∧ m = tn + sn ∧ xs = rs ++ qs)) ∧ v = .slice a' m c' ∧ wr.ownsRow w.heap.size 36 2 (.slice a' m c') m (lcells xs) ∧ Below w.heap.size w wr) (fun _ i _ => 2 - (intOf i).toNat)
      case atStart => exact ⟨0, a1, c1, [], Or.inl ⟨rfl, rfl, rfl⟩, rfl, O1.out, B1.out⟩
      case round =>
        obtain ⟨m, a', c', xs, hcase, rfl, ho, hnx⟩ := hrel
        have HN : Hid (Below w.heap.size w wr) := hnx
        rcases hcase with ⟨rfl, hm, hx⟩ | ⟨rfl, hm, hx⟩ | ⟨rfl, hm, hx⟩
        · skip
          have HO : Hid (wr.ownsRow w.heap.size 36 2 (.slice a' (0) c') (0) (lcells ([]))) := by have := ho; rw [hm, hx] at this; exact this
          rw [hm]
          clear ho hm hx
          have p0 : wr.cell? ⟨pb, 0, none⟩ = some (.slice ta tn tc) := Frame.held_cell hnx HC.out.1
          have S2 : Hid (0 < tn → ∃ ad, ta = some ad ∧ ∀ j u, (lcells rs)[j]? = some u → wr.cell? (ad.add j) = some u) := news_g (HT.out.below HN.out)
          clear hnx
          go_wp2_with (at_builtin; refine App.wpList_append_all _ rfl _ _ 23 rfl w.heap.size 36 i0 (.agg #[.slice none 0 0, .slice none 0 0]) 2 48 Try.underlying23 hi hz0 hz1 hz2 rfl (by decide) _ _ _ rfl HO.out _ tn _ (lcells rs) rfl HRL.out S2.out (one_ls rs) (by unfold maxLen; omega) (by omega) HN.out.size ?_)
          intro a4 c4 w4 hown4 hgrow4
          have O4 : Hid (w4.ownsRow w.heap.size 36 2 (.slice a4 (tn) c4) (tn) (lcells (rs))) := by have := hown4; rw [show lcells [] = [] from rfl, List.nil_append] at this; exact this
          have N4 : Hid (Below w.heap.size w w4) := below_app HN.out HO.out hgrow4 HN.out.size (Nat.le_refl _)
          clear hown4 hgrow4
          go_wp2
          go_roundw
          case rel => exact ⟨_, a4, c4, _, Or.inr (Or.inl ⟨by go_num, rfl, rfl⟩), rfl, O4.out, N4.out⟩
          case measure => simp [intOf]
        · skip
          have HO : Hid (wr.ownsRow w.heap.size 36 2 (.slice a' (tn) c') (tn) (lcells (rs))) := by have := ho; rw [hm, hx] at this; exact this
          rw [hm]
          clear ho hm hx
          have p0 : wr.cell? ⟨pb, 1, none⟩ = some (.slice sa sn sc) := Frame.held_cell hnx HC.out.2
          have S2 : Hid (0 < sn → ∃ ad, sa = some ad ∧ ∀ j u, (lcells qs)[j]? = some u → wr.cell? (ad.add j) = some u) := news_g (HS.out.below HN.out)
          clear hnx
          go_wp2_with (at_builtin; refine App.wpList_append_all _ rfl _ _ 23 rfl w.heap.size 36 i0 (.agg #[.slice none 0 0, .slice none 0 0]) 2 48 Try.underlying23 hi hz0 hz1 hz2 rfl (by decide) _ _ _ rfl HO.out _ sn _ (lcells qs) rfl HQL.out S2.out (one_ls qs) (by unfold maxLen; omega) (by omega) HN.out.size ?_)
          intro a4 c4 w4 hown4 hgrow4
          have O4 : Hid (w4.ownsRow w.heap.size 36 2 (.slice a4 (tn + sn) c4) (tn + sn) (lcells (rs ++ qs))) := by have := hown4; unfold lcells at *; rw [List.map_append]; exact this
          have N4 : Hid (Below w.heap.size w w4) := below_app HN.out HO.out hgrow4 HN.out.size (Nat.le_refl _)
          clear hown4 hgrow4
          go_wp2
          go_roundw
          case rel => exact ⟨_, a4, c4, _, Or.inr (Or.inr ⟨by go_num, rfl, rfl⟩), rfl, O4.out, N4.out⟩
          case measure => simp [intOf]
        · skip
          have HO : Hid (wr.ownsRow w.heap.size 36 2 (.slice a' (tn + sn) c') (tn + sn) (lcells (rs ++ qs))) := by have := ho; rw [hm, hx] at this; exact this
          rw [hm]
          clear ho hm hx
          clear hnx
          go_wp2
          go_ret
          exact ⟨_, _, rfl, HO.out, HN.out⟩


end Go.Proofs.Ytekheacbmbbpmaa.Cca
