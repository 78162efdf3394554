/-
  What chapter 2's drawn tables may be.
-/
import Derived.Test.YtciaegdgoabipaaDr2
namespace Go.Proofs.Ytciaegdgoabipaa.Dr2b
open Go.RowKit
open Go.Proofs.Ytciaegdgoabipaa.Frame Go.Proofs.Ytciaegdgoabipaa.Mem Go.Proofs.Ytciaegdgoabipaa.Vals Go.Proofs.Ytciaegdgoabipaa.Rws Go.Proofs.Ytciaegdgoabipaa.Itb Go.Proofs.Ytciaegdgoabipaa.Kep Go.Proofs.Ytciaegdgoabipaa.Knr Go.Proofs.Ytciaegdgoabipaa.Cur Go.Proofs.Ytciaegdgoabipaa.Draw1 Go.Proofs.Ytciaegdgoabipaa.Draw1b Go.Proofs.Ytciaegdgoabipaa.Dr2

theorem rOwn_wide {w : World} {lo hi lo' hi' : Nat} {v : Value} {xs : List (Int × List (Bool × Int))} (h : ROwn w lo hi v xs) (h1 : lo' ≤ lo) (h2 : hi ≤ hi') : ROwn w lo' hi' v xs := by
  obtain ⟨a, n, cap, rs, rfl, ho, e, ht, hb, hr⟩ := h
  exact ⟨a, n, cap, rs, rfl, Tel.OwnRows.mono ho h1, e, ht, fun x hx => by have := hb x hx; omega, fun r h x hx => by have := hr r h x hx; omega⟩
theorem rOwn_nil (w : World) (lo hi : Nat) : ROwn w lo hi (.slice none 0 0) [] := ⟨none, 0, 0, [], rfl, Own.ownRows_nil _ _, rfl, (by decide), (fun x hx => by cases hx), (fun r hr => by cases hr)⟩
theorem rOwn_moved {w w' : World} {lo hi b : Nat} {t : Int} {v : Value} {xs : List (Int × List (Bool × Int))} (h : ROwn w lo hi v xs) (m : Moved b t w w') (hb : b < lo) : ROwn w' lo hi v xs := rOwn_keeps h (Moved.keeps m) (Or.inr (by omega))
theorem moved_wide {b : Nat} {t t' : Int} {w w1 w2 : World} (m : Moved b t w w1) (k : Moved b t' w1 w2) (ht : t' ≤ t + 26) : Moved b (t + 26) w w2 := Moved.mono (m.next k) ht

theorem rOwn_setKey {w : World} {lo hi g m cap : Nat} {xs : List (Int × List (Bool × Int))} {k : Int} (h : ROwn w lo hi (.slice (some ⟨g, 0, none⟩) (m + 1) cap) xs) (hk : (Lit.int .i64 k).wf = true) :
    ∃ ys, ROwn (w.setCell ⟨g, m * 2, none⟩ (.int .i64 k)) lo hi (.slice (some ⟨g, 0, none⟩) (m + 1) cap) ys := by
  obtain ⟨a, n, cap', rs, e, ho, rfl, ht, hb, hr⟩ := h
  simp only [Value.slice.injEq] at e
  obtain ⟨rfl, rfl, rfl⟩ := e
  have hl := ho.len
  have e : rs = rs.take m ++ rs.getD m rd :: rs.drop (m + 1) := by rw [← drop_succ_rd (by omega), List.take_append_drop]
  have e2 : (rs.take m).length = m := by rw [List.length_take]; omega
  rw [e] at ho
  have hs := OwnRows.setKey (k := k) ho hk
  rw [e2] at hs
  refine ⟨_, _, _, _, _, rfl, hs, rfl, ?_, hb, fun r hr' x hx => ?_⟩
  · have h1 : total (rs.take m ++ ⟨k, (rs.getD m rd).a, (rs.getD m rd).n, (rs.getD m rd).c, (rs.getD m rd).vs⟩ :: rs.drop (m + 1)) = total rs := by
      have h2 : total rs = total (rs.take m ++ rs.getD m rd :: rs.drop (m + 1)) := by rw [← e]
      rw [h2]
      simp [total, sumN]
    rw [h1]; exact ht
  · rcases swap_mem (q := rs.getD m rd) hr' with rfl | h1
    · exact hr _ (getD_mem_rd (by omega)) x hx
    · rw [← e] at h1
      exact hr r h1 x hx

/-- A table that was drawn. -/
def TabD (b : Nat) (t : Int) (w : World) (e : Ending) (w' : World) : Prop := ∃ (v : Value) (xs : List (Int × List (Bool × Int))), e = .returned v ∧ ROwn w' w.heap.size w'.heap.size v xs ∧ Moved b (t + 600) w w'

set_option maxRecDepth 100000 in
set_option maxHeartbeats 4000000 in
theorem table (b : Nat) (t : Int) (w : World) (h : Is b t w) (ht : t ≤ 600000) :
    Calls Try.prog 42 #[.pointer (some ⟨b, 0, none⟩)] w (TabD b t w) := by
  have hbl := h.lt
  have H : Hid (Is b t w) := h
  clear h
  go_enter Try.func42, Try.ntmps42
  go_wp2_with fail
  refine (Cur.pick b t 7 _ H.out (by omega) (by omega) (by omega)).mono ?_
  rintro e w1 ⟨n0, rfl, hn0, hn1, hl1⟩
  have M1 : Hid (Moved b (t + 2) w w1) := hl1
  obtain ⟨N, rfl⟩ : ∃ N : Nat, n0 = (N : Int) := ⟨n0.toNat, by omega⟩
  clear hl1
  go_wp2_with fail
  refine (Cur.one b _ 20 _ M1.out.1 (by omega) (by omega) (by omega)).mono ?_
  rintro e w2 ⟨o2, rfl, hl2⟩
  have M2 : Hid (Moved b (t + 4) w w2) := Moved.mono (M1.out.next hl2) (by omega)
  clear hl2
  cases o2
  · have hN20 : ((N : Int) == 20) = false := by simp; omega
    go_wp2_with fail
    go_loopw [3, 5] (fun o i wr => ∃ (k : Nat) (xs : List (Int × List (Bool × Int))), k ≤ N ∧ i = .int .i64 k ∧ ROwn wr w.heap.size wr.heap.size o xs ∧ Moved b (t + 4 + 26 * k) w wr) (fun _ i _ => N - (intOf i).toNat)
    case atStart => exact ⟨0, [], Nat.zero_le _, rfl, rOwn_nil _ _ _, Moved.mono M2.out (by omega)⟩
    case round =>
      obtain ⟨k, xs, hk, rfl, ho, hm⟩ := hrel
      have HO : Hid (ROwn wr w.heap.size wr.heap.size u3 xs) := ho
      have HM : Hid (Moved b (t + 4 + 26 * k) w wr) := hm
      have hsr := hm.2.size
      clear ho hm
      by_cases hlt : k < N
      · have hkI : (k : Int) < (N : Int) := by omega
        go_wp2_with fail
        refine (row b _ _ HM.out.1 (by omega)).mono ?_
        rintro e w3 ⟨key, ra, rn, rc, vs, rfl, hkw, hrd, hl3⟩
        have HM3 : Hid (Moved b (t + 4 + 26 * k + 26) w w3) := HM.out.next hl3
        have HO3 : Hid (ROwn w3 w.heap.size wr.heap.size u3 xs) := rOwn_moved HO.out hl3 hbl
        have hs3 := hl3.2.size
        have B3 : Hid (Below w3.heap.size w3 (w3.alloc (.cells #[.int .i64 key, .slice ra rn rc] 26))) := below_alloc _ _
        have HW3 : Hid (WIs (w3.alloc (.cells #[.int .i64 key, .slice ra rn rc] 26)) ra rn rc (key, vs)) := ⟨hrd.1.below B3.out, by have := hrd.2.1; omega⟩
        have HR3 : Hid (RIs (w3.alloc (.cells #[.int .i64 key, .slice ra rn rc] 26)) u3 xs) := rOwn_is (rOwn_below HO3.out B3.out)
        have HKW : Hid ((Lit.int .i64 key).wf = true) := hkw
        clear hrd hl3 hkw
        go_wp2_with fail
        refine (Tfn.spec_PutRow u3 xs (key, vs) ra rn rc _ HR3.out HKW.out HW3.out).mono ?_
        rintro e w4 ⟨u, rfl, ho4, hb4⟩
        have hs4 : w3.heap.size ≤ w4.heap.size := by have := hb4.size; simp at this; omega
        have B4 : Hid (Below w3.heap.size w3 w4) := Frame.next B3.out hb4 (by simp)
        have HM4 : Hid (Moved b (t + 4 + 26 * k + 26) w w4) := Moved.below HM3.out B4.out (by omega)
        have HU : Hid (ROwn w4 w.heap.size w4.heap.size u (Tfn.pPutV (key, vs) xs)) := rOwn_wide ho4 (by simp; omega) (Nat.le_refl _)
        have HO4 : Hid (ROwn w4 w.heap.size w4.heap.size u3 xs) := rOwn_wide (rOwn_below HO3.out B4.out) (Nat.le_refl _) (by omega)
        have e26 : t + 4 + 26 * ((k + 1 : Nat) : Int) = t + 4 + 26 * (k : Int) + 26 := by omega
        have E26 : Hid _ := e26
        clear ho4 hb4 e26
        cases hq : Tfn.pPutB (key, vs) xs
        · clear hq
          go_wp2
          go_roundw
          case rel => exact ⟨k + 1, xs, by omega, by go_num, HO4.out, by rw [E26.out]; exact HM4.out⟩
          case measure => simp [intOf]; omega
        · clear hq
          go_wp2
          go_roundw
          case rel => exact ⟨k + 1, _, by omega, by go_num, HU.out, by rw [E26.out]; exact HM4.out⟩
          case measure => simp [intOf]; omega
      · have hkI : ¬ (k : Int) < (N : Int) := by omega
        have HM6 : Hid (Moved b (t + 590) w wr) := Moved.mono HM.out (by omega)
        obtain ⟨a, m, cap, rs, rfl, hown, hp, htot, hb0, hr0⟩ := HO.out
        have hlen := hown.len
        cases m with
        | zero =>
          go_wp2
          go_ret
          exact ⟨_, xs, rfl, HO.out, Moved.mono HM6.out (by omega)⟩
        | succ m =>
          obtain ⟨g, rfl⟩ : ∃ g, a = some ⟨g, 0, none⟩ := by
            rcases hown.outer.2 with ⟨h2, h3⟩ | ⟨g, cap', cur, hv, _⟩
            · omega
            · simp only [Value.slice.injEq] at hv
              exact ⟨g, hv.1⟩
          have hgb : w.heap.size ≤ g ∧ g < wr.heap.size := hb0 _ rfl
          have hm20 : m + 1 ≤ 1048576 := by rw [← hlen]; exact (small_rows htot).1
          have hpos : (0 : Int) < ((m + 1 : Nat) : Int) := by omega
          clear hown hp htot hb0 hr0 hlen
          go_wp2_with fail
          refine (Cur.one b _ 30 _ HM6.out.1 (by omega) (by omega) (by omega)).mono ?_
          rintro e w3 ⟨o3, rfl, hl3⟩
          have HM3 : Hid (Moved b (t + 592) w w3) := Moved.mono (HM6.out.next hl3) (by omega)
          have HO3 : Hid (ROwn w3 w.heap.size w3.heap.size (.slice (some ⟨g, 0, none⟩) (m + 1) cap) xs) := rOwn_wide (rOwn_moved HO.out hl3 hbl) (Nat.le_refl _) hl3.2.size
          have hs3 := hl3.2.size
          clear hl3
          cases o3
          · go_wp2
            go_ret
            exact ⟨_, xs, rfl, HO3.out, Moved.mono HM3.out (by omega)⟩
          · have HR : Hid (IsRow .i64 (w3.alloc (.cells #[.int .i64 0, .int .i64 999, .int .i64 1000] 3)) (some ⟨w3.heap.size, 0, none⟩) 3 3 [0, 999, 1000]) := isRow_lit w3 3 [0, 999, 1000] (by decide) (lit_wf (by decide))
            have hb3 : b < w3.heap.size := HM3.out.1.lt
            go_wp2_with fail
            refine (Cur.among b _ _ 3 3 [0, 999, 1000] _ (Is.below HM3.out.1 (below_alloc _ _)) HR.out (fun x hx => by cases hx; show w3.heap.size ≠ b; omega) (by omega) (by omega) (by omega)).mono ?_
            rintro e w4 ⟨y, rfl, hy, hl4⟩
            have HY : Hid ((Lit.int .i64 y).wf = true) := lit_wf (zs := [0, 999, 1000]) (by decide) y hy
            have HM4 : Hid (Moved b (t + 594) w w4) := Moved.mono (HM3.out.next (Moved.from (below_alloc _ _) hl4)) (by omega)
            have hs4 : w3.heap.size ≤ w4.heap.size := by have := hl4.2.size; simp at this; omega
            have HO4 : Hid (ROwn w4 w.heap.size w4.heap.size (.slice (some ⟨g, 0, none⟩) (m + 1) cap) xs) := rOwn_wide (rOwn_moved (rOwn_below HO3.out (below_alloc _ _)) hl4 hbl) (Nat.le_refl _) hs4
            obtain ⟨ys, hys⟩ := rOwn_setKey HO4.out HY.out
            have HYS : Hid (ROwn (w4.setCell ⟨g, m * 2, none⟩ (.int .i64 y)) w.heap.size w4.heap.size (.slice (some ⟨g, 0, none⟩) (m + 1) cap) ys) := hys
            obtain ⟨a5, m5, cap5, rs5, e5, hown5, _, _, _, _⟩ := HO4.out
            simp only [Value.slice.injEq] at e5
            obtain ⟨rfl, rfl, rfl⟩ := e5
            have hl5 : (rcells rs5).length = (m + 1) * 2 := by simpa using hown5.outer.1
            have f0 := hown5.outer.frozenAt (m * 2)
            obtain ⟨o0, ho0⟩ : ∃ o, w4.cell? ⟨g, m * 2, none⟩ = some o := by rw [hown5.outer.cellAt _ (by omega)]; exact ⟨_, List.getElem?_eq_getElem (by omega)⟩
            have em : ((m + 1 : Nat) : Int) - 1 = (m : Int) := by omega
            have hmI : (m : Int) < ((m + 1 : Nat) : Int) := by omega
            have hmJ : (0 : Int) ≤ (m : Int) := by omega
            clear hys hown5 hl5 hy hl4
            go_wp2
            go_ret
            exact ⟨_, ys, rfl, by simpa [World.setCell] using HYS.out, Moved.setNew (Moved.mono HM4.out (by omega)) hbl hgb.1 _⟩
  · go_wp2_with fail
    go_loopw [3, 5] (fun o i wr => ∃ (k : Nat) (xs : List (Int × List (Bool × Int))), k ≤ 20 ∧ i = .int .i64 k ∧ ROwn wr w.heap.size wr.heap.size o xs ∧ Moved b (t + 4 + 26 * k) w wr) (fun _ i _ => 20 - (intOf i).toNat)
    case atStart => exact ⟨0, [], Nat.zero_le _, rfl, rOwn_nil _ _ _, Moved.mono M2.out (by omega)⟩
    case round =>
      obtain ⟨k, xs, hk, rfl, ho, hm⟩ := hrel
      have HO : Hid (ROwn wr w.heap.size wr.heap.size u3 xs) := ho
      have HM : Hid (Moved b (t + 4 + 26 * k) w wr) := hm
      have hsr := hm.2.size
      clear ho hm
      by_cases hlt : k < 20
      · have hkI : (k : Int) < 20 := by omega
        go_wp2_with fail
        refine (row b _ _ HM.out.1 (by omega)).mono ?_
        rintro e w3 ⟨key, ra, rn, rc, vs, rfl, hkw, hrd, hl3⟩
        have HM3 : Hid (Moved b (t + 4 + 26 * k + 26) w w3) := HM.out.next hl3
        have HO3 : Hid (ROwn w3 w.heap.size wr.heap.size u3 xs) := rOwn_moved HO.out hl3 hbl
        have hs3 := hl3.2.size
        have B3 : Hid (Below w3.heap.size w3 (w3.alloc (.cells #[.int .i64 (k : Int), .slice ra rn rc] 26))) := below_alloc _ _
        have HW3 : Hid (WIs (w3.alloc (.cells #[.int .i64 (k : Int), .slice ra rn rc] 26)) ra rn rc ((k : Int), vs)) := ⟨hrd.1.below B3.out, by have := hrd.2.1; omega⟩
        have HR3 : Hid (RIs (w3.alloc (.cells #[.int .i64 (k : Int), .slice ra rn rc] 26)) u3 xs) := rOwn_is (rOwn_below HO3.out B3.out)
        have HKW : Hid ((Lit.int .i64 (k : Int)).wf = true) := int_wf _ (by omega) (by omega)
        clear hrd hl3 hkw
        go_wp2_with fail
        refine (Tfn.spec_PutRow u3 xs ((k : Int), vs) ra rn rc _ HR3.out HKW.out HW3.out).mono ?_
        rintro e w4 ⟨u, rfl, ho4, hb4⟩
        have hs4 : w3.heap.size ≤ w4.heap.size := by have := hb4.size; simp at this; omega
        have B4 : Hid (Below w3.heap.size w3 w4) := Frame.next B3.out hb4 (by simp)
        have HM4 : Hid (Moved b (t + 4 + 26 * k + 26) w w4) := Moved.below HM3.out B4.out (by omega)
        have HU : Hid (ROwn w4 w.heap.size w4.heap.size u (Tfn.pPutV ((k : Int), vs) xs)) := rOwn_wide ho4 (by simp; omega) (Nat.le_refl _)
        have HO4 : Hid (ROwn w4 w.heap.size w4.heap.size u3 xs) := rOwn_wide (rOwn_below HO3.out B4.out) (Nat.le_refl _) (by omega)
        have e26 : t + 4 + 26 * ((k + 1 : Nat) : Int) = t + 4 + 26 * (k : Int) + 26 := by omega
        have E26 : Hid _ := e26
        clear ho4 hb4 e26
        cases hq : Tfn.pPutB ((k : Int), vs) xs
        · clear hq
          go_wp2
          go_roundw
          case rel => exact ⟨k + 1, xs, by omega, by go_num, HO4.out, by rw [E26.out]; exact HM4.out⟩
          case measure => simp [intOf]; omega
        · clear hq
          go_wp2
          go_roundw
          case rel => exact ⟨k + 1, _, by omega, by go_num, HU.out, by rw [E26.out]; exact HM4.out⟩
          case measure => simp [intOf]; omega
      · have hkI : ¬ (k : Int) < 20 := by omega
        have HM6 : Hid (Moved b (t + 590) w wr) := Moved.mono HM.out (by omega)
        obtain ⟨a, m, cap, rs, rfl, hown, hp, htot, hb0, hr0⟩ := HO.out
        have hlen := hown.len
        cases m with
        | zero =>
          go_wp2
          go_ret
          exact ⟨_, xs, rfl, HO.out, Moved.mono HM6.out (by omega)⟩
        | succ m =>
          obtain ⟨g, rfl⟩ : ∃ g, a = some ⟨g, 0, none⟩ := by
            rcases hown.outer.2 with ⟨h2, h3⟩ | ⟨g, cap', cur, hv, _⟩
            · omega
            · simp only [Value.slice.injEq] at hv
              exact ⟨g, hv.1⟩
          have hgb : w.heap.size ≤ g ∧ g < wr.heap.size := hb0 _ rfl
          have hm20 : m + 1 ≤ 1048576 := by rw [← hlen]; exact (small_rows htot).1
          have hpos : (0 : Int) < ((m + 1 : Nat) : Int) := by omega
          clear hown hp htot hb0 hr0 hlen
          go_wp2_with fail
          refine (Cur.one b _ 30 _ HM6.out.1 (by omega) (by omega) (by omega)).mono ?_
          rintro e w3 ⟨o3, rfl, hl3⟩
          have HM3 : Hid (Moved b (t + 592) w w3) := Moved.mono (HM6.out.next hl3) (by omega)
          have HO3 : Hid (ROwn w3 w.heap.size w3.heap.size (.slice (some ⟨g, 0, none⟩) (m + 1) cap) xs) := rOwn_wide (rOwn_moved HO.out hl3 hbl) (Nat.le_refl _) hl3.2.size
          have hs3 := hl3.2.size
          clear hl3
          cases o3
          · go_wp2
            go_ret
            exact ⟨_, xs, rfl, HO3.out, Moved.mono HM3.out (by omega)⟩
          · have HR : Hid (IsRow .i64 (w3.alloc (.cells #[.int .i64 0, .int .i64 999, .int .i64 1000] 3)) (some ⟨w3.heap.size, 0, none⟩) 3 3 [0, 999, 1000]) := isRow_lit w3 3 [0, 999, 1000] (by decide) (lit_wf (by decide))
            have hb3 : b < w3.heap.size := HM3.out.1.lt
            go_wp2_with fail
            refine (Cur.among b _ _ 3 3 [0, 999, 1000] _ (Is.below HM3.out.1 (below_alloc _ _)) HR.out (fun x hx => by cases hx; show w3.heap.size ≠ b; omega) (by omega) (by omega) (by omega)).mono ?_
            rintro e w4 ⟨y, rfl, hy, hl4⟩
            have HY : Hid ((Lit.int .i64 y).wf = true) := lit_wf (zs := [0, 999, 1000]) (by decide) y hy
            have HM4 : Hid (Moved b (t + 594) w w4) := Moved.mono (HM3.out.next (Moved.from (below_alloc _ _) hl4)) (by omega)
            have hs4 : w3.heap.size ≤ w4.heap.size := by have := hl4.2.size; simp at this; omega
            have HO4 : Hid (ROwn w4 w.heap.size w4.heap.size (.slice (some ⟨g, 0, none⟩) (m + 1) cap) xs) := rOwn_wide (rOwn_moved (rOwn_below HO3.out (below_alloc _ _)) hl4 hbl) (Nat.le_refl _) hs4
            obtain ⟨ys, hys⟩ := rOwn_setKey HO4.out HY.out
            have HYS : Hid (ROwn (w4.setCell ⟨g, m * 2, none⟩ (.int .i64 y)) w.heap.size w4.heap.size (.slice (some ⟨g, 0, none⟩) (m + 1) cap) ys) := hys
            obtain ⟨a5, m5, cap5, rs5, e5, hown5, _, _, _, _⟩ := HO4.out
            simp only [Value.slice.injEq] at e5
            obtain ⟨rfl, rfl, rfl⟩ := e5
            have hl5 : (rcells rs5).length = (m + 1) * 2 := by simpa using hown5.outer.1
            have f0 := hown5.outer.frozenAt (m * 2)
            obtain ⟨o0, ho0⟩ : ∃ o, w4.cell? ⟨g, m * 2, none⟩ = some o := by rw [hown5.outer.cellAt _ (by omega)]; exact ⟨_, List.getElem?_eq_getElem (by omega)⟩
            have em : ((m + 1 : Nat) : Int) - 1 = (m : Int) := by omega
            have hmI : (m : Int) < ((m + 1 : Nat) : Int) := by omega
            have hmJ : (0 : Int) ≤ (m : Int) := by omega
            clear hys hown5 hl5 hy hl4
            go_wp2
            go_ret
            exact ⟨_, ys, rfl, by simpa [World.setCell] using HYS.out, Moved.setNew (Moved.mono HM4.out (by omega)) hbl hgb.1 _⟩


end Go.Proofs.Ytciaegdgoabipaa.Dr2b
