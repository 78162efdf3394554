/-
  Contracts of the program's isRow and GoodTable.
-/
import Derived.Test.YtciaegdgoabipaaGtab
namespace Go.Proofs.Ytciaegdgoabipaa.Ig
open Go.RowKit
open Go.Proofs.Ytciaegdgoabipaa.Frame Go.Proofs.Ytciaegdgoabipaa.Mem Go.Proofs.Ytciaegdgoabipaa.Vals Go.Proofs.Ytciaegdgoabipaa.Rws Go.Proofs.Ytciaegdgoabipaa.Val Go.Proofs.Ytciaegdgoabipaa.Tab Go.Proofs.Ytciaegdgoabipaa.Reg Go.Proofs.Ytciaegdgoabipaa.Gtab

theorem rowB_out (key : Int) (vs : List (Bool × Int)) (h : key < 0 ∨ 999 < key ∨ vs.length ≠ 3) : rowB key vs = false := by
  unfold rowB inB
  rcases h with h | h | h
  · rw [show decide (0 ≤ key ∧ key ≤ 999) = false from decide_eq_false (by omega)]; simp
  · rw [show decide (0 ≤ key ∧ key ≤ 999) = false from decide_eq_false (by omega)]; simp
  · rw [show decide (vs.length = 3) = false from decide_eq_false h]; simp

theorem rowB_in (key : Int) (vs : List (Bool × Int)) (h0 : 0 ≤ key) (h1 : key ≤ 999) (h2 : vs.length = 3) : rowB key vs = vs.all gv := by
  unfold rowB inB
  rw [decide_eq_true (⟨h0, h1⟩ : 0 ≤ key ∧ key ≤ 999), decide_eq_true h2]; simp

set_option maxRecDepth 4000 in
set_option maxHeartbeats 800000 in
theorem impl_isRow (key : Int) (a : Option Addr) (n cap : Nat) (vs : List (Bool × Int)) (w : World) (h : IsVals w a n cap vs) (hn : n ≤ 1048576) :
    Calls Try.prog 46 #[.agg #[.int .i64 key, .slice a n cap]] w fun e w' => e = .returned (.bool (rowB key vs)) ∧ Below w.heap.size w w' := by
  have HL : Hid (vs.length = n) := h.len
  have HV : Hid (IsVals w a n cap vs) := h
  have b0 := (Below.refl w.heap.size w).alloc (Nat.le_refl _) (.cells #[.int .i64 key, .slice a n cap] 26)
  have B0 : Hid (Below w.heap.size w (w.alloc (.cells #[.int .i64 key, .slice a n cap] 26))) := b0
  clear h b0
  by_cases h0 : key < 0
  · have F : Hid (rowB key vs = false) := rowB_out key vs (Or.inl h0)
    go_enter Try.func46, Try.ntmps46
    go_wp2
    go_ret
    exact ⟨Ints.ret_bool F.out.symm, B0.out⟩
  · by_cases h1 : 999 < key
    · have F : Hid (rowB key vs = false) := rowB_out key vs (Or.inr (Or.inl h1))
      go_enter Try.func46, Try.ntmps46
      go_wp2
      go_ret
      exact ⟨Ints.ret_bool F.out.symm, B0.out⟩
    · by_cases h3 : (n : Int) = 3
      · have h3b : ((n : Int) != 3) = false := by simp [h3]
        have F : Hid (rowB key vs = vs.all gv) := rowB_in key vs (by omega) (by omega) (by rw [HL.out]; omega)
        have hkI : ¬ (key < 0) := h0
        have hkJ : ¬ (999 < key) := h1
        clear h3
        go_enter Try.func46, Try.ntmps46
        go_wp2_with fail
        go_loopw [22] (fun i wr => ∃ k : Nat, k ≤ n ∧ i = .int .i64 k ∧ (vs.take k).all gv = true ∧ Below w.heap.size w wr) (fun i _ => n - (intOf i).toNat)
        case atStart => exact ⟨0, Nat.zero_le _, rfl, rfl, B0.out⟩
        case round =>
          obtain ⟨k, hk, rfl, hall, hnx⟩ := hrel
          have Hall : Hid ((vs.take k).all gv = true) := hall
          have HN : Hid (Below w.heap.size w wr) := hnx
          have hsr := hnx.size
          clear hall hnx
          by_cases hlt : k < n
          · obtain ⟨b, off, rfl, hbl, hc⟩ := HV.out.cells (by omega)
            have hkl : k < vs.length := by rw [HL.out]; exact hlt
            have p0 : wr.cell? ⟨b, off + k * 2, none⟩ = some (.bool (vs.getD k vd).1) := by rw [HN.out.cell (p := ⟨b, off + k * 2, none⟩) hbl]; exact (hc k hlt).1
            have p1 : wr.cell? ⟨b, off + k * 2 + 1, none⟩ = some (.int .i64 (vs.getD k vd).2) := by rw [HN.out.cell (p := ⟨b, off + k * 2 + 1, none⟩) hbl]; exact (hc k hlt).2
            have HF : Hid ((gv (vs.getD k vd) = false → vs.all gv = false) ∧ (gv (vs.getD k vd) = true → (vs.take (k + 1)).all gv = true)) := ⟨fun e => allv_false gv vs k hkl e, fun e => allv_succ gv vs k hkl e Hall.out⟩
            generalize vs.getD k vd = x at p0 p1 HF
            obtain ⟨xb, xn⟩ := x
            simp only at p0 p1
            have hkI : (k : Int) < (n : Int) := by omega
            clear hc hkl
            cases hg : goodV xb xn
            · have Hg : Hid (goodV xb xn = false) := hg
              have F : Hid (rowB key vs = false) := by show _ = _; rw [F.out]; exact HF.out.1 hg
              clear hg HF
              go_wp2_with fail
              refine (impl_GoodValue _ _ _).mono ?_
              rintro e w1 ⟨rfl, hb1⟩
              rw [Hg.out]
              have HN1 : Hid (Below w.heap.size w w1) := Frame.next (HN.out.alloc (by omega) _) hb1 (by simp; omega)
              clear hb1
              go_wp2
              go_ret
              exact ⟨Ints.ret_bool F.out.symm, HN1.out⟩
            · have Hg : Hid (goodV xb xn = true) := hg
              have F2 : Hid ((vs.take (k + 1)).all gv = true) := HF.out.2 hg
              clear hg HF
              go_wp2_with fail
              refine (impl_GoodValue _ _ _).mono ?_
              rintro e w1 ⟨rfl, hb1⟩
              rw [Hg.out]
              have HN1 : Hid (Below w.heap.size w w1) := Frame.next (HN.out.alloc (by omega) _) hb1 (by simp; omega)
              clear hb1
              go_wp2
              go_roundw
              case rel => exact ⟨k + 1, by omega, by go_num, F2.out, HN1.out⟩
              case measure => simp [intOf]; omega
          · obtain rfl : k = n := by omega
            have F2 : Hid (rowB key vs = true) := by show _ = _; rw [F.out]; have := Hall.out; rwa [List.take_of_length_le (by rw [HL.out]; omega)] at this
            go_wp2
            go_ret
            exact ⟨Ints.ret_bool F2.out.symm, HN.out⟩
      · have h3b : ((n : Int) != 3) = true := by simp [h3]
        have F : Hid (rowB key vs = false) := rowB_out key vs (Or.inr (Or.inr (by rw [HL.out]; omega)))
        clear h3
        go_enter Try.func46, Try.ntmps46
        go_wp2
        go_ret
        exact ⟨Ints.ret_bool F.out.symm, B0.out⟩

set_option maxRecDepth 4000 in
set_option maxHeartbeats 800000 in
theorem impl_GoodTable (a : Option Addr) (n cap : Nat) (rs : List RowV) (w : World) (h : IsRows w a n cap rs) (hn : n ≤ 1048576) (hv : ∀ r ∈ rs, r.n ≤ 1048576) :
    Calls Try.prog 13 #[.slice a n cap] w fun e w' => e = .returned (.bool (goodT rs)) ∧ Below w.heap.size w w' := by
  have HL : Hid (rs.length = n) := h.len
  have HI : Hid (IsRows w a n cap rs) := h
  have HV : Hid (∀ r ∈ rs, r.n ≤ 1048576) := hv
  clear h hv
  by_cases h20 : 20 < (n : Int)
  · have F : Hid (goodT rs = false) := by show _ = _; unfold goodT; rw [HL.out, show decide (n ≤ 20) = false from decide_eq_false (by omega)]; simp
    go_enter Try.func13, Try.ntmps13
    go_wp2
    go_ret
    exact ⟨Ints.ret_bool F.out.symm, Below.refl _ _⟩
  · have F : Hid (goodT rs = okTo rs n) := by show _ = _; unfold goodT; rw [HL.out, show decide (n ≤ 20) = true from decide_eq_true (by omega)]; simp
    go_enter Try.func13, Try.ntmps13
    go_wp2_with fail
    go_loopw [10] (fun i wr => ∃ k : Nat, k ≤ n ∧ i = .int .i64 k ∧ okTo rs k = true ∧ Below w.heap.size w wr) (fun i _ => n - (intOf i).toNat)
    case atStart => exact ⟨0, Nat.zero_le _, rfl, rfl, Below.refl _ _⟩
    case round =>
      obtain ⟨k, hk, rfl, hno, hnx⟩ := hrel
      have HNO : Hid (okTo rs k = true) := hno
      have HN : Hid (Below w.heap.size w wr) := hnx
      have hsr := hnx.size
      clear hno hnx
      by_cases hlt : k < n
      · obtain ⟨b, off, rfl, hbl, hc⟩ := HI.out.cells (by omega)
        have hkl : k < rs.length := by rw [HL.out]; exact hlt
        have p0 : wr.cell? ⟨b, off + k * 2, none⟩ = some (.int .i64 (rs.getD k rd).key) := by rw [HN.out.cell (p := ⟨b, off + k * 2, none⟩) hbl]; exact (hc k hlt).1
        have p1 : wr.cell? ⟨b, off + k * 2 + 1, none⟩ = some (.slice (rs.getD k rd).a (rs.getD k rd).n (rs.getD k rd).c) := by rw [HN.out.cell (p := ⟨b, off + k * 2 + 1, none⟩) hbl]; exact (hc k hlt).2
        have hkI : (k : Int) < (n : Int) := by omega
        have HR : Hid (IsVals w (rs.getD k rd).a (rs.getD k rd).n (rs.getD k rd).c (rs.getD k rd).vs) := (HI.out.rows _ (getD_mem_rd hkl)).2
        have HK : Hid (okAt rs k = (rB (rs.getD k rd) && (decide (k = 0) || decide ((rs.getD (k - 1) rd).key < (rs.getD k rd).key)))) := rfl
        have HRn : Hid ((rs.getD k rd).n ≤ 1048576) := HV.out _ (getD_mem_rd hkl)
        have HP : Hid (∀ j, k = j + 1 → w.cell? ⟨b, off + j * 2, none⟩ = some (.int .i64 (rs.getD (k - 1) rd).key)) := by
          intro j hj
          rw [(hc j (by omega)).1, hj]
          rfl
        generalize (rs.getD (k - 1) rd).key = pk at HK HP
        generalize rs.getD k rd = r at p0 p1 HR HRn HK
        obtain ⟨rk, ra, rn, rc, rvs⟩ := r
        simp only at p0 p1
        have HR2 : Hid (IsVals w ra rn rc rvs) := HR.out
        have HK2 : Hid (okAt rs k = (rowB rk rvs && (decide (k = 0) || decide (pk < rk)))) := HK.out
        clear hc hkl HR HK
        have hrn : rn ≤ 1048576 := HRn.out
        clear HRn
        cases hg : rowB rk rvs
        · have Hg : Hid (rowB rk rvs = false) := hg
          have F2 : Hid (goodT rs = false) := by show _ = _; rw [F.out]; exact okTo_false rs k n hlt (by rw [HK2.out, hg]; rfl)
          clear hg
          go_wp2_with fail
          refine (impl_isRow rk ra rn rc rvs _ (HR2.out.below (HN.out.alloc hsr _)) hrn).mono ?_
          rintro e w1 ⟨rfl, hb1⟩
          rw [Hg.out]
          have HN1 : Hid (Below w.heap.size w w1) := Frame.next (HN.out.alloc hsr _) hb1 (by simp; omega)
          clear hb1
          go_wp2
          go_ret
          exact ⟨Ints.ret_bool F2.out.symm, HN1.out⟩
        · have Hg : Hid (rowB rk rvs = true) := hg
          clear hg
          go_wp2_with fail
          refine (impl_isRow rk ra rn rc rvs _ (HR2.out.below (HN.out.alloc hsr _)) hrn).mono ?_
          rintro e w1 ⟨rfl, hb1⟩
          rw [Hg.out]
          have HN1 : Hid (Below w.heap.size w w1) := Frame.next (HN.out.alloc hsr _) hb1 (by simp; omega)
          have q0 : w1.cell? ⟨wr.heap.size, 0, none⟩ = some (.int .i64 rk) := by rw [hb1.cell (p := ⟨wr.heap.size, 0, none⟩) (by simp), World.cell?_alloc_at _ _ _ _ rfl]; rfl
          clear hb1
          cases k with
          | zero =>
            have F2 : Hid (okTo rs 1 = true) := by show _ = _; rw [okTo, HNO.out, HK2.out, Hg.out]; rfl
            have d0 : decide ((0 : Int) < ((0 : Nat) : Int)) = false := rfl
            go_wp2_with fail
            go_quiet (fail)
            go_wp2
            go_roundw
            case rel => exact ⟨1, by omega, by go_num, F2.out, below_drewN HN1.out _⟩
            case measure => simp [intOf]; omega
          | succ j =>
            have q1 : w1.cell? ⟨b, off + j * 2, none⟩ = some (.int .i64 pk) := by rw [HN1.out.cell (p := ⟨b, off + j * 2, none⟩) hbl]; exact HP.out j rfl
            have e1 : ((j + 1 : Nat) : Int) - 1 = (j : Int) := by omega
            have hj0 : (0 : Int) ≤ (j : Int) := by omega
            have hj1 : (j : Int) < (n : Int) := by omega
            by_cases hpk : pk < rk
            · have F2 : Hid (okTo rs (j + 1 + 1) = true) := by show _ = _; rw [okTo, HNO.out, HK2.out, Hg.out]; simp [hpk]
              have d0 : decide (rk ≤ pk) = false := decide_eq_false (by omega)
              have d1 : decide ((0 : Int) < ((j + 1 : Nat) : Int)) = true := decide_eq_true (by omega)
              clear hpk
              go_wp2_with fail
              go_quiet (fail)
              go_wp2
              go_roundw
              case rel => exact ⟨j + 1 + 1, by omega, by go_num, F2.out, below_drewN HN1.out _⟩
              case measure => simp [intOf]; omega
            · have F2 : Hid (goodT rs = false) := by show _ = _; rw [F.out]; exact okTo_false rs (j + 1) n hlt (by rw [HK2.out, Hg.out]; simp [hpk])
              have d0 : decide (rk ≤ pk) = true := decide_eq_true (by omega)
              have d1 : decide ((0 : Int) < ((j + 1 : Nat) : Int)) = true := decide_eq_true (by omega)
              clear hpk
              go_wp2_with fail
              go_quiet (fail)
              go_wp2
              go_ret
              exact ⟨Ints.ret_bool F2.out.symm, below_drewN HN1.out _⟩
      · obtain rfl : k = n := by omega
        have F2 : Hid (goodT rs = true) := by show _ = _; rw [F.out]; exact HNO.out
        go_wp2
        go_ret
        exact ⟨Ints.ret_bool F2.out.symm, HN.out⟩


end Go.Proofs.Ytciaegdgoabipaa.Ig
