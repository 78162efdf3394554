/-
  Contracts of what tells a clash, and of ConflictsOf, of the program and of the model.
-/
import Derived.Test.YteihgbiifcgipaaPcu
import Derived.Test.YteihgbiifcgipaaPla
import Derived.Test.YteihgbiifcgipaaPlb
namespace Go.Proofs.Yteihgbiifcgipaa.Pco
open Go.RowKit
open Go.Proofs.Yteihgbiifcgipaa.Frame Go.Proofs.Yteihgbiifcgipaa.Mem Go.Proofs.Yteihgbiifcgipaa.Kep Go.Proofs.Yteihgbiifcgipaa.Val Go.Proofs.Yteihgbiifcgipaa.FAct Go.Proofs.Yteihgbiifcgipaa.Pga Go.Proofs.Yteihgbiifcgipaa.Ppu Go.Proofs.Yteihgbiifcgipaa.Pcu Go.Proofs.Yteihgbiifcgipaa.Mii
open Go.Proofs.Yteihgbiifcgipaa.Ints (ret_bool)
open Go.Proofs.Yteihgbiifcgipaa.Pla (iOwn_nil)
open Go.Proofs.Yteihgbiifcgipaa.Plb (stored_as cell_own far_cell)

set_option maxHeartbeats 400000 in
theorem actsClash (p0 p1 : Int) (p2 : Bool) (q0 q1 : Int) (q2 : Bool) (w : World) :
    Calls Try.prog 52 #[.agg #[.int .i64 p0, .int .i64 p1, .bool p2], .agg #[.int .i64 q0, .int .i64 q1, .bool q2]] w fun e w' => e = .returned (.bool (clashB (p0, p1, p2) (q0, q1, q2))) ∧ Below w.heap.size w w' := by
  have b2 : Below w.heap.size w ((w.alloc (.cells #[.int .i64 p0, .int .i64 p1, .bool p2] 59)).alloc (.cells #[.int .i64 q0, .int .i64 q1, .bool q2] 59)) := ((Below.refl _ _).alloc (Nat.le_refl _) _).alloc (by simp) _
  cases h0 : (p0 != q0)
  · have e : clashB (p0, p1, p2) (q0, q1, q2) = false := by unfold clashB; simp only [h0, Bool.false_and]
    rw [e]
    clear e
    go_enter Try.func52, Try.ntmps52
    go_wp2
    go_ret
    exact ⟨rfl, b2⟩
  cases h1 : (p1 == q1)
  · have e : clashB (p0, p1, p2) (q0, q1, q2) = false := by unfold clashB; simp only [h1, Bool.false_and, Bool.and_false]
    rw [e]
    clear e
    go_enter Try.func52, Try.ntmps52
    go_wp2
    go_ret
    exact ⟨rfl, b2⟩
  have e : clashB (p0, p1, p2) (q0, q1, q2) = (p2 || q2) := by unfold clashB; simp only [h0, h1, Bool.true_and]
  rw [e]
  clear e
  cases p2
  · cases q2
    · go_enter Try.func52, Try.ntmps52
      go_wp2
      go_ret
      exact ⟨rfl, b2⟩
    · go_enter Try.func52, Try.ntmps52
      go_wp2
      go_ret
      exact ⟨rfl, b2⟩
  · go_enter Try.func52, Try.ntmps52
    go_wp2
    go_ret
    exact ⟨rfl, b2⟩

set_option maxHeartbeats 400000 in
theorem l7Clash (p0 p1 : Int) (p2 : Bool) (q0 q1 : Int) (q2 : Bool) (w : World) :
    Calls Try.prog 64 #[.agg #[.int .i64 p0, .int .i64 p1, .bool p2], .agg #[.int .i64 q0, .int .i64 q1, .bool q2]] w fun e w' => e = .returned (.bool (clashB (p0, p1, p2) (q0, q1, q2))) ∧ Below w.heap.size w w' := by
  have b2 : Below w.heap.size w ((w.alloc (.cells #[.int .i64 p0, .int .i64 p1, .bool p2] 59)).alloc (.cells #[.int .i64 q0, .int .i64 q1, .bool q2] 59)) := ((Below.refl _ _).alloc (Nat.le_refl _) _).alloc (by simp) _
  cases h0 : (p0 != q0)
  · have e : clashB (p0, p1, p2) (q0, q1, q2) = false := by unfold clashB; simp only [h0, Bool.false_and]
    rw [e]
    clear e
    go_enter Try.func64, Try.ntmps64
    go_wp2
    go_ret
    exact ⟨rfl, b2⟩
  cases h1 : (p1 == q1)
  · have e : clashB (p0, p1, p2) (q0, q1, q2) = false := by unfold clashB; simp only [h1, Bool.false_and, Bool.and_false]
    rw [e]
    clear e
    go_enter Try.func64, Try.ntmps64
    go_wp2
    go_ret
    exact ⟨rfl, b2⟩
  have e : clashB (p0, p1, p2) (q0, q1, q2) = (p2 || q2) := by unfold clashB; simp only [h0, h1, Bool.true_and]
  rw [e]
  clear e
  cases p2
  · cases q2
    · go_enter Try.func64, Try.ntmps64
      go_wp2
      go_ret
      exact ⟨rfl, b2⟩
    · go_enter Try.func64, Try.ntmps64
      go_wp2
      go_ret
      exact ⟨rfl, b2⟩
  · go_enter Try.func64, Try.ntmps64
    go_wp2
    go_ret
    exact ⟨rfl, b2⟩

theorem isX_suf2 {w : World} {b off n c k k1 : Nat} {rs : List D} {a2 : Option Addr} (h : IsX w (some ⟨b, off, none⟩) n c rs) (hk : k1 = k + 1) (hn : k1 ≤ n) (ha : (if c = k1 then some (⟨b, off, none⟩ : Addr) else some ⟨b, off + k1 * 3, none⟩) = a2) : IsX w a2 (n - k1) (c - k1) (rs.drop (k + 1)) := by
  have h1 := h.fits
  by_cases hc : c = k1
  · have hm := h.max
    refine ⟨by rw [List.length_drop, h.len]; omega, by omega, by omega, fun z hz => h.wf z (List.mem_of_mem_drop hz), fun h0 => absurd h0 (by omega)⟩
  · rw [if_neg hc] at ha
    subst ha
    rw [← hk]
    exact isX_suf h hn

set_option maxRecDepth 4000 in
set_option maxHeartbeats 3200000 in
theorem impl_ConflictsOf (v : Value) (xs : List D) (w : World) (h : XIs w v xs) :
    Calls Try.prog 16 #[v] w fun e w' => ∃ u, e = .returned (.tuple #[u, .bool (goodP xs)]) ∧ IOwn w' w.heap.size w'.heap.size u (confV xs) ∧ Below w.heap.size w w' := by
  obtain ⟨a, n, cap, rfl, hr, hn⟩ := h
  obtain ⟨i0, hi, hz0, hz1, hz2⟩ := info_parts Ints.info
  have HL : Hid (xs.length = n) := hr.len
  have HI : Hid (IsX w a n cap xs) := hr
  clear hr
  cases hg : goodP xs
  · have E : Hid (confV xs = []) := if_neg (by rw [hg]; exact Bool.false_ne_true)
    have HG : Hid (goodP xs = false) := hg
    clear hg
    go_enter Try.func16, Try.ntmps16
    go_wp2_with fail
    refine (impl_GoodPlay a n cap xs _ HI.out).mono ?_
    rintro e w1 ⟨rfl, hb1⟩
    have B1 : Hid (Below w.heap.size w w1) := hb1
    clear hb1
    rw [HG.out]
    go_wp2_with fail
    go_ret2
    exact ⟨_, rfl, by rw [E.out]; exact iOwn_nil _ _ _, B1.out⟩
  have E : Hid (confV xs = confN xs) := if_pos hg
  have HG : Hid (goodP xs = true) := hg
  have HAL : Hid (∀ x ∈ xs, actB x = true) := good_all hg
  have hn16 : n ≤ 16 := by rw [← HL.out]; exact good_len hg
  clear hg
  go_enter Try.func16, Try.ntmps16
  go_wp2_with fail
  refine (impl_GoodPlay a n cap xs _ HI.out).mono ?_
  rintro e w1 ⟨rfl, hb1⟩
  have B1 : Hid (Below w.heap.size w w1) := hb1
  clear hb1
  rw [HG.out]
  have hs1 := B1.out.size
  go_wp2_with (at_make; refine wpList_make_full _ rfl _ _ 25 rfl w.heap.size 3 i0 (.int .i64 0) 1 Try.underlying25 hi hz0 hz1 _ _ _ _ 16 rfl rfl rfl rfl ?b2 ?b3 hs1 ?_)
  case b2 => rw [hz2]; omega
  case b3 => unfold maxLen; omega
  intro w2 hown2 hgrow2
  have B2 : Hid (Below w.heap.size w w2) := B1.out.grown hgrow2 hs1 (fun k h => by cases h)
  have hs2 : w1.heap.size < w2.heap.size := (Mem.own_block hown2 ⟨w1.heap.size, 0, none⟩ rfl).2
  have O2 : Hid ((w2).ownsRow w.heap.size 3 1 (.slice (some ⟨w1.heap.size, 0, none⟩) 16 16) 16 (ints .i64 (tally (P1 xs 0)))) := by
    show World.ownsRow _ _ _ _ _ _ _
    have e : (madeCells #[Value.int .i64 0] 16).toList = ints .i64 (tally (P1 xs 0)) := by
      rw [toList_madeCells_one]; rfl
    rw [← e]
    exact hown2
  clear hown2 hgrow2
  go_wp2_with fail
  go_loopw [15] (fun i wr => ∃ k : Nat, k ≤ n ∧ i = .int .i64 k ∧ w1.heap.size < wr.heap.size ∧ (wr).ownsRow w.heap.size 3 1 (.slice (some ⟨w1.heap.size, 0, none⟩) 16 16) 16 (ints .i64 (tally (P1 xs k))) ∧ Below w.heap.size w wr) (fun i _ => n - (intOf i).toNat)
  case atStart => exact ⟨0, by omega, rfl, hs2, O2.out, B2.out⟩
  case round =>
    obtain ⟨k, hk, rfl, hsr, ho, hnx⟩ := hrel
    have HN : Hid (Below w.heap.size w wr) := hnx
    have HO : Hid ((wr).ownsRow w.heap.size 3 1 (.slice (some ⟨w1.heap.size, 0, none⟩) 16 16) 16 (ints .i64 (tally (P1 xs k)))) := ho
    clear ho
    by_cases hlt : k < n
    · obtain ⟨b, off, yw, yi, yb, rfl, p0, p1, p2, hx⟩ := act_at HI.out hnx hlt
      have HX : Hid (xs.getD k d0 = (yw, yi, yb)) := hx
      have hy : actB (yw, yi, yb) = true := by rw [← hx]; exact HAL.out _ (FAct.getD_mem (by rw [HL.out]; exact hlt))
      have hyr := good_act hy
      simp only at hyr
      have B3 : Hid (Below w.heap.size w (wr.alloc (.cells #[.int .i64 yw, .int .i64 yi, .bool yb] 59))) := hnx.alloc (by omega) _
      have O3 : Hid ((wr.alloc (.cells #[.int .i64 yw, .int .i64 yi, .bool yb] 59)).ownsRow w.heap.size 3 1 (.slice (some ⟨w1.heap.size, 0, none⟩) 16 16) 16 (ints .i64 (tally (P1 xs k ++ ((xs.take k).take 0).map fun x => (x, (yw, yi, yb)))))) := by
        show World.ownsRow _ _ _ _ _ _ _
        rw [List.take_zero, List.map_nil, List.append_nil]
        exact own_below HO.out ((Below.refl _ _).alloc (Nat.le_refl _) _)
      have C3 : Hid ((wr.alloc (.cells #[.int .i64 yw, .int .i64 yi, .bool yb] 59)).cell? ⟨wr.heap.size, 0, none⟩ = some (.int .i64 yw) ∧ (wr.alloc (.cells #[.int .i64 yw, .int .i64 yi, .bool yb] 59)).cell? ⟨wr.heap.size, 1, none⟩ = some (.int .i64 yi) ∧ (wr.alloc (.cells #[.int .i64 yw, .int .i64 yi, .bool yb] 59)).cell? ⟨wr.heap.size, 2, none⟩ = some (.bool yb)) := by
        show _ ∧ _ ∧ _
        refine ⟨?_, ?_, ?_⟩ <;> rw [World.cell?_alloc_at _ _ _ _ rfl] <;> rfl
      have hs3 : wr.heap.size < (wr.alloc (.cells #[.int .i64 yw, .int .i64 yi, .bool yb] 59)).heap.size := by simp
      have HS3 : Hid (wr.heap.size < (wr.alloc (.cells #[.int .i64 yw, .int .i64 yi, .bool yb] 59)).heap.size) := hs3
      have hkI : (k : Int) ≤ (cap : Int) := by have := HI.out.fits; omega
      have hk0 : (0 : Int) ≤ (k : Int) := by omega
      have HK : Hid (IsX w (some ⟨b, off, none⟩) k cap (xs.take k)) := isX_pre HI.out hk
      clear hx hnx hy hs3 hs1 hs2
      go_wp2_with fail
      go_loopw [24] (fun i wq => ∃ j : Nat, j ≤ k ∧ i = .int .i64 j ∧ wr.heap.size < wq.heap.size ∧ (wq).ownsRow w.heap.size 3 1 (.slice (some ⟨w1.heap.size, 0, none⟩) 16 16) 16 (ints .i64 (tally (P1 xs k ++ ((xs.take k).take j).map fun x => (x, (yw, yi, yb))))) ∧ (wq.cell? ⟨wr.heap.size, 0, none⟩ = some (.int .i64 yw) ∧ wq.cell? ⟨wr.heap.size, 1, none⟩ = some (.int .i64 yi) ∧ wq.cell? ⟨wr.heap.size, 2, none⟩ = some (.bool yb)) ∧ Below w.heap.size w wq) (fun i _ => k - (intOf i).toNat)
      case atStart => exact ⟨0, by omega, rfl, HS3.out, O3.out, C3.out, B3.out⟩
      case round =>
        rename World => wq
        obtain ⟨j, hj, rfl, hsq, ho, hcc, hnq⟩ := hrel
        have HNQ : Hid (Below w.heap.size w wq) := hnq
        have HO2 : Hid ((wq).ownsRow w.heap.size 3 1 (.slice (some ⟨w1.heap.size, 0, none⟩) 16 16) 16 (ints .i64 (tally (P1 xs k ++ ((xs.take k).take j).map fun x => (x, (yw, yi, yb)))))) := ho
        have HCC : Hid (wq.cell? ⟨wr.heap.size, 0, none⟩ = some (.int .i64 yw) ∧ wq.cell? ⟨wr.heap.size, 1, none⟩ = some (.int .i64 yi) ∧ wq.cell? ⟨wr.heap.size, 2, none⟩ = some (.bool yb)) := hcc
        clear ho hcc
        by_cases hlt2 : j < k
        · have hlen2 : j < (xs.take k).length := by rw [HK.out.len]; exact hlt2
          obtain ⟨b2, off2, xw, xi, xb, hsb, q0, q1, q2, hx2⟩ := act_at HK.out hnq hlt2
          have hxm : actB (xw, xi, xb) = true := by rw [← hx2]; exact HAL.out _ (List.mem_of_mem_take (FAct.getD_mem hlen2))
          have hxr := good_act hxm
          simp only at hxr
          have HPS : Hid (((xs.take k).take (j + 1)).map (fun x => (x, (yw, yi, yb))) = ((xs.take k).take j).map (fun x => (x, (yw, yi, yb))) ++ [((xw, xi, xb), (yw, yi, yb))]) := by show _ = _; rw [map_take_succ hlen2, hx2]
          have hplen : (P1 xs k ++ ((xs.take k).take j).map fun x => (x, (yw, yi, yb))).length ≤ 1048576 := by
            rw [List.length_append, List.length_map, List.length_take]
            have := P1_length xs (by rw [HL.out]; exact hn16) k
            omega
          have B5 : Hid (Below w.heap.size w (wq.alloc (.cells #[.int .i64 xw, .int .i64 xi, .bool xb] 59))) := hnq.alloc HNQ.out.size _
          have BB : Hid (Below wq.heap.size wq (wq.alloc (.cells #[.int .i64 xw, .int .i64 xi, .bool xb] 59))) := (Below.refl _ _).alloc (Nat.le_refl _) _
          have O5 : Hid ((wq.alloc (.cells #[.int .i64 xw, .int .i64 xi, .bool xb] 59)).ownsRow w.heap.size 3 1 (.slice (some ⟨w1.heap.size, 0, none⟩) 16 16) 16 (ints .i64 (tally (P1 xs k ++ ((xs.take k).take j).map fun x => (x, (yw, yi, yb)))))) := own_below HO2.out BB.out
          have e0 := HCC.out.1
          have e1 := HCC.out.2.1
          have e2 := HCC.out.2.2
          cases hsb
          obtain ⟨i1, hi1⟩ : ∃ i1 : Nat, xw = (i1 : Int) := ⟨xw.toNat, by omega⟩
          obtain ⟨i2, hi2⟩ : ∃ i2 : Nat, yw = (i2 : Int) := ⟨yw.toNat, by omega⟩
          obtain ⟨c, hc⟩ : ∃ c, c = 4 * i1 + i2 := ⟨_, rfl⟩
          have hidx : 4 * xw + yw = (c : Int) := by omega
          have hc16 : c < 16 := by omega
          have hcI : (c : Int) < 16 := by omega
          have hc0 : (0 : Int) ≤ (c : Int) := by omega
          have HIX : Hid (idxN (xw, xi, xb) (yw, yi, yb) = (c : Int)) := hidx
          have HYX : Hid (c < 16) := hc16
          clear hx2 hnq hlen2 hxm hc hi1 hi2
          go_wp2_with fail
          refine (actsClash _ _ _ _ _ _ _).mono ?_
          rintro e w6 ⟨rfl, hb6⟩
          have HO6 : Hid ((w6).ownsRow w.heap.size 3 1 (.slice (some ⟨w1.heap.size, 0, none⟩) 16 16) 16 (ints .i64 (tally (P1 xs k ++ ((xs.take k).take j).map fun x => (x, (yw, yi, yb)))))) := own_below O5.out hb6
          have B6 : Hid (Below w.heap.size w w6) := Frame.next B5.out hb6 B5.out.size
          have BQ : Hid (Below wq.heap.size wq w6) := Frame.next BB.out hb6 BB.out.size
          have C6 : Hid (w6.cell? ⟨wr.heap.size, 0, none⟩ = some (.int .i64 yw) ∧ w6.cell? ⟨wr.heap.size, 1, none⟩ = some (.int .i64 yi) ∧ w6.cell? ⟨wr.heap.size, 2, none⟩ = some (.bool yb)) := ⟨Frame.held_cell BQ.out HCC.out.1, Frame.held_cell BQ.out HCC.out.2.1, Frame.held_cell BQ.out HCC.out.2.2⟩
          have hs6 : wq.heap.size < w6.heap.size := Nat.lt_of_lt_of_le (by simp) hb6.size
          have g0 : w6.cell? ⟨wq.heap.size, 0, none⟩ = some (.int .i64 xw) := by rw [(Frame.bcell hb6).1 _ _ (by simp)]; go_simp
          clear hb6 e0 e1 e2
          cases hv : clashB (xw, xi, xb) (yw, yi, yb)
          · have F : Hid (tally (P1 xs k ++ ((xs.take k).take (j + 1)).map fun x => (x, (yw, yi, yb))) = tally (P1 xs k ++ ((xs.take k).take j).map fun x => (x, (yw, yi, yb)))) := by
              show _ = _
              rw [HPS.out, ← List.append_assoc]
              exact tally_no hv
            clear hv
            go_wp2
            go_roundw
            case rel => exact ⟨j + 1, by omega, by go_num, by omega, by rw [F.out]; exact HO6.out, C6.out, B6.out⟩
            case measure => simp [intOf]; omega
          · have F : Hid ((ints .i64 (tally (P1 xs k ++ ((xs.take k).take j).map fun x => (x, (yw, yi, yb))))).set c (.int .i64 ((tally (P1 xs k ++ ((xs.take k).take j).map fun x => (x, (yw, yi, yb)))).getD c 0 + 1)) = ints .i64 (tally (P1 xs k ++ ((xs.take k).take (j + 1)).map fun x => (x, (yw, yi, yb))))) := by
              show _ = _
              rw [HPS.out, ← List.append_assoc, tally_yes hv HIX.out HYX.out]
              simp [ints, List.map_set]
            have hold : w6.cell? ⟨w1.heap.size, c, none⟩ = some (.int .i64 ((tally (P1 xs k ++ ((xs.take k).take j).map fun x => (x, (yw, yi, yb)))).getD c 0)) := by
              rw [HO6.out.cellAt c (by have := HYX.out; omega)]
              exact ints_get .i64 _ c (by rw [tally_length]; exact HYX.out)
            have hbd := tally_bounds (P1 xs k ++ ((xs.take k).take j).map fun x => (x, (yw, yi, yb))) c HYX.out
            generalize (tally (P1 xs k ++ ((xs.take k).take j).map fun x => (x, (yw, yi, yb)))).getD c 0 = z at hold hbd F
            have hz1 : -9223372036854775808 ≤ z + 1 := by omega
            have hz2' : z + 1 ≤ 9223372036854775807 := by omega
            have HST : Hid ((w6.setCell ⟨w1.heap.size, c, none⟩ (.int .i64 (z + 1))).ownsRow w.heap.size 3 1 (.slice (some ⟨w1.heap.size, 0, none⟩) 16 16) 16 (ints .i64 (tally (P1 xs k ++ ((xs.take k).take (j + 1)).map fun x => (x, (yw, yi, yb)))))) := stored_as HO6.out F.out
            have CST : Hid ((w6.setCell ⟨w1.heap.size, c, none⟩ (.int .i64 (z + 1))).cell? ⟨wr.heap.size, 0, none⟩ = some (.int .i64 yw) ∧ (w6.setCell ⟨w1.heap.size, c, none⟩ (.int .i64 (z + 1))).cell? ⟨wr.heap.size, 1, none⟩ = some (.int .i64 yi) ∧ (w6.setCell ⟨w1.heap.size, c, none⟩ (.int .i64 (z + 1))).cell? ⟨wr.heap.size, 2, none⟩ = some (.bool yb)) := ⟨far_cell (by omega) C6.out.1, far_cell (by omega) C6.out.2.1, far_cell (by omega) C6.out.2.2⟩
            have hfz := HO6.out.frozenAt c
            have e0 := C6.out.1
            have hb1' := B1.out.size
            have BST : Hid (Below w.heap.size w (w6.setCell ⟨w1.heap.size, c, none⟩ (.int .i64 (z + 1)))) := B6.out.setCell hb1' _
            clear hv hbd hplen hb1'
            go_wp2
            go_roundw
            case rel => exact ⟨j + 1, by omega, by go_num, by simp [World.setCell]; omega, HST.out, CST.out, BST.out⟩
            case measure => simp [intOf]; omega
        · obtain rfl : k = j := by omega
          have F : Hid ((wq).ownsRow w.heap.size 3 1 (.slice (some ⟨w1.heap.size, 0, none⟩) 16 16) 16 (ints .i64 (tally (P1 xs (k + 1))))) := by
            show World.ownsRow _ _ _ _ _ _ _
            have := HO2.out
            rw [List.take_of_length_le (by rw [HK.out.len]; omega)] at this
            rw [P1_succ, HX.out]
            exact this
          clear HO2 hnq
          go_wp2
          go_roundw
          case rel => exact ⟨k + 1, by omega, by go_num, by omega, F.out, HNQ.out⟩
          case measure => simp [intOf]; omega
    · obtain rfl : k = n := by omega
      have O4 : Hid (wr.ownsRow w.heap.size 3 1 (.slice (some ⟨w1.heap.size, 0, none⟩) 16 16) 16 (ints .i64 (confN xs))) := by
        show World.ownsRow _ _ _ _ _ _ _
        unfold confN
        rw [HL.out]
        exact HO.out
      have HWF : Hid (∀ z ∈ confN xs, (Lit.int .i64 z).wf = true) := tally_wf (by have := P1_length xs (by rw [HL.out]; exact hn16) xs.length; rw [HL.out] at this ⊢; omega)
      clear HO hnx
      go_wp2
      go_ret2
      exact ⟨_, rfl, by rw [E.out]; exact iOwn_of O4.out HWF.out (by omega), HN.out⟩

set_option maxRecDepth 4000 in
set_option maxHeartbeats 3200000 in
theorem spec_conflicts (a : Option Addr) (n cap : Nat) (xs : List D) (w : World) (h : IsX w a n cap xs) (hg : goodP xs = true) :
    Calls Try.prog 51 #[.slice a n cap] w fun e w' => e = .returned (.slice (some ⟨w.heap.size, 0, none⟩) 16 16) ∧ w'.ownsRow w.heap.size 3 1 (.slice (some ⟨w.heap.size, 0, none⟩) 16 16) 16 (ints .i64 (confN xs)) ∧ Below w.heap.size w w' := by
  obtain ⟨i0, hi, hz0, hz1, hz2⟩ := info_parts Ints.info
  have HL : Hid (xs.length = n) := h.len
  have HI : Hid (IsX w a n cap xs) := h
  have HAL : Hid (∀ x ∈ xs, actB x = true) := good_all hg
  have hn16 : n ≤ 16 := by rw [← HL.out]; exact good_len hg
  have hcap : n ≤ cap := h.fits
  have hcmx : cap ≤ 9223372036854775807 := by have := h.max; unfold maxLen at this; omega
  clear h hg
  have B1 : Hid (Below w.heap.size w w) := Below.refl _ _
  have hs1 := B1.out.size
  go_enter Try.func51, Try.ntmps51
  go_wp2_with (at_make; refine wpList_make_full _ rfl _ _ 25 rfl w.heap.size 3 i0 (.int .i64 0) 1 Try.underlying25 hi hz0 hz1 _ _ _ _ 16 rfl rfl rfl rfl ?b2 ?b3 hs1 ?_)
  case b2 => rw [hz2]; omega
  case b3 => unfold maxLen; omega
  intro w2 hown2 hgrow2
  have B2 : Hid (Below w.heap.size w w2) := B1.out.grown hgrow2 hs1 (fun k h => by cases h)
  have hs2 : w.heap.size < w2.heap.size := (Mem.own_block hown2 ⟨w.heap.size, 0, none⟩ rfl).2
  have O2 : Hid ((w2).ownsRow w.heap.size 3 1 (.slice (some ⟨w.heap.size, 0, none⟩) 16 16) 16 (ints .i64 (tally (P2 xs 0)))) := by
    show World.ownsRow _ _ _ _ _ _ _
    have e : (madeCells #[Value.int .i64 0] 16).toList = ints .i64 (tally (P2 xs 0)) := by
      rw [toList_madeCells_one]; rfl
    rw [← e]
    exact hown2
  clear hown2 hgrow2
  go_wp2_with fail
  go_loopw [11] (fun i wr => ∃ k : Nat, k ≤ n ∧ i = .int .i64 k ∧ w.heap.size < wr.heap.size ∧ (wr).ownsRow w.heap.size 3 1 (.slice (some ⟨w.heap.size, 0, none⟩) 16 16) 16 (ints .i64 (tally (P2 xs k))) ∧ Below w.heap.size w wr) (fun i _ => n - (intOf i).toNat)
  case atStart => exact ⟨0, by omega, rfl, hs2, O2.out, B2.out⟩
  case round =>
    obtain ⟨k, hk, rfl, hsr, ho, hnx⟩ := hrel
    have HN : Hid (Below w.heap.size w wr) := hnx
    have HO : Hid ((wr).ownsRow w.heap.size 3 1 (.slice (some ⟨w.heap.size, 0, none⟩) 16 16) 16 (ints .i64 (tally (P2 xs k)))) := ho
    clear ho
    by_cases hlt : k < n
    · obtain ⟨b, off, yw, yi, yb, rfl, p0, p1, p2, hx⟩ := act_at HI.out hnx hlt
      have HX : Hid (xs.getD k d0 = (yw, yi, yb)) := hx
      have hy : actB (yw, yi, yb) = true := by rw [← hx]; exact HAL.out _ (FAct.getD_mem (by rw [HL.out]; exact hlt))
      have hyr := good_act hy
      simp only at hyr
      have B3 : Hid (Below w.heap.size w (wr.alloc (.cells #[.int .i64 yw, .int .i64 yi, .bool yb] 59))) := hnx.alloc (by omega) _
      have O3 : Hid ((wr.alloc (.cells #[.int .i64 yw, .int .i64 yi, .bool yb] 59)).ownsRow w.heap.size 3 1 (.slice (some ⟨w.heap.size, 0, none⟩) 16 16) 16 (ints .i64 (tally (P2 xs k ++ ((xs.drop (k + 1)).take 0).map fun x => ((yw, yi, yb), x))))) := by
        show World.ownsRow _ _ _ _ _ _ _
        rw [List.take_zero, List.map_nil, List.append_nil]
        exact own_below HO.out ((Below.refl _ _).alloc (Nat.le_refl _) _)
      have C3 : Hid ((wr.alloc (.cells #[.int .i64 yw, .int .i64 yi, .bool yb] 59)).cell? ⟨wr.heap.size, 0, none⟩ = some (.int .i64 yw) ∧ (wr.alloc (.cells #[.int .i64 yw, .int .i64 yi, .bool yb] 59)).cell? ⟨wr.heap.size, 1, none⟩ = some (.int .i64 yi) ∧ (wr.alloc (.cells #[.int .i64 yw, .int .i64 yi, .bool yb] 59)).cell? ⟨wr.heap.size, 2, none⟩ = some (.bool yb)) := by
        show _ ∧ _ ∧ _
        refine ⟨?_, ?_, ?_⟩ <;> rw [World.cell?_alloc_at _ _ _ _ rfl] <;> rfl
      have hs3 : wr.heap.size < (wr.alloc (.cells #[.int .i64 yw, .int .i64 yi, .bool yb] 59)).heap.size := by simp
      have HS3 : Hid (wr.heap.size < (wr.alloc (.cells #[.int .i64 yw, .int .i64 yi, .bool yb] 59)).heap.size) := hs3
      obtain ⟨k1, hk1⟩ : ∃ k1, k1 = k + 1 := ⟨_, rfl⟩
      have hk1I : IntKind.i64.wrap ((k : Int) + 1) = (k1 : Int) := by simp [IntKind.wrap, IntKind.bits, IntKind.signed]; omega
      have hk1n : (k1 : Int) ≤ (n : Int) := by omega
      have hk1c : (k1 : Int) ≤ (cap : Int) := by omega
      have hk10 : (0 : Int) ≤ (k1 : Int) := by omega
      obtain ⟨sa, hsa⟩ : ∃ a2, (if cap = k1 then some (⟨b, off, none⟩ : Addr) else some ⟨b, off + k1 * 3, none⟩) = a2 := ⟨_, rfl⟩
      have HK : Hid (IsX w sa (n - k1) (cap - k1) (xs.drop (k + 1))) := isX_suf2 HI.out hk1 (by omega) hsa
      have HSA : Hid ((if cap = k1 then some (⟨b, off, none⟩ : Addr) else some ⟨b, off + k1 * 3, none⟩) = sa) := hsa
      have HK1 : Hid (k1 = k + 1) := hk1
      clear hx hnx hy hs3 hs1 hs2 hk1
      go_wp2_with fail
      clear hsa
      go_loopw [21] (fun i wq => ∃ j : Nat, j ≤ (n - k1) ∧ i = .int .i64 j ∧ wr.heap.size < wq.heap.size ∧ (wq).ownsRow w.heap.size 3 1 (.slice (some ⟨w.heap.size, 0, none⟩) 16 16) 16 (ints .i64 (tally (P2 xs k ++ ((xs.drop (k + 1)).take j).map fun x => ((yw, yi, yb), x)))) ∧ (wq.cell? ⟨wr.heap.size, 0, none⟩ = some (.int .i64 yw) ∧ wq.cell? ⟨wr.heap.size, 1, none⟩ = some (.int .i64 yi) ∧ wq.cell? ⟨wr.heap.size, 2, none⟩ = some (.bool yb)) ∧ Below w.heap.size w wq) (fun i _ => (n - k1) - (intOf i).toNat)
      case atStart => exact ⟨0, by omega, rfl, HS3.out, O3.out, C3.out, B3.out⟩
      case round =>
        rename World => wq
        obtain ⟨j, hj, rfl, hsq, ho, hcc, hnq⟩ := hrel
        have HNQ : Hid (Below w.heap.size w wq) := hnq
        have HO2 : Hid ((wq).ownsRow w.heap.size 3 1 (.slice (some ⟨w.heap.size, 0, none⟩) 16 16) 16 (ints .i64 (tally (P2 xs k ++ ((xs.drop (k + 1)).take j).map fun x => ((yw, yi, yb), x))))) := ho
        have HCC : Hid (wq.cell? ⟨wr.heap.size, 0, none⟩ = some (.int .i64 yw) ∧ wq.cell? ⟨wr.heap.size, 1, none⟩ = some (.int .i64 yi) ∧ wq.cell? ⟨wr.heap.size, 2, none⟩ = some (.bool yb)) := hcc
        clear ho hcc
        by_cases hlt2 : j < (n - k1)
        · have hlen2 : j < (xs.drop (k + 1)).length := by rw [HK.out.len]; exact hlt2
          obtain ⟨b2, off2, xw, xi, xb, hsb, q0, q1, q2, hx2⟩ := act_at HK.out hnq hlt2
          have hxm : actB (xw, xi, xb) = true := by rw [← hx2]; exact HAL.out _ (List.mem_of_mem_drop (FAct.getD_mem hlen2))
          have hxr := good_act hxm
          simp only at hxr
          have HPS : Hid (((xs.drop (k + 1)).take (j + 1)).map (fun x => ((yw, yi, yb), x)) = ((xs.drop (k + 1)).take j).map (fun x => ((yw, yi, yb), x)) ++ [((yw, yi, yb), (xw, xi, xb))]) := by show _ = _; rw [map_take_succ hlen2, hx2]
          have hplen : (P2 xs k ++ ((xs.drop (k + 1)).take j).map fun x => ((yw, yi, yb), x)).length ≤ 1048576 := by
            rw [List.length_append, List.length_map, List.length_take]
            have := P2_length xs (by rw [HL.out]; exact hn16) k
            omega
          have B5 : Hid (Below w.heap.size w (wq.alloc (.cells #[.int .i64 xw, .int .i64 xi, .bool xb] 59))) := hnq.alloc HNQ.out.size _
          have BB : Hid (Below wq.heap.size wq (wq.alloc (.cells #[.int .i64 xw, .int .i64 xi, .bool xb] 59))) := (Below.refl _ _).alloc (Nat.le_refl _) _
          have O5 : Hid ((wq.alloc (.cells #[.int .i64 xw, .int .i64 xi, .bool xb] 59)).ownsRow w.heap.size 3 1 (.slice (some ⟨w.heap.size, 0, none⟩) 16 16) 16 (ints .i64 (tally (P2 xs k ++ ((xs.drop (k + 1)).take j).map fun x => ((yw, yi, yb), x))))) := own_below HO2.out BB.out
          have e0 := HCC.out.1
          have e1 := HCC.out.2.1
          have e2 := HCC.out.2.2
          subst hsb
          obtain ⟨i1, hi1⟩ : ∃ i1 : Nat, yw = (i1 : Int) := ⟨yw.toNat, by omega⟩
          obtain ⟨i2, hi2⟩ : ∃ i2 : Nat, xw = (i2 : Int) := ⟨xw.toNat, by omega⟩
          obtain ⟨c, hc⟩ : ∃ c, c = 4 * i1 + i2 := ⟨_, rfl⟩
          have hidx : 4 * yw + xw = (c : Int) := by omega
          have hc16 : c < 16 := by omega
          have hcI : (c : Int) < 16 := by omega
          have hc0 : (0 : Int) ≤ (c : Int) := by omega
          have HIX : Hid (idxN (yw, yi, yb) (xw, xi, xb) = (c : Int)) := hidx
          have HYX : Hid (c < 16) := hc16
          clear hx2 hnq hlen2 hxm hc hi1 hi2
          go_wp2_with fail
          refine (l7Clash _ _ _ _ _ _ _).mono ?_
          rintro e w6 ⟨rfl, hb6⟩
          have HO6 : Hid ((w6).ownsRow w.heap.size 3 1 (.slice (some ⟨w.heap.size, 0, none⟩) 16 16) 16 (ints .i64 (tally (P2 xs k ++ ((xs.drop (k + 1)).take j).map fun x => ((yw, yi, yb), x))))) := own_below O5.out hb6
          have B6 : Hid (Below w.heap.size w w6) := Frame.next B5.out hb6 B5.out.size
          have BQ : Hid (Below wq.heap.size wq w6) := Frame.next BB.out hb6 BB.out.size
          have C6 : Hid (w6.cell? ⟨wr.heap.size, 0, none⟩ = some (.int .i64 yw) ∧ w6.cell? ⟨wr.heap.size, 1, none⟩ = some (.int .i64 yi) ∧ w6.cell? ⟨wr.heap.size, 2, none⟩ = some (.bool yb)) := ⟨Frame.held_cell BQ.out HCC.out.1, Frame.held_cell BQ.out HCC.out.2.1, Frame.held_cell BQ.out HCC.out.2.2⟩
          have hs6 : wq.heap.size < w6.heap.size := Nat.lt_of_lt_of_le (by simp) hb6.size
          have g0 : w6.cell? ⟨wq.heap.size, 0, none⟩ = some (.int .i64 xw) := by rw [(Frame.bcell hb6).1 _ _ (by simp)]; go_simp
          clear hb6 e0 e1 e2
          cases hv : clashB (yw, yi, yb) (xw, xi, xb)
          · have F : Hid (tally (P2 xs k ++ ((xs.drop (k + 1)).take (j + 1)).map fun x => ((yw, yi, yb), x)) = tally (P2 xs k ++ ((xs.drop (k + 1)).take j).map fun x => ((yw, yi, yb), x))) := by
              show _ = _
              rw [HPS.out, ← List.append_assoc]
              exact tally_no hv
            clear hv
            go_wp2
            go_roundw
            case rel => exact ⟨j + 1, by omega, by go_num, by omega, by rw [F.out]; exact HO6.out, C6.out, B6.out⟩
            case measure => simp [intOf]; omega
          · have F : Hid ((ints .i64 (tally (P2 xs k ++ ((xs.drop (k + 1)).take j).map fun x => ((yw, yi, yb), x)))).set c (.int .i64 ((tally (P2 xs k ++ ((xs.drop (k + 1)).take j).map fun x => ((yw, yi, yb), x))).getD c 0 + 1)) = ints .i64 (tally (P2 xs k ++ ((xs.drop (k + 1)).take (j + 1)).map fun x => ((yw, yi, yb), x)))) := by
              show _ = _
              rw [HPS.out, ← List.append_assoc, tally_yes hv HIX.out HYX.out]
              simp [ints, List.map_set]
            have hold : w6.cell? ⟨w.heap.size, c, none⟩ = some (.int .i64 ((tally (P2 xs k ++ ((xs.drop (k + 1)).take j).map fun x => ((yw, yi, yb), x))).getD c 0)) := by
              rw [HO6.out.cellAt c (by have := HYX.out; omega)]
              exact ints_get .i64 _ c (by rw [tally_length]; exact HYX.out)
            have hbd := tally_bounds (P2 xs k ++ ((xs.drop (k + 1)).take j).map fun x => ((yw, yi, yb), x)) c HYX.out
            generalize (tally (P2 xs k ++ ((xs.drop (k + 1)).take j).map fun x => ((yw, yi, yb), x))).getD c 0 = z at hold hbd F
            have hz1 : -9223372036854775808 ≤ z + 1 := by omega
            have hz2' : z + 1 ≤ 9223372036854775807 := by omega
            have HST : Hid ((w6.setCell ⟨w.heap.size, c, none⟩ (.int .i64 (z + 1))).ownsRow w.heap.size 3 1 (.slice (some ⟨w.heap.size, 0, none⟩) 16 16) 16 (ints .i64 (tally (P2 xs k ++ ((xs.drop (k + 1)).take (j + 1)).map fun x => ((yw, yi, yb), x))))) := stored_as HO6.out F.out
            have CST : Hid ((w6.setCell ⟨w.heap.size, c, none⟩ (.int .i64 (z + 1))).cell? ⟨wr.heap.size, 0, none⟩ = some (.int .i64 yw) ∧ (w6.setCell ⟨w.heap.size, c, none⟩ (.int .i64 (z + 1))).cell? ⟨wr.heap.size, 1, none⟩ = some (.int .i64 yi) ∧ (w6.setCell ⟨w.heap.size, c, none⟩ (.int .i64 (z + 1))).cell? ⟨wr.heap.size, 2, none⟩ = some (.bool yb)) := ⟨far_cell (by omega) C6.out.1, far_cell (by omega) C6.out.2.1, far_cell (by omega) C6.out.2.2⟩
            have hfz := HO6.out.frozenAt c
            have e0 := C6.out.1
            have hb1' := B1.out.size
            have BST : Hid (Below w.heap.size w (w6.setCell ⟨w.heap.size, c, none⟩ (.int .i64 (z + 1)))) := B6.out.setCell hb1' _
            clear hv hbd hplen hb1'
            go_wp2
            go_roundw
            case rel => exact ⟨j + 1, by omega, by go_num, by simp [World.setCell]; omega, HST.out, CST.out, BST.out⟩
            case measure => simp [intOf]; omega
        · obtain rfl : j = (n - k1) := by omega
          have F : Hid ((wq).ownsRow w.heap.size 3 1 (.slice (some ⟨w.heap.size, 0, none⟩) 16 16) 16 (ints .i64 (tally (P2 xs (k + 1))))) := by
            show World.ownsRow _ _ _ _ _ _ _
            have := HO2.out
            rw [List.take_of_length_le (by rw [HK.out.len]; omega)] at this
            rw [P2_succ, HX.out]
            exact this
          clear HO2 hnq
          go_wp2
          go_roundw
          case rel => exact ⟨k + 1, by have := HK1.out; omega, by rw [HK1.out], by omega, F.out, HNQ.out⟩
          case measure => have := HK1.out; simp [intOf]; omega
    · obtain rfl : k = n := by omega
      have O4 : Hid (wr.ownsRow w.heap.size 3 1 (.slice (some ⟨w.heap.size, 0, none⟩) 16 16) 16 (ints .i64 (confN xs))) := by
        show World.ownsRow _ _ _ _ _ _ _
        rw [confN_2, HL.out]
        exact HO.out
      clear HO hnx
      go_wp2
      go_ret
      exact ⟨rfl, O4.out, HN.out⟩

set_option maxHeartbeats 800000 in
theorem spec_ConflictsOf (v : Value) (xs : List D) (w : World) (h : XIs w v xs) :
    Calls Try.prog 17 #[v] w fun e w' => ∃ u, e = .returned (.tuple #[u, .bool (goodP xs)]) ∧ IOwn w' w.heap.size w'.heap.size u (confV xs) ∧ Below w.heap.size w w' := by
  obtain ⟨a, n, cap, rfl, hr, hn⟩ := h
  have HL : Hid (xs.length = n) := hr.len
  have HI : Hid (IsX w a n cap xs) := hr
  clear hr
  cases hg : goodP xs
  · have E : Hid (confV xs = []) := if_neg (by rw [hg]; exact Bool.false_ne_true)
    have HG : Hid (goodP xs = false) := hg
    clear hg
    go_enter Try.func17, Try.ntmps17
    go_wp2_with fail
    refine (spec_GoodPlay a n cap xs _ HI.out).mono ?_
    rintro e w1 ⟨rfl, hb1⟩
    have B1 : Hid (Below w.heap.size w w1) := hb1
    clear hb1
    rw [HG.out]
    go_wp2_with fail
    go_ret2
    exact ⟨_, rfl, by rw [E.out]; exact iOwn_nil _ _ _, B1.out⟩
  · have E : Hid (confV xs = confN xs) := if_pos hg
    have HG : Hid (goodP xs = true) := hg
    have HWF : Hid (∀ z ∈ confN xs, (Lit.int .i64 z).wf = true) := tally_wf (by have := P1_length xs (good_len hg) xs.length; have := good_len hg; omega)
    clear hg
    go_enter Try.func17, Try.ntmps17
    go_wp2_with fail
    refine (spec_GoodPlay a n cap xs _ HI.out).mono ?_
    rintro e w1 ⟨rfl, hb1⟩
    have B1 : Hid (Below w.heap.size w w1) := hb1
    clear hb1
    rw [HG.out]
    go_wp2_with fail
    refine (spec_conflicts a n cap xs _ (HI.out.below B1.out) HG.out).mono ?_
    rintro e w2 ⟨rfl, ho2, hb2⟩
    have O2 : Hid (w2.ownsRow w.heap.size 3 1 (.slice (some ⟨w1.heap.size, 0, none⟩) 16 16) 16 (ints .i64 (confN xs))) := Mem.own_base ho2 B1.out.size
    have B2 : Hid (Below w.heap.size w w2) := Frame.next B1.out hb2 B1.out.size
    clear ho2 hb2
    go_wp2
    go_ret2
    exact ⟨_, rfl, by rw [E.out]; exact iOwn_of O2.out HWF.out (by omega), B2.out⟩


end Go.Proofs.Yteihgbiifcgipaa.Pco
