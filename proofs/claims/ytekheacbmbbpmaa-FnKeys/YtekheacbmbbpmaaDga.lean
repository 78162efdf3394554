/-
  Contracts of GoodDeps, of the program and of the model.
-/
import Derived.Test.YtekheacbmbbpmaaCpu
import Derived.Test.YtekheacbmbbpmaaDlk
import Derived.Test.YtekheacbmbbpmaaOa
import Derived.Test.YtekheacbmbbpmaaSa
namespace Go.Proofs.Ytekheacbmbbpmaa.Dga
open Go.RowKit
open Go.Proofs.Ytekheacbmbbpmaa.Frame Go.Proofs.Ytekheacbmbbpmaa.Mem Go.Proofs.Ytekheacbmbbpmaa.Ints Go.Proofs.Ytekheacbmbbpmaa.Kep Go.Proofs.Ytekheacbmbbpmaa.Lls Go.Proofs.Ytekheacbmbbpmaa.Krl Go.Proofs.Ytekheacbmbbpmaa.Dls Go.Proofs.Ytekheacbmbbpmaa.Dlk
open Go.Proofs.Ytekheacbmbbpmaa.Rel hiding Ll
open Go.Proofs.Ytekheacbmbbpmaa.Cpu hiding Dp

set_option maxHeartbeats 800000 in
theorem areColumns (cols : Int) (a : Option Addr) (n ca : Nat) (zs : List Int) (w : World) (ha : IsRow .i64 w a n ca zs) :
    Calls Try.prog 33 #[.int .i64 cols, .slice a n ca] w fun e w' => e = .returned (.bool (riseB 0 (cols - 1) zs)) ∧ Below w.heap.size w w' := by
  have hmaxn : n ≤ 9223372036854775807 := by have := ha.fits; have := ha.max; unfold maxLen at *; omega
  have HL : Hid (zs.length = n) := ha.len
  have HI : Hid (IsRow .i64 w a n ca zs) := ha
  clear ha
  by_cases h0 : n = 0
  · have hz : ((n : Int) == 0) = true := by rw [h0]; rfl
    have F : Hid (riseB 0 (cols - 1) zs = true) := by
      have : zs = [] := List.eq_nil_of_length_eq_zero (by rw [HL.out]; exact h0)
      show _ = _
      rw [this]
      exact rise_iff.2 ⟨fun z hz => (by cases hz), by simp [UpN]⟩
    clear h0
    go_enter Try.func33, Try.ntmps33
    go_wp2
    go_ret
    exact ⟨ret_bool F.out.symm, Below.refl _ _⟩
  · have hz : ((n : Int) == 0) = false := by rw [beq_eq_false_iff_ne]; omega
    obtain ⟨b, off, rfl, hbl, hc⟩ := HI.out.cells (by omega)
    obtain ⟨p, hp⟩ : ∃ p, p = n - 1 := ⟨_, rfl⟩
    have q0 : w.cell? ⟨b, off, none⟩ = some (.int .i64 (zs.getD 0 0)) := by have := hc 0 (by omega); rwa [Nat.add_zero] at this
    have q1 : w.cell? ⟨b, off + p, none⟩ = some (.int .i64 (zs.getD p 0)) := hc p (by omega)
    have HE : Hid (riseB 0 (cols - 1) zs = (decide (UpN zs) && decide (0 ≤ zs.getD 0 0) && decide (zs.getD p 0 < cols))) := by
      show _ = _
      rw [rise_ends (by rw [HL.out]; omega), HL.out, hp]
    have hwr : IntKind.i64.wrap ((n : Int) - 1) = (p : Int) := by simp [IntKind.wrap, IntKind.bits, IntKind.signed]; omega
    have hpn : (p : Int) < (n : Int) := by omega
    have hn0 : (0 : Int) < (n : Int) := by omega
    generalize zs.getD 0 0 = x at q0 HE
    generalize zs.getD p 0 = y at q1 HE
    clear hc h0 hp
    go_enter Try.func33, Try.ntmps33
    go_wp2_with fail
    refine (Oa.rises_int _ _ _ zs _ HI.out).mono ?_
    rintro e w1 ⟨rfl, hb1⟩
    have c0 : w1.cell? ⟨b, off, none⟩ = some (.int .i64 x) := Frame.held_cell hb1 q0
    have c1 : w1.cell? ⟨b, off + p, none⟩ = some (.int .i64 y) := Frame.held_cell hb1 q1
    have B1 : Hid (Below w.heap.size w w1) := hb1
    clear hb1 q0 q1
    generalize decide (UpN zs) = U at HE ⊢
    cases U
    · go_wp2
      go_ret
      exact ⟨ret_bool (by rw [HE.out]; rfl), B1.out⟩
    · by_cases hx : 0 ≤ x
      · have hxb : decide (0 ≤ x) = true := decide_eq_true hx
        go_wp2
        go_ret
        exact ⟨ret_bool (by rw [HE.out, hxb]; rfl), B1.out⟩
      · have hxb : decide (0 ≤ x) = false := decide_eq_false hx
        go_wp2
        go_ret
        exact ⟨ret_bool (by rw [HE.out, hxb]; rfl), B1.out⟩

set_option maxHeartbeats 800000 in
theorem isDep (cols : Int) (u t : Value) (d : Dp) (w : World) (h : EIs w u t d) :
    Calls Try.prog 32 #[.int .i64 cols, .agg #[u, t]] w fun e w' => e = .returned (.bool (depB cols d)) ∧ Below w.heap.size w w' := by
  obtain ⟨⟨ua, un, uc, rfl, hu, hun⟩, ⟨ta, tn, tc, rfl, ht, htn⟩⟩ := h
  have b0 : Below w.heap.size w (w.alloc (.cells #[.slice ua un uc, .slice ta tn tc] 36)) := (Below.refl w.heap.size w).alloc (Nat.le_refl _) _
  have HU : Hid (IsRow .i64 (w.alloc (.cells #[.slice ua un uc, .slice ta tn tc] 36)) ua un uc d.1) := IsRow.below hu b0
  have HT : Hid (IsRow .i64 (w.alloc (.cells #[.slice ua un uc, .slice ta tn tc] 36)) ta tn tc d.2) := IsRow.below ht b0
  have B0 : Hid (Below w.heap.size w (w.alloc (.cells #[.slice ua un uc, .slice ta tn tc] 36))) := b0
  have HE : Hid (depB cols d = (riseB 0 (cols - 1) d.1 && riseB 0 (cols - 1) d.2)) := rfl
  clear hu ht b0 hun htn
  go_enter Try.func32, Try.ntmps32
  go_wp2_with fail
  refine (areColumns cols _ _ _ d.1 _ HU.out).mono ?_
  rintro e w1 ⟨rfl, hb1⟩
  have p1 : w1.cell? ⟨w.heap.size, 1, none⟩ = some (.slice ta tn tc) := by rw [(Frame.bcell hb1).1 _ _ (by simp)]; go_simp
  have B1 : Hid (Below w.heap.size w w1) := Frame.next B0.out hb1 (by simp)
  have HT1 : Hid (IsRow .i64 w1 ta tn tc d.2) := IsRow.below HT.out hb1
  clear hb1
  generalize riseB 0 (cols - 1) d.1 = R at HE ⊢
  cases R
  · go_wp2
    go_ret
    exact ⟨ret_bool (by rw [HE.out]; rfl), B1.out⟩
  · go_wp2_with fail
    refine (areColumns cols _ _ _ d.2 _ HT1.out).mono ?_
    rintro e w2 ⟨rfl, hb2⟩
    have B2 : Hid (Below w.heap.size w w2) := Frame.next B1.out hb2 B1.out.size
    clear hb2 p1
    go_wp2
    go_ret
    exact ⟨ret_bool (by rw [HE.out]; rfl), B2.out⟩

set_option maxHeartbeats 800000 in
theorem l5Dep (cols : Int) (u t : Value) (d : Dp) (w : World) (h : EIs w u t d) (hc1 : 1 ≤ cols) (hc6 : cols ≤ 6) :
    Calls Try.prog 48 #[.int .i64 cols, .agg #[u, t]] w fun e w' => e = .returned (.bool (depB cols d)) ∧ Below w.heap.size w w' := by
  obtain ⟨⟨ua, un, uc, rfl, hu, hun⟩, ⟨ta, tn, tc, rfl, ht, htn⟩⟩ := h
  have b0 : Below w.heap.size w (w.alloc (.cells #[.slice ua un uc, .slice ta tn tc] 36)) := (Below.refl w.heap.size w).alloc (Nat.le_refl _) _
  have HU : Hid (IsRow .i64 (w.alloc (.cells #[.slice ua un uc, .slice ta tn tc] 36)) ua un uc d.1) := IsRow.below hu b0
  have HT : Hid (IsRow .i64 (w.alloc (.cells #[.slice ua un uc, .slice ta tn tc] 36)) ta tn tc d.2) := IsRow.below ht b0
  have B0 : Hid (Below w.heap.size w (w.alloc (.cells #[.slice ua un uc, .slice ta tn tc] 36))) := b0
  have HE : Hid (depB cols d = (riseB 0 (cols - 1) d.1 && riseB 0 (cols - 1) d.2)) := rfl
  clear hu ht b0 hun htn
  go_enter Try.func48, Try.ntmps48
  go_wp2_with fail
  refine (Sa.spec_l1Rising _ _ _ d.1 0 (cols - 1) _ HU.out).mono ?_
  rintro e w1 ⟨rfl, rfl⟩
  generalize riseB 0 (cols - 1) d.1 = R at HE ⊢
  cases R
  · go_wp2
    go_ret
    exact ⟨ret_bool (by rw [HE.out]; rfl), B0.out⟩
  · go_wp2_with fail
    refine (Sa.spec_l1Rising _ _ _ d.2 0 (cols - 1) _ HT.out).mono ?_
    rintro e w2 ⟨rfl, rfl⟩
    go_wp2
    go_ret
    exact ⟨ret_bool (by rw [HE.out]; rfl), B0.out⟩

/-- The k-th sentence of a slice of them, at a later world. -/
theorem dep_at {w wr : World} {a : Option Addr} {n cap k : Nat} {rs : List LV} (h : IsG w a n cap rs) (hb : Below w.heap.size w wr) (hk : k < n) (hs : ∀ r ∈ rs, r.n ≤ 1048576) :
    ∃ b off fa fn fc ta tn tc d, a = some ⟨b, off, none⟩ ∧ wr.cell? ⟨b, off + k * 2, none⟩ = some (.slice fa fn fc) ∧ wr.cell? ⟨b, off + k * 2 + 1, none⟩ = some (.slice ta tn tc) ∧ EIs wr (.slice fa fn fc) (.slice ta tn tc) d ∧ (dpl rs).getD k Dls.d0 = d := by
  obtain ⟨b, off, rfl, hbl, hc⟩ := h.cells (by omega)
  have hl := h.len
  have k1 : k * 2 + 1 < rs.length := by omega
  refine ⟨b, off, _, _, _, _, _, _, _, rfl, ?_, ?_, ⟨⟨_, _, _, rfl, IsRow.below (h.rows _ (getD_mem_ld (show k * 2 < rs.length by omega))) hb, hs _ (getD_mem_ld (by omega))⟩, ⟨_, _, _, rfl, IsRow.below (h.rows _ (getD_mem_ld k1)) hb, hs _ (getD_mem_ld k1)⟩⟩, dpl_get k rs k1⟩
  · rw [hb.cell (p := ⟨b, off + k * 2, none⟩) hbl]; exact (hc k hk).1
  · rw [hb.cell (p := ⟨b, off + k * 2 + 1, none⟩) hbl]; exact (hc k hk).2

theorem goodD_few {cols : Int} {ds : List Dp} (h : Val.inB cols 1 6 = false) : goodD cols ds = false := by unfold goodD; rw [h]; rfl
theorem goodD_most {cols : Int} {ds : List Dp} (h : ¬ ds.length ≤ 8) : goodD cols ds = false := by unfold goodD; rw [decide_eq_false h, Bool.and_false]; rfl
theorem goodD_rest {cols : Int} {ds : List Dp} (h1 : Val.inB cols 1 6 = true) (h2 : ds.length ≤ 8) : goodD cols ds = ds.all (depB cols) := by unfold goodD; rw [h1, decide_eq_true h2]; rfl

set_option maxRecDepth 4000 in
set_option maxHeartbeats 1600000 in
theorem impl_GoodDepsG (cols : Int) (a : Option Addr) (n cap : Nat) (rs : List LV) (w : World) (hg : IsG w a n cap rs) (hn : n ≤ 1048576) (hr : ∀ r ∈ rs, r.n ≤ 1048576) :
    Calls Try.prog 10 #[.int .i64 cols, .slice a n cap] w fun e w' => e = .returned (.bool (goodD cols (dpl rs))) ∧ Below w.heap.size w w' := by
  have HS : Hid (∀ r ∈ rs, r.n ≤ 1048576) := hr
  have HL : Hid ((dpl rs).length = n) := dpl_length n rs hg.len
  have HI : Hid (IsG w a n cap rs) := hg
  clear hg hr
  by_cases h1 : 1 ≤ cols
  · by_cases h6 : cols ≤ 6
    · by_cases h8 : n ≤ 8
      · have hn8 : (n : Int) ≤ 8 := by omega
        have HG : Hid (goodD cols (dpl rs) = (dpl rs).all (depB cols)) := goodD_rest (by unfold Val.inB; exact decide_eq_true ⟨h1, h6⟩) (by rw [HL.out]; exact h8)
        go_enter Try.func10, Try.ntmps10
        go_wp2_with fail
        go_loopw [20] (fun i wr => ∃ k : Nat, k ≤ n ∧ i = .int .i64 k ∧ ((dpl rs).take k).all (depB cols) = true ∧ Below w.heap.size w wr) (fun i _ => n - (intOf i).toNat)
        case atStart => exact ⟨0, Nat.zero_le _, rfl, rfl, Below.refl _ _⟩
        case round =>
          obtain ⟨k, hk, rfl, ha, hnx⟩ := hrel
          have HA : Hid (((dpl rs).take k).all (depB cols) = true) := ha
          have HN : Hid (Below w.heap.size w wr) := hnx
          have hsr := hnx.size
          clear ha
          by_cases hlt : k < n
          · obtain ⟨b, off, fa, fn, fc, ta, tn, tc, d, rfl, p0, p1, he, hd⟩ := dep_at HI.out hnx hlt HS.out
            have HNO : Hid (depB cols d = false → goodD cols (dpl rs) = false) := fun e => by rw [HG.out]; exact all_no (d := Dls.d0) (by rw [HL.out]; exact hlt) (by rw [hd]; exact e)
            have HYES : Hid (depB cols d = true → ((dpl rs).take (k + 1)).all (depB cols) = true) := fun e => all_next (d := Dls.d0) (by rw [HL.out]; exact hlt) HA.out (by rw [hd]; exact e)
            have B1 : Hid (Below w.heap.size w (wr.alloc (.cells #[.slice fa fn fc, .slice ta tn tc] 36))) := hnx.alloc hsr _
            have HE : Hid (EIs (wr.alloc (.cells #[.slice fa fn fc, .slice ta tn tc] 36)) (.slice fa fn fc) (.slice ta tn tc) d) := eIs_below he ((Below.refl _ _).alloc (Nat.le_refl _) _)
            clear he hd hnx
            go_wp2_with fail
            refine (isDep cols _ _ d _ HE.out).mono ?_
            rintro e w1 ⟨rfl, hb1⟩
            have N1 : Hid (Below w.heap.size w w1) := Frame.next B1.out hb1 B1.out.size
            clear hb1
            cases hv : depB cols d
            · have F : Hid (goodD cols (dpl rs) = false) := HNO.out hv
              clear hv
              go_wp2
              go_ret
              exact ⟨ret_bool F.out.symm, N1.out⟩
            · have F : Hid (((dpl rs).take (k + 1)).all (depB cols) = true) := HYES.out hv
              clear hv
              go_wp2
              go_roundw
              case rel => exact ⟨k + 1, by omega, by go_num, F.out, N1.out⟩
              case measure => simp [intOf]; omega
          · have F : Hid (goodD cols (dpl rs) = true) := by
              show _ = _
              rw [HG.out]
              have := HA.out
              rwa [List.take_of_length_le (by rw [HL.out]; omega)] at this
            clear hnx
            go_wp2
            go_ret
            exact ⟨ret_bool F.out.symm, HN.out⟩
      · have hn8 : (8 : Int) < (n : Int) := by omega
        have F : Hid (goodD cols (dpl rs) = false) := goodD_most (by rw [HL.out]; exact h8)
        go_enter Try.func10, Try.ntmps10
        go_wp2
        go_ret
        exact ⟨ret_bool F.out.symm, Below.refl _ _⟩
    · have F : Hid (goodD cols (dpl rs) = false) := goodD_few (by unfold Val.inB; exact decide_eq_false (fun h => h6 h.2))
      have h6' : 6 < cols := by omega
      go_enter Try.func10, Try.ntmps10
      go_wp2
      go_ret
      exact ⟨ret_bool F.out.symm, Below.refl _ _⟩
  · have F : Hid (goodD cols (dpl rs) = false) := goodD_few (by unfold Val.inB; exact decide_eq_false (fun h => h1 h.1))
    have h1' : cols < 1 := by omega
    go_enter Try.func10, Try.ntmps10
    go_wp2
    go_ret
    exact ⟨ret_bool F.out.symm, Below.refl _ _⟩

theorem impl_GoodDeps (cols : Int) (v : Value) (ds : List Dp) (w : World) (h : DIs w v ds) :
    Calls Try.prog 10 #[.int .i64 cols, v] w fun e w' => e = .returned (.bool (goodD cols ds)) ∧ Below w.heap.size w w' := by
  obtain ⟨a, n, cap, rs, rfl, hg, rfl, hsz⟩ := h
  have hs := small_ds hsz
  exact impl_GoodDepsG cols a n cap rs w hg hs.1 hs.2

set_option maxRecDepth 4000 in
set_option maxHeartbeats 1600000 in
theorem spec_GoodDepsG (cols : Int) (a : Option Addr) (n cap : Nat) (rs : List LV) (w : World) (hg : IsG w a n cap rs) (hn : n ≤ 1048576) (hr : ∀ r ∈ rs, r.n ≤ 1048576) :
    Calls Try.prog 26 #[.int .i64 cols, .slice a n cap] w fun e w' => e = .returned (.bool (goodD cols (dpl rs))) ∧ Below w.heap.size w w' := by
  have HS : Hid (∀ r ∈ rs, r.n ≤ 1048576) := hr
  have HL : Hid ((dpl rs).length = n) := dpl_length n rs hg.len
  have HI : Hid (IsG w a n cap rs) := hg
  clear hg hr
  cases hin : Val.inB cols 1 6
  · have F : Hid (goodD cols (dpl rs) = false) := goodD_few hin
    have HIN : Hid (Val.inB cols 1 6 = false) := hin
    clear hin
    go_enter Try.func26, Try.ntmps26
    go_wp2_with fail
    refine (Val.spec_In _ _ _ _).mono ?_
    rintro e w' ⟨rfl, rfl⟩
    rw [HIN.out]
    go_wp2
    go_ret
    exact ⟨ret_bool F.out.symm, Below.refl _ _⟩
  · have HIN : Hid (Val.inB cols 1 6 = true) := hin
    have hc : 1 ≤ cols ∧ cols ≤ 6 := of_decide_eq_true hin
    have hc1 := hc.1
    have hc6 := hc.2
    clear hin hc
    by_cases h8 : n ≤ 8
    · have hn8 : (n : Int) ≤ 8 := by omega
      have HG : Hid (goodD cols (dpl rs) = (dpl rs).all (depB cols)) := goodD_rest HIN.out (by rw [HL.out]; exact h8)
      go_enter Try.func26, Try.ntmps26
      go_wp2_with fail
      refine (Val.spec_In _ _ _ _).mono ?_
      rintro e w' ⟨rfl, hww⟩
      obtain rfl := hww.symm
      rw [HIN.out]
      go_wp2_with fail
      go_loopw [17] (fun i wr => ∃ k : Nat, k ≤ n ∧ i = .int .i64 k ∧ ((dpl rs).take k).all (depB cols) = true ∧ Below w.heap.size w wr) (fun i _ => n - (intOf i).toNat)
      case atStart => exact ⟨0, Nat.zero_le _, rfl, rfl, Below.refl _ _⟩
      case round =>
        obtain ⟨k, hk, rfl, ha, hnx⟩ := hrel
        have HA : Hid (((dpl rs).take k).all (depB cols) = true) := ha
        have HN : Hid (Below w.heap.size w wr) := hnx
        have hsr := hnx.size
        clear ha
        by_cases hlt : k < n
        · obtain ⟨b, off, fa, fn, fc, ta, tn, tc, d, rfl, p0, p1, he, hd⟩ := dep_at HI.out hnx hlt HS.out
          have HNO : Hid (depB cols d = false → goodD cols (dpl rs) = false) := fun e => by rw [HG.out]; exact all_no (d := Dls.d0) (by rw [HL.out]; exact hlt) (by rw [hd]; exact e)
          have HYES : Hid (depB cols d = true → ((dpl rs).take (k + 1)).all (depB cols) = true) := fun e => all_next (d := Dls.d0) (by rw [HL.out]; exact hlt) HA.out (by rw [hd]; exact e)
          have B1 : Hid (Below w.heap.size w (wr.alloc (.cells #[.slice fa fn fc, .slice ta tn tc] 36))) := hnx.alloc hsr _
          have HE : Hid (EIs (wr.alloc (.cells #[.slice fa fn fc, .slice ta tn tc] 36)) (.slice fa fn fc) (.slice ta tn tc) d) := eIs_below he ((Below.refl _ _).alloc (Nat.le_refl _) _)
          clear he hd hnx
          go_wp2_with fail
          refine (l5Dep cols _ _ d _ HE.out hc1 hc6).mono ?_
          rintro e w1 ⟨rfl, hb1⟩
          have N1 : Hid (Below w.heap.size w w1) := Frame.next B1.out hb1 B1.out.size
          clear hb1
          cases hv : depB cols d
          · have F : Hid (goodD cols (dpl rs) = false) := HNO.out hv
            clear hv
            go_wp2
            go_ret
            exact ⟨ret_bool F.out.symm, N1.out⟩
          · have F : Hid (((dpl rs).take (k + 1)).all (depB cols) = true) := HYES.out hv
            clear hv
            go_wp2
            go_roundw
            case rel => exact ⟨k + 1, by omega, by go_num, F.out, N1.out⟩
            case measure => simp [intOf]; omega
        · have F : Hid (goodD cols (dpl rs) = true) := by
            show _ = _
            rw [HG.out]
            have := HA.out
            rwa [List.take_of_length_le (by rw [HL.out]; omega)] at this
          clear hnx
          go_wp2
          go_ret
          exact ⟨ret_bool F.out.symm, HN.out⟩
    · have hn8 : (8 : Int) < (n : Int) := by omega
      have F : Hid (goodD cols (dpl rs) = false) := goodD_most (by rw [HL.out]; exact h8)
      go_enter Try.func26, Try.ntmps26
      go_wp2_with fail
      refine (Val.spec_In _ _ _ _).mono ?_
      rintro e w' ⟨rfl, rfl⟩
      rw [HIN.out]
      go_wp2
      go_ret
      exact ⟨ret_bool F.out.symm, Below.refl _ _⟩

theorem spec_GoodDeps (cols : Int) (v : Value) (ds : List Dp) (w : World) (h : DIs w v ds) :
    Calls Try.prog 26 #[.int .i64 cols, v] w fun e w' => e = .returned (.bool (goodD cols ds)) ∧ Below w.heap.size w w' := by
  obtain ⟨a, n, cap, rs, rfl, hg, rfl, hsz⟩ := h
  have hs := small_ds hsz
  exact spec_GoodDepsG cols a n cap rs w hg hs.1 hs.2


end Go.Proofs.Ytekheacbmbbpmaa.Dga
