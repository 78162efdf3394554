/-
  Contract of the model's GoodTable.
-/
import Derived.Test.YtciaegdgoabipaaTab
import Derived.Test.YtciaegdgoabipaaReg
import Derived.Deep.DeepCutAuto
namespace Go.Proofs.Ytciaegdgoabipaa.Gtab
open Go.RowKit
open Go.Proofs.Ytciaegdgoabipaa.Frame Go.Proofs.Ytciaegdgoabipaa.Mem Go.Proofs.Ytciaegdgoabipaa.Vals Go.Proofs.Ytciaegdgoabipaa.Rws Go.Proofs.Ytciaegdgoabipaa.Val Go.Proofs.Ytciaegdgoabipaa.Tab Go.Proofs.Ytciaegdgoabipaa.Reg

def rB (r : RowV) : Bool := rowB r.key r.vs

def okAt (rs : List RowV) (i : Nat) : Bool := rB (rs.getD i rd) && (decide (i = 0) || decide ((rs.getD (i - 1) rd).key < (rs.getD i rd).key))

def okTo (rs : List RowV) : Nat → Bool
  | 0 => true
  | k + 1 => okTo rs k && okAt rs k

def goodT (rs : List RowV) : Bool := okTo rs rs.length && decide (rs.length ≤ 20)

theorem okTo_false (rs : List RowV) (k n : Nat) (h : k < n) (e : okAt rs k = false) : okTo rs n = false := by
  induction n with
  | zero => omega
  | succ n ih =>
    rw [okTo]
    by_cases hk : k = n
    · subst hk; rw [e, Bool.and_false]
    · rw [ih (by omega), Bool.false_and]

set_option maxHeartbeats 800000 in
theorem spec_GoodTable (a : Option Addr) (n cap : Nat) (rs : List RowV) (w : World) (h : IsRows w a n cap rs) (hn : n ≤ 1048576) (hv : ∀ r ∈ rs, r.n ≤ 1048576) :
    Calls Try.prog 14 #[.slice a n cap] w fun e w' => e = .returned (.bool (goodT rs)) ∧ Below w.heap.size w w' := by
  have HL : Hid (rs.length = n) := h.len
  have HI : Hid (IsRows w a n cap rs) := h
  have HV : Hid (∀ r ∈ rs, r.n ≤ 1048576) := hv
  clear h hv
  go_enter Try.func14, Try.ntmps14
  go_wp2_with fail
  go_loopw [7] (fun i wr => ∃ k : Nat, k ≤ n ∧ i = .int .i64 k ∧ okTo rs k = true ∧ Below w.heap.size w wr) (fun i _ => n - (intOf i).toNat)
  case atStart => exact ⟨0, Nat.zero_le _, rfl, rfl, Below.refl _ _⟩
  case round =>
    obtain ⟨k, hk, rfl, hno, hnx⟩ := hrel
    have HNO : Hid (okTo rs k = true) := hno
    have HN : Hid (Below w.heap.size w wr) := hnx
    have hsr := hnx.size
    clear hno hnx
    by_cases hlt : k < n
    · obtain ⟨b, off, rfl, hbl, hc⟩ := HI.out.cells (by omega)
      have hkl : k < rs.length := by rw [HL.out]; exact hlt
      have p0 : wr.cell? ⟨b, off + k * 2, none⟩ = some (.int .i64 (rs.getD k rd).key) := by rw [HN.out.cell (p := ⟨b, off + k * 2, none⟩) hbl]; exact (hc k hlt).1
      have p1 : wr.cell? ⟨b, off + k * 2 + 1, none⟩ = some (.slice (rs.getD k rd).a (rs.getD k rd).n (rs.getD k rd).c) := by rw [HN.out.cell (p := ⟨b, off + k * 2 + 1, none⟩) hbl]; exact (hc k hlt).2
      have hkI : (k : Int) < (n : Int) := by omega
      have HR : Hid (IsVals w (rs.getD k rd).a (rs.getD k rd).n (rs.getD k rd).c (rs.getD k rd).vs) := (HI.out.rows _ (getD_mem_rd hkl)).2
      have HK : Hid (okAt rs k = (rB (rs.getD k rd) && (decide (k = 0) || decide ((rs.getD (k - 1) rd).key < (rs.getD k rd).key)))) := rfl
      have HRn : Hid ((rs.getD k rd).n ≤ 1048576) := HV.out _ (getD_mem_rd hkl)
      have HP : Hid (∀ j, k = j + 1 → w.cell? ⟨b, off + j * 2, none⟩ = some (.int .i64 (rs.getD (k - 1) rd).key)) := by
        intro j hj
        rw [(hc j (by omega)).1, hj]
        rfl
      generalize (rs.getD (k - 1) rd).key = pk at HK HP
      generalize rs.getD k rd = r at p0 p1 HR HRn HK
      obtain ⟨rk, ra, rn, rc, rvs⟩ := r
      simp only at p0 p1
      have HR2 : Hid (IsVals w ra rn rc rvs) := HR.out
      have HK2 : Hid (okAt rs k = (rowB rk rvs && (decide (k = 0) || decide (pk < rk)))) := HK.out
      clear hc hkl HR HK
      have hrn : rn ≤ 1048576 := HRn.out
      clear HRn
      have C : ∀ {W : World}, Below w.heap.size w W → Calls Try.prog 49 #[.agg #[.int .i64 rk, .slice ra rn rc]] W (fun e w' => e = .returned (.bool (rowB rk rvs)) ∧ Below W.heap.size W w') :=
        fun hb => spec_l2Row rk ra rn rc rvs _ (HR2.out.below hb) hrn
      clear HR2
      go_upto_region 4 with fail
      go_cut [29] (fun s29 wx => s29 = .bool (! okAt rs k) ∧ Below w.heap.size w wx)
      case first =>
        cases hg : rowB rk rvs
        · rw [hg] at C
          have Hg : Hid (okAt rs k = false) := by show _ = _; rw [HK2.out, hg]; rfl
          clear hg
          refine wp_region_any (by kernel_rfl) ?_
          change wpAny _ _ _ _ _ _ _ (World.drew _)
          refine wpAny_ready (rs := [0]) (by kernel_rfl) (by simp) ?_
          refine AllReady.cons rfl (fun K hK => ?_) AllReady.nil
          go_simp
          refine hK _ _ ?_
          clear hK K
          refine wpAny_ready (rs := [1]) (by kernel_rfl) (by simp) ?_
          refine AllReady.cons rfl (fun K hK => ?_) AllReady.nil
          go_simp
          go_wp2_with (go_at_call 49; refine (C (HN.out.alloc hsr _).drew).mono ?_; rintro e w1 ⟨rfl, hb1⟩)
          have HN1 : Hid (Below w.heap.size w w1) := Frame.next (HN.out.alloc hsr _).drew hb1 (by simp; omega)
          clear hb1
          refine wpAny_ready (rs := [2]) (by kernel_rfl) (by simp) ?_
          refine AllReady.cons rfl (fun K hK => ?_) AllReady.nil
          go_simp
          refine hK _ _ ?_
          clear hK K
          refine wpAny_ready (rs := [3]) (by kernel_rfl) (by simp) ?_
          refine AllReady.cons rfl (fun K hK => ?_) AllReady.nil
          go_simp
          refine hK _ _ ?_
          clear hK K
          refine wpAny_skips (by kernel_rfl) (fun _ _ _ _ h => h) [(4, 16), (5, 17), (6, 18), (7, 19), (8, 20), (9, 21), (10, 22), (11, 23), (12, 24), (13, 25), (14, 26), (15, 27), (16, 28)] (by kernel_rfl) ?_
          simp only [skipAct, Act.put, List.setIfInBounds_toArray, List.set_cons_succ, List.set_cons_zero]
          refine wpAny_ready (rs := [17]) (by kernel_rfl) (by simp) ?_
          refine AllReady.cons rfl (fun K hK => ?_) AllReady.nil
          go_simp
          refine hK _ _ ?_
          clear hK K
          refine wpAny_done (by kernel_rfl) ?_ _
          go_wp2_with fail
          go_meet
          exact ⟨by rw [Hg.out]; rfl, HN1.out⟩
        · rw [hg] at C
          cases k with
          | zero =>
            have Hg : Hid (okAt rs 0 = true) := by show _ = _; rw [HK2.out, hg]; rfl
            clear hg
            refine wp_region_any (by kernel_rfl) ?_
            change wpAny _ _ _ _ _ _ _ (World.drew _)
            refine wpAny_ready (rs := [0]) (by kernel_rfl) (by simp) ?_
            refine AllReady.cons rfl (fun K hK => ?_) AllReady.nil
            go_simp
            refine hK _ _ ?_
            clear hK K
            refine wpAny_ready (rs := [1]) (by kernel_rfl) (by simp) ?_
            refine AllReady.cons rfl (fun K hK => ?_) AllReady.nil
            go_simp
            go_wp2_with (go_at_call 49; refine (C (HN.out.alloc hsr _).drew).mono ?_; rintro e w1 ⟨rfl, hb1⟩)
            have HN1 : Hid (Below w.heap.size w w1) := Frame.next (HN.out.alloc hsr _).drew hb1 (by simp; omega)
            clear hb1
            refine wpAny_ready (rs := [2]) (by kernel_rfl) (by simp) ?_
            refine AllReady.cons rfl (fun K hK => ?_) AllReady.nil
            go_simp
            refine hK _ _ ?_
            clear hK K
            refine wpAny_ready (rs := [3]) (by kernel_rfl) (by simp) ?_
            refine AllReady.cons rfl (fun K hK => ?_) AllReady.nil
            go_simp
            refine hK _ _ ?_
            clear hK K
            refine wpAny_ready (rs := [4]) (by kernel_rfl) (by simp) ?_
            refine AllReady.cons rfl (fun K hK => ?_) AllReady.nil
            go_simp
            refine hK _ _ ?_
            clear hK K
            refine wpAny_ready (rs := [5]) (by kernel_rfl) (by simp) ?_
            refine AllReady.cons rfl (fun K hK => ?_) AllReady.nil
            go_simp
            refine hK _ _ ?_
            clear hK K
            refine wpAny_ready (rs := [6]) (by kernel_rfl) (by simp) ?_
            refine AllReady.cons rfl (fun K hK => ?_) AllReady.nil
            go_simp
            refine hK _ _ ?_
            clear hK K
            refine wpAny_skips (by kernel_rfl) (fun _ _ _ _ h => h) [(7, 19), (8, 20), (9, 21), (10, 22), (11, 23), (12, 24), (13, 25), (14, 26), (15, 27)] (by kernel_rfl) ?_
            simp only [skipAct, Act.put, List.setIfInBounds_toArray, List.set_cons_succ, List.set_cons_zero]
            refine wpAny_ready (rs := [16]) (by kernel_rfl) (by simp) ?_
            refine AllReady.cons rfl (fun K hK => ?_) AllReady.nil
            go_simp
            refine hK _ _ ?_
            clear hK K
            refine wpAny_ready (rs := [17]) (by kernel_rfl) (by simp) ?_
            refine AllReady.cons rfl (fun K hK => ?_) AllReady.nil
            go_simp
            refine hK _ _ ?_
            clear hK K
            refine wpAny_done (by kernel_rfl) ?_ _
            go_wp2_with fail
            go_meet
            exact ⟨by rw [Hg.out]; rfl, HN1.out⟩
          | succ j =>
            have HE : Hid (okAt rs (j + 1) = decide (pk < rk)) := by show _ = _; rw [HK2.out, hg]; simp
            clear hg HK2
            have HPj : Hid (w.cell? ⟨b, off + j * 2, none⟩ = some (.int .i64 pk)) := HP.out j rfl
            clear HP p0 p1
            refine wp_region_any (by kernel_rfl) ?_
            change wpAny _ _ _ _ _ _ _ (World.drew _)
            refine wpAny_ready (rs := [0]) (by kernel_rfl) (by simp) ?_
            refine AllReady.cons rfl (fun K hK => ?_) AllReady.nil
            go_simp
            refine hK _ _ ?_
            clear hK K
            refine wpAny_ready (rs := [1]) (by kernel_rfl) (by simp) ?_
            refine AllReady.cons rfl (fun K hK => ?_) AllReady.nil
            go_simp
            go_wp2_with (go_at_call 49; refine (C (HN.out.alloc hsr _).drew).mono ?_; rintro e w1 ⟨rfl, hb1⟩)
            have HN1 : Hid (Below w.heap.size w w1) := Frame.next (HN.out.alloc hsr _).drew hb1 (by simp; omega)
            have c0 : w1.cell? ⟨b, off + j * 2, none⟩ = some (.int .i64 pk) := by rw [HN1.out.cell (p := ⟨b, off + j * 2, none⟩) hbl]; exact HPj.out
            have c1 : w1.cell? ⟨wr.heap.size, 0, none⟩ = some (.int .i64 rk) := by rw [hb1.cell (p := ⟨wr.heap.size, 0, none⟩) (by simp), World.cell?_drew, World.cell?_alloc_at _ _ _ _ rfl]; rfl
            clear hb1
            refine wpAny_ready (rs := [2]) (by kernel_rfl) (by simp) ?_
            refine AllReady.cons rfl (fun K hK => ?_) AllReady.nil
            go_simp
            refine hK _ _ ?_
            clear hK K
            refine wpAny_ready (rs := [3]) (by kernel_rfl) (by simp) ?_
            refine AllReady.cons rfl (fun K hK => ?_) AllReady.nil
            go_simp
            refine hK _ _ ?_
            clear hK K
            refine wpAny_ready (rs := [4]) (by kernel_rfl) (by simp) ?_
            refine AllReady.cons rfl (fun K hK => ?_) AllReady.nil
            go_simp
            refine hK _ _ ?_
            clear hK K
            refine wpAny_ready (rs := [5]) (by kernel_rfl) (by simp) ?_
            refine AllReady.cons rfl (fun K hK => ?_) AllReady.nil
            go_simp
            refine hK _ _ ?_
            clear hK K
            refine wpAny_ready (rs := [6]) (by kernel_rfl) (by simp) ?_
            refine AllReady.cons rfl (fun K hK => ?_) AllReady.nil
            go_simp
            refine hK _ _ ?_
            clear hK K
            refine wpAny_at 7 19 (Value.slice (some ⟨b, off, none⟩) n cap) rfl rfl (by kernel_rfl) (by kernel_rfl) (by kernel_rfl) (fun _ _ _ _ h => h) (by rfl) ?_ ?_
            · intro wq; go_simp
            simp only [Act.put, List.setIfInBounds_toArray, List.set_cons_succ, List.set_cons_zero]
            refine wpAny_at 8 20 (Value.int .i64 ((j : Int) + 1)) rfl rfl (by kernel_rfl) (by kernel_rfl) (by kernel_rfl) (fun _ _ _ _ h => h) (by rfl) ?_ ?_
            · intro wq; go_simp
            simp only [Act.put, List.setIfInBounds_toArray, List.set_cons_succ, List.set_cons_zero]
            refine wpAny_at 9 21 (Value.int .i64 (j : Int)) rfl rfl (by kernel_rfl) (by kernel_rfl) (by kernel_rfl) (fun _ _ _ _ h => h) (by rfl) ?_ ?_
            · intro wq; go_simp; rw [IntKind.wrap_i64]; omega
            simp only [Act.put, List.setIfInBounds_toArray, List.set_cons_succ, List.set_cons_zero]
            refine wpAny_at 10 22 (Value.pointer (some ⟨b, off + j * 2, none⟩)) rfl rfl (by kernel_rfl) (by kernel_rfl) (by kernel_rfl) (fun _ _ _ _ h => h) (by rfl) ?_ ?_
            · intro wq; go_simp; intro hh; omega
            simp only [Act.put, List.setIfInBounds_toArray, List.set_cons_succ, List.set_cons_zero]
            refine wpAny_at 11 23 (Value.pointer (some ⟨b, off + j * 2, none⟩)) rfl rfl (by kernel_rfl) (by kernel_rfl) (by kernel_rfl) (fun _ _ _ _ h => h) (by rfl) ?_ ?_
            · intro wq; go_simp
            simp only [Act.put, List.setIfInBounds_toArray, List.set_cons_succ, List.set_cons_zero]
            refine wpAny_at 13 25 (Value.pointer (some ⟨wr.heap.size, 0, none⟩)) rfl rfl (by kernel_rfl) (by kernel_rfl) (by kernel_rfl) (fun _ _ _ _ h => h) (by rfl) ?_ ?_
            · intro wq; go_simp
            simp only [Act.put, List.setIfInBounds_toArray, List.set_cons_succ, List.set_cons_zero]
            refine wpAny_ready (rs := [12, 14]) (by kernel_rfl) (by simp) ?_
            refine AllReady.cons rfl (fun K hK => ?_) (AllReady.cons rfl (fun K hK => ?_) AllReady.nil)
            · go_simp
              refine hK _ _ ?_
              clear hK K
              refine wpAny_ready (rs := [14]) (by kernel_rfl) (by simp) ?_
              refine AllReady.cons rfl (fun K hK => ?_) AllReady.nil
              go_simp
              refine hK _ _ ?_
              clear hK K
              refine wpAny_ready (rs := [15]) (by kernel_rfl) (by simp) ?_
              refine AllReady.cons rfl (fun K hK => ?_) AllReady.nil
              go_simp
              refine hK _ _ ?_
              clear hK K
              refine wpAny_ready (rs := [16]) (by kernel_rfl) (by simp) ?_
              refine AllReady.cons rfl (fun K hK => ?_) AllReady.nil
              go_simp
              refine hK _ _ ?_
              clear hK K
              refine wpAny_ready (rs := [17]) (by kernel_rfl) (by simp) ?_
              refine AllReady.cons rfl (fun K hK => ?_) AllReady.nil
              go_simp
              refine hK _ _ ?_
              clear hK K
              refine wpAny_done (by kernel_rfl) ?_ _
              go_wp2_with fail
              go_meet
              exact ⟨by rw [HE.out]; congr 1; by_cases hh : pk < rk <;> simp [hh] <;> omega, HN1.out⟩
            · go_simp
              refine hK _ _ ?_
              clear hK K
              refine wpAny_ready (rs := [12]) (by kernel_rfl) (by simp) ?_
              refine AllReady.cons rfl (fun K hK => ?_) AllReady.nil
              go_simp
              refine hK _ _ ?_
              clear hK K
              refine wpAny_ready (rs := [15]) (by kernel_rfl) (by simp) ?_
              refine AllReady.cons rfl (fun K hK => ?_) AllReady.nil
              go_simp
              refine hK _ _ ?_
              clear hK K
              refine wpAny_ready (rs := [16]) (by kernel_rfl) (by simp) ?_
              refine AllReady.cons rfl (fun K hK => ?_) AllReady.nil
              go_simp
              refine hK _ _ ?_
              clear hK K
              refine wpAny_ready (rs := [17]) (by kernel_rfl) (by simp) ?_
              refine AllReady.cons rfl (fun K hK => ?_) AllReady.nil
              go_simp
              refine hK _ _ ?_
              clear hK K
              refine wpAny_done (by kernel_rfl) ?_ _
              go_wp2_with fail
              go_meet
              exact ⟨by rw [HE.out]; congr 1; by_cases hh : pk < rk <;> simp [hh] <;> omega, HN1.out⟩
      case rest =>
        obtain ⟨rfl, hb⟩ := hcut
        have HB : Hid (Below w.heap.size w wc) := hb
        clear hb
        cases ho : okAt rs k
        · have F : Hid (goodT rs = false) := by show _ = _; unfold goodT; rw [okTo_false rs k rs.length (by rw [HL.out]; exact hlt) ho]; rfl
          clear ho
          go_wp2
          go_ret
          exact ⟨Ints.ret_bool F.out.symm, HB.out⟩
        · have F : Hid (okTo rs (k + 1) = true) := by show _ = _; rw [okTo, HNO.out, ho]; rfl
          clear ho
          go_wp2
          go_roundw
          case rel => exact ⟨k + 1, by omega, by go_num, F.out, HB.out⟩
          case measure => simp [intOf]; omega
    · obtain rfl : k = n := by omega
      have HO : Hid (goodT rs = decide (k ≤ 20)) := by show _ = _; unfold goodT; rw [HL.out, HNO.out]; rfl
      by_cases h20 : (k : Int) ≤ 20
      · have F : Hid (goodT rs = true) := by show _ = _; rw [HO.out, decide_eq_true_eq]; omega
        go_wp2
        go_ret
        exact ⟨Ints.ret_bool F.out.symm, HN.out⟩
      · have F : Hid (goodT rs = false) := by show _ = _; rw [HO.out, decide_eq_false_iff_not]; omega
        go_wp2
        go_ret
        exact ⟨Ints.ret_bool F.out.symm, HN.out⟩

end Go.Proofs.Ytciaegdgoabipaa.Gtab
