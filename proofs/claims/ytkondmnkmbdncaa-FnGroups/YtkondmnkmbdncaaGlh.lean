/-
  slices.Concat of whatever many lists of numbers; OrderBy of the program.
-/
import Derived.Test.YtkondmnkmbdncaaGlf
import Derived.Shelf.Spec.SlicesGrow
namespace Go.Proofs.Ytkondmnkmbdncaa.Glh
open Go.RowKit
open Go.Proofs.Ytkondmnkmbdncaa.Frame Go.Proofs.Ytkondmnkmbdncaa.Mem Go.Proofs.Ytkondmnkmbdncaa.Ints Go.Proofs.Ytkondmnkmbdncaa.Kep Go.Proofs.Ytkondmnkmbdncaa.Lls Go.Proofs.Ytkondmnkmbdncaa.Mis Go.Proofs.Ytkondmnkmbdncaa.Gpu Go.Proofs.Ytkondmnkmbdncaa.Gpv
open Go.Proofs.Ytkondmnkmbdncaa.Glb (own_row em_bool iOwn_nil)
open Go.Proofs.Ytkondmnkmbdncaa.Kpi (infoI)
open Go.Proofs.Ytkondmnkmbdncaa.Knl hiding Ll
open Go.Proofs.Ytkondmnkmbdncaa.Rel

set_option maxRecDepth 20000 in
set_option maxHeartbeats 1600000 in
theorem grow_nil (n : Nat) (w : World) (hn : n ≤ 100000) :
    Calls Try.prog 131 #[.slice none 0 0, .int .i64 n] w fun e w' => ∃ a' c', e = .returned (.slice a' 0 c') ∧ w'.ownsRow w.heap.size 3 1 (.slice a' 0 c') 0 [] ∧ Below w.heap.size w w' := by
  obtain ⟨i0, hi, hz0, hz1, hz2⟩ := info_parts infoI
  by_cases h0 : n = 0
  · subst h0
    go_enter Try.func131, Try.ntmps131
    go_wp2
    go_ret
    exact ⟨none, 0, rfl, World.ownsRow_nil _ _ _ _, Below.refl _ _⟩
  · have hold : (Builtin.firstCells i0.size 0 (.slice none 0 0)).run Try.prog w.drew = .ok ([] : List Value).toArray w.drew := by simp [Builtin.firstCells]
    have hrz : ∀ ty, (Builtin.append_ #[24, 3] ty #[.slice none 0 0, .int .i64 n]).run Try.prog w = .ok (.slice (some ⟨w.heap.size, 0, none⟩) n (grownCap w n 0 3)) (w.drew.alloc (.cells (([] : List Value).toArray ++ Builtin.zeroCells (Value.int .i64 0).cells n ++ Builtin.zeroCells (Value.int .i64 0).cells (grownCap w n 0 3 - n)) 3)) := fun ty => by
      have h := Lib.run_append_grow_zeros w 24 3 ty 3 i0 (.int .i64 0) .i64 .i64 Try.underlying24 Try.underlying3 hi hz0 none 0 0 [] hold n (by omega) (by omega) (by omega) (by omega) (by rw [hz2]; omega) (by rw [hz2]; exact growslice_fits (by omega) (by omega))
      rw [Nat.zero_add] at h
      exact h
    have hGn : n ≤ grownCap w n 0 3 := grownCap_ge w _ _ _
    have hGm : grownCap w n 0 3 ≤ maxLen := grownCap_le_maxLen w _ _ _ (by unfold maxLen; omega)
    generalize grownCap w n 0 3 = G at hrz hGn hGm
    have hOW : Hid ((w.drew.alloc (.cells (([] : List Value).toArray ++ Builtin.zeroCells (Value.int .i64 0).cells n ++ Builtin.zeroCells (Value.int .i64 0).cells (G - n)) 3)).ownsRow w.heap.size 3 1 (.slice (some ⟨w.heap.size, 0, none⟩) 0 G) 0 []) :=
      ⟨rfl, .inr ⟨w.heap.size, G, _, rfl, Nat.le_refl _, heap_alloc_new w.drew _, Nat.zero_le _, hGm, by simp [Builtin.zeroCells, Value.cells]; omega, by simp⟩⟩
    have hBW : Hid (Below w.heap.size w (w.drew.alloc (.cells (([] : List Value).toArray ++ Builtin.zeroCells (Value.int .i64 0).cells n ++ Builtin.zeroCells (Value.int .i64 0).cells (G - n)) 3))) := ((Below.refl _ _).drew).alloc (Nat.le_refl _) _
    generalize w.drew.alloc (.cells (([] : List Value).toArray ++ Builtin.zeroCells (Value.int .i64 0).cells n ++ Builtin.zeroCells (Value.int .i64 0).cells (G - n)) 3) = w9 at hrz hOW hBW
    have h1 : ¬ ((n : Int) < 0) := by omega
    have h4 : (n : Int) > 0 := by omega
    have hG63 : G ≤ 9223372036854775807 := by unfold maxLen at hGm; omega
    clear hold
    go_enter Try.func131, Try.ntmps131
    go_wp2_with (at_builtin; refine Lib.wpList_append_run _ rfl _ _ _ _ rfl _ _ rfl rfl _ _ (hrz _) ?_)
    go_ret
    exact ⟨_, _, rfl, hOW.out, hBW.out⟩


def tot (rs : List LV) : Nat := (rs.map fun r => r.n).sum
theorem tot_append (xs ys : List LV) : tot (xs ++ ys) = tot xs + tot ys := by simp [tot]
theorem tot_le {rs : List LV} (h : ∀ r ∈ rs, r.n ≤ 12) : tot rs ≤ 12 * rs.length := by
  unfold tot
  induction rs with
  | nil => simp
  | cons r rs ih =>
    have h1 := ih (fun r hr => h r (by simp [hr]))
    have h2 := h r (by simp)
    simp only [List.map_cons, List.sum_cons, List.length_cons]
    omega
theorem tot_take {rs : List LV} (h : ∀ r ∈ rs, r.n ≤ 12) (hl : rs.length ≤ 12) (k : Nat) : tot (rs.take k) ≤ 144 := by
  have h1 := tot_le (rs := rs.take k) (fun r hr => h r (List.mem_of_mem_take hr))
  rw [List.length_take] at h1
  omega

set_option maxRecDepth 4000 in
set_option maxHeartbeats 1600000 in
theorem concat_all (a : Option Addr) (n c : Nat) (rs : List LV) (w : World) (h : IsLs w a n c rs) (hn : n ≤ 12) (hr : ∀ r ∈ rs, r.n ≤ 12) :
    Calls Try.prog 85 #[.slice a n c] w fun e w' => ∃ a' m c', e = .returned (.slice a' m c') ∧ m ≤ 144 ∧ w'.ownsRow w.heap.size 3 1 (.slice a' m c') m (ints .i64 (lplain rs).flatten) ∧ Below w.heap.size w w' := by
  obtain ⟨i0, hi, hz0, hz1, hz2⟩ := info_parts infoI
  have HI : Hid (IsLs w a n c rs) := h
  have HL : Hid (rs.length = n) := h.len
  have HB : Hid (∀ k, tot (rs.take k) ≤ 144) := fun k => tot_take hr (by rw [h.len]; exact hn) k
  have HR : Hid (∀ r ∈ rs, r.n ≤ 12) := hr
  clear h hr
  go_enter Try.func85, Try.ntmps85
  go_wp2_with fail
  go_loopw [3, 11] (fun s i wr => ∃ k : Nat, k ≤ n ∧ i = .int .i64 k ∧ s = .int .i64 ((tot (rs.take k) : Nat) : Int) ∧ w = wr) (fun _ i _ => n - (intOf i).toNat)
  case atStart => exact ⟨0, Nat.zero_le _, rfl, rfl, rfl⟩
  case round =>
    obtain ⟨k, hk, rfl, rfl, rfl⟩ := hrel
    have hbk := HB.out k
    by_cases hlt : k < n
    · obtain ⟨b, off, rfl, hb, hc⟩ := HI.out.cells (by omega)
      have hkl : k < rs.length := by rw [HL.out]; exact hlt
      have p0 := hc k hlt
      have HT : Hid (tot (rs.take (k + 1)) = tot (rs.take k) + (rs.getD k ld).n) := by show _ = _; rw [take_succ_ld hkl, tot_append]; simp [tot]
      have hbk1 := HB.out (k + 1)
      have hkn : (k : Int) < (n : Int) := by omega
      have hk0 : (0 : Int) ≤ (k : Int) := by omega
      generalize rs.getD k ld = r at p0 HT
      rw [HT.out] at hbk1
      generalize tot (rs.take k) = T at hbk hbk1 HT
      clear hc hb hkl
      go_wp2_with fail
      go_roundw
      case rel => exact ⟨k + 1, by omega, by go_num, by rw [HT.out]; go_num, by first | trivial | rfl⟩
      case measure => simp [intOf]; omega
    · obtain rfl : k = n := by omega
      have HT : Hid (tot (rs.take k) = tot rs) := by show _ = _; rw [List.take_of_length_le (by rw [HL.out]; omega)]
      rw [HT.out] at hbk ⊢
      go_wp2_with fail
      refine (grow_nil (tot rs) _ (by omega)).mono ?_
      rintro e w1 ⟨a1, c1, rfl, ho1, hb1⟩
      have O1 : Hid (w1.ownsRow w.heap.size 3 1 (.slice a1 0 c1) 0 (ints .i64 (lplain (rs.take 0)).flatten)) := ho1
      have B1 : Hid (Below w.heap.size w w1) := hb1
      clear ho1 hb1
      go_wp2_with fail
      go_loopw [6, 27] (fun v i wr => ∃ (q m : Nat) (a' : Option Addr) (c' : Nat), q ≤ k ∧ i = .int .i64 q ∧ v = .slice a' m c' ∧ m = tot (rs.take q) ∧ wr.ownsRow w.heap.size 3 1 (.slice a' m c') m (ints .i64 (lplain (rs.take q)).flatten) ∧ Below w.heap.size w wr) (fun _ i _ => k - (intOf i).toNat)
      case atStart => exact ⟨0, 0, a1, c1, Nat.zero_le _, rfl, rfl, rfl, O1.out, B1.out⟩
      case round =>
        obtain ⟨q, m, a', c', hq, rfl, rfl, hm, ho, hnx⟩ := hrel
        have HN : Hid (Below w.heap.size w wr) := hnx
        have HO : Hid (wr.ownsRow w.heap.size 3 1 (.slice a' m c') m (ints .i64 (lplain (rs.take q)).flatten)) := ho
        have HM : Hid (m = tot (rs.take q)) := hm
        have hmb : m ≤ 144 := by rw [hm]; exact HB.out q
        clear hnx ho hm
        by_cases hlt2 : q < k
        · obtain ⟨b, off, rfl, hb, hc⟩ := HI.out.cells (by omega)
          have hkl : q < rs.length := by rw [HL.out]; exact hlt2
          have p0 : wr.cell? ⟨b, off + q, none⟩ = some (.slice (rs.getD q ld).a (rs.getD q ld).n (rs.getD q ld).c) := by rw [HN.out.cell (p := ⟨b, off + q, none⟩) hb]; exact hc q hlt2
          have HT2 : Hid (tot (rs.take (q + 1)) = tot (rs.take q) + (rs.getD q ld).n) := by show _ = _; rw [take_succ_ld hkl, tot_append]; simp [tot]
          have HF : Hid ((lplain (rs.take (q + 1))).flatten = (lplain (rs.take q)).flatten ++ (rs.getD q ld).zs) := by show _ = _; rw [take_succ_ld hkl]; simp [lplain]
          have hrow := IsRow.below (HI.out.rows _ (getD_mem_ld hkl)) HN.out
          have hrn := HR.out _ (getD_mem_ld hkl)
          generalize rs.getD q ld = r at p0 HT2 HF hrow hrn
          obtain ⟨ra, rn, rc, rz⟩ := r
          simp only at p0 HT2 HF hrow hrn
          have HZL : Hid ((ints .i64 rz).length = rn * 1) := by show _ = _; rw [ints_length, hrow.len]; omega
          have S2 : Hid (0 < rn → ∃ ad, ra = some ad ∧ ∀ j u, (ints .i64 rz)[j]? = some u → wr.cell? (ad.add j) = some u) := news_row hrow
          have hkn : (q : Int) < (k : Int) := by omega
          have hk0 : (0 : Int) ≤ (q : Int) := by omega
          clear hc hb hkl hrow
          go_wp2_with (at_builtin; refine App.wpList_append_all _ rfl _ _ 24 rfl w.heap.size 3 i0 (.int .i64 0) 1 8 Try.underlying24 hi hz0 hz1 hz2 rfl (by decide) _ m _ rfl HO.out _ rn _ (ints .i64 rz) rfl HZL.out S2.out (one_int rz) (by unfold maxLen; omega) (by omega) HN.out.size ?_)
          intro a4 c4 w4 hown4 hgrow4
          have O4 : Hid (w4.ownsRow w.heap.size 3 1 (.slice a4 (m + rn) c4) (m + rn) (ints .i64 (lplain (rs.take (q + 1))).flatten)) := by
            show World.ownsRow _ _ _ _ _ _ _
            rw [HF.out]
            unfold ints at *
            rw [List.map_append]
            exact hown4
          have N4 : Hid (Below w.heap.size w w4) := below_app HN.out HO.out hgrow4 HN.out.size (Nat.le_refl _)
          clear hown4 hgrow4
          go_wp2
          go_roundw
          case rel => exact ⟨q + 1, m + rn, a4, c4, by omega, by go_num, rfl, by rw [HT2.out, ← HM.out], O4.out, N4.out⟩
          case measure => simp [intOf]; omega
        · obtain rfl : q = k := by omega
          have F : Hid (wr.ownsRow w.heap.size 3 1 (.slice a' m c') m (ints .i64 (lplain rs).flatten)) := by have h := HO.out; rwa [List.take_of_length_le (by rw [HL.out]; omega)] at h
          go_wp2
          go_ret
          exact ⟨_, _, _, rfl, hmb, F.out, HN.out⟩

noncomputable def orderV (xs : Ll) : List Int := bif goodG xs then (groupsN xs).flatten else []
theorem few_rows {xs : Ll} (hg : GoodP xs) {w : World} {base : Nat} {a : Option Addr} {n c : Nat} {rs : List LV} (h : OwnLs w base a n c rs) (hp : lplain rs = groupsN xs) : n ≤ 12 ∧ ∀ r ∈ rs, r.n ≤ 12 := by
  have h1 : rs.length ≤ 12 := by
    have e : (lplain rs).length = rs.length := by simp [lplain]
    rw [← e, hp]
    exact Nat.le_trans (groups_len xs _ _) hg.few
  refine ⟨by rw [← h.len]; exact h1, fun r hr => ?_⟩
  rw [← OwnLs.vlen h r hr]
  have := (groups_mem xs xs.length (numN xs.length) r.zs (by show r.zs ∈ groupsN xs; rw [← hp]; exact List.mem_map.2 ⟨r, hr, rfl⟩)).1
  rw [numN_length] at this
  have := hg.few
  omega
theorem order_wf {xs : Ll} (hg : GoodP xs) : ∀ z ∈ (groupsN xs).flatten, (Lit.int .i64 z).wf = true := fun z hz => by
  obtain ⟨g, hg1, hg2⟩ := List.mem_flatten.1 hz
  have := (groups_mem xs xs.length (numN xs.length) g hg1).2 z hg2
  exact numN_wf xs.length (by have := hg.few; omega) z this

set_option maxRecDepth 8000 in
set_option maxHeartbeats 1600000 in
theorem impl_OrderBy (v : Value) (xs : Ll) (w : World) (h : LIs w v xs) :
    Calls Try.prog 30 #[v] w fun e w' => ∃ u, e = .returned (.tuple #[u, .bool (goodG xs)]) ∧ IOwn w' w.heap.size w'.heap.size u (orderV xs) ∧ Below w.heap.size w w' := by
  obtain ⟨a, n, c, rs, rfl, hr, rfl, ht⟩ := h
  have H : Hid (LIs w (.slice a n c) (lplain rs)) := ⟨a, n, c, rs, rfl, hr, rfl, ht⟩
  have HI : Hid (IsLs w a n c rs) := hr
  clear hr ht
  rcases em_bool (goodG (lplain rs)) with hg | hg
  · have HG : Hid (goodG (lplain rs) = false) := hg
    clear hg
    go_enter Try.func30, Try.ntmps30
    go_wp2_with fail
    refine (Gla.impl_GoodLinks _ _ _ H.out).mono ?_
    rintro e w1 ⟨rfl, hb1⟩
    have B1 : Hid (Below w.heap.size w w1) := hb1
    rw [HG.out]
    clear hb1
    go_wp2
    go_ret2
    refine ⟨_, by rw [HG.out]; rfl, ?_, B1.out⟩
    unfold orderV
    rw [HG.out]
    exact iOwn_nil _ _ _
  · have HG : Hid (goodG (lplain rs) = true) := hg
    have GP : Hid (GoodP (lplain rs)) := good_iff.1 hg
    clear hg
    go_enter Try.func30, Try.ntmps30
    go_wp2_with fail
    refine (Gla.impl_GoodLinks _ _ _ H.out).mono ?_
    rintro e w1 ⟨rfl, hb1⟩
    have B1 : Hid (Below w.heap.size w w1) := hb1
    rw [HG.out]
    clear hb1
    go_wp2_with fail
    refine (Glf.groupsBy a n c rs _ (IsLs.below HI.out B1.out) GP.out).mono ?_
    rintro e w2 ⟨a', m, c', rs', rfl, ho, hp, hb⟩
    have B2 : Hid (Below w.heap.size w w2) := Frame.next B1.out hb B1.out.size
    have FEW : Hid (m ≤ 12 ∧ ∀ r ∈ rs', r.n ≤ 12) := few_rows GP.out ho hp
    have LS : Hid (IsLs w2 a' m c' rs') := ho.isLs
    have HP : Hid (lplain rs' = groupsN (lplain rs)) := hp
    clear ho hb hp
    go_wp2_with fail
    refine (concat_all a' m c' rs' _ LS.out FEW.out.1 FEW.out.2).mono ?_
    rintro e w3 ⟨a3, m3, c3, rfl, hm3, ho, hb⟩
    have B3 : Hid (Below w.heap.size w w3) := Frame.next B2.out hb B2.out.size
    have O3 : Hid (IOwn w3 w.heap.size w3.heap.size (.slice a3 m3 c3) (orderV (lplain rs))) := by
      show IOwn _ _ _ _ _
      unfold orderV
      rw [HG.out]
      rw [HP.out] at ho
      exact iOwn_of (own_base ho B2.out.size) (order_wf GP.out) (by omega)
    clear ho hb
    go_wp2
    go_ret2
    exact ⟨_, by rw [HG.out]; rfl, O3.out, B3.out⟩


end Go.Proofs.Ytkondmnkmbdncaa.Glh
