/-
  Contracts of the model's PutRow, RangeOf, KeysOf, SetColumn, FindRow.
-/
import Derived.Test.YtciaegdgoabipabSpt
namespace Go.Proofs.Ytciaegdgoabipab.Stb
open Go.RowKit
open Go.Proofs.Ytciaegdgoabipab.Frame Go.Proofs.Ytciaegdgoabipab.Mem Go.Proofs.Ytciaegdgoabipab.Vals Go.Proofs.Ytciaegdgoabipab.Rws Go.Proofs.Ytciaegdgoabipab.Val Go.Proofs.Ytciaegdgoabipab.Tab Go.Proofs.Ytciaegdgoabipab.Reg Go.Proofs.Ytciaegdgoabipab.Gtab Go.Proofs.Ytciaegdgoabipab.Cpy Go.Proofs.Ytciaegdgoabipab.Own Go.Proofs.Ytciaegdgoabipab.Drp Go.Proofs.Ytciaegdgoabipab.Tel Go.Proofs.Ytciaegdgoabipab.Find Go.Proofs.Ytciaegdgoabipab.Shf Go.Proofs.Ytciaegdgoabipab.Icp Go.Proofs.Ytciaegdgoabipab.Shl Go.Proofs.Ytciaegdgoabipab.Pur Go.Proofs.Ytciaegdgoabipab.Itb Go.Proofs.Ytciaegdgoabipab.Itc Go.Proofs.Ytciaegdgoabipab.Itd Go.Proofs.Ytciaegdgoabipab.Spt

set_option maxRecDepth 100000 in
set_option maxHeartbeats 800000 in
theorem spec_KeysOf (a : Option Addr) (n cap : Nat) (rs : List RowV) (w : World) (h : IsRows w a n cap rs) (hn : n ≤ 1048576) (hv : ∀ r ∈ rs, r.n ≤ 1048576) :
    Calls Try.prog 16 #[.slice a n cap] w (ToldI (keysV rs) (goodT rs) w) := by
  obtain ⟨i0, hi, hz0, hz1, hz2⟩ := info_parts Ints.info
  have HL : Hid (rs.length = n) := h.len
  have HI : Hid (IsRows w a n cap rs) := h
  have HV : Hid (∀ r ∈ rs, r.n ≤ 1048576) := hv
  clear h hv
  go_enter Try.func16, Try.ntmps16
  go_wp2_with fail
  refine (spec_GoodTable a n cap rs _ HI.out hn HV.out).mono ?_
  rintro e w1 ⟨rfl, hb1⟩
  have HB1 : Hid (Below w.heap.size w w1) := hb1
  have hs1 := hb1.size
  clear hb1
  cases hg : goodT rs
  · have F : Hid (keysV rs = [] ∧ goodT rs = false) := by show _ ∧ _; unfold keysV; rw [hg]; exact ⟨rfl, rfl⟩
    clear hg
    go_wp2
    go_ret2
    rw [F.out.1, F.out.2]
    exact ⟨none, 0, 0, rfl, World.ownsRow_nil _ _ _ _, HB1.out⟩
  · have F : Hid (keysV rs = rs.map (·.key) ∧ goodT rs = true) := by show _ ∧ _; unfold keysV; rw [hg]; exact ⟨rfl, rfl⟩
    clear hg
    go_wp2_with fail
    go_loopw [4, 12] (fun o i wr => ∃ (k : Nat) (a' : Option Addr) (c' : Nat), k ≤ n ∧ i = .int .i64 k ∧ o = .slice a' k c' ∧ wr.ownsRow w.heap.size 3 1 (.slice a' k c') k (ints .i64 ((rs.map (·.key)).take k)) ∧ Below w.heap.size w wr) (fun _ i _ => n - (intOf i).toNat)
    case atStart => exact ⟨0, none, 0, Nat.zero_le _, rfl, rfl, World.ownsRow_nil _ _ _ _, HB1.out⟩
    case round =>
      obtain ⟨k, a', c', hk, rfl, rfl, ho, hnx⟩ := hrel
      have HO : Hid (wr.ownsRow w.heap.size 3 1 (.slice a' k c') k (ints .i64 ((rs.map (·.key)).take k))) := ho
      have HN : Hid (Below w.heap.size w wr) := hnx
      have hsr := hnx.size
      clear ho hnx
      by_cases hlt : k < n
      · obtain ⟨b, off, rfl, hbl, hc⟩ := HI.out.cells (by omega)
        have hkl : k < rs.length := by rw [HL.out]; exact hlt
        have p0 : wr.cell? ⟨b, off + k * 2, none⟩ = some (.int .i64 (rs.getD k rd).key) := by rw [HN.out.cell (p := ⟨b, off + k * 2, none⟩) hbl]; exact (hc k hlt).1
        have p1 : wr.cell? ⟨b, off + k * 2 + 1, none⟩ = some (.slice (rs.getD k rd).a (rs.getD k rd).n (rs.getD k rd).c) := by rw [HN.out.cell (p := ⟨b, off + k * 2 + 1, none⟩) hbl]; exact (hc k hlt).2
        have hkI : (k : Int) < (n : Int) := by omega
        have HE : Hid (ints .i64 ((rs.map (·.key)).take (k + 1)) = ints .i64 ((rs.map (·.key)).take k) ++ [.int .i64 (rs.getD k rd).key]) := by show _ = _; rw [← List.map_take, ← List.map_take, take_succ_rd hkl]; simp [ints]
        generalize rs.getD k rd = r at p0 p1 HE
        obtain ⟨rk, ra, rn, rc, rvs⟩ := r
        simp only at p0 p1
        have HE2 : Hid (ints .i64 ((rs.map (·.key)).take (k + 1)) = ints .i64 ((rs.map (·.key)).take k) ++ [.int .i64 rk]) := HE.out
        clear hc hkl HE
        have HO2 : Hid (((wr.alloc (.cells #[.int .i64 rk, .slice ra rn rc] 50)).alloc (.cells #[.int .i64 rk] 3)).ownsRow w.heap.size 3 1 (.slice a' k c') k (ints .i64 ((rs.map (·.key)).take k))) := own_below (own_below HO.out ((Below.refl _ _).alloc (Nat.le_refl _) _)) ((Below.refl _ _).alloc (Nat.le_refl _) _)
        have HN2 : Hid (Below w.heap.size w ((wr.alloc (.cells #[.int .i64 rk, .slice ra rn rc] 50)).alloc (.cells #[.int .i64 rk] 3))) := (HN.out.alloc hsr _).alloc (by simp; omega) _
        have S2 : Hid (0 < 1 → ∃ ad, (some ⟨wr.heap.size + 1, 0, none⟩ : Option Addr) = some ad ∧ ∀ i u, ([.int .i64 rk] : List Value)[i]? = some u → ((wr.alloc (.cells #[.int .i64 rk, .slice ra rn rc] 50)).alloc (.cells #[.int .i64 rk] 3)).cell? (ad.add i) = some u) := fun _ => ⟨_, rfl, by
          have := World.news_of_block (heap_alloc_new (wr.alloc (.cells #[.int .i64 rk, .slice ra rn rc] 50)) (.cells #[.int .i64 rk] 3))
          simpa using this⟩
        go_wp2_with (at_builtin; refine App.wpList_append_all _ rfl _ _ 37 rfl w.heap.size 3 i0 (.int .i64 0) 1 8 Try.underlying37 hi hz0 hz1 hz2 rfl (by decide) _ _ _ rfl HO2.out _ 1 _ [.int .i64 rk] rfl rfl S2.out (by simp [Value.oneCell']) (by unfold maxLen; omega) (by omega) HN2.out.size ?_)
        intro a3 c3 w3 hown3 hgrow3
        have O3 : Hid (w3.ownsRow w.heap.size 3 1 (.slice a3 (k + 1) c3) (k + 1) (ints .i64 ((rs.map (·.key)).take (k + 1)))) := by show World.ownsRow _ _ _ _ _ _ _; rw [HE2.out]; exact hown3
        have HN3 : Hid (Below w.heap.size w w3) := below_append HN2.out HO2.out hgrow3 HN2.out.size
        clear hown3 hgrow3
        go_wp2
        go_roundw
        case rel => exact ⟨k + 1, a3, c3, by omega, by go_num, rfl, O3.out, HN3.out⟩
        case measure => simp [intOf]; omega
      · obtain rfl : k = n := by omega
        have HO2 : Hid (wr.ownsRow w.heap.size 3 1 (.slice a' k c') k (ints .i64 (rs.map (·.key)))) := by have := HO.out; rwa [List.take_of_length_le (by rw [List.length_map, HL.out]; omega)] at this
        go_wp2
        go_ret2
        rw [F.out.1, F.out.2]
        exact ⟨_, _, _, rfl, HO2.out, HN.out⟩

theorem rangeK_take_in (lo hi : Int) (rs : List RowV) (k : Nat) (h : k < rs.length) (e : inB (rs.getD k rd).key lo hi = true) : rangeK lo hi (rs.take (k + 1)) = rangeK lo hi (rs.take k) ++ [rs.getD k rd] := by
  rw [take_succ_rd h]
  generalize rs.getD k rd = r at e ⊢
  unfold rangeK
  rw [List.filter_append]
  simp [e]

theorem rangeK_take_out (lo hi : Int) (rs : List RowV) (k : Nat) (h : k < rs.length) (e : inB (rs.getD k rd).key lo hi = false) : rangeK lo hi (rs.take (k + 1)) = rangeK lo hi (rs.take k) := by
  rw [take_succ_rd h]
  generalize rs.getD k rd = r at e ⊢
  unfold rangeK
  rw [List.filter_append]
  simp [e]

theorem rangeK_le (lo hi : Int) (rs : List RowV) : (rangeK lo hi rs).length ≤ rs.length := List.length_filter_le _ _

set_option maxRecDepth 100000 in
set_option maxHeartbeats 800000 in
theorem spec_RangeOf (a : Option Addr) (n cap : Nat) (rs : List RowV) (lo hi : Int) (w : World) (h : IsRows w a n cap rs) (hn : n ≤ 1048576) (hv : ∀ r ∈ rs, r.n ≤ 1048576) :
    Calls Try.prog 7 #[.slice a n cap, .int .i64 lo, .int .i64 hi] w (Tel.Told (rangeV lo hi rs) (goodT rs) w) := by
  obtain ⟨i0, hi0, hz0, hz1, hz2⟩ := info_parts infoR
  have HL : Hid (rs.length = n) := h.len
  have HI : Hid (IsRows w a n cap rs) := h
  have HV : Hid (∀ r ∈ rs, r.n ≤ 1048576) := hv
  clear h hv
  go_enter Try.func7, Try.ntmps7
  go_wp2_with fail
  refine (spec_GoodTable a n cap rs _ HI.out hn HV.out).mono ?_
  rintro e w1 ⟨rfl, hb1⟩
  have HB1 : Hid (Below w.heap.size w w1) := hb1
  have hs1 := hb1.size
  clear hb1
  cases hg : goodT rs
  · have F : Hid (rangeV lo hi rs = [] ∧ goodT rs = false) := by show _ ∧ _; unfold rangeV; rw [hg]; exact ⟨rfl, rfl⟩
    clear hg
    go_wp2
    go_ret2
    rw [F.out.1, F.out.2]
    exact told_no HB1.out
  · have F : Hid (rangeV lo hi rs = plain (rangeK lo hi rs) ∧ goodT rs = true) := by show _ ∧ _; unfold rangeV; rw [hg]; exact ⟨rfl, rfl⟩
    clear hg
    go_wp2_with fail
    go_loopw [8, 10, 16] (fun o _ i wr => ∃ (k : Nat) (a' : Option Addr) (m' c' : Nat) (ds : List RowV), k ≤ n ∧ i = .int .i64 k ∧ o = .slice a' m' c' ∧ ds = rangeK lo hi (rs.take k) ∧ m' ≤ k ∧ wr.ownsRow w.heap.size 50 2 (.slice a' m' c') m' (rcells ds) ∧ Below w.heap.size w wr) (fun _ _ i _ => n - (intOf i).toNat)
    case atStart => exact ⟨0, none, 0, 0, [], Nat.zero_le _, rfl, rfl, rfl, Nat.le_refl _, World.ownsRow_nil _ _ _ _, HB1.out⟩
    case round =>
      obtain ⟨k, a', m', c', ds, hk, rfl, rfl, hds, hm', ho, hnx⟩ := hrel
      have HDS : Hid (ds = rangeK lo hi (rs.take k)) := hds
      have HO : Hid (wr.ownsRow w.heap.size 50 2 (.slice a' m' c') m' (rcells ds)) := ho
      have HN : Hid (Below w.heap.size w wr) := hnx
      have hsr := hnx.size
      clear ho hnx hds
      by_cases hlt : k < n
      · obtain ⟨b, off, rfl, hbl, hc⟩ := HI.out.cells (by omega)
        have hkl : k < rs.length := by rw [HL.out]; exact hlt
        have p0 : wr.cell? ⟨b, off + k * 2, none⟩ = some (.int .i64 (rs.getD k rd).key) := by rw [HN.out.cell (p := ⟨b, off + k * 2, none⟩) hbl]; exact (hc k hlt).1
        have p1 : wr.cell? ⟨b, off + k * 2 + 1, none⟩ = some (.slice (rs.getD k rd).a (rs.getD k rd).n (rs.getD k rd).c) := by rw [HN.out.cell (p := ⟨b, off + k * 2 + 1, none⟩) hbl]; exact (hc k hlt).2
        have hkI : (k : Int) < (n : Int) := by omega
        have HX : Hid ((inB (rs.getD k rd).key lo hi = true → rangeK lo hi (rs.take (k + 1)) = ds ++ [rs.getD k rd]) ∧ (inB (rs.getD k rd).key lo hi = false → rangeK lo hi (rs.take (k + 1)) = ds)) := by
          show _ ∧ _
          rw [HDS.out]
          exact ⟨rangeK_take_in lo hi rs k hkl, rangeK_take_out lo hi rs k hkl⟩
        generalize rs.getD k rd = r at p0 p1 HX
        obtain ⟨rk, ra, rn, rc, rvs⟩ := r
        simp only at p0 p1
        have HX2 : Hid ((inB rk lo hi = true → rangeK lo hi (rs.take (k + 1)) = ds ++ [⟨rk, ra, rn, rc, rvs⟩]) ∧ (inB rk lo hi = false → rangeK lo hi (rs.take (k + 1)) = ds)) := HX.out
        clear hc hkl HX
        cases hb : inB rk lo hi
        · have E : Hid (rangeK lo hi (rs.take (k + 1)) = ds) := HX2.out.2 hb
          have Hb : Hid (inB rk lo hi = false) := hb
          clear hb HX2
          go_wp2_with fail
          refine (spec_In _ _ _ _).mono ?_
          rintro e w' ⟨rfl, rfl⟩
          rw [Hb.out]
          go_wp2
          go_roundw
          case rel => exact ⟨k + 1, a', m', c', ds, by omega, by go_num, rfl, E.out.symm, by omega, own_below HO.out ((Below.refl _ _).alloc (Nat.le_refl _) _), HN.out.alloc hsr _⟩
          case measure => simp [intOf]; omega
        · have E : Hid (rangeK lo hi (rs.take (k + 1)) = ds ++ [⟨rk, ra, rn, rc, rvs⟩]) := HX2.out.1 hb
          have Hb : Hid (inB rk lo hi = true) := hb
          clear hb HX2
          have HO2 : Hid (((wr.alloc (.cells #[.int .i64 rk, .slice ra rn rc] 50)).alloc (.cells #[.int .i64 rk, .slice ra rn rc] 50)).ownsRow w.heap.size 50 2 (.slice a' m' c') m' (rcells ds)) := own_below (own_below HO.out ((Below.refl _ _).alloc (Nat.le_refl _) _)) ((Below.refl _ _).alloc (Nat.le_refl _) _)
          have HN2 : Hid (Below w.heap.size w ((wr.alloc (.cells #[.int .i64 rk, .slice ra rn rc] 50)).alloc (.cells #[.int .i64 rk, .slice ra rn rc] 50))) := (HN.out.alloc hsr _).alloc (by simp; omega) _
          have S2 : Hid (0 < 1 → ∃ ad, (some ⟨wr.heap.size + 1, 0, none⟩ : Option Addr) = some ad ∧ ∀ i u, (rcells [⟨rk, ra, rn, rc, rvs⟩])[i]? = some u → ((wr.alloc (.cells #[.int .i64 rk, .slice ra rn rc] 50)).alloc (.cells #[.int .i64 rk, .slice ra rn rc] 50)).cell? (ad.add i) = some u) := fun _ => ⟨_, rfl, by
            have := World.news_of_block (heap_alloc_new (wr.alloc (.cells #[.int .i64 rk, .slice ra rn rc] 50)) (.cells #[.int .i64 rk, .slice ra rn rc] 50))
            simpa [rcells, rcell] using this⟩
          go_wp2_with fail
          refine (spec_In _ _ _ _).mono ?_
          rintro e w' ⟨rfl, rfl⟩
          rw [Hb.out]
          go_wp2_with (at_builtin; refine App.wpList_append_all _ rfl _ _ 24 rfl w.heap.size 50 i0 (.agg #[.int .i64 0, .slice none 0 0]) 2 32 Try.underlying24 hi0 hz0 hz1 hz2 rfl (by decide) _ _ _ rfl HO2.out _ 1 _ (rcells [⟨rk, ra, rn, rc, rvs⟩]) rfl rfl S2.out (rcells_one _) (by unfold maxLen; omega) (by omega) HN2.out.size ?_)
          intro a3 c3 w3 hown3 hgrow3
          have O3 : Hid (w3.ownsRow w.heap.size 50 2 (.slice a3 (m' + 1) c3) (m' + 1) (rcells (ds ++ [⟨rk, ra, rn, rc, rvs⟩]))) := by show World.ownsRow _ _ _ _ _ _ _; rw [rcells_append]; exact hown3
          have HN3 : Hid (Below w.heap.size w w3) := below_append HN2.out HO2.out hgrow3 HN2.out.size
          clear hown3 hgrow3
          go_wp2
          go_roundw
          case rel => exact ⟨k + 1, a3, m' + 1, c3, _, by omega, by go_num, rfl, E.out.symm, by omega, O3.out, HN3.out⟩
          case measure => simp [intOf]; omega
      · obtain rfl : k = n := by omega
        have E : Hid (ds = rangeK lo hi rs) := by show _ = _; rw [HDS.out, List.take_of_length_le (by rw [HL.out]; omega)]
        have HI2 : Hid (IsRows wr a' m' c' ds) := isRows_outer HO.out (fun r hr => by
          rw [E.out] at hr
          have hm := (List.mem_filter.1 hr).1
          exact ⟨(HI.out.rows r hm).1, (HI.out.rows r hm).2.below HN.out⟩)
        go_wp2_with fail
        refine (spec_l2Own _ _ _ ds _ HI2.out (by omega) (fun r hr => by rw [E.out] at hr; exact HV.out r (List.mem_filter.1 hr).1)).mono ?_
        rintro e w4 ⟨a4, c4, qs, rfl, hp, ho4, hb4⟩
        have T2 : Hid (Tel.Told (rangeV lo hi rs) (goodT rs) w (.returned (.tuple #[.slice a4 m' c4, .bool true])) w4) := by
          show Tel.Told _ _ _ _ _
          rw [F.out.1, F.out.2]
          exact ⟨a4, m', c4, qs, rfl, by rw [hp, E.out], OwnRows.mono ho4 hsr, Frame.next HN.out hb4 hsr⟩
        clear hp ho4 hb4
        go_wp2
        go_ret2
        exact T2.out


end Go.Proofs.Ytciaegdgoabipab.Stb
