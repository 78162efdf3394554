/-
  Contracts of the model's PutRow, RangeOf, KeysOf, SetColumn, FindRow.
-/
import Derived.Test.YtciaegdgoabipaaSpt
namespace Go.Proofs.Ytciaegdgoabipaa.Stb
open Go.RowKit
open Go.Proofs.Ytciaegdgoabipaa.Frame Go.Proofs.Ytciaegdgoabipaa.Mem Go.Proofs.Ytciaegdgoabipaa.Vals Go.Proofs.Ytciaegdgoabipaa.Rws Go.Proofs.Ytciaegdgoabipaa.Val Go.Proofs.Ytciaegdgoabipaa.Tab Go.Proofs.Ytciaegdgoabipaa.Reg Go.Proofs.Ytciaegdgoabipaa.Gtab Go.Proofs.Ytciaegdgoabipaa.Cpy Go.Proofs.Ytciaegdgoabipaa.Own Go.Proofs.Ytciaegdgoabipaa.Drp Go.Proofs.Ytciaegdgoabipaa.Tel Go.Proofs.Ytciaegdgoabipaa.Find Go.Proofs.Ytciaegdgoabipaa.Shf Go.Proofs.Ytciaegdgoabipaa.Icp Go.Proofs.Ytciaegdgoabipaa.Shl Go.Proofs.Ytciaegdgoabipaa.Pur Go.Proofs.Ytciaegdgoabipaa.Itb Go.Proofs.Ytciaegdgoabipaa.Itc Go.Proofs.Ytciaegdgoabipaa.Itd Go.Proofs.Ytciaegdgoabipaa.Spt

set_option maxRecDepth 100000 in
set_option maxHeartbeats 400000 in
theorem spec_FindRow' (a : Option Addr) (n cap : Nat) (rs : List RowV) (key : Int) (w : World) (h : IsRows w a n cap rs) (hn : n ≤ 1048576) (hv : ∀ r ∈ rs, r.n ≤ 1048576) :
    Calls Try.prog 20 #[.slice a n cap, .int .i64 key] w (ToldR (rowOut key rs) (foundB key rs) w) := by
  refine (spec_FindRow a n cap rs key w h hn hv).mono ?_
  rintro e w' ⟨h1, hb⟩
  rcases h1 with ⟨hf, rfl⟩ | ⟨hf, a', c', rfl, ho⟩
  · rw [hf, rowOut_no hf]
    exact ⟨none, 0, 0, rfl, World.ownsRow_nil _ _ _ _, by simp, hb⟩
  · have hm : foundR key rs ∈ rs := by
      have hf' := hf
      unfold foundB at hf'
      rw [Bool.and_eq_true, decide_eq_true_eq] at hf'
      obtain ⟨k, hk, hfk⟩ := find_some key rs hf'.2
      unfold foundR
      rw [hfk]
      exact getD_mem_rd hk
    unfold rowOut
    rw [if_pos hf, hf]
    exact ⟨a', _, c', rfl, ho, (h.rows _ hm).2.wf, hb⟩

set_option maxRecDepth 100000 in
set_option maxHeartbeats 400000 in
theorem spec_PutRow (a : Option Addr) (n cap : Nat) (rs : List RowV) (key : Int) (ra : Option Addr) (rn rc : Nat) (vs : List (Bool × Int)) (w : World) (h : IsRows w a n cap rs) (hn : n ≤ 1048576) (hv : ∀ r ∈ rs, r.n ≤ 1048576) (hk : (Lit.int .i64 key).wf = true) (hr : IsVals w ra rn rc vs) (hrn : rn ≤ 1048576) :
    Calls Try.prog 11 #[.slice a n cap, .agg #[.int .i64 key, .slice ra rn rc]] w (Tel.Told (putV key vs rs) (putG key vs rs) w) := by
  have HI : Hid (IsRows w a n cap rs) := h
  have HV : Hid (∀ r ∈ rs, r.n ≤ 1048576) := hv
  have HW : Hid ((Lit.int .i64 key).wf = true) := hk
  have HR : Hid (IsVals w ra rn rc vs) := hr
  have B0 : Hid (Below w.heap.size w (w.alloc (.cells #[.int .i64 key, .slice ra rn rc] 26))) := (Below.refl _ _).alloc (Nat.le_refl _) _
  clear h hv hk hr
  go_enter Try.func11, Try.ntmps11
  go_wp2_with fail
  refine (spec_GoodTable a n cap rs _ (HI.out.below B0.out) hn HV.out).mono ?_
  rintro e w1 ⟨rfl, hb1⟩
  have HB1 : Hid (Below w.heap.size w w1) := Frame.next B0.out hb1 B0.out.size
  have hs1 : w.heap.size + 1 ≤ w1.heap.size := by simpa using hb1.size
  have c0 : w1.cell? ⟨w.heap.size, 0, none⟩ = some (.int .i64 key) := by rw [hb1.cell (p := ⟨w.heap.size, 0, none⟩) (by simp), World.cell?_alloc_at _ _ _ _ rfl]; rfl
  have c1 : w1.cell? ⟨w.heap.size, 1, none⟩ = some (.slice ra rn rc) := by rw [hb1.cell (p := ⟨w.heap.size, 1, none⟩) (by simp), World.cell?_alloc_at _ _ _ _ rfl]; rfl
  clear hb1
  cases hg : goodT rs
  · have F : Hid (putV key vs rs = [] ∧ putG key vs rs = false) := by show _ ∧ _; unfold putV putG putB; rw [hg]; exact ⟨rfl, rfl⟩
    clear hg
    go_wp2
    go_ret2
    rw [F.out.1, F.out.2]
    exact told_no HB1.out
  · have HPB : Hid (putB key vs rs = rowB key vs) := by show _ = _; unfold putB; rw [hg]; rfl
    have hn20 : n ≤ 20 := by rw [← HI.out.len]; exact (goodT_rising hg).2.2
    have C : Hid (w1.cell? ⟨w.heap.size, 0, none⟩ = some (.int .i64 key) ∧ w1.cell? ⟨w.heap.size, 1, none⟩ = some (.slice ra rn rc)) := ⟨c0, c1⟩
    clear hg
    go_wp2_with fail
    refine (spec_l2Row key ra rn rc vs w1 (HR.out.below HB1.out) hrn).mono ?_
    rintro e w2 ⟨rfl, hb2⟩
    have HB2 : Hid (Below w.heap.size w w2) := Frame.next HB1.out hb2 HB1.out.size
    have d0 : w2.cell? ⟨w.heap.size, 0, none⟩ = some (.int .i64 key) := ((Frame.bcell hb2).1 _ _ (by omega)).trans C.out.1
    have d1 : w2.cell? ⟨w.heap.size, 1, none⟩ = some (.slice ra rn rc) := ((Frame.bcell hb2).1 _ _ (by omega)).trans C.out.2
    clear hb2 c0 c1
    cases hq : rowB key vs
    · have F : Hid (putV key vs rs = [] ∧ putG key vs rs = false) := by show _ ∧ _; unfold putV putG; rw [HPB.out, hq]; exact ⟨rfl, rfl⟩
      clear hq
      go_wp2
      go_ret2
      rw [F.out.1, F.out.2]
      exact told_no HB2.out
    · have HPB2 : Hid (putB key vs rs = true) := HPB.out.trans hq
      clear hq
      go_wp2_with fail
      refine (spec_l2Put a n cap rs key ra rn rc vs w2 (HI.out.below HB2.out) (by omega) HW.out (HR.out.below HB2.out)).mono ?_
      rintro e w3 ⟨a3, m3, c3, rfl, hr3, hb3⟩
      have HB3 : Hid (Below w.heap.size w w3) := Frame.next HB2.out hb3 HB2.out.size
      have HI3 : Hid (IsRows w3 a3 m3 c3 (putK ⟨key, ra, rn, rc, vs⟩ rs)) := hr3
      have hm3 : m3 ≤ 1048576 := by
        have h1 := hr3.len
        unfold putK at h1
        rw [insR_length] at h1
        have h2 := dropK_le key rs
        have h3 := HI.out.len
        simp only at h1
        omega
      have HN3 : Hid (∀ r ∈ putK ⟨key, ra, rn, rc, vs⟩ rs, r.n ≤ 1048576) := fun r hr => by
        rcases mem_insR.1 hr with rfl | hr
        · exact hrn
        · exact HV.out r (List.mem_filter.1 hr).1
      have F : Hid (putV key vs rs = tellV (putK ⟨key, ra, rn, rc, vs⟩ rs) ∧ putG key vs rs = goodT (putK ⟨key, ra, rn, rc, vs⟩ rs)) := by
        show _ ∧ _
        unfold putV putG
        rw [HPB2.out, tellV_plain (putK_plain rfl _), goodT_plain (putK_plain rfl _)]
        exact ⟨rfl, rfl⟩
      clear hr3 hb3 d0 d1
      go_wp2_with fail
      refine (spec_l2Tell _ _ _ _ _ HI3.out hm3 HN3.out).mono ?_
      intro e w4 hT
      have T := Told.base hT HB3.out
      rw [← F.out.1, ← F.out.2] at T
      obtain ⟨a4, m4, c4, qs, rfl, hp, ho, hb4⟩ := T
      have T2 : Hid (Tel.Told (putV key vs rs) (putG key vs rs) w (.returned (.tuple #[.slice a4 m4 c4, .bool (putG key vs rs)])) w4) := ⟨a4, m4, c4, qs, rfl, hp, ho, hb4⟩
      clear hT hp ho hb4
      go_wp2
      go_ret2
      exact T2.out

set_option maxRecDepth 100000 in
set_option maxHeartbeats 800000 in
theorem spec_KeysOf (a : Option Addr) (n cap : Nat) (rs : List RowV) (w : World) (h : IsRows w a n cap rs) (hn : n ≤ 1048576) (hv : ∀ r ∈ rs, r.n ≤ 1048576) :
    Calls Try.prog 30 #[.slice a n cap] w (ToldI (keysV rs) (goodT rs) w) := by
  obtain ⟨i0, hi, hz0, hz1, hz2⟩ := info_parts Ints.info
  have HL : Hid (rs.length = n) := h.len
  have HI : Hid (IsRows w a n cap rs) := h
  have HV : Hid (∀ r ∈ rs, r.n ≤ 1048576) := hv
  clear h hv
  go_enter Try.func30, Try.ntmps30
  go_wp2_with fail
  refine (spec_GoodTable a n cap rs _ HI.out hn HV.out).mono ?_
  rintro e w1 ⟨rfl, hb1⟩
  have HB1 : Hid (Below w.heap.size w w1) := hb1
  have hs1 := hb1.size
  clear hb1
  cases hg : goodT rs
  · have F : Hid (keysV rs = [] ∧ goodT rs = false) := by show _ ∧ _; unfold keysV; rw [hg]; exact ⟨rfl, rfl⟩
    clear hg
    go_wp2
    go_ret2
    rw [F.out.1, F.out.2]
    exact ⟨none, 0, 0, rfl, World.ownsRow_nil _ _ _ _, HB1.out⟩
  · have F : Hid (keysV rs = rs.map (·.key) ∧ goodT rs = true) := by show _ ∧ _; unfold keysV; rw [hg]; exact ⟨rfl, rfl⟩
    clear hg
    go_wp2_with fail
    go_loopw [4, 12] (fun o i wr => ∃ (k : Nat) (a' : Option Addr) (c' : Nat), k ≤ n ∧ i = .int .i64 k ∧ o = .slice a' k c' ∧ wr.ownsRow w.heap.size 3 1 (.slice a' k c') k (ints .i64 ((rs.map (·.key)).take k)) ∧ Below w.heap.size w wr) (fun _ i _ => n - (intOf i).toNat)
    case atStart => exact ⟨0, none, 0, Nat.zero_le _, rfl, rfl, World.ownsRow_nil _ _ _ _, HB1.out⟩
    case round =>
      obtain ⟨k, a', c', hk, rfl, rfl, ho, hnx⟩ := hrel
      have HO : Hid (wr.ownsRow w.heap.size 3 1 (.slice a' k c') k (ints .i64 ((rs.map (·.key)).take k))) := ho
      have HN : Hid (Below w.heap.size w wr) := hnx
      have hsr := hnx.size
      clear ho hnx
      by_cases hlt : k < n
      · obtain ⟨b, off, rfl, hbl, hc⟩ := HI.out.cells (by omega)
        have hkl : k < rs.length := by rw [HL.out]; exact hlt
        have p0 : wr.cell? ⟨b, off + k * 2, none⟩ = some (.int .i64 (rs.getD k rd).key) := by rw [HN.out.cell (p := ⟨b, off + k * 2, none⟩) hbl]; exact (hc k hlt).1
        have p1 : wr.cell? ⟨b, off + k * 2 + 1, none⟩ = some (.slice (rs.getD k rd).a (rs.getD k rd).n (rs.getD k rd).c) := by rw [HN.out.cell (p := ⟨b, off + k * 2 + 1, none⟩) hbl]; exact (hc k hlt).2
        have hkI : (k : Int) < (n : Int) := by omega
        have HE : Hid (ints .i64 ((rs.map (·.key)).take (k + 1)) = ints .i64 ((rs.map (·.key)).take k) ++ [.int .i64 (rs.getD k rd).key]) := by show _ = _; rw [← List.map_take, ← List.map_take, take_succ_rd hkl]; simp [ints]
        generalize rs.getD k rd = r at p0 p1 HE
        obtain ⟨rk, ra, rn, rc, rvs⟩ := r
        simp only at p0 p1
        have HE2 : Hid (ints .i64 ((rs.map (·.key)).take (k + 1)) = ints .i64 ((rs.map (·.key)).take k) ++ [.int .i64 rk]) := HE.out
        clear hc hkl HE
        have HO2 : Hid (((wr.alloc (.cells #[.int .i64 rk, .slice ra rn rc] 26)).alloc (.cells #[.int .i64 rk] 3)).ownsRow w.heap.size 3 1 (.slice a' k c') k (ints .i64 ((rs.map (·.key)).take k))) := own_below (own_below HO.out ((Below.refl _ _).alloc (Nat.le_refl _) _)) ((Below.refl _ _).alloc (Nat.le_refl _) _)
        have HN2 : Hid (Below w.heap.size w ((wr.alloc (.cells #[.int .i64 rk, .slice ra rn rc] 26)).alloc (.cells #[.int .i64 rk] 3))) := (HN.out.alloc hsr _).alloc (by simp; omega) _
        have S2 : Hid (0 < 1 → ∃ ad, (some ⟨wr.heap.size + 1, 0, none⟩ : Option Addr) = some ad ∧ ∀ i u, ([.int .i64 rk] : List Value)[i]? = some u → ((wr.alloc (.cells #[.int .i64 rk, .slice ra rn rc] 26)).alloc (.cells #[.int .i64 rk] 3)).cell? (ad.add i) = some u) := fun _ => ⟨_, rfl, by
          have := World.news_of_block (heap_alloc_new (wr.alloc (.cells #[.int .i64 rk, .slice ra rn rc] 26)) (.cells #[.int .i64 rk] 3))
          simpa using this⟩
        go_wp2_with (at_builtin; refine App.wpList_append_all _ rfl _ _ 50 rfl w.heap.size 3 i0 (.int .i64 0) 1 8 Try.underlying50 hi hz0 hz1 hz2 rfl (by decide) _ _ _ rfl HO2.out _ 1 _ [.int .i64 rk] rfl rfl S2.out (by simp [Value.oneCell']) (by unfold maxLen; omega) (by omega) HN2.out.size ?_)
        intro a3 c3 w3 hown3 hgrow3
        have O3 : Hid (w3.ownsRow w.heap.size 3 1 (.slice a3 (k + 1) c3) (k + 1) (ints .i64 ((rs.map (·.key)).take (k + 1)))) := by show World.ownsRow _ _ _ _ _ _ _; rw [HE2.out]; exact hown3
        have HN3 : Hid (Below w.heap.size w w3) := below_append HN2.out HO2.out hgrow3 HN2.out.size
        clear hown3 hgrow3
        go_wp2
        go_roundw
        case rel => exact ⟨k + 1, a3, c3, by omega, by go_num, rfl, O3.out, HN3.out⟩
        case measure => simp [intOf]; omega
      · obtain rfl : k = n := by omega
        have HO2 : Hid (wr.ownsRow w.heap.size 3 1 (.slice a' k c') k (ints .i64 (rs.map (·.key)))) := by have := HO.out; rwa [List.take_of_length_le (by rw [List.length_map, HL.out]; omega)] at this
        go_wp2
        go_ret2
        rw [F.out.1, F.out.2]
        exact ⟨_, _, _, rfl, HO2.out, HN.out⟩

theorem rangeK_take_in (lo hi : Int) (rs : List RowV) (k : Nat) (h : k < rs.length) (e : inB (rs.getD k rd).key lo hi = true) : rangeK lo hi (rs.take (k + 1)) = rangeK lo hi (rs.take k) ++ [rs.getD k rd] := by
  rw [take_succ_rd h]
  generalize rs.getD k rd = r at e ⊢
  unfold rangeK
  rw [List.filter_append]
  simp [e]

theorem rangeK_take_out (lo hi : Int) (rs : List RowV) (k : Nat) (h : k < rs.length) (e : inB (rs.getD k rd).key lo hi = false) : rangeK lo hi (rs.take (k + 1)) = rangeK lo hi (rs.take k) := by
  rw [take_succ_rd h]
  generalize rs.getD k rd = r at e ⊢
  unfold rangeK
  rw [List.filter_append]
  simp [e]

theorem rangeK_le (lo hi : Int) (rs : List RowV) : (rangeK lo hi rs).length ≤ rs.length := List.length_filter_le _ _

set_option maxRecDepth 100000 in
set_option maxHeartbeats 800000 in
theorem spec_RangeOf (a : Option Addr) (n cap : Nat) (rs : List RowV) (lo hi : Int) (w : World) (h : IsRows w a n cap rs) (hn : n ≤ 1048576) (hv : ∀ r ∈ rs, r.n ≤ 1048576) :
    Calls Try.prog 23 #[.slice a n cap, .int .i64 lo, .int .i64 hi] w (Tel.Told (rangeV lo hi rs) (goodT rs) w) := by
  obtain ⟨i0, hi0, hz0, hz1, hz2⟩ := info_parts infoR
  have HL : Hid (rs.length = n) := h.len
  have HI : Hid (IsRows w a n cap rs) := h
  have HV : Hid (∀ r ∈ rs, r.n ≤ 1048576) := hv
  clear h hv
  go_enter Try.func23, Try.ntmps23
  go_wp2_with fail
  refine (spec_GoodTable a n cap rs _ HI.out hn HV.out).mono ?_
  rintro e w1 ⟨rfl, hb1⟩
  have HB1 : Hid (Below w.heap.size w w1) := hb1
  have hs1 := hb1.size
  clear hb1
  cases hg : goodT rs
  · have F : Hid (rangeV lo hi rs = [] ∧ goodT rs = false) := by show _ ∧ _; unfold rangeV; rw [hg]; exact ⟨rfl, rfl⟩
    clear hg
    go_wp2
    go_ret2
    rw [F.out.1, F.out.2]
    exact told_no HB1.out
  · have F : Hid (rangeV lo hi rs = plain (rangeK lo hi rs) ∧ goodT rs = true) := by show _ ∧ _; unfold rangeV; rw [hg]; exact ⟨rfl, rfl⟩
    clear hg
    go_wp2_with fail
    go_loopw [8, 10, 16] (fun o _ i wr => ∃ (k : Nat) (a' : Option Addr) (m' c' : Nat) (ds : List RowV), k ≤ n ∧ i = .int .i64 k ∧ o = .slice a' m' c' ∧ ds = rangeK lo hi (rs.take k) ∧ m' ≤ k ∧ wr.ownsRow w.heap.size 26 2 (.slice a' m' c') m' (rcells ds) ∧ Below w.heap.size w wr) (fun _ _ i _ => n - (intOf i).toNat)
    case atStart => exact ⟨0, none, 0, 0, [], Nat.zero_le _, rfl, rfl, rfl, Nat.le_refl _, World.ownsRow_nil _ _ _ _, HB1.out⟩
    case round =>
      obtain ⟨k, a', m', c', ds, hk, rfl, rfl, hds, hm', ho, hnx⟩ := hrel
      have HDS : Hid (ds = rangeK lo hi (rs.take k)) := hds
      have HO : Hid (wr.ownsRow w.heap.size 26 2 (.slice a' m' c') m' (rcells ds)) := ho
      have HN : Hid (Below w.heap.size w wr) := hnx
      have hsr := hnx.size
      clear ho hnx hds
      by_cases hlt : k < n
      · obtain ⟨b, off, rfl, hbl, hc⟩ := HI.out.cells (by omega)
        have hkl : k < rs.length := by rw [HL.out]; exact hlt
        have p0 : wr.cell? ⟨b, off + k * 2, none⟩ = some (.int .i64 (rs.getD k rd).key) := by rw [HN.out.cell (p := ⟨b, off + k * 2, none⟩) hbl]; exact (hc k hlt).1
        have p1 : wr.cell? ⟨b, off + k * 2 + 1, none⟩ = some (.slice (rs.getD k rd).a (rs.getD k rd).n (rs.getD k rd).c) := by rw [HN.out.cell (p := ⟨b, off + k * 2 + 1, none⟩) hbl]; exact (hc k hlt).2
        have hkI : (k : Int) < (n : Int) := by omega
        have HX : Hid ((inB (rs.getD k rd).key lo hi = true → rangeK lo hi (rs.take (k + 1)) = ds ++ [rs.getD k rd]) ∧ (inB (rs.getD k rd).key lo hi = false → rangeK lo hi (rs.take (k + 1)) = ds)) := by
          show _ ∧ _
          rw [HDS.out]
          exact ⟨rangeK_take_in lo hi rs k hkl, rangeK_take_out lo hi rs k hkl⟩
        generalize rs.getD k rd = r at p0 p1 HX
        obtain ⟨rk, ra, rn, rc, rvs⟩ := r
        simp only at p0 p1
        have HX2 : Hid ((inB rk lo hi = true → rangeK lo hi (rs.take (k + 1)) = ds ++ [⟨rk, ra, rn, rc, rvs⟩]) ∧ (inB rk lo hi = false → rangeK lo hi (rs.take (k + 1)) = ds)) := HX.out
        clear hc hkl HX
        cases hb : inB rk lo hi
        · have E : Hid (rangeK lo hi (rs.take (k + 1)) = ds) := HX2.out.2 hb
          have Hb : Hid (inB rk lo hi = false) := hb
          clear hb HX2
          go_wp2_with fail
          refine (spec_In _ _ _ _).mono ?_
          rintro e w' ⟨rfl, rfl⟩
          rw [Hb.out]
          go_wp2
          go_roundw
          case rel => exact ⟨k + 1, a', m', c', ds, by omega, by go_num, rfl, E.out.symm, by omega, own_below HO.out ((Below.refl _ _).alloc (Nat.le_refl _) _), HN.out.alloc hsr _⟩
          case measure => simp [intOf]; omega
        · have E : Hid (rangeK lo hi (rs.take (k + 1)) = ds ++ [⟨rk, ra, rn, rc, rvs⟩]) := HX2.out.1 hb
          have Hb : Hid (inB rk lo hi = true) := hb
          clear hb HX2
          have HO2 : Hid (((wr.alloc (.cells #[.int .i64 rk, .slice ra rn rc] 26)).alloc (.cells #[.int .i64 rk, .slice ra rn rc] 26)).ownsRow w.heap.size 26 2 (.slice a' m' c') m' (rcells ds)) := own_below (own_below HO.out ((Below.refl _ _).alloc (Nat.le_refl _) _)) ((Below.refl _ _).alloc (Nat.le_refl _) _)
          have HN2 : Hid (Below w.heap.size w ((wr.alloc (.cells #[.int .i64 rk, .slice ra rn rc] 26)).alloc (.cells #[.int .i64 rk, .slice ra rn rc] 26))) := (HN.out.alloc hsr _).alloc (by simp; omega) _
          have S2 : Hid (0 < 1 → ∃ ad, (some ⟨wr.heap.size + 1, 0, none⟩ : Option Addr) = some ad ∧ ∀ i u, (rcells [⟨rk, ra, rn, rc, rvs⟩])[i]? = some u → ((wr.alloc (.cells #[.int .i64 rk, .slice ra rn rc] 26)).alloc (.cells #[.int .i64 rk, .slice ra rn rc] 26)).cell? (ad.add i) = some u) := fun _ => ⟨_, rfl, by
            have := World.news_of_block (heap_alloc_new (wr.alloc (.cells #[.int .i64 rk, .slice ra rn rc] 26)) (.cells #[.int .i64 rk, .slice ra rn rc] 26))
            simpa [rcells, rcell] using this⟩
          go_wp2_with fail
          refine (spec_In _ _ _ _).mono ?_
          rintro e w' ⟨rfl, rfl⟩
          rw [Hb.out]
          go_wp2_with (at_builtin; refine App.wpList_append_all _ rfl _ _ 23 rfl w.heap.size 26 i0 (.agg #[.int .i64 0, .slice none 0 0]) 2 32 Try.underlying23 hi0 hz0 hz1 hz2 rfl (by decide) _ _ _ rfl HO2.out _ 1 _ (rcells [⟨rk, ra, rn, rc, rvs⟩]) rfl rfl S2.out (rcells_one _) (by unfold maxLen; omega) (by omega) HN2.out.size ?_)
          intro a3 c3 w3 hown3 hgrow3
          have O3 : Hid (w3.ownsRow w.heap.size 26 2 (.slice a3 (m' + 1) c3) (m' + 1) (rcells (ds ++ [⟨rk, ra, rn, rc, rvs⟩]))) := by show World.ownsRow _ _ _ _ _ _ _; rw [rcells_append]; exact hown3
          have HN3 : Hid (Below w.heap.size w w3) := below_append HN2.out HO2.out hgrow3 HN2.out.size
          clear hown3 hgrow3
          go_wp2
          go_roundw
          case rel => exact ⟨k + 1, a3, m' + 1, c3, _, by omega, by go_num, rfl, E.out.symm, by omega, O3.out, HN3.out⟩
          case measure => simp [intOf]; omega
      · obtain rfl : k = n := by omega
        have E : Hid (ds = rangeK lo hi rs) := by show _ = _; rw [HDS.out, List.take_of_length_le (by rw [HL.out]; omega)]
        have HI2 : Hid (IsRows wr a' m' c' ds) := isRows_outer HO.out (fun r hr => by
          rw [E.out] at hr
          have hm := (List.mem_filter.1 hr).1
          exact ⟨(HI.out.rows r hm).1, (HI.out.rows r hm).2.below HN.out⟩)
        go_wp2_with fail
        refine (spec_l2Own _ _ _ ds _ HI2.out (by omega) (fun r hr => by rw [E.out] at hr; exact HV.out r (List.mem_filter.1 hr).1)).mono ?_
        rintro e w4 ⟨a4, c4, qs, rfl, hp, ho4, hb4⟩
        have T2 : Hid (Tel.Told (rangeV lo hi rs) (goodT rs) w (.returned (.tuple #[.slice a4 m' c4, .bool true])) w4) := by
          show Tel.Told _ _ _ _ _
          rw [F.out.1, F.out.2]
          exact ⟨a4, m', c4, qs, rfl, by rw [hp, E.out], OwnRows.mono ho4 hsr, Frame.next HN.out hb4 hsr⟩
        clear hp ho4 hb4
        go_wp2
        go_ret2
        exact T2.out


end Go.Proofs.Ytciaegdgoabipaa.Stb
