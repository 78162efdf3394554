/-
  Contracts of the program's functions on rows that are kept by their keys: keysOn, stands, tableOn.
-/
import Derived.Test.YtciaegdgoabipaaShf
import Derived.Test.YtciaegdgoabipaaLay
import Derived.Test.YtciaegdgoabipaaIcp
import Derived.Test.YtciaegdgoabipaaIg
import Derived.Test.YtciaegdgoabipaaTel
namespace Go.Proofs.Ytciaegdgoabipaa.Sht
open Go.RowKit Go.Maps Go.Sort
open Go.Proofs.Ytciaegdgoabipaa.Frame Go.Proofs.Ytciaegdgoabipaa.Mem Go.Proofs.Ytciaegdgoabipaa.Vals Go.Proofs.Ytciaegdgoabipaa.Rws Go.Proofs.Ytciaegdgoabipaa.Val Go.Proofs.Ytciaegdgoabipaa.Tab Go.Proofs.Ytciaegdgoabipaa.Reg Go.Proofs.Ytciaegdgoabipaa.Gtab Go.Proofs.Ytciaegdgoabipaa.Cpy Go.Proofs.Ytciaegdgoabipaa.Own Go.Proofs.Ytciaegdgoabipaa.Drp Go.Proofs.Ytciaegdgoabipaa.Shf Go.Proofs.Ytciaegdgoabipaa.Icp Go.Proofs.Ytciaegdgoabipaa.Ig

set_option maxRecDepth 100000 in
set_option maxHeartbeats 1000000 in
theorem impl_keysOn (base b n : Nat) (qs : List RowV) (w : World) (h : OwnShelf w base b n qs) (hq : qs.length ≤ 1000) :
    Calls Try.prog 58 #[.map (some b)] w fun e w' => ∃ a c, e = .returned (.slice a qs.length c) ∧ w'.ownsRow w.heap.size 3 1 (.slice a qs.length c) qs.length (ints .i64 (qs.map (·.key))) ∧ Below w.heap.size w w' := by
  obtain ⟨i0, hi, hz0, hz1, hz2⟩ := info_parts Ints.info
  have hown := h.map
  have HR : Hid (Rising qs) := h.rising
  have hbl := hown.lt
  have hsz : Maps.size (shelf qs) ≤ 1000 := by rw [size_shelf]; exact hq
  clear h
  go_enter Try.func58, Try.ntmps58
  go_wp2_with (first
    | (at_len; refine wpList_len_own _ rfl _ 75 rfl 3 26 Try.underlying75 _ b n _ rfl hown ?_)
    | (at_make; refine wpList_make_own _ rfl _ _ 50 rfl w.heap.size 3 i0 (.int .i64 0) 1 Try.underlying50 hi hz0 hz1 _ _ _ (Maps.size (shelf qs)) rfl rfl rfl (by rw [hz2]; omega) (by unfold maxLen; omega) (Nat.le_refl _) ?_; intro w1 hrow1 hg1)
    | (at_range; refine wpList_range_own _ rfl _ 75 rfl 3 26 law Try.underlying75 _ b n _ rfl (hown.kept hg1 (by simp)) ?_; intro w0 hrg0 hg0 hs0))
  go_frame
  go_loopw [3] (fun v wr => ∃ (left : Lit → Bool) (cnt : Nat) (zs : List Int), wr.ranges Try.prog 3 Rv b w1.heap.size n (shelf qs) left cnt ∧ zs.length + cnt ≤ Maps.size (shelf qs) ∧
      wr.ownsRow w.heap.size 3 1 v zs.length (zs.map (Value.int .i64)) ∧ v ≠ .slice none 0 0 ∧ Coll (shelf qs) left zs ∧ Below w.heap.size w wr)
    (fun _ wr => wr.rangeLeft b w1.heap.size)
  case atStart =>
    exact ⟨_, _, [], hrg0, by simp, hrow1.kept hg0 (Or.inr (by simp [Value.ownBlock])), by simp, Coll.start _,
      ((Below.refl _ _).grown hg1 (Nat.le_refl _) (fun j hj => by cases hj)).grown hg0 hg1.size (fun j hj => by cases hj)⟩
  case round =>
    obtain ⟨left, cnt, zs, hrg, hcs, hrow, hnn, hC, hnx⟩ := hrel
    go_wp2_with (first
      | (at_next; refine wpList_next_ranges _ rfl _ rfl 3 law Rv (Value.int .i64) (id : Value → Value) (fun key kl hk => by obtain ⟨x, hx, _⟩ := Maps.keyOf_int_inv Try.underlying3 hk; exact ⟨x, hx⟩) (fun v y _ => ⟨v, rfl⟩) b w1.heap.size n _ _ _ rfl hrg ?_ ?_))
    · intro hc0 hl0
      rcases hrow.2 with ⟨hnil, _⟩ | ⟨g, cap, cur, rfl, hbase, hb, h1, h2, h3, h4⟩
      · exact absurd hnil hnn
      have hH : Holds (Value.int .i64) wr g 0 zs.toArray := holds_of_blockI hb (by simpa using h4)
      have hgl : g < wr.heap.size := (Array.getElem?_eq_some_iff.1 hb).1
      have hc := Lay.slices_Sort_int g 0 cap zs wr hH hgl (by omega)
      have HK : Hid (zs.mergeSort (fun x y => decide (x ≤ y)) = qs.map (·.key) ∧ zs.length = qs.length) := keys_sorted HR.out hC hl0
      clear hC hl0 hc0
      go_wp2_with (go_at_call 73; refine hc.mono ?_; rintro e w' ⟨rfl, nn, os, rfl⟩)
      go_ret
      have hO := ownsRow_sortedI (n := nn) (os := os) (ts := zs.mergeSort fun x y => decide (x ≤ y)) (by simp) hbase hb h1 h2 h3
      have hB := hnx.grown (grownBy_sortedI (n := nn) (os := os) (zs.mergeSort fun x y => decide (x ≤ y)).toArray) hnx.size (fun j hj => by cases hj; exact hbase)
      rw [HK.out.1] at hO hB ⊢
      rw [HK.out.2] at hO ⊢
      exact ⟨_, _, rfl, hO, hB⟩
    · intro x c kl yd yp w2 cnt2 hkey hlk hv hat hrg2 hlt hg2 hs2 hen
      obtain ⟨x', ex, rfl, _⟩ := Maps.keyOf_int_inv Try.underlying3 hkey
      cases ex
      have hrow2 := hrow.kept hg2 (Or.inr (row_ne_iter hrow hrg).symm)
      clear hs2
      go_wp2_with (first
        | (at_builtin; refine wpList_append_own _ rfl _ _ 50 rfl w.heap.size 3 i0 (.int .i64 0) 1 8 Try.underlying50 hi hz0 hz1 hz2 rfl (by decide) _ _ _ rfl (hrow2.alloc _) ⟨w2.heap.size, 0, none⟩ 1 1 [.int .i64 x] rfl rfl (cell_one_new _ _ _) (by simp [Value.oneCell']) (by unfold maxLen at *; omega) (by omega) (by have := hnx.size; have := hg2.size; simp; omega) ?_; intro v' w3 hown' hg3 hnil3; go_frame))
      have hrg3 := (hrg2.alloc _).kept hg3 (row_ne_low hrow2 hbl) (row_ne_iter hrow2 hrg2)
      go_roundw
      case rel =>
        refine ⟨_, cnt2, zs ++ [x], hrg3, by simp; omega, by simpa using hown', fun hv' => by have := (hnil3.1 hv').2; omega, hC.step hlk hat, ?_⟩
        exact ((hnx.grown hg2 hnx.size (fun j hj => by cases hj; exact hg1.size)).alloc (by have := hnx.size; have := hg2.size; omega) _).grown hg3 (by have := hnx.size; have := hg2.size; simp; omega) (fun j hj => (hrow2.lt j hj).1)
      case measure => rw [hrg3.left_eq, hrg.left_eq]; exact hlt

theorem any_key {qs : List RowV} {key : Int} : (qs.any fun r => decide (r.key = key)) = true → ∃ r ∈ qs, r.key = key := by
  intro h
  obtain ⟨r, hr, e⟩ := List.any_eq_true.1 h
  exact ⟨r, hr, by simpa using e⟩
theorem any_no {qs : List RowV} {key : Int} : (qs.any fun r => decide (r.key = key)) = false → ∀ r ∈ qs, r.key ≠ key := by
  intro h r hr
  have := List.any_eq_false.1 h r hr
  simpa using this

set_option maxRecDepth 100000 in
set_option maxHeartbeats 400000 in
theorem impl_stands (base b n : Nat) (qs : List RowV) (key : Int) (w : World) (h : OwnShelf w base b n qs) (hk : (Lit.int .i64 key).wf = true) :
    Calls Try.prog 52 #[.map (some b), .int .i64 key] w fun e w' => e = .returned (.bool (qs.any fun r => decide (r.key = key))) ∧ Below w.heap.size w w' := by
  have HM : Hid (w.ownsMap Try.prog 3 Rv b n (shelf qs)) := h.map
  have HR : Hid (Rising qs) := h.rising
  have HK : Hid _ := key_of hk
  clear h
  have HH : Hid (has (shelf qs) (.int .i64 key) = qs.any fun r => decide (r.key = key)) := has_shelf qs key
  cases hq : qs.any fun r => decide (r.key = key)
  · have HQ : Hid (has (shelf qs) (.int .i64 key) = false) := HH.out.trans hq
    have HA : Hid ((shelf qs).atKey (.int .i64 key) (.held (.agg #[.int .i64 0, .slice none 0 0])) = .held (.agg #[.int .i64 0, .slice none 0 0])) := atKey_none (any_no hq) _
    clear hq
    go_enter Try.func52, Try.ntmps52
    go_wp2_with (at_lookup; refine wpList_lookup_held_ok _ rfl _ _ 75 rfl 3 26 law Try.underlying75 _ (zeroR _) b n (shelf qs) rfl HM.out _ _ rfl HK.out _ HA.out _ HQ.out ?_)
    go_ret
    exact ⟨rfl, (Below.refl _ _).alloc (Nat.le_refl _) _⟩
  · obtain ⟨r, hr, rfl⟩ := any_key hq
    have HQ : Hid (has (shelf qs) (.int .i64 r.key) = true) := HH.out.trans hq
    have HA : Hid ((shelf qs).atKey (.int .i64 r.key) (.held (.agg #[.int .i64 0, .slice none 0 0])) = .held (.agg #[.int .i64 r.key, .slice r.a r.n r.c])) := atKey_shelf HR.out hr _
    clear hq
    go_enter Try.func52, Try.ntmps52
    go_wp2_with (at_lookup; refine wpList_lookup_held_ok _ rfl _ _ 75 rfl 3 26 law Try.underlying75 _ (zeroR _) b n (shelf qs) rfl HM.out _ _ rfl HK.out _ HA.out _ HQ.out ?_)
    go_ret
    exact ⟨rfl, (Below.refl _ _).alloc (Nat.le_refl _) _⟩

theorem part_get (qs : List RowV) (m k : Nat) (h : k < qs.length) (hm : qs.length = m) : qs.take k ++ List.replicate (m - k) rd = qs.take k ++ rd :: List.replicate (m - (k + 1)) rd := by
  rw [show m - k = (m - (k + 1)) + 1 by omega, List.replicate_succ]

theorem part_set (qs : List RowV) (m k : Nat) (h : k < qs.length) (hm : qs.length = m) : ((rcells (qs.take k ++ List.replicate (m - k) rd)).set (k * 2) (.int .i64 (qs.getD k rd).key)).set (k * 2 + 1) (.slice (qs.getD k rd).a (qs.getD k rd).n (qs.getD k rd).c) = rcells (qs.take (k + 1) ++ List.replicate (m - (k + 1)) rd) := by
  rw [part_get qs m k h hm]
  have := set_rcells (qs.take k) (List.replicate (m - (k + 1)) rd) rd (qs.getD k rd)
  rw [show (qs.take k).length = k by rw [List.length_take]; omega] at this
  rw [this, take_succ_rd h]
  simp

/-- A table and a word are told, the lists from a place on. -/
def ToldB (xs : List (Int × List (Bool × Int))) (q : Bool) (base : Nat) (w : World) (e : Ending) (w' : World) : Prop :=
  ∃ a m c ps, e = .returned (.tuple #[.slice a m c, .bool q]) ∧ plain ps = xs ∧ OwnRows w' base a m c ps ∧ Below w.heap.size w w'

theorem ToldB.told {xs : List (Int × List (Bool × Int))} {q : Bool} {w w1 w' : World} {e : Ending} (h : ToldB xs q w.heap.size w1 e w') (hb : Below w.heap.size w w1) : Tel.Told xs q w e w' := by
  obtain ⟨a, m, c, ps, he, hp, ho, hb'⟩ := h
  exact ⟨a, m, c, ps, he, hp, ho, Frame.next hb hb' hb.size⟩

set_option maxRecDepth 100000 in
set_option maxHeartbeats 1000000 in
theorem impl_tableOn (base b n : Nat) (qs : List RowV) (w : World) (h : OwnShelf w base b n qs) (hq : qs.length ≤ 1000) (hv : ∀ r ∈ qs, r.n ≤ 1048576) :
    Calls Try.prog 48 #[.map (some b)] w (ToldB (Tel.tellV qs) (goodT qs) base w) := by
  obtain ⟨i0, hi, hz0, hz1, hz2⟩ := info_parts infoR
  have HS : Hid (OwnShelf w base b n qs) := h
  have HV : Hid (∀ r ∈ qs, r.n ≤ 1048576) := hv
  have hbb : base < w.heap.size := Nat.lt_of_le_of_lt h.low h.map.lt
  clear h hv
  go_enter Try.func48, Try.ntmps48
  go_wp2_with fail
  refine (impl_keysOn base b n qs w HS.out hq).mono ?_
  rintro e w1 ⟨a1, c1, rfl, ho1, hb1⟩
  obtain ⟨m, hm⟩ : ∃ m, qs.length = m := ⟨_, rfl⟩
  have HL : Hid (qs.length = m) := hm
  rw [hm] at ho1 ⊢
  have hm1 : m ≤ 1000 := by omega
  have HW : Hid (∀ z ∈ qs.map (·.key), (Lit.int .i64 z).wf = true) := fun z hz => by obtain ⟨r, hr, rfl⟩ := List.mem_map.1 hz; exact (HS.out.wf r hr).1
  obtain ⟨a', c', e1, hr1⟩ := isRow_own ho1 HW.out
  cases e1
  have HI1 : Hid (IsRow .i64 w1 a1 m c1 (qs.map (·.key))) := hr1
  have HB1 : Hid (Below w.heap.size w w1) := hb1
  have hs1 := hb1.size
  clear hr1 ho1 hb1 hm hq
  go_wp2_with (at_make; refine wpList_make_full _ rfl _ _ 23 rfl w1.heap.size 26 i0 (.agg #[.int .i64 0, .slice none 0 0]) 2 Try.underlying23 hi hz0 hz1 _ _ _ _ m rfl rfl rfl rfl ?b2 ?b3 (Nat.le_refl _) ?_)
  case b2 => rw [hz2]; omega
  case b3 => unfold maxLen; omega
  intro w0 hown0 hgrow0
  have HO0 : Hid (w0.ownsRow w1.heap.size 26 2 (.slice (some ⟨w1.heap.size, 0, none⟩) m m) m (rcells (qs.take 0 ++ List.replicate (m - 0) rd))) := by
    show World.ownsRow _ _ _ _ _ _ _
    rw [List.take_zero, List.nil_append, Nat.sub_zero, ← made_rows]
    exact hown0
  have HB0 : Hid (Below w1.heap.size w1 w0) := (Below.refl _ _).grown hgrow0 (Nat.le_refl _) (fun k h => by cases h)
  clear hown0 hgrow0
  go_wp2_with fail
  go_loopw [6, 7, 15] (fun _ _ i wr => ∃ k : Nat, k ≤ m ∧ i = .int .i64 k ∧ wr.ownsRow w1.heap.size 26 2 (.slice (some ⟨w1.heap.size, 0, none⟩) m m) m (rcells (qs.take k ++ List.replicate (m - k) rd)) ∧ Below w1.heap.size w1 wr)
    (fun _ _ i _ => m - (intOf i).toNat)
  case atStart => exact ⟨0, Nat.zero_le _, rfl, HO0.out, HB0.out⟩
  case round =>
    obtain ⟨k, hk, rfl, hown, hnx⟩ := hrel
    have HN : Hid (Below w1.heap.size w1 wr) := hnx
    have HNw : Hid (Below w.heap.size w wr) := Frame.next HB1.out hnx HB1.out.size
    have HO : Hid (wr.ownsRow w1.heap.size 26 2 (.slice (some ⟨w1.heap.size, 0, none⟩) m m) m (rcells (qs.take k ++ List.replicate (m - k) rd))) := hown
    clear hown hnx
    by_cases hlt : k < m
    · have hkl : k < qs.length := by rw [HL.out]; exact hlt
      obtain ⟨b1, off, rfl, hbl, hc⟩ := HI1.out.cells (by omega)
      have p0 : wr.cell? ⟨b1, off + k, none⟩ = some (.int .i64 (qs.getD k rd).key) := by
        rw [HN.out.cell (p := ⟨b1, off + k, none⟩) hbl, hc k hlt]
        simp [List.getD, hkl]
      have HM : Hid (wr.ownsMap Try.prog 3 Rv b n (shelf qs)) := (HS.out.below HNw.out).map
      have HA : Hid ((shelf qs).atKey (.int .i64 (qs.getD k rd).key) (.held (.agg #[.int .i64 0, .slice none 0 0])) = .held (.agg #[.int .i64 (qs.getD k rd).key, .slice (qs.getD k rd).a (qs.getD k rd).n (qs.getD k rd).c])) := atKey_shelf HS.out.rising (getD_mem_rd hkl) _
      have HK : Hid (keyOf Try.prog 3 (.int .i64 (qs.getD k rd).key) = some (.int .i64 (qs.getD k rd).key)) := key_of (HS.out.wf _ (getD_mem_rd hkl)).1
      have hset := part_set qs m k hkl HL.out
      generalize qs.getD k rd = r at p0 HA HK hset
      obtain ⟨rk, ra, rn, rc, rvs⟩ := r
      simp only at p0 hset
      have HA2 : Hid ((shelf qs).atKey (.int .i64 rk) (.held (.agg #[.int .i64 0, .slice none 0 0])) = .held (.agg #[.int .i64 rk, .slice ra rn rc])) := HA.out
      have HK2 : Hid (keyOf Try.prog 3 (.int .i64 rk) = some (.int .i64 rk)) := HK.out
      have hl : (rcells (qs.take k ++ List.replicate (m - k) rd)).length = m * 2 := by simpa using HO.out.1
      have f0 := HO.out.frozenAt (k * 2)
      have f1 := HO.out.frozenAt (k * 2 + 1)
      obtain ⟨o0, ho0⟩ : ∃ o, wr.cell? ⟨w1.heap.size, k * 2, none⟩ = some o := by rw [HO.out.cellAt _ (by omega)]; exact ⟨_, List.getElem?_eq_getElem (by omega)⟩
      obtain ⟨o1, ho1'⟩ : ∃ o, wr.cell? ⟨w1.heap.size, k * 2 + 1, none⟩ = some o := by rw [HO.out.cellAt _ (by omega)]; exact ⟨_, List.getElem?_eq_getElem (by omega)⟩
      have hst := ((HO.out.stored (k * 2) (.int .i64 rk)).1.stored (k * 2 + 1) (.slice ra rn rc)).1
      rw [hset] at hst
      have HST : Hid (((wr.setCell ⟨w1.heap.size, k * 2, none⟩ (.int .i64 rk)).setCell ⟨w1.heap.size, k * 2 + 1, none⟩ (.slice ra rn rc)).ownsRow w1.heap.size 26 2 (.slice (some ⟨w1.heap.size, 0, none⟩) m m) m (rcells (qs.take (k + 1) ++ List.replicate (m - (k + 1)) rd))) := hst
      clear hst hset hl hc HA HK hkl
      go_wp2_with (at_lookup; refine wpList_lookup_held _ rfl _ _ 75 rfl 3 26 law Try.underlying75 _ (zeroR _) b n (shelf qs) rfl HM.out _ _ rfl HK2.out _ HA2.out ?_)
      go_roundw
      case rel => exact ⟨k + 1, by omega, by go_num, HST.out, (HN.out.setCell (Nat.le_refl _) _).setCell (Nat.le_refl _) _⟩
      case measure => simp [intOf]; omega
    · obtain rfl : k = m := by omega
      have hO := HO.out
      rw [List.take_of_length_le (by rw [HL.out]; omega), Nat.sub_self, List.replicate_zero, List.append_nil] at hO
      have hsr := HNw.out.size
      have HOR : Hid (OwnRows wr base (some ⟨w1.heap.size, 0, none⟩) k k qs) := ⟨own_base hO (by omega), fun r hr => own_below (HS.out.inner r hr) HNw.out, HS.out.wf, HS.out.apart, fun r hr x y hx hy => by
        cases hx
        have := (own_block (HS.out.inner r hr) y hy).2
        show w1.heap.size ≠ _
        omega⟩
      clear hO
      go_wp2_with fail
      refine (impl_GoodTable _ _ _ qs _ HOR.out.isRows (by omega) HV.out).mono ?_
      rintro e w2 ⟨rfl, hb2⟩
      have HB2 : Hid (Below w.heap.size w w2) := Frame.next HNw.out hb2 HNw.out.size
      have HO2 : Hid (OwnRows w2 base (some ⟨w1.heap.size, 0, none⟩) k k qs) := OwnRows.below HOR.out hb2
      clear hb2
      cases hg : goodT qs
      · have F : Hid (Tel.tellV qs = []) := by show _ = _; unfold Tel.tellV; rw [hg]; rfl
        have Hg : Hid (goodT qs = false) := hg
        clear hg
        go_wp2
        go_ret2
        rw [F.out, Hg.out]
        exact ⟨none, 0, 0, [], rfl, rfl, ownRows_nil _ _, HB2.out⟩
      · have F : Hid (Tel.tellV qs = plain qs) := by show _ = _; unfold Tel.tellV; rw [hg]; rfl
        have Hg : Hid (goodT qs = true) := hg
        clear hg
        go_wp2
        go_ret2
        rw [F.out, Hg.out]
        exact ⟨_, _, _, qs, rfl, rfl, HO2.out, HB2.out⟩


end Go.Proofs.Ytciaegdgoabipaa.Sht
