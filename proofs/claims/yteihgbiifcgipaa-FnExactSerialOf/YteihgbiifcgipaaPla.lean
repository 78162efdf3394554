/-
  Contracts of the last write of an item, of LastWrites and of ReadsFrom, of the program and of the model.
-/
import Derived.Test.YteihgbiifcgipaaPpu
import Derived.Test.YteihgbiifcgipaaMii
namespace Go.Proofs.Yteihgbiifcgipaa.Pla
open Go.RowKit
open Go.Proofs.Yteihgbiifcgipaa.Frame Go.Proofs.Yteihgbiifcgipaa.Mem Go.Proofs.Yteihgbiifcgipaa.Ints Go.Proofs.Yteihgbiifcgipaa.Kep Go.Proofs.Yteihgbiifcgipaa.Val Go.Proofs.Yteihgbiifcgipaa.FAct Go.Proofs.Yteihgbiifcgipaa.Pga Go.Proofs.Yteihgbiifcgipaa.Ppu Go.Proofs.Yteihgbiifcgipaa.Mii

theorem ret_int {x y : Int} (h : x = y) : Ending.returned (.int .i64 x) = .returned (.int .i64 y) := by rw [h]

set_option maxHeartbeats 800000 in
theorem impl_last (a : Option Addr) (n cap : Nat) (xs : List D) (item : Int) (w : World) (h : IsX w a n cap xs) (hn : n ≤ 1048576) :
    Calls Try.prog 68 #[.slice a n cap, .int .i64 item] w fun e w' => e = .returned (.int .i64 (lastN item xs)) ∧ Below w.heap.size w w' := by
  have HL : Hid (xs.length = n) := h.len
  have HI : Hid (IsX w a n cap xs) := h
  clear h
  go_enter Try.func68, Try.ntmps68
  go_wp2_with fail
  go_loopw [5, 10] (fun v i wr => ∃ k : Nat, k ≤ n ∧ i = .int .i64 k ∧ v = .int .i64 (lastN item (xs.take k)) ∧ Below w.heap.size w wr) (fun _ i _ => n - (intOf i).toNat)
  case atStart => exact ⟨0, Nat.zero_le _, rfl, rfl, Below.refl _ _⟩
  case round =>
    obtain ⟨k, hk, rfl, rfl, hnx⟩ := hrel
    have HN : Hid (Below w.heap.size w wr) := hnx
    have hsr := hnx.size
    by_cases hlt : k < n
    · obtain ⟨b, off, who, it, wri, rfl, p0, p1, p2, hx⟩ := act_at HI.out hnx hlt
      have HF : Hid (lastN item (xs.take (k + 1)) = bif wri && (it == item) then (k : Int) else lastN item (xs.take k)) := by
        show _ = _
        rw [lastN_take (by rw [HL.out]; exact hlt), hx]; rfl
      have B1 : Hid (Below w.heap.size w (wr.alloc (.cells #[.int .i64 who, .int .i64 it, .bool wri] 59))) := hnx.alloc hsr _
      clear hx hnx
      cases hq : (it == item)
      · have F : Hid (lastN item (xs.take (k + 1)) = lastN item (xs.take k)) := by
          show _ = _
          rw [HF.out, hq, Bool.and_false]; rfl
        cases wri
        · go_wp2
          go_roundw
          case rel => exact ⟨k + 1, by omega, by go_num, by rw [F.out], B1.out⟩
          case measure => simp [intOf]; omega
        · go_wp2
          go_roundw
          case rel => exact ⟨k + 1, by omega, by go_num, by rw [F.out], B1.out⟩
          case measure => simp [intOf]; omega
      · cases wri
        · have F : Hid (lastN item (xs.take (k + 1)) = lastN item (xs.take k)) := by
            show _ = _
            rw [HF.out]; rfl
          go_wp2
          go_roundw
          case rel => exact ⟨k + 1, by omega, by go_num, by rw [F.out], B1.out⟩
          case measure => simp [intOf]; omega
        · have F : Hid (lastN item (xs.take (k + 1)) = (k : Int)) := by
            show _ = _
            rw [HF.out, hq]; rfl
          go_wp2
          go_roundw
          case rel => exact ⟨k + 1, by omega, by go_num, by rw [F.out], B1.out⟩
          case measure => simp [intOf]; omega
    · have F : Hid (lastN item (xs.take k) = lastN item xs) := by
        show _ = _
        rw [List.take_of_length_le (by rw [HL.out]; omega)]
      clear hnx
      go_wp2
      go_ret
      exact ⟨ret_int F.out, HN.out⟩

set_option maxHeartbeats 800000 in
theorem spec_last (a : Option Addr) (n cap : Nat) (xs : List D) (item : Int) (w : World) (h : IsX w a n cap xs) (hn : n ≤ 1048576) :
    Calls Try.prog 79 #[.slice a n cap, .int .i64 item] w fun e w' => e = .returned (.int .i64 (lastN item xs)) ∧ Below w.heap.size w w' := by
  have HL : Hid (xs.length = n) := h.len
  have HI : Hid (IsX w a n cap xs) := h
  clear h
  go_enter Try.func79, Try.ntmps79
  go_wp2_with fail
  go_loopw [5, 10] (fun v i wr => ∃ k : Nat, k ≤ n ∧ i = .int .i64 k ∧ v = .int .i64 (lastN item (xs.take k)) ∧ Below w.heap.size w wr) (fun _ i _ => n - (intOf i).toNat)
  case atStart => exact ⟨0, Nat.zero_le _, rfl, rfl, Below.refl _ _⟩
  case round =>
    obtain ⟨k, hk, rfl, rfl, hnx⟩ := hrel
    have HN : Hid (Below w.heap.size w wr) := hnx
    have hsr := hnx.size
    by_cases hlt : k < n
    · obtain ⟨b, off, who, it, wri, rfl, p0, p1, p2, hx⟩ := act_at HI.out hnx hlt
      have HF : Hid (lastN item (xs.take (k + 1)) = bif wri && (it == item) then (k : Int) else lastN item (xs.take k)) := by
        show _ = _
        rw [lastN_take (by rw [HL.out]; exact hlt), hx]; rfl
      have B1 : Hid (Below w.heap.size w (wr.alloc (.cells #[.int .i64 who, .int .i64 it, .bool wri] 59))) := hnx.alloc hsr _
      clear hx hnx
      cases hq : (it == item)
      · have F : Hid (lastN item (xs.take (k + 1)) = lastN item (xs.take k)) := by
          show _ = _
          rw [HF.out, hq, Bool.and_false]; rfl
        cases wri
        · go_wp2
          go_roundw
          case rel => exact ⟨k + 1, by omega, by go_num, by rw [F.out], B1.out⟩
          case measure => simp [intOf]; omega
        · go_wp2
          go_roundw
          case rel => exact ⟨k + 1, by omega, by go_num, by rw [F.out], B1.out⟩
          case measure => simp [intOf]; omega
      · cases wri
        · have F : Hid (lastN item (xs.take (k + 1)) = lastN item (xs.take k)) := by
            show _ = _
            rw [HF.out]; rfl
          go_wp2
          go_roundw
          case rel => exact ⟨k + 1, by omega, by go_num, by rw [F.out], B1.out⟩
          case measure => simp [intOf]; omega
        · have F : Hid (lastN item (xs.take (k + 1)) = (k : Int)) := by
            show _ = _
            rw [HF.out, hq]; rfl
          go_wp2
          go_roundw
          case rel => exact ⟨k + 1, by omega, by go_num, by rw [F.out], B1.out⟩
          case measure => simp [intOf]; omega
    · have F : Hid (lastN item (xs.take k) = lastN item xs) := by
        show _ = _
        rw [List.take_of_length_le (by rw [HL.out]; omega)]
      clear hnx
      go_wp2
      go_ret
      exact ⟨ret_int F.out, HN.out⟩

theorem lastsN_length (xs : List D) : (lastsN xs).length = 4 := by simp [lastsN]
theorem lastsN_get (xs : List D) (k : Nat) (h : k < 4) : (lastsN xs).getD k 0 = lastN (k : Int) xs := by simp [lastsN, List.getD, h]
theorem readsN_length (xs : List D) : (readsN xs).length = xs.length := by simp [readsN]
theorem readsN_get (xs : List D) (k : Nat) (h : k < xs.length) : (readsN xs).getD k 0 = readN xs k := by simp [readsN, List.getD, h]
theorem lastsN_wf {xs : List D} (h : xs.length ≤ 1048576) : ∀ z ∈ lastsN xs, (Lit.int .i64 z).wf = true := by
  intro z hz
  unfold lastsN at hz
  obtain ⟨i, _, rfl⟩ := List.mem_map.1 hz
  have := lastN_bounds (i : Int) xs
  exact int_wf _ (by omega) (by omega)
theorem readsN_wf {xs : List D} (h : xs.length ≤ 1048576) : ∀ z ∈ readsN xs, (Lit.int .i64 z).wf = true := by
  intro z hz
  unfold readsN at hz
  obtain ⟨i, hi, rfl⟩ := List.mem_map.1 hz
  have := readN_bounds xs i (List.mem_range.1 hi)
  exact int_wf _ (by omega) (by omega)
theorem iOwn_nil (w : World) (lo hi : Nat) : IOwn w lo hi (.slice none 0 0) [] := ⟨none, 0, 0, rfl, ⟨rfl, .inl ⟨rfl, rfl⟩⟩, by simp, by omega, by simp⟩

set_option maxRecDepth 4000 in
set_option maxHeartbeats 800000 in
theorem impl_LastWrites (v : Value) (xs : List D) (w : World) (h : XIs w v xs) :
    Calls Try.prog 33 #[v] w fun e w' => ∃ u, e = .returned (.tuple #[u, .bool (goodP xs)]) ∧ IOwn w' w.heap.size w'.heap.size u (lastsV xs) ∧ Below w.heap.size w w' := by
  obtain ⟨a, n, cap, rfl, hr, hn⟩ := h
  obtain ⟨i0, hi, hz0, hz1, hz2⟩ := info_parts Ints.info
  have HL : Hid (xs.length = n) := hr.len
  have HI : Hid (IsX w a n cap xs) := hr
  have HWF : Hid (∀ z ∈ lastsN xs, (Lit.int .i64 z).wf = true) := lastsN_wf (by rw [HL.out]; exact hn)
  clear hr
  cases hg : goodP xs
  · have E : Hid (lastsV xs = []) := if_neg (by rw [hg]; exact Bool.false_ne_true)
    have HG : Hid (goodP xs = false) := hg
    clear hg
    go_enter Try.func33, Try.ntmps33
    go_wp2_with fail
    refine (impl_GoodPlay a n cap xs _ HI.out).mono ?_
    rintro e w1 ⟨rfl, hb1⟩
    have B1 : Hid (Below w.heap.size w w1) := hb1
    clear hb1
    rw [HG.out]
    go_wp2_with fail
    go_ret2
    exact ⟨_, rfl, by rw [E.out]; exact iOwn_nil _ _ _, B1.out⟩
  · have E : Hid (lastsV xs = lastsN xs) := if_pos hg
    have HG : Hid (goodP xs = true) := hg
    clear hg
    go_enter Try.func33, Try.ntmps33
    go_wp2_with fail
    refine (impl_GoodPlay a n cap xs _ HI.out).mono ?_
    rintro e w1 ⟨rfl, hb1⟩
    have B1 : Hid (Below w.heap.size w w1) := hb1
    clear hb1
    rw [HG.out]
    have hs1 := B1.out.size
    go_wp2_with (at_make; refine wpList_make_full _ rfl _ _ 25 rfl w.heap.size 3 i0 (.int .i64 0) 1 Try.underlying25 hi hz0 hz1 _ _ _ _ 4 rfl rfl rfl rfl ?b2 ?b3 hs1 ?_)
    case b2 => rw [hz2]; omega
    case b3 => unfold maxLen; omega
    intro w2 hown2 hgrow2
    have B2 : Hid (Below w.heap.size w w2) := B1.out.grown hgrow2 hs1 (fun k h => by cases h)
    have O2 : Hid (w2.ownsRow w.heap.size 3 1 (.slice (some ⟨w1.heap.size, 0, none⟩) 4 4) 4 (ints .i64 ((lastsN xs).take 0) ++ List.replicate (4 - 0) (Value.int .i64 0))) := by
      show World.ownsRow _ _ _ _ _ _ _
      have e : (madeCells #[Value.int .i64 0] 4).toList = ints .i64 ((lastsN xs).take 0) ++ List.replicate (4 - 0) (Value.int .i64 0) := by
        rw [toList_madeCells_one]; simp [ints]
      rw [← e]
      exact hown2
    clear hown2 hgrow2
    go_wp2_with fail
    go_loopw [12] (fun i wr => ∃ k : Nat, k ≤ 4 ∧ i = .int .i64 k ∧ wr.ownsRow w.heap.size 3 1 (.slice (some ⟨w1.heap.size, 0, none⟩) 4 4) 4 (ints .i64 ((lastsN xs).take k) ++ List.replicate (4 - k) (Value.int .i64 0)) ∧ Below w.heap.size w wr) (fun i _ => 4 - (intOf i).toNat)
    case atStart => exact ⟨0, by omega, rfl, O2.out, B2.out⟩
    case round =>
      obtain ⟨k, hk, rfl, ho, hnx⟩ := hrel
      have HN : Hid (Below w.heap.size w wr) := hnx
      have HO : Hid (wr.ownsRow w.heap.size 3 1 (.slice (some ⟨w1.heap.size, 0, none⟩) 4 4) 4 (ints .i64 ((lastsN xs).take k) ++ List.replicate (4 - k) (Value.int .i64 0))) := ho
      clear ho hnx
      by_cases hlt : k < 4
      · have hset := Ints.set_part (lastsN xs) 4 k (by rw [lastsN_length]; exact hlt) (lastsN_length xs)
        rw [lastsN_get xs k hlt] at hset
        have HSET : Hid _ := hset
        clear hset
        go_wp2_with fail
        refine (impl_last a n cap xs (k : Int) _ (HI.out.below HN.out) hn).mono ?_
        rintro e w3 ⟨rfl, hb3⟩
        have ho3 := own_below HO.out hb3
        have HN3 : Hid (Below w.heap.size w w3) := Frame.next HN.out hb3 HN.out.size
        have hst := (ho3.stored k (.int .i64 (lastN (k : Int) xs))).1
        rw [HSET.out] at hst
        have Hst : Hid _ := hst
        have hfz := ho3.frozenAt k
        obtain ⟨old, hold⟩ : ∃ old, w3.cell? ⟨w1.heap.size, k, none⟩ = some old := by
          have hl : (ints .i64 ((lastsN xs).take k) ++ List.replicate (4 - k) (Value.int .i64 0)).length = 4 := by
            rw [List.length_append, ints_length, List.length_take, List.length_replicate, lastsN_length]; omega
          rw [ho3.cellAt k (by omega)]
          exact ⟨_, List.getElem?_eq_getElem (by omega)⟩
        clear hst ho3 hb3
        go_wp2
        go_roundw
        case rel => exact ⟨k + 1, by omega, by go_num, Hst.out, HN3.out.setCell hs1 _⟩
        case measure => simp [intOf]; omega
      · obtain rfl : k = 4 := by omega
        have O4 : Hid (wr.ownsRow w.heap.size 3 1 (.slice (some ⟨w1.heap.size, 0, none⟩) 4 4) 4 (ints .i64 (lastsN xs))) := by
          show World.ownsRow _ _ _ _ _ _ _
          have := HO.out
          rwa [List.take_of_length_le (by rw [lastsN_length]; omega), Nat.sub_self, List.replicate_zero, List.append_nil] at this
        clear HO
        go_wp2
        go_ret2
        exact ⟨_, rfl, by rw [E.out]; exact iOwn_of O4.out HWF.out (by omega), HN.out⟩

set_option maxRecDepth 4000 in
set_option maxHeartbeats 800000 in
theorem spec_lasts (a : Option Addr) (n cap : Nat) (xs : List D) (w : World) (h : IsX w a n cap xs) (hn : n ≤ 1048576) :
    Calls Try.prog 70 #[.slice a n cap] w fun e w' => ∃ a' c', e = .returned (.slice a' 4 c') ∧ w'.ownsRow w.heap.size 3 1 (.slice a' 4 c') 4 (ints .i64 (lastsN xs)) ∧ Below w.heap.size w w' := by
  obtain ⟨i0, hi, hz0, hz1, hz2⟩ := info_parts Ints.info
  have HI : Hid (IsX w a n cap xs) := h
  clear h
  go_enter Try.func70, Try.ntmps70
  go_wp2_with fail
  go_loopw [3, 4] (fun v i wr => ∃ (k : Nat) (a' : Option Addr) (c' : Nat), k ≤ 4 ∧ i = .int .i64 k ∧ v = .slice a' k c' ∧ wr.ownsRow w.heap.size 3 1 (.slice a' k c') k (ints .i64 ((lastsN xs).take k)) ∧ Below w.heap.size w wr) (fun _ i _ => 4 - (intOf i).toNat)
  case atStart => exact ⟨0, none, 0, by omega, rfl, rfl, ⟨rfl, .inl ⟨rfl, rfl⟩⟩, Below.refl _ _⟩
  case round =>
    obtain ⟨k, a', c', hk, rfl, rfl, ho, hnx⟩ := hrel
    have HN : Hid (Below w.heap.size w wr) := hnx
    have HO : Hid (wr.ownsRow w.heap.size 3 1 (.slice a' k c') k (ints .i64 ((lastsN xs).take k))) := ho
    clear ho hnx
    by_cases hlt : k < 4
    · have F : Hid ((lastsN xs).take (k + 1) = (lastsN xs).take k ++ [lastN (k : Int) xs]) := by
        show _ = _
        rw [take_succ_getD (by rw [lastsN_length]; exact hlt), lastsN_get xs k hlt]
      go_wp2_with fail
      refine (spec_last a n cap xs (k : Int) _ (HI.out.below HN.out) hn).mono ?_
      rintro e w3 ⟨rfl, hb3⟩
      have HO3 : Hid (w3.ownsRow w.heap.size 3 1 (.slice a' k c') k (ints .i64 ((lastsN xs).take k))) := own_below HO.out hb3
      have HN3 : Hid (Below w.heap.size w w3) := Frame.next HN.out hb3 HN.out.size
      clear hb3
      have HOa4 : Hid ((w3.alloc (.cells #[.int .i64 (lastN (k : Int) xs)] 3)).ownsRow w.heap.size 3 1 (.slice a' k c') k (ints .i64 ((lastsN xs).take k))) := own_below HO3.out ((Below.refl _ _).alloc (Nat.le_refl _) _)
      have HNa4 : Hid (Below w.heap.size w (w3.alloc (.cells #[.int .i64 (lastN (k : Int) xs)] 3))) := HN3.out.alloc HN3.out.size _
      have Sa4 : Hid (0 < 1 → ∃ ad, (some ⟨w3.heap.size, 0, none⟩ : Option Addr) = some ad ∧ ∀ j u, ([.int .i64 (lastN (k : Int) xs)] : List Value)[j]? = some u → (w3.alloc (.cells #[.int .i64 (lastN (k : Int) xs)] 3)).cell? (ad.add j) = some u) := news_one w3 _ _
      go_wp2_with (at_builtin; refine App.wpList_append_all _ rfl _ _ 25 rfl w.heap.size 3 i0 (.int .i64 0) 1 8 Try.underlying25 hi hz0 hz1 hz2 rfl (by decide) _ _ _ rfl HOa4.out _ 1 _ [.int .i64 (lastN (k : Int) xs)] rfl rfl Sa4.out (by simp [Value.oneCell']) (by unfold maxLen; omega) (by omega) (Nat.le_trans (by first | exact Nat.le_refl _ | omega) HNa4.out.size) ?_)
      intro a4 c4 w4 hown4 hgrow4
      have O4 : Hid (w4.ownsRow w.heap.size 3 1 (.slice a4 (k + 1) c4) (k + 1) (ints .i64 (((lastsN xs).take k) ++ [(lastN (k : Int) xs)]))) := by show World.ownsRow _ _ _ _ _ _ _; simpa [ints] using hown4
      have N4 : Hid (Below w.heap.size w w4) := below_app HNa4.out HOa4.out hgrow4 HNa4.out.size (by first | exact Nat.le_refl _ | omega)
      clear hown4 hgrow4 HOa4 HNa4 Sa4
      go_wp2
      go_roundw
      case rel => exact ⟨k + 1, a4, c4, by omega, by go_num, rfl, by rw [F.out]; exact O4.out, N4.out⟩
      case measure => simp [intOf]; omega
    · obtain rfl : k = 4 := by omega
      have O4 : Hid (wr.ownsRow w.heap.size 3 1 (.slice a' 4 c') 4 (ints .i64 (lastsN xs))) := by
        show World.ownsRow _ _ _ _ _ _ _
        have := HO.out
        rwa [List.take_of_length_le (by rw [lastsN_length]; omega)] at this
      clear HO
      go_wp2
      go_ret
      exact ⟨_, _, rfl, O4.out, HN.out⟩

set_option maxHeartbeats 800000 in
theorem spec_LastWrites (v : Value) (xs : List D) (w : World) (h : XIs w v xs) :
    Calls Try.prog 34 #[v] w fun e w' => ∃ u, e = .returned (.tuple #[u, .bool (goodP xs)]) ∧ IOwn w' w.heap.size w'.heap.size u (lastsV xs) ∧ Below w.heap.size w w' := by
  obtain ⟨a, n, cap, rfl, hr, hn⟩ := h
  have HL : Hid (xs.length = n) := hr.len
  have HI : Hid (IsX w a n cap xs) := hr
  have HWF : Hid (∀ z ∈ lastsN xs, (Lit.int .i64 z).wf = true) := lastsN_wf (by rw [HL.out]; exact hn)
  clear hr
  cases hg : goodP xs
  · have E : Hid (lastsV xs = []) := if_neg (by rw [hg]; exact Bool.false_ne_true)
    have HG : Hid (goodP xs = false) := hg
    clear hg
    go_enter Try.func34, Try.ntmps34
    go_wp2_with fail
    refine (spec_GoodPlay a n cap xs _ HI.out).mono ?_
    rintro e w1 ⟨rfl, hb1⟩
    have B1 : Hid (Below w.heap.size w w1) := hb1
    clear hb1
    rw [HG.out]
    go_wp2_with fail
    go_ret2
    exact ⟨_, rfl, by rw [E.out]; exact iOwn_nil _ _ _, B1.out⟩
  · have E : Hid (lastsV xs = lastsN xs) := if_pos hg
    have HG : Hid (goodP xs = true) := hg
    clear hg
    go_enter Try.func34, Try.ntmps34
    go_wp2_with fail
    refine (spec_GoodPlay a n cap xs _ HI.out).mono ?_
    rintro e w1 ⟨rfl, hb1⟩
    have B1 : Hid (Below w.heap.size w w1) := hb1
    clear hb1
    rw [HG.out]
    go_wp2_with fail
    refine (spec_lasts a n cap xs _ (HI.out.below B1.out) hn).mono ?_
    rintro e w2 ⟨a', c', rfl, ho2, hb2⟩
    have O2 : Hid (w2.ownsRow w.heap.size 3 1 (.slice a' 4 c') 4 (ints .i64 (lastsN xs))) := Mem.own_base ho2 B1.out.size
    have B2 : Hid (Below w.heap.size w w2) := Frame.next B1.out hb2 B1.out.size
    clear ho2 hb2
    go_wp2
    go_ret2
    exact ⟨_, rfl, by rw [E.out]; exact iOwn_of O2.out HWF.out (by omega), B2.out⟩


end Go.Proofs.Yteihgbiifcgipaa.Pla
