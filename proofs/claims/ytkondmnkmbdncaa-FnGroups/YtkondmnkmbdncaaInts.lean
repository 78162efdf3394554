/-
  Contracts of the laws' helpers on slices of integers: copied, compared, marked, asked for the marks.
-/
import Derived.Test.YtkondmnkmbdncaaMem
namespace Go.Proofs.Ytkondmnkmbdncaa.Ints
open Go.RowKit
open Go.Proofs.Ytkondmnkmbdncaa.Frame Go.Proofs.Ytkondmnkmbdncaa.Mem

theorem info : (Try.prog.info? 3).map (fun i => (i.zero, i.size, i.bytes)) = some (some (.int .i64 0), 1, 8) := by kernel_rfl

theorem set_part (zs : List Int) (n k : Nat) (h : k < zs.length) (hn : zs.length = n) :
    (ints .i64 (zs.take k) ++ List.replicate (n - k) (Value.int .i64 0)).set k (.int .i64 (zs.getD k 0)) = ints .i64 (zs.take (k + 1)) ++ List.replicate (n - (k + 1)) (Value.int .i64 0) := by
  have e : n - k = (n - (k + 1)) + 1 := by omega
  rw [e, List.replicate_succ, take_succ_getD h]
  have hl : (ints .i64 (zs.take k)).length = k := by rw [ints_length, List.length_take]; omega
  rw [List.set_append_right _ _ (by omega), hl]
  simp [ints]

set_option maxHeartbeats 400000 in
theorem toIntS (a : Option Addr) (n cap : Nat) (zs : List Int) (w : World) (h : IsRow .i64 w a n cap zs) (hn : n ≤ 1048576) :
    Calls Try.prog 106 #[.slice a n cap] w fun e w' => e = .returned (.slice (some ⟨w.heap.size, 0, none⟩) n n) ∧ w'.ownsRow w.heap.size 3 1 (.slice (some ⟨w.heap.size, 0, none⟩) n n) n (ints .i64 zs) ∧ Below w.heap.size w w' := by
  obtain ⟨i0, hi, hz0, hz1, hz2⟩ := info_parts info
  have hlen := h.len
  have HL : Hid (zs.length = n) := hlen
  have HC := h.cells
  have HCs : Hid (0 < n → ∃ b off, a = some ⟨b, off, none⟩ ∧ b < w.heap.size ∧ ∀ i, i < n → w.cell? ⟨b, off + i, none⟩ = some (.int .i64 (zs.getD i 0))) := HC
  clear hlen HC h
  go_enter Try.func106, Try.ntmps106
  go_wp2_with (at_make; refine wpList_make_full _ rfl _ _ 24 rfl w.heap.size 3 i0 (.int .i64 0) 1 Try.underlying24 hi hz0 hz1 _ _ _ _ n rfl rfl rfl rfl ?b2 ?b3 (Nat.le_refl _) ?_)
  case b2 => rw [hz2]; omega
  case b3 => unfold maxLen; omega
  intro w0 hown0 hgrow0
  go_wp2
  go_loopw [4] (fun i wr => ∃ k : Nat, k ≤ n ∧ i = .int .i64 k ∧ wr.ownsRow w.heap.size 3 1 (.slice (some ⟨w.heap.size, 0, none⟩) n n) n (ints .i64 (zs.take k) ++ List.replicate (n - k) (Value.int .i64 0)) ∧ Below w.heap.size w wr)
    (fun i _ => n - (intOf i).toNat)
  case atStart =>
    refine ⟨0, Nat.zero_le _, rfl, ?_, (Below.refl _ _).grown hgrow0 (Nat.le_refl _) (fun k h => by cases h)⟩
    have e : (madeCells #[Value.int .i64 0] n).toList = ints .i64 (zs.take 0) ++ List.replicate (n - 0) (Value.int .i64 0) := by
      rw [toList_madeCells_one]
      simp [ints]
    rw [← e]
    exact hown0
  case round =>
    obtain ⟨k, hk, rfl, hown, hnx⟩ := hrel
    by_cases hlt : k < n
    · obtain ⟨b, off, rfl, hbl, hc⟩ := HCs.out (by omega)
      have hck : wr.cell? ⟨b, off + k, none⟩ = some (.int .i64 (zs.getD k 0)) := by rw [hnx.cell (p := ⟨b, off + k, none⟩) hbl]; exact hc k hlt
      have hst := (hown.stored k (.int .i64 (zs.getD k 0)))
      have hset := set_part zs n k (by rw [HL.out]; exact hlt) HL.out
      rw [hset] at hst
      have Hst : Hid _ := hst
      have hfz := hown.frozenAt k
      obtain ⟨old, hold⟩ : ∃ old, wr.cell? ⟨w.heap.size, k, none⟩ = some old := by
        have hl : (ints .i64 (zs.take k) ++ List.replicate (n - k) (Value.int .i64 0)).length = n := by
          rw [List.length_append, ints_length, List.length_take, List.length_replicate, HL.out]; omega
        rw [hown.cellAt k (by omega)]
        exact ⟨_, List.getElem?_eq_getElem (by omega)⟩
      have Hn : Hid _ := hnx
      clear hst hset hown hnx hc
      go_wp2
      go_roundw
      case rel => exact ⟨k + 1, by omega, by go_num, Hst.out.1, Hn.out.setCell (Nat.le_refl _) _⟩
      case measure => simp [intOf]; omega
    · go_wp2
      go_ret
      have e : ints .i64 (zs.take k) ++ List.replicate (n - k) (Value.int .i64 0) = ints .i64 zs := by
        rw [List.take_of_length_le (by rw [HL.out]; omega), show n - k = 0 by omega]
        simp
      rw [e] at hown
      exact ⟨rfl, hown, hnx⟩

theorem ret_bool {x y : Bool} (h : x = y) : Ending.returned (.bool x) = .returned (.bool y) := by rw [h]
theorem eq_take_succ (xs ys : List Int) (k : Nat) (hx : k < xs.length) (hy : k < ys.length) (h : xs.take k = ys.take k) (e : xs.getD k 0 = ys.getD k 0) : xs.take (k + 1) = ys.take (k + 1) := by
  rw [take_succ_getD hx, take_succ_getD hy, h, e]

theorem ne_of_getD (xs ys : List Int) (k : Nat) (h : xs.getD k 0 ≠ ys.getD k 0) : xs ≠ ys := fun e => h (by rw [e])

set_option maxHeartbeats 400000 in
theorem eqIntS (a b : Option Addr) (n m ca cb : Nat) (xs ys : List Int) (w : World) (ha : IsRow .i64 w a n ca xs) (hb : IsRow .i64 w b m cb ys) (hn : n ≤ 1048576) (hm : m ≤ 1048576) :
    Calls Try.prog 56 #[.slice a n ca, .slice b m cb] w fun e w' => e = .returned (.bool (decide (xs = ys))) ∧ Below w.heap.size w w' := by
  have la := ha.len
  have lb := hb.len
  by_cases hl : n = m
  · subst hl
    have HA := ha.cells
    have HAs : Hid (0 < n → ∃ b off, a = some ⟨b, off, none⟩ ∧ b < w.heap.size ∧ ∀ i, i < n → w.cell? ⟨b, off + i, none⟩ = some (.int .i64 (xs.getD i 0))) := HA
    have HB := hb.cells
    have HBs : Hid (0 < n → ∃ c off, b = some ⟨c, off, none⟩ ∧ c < w.heap.size ∧ ∀ i, i < n → w.cell? ⟨c, off + i, none⟩ = some (.int .i64 (ys.getD i 0))) := HB
    have LA : Hid (xs.length = n) := la
    have LB : Hid (ys.length = n) := lb
    clear HA HB la lb ha hb
    go_enter Try.func56, Try.ntmps56
    go_wp2
    go_loopw [5] (fun i wr => ∃ k : Nat, k ≤ n ∧ i = .int .i64 k ∧ xs.take k = ys.take k ∧ Below w.heap.size w wr) (fun i _ => n - (intOf i).toNat)
    case atStart => exact ⟨0, Nat.zero_le _, rfl, rfl, Below.refl _ _⟩
    case round =>
      obtain ⟨k, hk, rfl, heq, hnx⟩ := hrel
      have Heq : Hid (xs.take k = ys.take k) := heq
      have Hn : Hid (Below w.heap.size w wr) := hnx
      by_cases hlt : k < n
      · obtain ⟨b1, o1, rfl, hb1, hc1⟩ := HAs.out (by omega)
        obtain ⟨b2, o2, rfl, hb2, hc2⟩ := HBs.out (by omega)
        have h1 : wr.cell? ⟨b1, o1 + k, none⟩ = some (.int .i64 (xs.getD k 0)) := by rw [hnx.cell (p := ⟨b1, o1 + k, none⟩) hb1]; exact hc1 k hlt
        have h2 : wr.cell? ⟨b2, o2 + k, none⟩ = some (.int .i64 (ys.getD k 0)) := by rw [hnx.cell (p := ⟨b2, o2 + k, none⟩) hb2]; exact hc2 k hlt
        have hkI : (k : Int) < (n : Int) := by omega
        have hxy : Hid (∀ x y, xs.getD k 0 = x → ys.getD k 0 = y → (x = y → xs.take (k + 1) = ys.take (k + 1)) ∧ (x ≠ y → xs ≠ ys)) := fun x y ex ey =>
          ⟨fun e => eq_take_succ xs ys k (by rw [LA.out]; exact hlt) (by rw [LB.out]; exact hlt) Heq.out (by rw [ex, ey, e]), fun e => ne_of_getD xs ys k (by rw [ex, ey]; exact e)⟩
        generalize hx : xs.getD k 0 = x at h1
        generalize hy : ys.getD k 0 = y at h2
        have hxy' : Hid ((x = y → xs.take (k + 1) = ys.take (k + 1)) ∧ (x ≠ y → xs ≠ ys)) := hxy.out x y hx hy
        clear heq hnx hc1 hc2 hx hy hxy
        by_cases hv : x = y
        · have F : Hid (xs.take (k + 1) = ys.take (k + 1)) := hxy'.out.1 hv
          subst hv
          clear hxy'
          go_wp2_with fail
          go_quiet (fail)
          go_wp2
          go_roundw
          case rel => exact ⟨k + 1, by omega, by go_num, F.out, below_drewN Hn.out _⟩
          case measure => simp [intOf]; omega
        · have hvb : (x != y) = true := by rw [bne_iff_ne]; exact hv
          have F : Hid (decide (xs = ys) = false) := decide_eq_false (hxy'.out.2 hv)
          clear hv hxy'
          go_wp2_with fail
          go_quiet (fail)
          go_wp2
          go_ret
          exact ⟨ret_bool F.out.symm, below_drewN Hn.out _⟩
      · clear heq
        have F : Hid (decide (xs = ys) = true) := decide_eq_true (by
          have h := Heq.out
          rwa [List.take_of_length_le (by rw [LA.out]; omega), List.take_of_length_le (by rw [LB.out]; omega)] at h)
        clear hnx
        go_wp2
        go_ret
        exact ⟨ret_bool F.out.symm, Hn.out⟩
  · have e : decide (xs = ys) = false := decide_eq_false (fun h => hl (by rw [← la, ← lb, h]))
    rw [e]
    have hne : ((n : Int) != (m : Int)) = true := by rw [bne_iff_ne]; omega
    clear e ha hb la lb hl
    go_enter Try.func56, Try.ntmps56
    go_wp2
    go_ret
    exact ⟨rfl, Below.refl _ _⟩

set_option maxHeartbeats 400000 in
theorem sameInts (a b : Option Addr) (n m ca cb : Nat) (xs ys : List Int) (w : World) (ha : IsRow .i64 w a n ca xs) (hb : IsRow .i64 w b m cb ys) (hn : n ≤ 1048576) (hm : m ≤ 1048576) :
    Calls Try.prog 20 #[.slice a n ca, .slice b m cb] w fun e w' => e = .returned (.bool (decide (xs = ys))) ∧ Below w.heap.size w w' := by
  have la := ha.len
  have lb := hb.len
  by_cases hl : n = m
  · subst hl
    have HA := ha.cells
    have HAs : Hid (0 < n → ∃ b off, a = some ⟨b, off, none⟩ ∧ b < w.heap.size ∧ ∀ i, i < n → w.cell? ⟨b, off + i, none⟩ = some (.int .i64 (xs.getD i 0))) := HA
    have HB := hb.cells
    have HBs : Hid (0 < n → ∃ c off, b = some ⟨c, off, none⟩ ∧ c < w.heap.size ∧ ∀ i, i < n → w.cell? ⟨c, off + i, none⟩ = some (.int .i64 (ys.getD i 0))) := HB
    have LA : Hid (xs.length = n) := la
    have LB : Hid (ys.length = n) := lb
    clear HA HB la lb ha hb
    go_enter Try.func20, Try.ntmps20
    go_wp2
    go_loopw [13] (fun i wr => ∃ k : Nat, k ≤ n ∧ i = .int .i64 k ∧ xs.take k = ys.take k ∧ Below w.heap.size w wr) (fun i _ => n - (intOf i).toNat)
    case atStart => exact ⟨0, Nat.zero_le _, rfl, rfl, Below.refl _ _⟩
    case round =>
      obtain ⟨k, hk, rfl, heq, hnx⟩ := hrel
      have Heq : Hid (xs.take k = ys.take k) := heq
      have Hn : Hid (Below w.heap.size w wr) := hnx
      by_cases hlt : k < n
      · obtain ⟨b1, o1, rfl, hb1, hc1⟩ := HAs.out (by omega)
        obtain ⟨b2, o2, rfl, hb2, hc2⟩ := HBs.out (by omega)
        have h1 : wr.cell? ⟨b1, o1 + k, none⟩ = some (.int .i64 (xs.getD k 0)) := by rw [hnx.cell (p := ⟨b1, o1 + k, none⟩) hb1]; exact hc1 k hlt
        have h2 : wr.cell? ⟨b2, o2 + k, none⟩ = some (.int .i64 (ys.getD k 0)) := by rw [hnx.cell (p := ⟨b2, o2 + k, none⟩) hb2]; exact hc2 k hlt
        have hkI : (k : Int) < (n : Int) := by omega
        have hxy : Hid (∀ x y, xs.getD k 0 = x → ys.getD k 0 = y → (x = y → xs.take (k + 1) = ys.take (k + 1)) ∧ (x ≠ y → xs ≠ ys)) := fun x y ex ey =>
          ⟨fun e => eq_take_succ xs ys k (by rw [LA.out]; exact hlt) (by rw [LB.out]; exact hlt) Heq.out (by rw [ex, ey, e]), fun e => ne_of_getD xs ys k (by rw [ex, ey]; exact e)⟩
        generalize hx : xs.getD k 0 = x at h1
        generalize hy : ys.getD k 0 = y at h2
        have hxy' : Hid ((x = y → xs.take (k + 1) = ys.take (k + 1)) ∧ (x ≠ y → xs ≠ ys)) := hxy.out x y hx hy
        clear heq hnx hc1 hc2 hx hy hxy
        by_cases hv : x = y
        · have F : Hid (xs.take (k + 1) = ys.take (k + 1)) := hxy'.out.1 hv
          subst hv
          clear hxy'
          go_wp2_with fail
          go_quiet (fail)
          go_wp2
          go_roundw
          case rel => exact ⟨k + 1, by omega, by go_num, F.out, below_drewN Hn.out _⟩
          case measure => simp [intOf]; omega
        · have hvb : (x != y) = true := by rw [bne_iff_ne]; exact hv
          have F : Hid (decide (xs = ys) = false) := decide_eq_false (hxy'.out.2 hv)
          clear hv hxy'
          go_wp2_with fail
          go_quiet (fail)
          go_wp2
          go_ret
          exact ⟨ret_bool F.out.symm, below_drewN Hn.out _⟩
      · clear heq
        have F : Hid (decide (xs = ys) = true) := decide_eq_true (by
          have h := Heq.out
          rwa [List.take_of_length_le (by rw [LA.out]; omega), List.take_of_length_le (by rw [LB.out]; omega)] at h)
        clear hnx
        go_wp2
        go_ret
        exact ⟨ret_bool F.out.symm, Hn.out⟩
  · have e : decide (xs = ys) = false := decide_eq_false (fun h => hl (by rw [← la, ← lb, h]))
    rw [e]
    have hne : ((n : Int) != (m : Int)) = true := by rw [bne_iff_ne]; omega
    clear e ha hb la lb hl
    go_enter Try.func20, Try.ntmps20
    go_wp2
    go_ret
    exact ⟨rfl, Below.refl _ _⟩

theorem ret_int {x y : Int} (h : x = y) : Ending.returned (.int .i64 x) = .returned (.int .i64 y) := by rw [h]

set_option maxHeartbeats 400000 in
theorem markIntS (a : Option Addr) (n cap : Nat) (zs : List Int) (k0 : Int) (base : Nat) (w : World) (h : w.ownsRow base 3 1 (.slice a n cap) n (ints .i64 zs)) (hn : n ≤ 1048576) (hk0 : 0 ≤ k0) (hk1 : k0 ≤ 1000000000000) :
    Calls Try.prog 58 #[.slice a n cap, .int .i64 k0] w fun e w' => e = .returned (.int .i64 (k0 + (n : Int))) ∧ w'.ownsRow base 3 1 (.slice a n cap) n (ints .i64 (marks k0 n)) ∧ OnlyAt a w w' := by
  have hl : zs.length = n := by simpa [ints] using h.1
  have HL : Hid (zs.length = n) := hl
  have HO : Hid (w.ownsRow base 3 1 (.slice a n cap) n (ints .i64 zs)) := h
  clear hl h
  go_enter Try.func58, Try.ntmps58
  go_wp2
  go_loopw [1, 5] (fun m i wr => ∃ k : Nat, k ≤ n ∧ i = .int .i64 k ∧ m = .int .i64 (k0 + (k : Int)) ∧ wr.ownsRow base 3 1 (.slice a n cap) n (ints .i64 ((marks k0 n).take k ++ zs.drop k)) ∧ OnlyAt a w wr) (fun _ i _ => n - (intOf i).toNat)
  case atStart => exact ⟨0, Nat.zero_le _, rfl, by simp, by simpa using HO.out, OnlyAt.refl _ _⟩
  case round =>
    obtain ⟨k, hk, rfl, rfl, hown, ht⟩ := hrel
    by_cases hlt : k < n
    · obtain ⟨g, rfl⟩ : ∃ g, a = some ⟨g, 0, none⟩ := by
        rcases hown.2 with ⟨h2, _⟩ | ⟨g, cap', cur, hv, _⟩
        · simp at h2; omega
        · simp only [Value.slice.injEq] at hv
          exact ⟨g, hv.1⟩
      have hst := hown.stored k (.int .i64 (k0 + (k : Int)))
      rw [mark_part k0 zs n k hlt HL.out] at hst
      have Hst : Hid _ := hst
      have hfz := hown.frozenAt k
      obtain ⟨old, hold⟩ : ∃ old, wr.cell? ⟨g, k, none⟩ = some old := by
        have hl : (ints .i64 ((marks k0 n).take k ++ zs.drop k)).length = n := by simpa using hown.1
        rw [hown.cellAt k (by omega)]
        exact ⟨_, List.getElem?_eq_getElem (by omega)⟩
      have Ht : Hid (OnlyAt (some ⟨g, 0, none⟩) w wr) := ht
      clear hst hown ht
      go_wp2
      go_roundw
      case rel => exact ⟨k + 1, by omega, by go_num, by go_num, Hst.out.1, Ht.out.setCell (fun x hx => by cases hx; rfl) (by simp) _⟩
      case measure => simp [intOf]; omega
    · obtain rfl : k = n := by omega
      have e : (marks k0 k).take k ++ zs.drop k = marks k0 k := by
        rw [List.take_of_length_le (by rw [marks_length]; omega), List.drop_of_length_le (by rw [HL.out]; omega)]
        simp
      rw [e] at hown
      have HO2 : Hid _ := hown
      have Ht : Hid _ := ht
      clear hown ht
      go_wp2
      go_ret
      exact ⟨rfl, HO2.out, Ht.out⟩

set_option maxHeartbeats 400000 in
theorem heldIntS (a : Option Addr) (n cap : Nat) (k0 : Int) (w : World) (h : IsRow .i64 w a n cap (marks k0 n)) (hn : n ≤ 1048576) (hk0 : 0 ≤ k0) (hk1 : k0 ≤ 1000000000000) :
    Calls Try.prog 59 #[.slice a n cap, .int .i64 k0] w fun e w' => e = .returned (.int .i64 (k0 + (n : Int))) ∧ w' = w := by
  have HAs : Hid (0 < n → ∃ b off, a = some ⟨b, off, none⟩ ∧ b < w.heap.size ∧ ∀ i, i < n → w.cell? ⟨b, off + i, none⟩ = some (.int .i64 ((marks k0 n).getD i 0))) := h.cells
  clear h
  go_enter Try.func59, Try.ntmps59
  go_wp2
  go_loop [1, 5] (fun m i => ∃ k : Nat, k ≤ n ∧ i = .int .i64 k ∧ m = .int .i64 (k0 + (k : Int))) (fun _ i => n - (intOf i).toNat)
  case atStart => exact ⟨0, Nat.zero_le _, rfl, by simp⟩
  case round =>
    obtain ⟨k, hk, rfl, rfl⟩ := hrel
    by_cases hlt : k < n
    · obtain ⟨b, off, rfl, hbl, hc⟩ := HAs.out (by omega)
      have hck := hc k hlt
      rw [marks_get k0 n k hlt] at hck
      clear hc
      go_wp2
      go_round
      case rel => exact ⟨k + 1, by omega, by go_num, by go_num⟩
      case measure => simp [intOf]; omega
    · obtain rfl : k = n := by omega
      go_wp2
      go_ret
      exact ⟨rfl, rfl⟩


end Go.Proofs.Ytkondmnkmbdncaa.Ints
