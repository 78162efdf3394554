/-
  Contracts of FillsOf: of the program and of the model.
-/
import Derived.Test.YtbjpfmnkapmohaaDoorLst
namespace Go.Proofs.YtbjpfmnkapmohaaDoor.Fill
open Go.RowKit
open Go.Proofs.YtbjpfmnkapmohaaDoor.Frame Go.Proofs.YtbjpfmnkapmohaaDoor.Mem Go.Proofs.YtbjpfmnkapmohaaDoor.Ints Go.Proofs.YtbjpfmnkapmohaaDoor.Lst Go.Proofs.YtbjpfmnkapmohaaDoor.Val

def fillB (b : Bool) (n : Int) (zs : List Int) : Bool := goodV b n && (decide (zs.length ≤ 10) && allIn (-1000) 1000 zs)
def fillX (b : Bool) (n : Int) (zs : List Int) : List Int := if b then zs else zs.map fun _ => n
def fillV (b : Bool) (n : Int) (zs : List Int) : List Int := if fillB b n zs then fillX b n zs else []

theorem fillX_length (b : Bool) (n : Int) (zs : List Int) : (fillX b n zs).length = zs.length := by
  unfold fillX; split <;> simp
theorem fillX_get (b : Bool) (n : Int) (zs : List Int) (k : Nat) (h : k < zs.length) : (fillX b n zs).getD k 0 = if b then zs.getD k 0 else n := by
  unfold fillX
  cases b
  · simp [List.getD, h]
  · simp

set_option maxHeartbeats 400000 in
theorem impl_areFills (a : Option Addr) (n ca : Nat) (zs : List Int) (w : World) (ha : IsRow .i64 w a n ca zs) (hn : n ≤ 1048576) :
    Calls Tryd.prog 42 #[.slice a n ca] w fun e w' => e = .returned (.bool (decide (zs.length ≤ 10) && allIn (-1000) 1000 zs)) ∧ w' = w := by
  have la := ha.len
  have HAs : Hid (0 < n → ∃ b off, a = some ⟨b, off, none⟩ ∧ b < w.heap.size ∧ ∀ i, i < n → w.cell? ⟨b, off + i, none⟩ = some (.int .i64 (zs.getD i 0))) := ha.cells
  have LA : Hid (zs.length = n) := la
  by_cases h10 : n ≤ 10
  · have e : decide (zs.length ≤ 10) = true := decide_eq_true (by omega)
    rw [e, Bool.true_and]
    clear la ha e
    go_enter Tryd.func42, Tryd.ntmps42
    go_wp2
    go_loop [10] (fun i => ∃ k : Nat, k ≤ n ∧ i = .int .i64 k ∧ allIn (-1000) 1000 (zs.take k) = true) (fun i => n - (intOf i).toNat)
    case atStart => exact ⟨0, Nat.zero_le _, rfl, rfl⟩
    case round =>
      obtain ⟨k, hk, rfl, hall⟩ := hrel
      have Hall : Hid (allIn (-1000) 1000 (zs.take k) = true) := hall
      clear hall
      by_cases hlt : k < n
      · obtain ⟨b, off, rfl, hbl, hc⟩ := HAs.out (by omega)
        have hck := hc k hlt
        have hkl : k < zs.length := by rw [LA.out]; exact hlt
        generalize hx : zs.getD k 0 = x at hck
        have HX : Hid (zs.getD k 0 = x) := hx
        clear hc hx
        cases hin : Val.inB x (-1000) 1000
        · have Hin : Hid (Val.inB x (-1000) 1000 = false) := hin
          clear hin
          go_wp2_with fail
          refine (Val.impl_isInBound _ _).mono ?_
          rintro e w' ⟨rfl, rfl⟩
          rw [Hin.out]
          go_wp2_with fail
          go_ret
          exact ⟨ret_bool (all_take_false _ zs k (by rw [LA.out]; exact hlt) (by rw [HX.out]; exact Hin.out)).symm, rfl⟩
        · have Hin : Hid (Val.inB x (-1000) 1000 = true) := hin
          clear hin
          go_wp2_with fail
          refine (Val.impl_isInBound _ _).mono ?_
          rintro e w' ⟨rfl, rfl⟩
          rw [Hin.out]
          go_wp2_with fail
          go_round
          case rel => exact ⟨k + 1, by omega, by go_num, all_take_succ _ zs k (by rw [LA.out]; exact hlt) (by rw [HX.out]; exact Hin.out) Hall.out⟩
          case measure => simp [intOf]; omega
      · go_wp2
        go_ret
        have h := Hall.out
        rw [List.take_of_length_le (by rw [LA.out]; omega)] at h
        exact ⟨ret_bool h.symm, rfl⟩
  · have e : decide (zs.length ≤ 10) = false := decide_eq_false (by omega)
    rw [e, Bool.false_and]
    clear la ha e
    go_enter Tryd.func42, Tryd.ntmps42
    go_wp2
    go_ret
    exact ⟨rfl, rfl⟩

/-- What both answer. -/
def Post (b : Bool) (n : Int) (zs : List Int) (w : World) (e : Ending) (w' : World) : Prop :=
  ∃ a c, e = .returned (.tuple #[.slice a (fillV b n zs).length c, .bool (fillB b n zs)]) ∧ w'.ownsRow w.heap.size 3 1 (.slice a (fillV b n zs).length c) (fillV b n zs).length (ints .i64 (fillV b n zs)) ∧ Below w.heap.size w w'

theorem post_no {b : Bool} {n : Int} {zs : List Int} {w w' : World} (h : fillB b n zs = false) (hb : Below w.heap.size w w') : Post b n zs w (.returned (.tuple #[.slice none 0 0, .bool false])) w' := by
  have e : fillV b n zs = [] := by unfold fillV; simp [h]
  unfold Post
  rw [e, h]
  exact ⟨none, 0, rfl, World.ownsRow_nil _ _ _ _, hb⟩

theorem post_yes {b : Bool} {n : Int} {zs : List Int} {w w' : World} {a : Option Addr} {m c : Nat} (h : fillB b n zs = true) (hm : m = zs.length) (ho : w'.ownsRow w.heap.size 3 1 (.slice a m c) m (ints .i64 (fillX b n zs))) (hb : Below w.heap.size w w') :
    Post b n zs w (.returned (.tuple #[.slice a m c, .bool true])) w' := by
  have e : fillV b n zs = fillX b n zs := by unfold fillV; simp [h]
  subst hm
  unfold Post
  rw [e, h, fillX_length]
  exact ⟨a, c, rfl, ho, hb⟩

set_option maxHeartbeats 800000 in
theorem impl_FillsOf (b : Bool) (n : Int) (a : Option Addr) (m ca : Nat) (zs : List Int) (w : World) (ha : IsRow .i64 w a m ca zs) (hm : m ≤ 1048576) :
    Calls Tryd.prog 19 #[.agg #[.bool b, .int .i64 n], .slice a m ca] w (Post b n zs w) := by
  have HA : Hid (IsRow .i64 w a m ca zs) := ha
  have LA : Hid (zs.length = m) := ha.len
  clear ha
  have b0 := (Below.refl w.heap.size w).alloc (Nat.le_refl _) (.cells #[.bool b, .int .i64 n] 34)
  cases hg : goodV b n
  · have F : Hid (fillB b n zs = false) := by show _ = _; unfold fillB; simp [hg]
    have Hg : Hid (goodV b n = false) := hg
    clear hg
    go_enter Tryd.func19, Tryd.ntmps19
    go_wp2_with fail
    refine (impl_GoodValue _ _ _).mono ?_
    rintro e w1 ⟨rfl, hb1⟩
    rw [Hg.out]
    go_wp2_with fail
    go_ret2
    exact post_no F.out (Frame.next b0 hb1 (by simp))
  have Hg : Hid (goodV b n = true) := hg
  cases hf : (decide (zs.length ≤ 10) && allIn (-1000) 1000 zs)
  · have F : Hid (fillB b n zs = false) := by show _ = _; unfold fillB; simp only [hf, Bool.and_false]
    have Hf : Hid ((decide (zs.length ≤ 10) && allIn (-1000) 1000 zs) = false) := hf
    clear hg hf
    go_enter Tryd.func19, Tryd.ntmps19
    go_wp2_with fail
    refine (impl_GoodValue _ _ _).mono ?_
    rintro e w1 ⟨rfl, hb1⟩
    rw [Hg.out]
    have B1 : Hid (Below w.heap.size w w1) := Frame.next b0 hb1 (by simp)
    clear b0 hb1
    go_wp2_with fail
    refine (impl_areFills _ _ _ _ _ (IsRow.below HA.out B1.out) hm).mono ?_
    rintro e w' ⟨rfl, rfl⟩
    rw [Hf.out]
    go_wp2_with fail
    go_ret2
    exact post_no F.out B1.out
  have F : Hid (fillB b n zs = true) := by show _ = _; unfold fillB; simp only [hg, hf, Bool.and_true]
  have Hf : Hid ((decide (zs.length ≤ 10) && allIn (-1000) 1000 zs) = true) := hf
  clear hg hf
  obtain ⟨i0, hi, hz0, hz1, hz2⟩ := info_parts info
  cases b
  · go_enter Tryd.func19, Tryd.ntmps19
    go_wp2_with fail
    refine (impl_GoodValue _ _ _).mono ?_
    rintro e w1 ⟨rfl, hb1⟩
    rw [Hg.out]
    have B1 : Hid (Below w.heap.size w w1) := Frame.next b0 hb1 (by simp)
    have hs1 : w.heap.size + 1 ≤ w1.heap.size := by simpa using hb1.size
    have d0 : w1.cell? ⟨w.heap.size, 0, none⟩ = some (.bool false) := by rw [(Frame.bcell hb1).1 _ _ (by simp)]; simp
    have d1 : w1.cell? ⟨w.heap.size, 1, none⟩ = some (.int .i64 n) := by rw [(Frame.bcell hb1).1 _ _ (by simp)]; simp
    clear b0 hb1
    go_wp2_with fail
    refine (impl_areFills _ _ _ _ _ (IsRow.below HA.out B1.out) hm).mono ?_
    rintro e w' ⟨rfl, rfl⟩
    rw [Hf.out]
    go_wp2_with (at_make; refine wpList_make_full _ rfl _ _ 29 rfl w.heap.size 3 i0 (.int .i64 0) 1 Tryd.underlying29 hi hz0 hz1 _ _ _ _ m rfl rfl rfl rfl ?b2 ?b3 ?b4 ?_)
    case b2 => rw [hz2]; omega
    case b3 => unfold maxLen; omega
    case b4 => omega
    intro w2 hown0 hgrow0
    go_wp2_with fail
    go_loopw [22] (fun i wr => ∃ k : Nat, k ≤ m ∧ i = .int .i64 k ∧ wr.ownsRow w.heap.size 3 1 (.slice (some ⟨w'.heap.size, 0, none⟩) m m) m (ints .i64 ((fillX false n zs).take k) ++ List.replicate (m - k) (Value.int .i64 0)) ∧ Below w'.heap.size w' wr)
      (fun i _ => m - (intOf i).toNat)
    case atStart =>
      refine ⟨0, Nat.zero_le _, rfl, ?_, (Below.refl _ _).grown hgrow0 (Nat.le_refl _) (fun k h => by cases h)⟩
      have e : (madeCells #[Value.int .i64 0] m).toList = ints .i64 ((fillX false n zs).take 0) ++ List.replicate (m - 0) (Value.int .i64 0) := by
        rw [toList_madeCells_one]
        simp [ints]
      rw [← e]
      exact hown0
    case round =>
      obtain ⟨k, hk, rfl, hown, hnx⟩ := hrel
      by_cases hlt : k < m
      · have HCs := (IsRow.below HA.out B1.out).cells
        obtain ⟨c, off, rfl, hbl, hc⟩ := HCs (by omega)
        have hck : wr.cell? ⟨c, off + k, none⟩ = some (.int .i64 (zs.getD k 0)) := by rw [hnx.cell (p := ⟨c, off + k, none⟩) hbl]; exact hc k hlt
        have q0 : wr.cell? ⟨w.heap.size, 0, none⟩ = some (.bool false) := by rw [hnx.cell (p := ⟨w.heap.size, 0, none⟩) (by show w.heap.size < _; omega)]; exact d0
        have q1 : wr.cell? ⟨w.heap.size, 1, none⟩ = some (.int .i64 n) := by rw [hnx.cell (p := ⟨w.heap.size, 1, none⟩) (by show w.heap.size < _; omega)]; exact d1
        have hkl : k < zs.length := by rw [LA.out]; exact hlt
        have hst := (hown.stored k (.int .i64 ((fillX false n zs).getD k 0)))
        rw [set_part (fillX false n zs) m k (by rw [fillX_length]; exact hkl) (by rw [fillX_length]; exact LA.out), fillX_get _ _ _ _ hkl] at hst
        have Hst : Hid _ := hst
        have hfz := hown.frozenAt k
        obtain ⟨old, hold⟩ : ∃ old, wr.cell? ⟨w'.heap.size, k, none⟩ = some old := by
          have hl : (ints .i64 ((fillX false n zs).take k) ++ List.replicate (m - k) (Value.int .i64 0)).length = m := by
            rw [List.length_append, ints_length, List.length_take, List.length_replicate, fillX_length, LA.out]; omega
          rw [hown.cellAt k (by omega)]
          exact ⟨_, List.getElem?_eq_getElem (by omega)⟩
        have Hn : Hid _ := hnx
        clear hst hown hnx hc HCs hkl
        go_wp2
        go_roundw
        case rel => exact ⟨k + 1, by omega, by go_num, Hst.out.1, Hn.out.setCell (Nat.le_refl _) _⟩
        case measure => simp [intOf]; omega
      · have e : ints .i64 ((fillX false n zs).take k) ++ List.replicate (m - k) (Value.int .i64 0) = ints .i64 (fillX false n zs) := by
          rw [List.take_of_length_le (by rw [fillX_length, LA.out]; omega), show m - k = 0 by omega]
          simp
        rw [e] at hown
        have Ho : Hid _ := hown
        have Hn : Hid _ := hnx
        clear hown hnx e
        go_wp2
        go_ret2
        exact post_yes F.out LA.out.symm Ho.out (Frame.next B1.out Hn.out B1.out.size)
  · go_enter Tryd.func19, Tryd.ntmps19
    go_wp2_with fail
    refine (impl_GoodValue _ _ _).mono ?_
    rintro e w1 ⟨rfl, hb1⟩
    rw [Hg.out]
    have B1 : Hid (Below w.heap.size w w1) := Frame.next b0 hb1 (by simp)
    have hs1 : w.heap.size + 1 ≤ w1.heap.size := by simpa using hb1.size
    have d0 : w1.cell? ⟨w.heap.size, 0, none⟩ = some (.bool true) := by rw [(Frame.bcell hb1).1 _ _ (by simp)]; simp
    have d1 : w1.cell? ⟨w.heap.size, 1, none⟩ = some (.int .i64 n) := by rw [(Frame.bcell hb1).1 _ _ (by simp)]; simp
    clear b0 hb1
    go_wp2_with fail
    refine (impl_areFills _ _ _ _ _ (IsRow.below HA.out B1.out) hm).mono ?_
    rintro e w' ⟨rfl, rfl⟩
    rw [Hf.out]
    go_wp2_with (at_make; refine wpList_make_full _ rfl _ _ 29 rfl w.heap.size 3 i0 (.int .i64 0) 1 Tryd.underlying29 hi hz0 hz1 _ _ _ _ m rfl rfl rfl rfl ?b2 ?b3 ?b4 ?_)
    case b2 => rw [hz2]; omega
    case b3 => unfold maxLen; omega
    case b4 => omega
    intro w2 hown0 hgrow0
    go_wp2_with fail
    go_loopw [22] (fun i wr => ∃ k : Nat, k ≤ m ∧ i = .int .i64 k ∧ wr.ownsRow w.heap.size 3 1 (.slice (some ⟨w'.heap.size, 0, none⟩) m m) m (ints .i64 ((fillX true n zs).take k) ++ List.replicate (m - k) (Value.int .i64 0)) ∧ Below w'.heap.size w' wr)
      (fun i _ => m - (intOf i).toNat)
    case atStart =>
      refine ⟨0, Nat.zero_le _, rfl, ?_, (Below.refl _ _).grown hgrow0 (Nat.le_refl _) (fun k h => by cases h)⟩
      have e : (madeCells #[Value.int .i64 0] m).toList = ints .i64 ((fillX true n zs).take 0) ++ List.replicate (m - 0) (Value.int .i64 0) := by
        rw [toList_madeCells_one]
        simp [ints]
      rw [← e]
      exact hown0
    case round =>
      obtain ⟨k, hk, rfl, hown, hnx⟩ := hrel
      by_cases hlt : k < m
      · have HCs := (IsRow.below HA.out B1.out).cells
        obtain ⟨c, off, rfl, hbl, hc⟩ := HCs (by omega)
        have hck : wr.cell? ⟨c, off + k, none⟩ = some (.int .i64 (zs.getD k 0)) := by rw [hnx.cell (p := ⟨c, off + k, none⟩) hbl]; exact hc k hlt
        have q0 : wr.cell? ⟨w.heap.size, 0, none⟩ = some (.bool true) := by rw [hnx.cell (p := ⟨w.heap.size, 0, none⟩) (by show w.heap.size < _; omega)]; exact d0
        have q1 : wr.cell? ⟨w.heap.size, 1, none⟩ = some (.int .i64 n) := by rw [hnx.cell (p := ⟨w.heap.size, 1, none⟩) (by show w.heap.size < _; omega)]; exact d1
        have hkl : k < zs.length := by rw [LA.out]; exact hlt
        have hst := (hown.stored k (.int .i64 ((fillX true n zs).getD k 0)))
        rw [set_part (fillX true n zs) m k (by rw [fillX_length]; exact hkl) (by rw [fillX_length]; exact LA.out), fillX_get _ _ _ _ hkl] at hst
        have Hst : Hid _ := hst
        have hfz := hown.frozenAt k
        obtain ⟨old, hold⟩ : ∃ old, wr.cell? ⟨w'.heap.size, k, none⟩ = some old := by
          have hl : (ints .i64 ((fillX true n zs).take k) ++ List.replicate (m - k) (Value.int .i64 0)).length = m := by
            rw [List.length_append, ints_length, List.length_take, List.length_replicate, fillX_length, LA.out]; omega
          rw [hown.cellAt k (by omega)]
          exact ⟨_, List.getElem?_eq_getElem (by omega)⟩
        have Hn : Hid _ := hnx
        clear hst hown hnx hc HCs hkl
        go_wp2
        go_roundw
        case rel => exact ⟨k + 1, by omega, by go_num, Hst.out.1, Hn.out.setCell (Nat.le_refl _) _⟩
        case measure => simp [intOf]; omega
      · have e : ints .i64 ((fillX true n zs).take k) ++ List.replicate (m - k) (Value.int .i64 0) = ints .i64 (fillX true n zs) := by
          rw [List.take_of_length_le (by rw [fillX_length, LA.out]; omega), show m - k = 0 by omega]
          simp
        rw [e] at hown
        have Ho : Hid _ := hown
        have Hn : Hid _ := hnx
        clear hown hnx e
        go_wp2
        go_ret2
        exact post_yes F.out LA.out.symm Ho.out (Frame.next B1.out Hn.out B1.out.size)

set_option maxHeartbeats 800000 in
theorem spec_FillsOf (b : Bool) (n : Int) (a : Option Addr) (m ca : Nat) (zs : List Int) (w : World) (ha : IsRow .i64 w a m ca zs) (hm : m ≤ 1048576) :
    Calls Tryd.prog 24 #[.agg #[.bool b, .int .i64 n], .slice a m ca] w (Post b n zs w) := by
  have HA : Hid (IsRow .i64 w a m ca zs) := ha
  have LA : Hid (zs.length = m) := ha.len
  clear ha
  have b0 := (Below.refl w.heap.size w).alloc (Nat.le_refl _) (.cells #[.bool b, .int .i64 n] 34)
  cases hg : goodV b n
  · have F : Hid (fillB b n zs = false) := by show _ = _; unfold fillB; simp [hg]
    have Hg : Hid (goodV b n = false) := hg
    clear hg
    go_enter Tryd.func24, Tryd.ntmps24
    go_wp2_with fail
    refine (spec_GoodValue _ _ _).mono ?_
    rintro e w1 ⟨rfl, hb1⟩
    rw [Hg.out]
    go_wp2_with fail
    go_ret2
    exact post_no F.out (Frame.next b0 hb1 (by simp))
  have Hg : Hid (goodV b n = true) := hg
  by_cases h10 : m ≤ 10
  · cases hf : allIn (-1000) 1000 zs
    · have F : Hid (fillB b n zs = false) := by show _ = _; unfold fillB; simp only [hf, Bool.and_false]
      have Hf : Hid (allIn (-1000) 1000 zs = false) := hf
      clear hg hf
      go_enter Tryd.func24, Tryd.ntmps24
      go_wp2_with fail
      refine (spec_GoodValue _ _ _).mono ?_
      rintro e w1 ⟨rfl, hb1⟩
      rw [Hg.out]
      have B1 : Hid (Below w.heap.size w w1) := Frame.next b0 hb1 (by simp)
      clear b0 hb1
      go_wp2_with fail
      refine (spec_l1All _ _ _ _ _ _ _ (IsRow.below HA.out B1.out) hm).mono ?_
      rintro e w' ⟨rfl, rfl⟩
      rw [Hf.out]
      go_wp2_with fail
      go_ret2
      exact post_no F.out B1.out
    have F : Hid (fillB b n zs = true) := by show _ = _; unfold fillB; simp only [hg, hf, Bool.and_true]; simp; rw [LA.out]; exact h10
    have Hf : Hid (allIn (-1000) 1000 zs = true) := hf
    clear hg hf
    obtain ⟨i0, hi, hz0, hz1, hz2⟩ := info_parts info
    cases b
    · go_enter Tryd.func24, Tryd.ntmps24
      go_wp2_with fail
      refine (spec_GoodValue _ _ _).mono ?_
      rintro e w1 ⟨rfl, hb1⟩
      rw [Hg.out]
      have B1 : Hid (Below w.heap.size w w1) := Frame.next b0 hb1 (by simp)
      have hs1 : w.heap.size + 1 ≤ w1.heap.size := by simpa using hb1.size
      have d0 : w1.cell? ⟨w.heap.size, 0, none⟩ = some (.bool false) := by rw [(Frame.bcell hb1).1 _ _ (by simp)]; simp
      have d1 : w1.cell? ⟨w.heap.size, 1, none⟩ = some (.int .i64 n) := by rw [(Frame.bcell hb1).1 _ _ (by simp)]; simp
      clear b0 hb1
      go_wp2_with fail
      refine (spec_l1All _ _ _ _ _ _ _ (IsRow.below HA.out B1.out) hm).mono ?_
      rintro e w' ⟨rfl, rfl⟩
      rw [Hf.out]
      go_wp2_with fail
      go_loopw [6, 24] (fun v i wr => ∃ k : Nat, k ≤ m ∧ i = .int .i64 k ∧ wr.ownsRow w'.heap.size 3 1 v k (ints .i64 ((fillX false n zs).take k)) ∧ Below w'.heap.size w' wr)
        (fun _ i _ => m - (intOf i).toNat)
      case atStart => exact ⟨0, Nat.zero_le _, rfl, World.ownsRow_nil _ _ _ _, Below.refl _ _⟩
      case round =>
        obtain ⟨k, hk, rfl, hown, hnx⟩ := hrel
        by_cases hlt : k < m
        · have HCs := (IsRow.below HA.out B1.out).cells
          obtain ⟨c, off, rfl, hbl, hc⟩ := HCs (by omega)
          have hck : wr.cell? ⟨c, off + k, none⟩ = some (.int .i64 (zs.getD k 0)) := by rw [hnx.cell (p := ⟨c, off + k, none⟩) hbl]; exact hc k hlt
          have q0 : wr.cell? ⟨w.heap.size, 0, none⟩ = some (.bool false) := by rw [hnx.cell (p := ⟨w.heap.size, 0, none⟩) (by show w.heap.size < _; omega)]; exact d0
          have q1 : wr.cell? ⟨w.heap.size, 1, none⟩ = some (.int .i64 n) := by rw [hnx.cell (p := ⟨w.heap.size, 1, none⟩) (by show w.heap.size < _; omega)]; exact d1
          have hkl : k < zs.length := by rw [LA.out]; exact hlt
          have HX : Hid (ints .i64 ((fillX false n zs).take k) ++ [Value.int .i64 n] = ints .i64 ((fillX false n zs).take (k + 1))) := by
            show _ = _
            rw [take_succ_getD (by rw [fillX_length]; exact hkl), fillX_get _ _ _ _ hkl]
            simp [ints]
          have Hn : Hid _ := hnx
          have hsz : w'.heap.size ≤ wr.heap.size := hnx.size
          clear hnx hc HCs hkl
          go_wp2_with (at_builtin; refine wpList_append_own _ rfl _ _ 29 rfl w'.heap.size 3 i0 (.int .i64 0) 1 8 Tryd.underlying29 hi hz0 hz1 hz2 rfl (by decide) _ _ _ rfl (hown.alloc _) ⟨wr.heap.size, 0, none⟩ 1 1 [.int .i64 n] rfl rfl ?c1 ?c2 ?c3 ?c4 ?c5 ?_)
          case c1 =>
            intro j u hj
            match j, hj with
            | 0, hj => simp at hj; subst hj; simp [Addr.add]
          case c2 => intro u hu; simp at hu; subst hu; rfl
          case c3 => unfold maxLen; omega
          case c4 => omega
          case c5 => simp; omega
          intro v' w2 hown' hgrow _
          rw [HX.out] at hown'
          have Ho : Hid _ := hown'
          have Hn2 : Hid (Below w'.heap.size w' w2) := (Hn.out.alloc (by omega) _).grown hgrow (by simp; omega) (fun g hg => by
            obtain ⟨a1, c1, rfl⟩ := own_form hown
            simp only [Value.ownBlock] at hg
            rcases a1 with _ | x
            · simp at hg
            · have := own_block hown x rfl
              simp at hg
              omega)
          clear hown hown' hgrow
          go_wp2
          go_roundw
          case rel => exact ⟨k + 1, by omega, by go_num, Ho.out, Hn2.out⟩
          case measure => simp [intOf]; omega
        · obtain rfl : k = m := by omega
          have e : (fillX false n zs).take k = fillX false n zs := List.take_of_length_le (by rw [fillX_length, LA.out]; omega)
          rw [e] at hown
          obtain ⟨a1, c1, rfl⟩ := own_form hown
          have Ho : Hid _ := hown
          have Hn : Hid _ := hnx
          clear hown hnx e
          go_wp2
          go_ret2
          exact post_yes F.out LA.out.symm (own_base Ho.out B1.out.size) (Frame.next B1.out Hn.out B1.out.size)
    · go_enter Tryd.func24, Tryd.ntmps24
      go_wp2_with fail
      refine (spec_GoodValue _ _ _).mono ?_
      rintro e w1 ⟨rfl, hb1⟩
      rw [Hg.out]
      have B1 : Hid (Below w.heap.size w w1) := Frame.next b0 hb1 (by simp)
      have hs1 : w.heap.size + 1 ≤ w1.heap.size := by simpa using hb1.size
      have d0 : w1.cell? ⟨w.heap.size, 0, none⟩ = some (.bool true) := by rw [(Frame.bcell hb1).1 _ _ (by simp)]; simp
      have d1 : w1.cell? ⟨w.heap.size, 1, none⟩ = some (.int .i64 n) := by rw [(Frame.bcell hb1).1 _ _ (by simp)]; simp
      clear b0 hb1
      go_wp2_with fail
      refine (spec_l1All _ _ _ _ _ _ _ (IsRow.below HA.out B1.out) hm).mono ?_
      rintro e w' ⟨rfl, rfl⟩
      rw [Hf.out]
      go_wp2_with fail
      go_loopw [6, 24] (fun v i wr => ∃ k : Nat, k ≤ m ∧ i = .int .i64 k ∧ wr.ownsRow w'.heap.size 3 1 v k (ints .i64 ((fillX true n zs).take k)) ∧ Below w'.heap.size w' wr)
        (fun _ i _ => m - (intOf i).toNat)
      case atStart => exact ⟨0, Nat.zero_le _, rfl, World.ownsRow_nil _ _ _ _, Below.refl _ _⟩
      case round =>
        obtain ⟨k, hk, rfl, hown, hnx⟩ := hrel
        by_cases hlt : k < m
        · have HCs := (IsRow.below HA.out B1.out).cells
          obtain ⟨c, off, rfl, hbl, hc⟩ := HCs (by omega)
          have hck : wr.cell? ⟨c, off + k, none⟩ = some (.int .i64 (zs.getD k 0)) := by rw [hnx.cell (p := ⟨c, off + k, none⟩) hbl]; exact hc k hlt
          have q0 : wr.cell? ⟨w.heap.size, 0, none⟩ = some (.bool true) := by rw [hnx.cell (p := ⟨w.heap.size, 0, none⟩) (by show w.heap.size < _; omega)]; exact d0
          have q1 : wr.cell? ⟨w.heap.size, 1, none⟩ = some (.int .i64 n) := by rw [hnx.cell (p := ⟨w.heap.size, 1, none⟩) (by show w.heap.size < _; omega)]; exact d1
          have hkl : k < zs.length := by rw [LA.out]; exact hlt
          have HX0 : ints .i64 ((fillX true n zs).take k) ++ [Value.int .i64 (zs.getD k 0)] = ints .i64 ((fillX true n zs).take (k + 1)) := by
            rw [take_succ_getD (by rw [fillX_length]; exact hkl), fillX_get _ _ _ _ hkl]
            simp [ints]
          generalize hx : zs.getD k 0 = x at hck HX0
          have HX : Hid _ := HX0
          clear HX0 hx
          have Hn : Hid _ := hnx
          have hsz : w'.heap.size ≤ wr.heap.size := hnx.size
          clear hnx hc HCs hkl
          go_wp2_with (at_builtin; refine wpList_append_own _ rfl _ _ 29 rfl w'.heap.size 3 i0 (.int .i64 0) 1 8 Tryd.underlying29 hi hz0 hz1 hz2 rfl (by decide) _ _ _ rfl (hown.alloc _) ⟨wr.heap.size, 0, none⟩ 1 1 [.int .i64 x] rfl rfl ?c1 ?c2 ?c3 ?c4 ?c5 ?_)
          case c1 =>
            intro j u hj
            match j, hj with
            | 0, hj => simp at hj; subst hj; simp [Addr.add]
          case c2 => intro u hu; simp at hu; subst hu; rfl
          case c3 => unfold maxLen; omega
          case c4 => omega
          case c5 => simp; omega
          intro v' w2 hown' hgrow _
          rw [HX.out] at hown'
          have Ho : Hid _ := hown'
          have Hn2 : Hid (Below w'.heap.size w' w2) := (Hn.out.alloc (by omega) _).grown hgrow (by simp; omega) (fun g hg => by
            obtain ⟨a1, c1, rfl⟩ := own_form hown
            simp only [Value.ownBlock] at hg
            rcases a1 with _ | x
            · simp at hg
            · have := own_block hown x rfl
              simp at hg
              omega)
          clear hown hown' hgrow
          go_wp2
          go_roundw
          case rel => exact ⟨k + 1, by omega, by go_num, Ho.out, Hn2.out⟩
          case measure => simp [intOf]; omega
        · obtain rfl : k = m := by omega
          have e : (fillX true n zs).take k = fillX true n zs := List.take_of_length_le (by rw [fillX_length, LA.out]; omega)
          rw [e] at hown
          obtain ⟨a1, c1, rfl⟩ := own_form hown
          have Ho : Hid _ := hown
          have Hn : Hid _ := hnx
          clear hown hnx e
          go_wp2
          go_ret2
          exact post_yes F.out LA.out.symm (own_base Ho.out B1.out.size) (Frame.next B1.out Hn.out B1.out.size)
  · have F : Hid (fillB b n zs = false) := by show _ = _; unfold fillB; rw [decide_eq_false (by rw [LA.out]; exact h10)]; simp
    clear hg
    go_enter Tryd.func24, Tryd.ntmps24
    go_wp2_with fail
    refine (spec_GoodValue _ _ _).mono ?_
    rintro e w1 ⟨rfl, hb1⟩
    rw [Hg.out]
    go_wp2_with fail
    go_ret2
    exact post_no F.out (Frame.next b0 hb1 (by simp))


end Go.Proofs.YtbjpfmnkapmohaaDoor.Fill
