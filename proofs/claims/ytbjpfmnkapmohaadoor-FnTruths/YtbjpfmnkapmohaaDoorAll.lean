/-
  Contracts of AllOf: of the program and of the model.
-/
import Derived.Test.YtbjpfmnkapmohaaDoorLst
import Derived.Test.YtbjpfmnkapmohaaDoorTr
namespace Go.Proofs.YtbjpfmnkapmohaaDoor.All
open Go.RowKit
open Go.Proofs.YtbjpfmnkapmohaaDoor.Frame Go.Proofs.YtbjpfmnkapmohaaDoor.Mem Go.Proofs.YtbjpfmnkapmohaaDoor.Ints Go.Proofs.YtbjpfmnkapmohaaDoor.Lst Go.Proofs.YtbjpfmnkapmohaaDoor.Tr

def leastV (a b : Int) : Int := if a < b then a else b
def foldV (zs : List Int) : Int := zs.foldl leastV 2
def allB (zs : List Int) : Bool := decide (zs.length ≤ 20) && allIn 0 2 zs
def allV (zs : List Int) : Int := if allB zs then foldV zs else 0

theorem foldV_succ (zs : List Int) (k : Nat) (h : k < zs.length) : foldV (zs.take (k + 1)) = leastV (foldV (zs.take k)) (zs.getD k 0) := by
  unfold foldV
  rw [take_succ_getD h, List.foldl_append]
  rfl
theorem inB_isT (a : Int) : Val.inB a 0 2 = isT a := rfl
theorem least_isT {a b : Int} (ha : isT a = true) (hb : isT b = true) : isT (leastV a b) = true := by
  unfold leastV
  split <;> assumption
theorem andV_least {a b : Int} (ha : isT a = true) (hb : isT b = true) : andV a b = leastV a b := by
  unfold andV leastV
  simp [ha, hb]

theorem spec_Least (a b : Int) (w : World) : Calls Tryd.prog 31 #[.int .i64 a, .int .i64 b] w fun e w' => e = .returned (.int .i64 (leastV a b)) ∧ w' = w := by
  by_cases h : a < b
  · have e : leastV a b = a := by unfold leastV; simp [h]
    rw [e]
    go_enter Tryd.func31, Tryd.ntmps31
    go_wp2
    go_ret
    exact ⟨rfl, rfl⟩
  · have e : leastV a b = b := by unfold leastV; simp [h]
    rw [e]
    go_enter Tryd.func31, Tryd.ntmps31
    go_wp2
    go_ret
    exact ⟨rfl, rfl⟩

set_option maxHeartbeats 400000 in
theorem spec_AllOf (a : Option Addr) (n ca : Nat) (zs : List Int) (w : World) (ha : IsRow .i64 w a n ca zs) (hn : n ≤ 1048576) :
    Calls Tryd.prog 15 #[.slice a n ca] w fun e w' => e = .returned (.tuple #[.int .i64 (allV zs), .bool (allB zs)]) ∧ w' = w := by
  have la := ha.len
  have HAs : Hid (0 < n → ∃ b off, a = some ⟨b, off, none⟩ ∧ b < w.heap.size ∧ ∀ i, i < n → w.cell? ⟨b, off + i, none⟩ = some (.int .i64 (zs.getD i 0))) := ha.cells
  have LA : Hid (zs.length = n) := la
  have HR : Hid (IsRow .i64 w a n ca zs) := ha
  by_cases h20 : n ≤ 20
  · cases hall : allIn 0 2 zs
    · have eb : allB zs = false := by unfold allB; simp [hall]
      have ev : allV zs = 0 := by unfold allV; simp [eb]
      rw [ev, eb]
      have Hall : Hid (allIn 0 2 zs = false) := hall
      clear eb ev hall la ha
      go_enter Tryd.func15, Tryd.ntmps15
      go_wp2_with fail
      refine (spec_l1All _ _ _ _ _ _ _ HR.out (by omega)).mono ?_
      rintro e w' ⟨rfl, rfl⟩
      rw [Hall.out]
      go_wp2_with fail
      go_ret2
      exact ⟨rfl, rfl⟩
    · have eb : allB zs = true := by unfold allB; simp [hall, la, h20]
      have ev : allV zs = foldV zs := by unfold allV; simp [eb]
      rw [ev, eb]
      have Hall : Hid (allIn 0 2 zs = true) := hall
      clear eb ev hall la ha
      go_enter Tryd.func15, Tryd.ntmps15
      go_wp2_with fail
      refine (spec_l1All _ _ _ _ _ _ _ HR.out (by omega)).mono ?_
      rintro e w' ⟨rfl, rfl⟩
      rw [Hall.out]
      go_wp2_with fail
      go_loop [4, 17] (fun t i => ∃ k : Nat, k ≤ n ∧ i = .int .i64 k ∧ t = .int .i64 (foldV (zs.take k))) (fun _ i => n - (intOf i).toNat)
      case atStart => exact ⟨0, Nat.zero_le _, rfl, rfl⟩
      case round =>
        obtain ⟨k, hk, rfl, rfl⟩ := hrel
        by_cases hlt : k < n
        · obtain ⟨b, off, rfl, hbl, hc⟩ := HAs.out (by omega)
          have hck := hc k hlt
          have HF : Hid _ := foldV_succ zs k (by rw [LA.out]; exact hlt)
          clear hc
          go_wp2_with fail
          refine (spec_Least _ _ _).mono ?_
          rintro e w' ⟨rfl, rfl⟩
          go_wp2_with fail
          go_round
          case rel => exact ⟨k + 1, by omega, by go_num, by rw [HF.out]; rfl⟩
          case measure => simp [intOf]; omega
        · have HF : Hid (foldV (zs.take k) = foldV zs) := by show _ = _; rw [List.take_of_length_le (by rw [LA.out]; omega)]
          go_wp2
          go_ret2
          exact ⟨ret_pair HF.out rfl, rfl⟩
  · have eb : allB zs = false := by unfold allB; simp [la, h20]
    have ev : allV zs = 0 := by unfold allV; simp [eb]
    rw [ev, eb]
    clear eb ev la ha
    go_enter Tryd.func15, Tryd.ntmps15
    go_wp2
    go_ret2
    exact ⟨rfl, rfl⟩

set_option maxHeartbeats 400000 in
theorem impl_AllOf (a : Option Addr) (n ca : Nat) (zs : List Int) (w : World) (hT : AndTab w) (ha : IsRow .i64 w a n ca zs) (hn : n ≤ 1048576) :
    Calls Tryd.prog 11 #[.slice a n ca] w fun e w' => e = .returned (.tuple #[.int .i64 (allV zs), .bool (allB zs)]) ∧ w' = w := by
  have la := ha.len
  have HAs : Hid (0 < n → ∃ b off, a = some ⟨b, off, none⟩ ∧ b < w.heap.size ∧ ∀ i, i < n → w.cell? ⟨b, off + i, none⟩ = some (.int .i64 (zs.getD i 0))) := ha.cells
  have LA : Hid (zs.length = n) := la
  have HT : Hid (AndTab w) := hT
  by_cases h20 : n ≤ 20
  · have H20 : Hid (decide (zs.length ≤ 20) = true) := decide_eq_true (by omega)
    clear la ha hT
    go_enter Tryd.func11, Tryd.ntmps11
    go_wp2_with fail
    go_loop [4, 14] (fun t i => ∃ k : Nat, k ≤ n ∧ i = .int .i64 k ∧ t = .int .i64 (foldV (zs.take k)) ∧ isT (foldV (zs.take k)) = true ∧ allIn 0 2 (zs.take k) = true) (fun _ i => n - (intOf i).toNat)
    case atStart => exact ⟨0, Nat.zero_le _, rfl, rfl, rfl, rfl⟩
    case round =>
      obtain ⟨k, hk, rfl, rfl, hit, hall⟩ := hrel
      have Hall : Hid (allIn 0 2 (zs.take k) = true) := hall
      have Hit : Hid (isT (foldV (zs.take k)) = true) := hit
      clear hall hit
      by_cases hlt : k < n
      · obtain ⟨b, off, rfl, hbl, hc⟩ := HAs.out (by omega)
        have hck := hc k hlt
        have hkl : k < zs.length := by rw [LA.out]; exact hlt
        have HF : Hid _ := foldV_succ zs k hkl
        cases hin : isT (zs.getD k 0)
        · have F1 : Hid (allB zs = false) := by show _ = _; unfold allB; rw [show allIn 0 2 zs = false from all_take_false _ zs k hkl (by rw [inB_isT]; exact hin)]; simp
          have F2 : Hid (allV zs = 0) := by show _ = _; unfold allV; simp [F1.out]
          have Hin : Hid (isT (zs.getD k 0) = false) := hin
          generalize hx : zs.getD k 0 = x at *
          have HX : Hid (zs.getD k 0 = x) := hx
          clear hc hx hin hkl
          go_wp2_with fail
          refine (impl_AndOf _ _ _ HT.out).mono ?_
          rintro e w' ⟨rfl, rfl⟩
          rw [Hit.out, Hin.out]
          go_wp2_with fail
          go_ret2
          exact ⟨ret_pair F2.out.symm F1.out.symm, rfl⟩
        · have G1 : Hid _ := all_take_succ (fun z => Val.inB z 0 2) zs k hkl hin Hall.out
          have G2 : Hid _ := least_isT Hit.out hin
          have G3 : Hid _ := andV_least Hit.out hin
          have Hin : Hid (isT (zs.getD k 0) = true) := hin
          generalize hx : zs.getD k 0 = x at *
          clear hc hx hin hkl
          go_wp2_with fail
          refine (impl_AndOf _ _ _ HT.out).mono ?_
          rintro e w' ⟨rfl, rfl⟩
          rw [Hit.out, Hin.out, G3.out]
          go_wp2_with fail
          go_round
          case rel => exact ⟨k + 1, by omega, by go_num, by rw [HF.out], by rw [HF.out]; exact G2.out, G1.out⟩
          case measure => simp [intOf]; omega
      · have F1 : Hid (allB zs = true) := by
          show _ = _
          have h := Hall.out
          rw [List.take_of_length_le (by rw [LA.out]; omega)] at h
          unfold allB
          rw [h, H20.out]
          rfl
        have F2 : Hid (foldV (zs.take k) = allV zs) := by show _ = _; rw [List.take_of_length_le (by rw [LA.out]; omega)]; unfold allV; simp [F1.out]
        go_wp2
        go_ret2
        exact ⟨ret_pair F2.out F1.out.symm, rfl⟩
  · have eb : allB zs = false := by unfold allB; simp [la, h20]
    have ev : allV zs = 0 := by unfold allV; simp [eb]
    rw [ev, eb]
    clear eb ev la ha hT
    go_enter Tryd.func11, Tryd.ntmps11
    go_wp2
    go_ret2
    exact ⟨rfl, rfl⟩


end Go.Proofs.YtbjpfmnkapmohaaDoor.All
