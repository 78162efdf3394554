/-
  slices.Concat of three lists of lists of numbers.
-/
import Derived.Test.YthhldnlbneamiaaOk
namespace Go.Proofs.Ythhldnlbneamiaa.Cce
open Go.RowKit
open Go.Proofs.Ythhldnlbneamiaa.Frame Go.Proofs.Ythhldnlbneamiaa.Mem Go.Proofs.Ythhldnlbneamiaa.Ints Go.Proofs.Ythhldnlbneamiaa.Kep Go.Proofs.Ythhldnlbneamiaa.Lls Go.Proofs.Ythhldnlbneamiaa.Mis Go.Proofs.Ythhldnlbneamiaa.Ok

set_option maxRecDepth 8000 in
set_option maxHeartbeats 3200000 in
theorem concat_ls3 (pb : Nat) (ta sa ua : Option Addr) (tn tc sn sc un uc : Nat) (rs qs ps : List LV) (w : World) (hc0 : w.cell? ⟨pb, 0, none⟩ = some (.slice ta tn tc)) (hc1 : w.cell? ⟨pb, 1, none⟩ = some (.slice sa sn sc)) (hc2 : w.cell? ⟨pb, 2, none⟩ = some (.slice ua un uc)) (ht : IsLs w ta tn tc rs) (hs : IsLs w sa sn sc qs) (hu : IsLs w ua un uc ps) (htn : tn ≤ 1000) (hsn : sn ≤ 1000) (hun : un ≤ 1000) :
    Calls Try.prog 105 #[.slice (some ⟨pb, 0, none⟩) 3 3] w fun e w' => ∃ a' c', e = .returned (.slice a' (tn + sn + un) c') ∧ w'.ownsRow w.heap.size 24 1 (.slice a' (tn + sn + un) c') (tn + sn + un) (lcells (rs ++ qs ++ ps)) ∧ Below w.heap.size w w' := by
  obtain ⟨i0, hi, hz0, hz1, hz2⟩ := info_parts infoL
  have HT0 : Hid (IsLs w ta tn tc rs) := ht
  have HT1 : Hid (IsLs w sa sn sc qs) := hs
  have HT2 : Hid (IsLs w ua un uc ps) := hu
  have HL0 : Hid ((lcells rs).length = tn * 1) := by show _ = _; rw [lcells_length, ht.len]; omega
  have HL1 : Hid ((lcells qs).length = sn * 1) := by show _ = _; rw [lcells_length, hs.len]; omega
  have HL2 : Hid ((lcells ps).length = un * 1) := by show _ = _; rw [lcells_length, hu.len]; omega
  have HC : Hid (w.cell? ⟨pb, 0, none⟩ = some (.slice ta tn tc) ∧ w.cell? ⟨pb, 1, none⟩ = some (.slice sa sn sc) ∧ w.cell? ⟨pb, 2, none⟩ = some (.slice ua un uc)) := ⟨hc0, hc1, hc2⟩
  clear ht hs hu
  go_enter Try.func105, Try.ntmps105
  go_wp2_with fail
  go_loopw [3, 11] (fun s i wr => ((i = .int .i64 0 ∧ s = .int .i64 0) ∨ (i = .int .i64 1 ∧ s = .int .i64 tn) ∨ (i = .int .i64 2 ∧ s = .int .i64 ((tn + sn : Nat) : Int)) ∨ (i = .int .i64 3 ∧ s = .int .i64 ((tn + sn + un : Nat) : Int))) ∧ w = wr) (fun _ i _ => 3 - (intOf i).toNat)
  case atStart => exact ⟨Or.inl ⟨rfl, rfl⟩, rfl⟩
  case round =>
    obtain ⟨hcase, rfl⟩ := hrel
    rcases hcase with ⟨rfl, rfl⟩ | ⟨rfl, rfl⟩ | ⟨rfl, rfl⟩ | ⟨rfl, rfl⟩
    · go_wp2_with fail
      go_roundw
      case rel => exact ⟨Or.inr (Or.inl ⟨by go_num, by go_num⟩), trivial⟩
      case measure => simp [intOf]
    · go_wp2_with fail
      go_roundw
      case rel => exact ⟨Or.inr (Or.inr (Or.inl ⟨by go_num, by go_num⟩)), trivial⟩
      case measure => simp [intOf]
    · go_wp2_with fail
      go_roundw
      case rel => exact ⟨Or.inr (Or.inr (Or.inr ⟨by go_num, by go_num⟩)), trivial⟩
      case measure => simp [intOf]
    · clear hc0 hc1 hc2
      go_wp2_with fail
      refine (grow_nil (tn + sn + un) _ (by omega)).mono ?_
      rintro e w1 ⟨a1, c1, rfl, ho1, hb1⟩
      have O1 : Hid (w1.ownsRow w.heap.size 24 1 (.slice a1 0 c1) 0 (lcells [])) := ho1
      have B1 : Hid (Below w.heap.size w w1) := hb1
      clear ho1 hb1
      go_wp2_with fail
      go_loopw [6, 27] (fun v i wr => ∃ (m : Nat) (a' : Option Addr) (c' : Nat) (xs : List LV), ((i = .int .i64 0 ∧ m = 0 ∧ xs = []) ∨ (i = .int .i64 1 ∧ m = tn ∧ xs = rs) ∨ (i = .int .i64 2 ∧ m = tn + sn ∧ xs = rs ++ qs) ∨ (i = .int .i64 3 ∧ m = tn + sn + un ∧ xs = rs ++ qs ++ ps)) ∧ v = .slice a' m c' ∧ wr.ownsRow w.heap.size 24 1 (.slice a' m c') m (lcells xs) ∧ Below w.heap.size w wr) (fun _ i _ => 3 - (intOf i).toNat)
      case atStart => exact ⟨0, a1, c1, [], Or.inl ⟨rfl, rfl, rfl⟩, rfl, O1.out, B1.out⟩
      case round =>
        obtain ⟨m, a', c', xs, hcase, rfl, ho, hnx⟩ := hrel
        have HN : Hid (Below w.heap.size w wr) := hnx
        rcases hcase with ⟨rfl, hm, hx⟩ | ⟨rfl, hm, hx⟩ | ⟨rfl, hm, hx⟩ | ⟨rfl, hm, hx⟩
        · skip
          have HO : Hid (wr.ownsRow w.heap.size 24 1 (.slice a' (0) c') (0) (lcells ([]))) := by have := ho; rw [hm, hx] at this; exact this
          rw [hm]
          clear ho hm hx
          have p0 : wr.cell? ⟨pb, 0, none⟩ = some (.slice ta tn tc) := Frame.held_cell hnx HC.out.1
          have S2 : Hid (0 < tn → ∃ ad, ta = some ad ∧ ∀ j u, (lcells rs)[j]? = some u → wr.cell? (ad.add j) = some u) := news_ls (HT0.out.below HN.out)
          clear hnx
          go_wp2_with (at_builtin; refine App.wpList_append_all _ rfl _ _ 31 rfl w.heap.size 24 i0 (.slice none 0 0) 1 24 Try.underlying31 hi hz0 hz1 hz2 rfl (by decide) _ _ _ rfl HO.out _ tn _ (lcells rs) rfl HL0.out S2.out (one_ls rs) (by unfold maxLen; omega) (by omega) HN.out.size ?_)
          intro a4 c4 w4 hown4 hgrow4
          have O4 : Hid (w4.ownsRow w.heap.size 24 1 (.slice a4 (tn) c4) (tn) (lcells (rs))) := by have := hown4; rw [show lcells [] = [] from rfl, List.nil_append] at this; first | exact this | (rw [Nat.zero_add] at this; exact this)
          have N4 : Hid (Below w.heap.size w w4) := below_app HN.out HO.out hgrow4 HN.out.size (Nat.le_refl _)
          clear hown4 hgrow4
          go_wp2
          go_roundw
          case rel => exact ⟨_, a4, c4, _, Or.inr (Or.inl ⟨by go_num, rfl, rfl⟩), rfl, O4.out, N4.out⟩
          case measure => simp [intOf]
        · skip
          have HO : Hid (wr.ownsRow w.heap.size 24 1 (.slice a' (tn) c') (tn) (lcells (rs))) := by have := ho; rw [hm, hx] at this; exact this
          rw [hm]
          clear ho hm hx
          have p0 : wr.cell? ⟨pb, 1, none⟩ = some (.slice sa sn sc) := Frame.held_cell hnx HC.out.2.1
          have S2 : Hid (0 < sn → ∃ ad, sa = some ad ∧ ∀ j u, (lcells qs)[j]? = some u → wr.cell? (ad.add j) = some u) := news_ls (HT1.out.below HN.out)
          clear hnx
          go_wp2_with (at_builtin; refine App.wpList_append_all _ rfl _ _ 31 rfl w.heap.size 24 i0 (.slice none 0 0) 1 24 Try.underlying31 hi hz0 hz1 hz2 rfl (by decide) _ _ _ rfl HO.out _ sn _ (lcells qs) rfl HL1.out S2.out (one_ls qs) (by unfold maxLen; omega) (by omega) HN.out.size ?_)
          intro a4 c4 w4 hown4 hgrow4
          have O4 : Hid (w4.ownsRow w.heap.size 24 1 (.slice a4 (tn + sn) c4) (tn + sn) (lcells (rs ++ qs))) := by have := hown4; rw [← lcells_append] at this; exact this
          have N4 : Hid (Below w.heap.size w w4) := below_app HN.out HO.out hgrow4 HN.out.size (Nat.le_refl _)
          clear hown4 hgrow4
          go_wp2
          go_roundw
          case rel => exact ⟨_, a4, c4, _, Or.inr (Or.inr (Or.inl ⟨by go_num, rfl, rfl⟩)), rfl, O4.out, N4.out⟩
          case measure => simp [intOf]
        · skip
          have HO : Hid (wr.ownsRow w.heap.size 24 1 (.slice a' (tn + sn) c') (tn + sn) (lcells (rs ++ qs))) := by have := ho; rw [hm, hx] at this; exact this
          rw [hm]
          clear ho hm hx
          have p0 : wr.cell? ⟨pb, 2, none⟩ = some (.slice ua un uc) := Frame.held_cell hnx HC.out.2.2
          have S2 : Hid (0 < un → ∃ ad, ua = some ad ∧ ∀ j u, (lcells ps)[j]? = some u → wr.cell? (ad.add j) = some u) := news_ls (HT2.out.below HN.out)
          clear hnx
          go_wp2_with (at_builtin; refine App.wpList_append_all _ rfl _ _ 31 rfl w.heap.size 24 i0 (.slice none 0 0) 1 24 Try.underlying31 hi hz0 hz1 hz2 rfl (by decide) _ _ _ rfl HO.out _ un _ (lcells ps) rfl HL2.out S2.out (one_ls ps) (by unfold maxLen; omega) (by omega) HN.out.size ?_)
          intro a4 c4 w4 hown4 hgrow4
          have O4 : Hid (w4.ownsRow w.heap.size 24 1 (.slice a4 (tn + sn + un) c4) (tn + sn + un) (lcells (rs ++ qs ++ ps))) := by have := hown4; rw [← lcells_append] at this; exact this
          have N4 : Hid (Below w.heap.size w w4) := below_app HN.out HO.out hgrow4 HN.out.size (Nat.le_refl _)
          clear hown4 hgrow4
          go_wp2
          go_roundw
          case rel => exact ⟨_, a4, c4, _, Or.inr (Or.inr (Or.inr ⟨by go_num, rfl, rfl⟩)), rfl, O4.out, N4.out⟩
          case measure => simp [intOf]
        · skip
          have HO : Hid (wr.ownsRow w.heap.size 24 1 (.slice a' (tn + sn + un) c') (tn + sn + un) (lcells (rs ++ qs ++ ps))) := by have := ho; rw [hm, hx] at this; exact this
          rw [hm]
          clear ho hm hx
          clear hnx
          go_wp2
          go_ret
          exact ⟨_, _, rfl, HO.out, HN.out⟩


end Go.Proofs.Ythhldnlbneamiaa.Cce
