/-
  Contract of the laws' heldRowS.
-/
import Derived.Test.YtciaegdgoabipaaRws
namespace Go.Proofs.Ytciaegdgoabipaa.Hld
open Go.RowKit
open Go.Proofs.Ytciaegdgoabipaa.Frame Go.Proofs.Ytciaegdgoabipaa.Mem Go.Proofs.Ytciaegdgoabipaa.Vals Go.Proofs.Ytciaegdgoabipaa.Rws

theorem rmarks_at (k0 : Int) (rs : List RowV) (k : Nat) (h : k < rs.length) : (rmarks k0 rs).getD k rd = ⟨rnext k0 (rs.take k), (rs.getD k rd).a, (rs.getD k rd).n, (rs.getD k rd).c, vmarks (rnext k0 (rs.take k) + 1) (rs.getD k rd).n⟩ := by
  have e : rs = rs.take k ++ rs.getD k rd :: rs.drop (k + 1) := by rw [← drop_succ_rd h, List.take_append_drop]
  have hl : (rmarks k0 (rs.take k)).length = k := by rw [rmarks_length, List.length_take]; omega
  have e2 : rmarks k0 rs = rmarks k0 (rs.take k) ++ rmarks (rnext k0 (rs.take k)) (rs.getD k rd :: rs.drop (k + 1)) := by rw [← rmarks_append, ← e]
  rw [e2]
  simp only [rmarks]
  generalize rs.getD k rd = r
  simp [List.getD, hl]

set_option maxRecDepth 100000 in
set_option maxHeartbeats 1600000 in
theorem heldRowS (a : Option Addr) (n cap : Nat) (rs : List RowV) (k0 : Int) (w : World) (h : IsRows w a n cap (rmarks k0 rs)) (hn : n ≤ 1048576) (hr : ∀ r ∈ rs, r.n ≤ 1048576) (hk0 : 0 ≤ k0) (hk1 : k0 + 2 * total rs ≤ 100000000) :
    Calls Try.prog 41 #[.slice a n cap, .int .i64 k0] w fun e w' => e = .returned (.int .i64 (rnext k0 rs)) ∧ Below w.heap.size w w' := by
  have hlen : rs.length = n := by have := h.len; rwa [rmarks_length] at this
  have HL : Hid (rs.length = n) := hlen
  have HRN : Hid (∀ r ∈ rs, r.n ≤ 1048576) := hr
  have HI : Hid (IsRows w a n cap (rmarks k0 rs)) := h
  have hk2 : k0 + 2 * (n : Int) + 2 * sumN rs ≤ 100000000 := by unfold total at hk1; rw [hlen] at hk1; omega
  have HT : Hid (∀ k, 0 ≤ sumN (rs.take k) ∧ sumN (rs.take k) ≤ sumN rs) := fun k => ⟨sumN_nonneg _, sumN_le rs k⟩
  clear h hr hk1 hlen
  go_enter Try.func41, Try.ntmps41
  go_wp2
  go_loopw [1, 5] (fun m i wr => ∃ k : Nat, k ≤ n ∧ i = .int .i64 k ∧ m = .int .i64 (rnext k0 (rs.take k)) ∧ Below w.heap.size w wr) (fun _ i _ => n - (intOf i).toNat)
  case atStart => exact ⟨0, Nat.zero_le _, rfl, by simp [rnext, sumN], Below.refl _ _⟩
  case round =>
    obtain ⟨k, hk, rfl, rfl, hnx⟩ := hrel
    have HN : Hid (Below w.heap.size w wr) := hnx
    clear hnx
    by_cases hlt : k < n
    · have hkl : k < rs.length := by rw [HL.out]; exact hlt
      obtain ⟨b, off, rfl, hbl, hc⟩ := HI.out.cells (by omega)
      have p0 : wr.cell? ⟨b, off + k * 2, none⟩ = some (.int .i64 ((rmarks k0 rs).getD k rd).key) := by rw [HN.out.cell (p := ⟨b, off + k * 2, none⟩) hbl]; exact (hc k hlt).1
      have p1 : wr.cell? ⟨b, off + k * 2 + 1, none⟩ = some (.slice ((rmarks k0 rs).getD k rd).a ((rmarks k0 rs).getD k rd).n ((rmarks k0 rs).getD k rd).c) := by rw [HN.out.cell (p := ⟨b, off + k * 2 + 1, none⟩) hbl]; exact (hc k hlt).2
      have hiv := (HI.out.rows _ (getD_mem_rd (show k < (rmarks k0 rs).length by rw [rmarks_length]; exact hkl))).2
      rw [rmarks_at k0 rs k hkl] at p0 p1 hiv
      have hrn := HRN.out _ (getD_mem_rd hkl)
      have hts := take_succ_rd hkl
      have hb := HT.out k
      have hlt2 : (((rs.take k).length : Nat) : Int) = k := by rw [List.length_take]; omega
      have hK : rnext k0 (rs.take k) = k0 + (k : Int) + 2 * sumN (rs.take k) := by unfold rnext; rw [hlt2]
      generalize rs.getD k rd = r at p0 p1 hiv hrn hts
      obtain ⟨key, ra, rn, rc, rvs⟩ := r
      simp only at p0 p1 hiv hrn
      have hnx2 : rnext k0 (rs.take (k + 1)) = rnext k0 (rs.take k) + 1 + 2 * (rn : Int) := by
        rw [hts, rnext_append]
        generalize rnext k0 (rs.take k) = q
        simp [rnext, sumN]
      generalize hKK : rnext k0 (rs.take k) = K at hK p0 p1 hiv hnx2 ⊢
      have hKb : 0 ≤ K ∧ K ≤ 100000000 := by omega
      obtain ⟨hKb0, hKb1⟩ := hKb
      have HNX : Hid (rnext k0 (rs.take (k + 1)) = K + 1 + 2 * (rn : Int)) := hnx2
      have HIV : Hid (IsVals w ra rn rc (vmarks (K + 1) rn)) := hiv
      have hz : ¬ K + 1 + 2 * (rn : Int) < 0 := by omega
      clear hc hkl hiv hts hb hlt2 hK hKK hnx2
      go_wp2_with fail
      refine (heldValueS ra rn rc _ _ (HIV.out.below HN.out) hrn (by omega) (by omega)).mono ?_
      rintro e w1 ⟨rfl, hb1⟩
      have HN1 : Hid (Below w.heap.size w w1) := Frame.next HN.out hb1 HN.out.size
      clear hb1
      go_wp2
      go_roundw
      case rel => exact ⟨k + 1, by omega, by go_num, by rw [HNX.out], HN1.out⟩
      case measure => simp [intOf]; omega
    · obtain rfl : k = n := by omega
      have HE : Hid (rnext k0 (rs.take k) = rnext k0 rs) := by show _ = _; rw [List.take_of_length_le (by rw [HL.out]; omega)]
      go_wp2
      go_ret
      exact ⟨Ints.ret_int HE.out, HN.out⟩


end Go.Proofs.Ytciaegdgoabipaa.Hld
