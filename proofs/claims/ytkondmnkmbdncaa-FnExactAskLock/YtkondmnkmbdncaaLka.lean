/-
  Contracts of what a dealer holds, of the program and of the model: numbersBelow, the hand's reads, writes, holds, items; l8Held.
-/
import Derived.Test.YtkondmnkmbdncaaLkp
import Derived.Test.YtkondmnkmbdncaaKpi
import Derived.Test.YtkondmnkmbdncaaIhl
import Derived.Test.YtkondmnkmbdncaaDlr
import Derived.Test.YtkondmnkmbdncaaOa
import Derived.Deep.RegionHeld3
import Derived.Deep.QuietTactic
namespace Go.Proofs.Ytkondmnkmbdncaa.Lka
open Go.RowKit
open Go.Proofs.Ytkondmnkmbdncaa.Frame Go.Proofs.Ytkondmnkmbdncaa.Mem Go.Proofs.Ytkondmnkmbdncaa.Ints Go.Proofs.Ytkondmnkmbdncaa.Kep Go.Proofs.Ytkondmnkmbdncaa.Lls Go.Proofs.Ytkondmnkmbdncaa.Knl Go.Proofs.Ytkondmnkmbdncaa.Mis Go.Proofs.Ytkondmnkmbdncaa.Kpi Go.Proofs.Ytkondmnkmbdncaa.Lkp Go.Proofs.Ytkondmnkmbdncaa.Dlr
open Go.Proofs.Ytkondmnkmbdncaa.SLocks (D SIs)
open Go.Proofs.Ytkondmnkmbdncaa.Oa (isRow_drewN)

/-- A row of a list of lists, in memory. -/
theorem row_at {w : World} {a : Option Addr} {n c : Nat} {xs : Ll} (h : LIs w (.slice a n c) xs) : xs.length = n ∧ ∀ k, k < n → ∃ b off ra rn rc, a = some ⟨b, off, none⟩ ∧ b < w.heap.size ∧ w.cell? ⟨b, off + k, none⟩ = some (.slice ra rn rc) ∧ IsRow .i64 w ra rn rc (xs.getD k []) ∧ rn ≤ 1048576 := by
  obtain ⟨a', n', c', rs, e, hl, rfl, ht⟩ := h
  cases e
  refine ⟨by simp [lplain, hl.len], fun k hk => ?_⟩
  have hkl : k < rs.length := by rw [hl.len]; exact hk
  obtain ⟨b, off, ha, hb, hc⟩ := hl.cells (by omega)
  refine ⟨b, off, _, _, _, ha, hb, hc k hk, ?_, (small_ls ht).2 _ (getD_mem_ld hkl)⟩
  rw [lplain_get rs k hkl]
  exact hl.rows _ (getD_mem_ld hkl)
theorem num_at {w : World} {a : Option Addr} {n c : Nat} {zs : List Int} (h : IIs w (.slice a n c) zs) : IsRow .i64 w a n c zs ∧ n ≤ 1048576 := by
  obtain ⟨a', n', c', e, hr, hn⟩ := h
  cases e
  exact ⟨hr, hn⟩

set_option maxRecDepth 4000 in
set_option maxHeartbeats 800000 in
theorem reads (a0 a1 a2 : Option Addr) (n0 c0 n1 c1 n2 c2 : Nat) (who : Int) (k : Nat) (d : D) (w : World) (h : LIs w (.slice a0 n0 c0) d.1) (hk : k < n0) :
    Calls Try.prog 142 #[.agg #[.slice a0 n0 c0, .slice a1 n1 c1, .slice a2 n2 c2, .int .i64 who], .int .i64 k] w fun e w' => e = .returned (.bool (readB d who k)) ∧ Below w.heap.size w w' := by
  obtain ⟨b, off, ra, rn, rc, rfl, hb, hc, hr, hn⟩ := (row_at h).2 k hk
  have B0 : Hid (Below w.heap.size w (w.alloc (.cells #[.slice (some ⟨b, off, none⟩) n0 c0, .slice a1 n1 c1, .slice a2 n2 c2, .int .i64 who] 78))) := (Below.refl _ _).alloc (Nat.le_refl _) _
  have HR : Hid (IsRow .i64 w ra rn rc (d.1.getD k [])) := hr
  have hkI : (k : Int) < (n0 : Int) := by omega
  have hk0 : (0 : Int) ≤ (k : Int) := by omega
  have F : Hid (readB d who (k : Int) = decide (who ∈ d.1.getD k [])) := by show _ = _; unfold readB Lkp.rowAt; rw [Int.toNat_natCast]
  have hcb : (w.alloc (.cells #[.slice (some ⟨b, off, none⟩) n0 c0, .slice a1 n1 c1, .slice a2 n2 c2, .int .i64 who] 78)).cell? ⟨b, off + k, none⟩ = some (.slice ra rn rc) := by rw [B0.out.cell (p := ⟨b, off + k, none⟩) hb]; exact hc
  clear h hr hc
  go_enter Try.func142, Try.ntmps142
  go_wp2_with fail
  go_quiet (exact Calls.quiet_of_same (Ihl.slices_Contains ra rn rc _ who _ (isRow_drewN (IsRow.below HR.out B0.out) _)))
  go_wp2
  go_ret
  exact ⟨ret_bool F.out.symm, below_drewN B0.out _⟩

set_option maxRecDepth 4000 in
set_option maxHeartbeats 800000 in
theorem writes (a0 a1 a2 : Option Addr) (n0 c0 n1 c1 n2 c2 : Nat) (who : Int) (k : Nat) (d : D) (w : World) (h : IIs w (.slice a1 n1 c1) d.2.1) (hk : k < n1) :
    Calls Try.prog 115 #[.agg #[.slice a0 n0 c0, .slice a1 n1 c1, .slice a2 n2 c2, .int .i64 who], .int .i64 k] w fun e w' => e = .returned (.bool (writeB d who k)) ∧ Below w.heap.size w w' := by
  obtain ⟨b, off, rfl, hb, hc0⟩ := (num_at h).1.cells (by omega)
  have hc := hc0 k hk
  have HW : Hid (wrAt d k = d.2.1.getD k 0) := rfl
  have F : Hid (writeB d who (k : Int) = (d.2.1.getD k 0 == who)) := by show _ = _; unfold writeB wrAt; rw [Int.toNat_natCast]
  generalize d.2.1.getD k 0 = x at hc HW F
  have hkI : (k : Int) < (n1 : Int) := by omega
  have hk0 : (0 : Int) ≤ (k : Int) := by omega
  have B0 : Hid (Below w.heap.size w (w.alloc (.cells #[.slice a0 n0 c0, .slice (some ⟨b, off, none⟩) n1 c1, .slice a2 n2 c2, .int .i64 who] 78))) := (Below.refl _ _).alloc (Nat.le_refl _) _
  have hcb : (w.alloc (.cells #[.slice a0 n0 c0, .slice (some ⟨b, off, none⟩) n1 c1, .slice a2 n2 c2, .int .i64 who] 78)).cell? ⟨b, off + k, none⟩ = some (.int .i64 x) := by rw [B0.out.cell (p := ⟨b, off + k, none⟩) hb]; exact hc
  clear h hc hc0 HW
  go_enter Try.func115, Try.ntmps115
  go_wp2_with fail
  go_quiet (fail)
  go_wp2
  go_ret
  exact ⟨ret_bool F.out.symm, below_drewN B0.out _⟩

set_option maxRecDepth 4000 in
set_option maxHeartbeats 800000 in
theorem holds (a0 a1 a2 : Option Addr) (n0 c0 n1 c1 n2 c2 : Nat) (who : Int) (k : Nat) (d : D) (w : World) (h : LIs w (.slice a0 n0 c0) d.1) (h1 : IIs w (.slice a1 n1 c1) d.2.1) (hk : k < n0) (hk1 : k < n1) :
    Calls Try.prog 116 #[.agg #[.slice a0 n0 c0, .slice a1 n1 c1, .slice a2 n2 c2, .int .i64 who], .int .i64 k] w fun e w' => e = .returned (.bool (heldB d who k)) ∧ Below w.heap.size w w' := by
  have B0 : Hid (Below w.heap.size w (w.alloc (.cells #[.slice a0 n0 c0, .slice a1 n1 c1, .slice a2 n2 c2, .int .i64 who] 78))) := (Below.refl _ _).alloc (Nat.le_refl _) _
  have H0 : Hid (LIs w (.slice a0 n0 c0) d.1) := h
  have H1 : Hid (IIs w (.slice a1 n1 c1) d.2.1) := h1
  clear h h1
  have hz : (w.alloc (.cells #[.slice a0 n0 c0, .slice a1 n1 c1, .slice a2 n2 c2, .int .i64 who] 78)).heap.size = w.heap.size + 1 := by simp
  go_enter Try.func116, Try.ntmps116
  go_wp2_with fail
  refine (reads a0 a1 a2 n0 c0 n1 c1 n2 c2 who k d _ (lIs_below H0.out B0.out) hk).mono ?_
  rintro e w1 ⟨rfl, hb1⟩
  have B1 : Hid (Below w.heap.size w w1) := Frame.next B0.out hb1 (by rw [hz]; omega)
  have bc := Frame.bcell hb1
  rw [hz] at bc
  have q0 : w1.cell? ⟨w.heap.size, 0, none⟩ = some (.slice a0 n0 c0) := by rw [bc.1 _ _ (by omega)]; go_simp
  have q1 : w1.cell? ⟨w.heap.size, 1, none⟩ = some (.slice a1 n1 c1) := by rw [bc.1 _ _ (by omega)]; go_simp
  have q2 : w1.cell? ⟨w.heap.size, 2, none⟩ = some (.slice a2 n2 c2) := by rw [bc.1 _ _ (by omega)]; go_simp
  have q3 : w1.cell? ⟨w.heap.size, 3, none⟩ = some (.int .i64 who) := by rw [bc.1 _ _ (by omega)]; go_simp
  clear bc hb1 hz
  have HF : Hid (heldB d who (k : Int) = (readB d who (k : Int) || writeB d who (k : Int))) := rfl
  rcases Bool.eq_false_or_eq_true (readB d who (k : Int)) with hr | hr
  · have F : Hid (heldB d who (k : Int) = true) := by show _ = _; rw [HF.out, hr]; rfl
    rw [hr]
    clear hr HF
    go_wp2
    go_ret
    exact ⟨ret_bool F.out.symm, B1.out⟩
  · have F : Hid (heldB d who (k : Int) = writeB d who (k : Int)) := by show _ = _; rw [HF.out, hr]; rfl
    rw [hr]
    clear hr HF
    go_wp2_with fail
    refine (writes a0 a1 a2 n0 c0 n1 c1 n2 c2 who k d _ (iIs_below H1.out B1.out) hk1).mono ?_
    rintro e w2 ⟨rfl, hb2⟩
    have B2 : Hid (Below w.heap.size w w2) := Frame.next B1.out hb2 B1.out.size
    clear hb2 q0 q1 q2 q3
    go_wp2
    go_ret
    exact ⟨ret_bool F.out.symm, B2.out⟩

def numN (n : Nat) : List Int := (List.range n).map fun (i : Nat) => (i : Int)
theorem numN_length (n : Nat) : (numN n).length = n := by simp [numN]
theorem numN_get (n k : Nat) (h : k < n) : (numN n).getD k 0 = (k : Int) := by simp [numN, List.getD, h]
theorem numN_wf (n : Nat) (hn : n ≤ 100000) : ∀ z ∈ numN n, (Lit.int .i64 z).wf = true := fun z hz => by
  unfold numN at hz
  obtain ⟨i, hi, rfl⟩ := List.mem_map.1 hz
  have := List.mem_range.1 hi
  exact int_wf _ (by omega) (by omega)

set_option maxRecDepth 4000 in
set_option maxHeartbeats 800000 in
theorem numbersBelow (n : Nat) (w : World) (hn : n ≤ 100000) :
    Calls Try.prog 92 #[.int .i64 n] w fun e w' => ∃ g, e = .returned (.slice (some ⟨g, 0, none⟩) n n) ∧ w'.ownsRow w.heap.size 3 1 (.slice (some ⟨g, 0, none⟩) n n) n (ints .i64 (numN n)) ∧ Below w.heap.size w w' := by
  obtain ⟨i0, hi, hz0, hz1, hz2⟩ := info_parts Ints.info
  go_enter Try.func92, Try.ntmps92
  go_wp2_with (at_make; refine wpList_make_full _ rfl _ _ 24 rfl w.heap.size 3 i0 (.int .i64 0) 1 Try.underlying24 hi hz0 hz1 _ _ _ _ n rfl rfl rfl rfl ?b2 ?b3 (Nat.le_refl _) ?_)
  case b2 => rw [hz2]; omega
  case b3 => unfold maxLen; omega
  intro w2 hown2 hgrow2
  have B2 : Hid (Below w.heap.size w w2) := below_make (Below.refl _ _) hgrow2 (Nat.le_refl _)
  have O2 : Hid (w2.ownsRow w.heap.size 3 1 (.slice (some ⟨w.heap.size, 0, none⟩) n n) n (ints .i64 ((numN n).take 0) ++ List.replicate (n - 0) (Value.int .i64 0))) := by
    show World.ownsRow _ _ _ _ _ _ _
    have e : (madeCells #[Value.int .i64 0] n).toList = ints .i64 ((numN n).take 0) ++ List.replicate (n - 0) (Value.int .i64 0) := by
      rw [toList_madeCells_one]; simp [ints]
    rw [← e]
    exact hown2
  clear hown2 hgrow2
  go_wp2_with fail
  go_loopw [9] (fun i wr => ∃ k : Nat, k ≤ n ∧ i = .int .i64 k ∧ wr.ownsRow w.heap.size 3 1 (.slice (some ⟨w.heap.size, 0, none⟩) n n) n (ints .i64 ((numN n).take k) ++ List.replicate (n - k) (Value.int .i64 0)) ∧ Below w.heap.size w wr) (fun i _ => n - (intOf i).toNat)
  case atStart => exact ⟨0, by omega, rfl, O2.out, B2.out⟩
  case round =>
    obtain ⟨k, hk, rfl, ho, hnx⟩ := hrel
    have HN : Hid (Below w.heap.size w wr) := hnx
    have HO : Hid (wr.ownsRow w.heap.size 3 1 (.slice (some ⟨w.heap.size, 0, none⟩) n n) n (ints .i64 ((numN n).take k) ++ List.replicate (n - k) (Value.int .i64 0))) := ho
    clear hnx
    by_cases hlt : k < n
    · have hset := Ints.set_part (numN n) n k (by rw [numN_length]; exact hlt) (numN_length n)
      rw [numN_get n k hlt] at hset
      have hst := (ho.stored k (.int .i64 (k : Int))).1
      rw [hset] at hst
      have Hst : Hid _ := hst
      have hfz := ho.frozenAt k
      obtain ⟨old, hold⟩ : ∃ old, wr.cell? ⟨w.heap.size, k, none⟩ = some old := by
        have hl : (ints .i64 ((numN n).take k) ++ List.replicate (n - k) (Value.int .i64 0)).length = n := by
          rw [List.length_append, ints_length, List.length_take, List.length_replicate, numN_length]; omega
        rw [ho.cellAt k (by omega)]
        exact ⟨_, List.getElem?_eq_getElem (by omega)⟩
      have hkI : (k : Int) < (n : Int) := by omega
      clear hst ho hset
      go_wp2
      go_roundw
      case rel => exact ⟨k + 1, by omega, by go_num, Hst.out, HN.out.setCell (Nat.le_refl _) _⟩
      case measure => simp [intOf]; omega
    · have O4 : Hid (wr.ownsRow w.heap.size 3 1 (.slice (some ⟨w.heap.size, 0, none⟩) n n) n (ints .i64 (numN n))) := by
        show World.ownsRow _ _ _ _ _ _ _
        have := HO.out
        obtain rfl : k = n := by omega
        rwa [List.take_of_length_le (by rw [numN_length]; omega), Nat.sub_self, List.replicate_zero, List.append_nil] at this
      clear ho
      go_wp2
      go_ret
      exact ⟨_, rfl, O4.out, HN.out⟩

theorem own_row {w : World} {base : Nat} {a : Option Addr} {n c : Nat} {zs : List Int} (h : w.ownsRow base 3 1 (.slice a n c) n (ints .i64 zs)) (hw : ∀ z ∈ zs, (Lit.int .i64 z).wf = true) : IsRow .i64 w a n c zs := by
  obtain ⟨_, _, e, hr⟩ := isRow_own h hw
  cases e
  exact hr
theorem numN4 : numN 4 = four := rfl
theorem four_nat {x : Int} (h : x ∈ four) : ∃ k : Nat, x = (k : Int) ∧ k < 4 := by
  have := four_mem.1 h
  exact ⟨x.toNat, by omega, by omega⟩
theorem bound_holds (a0 a1 a2 : Option Addr) (c0 c1 n2 c2 : Nat) (who : Int) (d : D) (w : World) (h : LIs w (.slice a0 4 c0) d.1) (h1 : IIs w (.slice a1 4 c1) d.2.1) :
    ∀ x ∈ four, ∀ w1, Below w.heap.size w w1 → Calls Try.prog 116 (#[.agg #[.slice a0 4 c0, .slice a1 4 c1, .slice a2 n2 c2, .int .i64 who]] ++ #[.int .i64 x] ++ #[]) w1 fun e w2 => e = .returned (.bool (heldB d who x)) ∧ Below w1.heap.size w1 w2 := fun x hx w1 hb => by
  obtain ⟨k, rfl, hk⟩ := four_nat hx
  exact holds a0 a1 a2 4 c0 4 c1 n2 c2 who k d w1 (lIs_below h hb) (iIs_below h1 hb) hk hk

set_option maxRecDepth 8000 in
set_option maxHeartbeats 1600000 in
theorem items (a0 a1 a2 : Option Addr) (c0 c1 n2 c2 : Nat) (who : Int) (d : D) (w : World) (h : LIs w (.slice a0 4 c0) d.1) (h1 : IIs w (.slice a1 4 c1) d.2.1) :
    Calls Try.prog 73 #[.agg #[.slice a0 4 c0, .slice a1 4 c1, .slice a2 n2 c2, .int .i64 who]] w fun e w' => ∃ a' m c', e = .returned (.slice a' m c') ∧ m ≤ 4 ∧ w'.ownsRow w.heap.size 3 1 (.slice a' m c') m (ints .i64 (heldN d who)) ∧ Below w.heap.size w w' := by
  have B0 : Hid (Below w.heap.size w (w.alloc (.cells #[.slice a0 4 c0, .slice a1 4 c1, .slice a2 n2 c2, .int .i64 who] 78)).drew) := ((Below.refl _ _).alloc (Nat.le_refl _) _).drew
  have H0 : Hid (LIs w (.slice a0 4 c0) d.1) := h
  have H1 : Hid (IIs w (.slice a1 4 c1) d.2.1) := h1
  have HEN : Hid (Enters Try.prog 116) := enters Try.func116 (by decide) rfl
  clear h h1
  have K0 : Hid ((w.alloc (.cells #[.slice a0 4 c0, .slice a1 4 c1, .slice a2 n2 c2, .int .i64 who] 78)).drew.cell? ⟨w.heap.size, 0, none⟩ = some (.slice a0 4 c0) ∧ (w.alloc (.cells #[.slice a0 4 c0, .slice a1 4 c1, .slice a2 n2 c2, .int .i64 who] 78)).drew.cell? ⟨w.heap.size, 1, none⟩ = some (.slice a1 4 c1) ∧ (w.alloc (.cells #[.slice a0 4 c0, .slice a1 4 c1, .slice a2 n2 c2, .int .i64 who] 78)).drew.cell? ⟨w.heap.size, 2, none⟩ = some (.slice a2 n2 c2) ∧ (w.alloc (.cells #[.slice a0 4 c0, .slice a1 4 c1, .slice a2 n2 c2, .int .i64 who] 78)).drew.cell? ⟨w.heap.size, 3, none⟩ = some (.int .i64 who)) := by show _ ∧ _; simp only [World.cell?_drew]; refine ⟨?_, ?_, ?_, ?_⟩ <;> go_simp
  go_enter Try.func73, Try.ntmps73
  go_wp2_with fail
  go_region_held3 (fun w' => w'.cell? ⟨w.heap.size, 0, none⟩ = some (.slice a0 4 c0) ∧ w'.cell? ⟨w.heap.size, 1, none⟩ = some (.slice a1 4 c1) ∧ w'.cell? ⟨w.heap.size, 2, none⟩ = some (.slice a2 n2 c2) ∧ w'.cell? ⟨w.heap.size, 3, none⟩ = some (.int .i64 who)) (first | exact K0.out | with_reducible exact K1.out | with_reducible exact K2.out)
    (first
      | (go_at_call 92; refine (numbersBelow 4 _ (by omega)).mono ?_; rintro e w1 ⟨g, rfl, ho, hb⟩; have B1 : Hid (Below w.heap.size w w1) := Frame.next B0.out hb B0.out.size; have K1 : Hid (w1.cell? ⟨w.heap.size, 0, none⟩ = some (.slice a0 4 c0) ∧ w1.cell? ⟨w.heap.size, 1, none⟩ = some (.slice a1 4 c1) ∧ w1.cell? ⟨w.heap.size, 2, none⟩ = some (.slice a2 n2 c2) ∧ w1.cell? ⟨w.heap.size, 3, none⟩ = some (.int .i64 who)) := ⟨Frame.held_cell hb K0.out.1, Frame.held_cell hb K0.out.2.1, Frame.held_cell hb K0.out.2.2.1, Frame.held_cell hb K0.out.2.2.2⟩; have R1 : Hid (IsRow .i64 w1 (some ⟨g, 0, none⟩) 4 4 four) := own_row ho (numN_wf 4 (by omega)); clear ho hb)
      | (go_at_call 91; refine (kept_gen (some ⟨g, 0, none⟩) 4 4 four 116 #[.agg #[.slice a0 4 c0, .slice a1 4 c1, .slice a2 n2 c2, .int .i64 who]] #[] (heldB d who) _ R1.out (by omega) HEN.out (fun x hx w2 hb2 => bound_holds a0 a1 a2 c0 c1 n2 c2 who d w H0.out H1.out x hx w2 (Frame.next B1.out hb2 B1.out.size))).mono ?_; rintro e w2 ⟨a', m, c', rfl, hm, ho, hb⟩; have B2 : Hid (Below w.heap.size w w2) := Frame.next B1.out hb B1.out.size; have K2 : Hid (w2.cell? ⟨w.heap.size, 0, none⟩ = some (.slice a0 4 c0) ∧ w2.cell? ⟨w.heap.size, 1, none⟩ = some (.slice a1 4 c1) ∧ w2.cell? ⟨w.heap.size, 2, none⟩ = some (.slice a2 n2 c2) ∧ w2.cell? ⟨w.heap.size, 3, none⟩ = some (.int .i64 who)) := ⟨Frame.held_cell hb K1.out.1, Frame.held_cell hb K1.out.2.1, Frame.held_cell hb K1.out.2.2.1, Frame.held_cell hb K1.out.2.2.2⟩; have O2 : Hid (w2.ownsRow w.heap.size 3 1 (.slice a' m c') m (ints .i64 (heldN d who))) := own_base ho B1.out.size; clear ho hb))
  all_goals
    go_wp2
    go_ret
    exact ⟨_, _, _, rfl, hm, O2.out, B2.out⟩


end Go.Proofs.Ytkondmnkmbdncaa.Lka
