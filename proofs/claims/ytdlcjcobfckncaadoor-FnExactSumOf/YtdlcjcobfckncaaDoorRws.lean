/-
  Slices of rows (a key and a slice of values each) in memory; contracts of the laws' helpers on them.
-/
import Derived.Test.YtdlcjcobfckncaaDoorVals
namespace Go.Proofs.YtdlcjcobfckncaaDoor.Rws
open Go.RowKit
open Go.Proofs.YtdlcjcobfckncaaDoor.Frame Go.Proofs.YtdlcjcobfckncaaDoor.Mem Go.Proofs.YtdlcjcobfckncaaDoor.Vals

structure RowV where
  key : Int
  a : Option Addr
  n : Nat
  c : Nat
  vs : List (Bool × Int)

def rd : RowV := ⟨0, none, 0, 0, []⟩
def rcell (r : RowV) : List Value := [.int .i64 r.key, .slice r.a r.n r.c]
def rcells (rs : List RowV) : List Value := rs.flatMap rcell
def plain (rs : List RowV) : List (Int × List (Bool × Int)) := rs.map fun r => (r.key, r.vs)

theorem rcells_length (rs : List RowV) : (rcells rs).length = rs.length * 2 := by
  unfold rcells
  induction rs with
  | nil => rfl
  | cons v vs ih => simp only [List.flatMap_cons, List.length_append, ih, List.length_cons, rcell, List.length_nil]; omega
theorem rcells_append (xs ys : List RowV) : rcells (xs ++ ys) = rcells xs ++ rcells ys := by simp [rcells]
theorem rcells_get (rs : List RowV) (i : Nat) (h : i < rs.length) : (rcells rs)[i * 2]? = some (.int .i64 (rs.getD i rd).key) ∧ (rcells rs)[i * 2 + 1]? = some (.slice (rs.getD i rd).a (rs.getD i rd).n (rs.getD i rd).c) := by
  induction rs generalizing i with
  | nil => simp at h
  | cons v vs ih =>
    have e : rcells (v :: vs) = [.int .i64 v.key, .slice v.a v.n v.c] ++ rcells vs := by simp [rcells, rcell]
    rw [e]
    cases i with
    | zero => simp
    | succ i =>
      have hi : i < vs.length := by simpa using h
      have := ih i hi
      rw [List.getElem?_append_right (by simp; omega), List.getElem?_append_right (by simp; omega)]
      simp only [List.length_cons, List.length_nil]
      rw [show (i + 1) * 2 - (0 + 1 + 1) = i * 2 by omega, show (i + 1) * 2 + 1 - (0 + 1 + 1) = i * 2 + 1 by omega]
      simpa using this

theorem take_succ_rd {rs : List RowV} {i : Nat} (h : i < rs.length) : rs.take (i + 1) = rs.take i ++ [rs.getD i rd] := by
  rw [List.take_succ_eq_append_getElem h]
  simp [List.getD, h]
theorem getD_mem_rd {rs : List RowV} {i : Nat} (h : i < rs.length) : rs.getD i rd ∈ rs := by
  simp only [List.getD, List.getElem?_eq_getElem h, Option.getD_some]
  exact List.getElem_mem h

/-- What a walk is told of a slice of rows. -/
structure IsRows (w : World) (a : Option Addr) (n cap : Nat) (rs : List RowV) : Prop where
  len : rs.length = n
  fits : n ≤ cap
  max : cap ≤ maxLen
  rows : ∀ r ∈ rs, (Lit.int .i64 r.key).wf = true ∧ IsVals w r.a r.n r.c r.vs
  cells : 0 < n → ∃ b off, a = some ⟨b, off, none⟩ ∧ b < w.heap.size ∧ ∀ i, i < n → w.cell? ⟨b, off + i * 2, none⟩ = some (.int .i64 (rs.getD i rd).key) ∧ w.cell? ⟨b, off + i * 2 + 1, none⟩ = some (.slice (rs.getD i rd).a (rs.getD i rd).n (rs.getD i rd).c)

theorem IsRows.below {w w' : World} {a : Option Addr} {n cap : Nat} {rs : List RowV} (h : IsRows w a n cap rs) (hb : Below w.heap.size w w') : IsRows w' a n cap rs := by
  refine ⟨h.len, h.fits, h.max, fun r hr => ⟨(h.rows r hr).1, (h.rows r hr).2.below hb⟩, fun h0 => ?_⟩
  obtain ⟨b, off, ha, hlt, hc⟩ := h.cells h0
  exact ⟨b, off, ha, Nat.lt_of_lt_of_le hlt hb.size, fun i hi => by rw [hb.cell (p := ⟨b, off + i * 2, none⟩) hlt, hb.cell (p := ⟨b, off + i * 2 + 1, none⟩) hlt]; exact hc i hi⟩

/-- Two lists in two blocks. -/
def Far (a b : Option Addr) : Prop := ∀ x y, a = some x → b = some y → x.block ≠ y.block

/-- A slice of rows that the call owns, each row's list a block of its own. -/
structure OwnRows (w : World) (base : Nat) (a : Option Addr) (n cap : Nat) (rs : List RowV) : Prop where
  outer : w.ownsRow base 47 2 (.slice a n cap) n (rcells rs)
  inner : ∀ r ∈ rs, w.ownsRow base 26 2 (.slice r.a r.n r.c) r.n (vcells r.vs)
  wf : ∀ r ∈ rs, (Lit.int .i64 r.key).wf = true ∧ ∀ v ∈ r.vs, (Lit.int .i64 v.2).wf = true
  apart : rs.Pairwise fun r s => Far r.a s.a
  apart0 : ∀ r ∈ rs, Far a r.a

theorem OwnRows.below {w w' : World} {base : Nat} {a : Option Addr} {n cap : Nat} {rs : List RowV} (h : OwnRows w base a n cap rs) (hb : Below w.heap.size w w') : OwnRows w' base a n cap rs :=
  ⟨own_below h.outer hb, fun r hr => own_below (h.inner r hr) hb, h.wf, h.apart, h.apart0⟩

theorem OwnRows.isRows {w : World} {base : Nat} {a : Option Addr} {n cap : Nat} {rs : List RowV} (h : OwnRows w base a n cap rs) : IsRows w a n cap rs := by
  have h0 := h.outer
  obtain ⟨h1, h2⟩ := h.outer
  have hn : rs.length = n := by rw [rcells_length] at h1; omega
  have hrows : ∀ r ∈ rs, (Lit.int .i64 r.key).wf = true ∧ IsVals w r.a r.n r.c r.vs := fun r hr => by
    obtain ⟨a', c', e, hv⟩ := isVals_own (h.inner r hr) (h.wf r hr).2
    cases e
    exact ⟨(h.wf r hr).1, hv⟩
  rcases h2 with ⟨hv, rfl⟩ | ⟨g, cap', cur, hv, hg, hh, hnc, hcap, hsz, htake⟩
  · simp only [Value.slice.injEq] at hv
    obtain ⟨rfl, _, rfl⟩ := hv
    exact ⟨hn, Nat.le_refl _, by simp [maxLen], hrows, fun h => absurd h (by omega)⟩
  · simp only [Value.slice.injEq] at hv
    obtain ⟨rfl, _, rfl⟩ := hv
    refine ⟨hn, hnc, hcap, hrows, fun _ => ⟨g, 0, rfl, ?_, fun i hi => ?_⟩⟩
    · by_cases hx : g < w.heap.size
      · exact hx
      · rw [Array.getElem?_eq_none (by omega)] at hh; cases hh
    · have := rcells_get rs i (by omega)
      rw [Nat.zero_add, h0.cellAt (i * 2) (by omega), h0.cellAt (i * 2 + 1) (by omega)]
      exact this

theorem infoR : (Tryd.prog.info? 47).map (fun i => (i.zero, i.size, i.bytes)) = some (some (.agg #[.int .i64 0, .slice none 0 0]), 2, 32) := by kernel_rfl

/-! Sizes. -/
def sumN (rs : List RowV) : Int := (rs.map fun r => (r.n : Int)).sum
def total (rs : List RowV) : Int := (rs.length : Int) + sumN rs
theorem sumN_append (xs ys : List RowV) : sumN (xs ++ ys) = sumN xs + sumN ys := by simp [sumN, List.sum_append]
theorem sumN_nonneg (rs : List RowV) : 0 ≤ sumN rs := by
  induction rs with
  | nil => simp [sumN]
  | cons r rs ih => simp only [sumN, List.map_cons, List.sum_cons] at *; omega
theorem sumN_le (rs : List RowV) (k : Nat) : sumN (rs.take k) ≤ sumN rs := by
  have h : sumN rs = sumN (rs.take k) + sumN (rs.drop k) := by rw [← sumN_append, List.take_append_drop]
  have := sumN_nonneg (rs.drop k)
  omega
theorem sumN_mem {rs : List RowV} {r : RowV} (h : r ∈ rs) : (r.n : Int) ≤ sumN rs := by
  induction rs with
  | nil => cases h
  | cons x rs ih =>
    have hn := sumN_nonneg rs
    simp only [sumN, List.map_cons, List.sum_cons] at *
    rcases List.mem_cons.1 h with rfl | h
    · omega
    · have := ih h; omega
def left (m : Int) (t : Int) : Int := if m < t then -1 else m - t

theorem szValueS (a : Option Addr) (n cap : Nat) (m : Int) (w : World) (hn : n ≤ maxLen) (h0 : 0 ≤ m) (h1 : m ≤ 1048576) :
    Calls Tryd.prog 40 #[.slice a n cap, .int .i64 m] w fun e w' => e = .returned (.int .i64 (left m n)) ∧ w' = w := by
  unfold maxLen at hn
  by_cases h : m < (n : Int)
  · have e : left m n = -1 := by unfold left; simp [h]
    rw [e]
    have hz : m - (n : Int) < 0 := by omega
    go_enter Tryd.func40, Tryd.ntmps40
    go_wp2
    go_ret
    exact ⟨rfl, rfl⟩
  · have e : left m n = m - n := by unfold left; simp [h]
    rw [e]
    have hz : ¬ m - (n : Int) < 0 := by omega
    go_enter Tryd.func40, Tryd.ntmps40
    go_wp2
    go_ret
    exact ⟨rfl, rfl⟩

theorem szRow (key : Int) (a : Option Addr) (n cap : Nat) (m : Int) (w : World) (hn : n ≤ maxLen) (h0 : 0 ≤ m) (h1 : m ≤ 1048576) :
    Calls Tryd.prog 107 #[.agg #[.int .i64 key, .slice a n cap], .int .i64 m] w fun e w' => e = .returned (.int .i64 (left m n)) ∧ Below w.heap.size w w' := by
  have b0 := (Below.refl w.heap.size w).alloc (Nat.le_refl _) (.cells #[.int .i64 key, .slice a n cap] 129)
  by_cases h : m < (n : Int)
  · have HE : Hid (left m n = -1) := by show _ = _; unfold left; simp [h]
    go_enter Tryd.func107, Tryd.ntmps107
    go_wp2_with fail
    refine (szValueS _ _ _ _ _ hn h0 h1).mono ?_
    rintro e w' ⟨rfl, rfl⟩
    rw [HE.out]
    go_wp2
    go_ret
    exact ⟨Ints.ret_int HE.out.symm, b0⟩
  · have HE : Hid (left m n = m - n) := by show _ = _; unfold left; simp [h]
    have hz : ¬ m - (n : Int) < 0 := by omega
    go_enter Tryd.func107, Tryd.ntmps107
    go_wp2_with fail
    refine (szValueS _ _ _ _ _ hn h0 h1).mono ?_
    rintro e w' ⟨rfl, rfl⟩
    rw [HE.out]
    go_wp2
    go_ret
    exact ⟨Ints.ret_int HE.out.symm, b0⟩

set_option maxHeartbeats 800000 in
theorem szRowS (a : Option Addr) (n cap : Nat) (rs : List RowV) (m : Int) (w : World) (h : IsRows w a n cap rs) (h0 : 0 ≤ m) (h1 : m ≤ 1048576) :
    Calls Tryd.prog 45 #[.slice a n cap, .int .i64 m] w fun e w' => e = .returned (.int .i64 (left m (total rs))) ∧ Below w.heap.size w w' := by
  have hmax := h.max
  have hfit := h.fits
  unfold maxLen at hmax
  have HL : Hid (rs.length = n) := h.len
  have HR : Hid (∀ r ∈ rs, r.n ≤ maxLen) := fun r hr => Nat.le_trans (h.rows r hr).2.fits (h.rows r hr).2.max
  have HCs : Hid (0 < n → ∃ b off, a = some ⟨b, off, none⟩ ∧ b < w.heap.size ∧ ∀ i, i < n → w.cell? ⟨b, off + i * 2, none⟩ = some (.int .i64 (rs.getD i rd).key) ∧ w.cell? ⟨b, off + i * 2 + 1, none⟩ = some (.slice (rs.getD i rd).a (rs.getD i rd).n (rs.getD i rd).c)) := h.cells
  have hnn := sumN_nonneg rs
  have HT : Hid (total rs = (n : Int) + sumN rs) := by show _ = _; unfold total; rw [h.len]
  clear h
  by_cases hb : m < (n : Int)
  · have HE : Hid (left m (total rs) = -1) := by show _ = _; rw [HT.out]; unfold left; rw [if_pos (by omega)]
    have hz : m - (n : Int) < 0 := by omega
    clear hnn
    go_enter Tryd.func45, Tryd.ntmps45
    go_wp2
    go_ret
    exact ⟨Ints.ret_int HE.out.symm, Below.refl _ _⟩
  · have hz : ¬ m - (n : Int) < 0 := by omega
    have hn : n ≤ 1048576 := by omega
    have HNN : Hid _ := hnn
    clear hnn
    go_enter Tryd.func45, Tryd.ntmps45
    go_wp2
    go_loopw [1, 5] (fun l i wr => ∃ k : Nat, k ≤ n ∧ i = .int .i64 k ∧ l = .int .i64 (m - (n : Int) - sumN (rs.take k)) ∧ 0 ≤ m - (n : Int) - sumN (rs.take k) ∧ Below w.heap.size w wr) (fun _ i _ => n - (intOf i).toNat)
    case atStart => exact ⟨0, Nat.zero_le _, rfl, by simp [sumN], by simp [sumN]; omega, Below.refl _ _⟩
    case round =>
      obtain ⟨k, hk, rfl, rfl, hpos, hnx⟩ := hrel
      have HN : Hid (Below w.heap.size w wr) := hnx
      clear hnx
      have hsk := sumN_nonneg (rs.take k)
      by_cases hlt : k < n
      · obtain ⟨b, off, rfl, hbl, hc⟩ := HCs.out (by omega)
        have hkl : k < rs.length := by rw [HL.out]; exact hlt
        have p0 : wr.cell? ⟨b, off + k * 2, none⟩ = some (.int .i64 (rs.getD k rd).key) := by rw [HN.out.cell (p := ⟨b, off + k * 2, none⟩) hbl]; exact (hc k hlt).1
        have p1 : wr.cell? ⟨b, off + k * 2 + 1, none⟩ = some (.slice (rs.getD k rd).a (rs.getD k rd).n (rs.getD k rd).c) := by rw [HN.out.cell (p := ⟨b, off + k * 2 + 1, none⟩) hbl]; exact (hc k hlt).2
        have hs : sumN (rs.take (k + 1)) = sumN (rs.take k) + ((rs.getD k rd).n : Int) := by rw [take_succ_rd hkl, sumN_append]; simp [sumN]
        have hle := sumN_le rs (k + 1)
        have hrn := HR.out _ (getD_mem_rd hkl)
        generalize rs.getD k rd = r at p0 p1 hs hrn
        obtain ⟨key, ra, rn, rc, rvs⟩ := r
        simp only at p0 p1 hs hrn
        generalize hS : sumN (rs.take k) = S at hpos hs hsk
        have HS : Hid (sumN (rs.take k) = S) := hS
        have HS1 : Hid (sumN (rs.take (k + 1)) = S + (rn : Int)) := hs
        have HLE : Hid (sumN (rs.take (k + 1)) ≤ sumN rs) := hle
        have HRN : Hid (rn ≤ maxLen) := hrn
        clear hc hs hle hS hrn
        by_cases hneg : m - (n : Int) - S < (rn : Int)
        · have HE : Hid (left (m - (n : Int) - S) rn = -1) := by show _ = _; unfold left; simp [hneg]
          have HF : Hid (left m (total rs) = -1) := by show _ = _; rw [HT.out]; unfold left; rw [if_pos (by have := HS1.out; have := HLE.out; omega)]
          go_wp2_with fail
          refine (szRow _ _ _ _ _ _ HRN.out (by omega) (by omega)).mono ?_
          rintro e w1 ⟨rfl, hb1⟩
          rw [HE.out]
          have HN1 : Hid (Below w.heap.size w w1) := Frame.next HN.out hb1 HN.out.size
          clear hb1
          go_wp2
          go_ret
          exact ⟨Ints.ret_int HF.out.symm, HN1.out⟩
        · have HE : Hid (left (m - (n : Int) - S) rn = m - (n : Int) - S - (rn : Int)) := by show _ = _; unfold left; simp [hneg]
          have hz2 : ¬ m - (n : Int) - S - (rn : Int) < 0 := by omega
          go_wp2_with fail
          refine (szRow _ _ _ _ _ _ HRN.out (by omega) (by omega)).mono ?_
          rintro e w1 ⟨rfl, hb1⟩
          rw [HE.out]
          have HN1 : Hid (Below w.heap.size w w1) := Frame.next HN.out hb1 HN.out.size
          clear hb1
          go_wp2
          go_roundw
          case rel => exact ⟨k + 1, by omega, by go_num, by rw [HS1.out]; congr 1; omega, by rw [HS1.out]; omega, HN1.out⟩
          case measure => simp [intOf]; omega
      · obtain rfl : k = n := by omega
        have HF : Hid (m - (k : Int) - sumN (rs.take k) = left m (total rs)) := by
          show _ = _
          rw [List.take_of_length_le (by rw [HL.out]; omega)] at hpos ⊢
          rw [HT.out]
          unfold left
          rw [if_neg (by omega)]
          omega
        clear hpos hsk
        go_wp2
        go_ret
        exact ⟨Ints.ret_int HF.out, HN.out⟩

theorem left_ok {m : Int} {rs : List RowV} (h : 0 ≤ left m (total rs)) (hm : m ≤ 1048576) : rs.length ≤ 1048576 ∧ ∀ r ∈ rs, r.n ≤ 1048576 := by
  unfold left at h
  split at h
  · omega
  · have hn := sumN_nonneg rs
    unfold total at *
    refine ⟨by omega, fun r hr => ?_⟩
    have := sumN_mem hr
    omega

set_option maxHeartbeats 800000 in
theorem toRow (key : Int) (a : Option Addr) (n cap : Nat) (vs : List (Bool × Int)) (w : World) (h : IsVals w a n cap vs) (hn : n ≤ 1048576) :
    Calls Tryd.prog 108 #[.agg #[.int .i64 key, .slice a n cap]] w fun e w' => ∃ g, e = .returned (.agg #[.int .i64 key, .slice (some ⟨g, 0, none⟩) n n]) ∧ w.heap.size ≤ g ∧ w'.ownsRow w.heap.size 26 2 (.slice (some ⟨g, 0, none⟩) n n) n (vcells vs) ∧ Below w.heap.size w w' := by
  have HV : Hid (IsVals w a n cap vs) := h
  clear h
  have b3 : Below w.heap.size w (((w.alloc (.cells #[.int .i64 key, .slice a n cap] 129)).alloc (.cells #[.int .i64 0, .slice none 0 0] 47)).alloc (.cells #[.int .i64 key, .slice none 0 0] 47)) := (((Below.refl _ _).alloc (Nat.le_refl _) _).alloc (by simp) _).alloc (by simp; omega) _
  have B3 : Hid _ := b3
  clear b3
  go_enter Tryd.func108, Tryd.ntmps108
  go_wp2_with fail
  refine (toValueS _ _ _ _ _ (HV.out.below B3.out) hn).mono ?_
  rintro e w1 ⟨rfl, ho1, hb1⟩
  have hg : (((w.alloc (.cells #[.int .i64 key, .slice a n cap] 129)).alloc (.cells #[.int .i64 0, .slice none 0 0] 47)).alloc (.cells #[.int .i64 key, .slice none 0 0] 47)).heap.size = w.heap.size + 3 := by simp
  have bc := Frame.bcell hb1
  rw [hg] at bc ho1
  rw [hg]
  have c0 : w1.cell? ⟨w.heap.size + 1, 0, none⟩ = some (.int .i64 0) := by rw [bc.1 _ _ (by omega), (Frame.bcell (Below.alloc (Below.refl _ _) (Nat.le_refl _) _)).1 _ _ (by simp), World.cell?_alloc_at _ _ _ _ (by simp)]; rfl
  have c1 : w1.cell? ⟨w.heap.size + 1, 1, none⟩ = some (.slice none 0 0) := by rw [bc.1 _ _ (by omega), (Frame.bcell (Below.alloc (Below.refl _ _) (Nat.le_refl _) _)).1 _ _ (by simp), World.cell?_alloc_at _ _ _ _ (by simp)]; rfl
  have d0 : w1.cell? ⟨w.heap.size + 1 + 1, 0, none⟩ = some (.int .i64 key) := by rw [bc.1 _ _ (by omega), World.cell?_alloc_at _ _ _ _ (by simp)]; rfl
  have d1 : w1.cell? ⟨w.heap.size + 1 + 1, 1, none⟩ = some (.slice none 0 0) := by rw [bc.1 _ _ (by omega), World.cell?_alloc_at _ _ _ _ (by simp)]; rfl
  have f0 : w1.frozen? ⟨w.heap.size + 1, 0, none⟩ = false := by rw [bc.2.1 _ _ (by omega), (Frame.bcell (Below.alloc (Below.refl _ _) (Nat.le_refl _) _)).2.1 _ _ (by simp)]; exact World.frozen?_alloc_at _ _ _ _ (by simp)
  have f1 : w1.frozen? ⟨w.heap.size + 1, 1, none⟩ = false := by rw [bc.2.1 _ _ (by omega), (Frame.bcell (Below.alloc (Below.refl _ _) (Nat.le_refl _) _)).2.1 _ _ (by simp)]; exact World.frozen?_alloc_at _ _ _ _ (by simp)
  have e1 : w1.frozen? ⟨w.heap.size + 1 + 1, 1, none⟩ = false := by rw [bc.2.1 _ _ (by omega)]; exact World.frozen?_alloc_at _ _ _ _ (by simp)
  have B1 : Hid (Below w.heap.size w w1) := Frame.next B3.out hb1 (by rw [hg]; omega)
  have O1 : Hid _ := ho1
  clear hg bc ho1 hb1
  generalize hgg : w.heap.size + 3 = g at *
  have hge : w.heap.size + 2 < g := by omega
  clear hgg
  go_wp2
  exact bodyPost_ret (v := .agg #[.int .i64 key, .slice (some ⟨g, 0, none⟩) n n]) (by simp [results, Tryd.results108, go_sem, c0, c1]) rfl
    ⟨g, rfl, by omega, own_base (ownsRow_setCell_below (ownsRow_setCell_below (ownsRow_setCell_below O1.out (by show w.heap.size + 1 + 1 < g; omega) _) (by show w.heap.size + 1 < g; omega) _) (by show w.heap.size + 1 < g; omega) _) (by omega), ((B1.out.setCell (by show w.heap.size ≤ w.heap.size + 1 + 1; omega) _).setCell (by show w.heap.size ≤ w.heap.size + 1; omega) _).setCell (by show w.heap.size ≤ w.heap.size + 1; omega) _⟩

theorem Far.symm {a b : Option Addr} (h : Far a b) : Far b a := fun x y hx hy e => h y x hy hx e.symm

theorem set_rcells (xs ys : List RowV) (q r : RowV) : ((rcells (xs ++ q :: ys)).set (xs.length * 2) (.int .i64 r.key)).set (xs.length * 2 + 1) (.slice r.a r.n r.c) = rcells (xs ++ r :: ys) := by
  have hl : (rcells xs).length = xs.length * 2 := rcells_length xs
  rw [show q :: ys = [q] ++ ys from rfl, show r :: ys = [r] ++ ys from rfl, rcells_append, rcells_append, rcells_append, rcells_append]
  rw [List.set_append_right _ _ (by omega), hl, Nat.sub_self, List.set_append_right _ _ (by omega), hl, show xs.length * 2 + 1 - xs.length * 2 = 1 by omega]
  simp [rcells, rcell]

/-- A row is put into its place. -/
theorem OwnRows.put {w : World} {base g0 n cap : Nat} {xs ys : List RowV} {q r : RowV} (h : OwnRows w base (some ⟨g0, 0, none⟩) n cap (xs ++ q :: ys)) (hr : w.ownsRow base 26 2 (.slice r.a r.n r.c) r.n (vcells r.vs))
    (hw : (Lit.int .i64 r.key).wf = true ∧ ∀ v ∈ r.vs, (Lit.int .i64 v.2).wf = true) (hfx : ∀ s ∈ xs, Far s.a r.a) (hfy : ∀ s ∈ ys, Far r.a s.a) (hf0 : Far (some ⟨g0, 0, none⟩) r.a) :
    OwnRows ((w.setCell ⟨g0, xs.length * 2, none⟩ (.int .i64 r.key)).setCell ⟨g0, xs.length * 2 + 1, none⟩ (.slice r.a r.n r.c)) base (some ⟨g0, 0, none⟩) n cap (xs ++ r :: ys) := by
  have ot : OnlyAt (some ⟨g0, 0, none⟩) w ((w.setCell ⟨g0, xs.length * 2, none⟩ (.int .i64 r.key)).setCell ⟨g0, xs.length * 2 + 1, none⟩ (.slice r.a r.n r.c)) :=
    ((OnlyAt.refl _ w).setCell (fun x hx => by cases hx; rfl) (by simp) _).setCell (fun x hx => by cases hx; rfl) (by simp) _
  have hmem : ∀ s, s ∈ xs ++ r :: ys → s = r ∨ s ∈ xs ++ q :: ys := fun s hs => by
    simp only [List.mem_append, List.mem_cons] at hs ⊢
    rcases hs with h | h | h
    · exact .inr (.inl h)
    · exact .inl h
    · exact .inr (.inr (.inr h))
  refine ⟨?_, fun s hs => ?_, fun s hs => ?_, ?_, fun s hs => ?_⟩
  · have := ((h.outer.stored (xs.length * 2) (.int .i64 r.key)).1.stored (xs.length * 2 + 1) (.slice r.a r.n r.c)).1
    rwa [set_rcells] at this
  · rcases hmem s hs with rfl | hs'
    · exact own_touch hr ot (fun x y hx hy => hf0.symm x y hx hy)
    · exact own_touch (h.inner s hs') ot (fun x y hx hy => (h.apart0 s hs').symm x y hx hy)
  · rcases hmem s hs with rfl | hs'
    · exact hw
    · exact h.wf s hs'
  · have hp := h.apart
    rw [List.pairwise_append] at hp ⊢
    obtain ⟨p1, p2, p3⟩ := hp
    rw [List.pairwise_cons] at p2 ⊢
    refine ⟨p1, ⟨hfy, p2.2⟩, fun s hs t ht => ?_⟩
    rcases List.mem_cons.1 ht with rfl | ht
    · exact hfx s hs
    · exact p3 s hs t (List.mem_cons_of_mem _ ht)
  · rcases hmem s hs with rfl | hs'
    · exact hf0
    · exact h.apart0 s hs'

theorem OwnRows.lt {w : World} {base : Nat} {a : Option Addr} {n cap : Nat} {rs : List RowV} (h : OwnRows w base a n cap rs) : ∀ r ∈ rs, ∀ x, r.a = some x → base ≤ x.block ∧ x.block < w.heap.size := fun r hr x hx => own_block (h.inner r hr) x hx
theorem OwnRows.vlen {w : World} {base : Nat} {a : Option Addr} {n cap : Nat} {rs : List RowV} (h : OwnRows w base a n cap rs) : ∀ r ∈ rs, r.vs.length = r.n := fun r hr => by
  have := (h.inner r hr).1
  rw [vcells_length] at this
  omega
theorem OwnRows.len {w : World} {base : Nat} {a : Option Addr} {n cap : Nat} {rs : List RowV} (h : OwnRows w base a n cap rs) : rs.length = n := by
  have := h.outer.1
  rw [rcells_length] at this
  omega

theorem made_rows (n : Nat) : (madeCells #[Value.int .i64 0, Value.slice none 0 0] (n * 2)).toList = rcells (List.replicate n rd) := by
  apply List.ext_getElem?
  intro j
  by_cases hj : j < n * 2
  · have h2 := rcells_get (List.replicate n rd) (j / 2) (by simp; omega)
    have e : (List.replicate n rd).getD (j / 2) rd = rd := by simp [List.getD, show j / 2 < n by omega]
    rw [e] at h2
    rcases Nat.mod_two_eq_zero_or_one j with h | h
    · rw [show (rcells (List.replicate n rd))[j]? = some (.int .i64 rd.key) by rw [← h2.1]; congr 1; omega]
      simp [madeCells, rd, hj, h]
    · rw [show (rcells (List.replicate n rd))[j]? = some (.slice rd.a rd.n rd.c) by rw [← h2.2]; congr 1; omega]
      simp [madeCells, rd, hj, h]
  · rw [List.getElem?_eq_none (by simp [madeCells]; omega), List.getElem?_eq_none (by rw [rcells_length]; simp; omega)]

theorem own_made {w : World} {base : Nat} {g n : Nat} (h : w.ownsRow base 47 2 (.slice (some ⟨g, 0, none⟩) n n) n (madeCells #[Value.int .i64 0, Value.slice none 0 0] (n * 2)).toList) : OwnRows w base (some ⟨g, 0, none⟩) n n (List.replicate n rd) := by
  have hm : ∀ r, r ∈ List.replicate n rd → r = rd := fun r hr => (List.mem_replicate.1 hr).2
  refine ⟨by rw [← made_rows]; exact h, fun r hr => ?_, fun r hr => ?_, ?_, fun r hr => ?_⟩
  · rw [hm r hr]; exact World.ownsRow_nil _ _ _ _
  · rw [hm r hr]; exact ⟨by decide, by simp [rd]⟩
  · exact List.pairwise_replicate.2 (.inr (fun x y hx _ => by cases hx))
  · rw [hm r hr]; exact fun x y _ hy => by cases hy

set_option maxHeartbeats 800000 in
theorem toRowS (a : Option Addr) (n cap : Nat) (rs : List RowV) (w : World) (h : IsRows w a n cap rs) (hn : n ≤ 1048576) (hr : ∀ r ∈ rs, r.n ≤ 1048576) :
    Calls Tryd.prog 46 #[.slice a n cap] w fun e w' => ∃ rs', e = .returned (.slice (some ⟨w.heap.size, 0, none⟩) n n) ∧ OwnRows w' w.heap.size (some ⟨w.heap.size, 0, none⟩) n n rs' ∧ plain rs' = plain rs ∧ Below w.heap.size w w' := by
  obtain ⟨i0, hi, hz0, hz1, hz2⟩ := info_parts infoR
  have HI : Hid (IsRows w a n cap rs) := h
  have HRN : Hid (∀ r ∈ rs, r.n ≤ 1048576) := hr
  have HL : Hid (rs.length = n) := h.len
  clear h hr
  go_enter Tryd.func46, Tryd.ntmps46
  go_wp2_with (at_make; refine wpList_make_full _ rfl _ _ 40 rfl w.heap.size 47 i0 (.agg #[.int .i64 0, .slice none 0 0]) 2 Tryd.underlying40 hi hz0 hz1 _ _ _ _ n rfl rfl rfl rfl ?b2 ?b3 (Nat.le_refl _) ?_)
  case b2 => rw [hz2]; omega
  case b3 => unfold maxLen; omega
  intro w0 hown0 hgrow0
  go_wp2_with fail
  go_loopw [4] (fun i wr => ∃ (k : Nat) (xs : List RowV), k ≤ n ∧ i = .int .i64 k ∧ xs.length = k ∧ plain xs = plain (rs.take k) ∧ OwnRows wr w.heap.size (some ⟨w.heap.size, 0, none⟩) n n (xs ++ List.replicate (n - k) rd) ∧ Below w.heap.size w wr)
    (fun i _ => n - (intOf i).toNat)
  case atStart => exact ⟨0, [], Nat.zero_le _, rfl, rfl, rfl, own_made hown0, (Below.refl _ _).grown hgrow0 (Nat.le_refl _) (fun k h => by cases h)⟩
  case round =>
    obtain ⟨k, xs, hk, rfl, hxl, hpl, hown, hnx⟩ := hrel
    have HN : Hid (Below w.heap.size w wr) := hnx
    have HX : Hid (xs.length = k) := hxl
    have HP : Hid (plain xs = plain (rs.take k)) := hpl
    clear hnx hxl hpl
    by_cases hlt : k < n
    · obtain ⟨b, off, rfl, hbl, hc⟩ := HI.out.cells (by omega)
      have hkl : k < rs.length := by rw [HL.out]; exact hlt
      have p0 : wr.cell? ⟨b, off + k * 2, none⟩ = some (.int .i64 (rs.getD k rd).key) := by rw [HN.out.cell (p := ⟨b, off + k * 2, none⟩) hbl]; exact (hc k hlt).1
      have p1 : wr.cell? ⟨b, off + k * 2 + 1, none⟩ = some (.slice (rs.getD k rd).a (rs.getD k rd).n (rs.getD k rd).c) := by rw [HN.out.cell (p := ⟨b, off + k * 2 + 1, none⟩) hbl]; exact (hc k hlt).2
      have hrow := HI.out.rows _ (getD_mem_rd hkl)
      have hrn := HRN.out _ (getD_mem_rd hkl)
      have hts := take_succ_rd hkl
      generalize rs.getD k rd = r at p0 p1 hrow hrn hts
      obtain ⟨key, ra, rn, rc, rvs⟩ := r
      simp only at p0 p1 hrow hrn
      have HROW : Hid _ := hrow
      have HTS : Hid _ := hts
      have hsplit : xs ++ List.replicate (n - k) rd = xs ++ rd :: List.replicate (n - (k + 1)) rd := by
        rw [show n - k = (n - (k + 1)) + 1 by omega, List.replicate_succ]
      rw [hsplit] at hown
      have HO : Hid _ := hown
      clear hc hrow hts hown hsplit hkl
      go_wp2_with fail
      refine (toRow _ _ _ _ _ _ (HROW.out.2.below HN.out) hrn).mono ?_
      rintro e w1 ⟨g, rfl, hg, ho1, hb1⟩
      have own1 := OwnRows.below HO.out hb1
      have hs1 := hb1.size
      have hput := OwnRows.put (r := ⟨key, some ⟨g, 0, none⟩, rn, rn, rvs⟩) own1 (own_base ho1 HN.out.size) ⟨HROW.out.1, HROW.out.2.wf⟩
        (fun s hs x y hx hy => by cases hy; have := (OwnRows.lt HO.out s (List.mem_append_left _ hs) x hx).2; show x.block ≠ g; omega)
        (fun s hs x y hx hy => by rw [(List.mem_replicate.1 hs).2] at hy; cases hy)
        (fun x y hx hy => by cases hx; cases hy; have := (own_block HO.out.outer _ rfl).2; show w.heap.size ≠ g; simp at this; omega)
      rw [HX.out] at hput
      have HPUT : Hid _ := hput
      have HN1 : Hid (Below w.heap.size w w1) := Frame.next HN.out hb1 HN.out.size
      have f0 := own1.outer.frozenAt (k * 2)
      have f1 := own1.outer.frozenAt (k * 2 + 1)
      have hl2 : (rcells (xs ++ rd :: List.replicate (n - (k + 1)) rd)).length = n * 2 := by simpa using own1.outer.1
      obtain ⟨o0, ho0⟩ : ∃ o, w1.cell? ⟨w.heap.size, k * 2, none⟩ = some o := by rw [own1.outer.cellAt _ (by omega)]; exact ⟨_, List.getElem?_eq_getElem (by omega)⟩
      obtain ⟨o1, ho1'⟩ : ∃ o, w1.cell? ⟨w.heap.size, k * 2 + 1, none⟩ = some o := by rw [own1.outer.cellAt _ (by omega)]; exact ⟨_, List.getElem?_eq_getElem (by omega)⟩
      clear own1 hput ho1 hb1 hl2
      go_wp2
      go_roundw
      case rel =>
        refine ⟨k + 1, xs ++ [⟨key, some ⟨g, 0, none⟩, rn, rn, rvs⟩], by omega, by go_num, by rw [List.length_append, HX.out]; rfl, ?_, ?_, (HN1.out.setCell (Nat.le_refl _) _).setCell (Nat.le_refl _) _⟩
        · rw [HTS.out]
          simp only [plain, List.map_append] at *
          rw [show List.map (fun r : RowV => (r.key, r.vs)) xs = List.map (fun r => (r.key, r.vs)) (rs.take k) from HP.out]
          rfl
        · rw [List.append_assoc]
          exact HPUT.out
      case measure => simp [intOf]; omega
    · obtain rfl : k = n := by omega
      rw [Nat.sub_self, List.replicate_zero, List.append_nil] at hown
      have HO : Hid _ := hown
      have HPF : Hid (plain xs = plain rs) := by
        have := HP.out
        rwa [List.take_of_length_le (by rw [HL.out]; omega)] at this
      clear hown
      go_wp2
      go_ret
      exact ⟨xs, rfl, HO.out, HPF.out, HN.out⟩

def eqR (x y : Int × List (Bool × Int)) : Bool := decide (x = y)

set_option maxHeartbeats 800000 in
theorem eqRow (k1 k2 : Int) (a b : Option Addr) (n m ca cb : Nat) (xs ys : List (Bool × Int)) (w : World) (ha : IsVals w a n ca xs) (hb : IsVals w b m cb ys) (hn : n ≤ 1048576) (hm : m ≤ 1048576) :
    Calls Tryd.prog 109 #[.agg #[.int .i64 k1, .slice a n ca], .agg #[.int .i64 k2, .slice b m cb]] w fun e w' => e = .returned (.bool (eqR (k1, xs) (k2, ys))) ∧ Below w.heap.size w w' := by
  have b2 : Below w.heap.size w ((w.alloc (.cells #[.int .i64 k1, .slice a n ca] 47)).alloc (.cells #[.int .i64 k2, .slice b m cb] 47)) := ((Below.refl _ _).alloc (Nat.le_refl _) _).alloc (by simp) _
  by_cases h1 : k1 = k2
  · subst h1
    have HE : Hid (eqR (k1, xs) (k1, ys) = decide (xs = ys)) := by show _ = _; unfold eqR; simp
    have HA : Hid _ := ha.below b2
    have HB : Hid _ := hb.below b2
    have B2 : Hid _ := b2
    clear ha hb b2
    cases hd : decide (xs = ys)
    all_goals
      have HD : Hid (decide (xs = ys) = _) := hd
      clear hd
      go_enter Tryd.func109, Tryd.ntmps109
      go_wp2_with fail
      refine (eqValueS _ _ _ _ _ _ _ _ _ HA.out HB.out hn hm).mono ?_
      rintro e w1 ⟨rfl, hb1⟩
      rw [HD.out]
      have B1 : Hid (Below w.heap.size w w1) := Frame.next B2.out hb1 (by simp; omega)
      clear hb1
      go_wp2
      go_ret
      exact ⟨Ints.ret_bool (by rw [HE.out, HD.out]), B1.out⟩
  · have HE : Hid (eqR (k1, xs) (k2, ys) = false) := by show _ = _; unfold eqR; simp [h1]
    have hb' : (k1 != k2) = true := by simp [h1]
    clear ha hb h1
    go_enter Tryd.func109, Tryd.ntmps109
    go_wp2
    go_ret
    exact ⟨Ints.ret_bool HE.out.symm, b2⟩

theorem plain_take (rs : List RowV) (k : Nat) : plain (rs.take k) = (plain rs).take k := by simp [plain, List.map_take]
theorem plain_get (rs : List RowV) (k : Nat) (h : k < rs.length) : (plain rs).getD k (0, []) = ((rs.getD k rd).key, (rs.getD k rd).vs) := by simp [plain, List.getD, h]

theorem eq_take_rd (xs ys : List RowV) (k : Nat) (hx : k < xs.length) (hy : k < ys.length) (h : plain (xs.take k) = plain (ys.take k)) (e : ((xs.getD k rd).key, (xs.getD k rd).vs) = ((ys.getD k rd).key, (ys.getD k rd).vs)) : plain (xs.take (k + 1)) = plain (ys.take (k + 1)) := by
  rw [take_succ_rd hx, take_succ_rd hy]
  simp only [plain, List.map_append, List.map_cons, List.map_nil] at *
  rw [h, e]

set_option maxHeartbeats 1600000 in
theorem eqRowS (a b : Option Addr) (n m ca cb : Nat) (xs ys : List RowV) (w : World) (ha : IsRows w a n ca xs) (hb : IsRows w b m cb ys) (hn : n ≤ 1048576) (hm : m ≤ 1048576) (hx : ∀ r ∈ xs, r.n ≤ 1048576) (hy : ∀ r ∈ ys, r.n ≤ 1048576) :
    Calls Tryd.prog 47 #[.slice a n ca, .slice b m cb] w fun e w' => e = .returned (.bool (decide (plain xs = plain ys))) ∧ Below w.heap.size w w' := by
  have la := ha.len
  have lb := hb.len
  by_cases hl : n = m
  · subst hl
    have HA : Hid (IsRows w a n ca xs) := ha
    have HB : Hid (IsRows w b n cb ys) := hb
    have LA : Hid (xs.length = n) := la
    have LB : Hid (ys.length = n) := lb
    have NX : Hid (∀ r ∈ xs, r.n ≤ 1048576) := hx
    have NY : Hid (∀ r ∈ ys, r.n ≤ 1048576) := hy
    clear la lb ha hb hx hy
    go_enter Tryd.func47, Tryd.ntmps47
    go_wp2
    go_loopw [5] (fun i wr => ∃ k : Nat, k ≤ n ∧ i = .int .i64 k ∧ plain (xs.take k) = plain (ys.take k) ∧ Below w.heap.size w wr) (fun i _ => n - (intOf i).toNat)
    case atStart => exact ⟨0, Nat.zero_le _, rfl, rfl, Below.refl _ _⟩
    case round =>
      obtain ⟨k, hk, rfl, heq, hnx⟩ := hrel
      have Heq : Hid (plain (xs.take k) = plain (ys.take k)) := heq
      have Hn : Hid (Below w.heap.size w wr) := hnx
      clear heq hnx
      by_cases hlt : k < n
      · obtain ⟨b1, o1, rfl, hb1, hc1⟩ := HA.out.cells (by omega)
        obtain ⟨b2, o2, rfl, hb2, hc2⟩ := HB.out.cells (by omega)
        have kx : k < xs.length := by rw [LA.out]; exact hlt
        have ky : k < ys.length := by rw [LB.out]; exact hlt
        have p0 : wr.cell? ⟨b1, o1 + k * 2, none⟩ = some (.int .i64 (xs.getD k rd).key) := by rw [Hn.out.cell (p := ⟨b1, o1 + k * 2, none⟩) hb1]; exact (hc1 k hlt).1
        have p1 : wr.cell? ⟨b1, o1 + k * 2 + 1, none⟩ = some (.slice (xs.getD k rd).a (xs.getD k rd).n (xs.getD k rd).c) := by rw [Hn.out.cell (p := ⟨b1, o1 + k * 2 + 1, none⟩) hb1]; exact (hc1 k hlt).2
        have q0 : wr.cell? ⟨b2, o2 + k * 2, none⟩ = some (.int .i64 (ys.getD k rd).key) := by rw [Hn.out.cell (p := ⟨b2, o2 + k * 2, none⟩) hb2]; exact (hc2 k hlt).1
        have q1 : wr.cell? ⟨b2, o2 + k * 2 + 1, none⟩ = some (.slice (ys.getD k rd).a (ys.getD k rd).n (ys.getD k rd).c) := by rw [Hn.out.cell (p := ⟨b2, o2 + k * 2 + 1, none⟩) hb2]; exact (hc2 k hlt).2
        have vx := (HA.out.rows _ (getD_mem_rd kx)).2
        have vy := (HB.out.rows _ (getD_mem_rd ky)).2
        have nx := NX.out _ (getD_mem_rd kx)
        have ny := NY.out _ (getD_mem_rd ky)
        have hkI : (k : Int) < (n : Int) := by omega
        have hk0 : (0 : Int) ≤ (k : Int) := by omega
        have HXY : Hid ((((xs.getD k rd).key, (xs.getD k rd).vs) = ((ys.getD k rd).key, (ys.getD k rd).vs) → plain (xs.take (k + 1)) = plain (ys.take (k + 1))) ∧ (((xs.getD k rd).key, (xs.getD k rd).vs) ≠ ((ys.getD k rd).key, (ys.getD k rd).vs) → plain xs ≠ plain ys)) :=
          ⟨fun e => eq_take_rd xs ys k kx ky Heq.out e, fun e h => e (by rw [← plain_get xs k kx, ← plain_get ys k ky, h])⟩
        generalize xs.getD k rd = x at p0 p1 vx nx HXY
        generalize ys.getD k rd = y at q0 q1 vy ny HXY
        obtain ⟨xk, xa, xn, xc, xv⟩ := x
        obtain ⟨yk, ya, yn, yc, yv⟩ := y
        simp only at p0 p1 q0 q1 vx vy nx ny
        have VX : Hid (IsVals w xa xn xc xv) := vx
        have VY : Hid (IsVals w ya yn yc yv) := vy
        have HF : Hid (((xk, xv) = (yk, yv) → plain (xs.take (k + 1)) = plain (ys.take (k + 1))) ∧ ((xk, xv) ≠ (yk, yv) → plain xs ≠ plain ys)) := HXY.out
        clear hc1 hc2 vx vy HXY kx ky
        cases hE : eqR (xk, xv) (yk, yv)
        · have HE : Hid (eqR (xk, xv) (yk, yv) = false) := hE
          have F : Hid (decide (plain xs = plain ys) = false) := decide_eq_false (HF.out.2 (of_decide_eq_false hE))
          clear hE HF
          go_wp2_with fail
          go_region_held3 (fun w' => Below wr.heap.size wr w' ∧ w'.cell? ⟨b1, o1 + k * 2, none⟩ = some (.int .i64 xk) ∧ w'.cell? ⟨b1, o1 + k * 2 + 1, none⟩ = some (.slice xa xn xc) ∧ w'.cell? ⟨b2, o2 + k * 2, none⟩ = some (.int .i64 yk) ∧ w'.cell? ⟨b2, o2 + k * 2 + 1, none⟩ = some (.slice ya yn yc))
            (first | exact ⟨(Below.refl _ _).drew, p0, p1, q0, q1⟩ | exact (fun kb => ⟨kb, Frame.held_cell kb p0, Frame.held_cell kb p1, Frame.held_cell kb q0, Frame.held_cell kb q1⟩) (Frame.held_next ‹Below wr.heap.size wr _ ∧ _› hb))
            (first | (go_at_call 109; refine (eqRow _ _ _ _ _ _ _ _ xv yv _ ?_ ?_ nx ny).mono ?_; exact VX.out.below (Frame.next Hn.out (And.left ‹Below wr.heap.size wr _ ∧ _›) Hn.out.size); exact VY.out.below (Frame.next Hn.out (And.left ‹Below wr.heap.size wr _ ∧ _›) Hn.out.size); rintro e w1 ⟨rfl, hb⟩; rw [HE.out]))
          have Hn1 : Hid (Below w.heap.size w w1) := Frame.next Hn.out (And.left ‹Below wr.heap.size wr _ ∧ _›) Hn.out.size
          clear p0 p1 q0 q1 hb
          go_wp2
          go_ret
          exact ⟨Ints.ret_bool F.out.symm, Hn1.out⟩
        · have HE : Hid (eqR (xk, xv) (yk, yv) = true) := hE
          have F : Hid (plain (xs.take (k + 1)) = plain (ys.take (k + 1))) := HF.out.1 (of_decide_eq_true hE)
          clear hE HF
          go_wp2_with fail
          go_region_held3 (fun w' => Below wr.heap.size wr w' ∧ w'.cell? ⟨b1, o1 + k * 2, none⟩ = some (.int .i64 xk) ∧ w'.cell? ⟨b1, o1 + k * 2 + 1, none⟩ = some (.slice xa xn xc) ∧ w'.cell? ⟨b2, o2 + k * 2, none⟩ = some (.int .i64 yk) ∧ w'.cell? ⟨b2, o2 + k * 2 + 1, none⟩ = some (.slice ya yn yc))
            (first | exact ⟨(Below.refl _ _).drew, p0, p1, q0, q1⟩ | exact (fun kb => ⟨kb, Frame.held_cell kb p0, Frame.held_cell kb p1, Frame.held_cell kb q0, Frame.held_cell kb q1⟩) (Frame.held_next ‹Below wr.heap.size wr _ ∧ _› hb))
            (first | (go_at_call 109; refine (eqRow _ _ _ _ _ _ _ _ xv yv _ ?_ ?_ nx ny).mono ?_; exact VX.out.below (Frame.next Hn.out (And.left ‹Below wr.heap.size wr _ ∧ _›) Hn.out.size); exact VY.out.below (Frame.next Hn.out (And.left ‹Below wr.heap.size wr _ ∧ _›) Hn.out.size); rintro e w1 ⟨rfl, hb⟩; rw [HE.out]))
          have Hn1 : Hid (Below w.heap.size w w1) := Frame.next Hn.out (And.left ‹Below wr.heap.size wr _ ∧ _›) Hn.out.size
          clear p0 p1 q0 q1 hb
          go_wp2
          go_roundw
          case rel => exact ⟨k + 1, by omega, by go_num, F.out, Hn1.out⟩
          case measure => simp [intOf]; omega
      · have F : Hid (decide (plain xs = plain ys) = true) := decide_eq_true (by
          have h := Heq.out
          rwa [List.take_of_length_le (by rw [LA.out]; omega), List.take_of_length_le (by rw [LB.out]; omega)] at h)
        go_wp2
        go_ret
        exact ⟨Ints.ret_bool F.out.symm, Hn.out⟩
  · have e : decide (plain xs = plain ys) = false := decide_eq_false (fun h => hl (by rw [← la, ← lb]; have := congrArg List.length h; simpa [plain] using this))
    rw [e]
    have hne : ((n : Int) != (m : Int)) = true := by rw [bne_iff_ne]; omega
    clear e ha hb la lb hl
    go_enter Tryd.func47, Tryd.ntmps47
    go_wp2
    go_ret
    exact ⟨rfl, Below.refl _ _⟩

/-! Marks. -/
def rmarks (k : Int) : List RowV → List RowV
  | [] => []
  | r :: rs => ⟨k, r.a, r.n, r.c, vmarks (k + 1) r.n⟩ :: rmarks (k + 1 + 2 * (r.n : Int)) rs
def rnext (k : Int) (rs : List RowV) : Int := k + (rs.length : Int) + 2 * sumN rs
theorem rmarks_length (k : Int) (rs : List RowV) : (rmarks k rs).length = rs.length := by
  induction rs generalizing k with
  | nil => rfl
  | cons r rs ih => simp [rmarks, ih]
theorem rnext_cons (k : Int) (r : RowV) (rs : List RowV) : rnext (k + 1 + 2 * (r.n : Int)) rs = rnext k (r :: rs) := by
  simp only [rnext, sumN, List.length_cons, List.map_cons, List.sum_cons]
  omega
theorem rmarks_append (k : Int) (xs ys : List RowV) : rmarks k (xs ++ ys) = rmarks k xs ++ rmarks (rnext k xs) ys := by
  induction xs generalizing k with
  | nil => simp [rmarks, rnext, sumN]
  | cons r rs ih => simp only [List.cons_append, rmarks, ih, rnext_cons]
theorem rnext_append (k : Int) (xs ys : List RowV) : rnext k (xs ++ ys) = rnext (rnext k xs) ys := by
  simp only [rnext, sumN_append, List.length_append]
  omega

/-- Only the blocks of a slice of rows were turned. -/
structure OnlyTree (a : Option Addr) (rs : List RowV) (w w' : World) : Prop where
  os : w'.os = w.os
  tape : w'.tape = w.tape
  output : w'.output = w.output
  size : w.heap.size ≤ w'.heap.size
  block : ∀ k, k < w.heap.size → (∀ x, a = some x → k ≠ x.block) → (∀ r ∈ rs, ∀ x, r.a = some x → k ≠ x.block) → w'.heap[k]? = w.heap[k]?

theorem OnlyTree.refl (a : Option Addr) (rs : List RowV) (w : World) : OnlyTree a rs w w := ⟨rfl, rfl, rfl, Nat.le_refl _, fun _ _ _ _ => rfl⟩
theorem OnlyTree.at_outer {a : Option Addr} {rs : List RowV} {w w1 w2 : World} (h : OnlyTree a rs w w1) (t : OnlyAt a w1 w2) : OnlyTree a rs w w2 :=
  ⟨t.os.trans h.os, t.tape.trans h.tape, t.output.trans h.output, Nat.le_trans h.size t.size, fun k hk h1 h2 => (t.block k (Nat.lt_of_lt_of_le hk h.size) h1).trans (h.block k hk h1 h2)⟩
theorem OnlyTree.at_inner {a : Option Addr} {rs : List RowV} {w w1 w2 : World} {r : RowV} (h : OnlyTree a rs w w1) (t : OnlyAt r.a w1 w2) (hr : r ∈ rs) : OnlyTree a rs w w2 :=
  ⟨t.os.trans h.os, t.tape.trans h.tape, t.output.trans h.output, Nat.le_trans h.size t.size, fun k hk h1 h2 => (t.block k (Nat.lt_of_lt_of_le hk h.size) (h2 r hr)).trans (h.block k hk h1 h2)⟩

/-- Lists and trees that lie elsewhere stay. -/
def Away (lo hi : Nat) (a : Option Addr) : Prop := ∀ x, a = some x → x.block < lo ∨ hi ≤ x.block
theorem OnlyTree.below {B : Nat} {a : Option Addr} {rs : List RowV} {w0 w w' : World} (h : Below B w0 w) (t : OnlyTree a rs w w') (ha : ∀ x, a = some x → B ≤ x.block) (hr : ∀ r ∈ rs, ∀ x, r.a = some x → B ≤ x.block) (hs : B ≤ w.heap.size) : Below B w0 w' :=
  h.trans ⟨t.os, t.tape, t.output, t.size, fun k hk => t.block k (by omega) (fun x hx => by have := ha x hx; omega) (fun r hm x hx => by have := hr r hm x hx; omega)⟩
theorem own_tree {w w' : World} {base : Nat} {e : TypeId} {size : Nat} {a : Option Addr} {rs : List RowV} {b : Option Addr} {n cap : Nat} {xs : List Value} (h : w.ownsRow base e size (.slice b n cap) n xs) (t : OnlyTree a rs w w') (h1 : Far b a) (h2 : ∀ r ∈ rs, Far b r.a) : w'.ownsRow base e size (.slice b n cap) n xs := by
  have hlt := own_block h
  obtain ⟨p1, p2⟩ := h
  refine ⟨p1, ?_⟩
  rcases p2 with p2 | ⟨g, cap', cur, hv, hg, hh, r⟩
  · exact .inl p2
  · refine .inr ⟨g, cap', cur, hv, hg, ?_, r⟩
    simp only [Value.slice.injEq] at hv
    rw [t.block g (hlt _ hv.1).2 (fun y hy => h1 _ y hv.1 hy) (fun r hr y hy => h2 r hr _ y hv.1 hy)]
    exact hh
theorem OwnRows.tree {w w' : World} {base : Nat} {a b : Option Addr} {rs qs : List RowV} {n cap : Nat} (h : OwnRows w base b n cap qs) (t : OnlyTree a rs w w') (h1 : Far b a) (h2 : ∀ r ∈ rs, Far b r.a) (h3 : ∀ q ∈ qs, Far q.a a) (h4 : ∀ q ∈ qs, ∀ r ∈ rs, Far q.a r.a) : OwnRows w' base b n cap qs :=
  ⟨own_tree h.outer t h1 h2, fun q hq => own_tree (h.inner q hq) t (h3 q hq) (h4 q hq), h.wf, h.apart, h.apart0⟩

theorem set_key (xs ys : List RowV) (q : RowV) (k : Int) : (rcells (xs ++ q :: ys)).set (xs.length * 2) (.int .i64 k) = rcells (xs ++ ⟨k, q.a, q.n, q.c, q.vs⟩ :: ys) := by
  have hl : (rcells xs).length = xs.length * 2 := rcells_length xs
  rw [show q :: ys = [q] ++ ys from rfl, show (⟨k, q.a, q.n, q.c, q.vs⟩ : RowV) :: ys = [⟨k, q.a, q.n, q.c, q.vs⟩] ++ ys from rfl, rcells_append, rcells_append, rcells_append, rcells_append]
  rw [List.set_append_right _ _ (by omega), hl, Nat.sub_self]
  simp [rcells, rcell]

theorem swap_mem {α : Type} {xs ys : List α} {q r s : α} (h : s ∈ xs ++ r :: ys) : s = r ∨ s ∈ xs ++ q :: ys := by
  simp only [List.mem_append, List.mem_cons] at h ⊢
  rcases h with h | h | h
  · exact .inr (.inl h)
  · exact .inl h
  · exact .inr (.inr (.inr h))
theorem swap_pair {R : RowV → RowV → Prop} {xs ys : List RowV} {q r : RowV} (h : (xs ++ q :: ys).Pairwise R) (h1 : ∀ s, R s q → R s r) (h2 : ∀ s, R q s → R r s) : (xs ++ r :: ys).Pairwise R := by
  rw [List.pairwise_append] at h ⊢
  obtain ⟨p1, p2, p3⟩ := h
  rw [List.pairwise_cons] at p2 ⊢
  refine ⟨p1, ⟨fun s hs => h2 s (p2.1 s hs), p2.2⟩, fun s hs t ht => ?_⟩
  rcases List.mem_cons.1 ht with rfl | ht
  · exact h1 s (p3 s hs q (List.mem_cons_self ..))
  · exact p3 s hs t (List.mem_cons_of_mem _ ht)

theorem OwnRows.setKey {w : World} {base g0 n cap : Nat} {xs ys : List RowV} {q : RowV} {k : Int} (h : OwnRows w base (some ⟨g0, 0, none⟩) n cap (xs ++ q :: ys)) (hk : (Lit.int .i64 k).wf = true) :
    OwnRows (w.setCell ⟨g0, xs.length * 2, none⟩ (.int .i64 k)) base (some ⟨g0, 0, none⟩) n cap (xs ++ ⟨k, q.a, q.n, q.c, q.vs⟩ :: ys) := by
  have ot : OnlyAt (some ⟨g0, 0, none⟩) w (w.setCell ⟨g0, xs.length * 2, none⟩ (.int .i64 k)) := (OnlyAt.refl _ w).setCell (fun x hx => by cases hx; rfl) (by simp) _
  have hq : q ∈ xs ++ q :: ys := by simp
  refine ⟨?_, fun s hs => ?_, fun s hs => ?_, swap_pair h.apart (fun s hs => hs) (fun s hs => hs), fun s hs => ?_⟩
  · have := (h.outer.stored (xs.length * 2) (.int .i64 k)).1
    rwa [set_key] at this
  · rcases swap_mem (q := q) hs with rfl | hs'
    · exact own_touch (h.inner q hq) ot (fun x y hx hy => (h.apart0 q hq).symm x y hx hy)
    · exact own_touch (h.inner s hs') ot (fun x y hx hy => (h.apart0 s hs').symm x y hx hy)
  · rcases swap_mem (q := q) hs with rfl | hs'
    · exact ⟨hk, (h.wf q hq).2⟩
    · exact h.wf s hs'
  · rcases swap_mem (q := q) hs with rfl | hs'
    · exact h.apart0 q hq
    · exact h.apart0 s hs'

theorem rcells_vs (xs ys : List RowV) (q : RowV) (vs : List (Bool × Int)) : rcells (xs ++ ⟨q.key, q.a, q.n, q.c, vs⟩ :: ys) = rcells (xs ++ q :: ys) := by simp [rcells, rcell]

theorem OwnRows.setVals {w w' : World} {base : Nat} {a : Option Addr} {n cap : Nat} {xs ys : List RowV} {q : RowV} {vs : List (Bool × Int)} (h : OwnRows w base a n cap (xs ++ q :: ys)) (ot : OnlyAt q.a w w')
    (ho : w'.ownsRow base 26 2 (.slice q.a q.n q.c) q.n (vcells vs)) (hv : ∀ v ∈ vs, (Lit.int .i64 v.2).wf = true) : OwnRows w' base a n cap (xs ++ ⟨q.key, q.a, q.n, q.c, vs⟩ :: ys) := by
  have hq : q ∈ xs ++ q :: ys := by simp
  have hp := h.apart
  rw [List.pairwise_append] at hp
  obtain ⟨p1, p2, p3⟩ := hp
  rw [List.pairwise_cons] at p2
  refine ⟨?_, fun s hs => ?_, fun s hs => ?_, swap_pair h.apart (fun s hs => hs) (fun s hs => hs), fun s hs => ?_⟩
  · rw [rcells_vs]
    exact own_touch h.outer ot (fun x y hx hy => h.apart0 q hq x y hx hy)
  · simp only [List.mem_append, List.mem_cons] at hs
    rcases hs with hs | rfl | hs
    · exact own_touch (h.inner s (List.mem_append_left _ hs)) ot (fun x y hx hy => p3 s hs q (List.mem_cons_self ..) x y hx hy)
    · exact ho
    · exact own_touch (h.inner s (List.mem_append_right _ (List.mem_cons_of_mem _ hs))) ot (fun x y hx hy => (p2.1 s hs).symm x y hx hy)
  · rcases swap_mem (q := q) hs with rfl | hs'
    · exact ⟨(h.wf q hq).1, hv⟩
    · exact h.wf s hs'
  · rcases swap_mem (q := q) hs with rfl | hs'
    · exact h.apart0 q hq
    · exact h.apart0 s hs'

theorem drop_succ_rd {rs : List RowV} {i : Nat} (h : i < rs.length) : rs.drop i = rs.getD i rd :: rs.drop (i + 1) := by
  rw [List.drop_eq_getElem_cons h]
  simp [List.getD, h]

set_option maxHeartbeats 1600000 in
theorem markRowS (a : Option Addr) (n cap : Nat) (rs : List RowV) (k0 : Int) (base : Nat) (w : World) (h : OwnRows w base a n cap rs) (hn : n ≤ 1048576) (hr : ∀ r ∈ rs, r.n ≤ 1048576) (hk0 : 0 ≤ k0) (hk1 : k0 + 2 * total rs ≤ 100000000) :
    Calls Tryd.prog 48 #[.slice a n cap, .int .i64 k0] w fun e w' => e = .returned (.int .i64 (rnext k0 rs)) ∧ OwnRows w' base a n cap (rmarks k0 rs) ∧ OnlyTree a rs w w' := by
  have HL : Hid (rs.length = n) := h.len
  have HRN : Hid (∀ r ∈ rs, r.n ≤ 1048576) := hr
  have HO : Hid (OwnRows w base a n cap rs) := h
  have hT : ∀ k, 0 ≤ sumN (rs.take k) ∧ sumN (rs.take k) ≤ sumN rs := fun k => ⟨sumN_nonneg _, sumN_le rs k⟩
  have hk2 : k0 + 2 * (n : Int) + 2 * sumN rs ≤ 100000000 := by unfold total at hk1; rw [h.len] at hk1; omega
  have HT : Hid _ := hT
  clear h hr hT hk1
  go_enter Tryd.func48, Tryd.ntmps48
  go_wp2
  go_loopw [1, 5] (fun m i wr => ∃ k : Nat, k ≤ n ∧ i = .int .i64 k ∧ m = .int .i64 (rnext k0 (rs.take k)) ∧ OwnRows wr base a n cap (rmarks k0 (rs.take k) ++ rs.drop k) ∧ OnlyTree a rs w wr) (fun _ i _ => n - (intOf i).toNat)
  case atStart => exact ⟨0, Nat.zero_le _, rfl, by simp [rnext, sumN], HO.out, OnlyTree.refl _ _ _⟩
  case round =>
    obtain ⟨k, hk, rfl, rfl, hown, ht⟩ := hrel
    by_cases hlt : k < n
    · have hkl : k < rs.length := by rw [HL.out]; exact hlt
      obtain ⟨g, rfl⟩ : ∃ g, a = some ⟨g, 0, none⟩ := by
        rcases hown.outer.2 with ⟨h2, _⟩ | ⟨g, cap', cur, hv, _⟩
        · simp at h2; omega
        · simp only [Value.slice.injEq] at hv
          exact ⟨g, hv.1⟩
      have hml : (rmarks k0 (rs.take k)).length = k := by rw [rmarks_length, List.length_take]; omega
      rw [drop_succ_rd hkl] at hown
      have hrn := HRN.out _ (getD_mem_rd hkl)
      have hmem := getD_mem_rd hkl
      have hts := take_succ_rd hkl
      have hb := HT.out k
      have hlt2 : (((rs.take k).length : Nat) : Int) = k := by rw [List.length_take]; omega
      have hK : rnext k0 (rs.take k) = k0 + (k : Int) + 2 * sumN (rs.take k) := by unfold rnext; rw [hlt2]
      generalize rs.getD k rd = r at hown hrn hmem hts
      obtain ⟨key, ra, rn, rc, rvs⟩ := r
      simp only at hrn
      have hcell := hown.outer.cellAt (k * 2 + 1) (by omega)
      have hc2 : (rcells (rmarks k0 (rs.take k) ++ ⟨key, ra, rn, rc, rvs⟩ :: rs.drop (k + 1)))[k * 2 + 1]? = some (.slice ra rn rc) := by
        have := (rcells_get (rmarks k0 (rs.take k) ++ ⟨key, ra, rn, rc, rvs⟩ :: rs.drop (k + 1)) k (by simp [hml])).2
        have e : (rmarks k0 (rs.take k) ++ ⟨key, ra, rn, rc, rvs⟩ :: rs.drop (k + 1)).getD k rd = ⟨key, ra, rn, rc, rvs⟩ := by
          simp [List.getD, hml]
        rw [e] at this
        exact this
      rw [hc2] at hcell
      generalize hKK : rnext k0 (rs.take k) = K at hK ⊢
      have hsk := OwnRows.setKey (k := K) hown (int_wf _ (by omega) (by omega))
      rw [hml] at hsk
      have f0 := hown.outer.frozenAt (k * 2)
      have hl2 : (rcells (rmarks k0 (rs.take k) ++ ⟨key, ra, rn, rc, rvs⟩ :: rs.drop (k + 1))).length = n * 2 := by simpa using hown.outer.1
      obtain ⟨o0, ho0⟩ : ∃ o, wr.cell? ⟨g, k * 2, none⟩ = some o := by rw [hown.outer.cellAt _ (by omega)]; exact ⟨_, List.getElem?_eq_getElem (by omega)⟩
      have HSK : Hid _ := hsk
      have HTR : Hid (OnlyTree (some ⟨g, 0, none⟩) rs w wr) := ht
      have HKE : Hid (K = k0 + (k : Int) + 2 * sumN (rs.take k)) := hK
      have HKK : Hid (rnext k0 (rs.take k) = K) := hKK
      have HTS : Hid (rs.take (k + 1) = rs.take k ++ [⟨key, ra, rn, rc, rvs⟩]) := hts
      have hKb : 0 ≤ K ∧ K ≤ 100000000 := by omega
      obtain ⟨hKb0, hKb1⟩ := hKb
      have HIN : Hid ((wr.setCell ⟨g, k * 2, none⟩ (.int .i64 K)).ownsRow base 26 2 (.slice ra rn rc) rn (vcells rvs)) := hsk.inner ⟨K, ra, rn, rc, rvs⟩ (by simp)
      clear hsk ht hown hc2 hl2 hK hKK hts hkl hml hb hlt2
      go_wp2_with fail
      refine (markValueS ra rn rc rvs _ base _ HIN.out hrn (by omega) (by omega)).mono ?_
      rintro e w1 ⟨rfl, ho1, ht1⟩
      have hsv := OwnRows.setVals HSK.out ht1 ho1 (vmarks_wf _ _ (by omega) (by omega))
      have HSV : Hid _ := hsv
      have ht2 : OnlyTree (some ⟨g, 0, none⟩) rs w w1 := (HTR.out.at_outer ((OnlyAt.refl _ wr).setCell (b := g) (o := k * 2) (fun x hx => by cases hx; rfl) (by simp) (.int .i64 K))).at_inner (r := ⟨key, ra, rn, rc, rvs⟩) ht1 hmem
      have HT2 : Hid _ := ht2
      have HNX : Hid (rnext k0 (rs.take (k + 1)) = K + 1 + 2 * (rn : Int)) := by
        show _ = _
        rw [HTS.out, rnext_append, HKK.out]
        simp [rnext, sumN]
      have HMK : Hid (rmarks k0 (rs.take (k + 1)) ++ rs.drop (k + 1) = rmarks k0 (rs.take k) ++ ⟨K, ra, rn, rc, vmarks (K + 1) rn⟩ :: rs.drop (k + 1)) := by
        show _ = _
        rw [HTS.out, rmarks_append, HKK.out]
        simp [rmarks]
      clear ho1 ht1 hsv ht2
      go_wp2
      go_roundw
      case rel => exact ⟨k + 1, by omega, by go_num, by rw [HNX.out], by rw [HMK.out]; exact HSV.out, HT2.out⟩
      case measure => simp [intOf]; omega
    · obtain rfl : k = n := by omega
      rw [List.take_of_length_le (by rw [HL.out]; omega), List.drop_of_length_le (by rw [HL.out]; omega), List.append_nil] at hown
      have HO2 : Hid _ := hown
      have HTR : Hid _ := ht
      have HE : Hid (rnext k0 (rs.take k) = rnext k0 rs) := by show _ = _; rw [List.take_of_length_le (by rw [HL.out]; omega)]
      clear hown ht
      go_wp2
      go_ret
      exact ⟨Ints.ret_int HE.out, HO2.out, HTR.out⟩


end Go.Proofs.YtdlcjcobfckncaaDoor.Rws
