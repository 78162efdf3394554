/-
  Contracts of chapter 2's model functions on tables.
-/
import Derived.Test.YtciaegdgoabipaaRws
import Derived.Test.YtciaegdgoabipaaLst
namespace Go.Proofs.Ytciaegdgoabipaa.Tab
open Go.RowKit
open Go.Proofs.Ytciaegdgoabipaa.Frame Go.Proofs.Ytciaegdgoabipaa.Mem Go.Proofs.Ytciaegdgoabipaa.Vals Go.Proofs.Ytciaegdgoabipaa.Rws Go.Proofs.Ytciaegdgoabipaa.Val

def gv (v : Bool × Int) : Bool := goodV v.1 v.2
def rowB (key : Int) (vs : List (Bool × Int)) : Bool := vs.all gv && (inB key 0 999 && decide (vs.length = 3))

theorem allv_false (f : Bool × Int → Bool) (vs : List (Bool × Int)) (k : Nat) (h : k < vs.length) (e : f (vs.getD k vd) = false) : vs.all f = false := by
  rw [List.all_eq_false]
  exact ⟨_, getD_mem_vd h, by rw [e]; exact Bool.false_ne_true⟩
theorem allv_succ (f : Bool × Int → Bool) (vs : List (Bool × Int)) (k : Nat) (h : k < vs.length) (e : f (vs.getD k vd) = true) (hk : (vs.take k).all f = true) : (vs.take (k + 1)).all f = true := by
  rw [take_succ_vd h, List.all_append, hk]
  simp only [Bool.true_and, List.all_cons, List.all_nil, Bool.and_true]
  exact e

set_option maxHeartbeats 800000 in
theorem spec_l2Row (key : Int) (a : Option Addr) (n cap : Nat) (vs : List (Bool × Int)) (w : World) (h : IsVals w a n cap vs) (hn : n ≤ 1048576) :
    Calls Try.prog 49 #[.agg #[.int .i64 key, .slice a n cap]] w fun e w' => e = .returned (.bool (rowB key vs)) ∧ Below w.heap.size w w' := by
  have HL : Hid (vs.length = n) := h.len
  have HV : Hid (IsVals w a n cap vs) := h
  have b0 := (Below.refl w.heap.size w).alloc (Nat.le_refl _) (.cells #[.int .i64 key, .slice a n cap] 26)
  have B0 : Hid (Below w.heap.size w (w.alloc (.cells #[.int .i64 key, .slice a n cap] 26))) := b0
  clear h b0
  go_enter Try.func49, Try.ntmps49
  go_wp2_with fail
  go_loopw [8] (fun i wr => ∃ k : Nat, k ≤ n ∧ i = .int .i64 k ∧ (vs.take k).all gv = true ∧ Below (w.heap.size + 1) (w.alloc (.cells #[.int .i64 key, .slice a n cap] 26)) wr) (fun i _ => n - (intOf i).toNat)
  case atStart => exact ⟨0, Nat.zero_le _, rfl, rfl, Below.refl _ _⟩
  case round =>
    obtain ⟨k, hk, rfl, hall, hnx⟩ := hrel
    have Hall : Hid ((vs.take k).all gv = true) := hall
    have HN : Hid (Below (w.heap.size + 1) (w.alloc (.cells #[.int .i64 key, .slice a n cap] 26)) wr) := hnx
    have HNw : Hid (Below w.heap.size w wr) := B0.out.trans (hnx.mono (by omega))
    have hsr : w.heap.size + 1 ≤ wr.heap.size := by simpa using hnx.size
    clear hall hnx
    by_cases hlt : k < n
    · obtain ⟨b, off, rfl, hbl, hc⟩ := HV.out.cells (by omega)
      have hkl : k < vs.length := by rw [HL.out]; exact hlt
      have p0 : wr.cell? ⟨b, off + k * 2, none⟩ = some (.bool (vs.getD k vd).1) := by rw [HNw.out.cell (p := ⟨b, off + k * 2, none⟩) hbl]; exact (hc k hlt).1
      have p1 : wr.cell? ⟨b, off + k * 2 + 1, none⟩ = some (.int .i64 (vs.getD k vd).2) := by rw [HNw.out.cell (p := ⟨b, off + k * 2 + 1, none⟩) hbl]; exact (hc k hlt).2
      have HF : Hid ((gv (vs.getD k vd) = false → vs.all gv = false) ∧ (gv (vs.getD k vd) = true → (vs.take (k + 1)).all gv = true)) := ⟨fun e => allv_false gv vs k hkl e, fun e => allv_succ gv vs k hkl e Hall.out⟩
      generalize vs.getD k vd = x at p0 p1 HF
      obtain ⟨xb, xn⟩ := x
      simp only at p0 p1
      have hkI : (k : Int) < (n : Int) := by omega
      clear hc hkl
      cases hg : goodV xb xn
      · have Hg : Hid (goodV xb xn = false) := hg
        have F : Hid (rowB key vs = false) := by show _ = _; unfold rowB; rw [HF.out.1 hg]; rfl
        clear hg HF
        go_wp2_with fail
        refine (spec_GoodValue _ _ _).mono ?_
        rintro e w1 ⟨rfl, hb1⟩
        rw [Hg.out]
        have HN1 : Hid (Below w.heap.size w w1) := Frame.next (HNw.out.alloc (by omega) _) hb1 (by simp; omega)
        clear hb1
        go_wp2
        go_ret
        exact ⟨Ints.ret_bool F.out.symm, HN1.out⟩
      · have Hg : Hid (goodV xb xn = true) := hg
        have F : Hid ((vs.take (k + 1)).all gv = true) := HF.out.2 hg
        clear hg HF
        go_wp2_with fail
        refine (spec_GoodValue _ _ _).mono ?_
        rintro e w1 ⟨rfl, hb1⟩
        rw [Hg.out]
        have HN1 : Hid (Below (w.heap.size + 1) (w.alloc (.cells #[.int .i64 key, .slice (some ⟨b, off, none⟩) n cap] 26)) w1) := Frame.next (HN.out.alloc (by omega) _) hb1 (by simp; omega)
        clear hb1
        go_wp2
        go_roundw
        case rel => exact ⟨k + 1, by omega, by go_num, F.out, HN1.out⟩
        case measure => simp [intOf]; omega
    · obtain rfl : k = n := by omega
      have hA : vs.all gv = true := by have := Hall.out; rwa [List.take_of_length_le (by rw [HL.out]; omega)] at this
      have q0 : wr.cell? ⟨w.heap.size, 0, none⟩ = some (.int .i64 key) := by rw [HN.out.cell (p := ⟨w.heap.size, 0, none⟩) (by show w.heap.size < _; omega), World.cell?_alloc_at _ _ _ _ rfl]; rfl
      have q1 : wr.cell? ⟨w.heap.size, 1, none⟩ = some (.slice a k cap) := by rw [HN.out.cell (p := ⟨w.heap.size, 1, none⟩) (by show w.heap.size < _; omega), World.cell?_alloc_at _ _ _ _ rfl]; rfl
      have HE : Hid (rowB key vs = (inB key 0 999 && decide ((k : Int) = 3))) := by
        show _ = _
        unfold rowB
        rw [hA, Bool.true_and, HL.out]
        congr 1
        rw [decide_eq_decide]
        omega
      clear hA
      cases hin : inB key 0 999
      · have Hin : Hid (inB key 0 999 = false) := hin
        clear hin
        go_wp2_with fail
        refine (spec_In _ _ _ _).mono ?_
        rintro e w' ⟨rfl, rfl⟩
        rw [Hin.out]
        go_wp2
        go_ret
        exact ⟨Ints.ret_bool (by rw [HE.out, Hin.out]; rfl), HNw.out⟩
      · have Hin : Hid (inB key 0 999 = true) := hin
        clear hin
        by_cases h3 : (k : Int) = 3
        · have h3b : ((k : Int) == 3) = true := by simpa using h3
          have HE2 : Hid (rowB key vs = true) := by show _ = _; rw [HE.out, Hin.out]; simp [h3]
          clear h3
          go_wp2_with fail
          refine (spec_In _ _ _ _).mono ?_
          rintro e w' ⟨rfl, rfl⟩
          rw [Hin.out]
          go_wp2
          go_ret
          exact ⟨Ints.ret_bool HE2.out.symm, HNw.out⟩
        · have h3b : ((k : Int) == 3) = false := by simpa using h3
          have HE2 : Hid (rowB key vs = false) := by show _ = _; rw [HE.out, Hin.out]; simp [h3]
          clear h3
          go_wp2_with fail
          refine (spec_In _ _ _ _).mono ?_
          rintro e w' ⟨rfl, rfl⟩
          rw [Hin.out]
          go_wp2
          go_ret
          exact ⟨Ints.ret_bool HE2.out.symm, HNw.out⟩

/-- The place of a key, -1 for none. -/
def findTo (key : Int) : List RowV → Nat → Int
  | [], _ => -1
  | r :: rs, i => if r.key = key then (i : Int) else findTo key rs (i + 1)
def find (key : Int) (rs : List RowV) : Int := findTo key rs 0

theorem find_here (key : Int) (rs : List RowV) (k : Nat) (h : k < rs.length) (hn : ∀ r ∈ rs.take k, r.key ≠ key) (e : (rs.getD k rd).key = key) : find key rs = (k : Int) := by
  have aux : ∀ (rs : List RowV) (i k : Nat), k < rs.length → (∀ r ∈ rs.take k, r.key ≠ key) → (rs.getD k rd).key = key → findTo key rs i = ((i + k : Nat) : Int) := by
    intro rs
    induction rs with
    | nil => intro i k h; simp at h
    | cons r rs ih =>
      intro i k h hn e
      cases k with
      | zero =>
        have : r.key = key := by simpa using e
        simp [findTo, this]
      | succ k =>
        have h1 : r.key ≠ key := hn r (by simp)
        rw [findTo, if_neg h1, ih (i + 1) k (by simpa using h) (fun s hs => hn s (by simp [hs])) (by simpa using e)]
        congr 1
        omega
  have := aux rs 0 k h hn e
  simpa [find] using this
theorem find_none (key : Int) (rs : List RowV) (hn : ∀ r ∈ rs, r.key ≠ key) : find key rs = -1 := by
  have aux : ∀ (rs : List RowV) (i : Nat), (∀ r ∈ rs, r.key ≠ key) → findTo key rs i = -1 := by
    intro rs
    induction rs with
    | nil => intro i _; rfl
    | cons r rs ih =>
      intro i hn
      rw [findTo, if_neg (hn r (by simp))]
      exact ih _ (fun s hs => hn s (by simp [hs]))
  exact aux rs 0 hn

set_option maxHeartbeats 800000 in
theorem spec_l2Find (a : Option Addr) (n cap : Nat) (rs : List RowV) (key : Int) (w : World) (h : IsRows w a n cap rs) (hn : n ≤ 1048576) :
    Calls Try.prog 54 #[.slice a n cap, .int .i64 key] w fun e w' => e = .returned (.int .i64 (find key rs)) ∧ Below w.heap.size w w' := by
  have HL : Hid (rs.length = n) := h.len
  have HI : Hid (IsRows w a n cap rs) := h
  clear h
  go_enter Try.func54, Try.ntmps54
  go_wp2_with fail
  go_loopw [9] (fun i wr => ∃ k : Nat, k ≤ n ∧ i = .int .i64 k ∧ (∀ r ∈ rs.take k, r.key ≠ key) ∧ Below w.heap.size w wr) (fun i _ => n - (intOf i).toNat)
  case atStart => exact ⟨0, Nat.zero_le _, rfl, by simp, Below.refl _ _⟩
  case round =>
    obtain ⟨k, hk, rfl, hno, hnx⟩ := hrel
    have HNO : Hid (∀ r ∈ rs.take k, r.key ≠ key) := hno
    have HN : Hid (Below w.heap.size w wr) := hnx
    have hsr := hnx.size
    clear hno hnx
    by_cases hlt : k < n
    · obtain ⟨b, off, rfl, hbl, hc⟩ := HI.out.cells (by omega)
      have hkl : k < rs.length := by rw [HL.out]; exact hlt
      have p0 : wr.cell? ⟨b, off + k * 2, none⟩ = some (.int .i64 (rs.getD k rd).key) := by rw [HN.out.cell (p := ⟨b, off + k * 2, none⟩) hbl]; exact (hc k hlt).1
      have p1 : wr.cell? ⟨b, off + k * 2 + 1, none⟩ = some (.slice (rs.getD k rd).a (rs.getD k rd).n (rs.getD k rd).c) := by rw [HN.out.cell (p := ⟨b, off + k * 2 + 1, none⟩) hbl]; exact (hc k hlt).2
      have HF : Hid (((rs.getD k rd).key = key → find key rs = (k : Int)) ∧ ((rs.getD k rd).key ≠ key → ∀ r ∈ rs.take (k + 1), r.key ≠ key)) := ⟨fun e => find_here key rs k hkl HNO.out e, fun e r hr => by
        rw [take_succ_rd hkl] at hr
        rcases List.mem_append.1 hr with h | h
        · exact HNO.out r h
        · rw [List.mem_singleton.1 h]; exact e⟩
      generalize rs.getD k rd = r at p0 p1 HF
      obtain ⟨rk, ra, rn, rc, rvs⟩ := r
      simp only at p0 p1
      have HF2 : Hid ((rk = key → find key rs = (k : Int)) ∧ (rk ≠ key → ∀ r ∈ rs.take (k + 1), r.key ≠ key)) := HF.out
      have hkI : (k : Int) < (n : Int) := by omega
      clear hc hkl HF
      by_cases hE : rk = key
      · have F : Hid (find key rs = (k : Int)) := HF2.out.1 hE
        subst hE
        clear HF2
        go_wp2
        go_ret
        exact ⟨Ints.ret_int F.out.symm, HN.out.alloc hsr _⟩
      · have F : Hid (∀ r ∈ rs.take (k + 1), r.key ≠ key) := HF2.out.2 hE
        have hEb : (rk == key) = false := by simpa using hE
        clear HF2 hE
        go_wp2
        go_roundw
        case rel => exact ⟨k + 1, by omega, by go_num, F.out, HN.out.alloc hsr _⟩
        case measure => simp [intOf]; omega
    · have F : Hid (find key rs = -1) := find_none key rs (by have := HNO.out; rwa [List.take_of_length_le (by rw [HL.out]; omega)] at this)
      go_wp2
      go_ret
      exact ⟨Ints.ret_int F.out.symm, HN.out⟩


end Go.Proofs.Ytciaegdgoabipaa.Tab
