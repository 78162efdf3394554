/-
  Slices of Act (a struct of 3 one-cell fields) in memory; contracts of the laws' helpers on them; the kind; the opener. Written by gen/gen_flat.py.
-/
import Derived.Test.YteihgbiifcgipaaKep
import Derived.Deep.Slices
namespace Go.Proofs.Yteihgbiifcgipaa.FAct
open Go.ChangeShapes Go.WideShapes Go.ChangeAt Go.RowKit Go.Deep
open Go.Proofs.Yteihgbiifcgipaa.Frame Go.Proofs.Yteihgbiifcgipaa.Mem Go.Proofs.Yteihgbiifcgipaa.Kep

abbrev D := Int × Int × Bool
def d0 : D := (0, 0, false)
def one (x : D) : List Value := [.int .i64 (x.1), .int .i64 (x.2.1), .bool (x.2.2)]
def cells (xs : List D) : List Value := xs.flatMap one
def ok (x : D) : Prop := (Lit.int .i64 x.1).wf = true ∧ (Lit.int .i64 x.2.1).wf = true

theorem cells_cons (x : D) (xs : List D) : cells (x :: xs) = one x ++ cells xs := by simp [cells]
theorem one_length (x : D) : (one x).length = 3 := rfl
theorem cells_length (xs : List D) : (cells xs).length = xs.length * 3 := by
  induction xs with
  | nil => rfl
  | cons v xs ih => rw [cells_cons, List.length_append, ih, one_length, List.length_cons]; omega
theorem cells_append (xs ys : List D) : cells (xs ++ ys) = cells xs ++ cells ys := by simp [cells]
theorem cells_get (xs : List D) (i : Nat) (h : i < xs.length) : (cells xs)[i * 3]? = some (.int .i64 ((xs.getD i d0).1)) ∧ (cells xs)[i * 3 + 1]? = some (.int .i64 ((xs.getD i d0).2.1)) ∧ (cells xs)[i * 3 + 2]? = some (.bool ((xs.getD i d0).2.2)) := by
  induction xs generalizing i with
  | nil => simp at h
  | cons v xs ih =>
    rw [cells_cons]
    cases i with
    | zero => simp [one]
    | succ i =>
      have hi : i < xs.length := by simpa using h
      have := ih i hi
      rw [List.getElem?_append_right (by rw [one_length]; omega), List.getElem?_append_right (by rw [one_length]; omega), List.getElem?_append_right (by rw [one_length]; omega)]
      simp only [one_length]
      rw [show (i + 1) * 3 - 3 = i * 3 by omega, show (i + 1) * 3 + 1 - 3 = i * 3 + 1 by omega, show (i + 1) * 3 + 2 - 3 = i * 3 + 2 by omega]
      simpa using this

/-- What a walk is told of a slice of them. -/
structure IsX (w : World) (a : Option Addr) (n cap : Nat) (xs : List D) : Prop where
  len : xs.length = n
  fits : n ≤ cap
  max : cap ≤ maxLen
  wf : ∀ x ∈ xs, ok x
  cells : 0 < n → ∃ b off, a = some ⟨b, off, none⟩ ∧ b < w.heap.size ∧ ∀ i, i < n → w.cell? ⟨b, off + i * 3, none⟩ = some (.int .i64 ((xs.getD i d0).1)) ∧ w.cell? ⟨b, off + i * 3 + 1, none⟩ = some (.int .i64 ((xs.getD i d0).2.1)) ∧ w.cell? ⟨b, off + i * 3 + 2, none⟩ = some (.bool ((xs.getD i d0).2.2))

theorem IsX.below {w w' : World} {a : Option Addr} {n cap : Nat} {xs : List D} (h : IsX w a n cap xs) (hb : Below w.heap.size w w') : IsX w' a n cap xs := by
  refine ⟨h.len, h.fits, h.max, h.wf, fun h0 => ?_⟩
  obtain ⟨b, off, ha, hlt, hc⟩ := h.cells h0
  exact ⟨b, off, ha, Nat.lt_of_lt_of_le hlt hb.size, fun i hi => by rw [hb.cell (p := ⟨b, off + i * 3, none⟩) hlt, hb.cell (p := ⟨b, off + i * 3 + 1, none⟩) hlt, hb.cell (p := ⟨b, off + i * 3 + 2, none⟩) hlt]; exact hc i hi⟩

theorem isX_own {w : World} {base : Nat} {e : TypeId} {v : Value} {n : Nat} {xs : List D} (h : w.ownsRow base e 3 v n (cells xs)) (hw : ∀ x ∈ xs, ok x) :
    ∃ a cap, v = .slice a n cap ∧ IsX w a n cap xs := by
  have h0 := h
  obtain ⟨h1, h2⟩ := h
  have hn : xs.length = n := by rw [cells_length] at h1; omega
  rcases h2 with ⟨rfl, rfl⟩ | ⟨g, cap, cur, rfl, hg, hh, hnc, hcap, hsz, htake⟩
  · exact ⟨none, 0, rfl, hn, Nat.le_refl _, by simp [maxLen], hw, fun h => absurd h (by omega)⟩
  · refine ⟨some ⟨g, 0, none⟩, cap, rfl, hn, hnc, hcap, hw, fun _ => ⟨g, 0, rfl, ?_, fun i hi => ?_⟩⟩
    · by_cases hx : g < w.heap.size
      · exact hx
      · rw [Array.getElem?_eq_none (by omega)] at hh; cases hh
    · have := cells_get xs i (by omega)
      rw [Nat.zero_add, h0.cellAt (i * 3) (by omega), h0.cellAt (i * 3 + 1) (by omega), h0.cellAt (i * 3 + 2) (by omega)]
      exact this

theorem info : (Try.prog.info? 59).map (fun i => (i.zero, i.size, i.bytes)) = some (some (.agg #[.int .i64 0, .int .i64 0, .bool false]), 3, 24) := by kernel_rfl

theorem take_succ {xs : List D} {i : Nat} (h : i < xs.length) : xs.take (i + 1) = xs.take i ++ [xs.getD i d0] := by
  rw [List.take_succ_eq_append_getElem h]
  simp [List.getD, h]
theorem getD_mem {xs : List D} {i : Nat} (h : i < xs.length) : xs.getD i d0 ∈ xs := by
  simp only [List.getD, List.getElem?_eq_getElem h, Option.getD_some]
  exact List.getElem_mem h
theorem set_one (a b : List D) (x y : D) (n : Nat) (h : a.length = n) : (((cells (a ++ x :: b)).set (n * 3) (.int .i64 (y.1))).set (n * 3 + 1) (.int .i64 (y.2.1))).set (n * 3 + 2) (.bool (y.2.2)) = cells (a ++ y :: b) := by
  have hl : (cells a).length = n * 3 := by rw [cells_length, h]
  rw [cells_append, cells_append, cells_cons, cells_cons]
  rw [List.set_append_right _ _ (by omega), hl, show n * 3 - n * 3 = 0 by omega, List.set_append_right _ _ (by omega), hl, show n * 3 + 1 - n * 3 = 1 by omega, List.set_append_right _ _ (by omega), hl, show n * 3 + 2 - n * 3 = 2 by omega]
  simp [one]
theorem drop_cons {xs : List D} {k : Nat} (h : k < xs.length) : xs.drop k = xs.getD k d0 :: xs.drop (k + 1) := by
  rw [List.drop_eq_getElem_cons (by omega)]
  simp [List.getD, h]

theorem set_part (xs : List D) (n k : Nat) (h : k < xs.length) (hn : xs.length = n) :
    (((cells (xs.take k ++ List.replicate (n - k) d0)).set (k * 3) (.int .i64 ((xs.getD k d0).1))).set (k * 3 + 1) (.int .i64 ((xs.getD k d0).2.1))).set (k * 3 + 2) (.bool ((xs.getD k d0).2.2)) = cells (xs.take (k + 1) ++ List.replicate (n - (k + 1)) d0) := by
  have e : n - k = (n - (k + 1)) + 1 := by omega
  rw [e, List.replicate_succ, set_one _ _ _ (xs.getD k d0) k (by rw [List.length_take]; omega), take_succ h]
  simp

theorem made (n : Nat) : (madeCells #[.int .i64 (0), .int .i64 (0), .bool (false)] (n * 3)).toList = cells (List.replicate n d0) := by
  apply List.ext_getElem?
  intro j
  by_cases hj : j < n * 3
  · have h2 := cells_get (List.replicate n d0) (j / 3) (by simp; omega)
    have e : (List.replicate n d0).getD (j / 3) d0 = d0 := by simp [List.getD, show j / 3 < n by omega]
    rw [e] at h2
    rcases (by omega : j % 3 = 0 ∨ j % 3 = 1 ∨ j % 3 = 2) with h | h | h
    · rw [show (cells (List.replicate n d0))[j]? = some (.int .i64 (d0.1)) by rw [← h2.1]; congr 1; omega]
      simp [madeCells, d0, hj, h]
    · rw [show (cells (List.replicate n d0))[j]? = some (.int .i64 (d0.2.1)) by rw [← h2.2.1]; congr 1; omega]
      simp [madeCells, d0, hj, h]
    · rw [show (cells (List.replicate n d0))[j]? = some (.bool (d0.2.2)) by rw [← h2.2.2]; congr 1; omega]
      simp [madeCells, d0, hj, h]
  · rw [List.getElem?_eq_none (by simp [madeCells]; omega), List.getElem?_eq_none (by rw [cells_length]; simp; omega)]

theorem toOne (x0 : Int) (x1 : Int) (x2 : Bool) (w : World) : Calls Try.prog 71 #[.agg #[.int .i64 x0, .int .i64 x1, .bool x2]] w fun e w' => e = .returned (.agg #[.int .i64 x0, .int .i64 x1, .bool x2]) ∧ Below w.heap.size w w' := by
  go_enter Try.func71, Try.ntmps71
  go_wp2
  exact bodyPost_ret (v := .agg #[.int .i64 x0, .int .i64 x1, .bool x2]) (by simp [results, Try.results71, go_sem]) rfl ⟨rfl, (((Below.refl _ _).alloc (Nat.le_refl _) _).alloc (by simp) _).alloc (by simp; omega) _⟩

set_option maxHeartbeats 800000 in
theorem toS (a : Option Addr) (n cap : Nat) (xs : List D) (w : World) (h : IsX w a n cap xs) (hn : n ≤ 1048576) :
    Calls Try.prog 37 #[.slice a n cap] w fun e w' => e = .returned (.slice (some ⟨w.heap.size, 0, none⟩) n n) ∧ w'.ownsRow w.heap.size 59 3 (.slice (some ⟨w.heap.size, 0, none⟩) n n) n (cells xs) ∧ Below w.heap.size w w' := by
  obtain ⟨i0, hi, hz0, hz1, hz2⟩ := info_parts info
  have HL : Hid (xs.length = n) := h.len
  have HCs : Hid (0 < n → ∃ b off, a = some ⟨b, off, none⟩ ∧ b < w.heap.size ∧ ∀ i, i < n → w.cell? ⟨b, off + i * 3, none⟩ = some (.int .i64 ((xs.getD i d0).1)) ∧ w.cell? ⟨b, off + i * 3 + 1, none⟩ = some (.int .i64 ((xs.getD i d0).2.1)) ∧ w.cell? ⟨b, off + i * 3 + 2, none⟩ = some (.bool ((xs.getD i d0).2.2))) := h.cells
  clear h
  go_enter Try.func37, Try.ntmps37
  go_wp2_with (at_make; refine wpList_make_full _ rfl _ _ 23 rfl w.heap.size 59 i0 (.agg #[.int .i64 0, .int .i64 0, .bool false]) 3 Try.underlying23 hi hz0 hz1 _ _ _ _ n rfl rfl rfl rfl ?b2 ?b3 (Nat.le_refl _) ?_)
  case b2 => rw [hz2]; omega
  case b3 => unfold maxLen; omega
  intro w0 hown0 hgrow0
  go_wp2_with fail
  go_loopw [4] (fun i wr => ∃ k : Nat, k ≤ n ∧ i = .int .i64 k ∧ wr.ownsRow w.heap.size 59 3 (.slice (some ⟨w.heap.size, 0, none⟩) n n) n (cells (xs.take k ++ List.replicate (n - k) d0)) ∧ Below w.heap.size w wr)
    (fun i _ => n - (intOf i).toNat)
  case atStart =>
    refine ⟨0, Nat.zero_le _, rfl, ?_, (Below.refl _ _).grown hgrow0 (Nat.le_refl _) (fun k h => by cases h)⟩
    rw [List.take_zero, List.nil_append, Nat.sub_zero, ← made]
    exact hown0
  case round =>
    obtain ⟨k, hk, rfl, hown, hnx⟩ := hrel
    by_cases hlt : k < n
    · obtain ⟨b, off, rfl, hbl, hc⟩ := HCs.out (by omega)
      have hkl : k < xs.length := by rw [HL.out]; exact hlt
      have h0 : wr.cell? ⟨b, off + k * 3, none⟩ = some (.int .i64 ((xs.getD k d0).1)) := by rw [hnx.cell (p := ⟨b, off + k * 3, none⟩) hbl]; exact (hc k hlt).1
      have h1 : wr.cell? ⟨b, off + k * 3 + 1, none⟩ = some (.int .i64 ((xs.getD k d0).2.1)) := by rw [hnx.cell (p := ⟨b, off + k * 3 + 1, none⟩) hbl]; exact (hc k hlt).2.1
      have h2 : wr.cell? ⟨b, off + k * 3 + 2, none⟩ = some (.bool ((xs.getD k d0).2.2)) := by rw [hnx.cell (p := ⟨b, off + k * 3 + 2, none⟩) hbl]; exact (hc k hlt).2.2
      have hset := set_part xs n k hkl HL.out
      generalize xs.getD k d0 = x at h0 h1 h2 hset
      obtain ⟨x0, x1, x2⟩ := x
      simp only at h0 h1 h2 hset
      have HSET : Hid _ := hset
      have HO : Hid _ := hown
      have HN : Hid _ := hnx
      clear hown hnx hc hset hkl
      go_wp2_with fail
      refine (toOne _ _ _ _).mono ?_
      rintro e w1 ⟨rfl, hb1⟩
      have ho1 := own_below HO.out hb1
      have HN1 : Hid (Below w.heap.size w w1) := Frame.next HN.out hb1 HN.out.size
      have hl : (cells (xs.take k ++ List.replicate (n - k) d0)).length = n * 3 := by simpa using ho1.1
      have f0 := ho1.frozenAt (k * 3)
      obtain ⟨o0, ho10⟩ : ∃ o, w1.cell? ⟨w.heap.size, k * 3, none⟩ = some o := by rw [ho1.cellAt _ (by omega)]; exact ⟨_, List.getElem?_eq_getElem (by omega)⟩
      have f1 := ho1.frozenAt (k * 3 + 1)
      obtain ⟨o1, ho11⟩ : ∃ o, w1.cell? ⟨w.heap.size, k * 3 + 1, none⟩ = some o := by rw [ho1.cellAt _ (by omega)]; exact ⟨_, List.getElem?_eq_getElem (by omega)⟩
      have f2 := ho1.frozenAt (k * 3 + 2)
      obtain ⟨o2, ho12⟩ : ∃ o, w1.cell? ⟨w.heap.size, k * 3 + 2, none⟩ = some o := by rw [ho1.cellAt _ (by omega)]; exact ⟨_, List.getElem?_eq_getElem (by omega)⟩
      have hst := (((ho1.stored (k * 3) (.int .i64 (x0))).1.stored (k * 3 + 1) (.int .i64 (x1))).1.stored (k * 3 + 2) (.bool (x2))).1
      rw [HSET.out] at hst
      have HST : Hid _ := hst
      clear hb1 ho1 hst hl
      go_wp2
      go_roundw
      case rel => exact ⟨k + 1, by omega, by go_num, HST.out, (((HN1.out.setCell (Nat.le_refl _) _).setCell (Nat.le_refl _) _).setCell (Nat.le_refl _) _)⟩
      case measure => simp [intOf]; omega
    · obtain rfl : k = n := by omega
      rw [List.take_of_length_le (by rw [HL.out]; omega), Nat.sub_self, List.replicate_zero, List.append_nil] at hown
      have HO : Hid _ := hown
      have HN : Hid _ := hnx
      clear hown hnx
      go_wp2
      go_ret
      exact ⟨rfl, HO.out, HN.out⟩

def eqD (x y : D) : Bool := decide (x = y)
theorem eqOne (x0 : Int) (x1 : Int) (x2 : Bool) (y0 : Int) (y1 : Int) (y2 : Bool) (w : World) :
    Calls Try.prog 72 #[.agg #[.int .i64 x0, .int .i64 x1, .bool x2], .agg #[.int .i64 y0, .int .i64 y1, .bool y2]] w fun e w' => e = .returned (.bool (eqD (x0, x1, x2) (y0, y1, y2))) ∧ Below w.heap.size w w' := by
  have b2 : Below w.heap.size w ((w.alloc (.cells #[.int .i64 x0, .int .i64 x1, .bool x2] 59)).alloc (.cells #[.int .i64 y0, .int .i64 y1, .bool y2] 59)) := ((Below.refl _ _).alloc (Nat.le_refl _) _).alloc (by simp) _
  by_cases h0 : x0 = y0
  · subst h0
    by_cases h1 : x1 = y1
    · subst h1
      by_cases h2 : x2 = y2
      · subst h2
        rw [show eqD (x0, x1, x2) (x0, x1, x2) = true from decide_eq_true rfl]
        go_enter Try.func72, Try.ntmps72
        go_wp2
        go_ret
        exact ⟨rfl, b2⟩
      · have e : eqD (x0, x1, x2) (x0, x1, y2) = false := by unfold eqD; simp [h2]
        rw [e]
        have hb : (x2 != y2) = true := by simp [h2]
        clear e
        cases x2 <;> cases y2 <;> first | exact absurd rfl h2 | skip
        all_goals
          clear h2 hb
          go_enter Try.func72, Try.ntmps72
          go_wp2
          go_ret
          exact ⟨rfl, b2⟩
    · have e : eqD (x0, x1, x2) (x0, y1, y2) = false := by unfold eqD; simp [h1]
      rw [e]
      have hb : (x1 != y1) = true := by simp [h1]
      clear e
      clear h1
      go_enter Try.func72, Try.ntmps72
      go_wp2
      go_ret
      exact ⟨rfl, b2⟩
  · have e : eqD (x0, x1, x2) (y0, y1, y2) = false := by unfold eqD; simp [h0]
    rw [e]
    have hb : (x0 != y0) = true := by simp [h0]
    clear e
    clear h0
    go_enter Try.func72, Try.ntmps72
    go_wp2
    go_ret
    exact ⟨rfl, b2⟩

theorem eq_take (xs ys : List D) (k : Nat) (hx : k < xs.length) (hy : k < ys.length) (h : xs.take k = ys.take k) (e : xs.getD k d0 = ys.getD k d0) : xs.take (k + 1) = ys.take (k + 1) := by
  rw [take_succ hx, take_succ hy, h, e]

set_option maxHeartbeats 1600000 in
theorem eqS (a b : Option Addr) (n m ca cb : Nat) (xs ys : List D) (w : World) (ha : IsX w a n ca xs) (hb : IsX w b m cb ys) (hn : n ≤ 1048576) (hm : m ≤ 1048576) :
    Calls Try.prog 38 #[.slice a n ca, .slice b m cb] w fun e w' => e = .returned (.bool (decide (xs = ys))) ∧ Below w.heap.size w w' := by
  have la := ha.len
  have lb := hb.len
  by_cases hl : n = m
  · subst hl
    have HAs : Hid (0 < n → ∃ b off, a = some ⟨b, off, none⟩ ∧ b < w.heap.size ∧ ∀ i, i < n → w.cell? ⟨b, off + i * 3, none⟩ = some (.int .i64 ((xs.getD i d0).1)) ∧ w.cell? ⟨b, off + i * 3 + 1, none⟩ = some (.int .i64 ((xs.getD i d0).2.1)) ∧ w.cell? ⟨b, off + i * 3 + 2, none⟩ = some (.bool ((xs.getD i d0).2.2))) := ha.cells
    have HBs : Hid (0 < n → ∃ c off, b = some ⟨c, off, none⟩ ∧ c < w.heap.size ∧ ∀ i, i < n → w.cell? ⟨c, off + i * 3, none⟩ = some (.int .i64 ((ys.getD i d0).1)) ∧ w.cell? ⟨c, off + i * 3 + 1, none⟩ = some (.int .i64 ((ys.getD i d0).2.1)) ∧ w.cell? ⟨c, off + i * 3 + 2, none⟩ = some (.bool ((ys.getD i d0).2.2))) := hb.cells
    have LA : Hid (xs.length = n) := la
    have LB : Hid (ys.length = n) := lb
    clear la lb ha hb
    go_enter Try.func38, Try.ntmps38
    go_wp2
    go_loopw [5] (fun i wr => ∃ k : Nat, k ≤ n ∧ i = .int .i64 k ∧ xs.take k = ys.take k ∧ Below w.heap.size w wr) (fun i _ => n - (intOf i).toNat)
    case atStart => exact ⟨0, Nat.zero_le _, rfl, rfl, Below.refl _ _⟩
    case round =>
      obtain ⟨k, hk, rfl, heq, hnx⟩ := hrel
      have Heq : Hid (xs.take k = ys.take k) := heq
      have Hn : Hid (Below w.heap.size w wr) := hnx
      clear heq hnx
      by_cases hlt : k < n
      · obtain ⟨b1, o1, rfl, hb1, hc1⟩ := HAs.out (by omega)
        obtain ⟨b2, o2, rfl, hb2, hc2⟩ := HBs.out (by omega)
        have p0 : wr.cell? ⟨b1, o1 + k * 3, none⟩ = some (.int .i64 ((xs.getD k d0).1)) := by rw [Hn.out.cell (p := ⟨b1, o1 + k * 3, none⟩) hb1]; exact (hc1 k hlt).1
        have q0 : wr.cell? ⟨b2, o2 + k * 3, none⟩ = some (.int .i64 ((ys.getD k d0).1)) := by rw [Hn.out.cell (p := ⟨b2, o2 + k * 3, none⟩) hb2]; exact (hc2 k hlt).1
        have p1 : wr.cell? ⟨b1, o1 + k * 3 + 1, none⟩ = some (.int .i64 ((xs.getD k d0).2.1)) := by rw [Hn.out.cell (p := ⟨b1, o1 + k * 3 + 1, none⟩) hb1]; exact (hc1 k hlt).2.1
        have q1 : wr.cell? ⟨b2, o2 + k * 3 + 1, none⟩ = some (.int .i64 ((ys.getD k d0).2.1)) := by rw [Hn.out.cell (p := ⟨b2, o2 + k * 3 + 1, none⟩) hb2]; exact (hc2 k hlt).2.1
        have p2 : wr.cell? ⟨b1, o1 + k * 3 + 2, none⟩ = some (.bool ((xs.getD k d0).2.2)) := by rw [Hn.out.cell (p := ⟨b1, o1 + k * 3 + 2, none⟩) hb1]; exact (hc1 k hlt).2.2
        have q2 : wr.cell? ⟨b2, o2 + k * 3 + 2, none⟩ = some (.bool ((ys.getD k d0).2.2)) := by rw [Hn.out.cell (p := ⟨b2, o2 + k * 3 + 2, none⟩) hb2]; exact (hc2 k hlt).2.2
        have hkI : (k : Int) < (n : Int) := by omega
        have hk0 : (0 : Int) ≤ (k : Int) := by omega
        have HXY : Hid (∀ x y, xs.getD k d0 = x → ys.getD k d0 = y → (x = y → xs.take (k + 1) = ys.take (k + 1)) ∧ (x ≠ y → xs ≠ ys)) := fun x y ex ey =>
          ⟨fun e => eq_take xs ys k (by rw [LA.out]; exact hlt) (by rw [LB.out]; exact hlt) Heq.out (by rw [ex, ey, e]), fun e h => e (by rw [← ex, ← ey, h])⟩
        generalize hx : xs.getD k d0 = x at p0 p1 p2
        generalize hy : ys.getD k d0 = y at q0 q1 q2
        have HF : Hid _ := HXY.out x y hx hy
        obtain ⟨x0, x1, x2⟩ := x
        obtain ⟨y0, y1, y2⟩ := y
        simp only at p0 q0 p1 q1 p2 q2
        clear hc1 hc2 hx hy HXY
        cases hE : eqD (x0, x1, x2) (y0, y1, y2)
        · have HE : Hid (eqD (x0, x1, x2) (y0, y1, y2) = false) := hE
          have F : Hid (decide (xs = ys) = false) := decide_eq_false (HF.out.2 (of_decide_eq_false hE))
          clear hE HF
          go_wp2_with fail
          go_region_held3 (fun w' => Below wr.heap.size wr w' ∧ w'.cell? ⟨b1, o1 + k * 3, none⟩ = some (.int .i64 (x0)) ∧ w'.cell? ⟨b1, o1 + k * 3 + 1, none⟩ = some (.int .i64 (x1)) ∧ w'.cell? ⟨b1, o1 + k * 3 + 2, none⟩ = some (.bool (x2)) ∧ w'.cell? ⟨b2, o2 + k * 3, none⟩ = some (.int .i64 (y0)) ∧ w'.cell? ⟨b2, o2 + k * 3 + 1, none⟩ = some (.int .i64 (y1)) ∧ w'.cell? ⟨b2, o2 + k * 3 + 2, none⟩ = some (.bool (y2)))
            (first | exact ⟨(Below.refl _ _).drew, p0, p1, p2, q0, q1, q2⟩ | exact (fun kb => ⟨kb, Frame.held_cell kb p0, Frame.held_cell kb p1, Frame.held_cell kb p2, Frame.held_cell kb q0, Frame.held_cell kb q1, Frame.held_cell kb q2⟩) (Frame.held_next ‹Below wr.heap.size wr _ ∧ _› hb))
            (first | (go_at_call 72; refine (eqOne _ _ _ _ _ _ _).mono ?_; rintro e w1 ⟨rfl, hb⟩; rw [HE.out]))
          have Hn1 : Hid (Below w.heap.size w w1) := Frame.next Hn.out (And.left ‹Below wr.heap.size wr _ ∧ _›) Hn.out.size
          clear p0 q0 p1 q1 p2 q2 hb
          go_wp2
          go_ret
          exact ⟨Ints.ret_bool F.out.symm, Hn1.out⟩
        · have HE : Hid (eqD (x0, x1, x2) (y0, y1, y2) = true) := hE
          have F : Hid (xs.take (k + 1) = ys.take (k + 1)) := HF.out.1 (of_decide_eq_true hE)
          clear hE HF
          go_wp2_with fail
          go_region_held3 (fun w' => Below wr.heap.size wr w' ∧ w'.cell? ⟨b1, o1 + k * 3, none⟩ = some (.int .i64 (x0)) ∧ w'.cell? ⟨b1, o1 + k * 3 + 1, none⟩ = some (.int .i64 (x1)) ∧ w'.cell? ⟨b1, o1 + k * 3 + 2, none⟩ = some (.bool (x2)) ∧ w'.cell? ⟨b2, o2 + k * 3, none⟩ = some (.int .i64 (y0)) ∧ w'.cell? ⟨b2, o2 + k * 3 + 1, none⟩ = some (.int .i64 (y1)) ∧ w'.cell? ⟨b2, o2 + k * 3 + 2, none⟩ = some (.bool (y2)))
            (first | exact ⟨(Below.refl _ _).drew, p0, p1, p2, q0, q1, q2⟩ | exact (fun kb => ⟨kb, Frame.held_cell kb p0, Frame.held_cell kb p1, Frame.held_cell kb p2, Frame.held_cell kb q0, Frame.held_cell kb q1, Frame.held_cell kb q2⟩) (Frame.held_next ‹Below wr.heap.size wr _ ∧ _› hb))
            (first | (go_at_call 72; refine (eqOne _ _ _ _ _ _ _).mono ?_; rintro e w1 ⟨rfl, hb⟩; rw [HE.out]))
          have Hn1 : Hid (Below w.heap.size w w1) := Frame.next Hn.out (And.left ‹Below wr.heap.size wr _ ∧ _›) Hn.out.size
          clear p0 q0 p1 q1 p2 q2 hb
          go_wp2
          go_roundw
          case rel => exact ⟨k + 1, by omega, by go_num, F.out, Hn1.out⟩
          case measure => simp [intOf]; omega
      · have F : Hid (decide (xs = ys) = true) := decide_eq_true (by
          have h := Heq.out
          rwa [List.take_of_length_le (by rw [LA.out]; omega), List.take_of_length_le (by rw [LB.out]; omega)] at h)
        go_wp2
        go_ret
        exact ⟨Ints.ret_bool F.out.symm, Hn.out⟩
  · have e : decide (xs = ys) = false := decide_eq_false (fun h => hl (by rw [← la, ← lb, h]))
    rw [e]
    have hne : ((n : Int) != (m : Int)) = true := by rw [bne_iff_ne]; omega
    clear e ha hb la lb hl
    go_enter Try.func38, Try.ntmps38
    go_wp2
    go_ret
    exact ⟨rfl, Below.refl _ _⟩

def mark (k : Int) (i : Nat) : D := (k + 3 * (i : Int), k + 3 * (i : Int) + 1, ((k + 3 * (i : Int) + 1 + 1) % 3 == 0))
def marks (k : Int) (n : Nat) : List D := (List.range n).map (mark k)
theorem marks_length (k : Int) (n : Nat) : (marks k n).length = n := by simp [marks]
theorem marks_get (k : Int) (n i : Nat) (h : i < n) : (marks k n).getD i d0 = mark k i := by simp [marks, List.getD, h]
theorem marks_wf (k : Int) (n : Nat) (h0 : 0 ≤ k) (h1 : k + 3 * (n : Int) ≤ 9223372036854775807) : ∀ v ∈ marks k n, ok v := by
  intro v hv
  simp only [marks, List.mem_map, List.mem_range] at hv
  obtain ⟨i, hi, rfl⟩ := hv
  exact ⟨int_wf _ (by simp only [mark]; omega) (by simp only [mark]; omega), int_wf _ (by simp only [mark]; omega) (by simp only [mark]; omega)⟩

theorem mark_part (k0 : Int) (xs : List D) (n k : Nat) (h : k < n) (hn : xs.length = n) :
    (((cells ((marks k0 n).take k ++ xs.drop k)).set (k * 3) (.int .i64 ((mark k0 k).1))).set (k * 3 + 1) (.int .i64 ((mark k0 k).2.1))).set (k * 3 + 2) (.bool ((mark k0 k).2.2)) = cells ((marks k0 n).take (k + 1) ++ xs.drop (k + 1)) := by
  rw [drop_cons (by omega), set_one _ _ _ (mark k0 k) k (by rw [List.length_take, marks_length]; omega), take_succ (by rw [marks_length]; exact h), marks_get k0 n k h]
  simp

set_option maxHeartbeats 800000 in
theorem markS (a : Option Addr) (n cap : Nat) (xs : List D) (k0 : Int) (base : Nat) (w : World) (h : w.ownsRow base 59 3 (.slice a n cap) n (cells xs)) (hn : n ≤ 1048576) (hk0 : 0 ≤ k0) (hk1 : k0 ≤ 1000000000000) :
    Calls Try.prog 40 #[.slice a n cap, .int .i64 k0] w fun e w' => e = .returned (.int .i64 (k0 + 3 * (n : Int))) ∧ w'.ownsRow base 59 3 (.slice a n cap) n (cells (marks k0 n)) ∧ OnlyAt a w w' := by
  have hl : xs.length = n := by have := h.1; rw [cells_length] at this; omega
  have HL : Hid (xs.length = n) := hl
  have HO : Hid (w.ownsRow base 59 3 (.slice a n cap) n (cells xs)) := h
  clear hl h
  go_enter Try.func40, Try.ntmps40
  go_wp2
  go_loopw [1, 5] (fun m i wr => ∃ k : Nat, k ≤ n ∧ i = .int .i64 k ∧ m = .int .i64 (k0 + 3 * (k : Int)) ∧ wr.ownsRow base 59 3 (.slice a n cap) n (cells ((marks k0 n).take k ++ xs.drop k)) ∧ OnlyAt a w wr) (fun _ i _ => n - (intOf i).toNat)
  case atStart => exact ⟨0, Nat.zero_le _, rfl, by simp, by simpa using HO.out, OnlyAt.refl _ _⟩
  case round =>
    obtain ⟨k, hk, rfl, rfl, hown, ht⟩ := hrel
    by_cases hlt : k < n
    · obtain ⟨g, rfl⟩ : ∃ g, a = some ⟨g, 0, none⟩ := by
        rcases hown.2 with ⟨h2, _⟩ | ⟨g, cap', cur, hv, _⟩
        · simp at h2; omega
        · simp only [Value.slice.injEq] at hv
          exact ⟨g, hv.1⟩
      have hst := (((hown.stored (k * 3) (.int .i64 ((mark k0 k).1))).1.stored (k * 3 + 1) (.int .i64 ((mark k0 k).2.1))).1.stored (k * 3 + 2) (.bool ((mark k0 k).2.2))).1
      rw [mark_part k0 xs n k hlt HL.out] at hst
      have Hst : Hid _ := hst
      have hl : (cells ((marks k0 n).take k ++ xs.drop k)).length = n * 3 := by simpa using hown.1
      have f0 := hown.frozenAt (k * 3)
      obtain ⟨o0, ho0⟩ : ∃ o, wr.cell? ⟨g, k * 3, none⟩ = some o := by rw [hown.cellAt _ (by omega)]; exact ⟨_, List.getElem?_eq_getElem (by omega)⟩
      have f1 := hown.frozenAt (k * 3 + 1)
      obtain ⟨o1, ho1⟩ : ∃ o, wr.cell? ⟨g, k * 3 + 1, none⟩ = some o := by rw [hown.cellAt _ (by omega)]; exact ⟨_, List.getElem?_eq_getElem (by omega)⟩
      have f2 := hown.frozenAt (k * 3 + 2)
      obtain ⟨o2, ho2⟩ : ∃ o, wr.cell? ⟨g, k * 3 + 2, none⟩ = some o := by rw [hown.cellAt _ (by omega)]; exact ⟨_, List.getElem?_eq_getElem (by omega)⟩
      have Ht : Hid (OnlyAt (some ⟨g, 0, none⟩) w wr) := ht
      clear hst hown ht hl
      go_wp2
      go_roundw
      case rel => exact ⟨k + 1, by omega, by go_num, by go_num, Hst.out, (((Ht.out.setCell (fun x hx => by cases hx; rfl) (by simp) _).setCell (fun x hx => by cases hx; rfl) (by simp) _).setCell (fun x hx => by cases hx; rfl) (by simp) _)⟩
      case measure => simp [intOf]; omega
    · obtain rfl : k = n := by omega
      have e : (marks k0 k).take k ++ xs.drop k = marks k0 k := by
        rw [List.take_of_length_le (by rw [marks_length]; omega), List.drop_of_length_le (by rw [HL.out]; omega)]
        simp
      rw [e] at hown
      have HO2 : Hid _ := hown
      have Ht : Hid _ := ht
      clear hown ht
      go_wp2
      go_ret
      exact ⟨rfl, HO2.out, Ht.out⟩

set_option maxHeartbeats 800000 in
theorem heldS (a : Option Addr) (n cap : Nat) (k0 : Int) (w : World) (h : IsX w a n cap (marks k0 n)) (hn : n ≤ 1048576) (hk0 : 0 ≤ k0) (hk1 : k0 ≤ 1000000000000) :
    Calls Try.prog 44 #[.slice a n cap, .int .i64 k0] w fun e w' => e = .returned (.int .i64 (k0 + 3 * (n : Int))) ∧ Below w.heap.size w w' := by
  have HAs : Hid (0 < n → ∃ b off, a = some ⟨b, off, none⟩ ∧ b < w.heap.size ∧ ∀ i, i < n → w.cell? ⟨b, off + i * 3, none⟩ = some (.int .i64 (((marks k0 n).getD i d0).1)) ∧ w.cell? ⟨b, off + i * 3 + 1, none⟩ = some (.int .i64 (((marks k0 n).getD i d0).2.1)) ∧ w.cell? ⟨b, off + i * 3 + 2, none⟩ = some (.bool (((marks k0 n).getD i d0).2.2))) := h.cells
  clear h
  go_enter Try.func44, Try.ntmps44
  go_wp2
  go_loopw [1, 5] (fun m i wr => ∃ k : Nat, k ≤ n ∧ i = .int .i64 k ∧ m = .int .i64 (k0 + 3 * (k : Int)) ∧ Below w.heap.size w wr) (fun _ i _ => n - (intOf i).toNat)
  case atStart => exact ⟨0, Nat.zero_le _, rfl, by simp, Below.refl _ _⟩
  case round =>
    obtain ⟨k, hk, rfl, rfl, hnx⟩ := hrel
    have HN : Hid (Below w.heap.size w wr) := hnx
    clear hnx
    by_cases hlt : k < n
    · obtain ⟨b, off, rfl, hbl, hc⟩ := HAs.out (by omega)
      have h0 : wr.cell? ⟨b, off + k * 3, none⟩ = some (.int .i64 (k0 + 3 * (k : Int))) := by rw [HN.out.cell (p := ⟨b, off + k * 3, none⟩) hbl, (hc k hlt).1, marks_get k0 n k hlt]; rfl
      have h1 : wr.cell? ⟨b, off + k * 3 + 1, none⟩ = some (.int .i64 (k0 + 3 * (k : Int) + 1)) := by rw [HN.out.cell (p := ⟨b, off + k * 3 + 1, none⟩) hbl, (hc k hlt).2.1, marks_get k0 n k hlt]; rfl
      have h2 : wr.cell? ⟨b, off + k * 3 + 2, none⟩ = some (.bool (((k0 + 3 * (k : Int) + 1 + 1) % 3 == 0))) := by rw [HN.out.cell (p := ⟨b, off + k * 3 + 2, none⟩) hbl, (hc k hlt).2.2, marks_get k0 n k hlt]; rfl
      have hkI : (k : Int) < (n : Int) := by omega
      clear hc
      go_wp2
      go_roundw
      case rel => exact ⟨k + 1, by omega, by go_num, by go_num, HN.out⟩
      case measure => simp [intOf]; omega
    · obtain rfl : k = n := by omega
      go_wp2
      go_ret
      exact ⟨rfl, HN.out⟩

def left (m : Int) (t : Int) : Int := if m < t then -1 else m - t
theorem x_sz (a : Option Addr) (n cap : Nat) (m : Int) (w : World) (hn : n ≤ maxLen) (h0 : 0 ≤ m) (h1 : m ≤ 1048576) :
    Calls Try.prog 35 #[.slice a n cap, .int .i64 m] w fun e w' => e = .returned (.int .i64 (left m n)) ∧ Below w.heap.size w w' := by
  unfold maxLen at hn
  by_cases h : m < (n : Int)
  · have e : left m n = -1 := by unfold left; simp [h]
    rw [e]
    have hz : m - (n : Int) < 0 := by omega
    go_enter Try.func35, Try.ntmps35
    go_wp2
    go_ret
    exact ⟨rfl, Below.refl _ _⟩
  · have e : left m n = m - n := by unfold left; simp [h]
    rw [e]
    have hz : ¬ m - (n : Int) < 0 := by omega
    go_enter Try.func35, Try.ntmps35
    go_wp2
    go_ret
    exact ⟨rfl, Below.refl _ _⟩

def XIs (w : World) (v : Value) (zs : List D) : Prop := ∃ a n cap, v = .slice a n cap ∧ IsX w a n cap zs ∧ n ≤ 1048576
def XOwn (w : World) (lo hi : Nat) (v : Value) (zs : List D) : Prop := ∃ a n cap, v = .slice a n cap ∧ w.ownsRow lo 59 3 (.slice a n cap) n (cells zs) ∧ (∀ z ∈ zs, ok z) ∧ n ≤ 1048576 ∧ ∀ x, a = some x → lo ≤ x.block ∧ x.block < hi
def XMarked (w : World) (lo hi : Nat) (v : Value) (k nx : Int) : Prop := ∃ n : Nat, XOwn w lo hi v (marks k n) ∧ nx = k + 3 * (n : Int) ∧ 0 ≤ k ∧ k ≤ 50000000

theorem xOwn_of {w : World} {lo : Nat} {a : Option Addr} {n cap : Nat} {zs : List D} (h : w.ownsRow lo 59 3 (.slice a n cap) n (cells zs)) (hw : ∀ z ∈ zs, ok z) (hn : n ≤ 1048576) : XOwn w lo w.heap.size (.slice a n cap) zs :=
  ⟨a, n, cap, rfl, h, hw, hn, own_block h⟩
theorem xIs_below {w w' : World} {v : Value} {zs : List D} (h : XIs w v zs) (hb : Below w.heap.size w w') : XIs w' v zs := by
  obtain ⟨a, n, cap, rfl, hr, hn⟩ := h
  exact ⟨a, n, cap, rfl, hr.below hb, hn⟩
theorem xOwn_is {w : World} {lo hi : Nat} {v : Value} {zs : List D} (h : XOwn w lo hi v zs) : XIs w v zs := by
  obtain ⟨a, n, cap, rfl, ho, hw, hn, _⟩ := h
  obtain ⟨a', c', e, hr⟩ := isX_own ho hw
  cases e
  exact ⟨_, _, _, rfl, hr, hn⟩
theorem xOwn_keeps {w w' : World} {lo hi lo' hi' : Nat} {v : Value} {zs : List D} (h : XOwn w lo hi v zs) (t : Keeps lo' hi' w w') (hd : hi ≤ lo' ∨ hi' ≤ lo) : XOwn w' lo hi v zs := by
  obtain ⟨a, n, cap, rfl, ho, hw, hn, hb⟩ := h
  exact ⟨a, n, cap, rfl, own_keeps ho hb t hd, hw, hn, hb⟩
theorem xMarked_keeps {w w' : World} {lo hi lo' hi' : Nat} {v : Value} {k nx : Int} (h : XMarked w lo hi v k nx) (t : Keeps lo' hi' w w') (hd : hi ≤ lo' ∨ hi' ≤ lo) : XMarked w' lo hi v k nx := by
  obtain ⟨n, h1, h2⟩ := h
  exact ⟨n, xOwn_keeps h1 t hd, h2⟩
theorem xOwn_below {w w' : World} {lo hi : Nat} {v : Value} {zs : List D} (h : XOwn w lo hi v zs) (hb : Below w.heap.size w w') : XOwn w' lo hi v zs := xOwn_keeps (lo' := hi) (hi' := hi) h (Keeps.of_below hb) (Or.inl (Nat.le_refl _))
theorem xMarked_below {w w' : World} {lo hi : Nat} {v : Value} {k nx : Int} (h : XMarked w lo hi v k nx) (hb : Below w.heap.size w w') : XMarked w' lo hi v k nx := xMarked_keeps (lo' := hi) (hi' := hi) h (Keeps.of_below hb) (Or.inl (Nat.le_refl _))

theorem x_to (v : Value) (zs : List D) (w : World) (h : XIs w v zs) : Calls Try.prog 37 #[v] w fun e w' => ∃ u, e = .returned u ∧ XOwn w' w.heap.size w'.heap.size u zs ∧ Below w.heap.size w w' := by
  obtain ⟨a, n, cap, rfl, hr, hn⟩ := h
  refine (toS a n cap zs w hr hn).mono ?_
  rintro e w' ⟨rfl, ho, hb⟩
  exact ⟨_, rfl, xOwn_of ho hr.wf hn, hb⟩

theorem x_eq (u v : Value) (xs ys : List D) (w : World) (h1 : XIs w u xs) (h2 : XIs w v ys) : Calls Try.prog 38 #[u, v] w fun e w' => e = .returned (.bool (decide (xs = ys))) ∧ Below w.heap.size w w' := by
  obtain ⟨a, n, cap, rfl, hr, hn⟩ := h1
  obtain ⟨b, m, cb, rfl, hs, hm⟩ := h2
  exact eqS a b n m cap cb xs ys w hr hs hn hm

theorem x_mark (v : Value) (zs : List D) (lo hi : Nat) (k : Int) (w : World) (h : XOwn w lo hi v zs) (hk0 : 0 ≤ k) (hk1 : k ≤ 50000000) :
    Calls Try.prog 40 #[v, .int .i64 k] w fun e w' => ∃ nx, e = .returned (.int .i64 nx) ∧ 0 ≤ nx ∧ nx ≤ k + 8000000 ∧ XMarked w' lo hi v k nx ∧ Keeps lo hi w w' := by
  obtain ⟨a, n, cap, rfl, ho, hw, hn, hb⟩ := h
  refine (markS a n cap zs k lo w ho hn hk0 (by omega)).mono ?_
  rintro e w' ⟨rfl, ho', ht⟩
  exact ⟨_, rfl, by omega, by omega, ⟨n, ⟨a, n, cap, rfl, ho', marks_wf k n hk0 (by omega), hn, hb⟩, rfl, hk0, hk1⟩, Keeps.of_only ht hb⟩

theorem x_held (v : Value) (lo hi : Nat) (k nx : Int) (w : World) (h : XMarked w lo hi v k nx) :
    Calls Try.prog 44 #[v, .int .i64 k] w fun e w' => e = .returned (.int .i64 nx) ∧ Below w.heap.size w w' := by
  obtain ⟨n, ⟨a, m, cap, rfl, ho, hw, hm, hb⟩, rfl, hk0, hk1⟩ := h
  have hnm : n = m := by have := ho.1; rw [cells_length, marks_length] at this; omega
  subst hnm
  obtain ⟨a', c', e, hr⟩ := isX_own ho hw
  cases e
  refine (heldS _ _ _ k w hr hm hk0 (by omega)).mono ?_
  rintro e w' ⟨rfl, hb'⟩
  exact ⟨rfl, hb'⟩

set_option maxRecDepth 20000 in
theorem one_of {H : Type} {enc : TypeId × Value → H} {W : World} {fuel : Nat} {cs : List Value} {x : DataW H × List MemPlace} (h : DataW.trod enc Try.prog W 0 (fun _ => true) true fuel 86 cs = some x) (hlen : cs.length = 3) : ∃ v : D, cs = one v ∧ ok v := by
  have k1 : Try.prog.cellsOf 3 = 1 := by kernel_rfl
  have k2 : Try.prog.cellsOf 4 = 1 := by kernel_rfl
  obtain ⟨xs, n, _, _, hl, hlen', hff⟩ := DataW.trod_struct Try.underlying86 h
  obtain ⟨c0, c1, c2, rfl⟩ : ∃ c0 c1 c2, cs = [c0, c1, c2] := by
    match cs, hlen with
    | [c0, c1, c2], _ => exact ⟨c0, c1, c2, rfl⟩
  have g0 := hff 0 _ rfl
  have g1 := hff 1 _ rfl
  have g2 := hff 2 _ rfl
  have hxl : xs.length = 3 := hlen'
  obtain ⟨u0, u1, u2, rfl⟩ : ∃ u0 u1 u2, xs = [u0, u1, u2] := by
    match xs, hxl with
    | [u0, u1, u2], _ => exact ⟨u0, u1, u2, rfl⟩
  simp [k1, k2] at g0 g1 g2
  obtain ⟨r0, e0, _, w0⟩ := DataW.trod_int Try.underlying3 g0
  obtain ⟨r1, e1, _, w1⟩ := DataW.trod_int Try.underlying3 g1
  obtain ⟨r2, e2, _⟩ := DataW.trod_bool Try.underlying4 g2
  simp at e0 e1 e2
  subst e0 e1 e2
  exact ⟨(r0, r1, r2), rfl, ⟨w0, w1⟩⟩

theorem add_at (b off j : Nat) : (⟨b, off, none⟩ : Addr).add j = ⟨b, off + j, none⟩ := by unfold Addr.add; split <;> simp_all
theorem getD_map_range {α : Type} (n : Nat) (f : Nat → α) (d : α) (i : Nat) (h : i < n) : ((List.range n).map f).getD i d = f i := by simp [List.getD, h]

set_option maxRecDepth 20000 in
theorem isX_of {H : Type} {enc : TypeId × Value → H} {W : World} {a : Option Addr} {len cap : Nat} {d : DataW H} {p : List MemPlace}
    (h : DataW.Trod enc Try.prog W 0 (fun _ => true) true 43 (.slice a len cap) d p) : ∃ vs, IsX W a len cap vs := by
  obtain ⟨fuel, hf⟩ := h
  have hC : Try.prog.cellsOf 86 = 3 := by kernel_rfl
  rcases open_slice Try.underlying43 hf with ⟨e, _⟩ | ⟨a', len', cap', m, n, Dd, Pl, e, hb, hl, hm, hmm, _, hel⟩
  · simp [Value.cells] at e
    obtain ⟨rfl, rfl, rfl⟩ := e
    exact ⟨[], rfl, Nat.le_refl _, by simp [maxLen], by simp, fun h => absurd h (by omega)⟩
  · simp [Value.cells] at e
    obtain ⟨rfl, rfl, rfl⟩ := e
    have hm' : m = cap := by simpa using hmm
    subst hm'
    have each : ∀ i, i < m → ∃ v : D, ok v ∧ W.cell? (a'.add (i * 3)) = some (.int .i64 (v.1)) ∧ W.cell? (a'.add (i * 3 + 1)) = some (.int .i64 (v.2.1)) ∧ W.cell? (a'.add (i * 3 + 2)) = some (.bool (v.2.2)) := by
      intro i hi
      obtain ⟨cs', hcs, htr⟩ := hel i hi
      rw [hC] at hcs
      have hc := World.cells?_some hcs
      have hlen : cs'.length = 3 := hc.2.1
      obtain ⟨v, rfl, hv⟩ := one_of htr hlen
      refine ⟨v, hv, ?_, ?_, ?_⟩
      · have := hc.2.2 0 (by omega)
        rw [add_add, Nat.add_zero] at this
        exact this
      · have := hc.2.2 1 (by omega)
        rw [add_add] at this
        exact this
      · have := hc.2.2 2 (by omega)
        rw [add_add] at this
        exact this
    haveI : Inhabited D := ⟨d0⟩
    obtain ⟨V, hV⟩ := choose_lt each
    refine ⟨(List.range len).map V, by simp, hl, hm, ?_, fun h0 => ?_⟩
    · intro v hv
      obtain ⟨i, hi, rfl⟩ := List.mem_map.1 hv
      exact (hV i (by have := List.mem_range.1 hi; omega)).1
    · obtain ⟨b, off, spot⟩ := a'
      have h00 := (hV 0 (by omega)).2.1
      have hspot : spot = none := by simpa [Addr.add] using World.cell?_spot h00
      subst hspot
      refine ⟨b, off, rfl, by simpa [Addr.add] using cell_lt h00, fun i hi => ?_⟩
      have := (hV i (by omega)).2
      rw [add_at, add_at, add_at] at this
      rw [getD_map_range _ _ _ _ hi]
      exact this

theorem isX_pre {w : World} {a : Option Addr} {n c k : Nat} {zs : List D} (h : IsX w a n c zs) (hk : k ≤ n) : IsX w a k c (zs.take k) := by
  refine ⟨by rw [List.length_take, h.len]; omega, Nat.le_trans hk h.fits, h.max, fun z hz => h.wf z (List.mem_of_mem_take hz), fun h0 => ?_⟩
  obtain ⟨b, off, ha, hb, hc⟩ := h.cells (by omega)
  refine ⟨b, off, ha, hb, fun i hi => ?_⟩
  have e : (zs.take k).getD i d0 = zs.getD i d0 := by simp [List.getD, hi]
  rw [e]
  exact hc i (by omega)
theorem isX_suf {w : World} {b off n c k : Nat} {zs : List D} (h : IsX w (some ⟨b, off, none⟩) n c zs) (hk : k ≤ n) : IsX w (some ⟨b, off + k * 3, none⟩) (n - k) (c - k) (zs.drop k) := by
  have := h.fits
  have := h.max
  refine ⟨by rw [List.length_drop, h.len], by omega, by omega, fun z hz => h.wf z (List.mem_of_mem_drop hz), fun h0 => ?_⟩
  obtain ⟨b', off', ha, hb, hc⟩ := h.cells (by omega)
  cases ha
  refine ⟨b, off + k * 3, rfl, hb, fun i hi => ?_⟩
  have e : (zs.drop k).getD i d0 = zs.getD (k + i) d0 := by simp [List.getD, List.getElem?_drop]
  have e2 : off + k * 3 + i * 3 = off + (k + i) * 3 := by omega
  rw [e, e2]
  exact hc (k + i) (by omega)
theorem one_cells (zs : List D) : ∀ u ∈ cells zs, u.oneCell' = true := by
  intro u hu
  unfold cells at hu
  obtain ⟨z, _, hz⟩ := List.mem_flatMap.1 hu
  simp only [one, List.mem_cons, List.not_mem_nil, or_false] at hz
  rcases hz with rfl | rfl | rfl <;> rfl
theorem news_x {w : World} {a : Option Addr} {n c : Nat} {zs : List D} (h : IsX w a n c zs) : 0 < n → ∃ ad, a = some ad ∧ ∀ j u, (cells zs)[j]? = some u → w.cell? (ad.add j) = some u := fun h0 => by
  obtain ⟨b, off, ha, _, hc⟩ := h.cells h0
  refine ⟨_, ha, fun j u hu => ?_⟩
  have hj : j < zs.length * 3 := by
    by_cases hx : j < zs.length * 3
    · exact hx
    · rw [List.getElem?_eq_none (by rw [cells_length]; omega)] at hu; cases hu
  have hi : j / 3 < zs.length := by omega
  have hg := cells_get zs (j / 3) hi
  have hcc := hc (j / 3) (by rw [← h.len]; exact hi)
  rw [add_at]
  rcases (by omega : j = j / 3 * 3 ∨ j = j / 3 * 3 + 1 ∨ j = j / 3 * 3 + 2) with hm | hm | hm
  · rw [hm, hcc.1]
    rw [hm, hg.1] at hu
    exact hu
  · rw [hm, ← Nat.add_assoc, hcc.2.1]
    rw [hm, hg.2.1] at hu
    exact hu
  · rw [hm, ← Nat.add_assoc, hcc.2.2]
    rw [hm, hg.2.2] at hu
    exact hu


end Go.Proofs.Yteihgbiifcgipaa.FAct
