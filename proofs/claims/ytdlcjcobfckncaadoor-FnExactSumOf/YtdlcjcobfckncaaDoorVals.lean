/-
  Slices of values (a bool and an integer each) in memory; contracts of the laws' helpers on them.
-/
import Derived.Test.YtdlcjcobfckncaaDoorVal
import Derived.Test.YtdlcjcobfckncaaDoorInts
import Derived.Deep.Slices
namespace Go.Proofs.YtdlcjcobfckncaaDoor.Vals
open Go.RowKit
open Go.Proofs.YtdlcjcobfckncaaDoor.Frame Go.Proofs.YtdlcjcobfckncaaDoor.Mem

def vd : Bool × Int := (false, 0)
def vcells (vs : List (Bool × Int)) : List Value := vs.flatMap fun v => [.bool v.1, .int .i64 v.2]

theorem vcells_length (vs : List (Bool × Int)) : (vcells vs).length = vs.length * 2 := by
  unfold vcells
  induction vs with
  | nil => rfl
  | cons v vs ih => simp only [List.flatMap_cons, List.length_append, ih, List.length_cons, List.length_nil]; omega
theorem vcells_append (xs ys : List (Bool × Int)) : vcells (xs ++ ys) = vcells xs ++ vcells ys := by simp [vcells]
theorem vcells_get (vs : List (Bool × Int)) (i : Nat) (h : i < vs.length) : (vcells vs)[i * 2]? = some (.bool (vs.getD i vd).1) ∧ (vcells vs)[i * 2 + 1]? = some (.int .i64 (vs.getD i vd).2) := by
  induction vs generalizing i with
  | nil => simp at h
  | cons v vs ih =>
    have e : vcells (v :: vs) = [.bool v.1, .int .i64 v.2] ++ vcells vs := by simp [vcells]
    rw [e]
    cases i with
    | zero => simp
    | succ i =>
      have hi : i < vs.length := by simpa using h
      have := ih i hi
      rw [List.getElem?_append_right (by simp; omega), List.getElem?_append_right (by simp; omega)]
      simp only [List.length_cons, List.length_nil]
      rw [show (i + 1) * 2 - (0 + 1 + 1) = i * 2 by omega, show (i + 1) * 2 + 1 - (0 + 1 + 1) = i * 2 + 1 by omega]
      simpa using this

/-- What a walk is told of a slice of values. -/
structure IsVals (w : World) (a : Option Addr) (n cap : Nat) (vs : List (Bool × Int)) : Prop where
  len : vs.length = n
  fits : n ≤ cap
  max : cap ≤ maxLen
  wf : ∀ v ∈ vs, (Lit.int .i64 v.2).wf = true
  cells : 0 < n → ∃ b off, a = some ⟨b, off, none⟩ ∧ b < w.heap.size ∧ ∀ i, i < n → w.cell? ⟨b, off + i * 2, none⟩ = some (.bool (vs.getD i vd).1) ∧ w.cell? ⟨b, off + i * 2 + 1, none⟩ = some (.int .i64 (vs.getD i vd).2)

theorem IsVals.below {w w' : World} {a : Option Addr} {n cap : Nat} {vs : List (Bool × Int)} (h : IsVals w a n cap vs) (hb : Below w.heap.size w w') : IsVals w' a n cap vs := by
  refine ⟨h.len, h.fits, h.max, h.wf, fun h0 => ?_⟩
  obtain ⟨b, off, ha, hlt, hc⟩ := h.cells h0
  exact ⟨b, off, ha, Nat.lt_of_lt_of_le hlt hb.size, fun i hi => by rw [hb.cell (p := ⟨b, off + i * 2, none⟩) hlt, hb.cell (p := ⟨b, off + i * 2 + 1, none⟩) hlt]; exact hc i hi⟩

theorem isVals_own {w : World} {base : Nat} {e : TypeId} {v : Value} {n : Nat} {vs : List (Bool × Int)} (h : w.ownsRow base e 2 v n (vcells vs)) (hw : ∀ v ∈ vs, (Lit.int .i64 v.2).wf = true) :
    ∃ a cap, v = .slice a n cap ∧ IsVals w a n cap vs := by
  have h0 := h
  obtain ⟨h1, h2⟩ := h
  have hn : vs.length = n := by rw [vcells_length] at h1; omega
  rcases h2 with ⟨rfl, rfl⟩ | ⟨g, cap, cur, rfl, hg, hh, hnc, hcap, hsz, htake⟩
  · exact ⟨none, 0, rfl, hn, Nat.le_refl _, by simp [maxLen], hw, fun h => absurd h (by omega)⟩
  · refine ⟨some ⟨g, 0, none⟩, cap, rfl, hn, hnc, hcap, hw, fun _ => ⟨g, 0, rfl, ?_, fun i hi => ?_⟩⟩
    · by_cases hx : g < w.heap.size
      · exact hx
      · rw [Array.getElem?_eq_none (by omega)] at hh; cases hh
    · have := vcells_get vs i (by omega)
      rw [Nat.zero_add, h0.cellAt (i * 2) (by omega), h0.cellAt (i * 2 + 1) (by omega)]
      exact this

theorem infoV : (Tryd.prog.info? 26).map (fun i => (i.zero, i.size, i.bytes)) = some (some (.agg #[.bool false, .int .i64 0]), 2, 16) := by kernel_rfl

theorem take_succ_vd {vs : List (Bool × Int)} {i : Nat} (h : i < vs.length) : vs.take (i + 1) = vs.take i ++ [vs.getD i vd] := by
  rw [List.take_succ_eq_append_getElem h]
  simp [List.getD, h]
theorem getD_mem_vd {vs : List (Bool × Int)} {i : Nat} (h : i < vs.length) : vs.getD i vd ∈ vs := by
  simp only [List.getD, List.getElem?_eq_getElem h, Option.getD_some]
  exact List.getElem_mem h

theorem set_part2 (vs : List (Bool × Int)) (n k : Nat) (h : k < vs.length) (hn : vs.length = n) :
    ((vcells (vs.take k ++ List.replicate (n - k) vd)).set (k * 2) (.bool (vs.getD k vd).1)).set (k * 2 + 1) (.int .i64 (vs.getD k vd).2) = vcells (vs.take (k + 1) ++ List.replicate (n - (k + 1)) vd) := by
  have e : n - k = (n - (k + 1)) + 1 := by omega
  have hl : (vcells (vs.take k)).length = k * 2 := by rw [vcells_length, List.length_take]; omega
  rw [e, List.replicate_succ, take_succ_vd h, vcells_append, vcells_append, vcells_append]
  rw [List.set_append_right _ _ (by omega), hl, Nat.sub_self, List.set_append_right _ _ (by omega), hl]
  rw [show k * 2 + 1 - k * 2 = 1 by omega]
  simp [vcells]

theorem made_vals (n : Nat) : (madeCells #[Value.bool false, Value.int .i64 0] (n * 2)).toList = vcells (List.replicate n vd) := by
  apply List.ext_getElem?
  intro j
  by_cases hj : j < n * 2
  · have h2 := vcells_get (List.replicate n vd) (j / 2) (by simp; omega)
    have e : (List.replicate n vd).getD (j / 2) vd = vd := by simp [List.getD, show j / 2 < n by omega]
    rw [e] at h2
    rcases Nat.mod_two_eq_zero_or_one j with h | h
    · rw [show (vcells (List.replicate n vd))[j]? = some (.bool vd.1) by rw [← h2.1]; congr 1; omega]
      simp [madeCells, vd, hj, h]
    · rw [show (vcells (List.replicate n vd))[j]? = some (.int .i64 vd.2) by rw [← h2.2]; congr 1; omega]
      simp [madeCells, vd, hj, h]
  · rw [List.getElem?_eq_none (by simp [madeCells]; omega), List.getElem?_eq_none (by rw [vcells_length]; simp; omega)]

set_option maxHeartbeats 800000 in
theorem toValueS (a : Option Addr) (n cap : Nat) (vs : List (Bool × Int)) (w : World) (h : IsVals w a n cap vs) (hn : n ≤ 1048576) :
    Calls Tryd.prog 41 #[.slice a n cap] w fun e w' => e = .returned (.slice (some ⟨w.heap.size, 0, none⟩) n n) ∧ w'.ownsRow w.heap.size 26 2 (.slice (some ⟨w.heap.size, 0, none⟩) n n) n (vcells vs) ∧ Below w.heap.size w w' := by
  obtain ⟨i0, hi, hz0, hz1, hz2⟩ := info_parts infoV
  have HL : Hid (vs.length = n) := h.len
  have HCs : Hid (0 < n → ∃ b off, a = some ⟨b, off, none⟩ ∧ b < w.heap.size ∧ ∀ i, i < n → w.cell? ⟨b, off + i * 2, none⟩ = some (.bool (vs.getD i vd).1) ∧ w.cell? ⟨b, off + i * 2 + 1, none⟩ = some (.int .i64 (vs.getD i vd).2)) := h.cells
  clear h
  go_enter Tryd.func41, Tryd.ntmps41
  go_wp2_with (at_make; refine wpList_make_full _ rfl _ _ 23 rfl w.heap.size 26 i0 (.agg #[.bool false, .int .i64 0]) 2 Tryd.underlying23 hi hz0 hz1 _ _ _ _ n rfl rfl rfl rfl ?b2 ?b3 (Nat.le_refl _) ?_)
  case b2 => rw [hz2]; omega
  case b3 => unfold maxLen; omega
  intro w0 hown0 hgrow0
  go_wp2_with fail
  go_loopw [4] (fun i wr => ∃ k : Nat, k ≤ n ∧ i = .int .i64 k ∧ wr.ownsRow w.heap.size 26 2 (.slice (some ⟨w.heap.size, 0, none⟩) n n) n (vcells (vs.take k ++ List.replicate (n - k) vd)) ∧ Below w.heap.size w wr)
    (fun i _ => n - (intOf i).toNat)
  case atStart =>
    refine ⟨0, Nat.zero_le _, rfl, ?_, (Below.refl _ _).grown hgrow0 (Nat.le_refl _) (fun k h => by cases h)⟩
    rw [List.take_zero, List.nil_append, Nat.sub_zero, ← made_vals]
    exact hown0
  case round =>
    obtain ⟨k, hk, rfl, hown, hnx⟩ := hrel
    by_cases hlt : k < n
    · obtain ⟨b, off, rfl, hbl, hc⟩ := HCs.out (by omega)
      have hkl : k < vs.length := by rw [HL.out]; exact hlt
      have h0 : wr.cell? ⟨b, off + k * 2, none⟩ = some (.bool (vs.getD k vd).1) := by rw [hnx.cell (p := ⟨b, off + k * 2, none⟩) hbl]; exact (hc k hlt).1
      have h1 : wr.cell? ⟨b, off + k * 2 + 1, none⟩ = some (.int .i64 (vs.getD k vd).2) := by rw [hnx.cell (p := ⟨b, off + k * 2 + 1, none⟩) hbl]; exact (hc k hlt).2
      have hset := set_part2 vs n k hkl HL.out
      generalize vs.getD k vd = x at h0 h1 hset
      obtain ⟨xb, xn⟩ := x
      simp only at h0 h1 hset
      have HSET : Hid _ := hset
      have HO : Hid _ := hown
      have HN : Hid _ := hnx
      clear hown hnx hc hset hkl
      go_wp2_with fail
      refine (Val.toValue _ _ _).mono ?_
      rintro e w1 ⟨rfl, hb1⟩
      have ho1 := own_below HO.out hb1
      have HN1 : Hid (Below w.heap.size w w1) := Frame.next HN.out hb1 HN.out.size
      have hl : (vcells (vs.take k ++ List.replicate (n - k) vd)).length = n * 2 := by simpa using ho1.1
      have f0 := ho1.frozenAt (k * 2)
      have f1 := ho1.frozenAt (k * 2 + 1)
      obtain ⟨o0, ho0⟩ : ∃ o, w1.cell? ⟨w.heap.size, k * 2, none⟩ = some o := by rw [ho1.cellAt _ (by omega)]; exact ⟨_, List.getElem?_eq_getElem (by omega)⟩
      obtain ⟨o1, ho1'⟩ : ∃ o, w1.cell? ⟨w.heap.size, k * 2 + 1, none⟩ = some o := by rw [ho1.cellAt _ (by omega)]; exact ⟨_, List.getElem?_eq_getElem (by omega)⟩
      have hst := ((ho1.stored (k * 2) (.bool xb)).1.stored (k * 2 + 1) (.int .i64 xn)).1
      rw [HSET.out] at hst
      have HST : Hid _ := hst
      clear hb1 ho1 hst hl
      go_wp2
      go_roundw
      case rel => exact ⟨k + 1, by omega, by go_num, HST.out, (HN1.out.setCell (Nat.le_refl _) _).setCell (Nat.le_refl _) _⟩
      case measure => simp [intOf]; omega
    · obtain rfl : k = n := by omega
      rw [List.take_of_length_le (by rw [HL.out]; omega), Nat.sub_self, List.replicate_zero, List.append_nil] at hown
      have HO : Hid _ := hown
      have HN : Hid _ := hnx
      clear hown hnx
      go_wp2
      go_ret
      exact ⟨rfl, HO.out, HN.out⟩

def eqV (x y : Bool × Int) : Bool := decide (x = y)
theorem eqValue (ab bb : Bool) (an bn : Int) (w : World) :
    Calls Tryd.prog 106 #[.agg #[.bool ab, .int .i64 an], .agg #[.bool bb, .int .i64 bn]] w fun e w' => e = .returned (.bool (eqV (ab, an) (bb, bn))) ∧ Below w.heap.size w w' := by
  have b2 : Below w.heap.size w ((w.alloc (.cells #[.bool ab, .int .i64 an] 26)).alloc (.cells #[.bool bb, .int .i64 bn] 26)) := ((Below.refl _ _).alloc (Nat.le_refl _) _).alloc (by simp) _
  by_cases h1 : ab = bb
  · subst h1
    by_cases h2 : an = bn
    · subst h2
      rw [show eqV (ab, an) (ab, an) = true from decide_eq_true rfl]
      go_enter Tryd.func106, Tryd.ntmps106
      go_wp2
      go_ret
      exact ⟨rfl, b2⟩
    · have e : eqV (ab, an) (ab, bn) = false := by unfold eqV; simp [h2]
      rw [e]
      have hb : (an != bn) = true := by simp [h2]
      clear e h2
      go_enter Tryd.func106, Tryd.ntmps106
      go_wp2
      go_ret
      exact ⟨rfl, b2⟩
  · have e : eqV (ab, an) (bb, bn) = false := by unfold eqV; simp [h1]
    rw [e]
    have hb : (ab != bb) = true := by simp [h1]
    clear e
    cases ab <;> cases bb <;> first | exact absurd rfl h1 | skip
    all_goals
      clear h1 hb
      go_enter Tryd.func106, Tryd.ntmps106
      go_wp2
      go_ret
      exact ⟨rfl, b2⟩

theorem eq_take_vd (xs ys : List (Bool × Int)) (k : Nat) (hx : k < xs.length) (hy : k < ys.length) (h : xs.take k = ys.take k) (e : xs.getD k vd = ys.getD k vd) : xs.take (k + 1) = ys.take (k + 1) := by
  rw [take_succ_vd hx, take_succ_vd hy, h, e]

set_option maxHeartbeats 800000 in
theorem eqValueS (a b : Option Addr) (n m ca cb : Nat) (xs ys : List (Bool × Int)) (w : World) (ha : IsVals w a n ca xs) (hb : IsVals w b m cb ys) (hn : n ≤ 1048576) (hm : m ≤ 1048576) :
    Calls Tryd.prog 43 #[.slice a n ca, .slice b m cb] w fun e w' => e = .returned (.bool (decide (xs = ys))) ∧ Below w.heap.size w w' := by
  have la := ha.len
  have lb := hb.len
  by_cases hl : n = m
  · subst hl
    have HAs : Hid (0 < n → ∃ b off, a = some ⟨b, off, none⟩ ∧ b < w.heap.size ∧ ∀ i, i < n → w.cell? ⟨b, off + i * 2, none⟩ = some (.bool (xs.getD i vd).1) ∧ w.cell? ⟨b, off + i * 2 + 1, none⟩ = some (.int .i64 (xs.getD i vd).2)) := ha.cells
    have HBs : Hid (0 < n → ∃ c off, b = some ⟨c, off, none⟩ ∧ c < w.heap.size ∧ ∀ i, i < n → w.cell? ⟨c, off + i * 2, none⟩ = some (.bool (ys.getD i vd).1) ∧ w.cell? ⟨c, off + i * 2 + 1, none⟩ = some (.int .i64 (ys.getD i vd).2)) := hb.cells
    have LA : Hid (xs.length = n) := la
    have LB : Hid (ys.length = n) := lb
    clear la lb ha hb
    go_enter Tryd.func43, Tryd.ntmps43
    go_wp2
    go_loopw [5] (fun i wr => ∃ k : Nat, k ≤ n ∧ i = .int .i64 k ∧ xs.take k = ys.take k ∧ Below w.heap.size w wr) (fun i _ => n - (intOf i).toNat)
    case atStart => exact ⟨0, Nat.zero_le _, rfl, rfl, Below.refl _ _⟩
    case round =>
      obtain ⟨k, hk, rfl, heq, hnx⟩ := hrel
      have Heq : Hid (xs.take k = ys.take k) := heq
      have Hn : Hid (Below w.heap.size w wr) := hnx
      clear heq hnx
      by_cases hlt : k < n
      · obtain ⟨b1, o1, rfl, hb1, hc1⟩ := HAs.out (by omega)
        obtain ⟨b2, o2, rfl, hb2, hc2⟩ := HBs.out (by omega)
        have p0 : wr.cell? ⟨b1, o1 + k * 2, none⟩ = some (.bool (xs.getD k vd).1) := by rw [Hn.out.cell (p := ⟨b1, o1 + k * 2, none⟩) hb1]; exact (hc1 k hlt).1
        have p1 : wr.cell? ⟨b1, o1 + k * 2 + 1, none⟩ = some (.int .i64 (xs.getD k vd).2) := by rw [Hn.out.cell (p := ⟨b1, o1 + k * 2 + 1, none⟩) hb1]; exact (hc1 k hlt).2
        have q0 : wr.cell? ⟨b2, o2 + k * 2, none⟩ = some (.bool (ys.getD k vd).1) := by rw [Hn.out.cell (p := ⟨b2, o2 + k * 2, none⟩) hb2]; exact (hc2 k hlt).1
        have q1 : wr.cell? ⟨b2, o2 + k * 2 + 1, none⟩ = some (.int .i64 (ys.getD k vd).2) := by rw [Hn.out.cell (p := ⟨b2, o2 + k * 2 + 1, none⟩) hb2]; exact (hc2 k hlt).2
        have hkI : (k : Int) < (n : Int) := by omega
        have hk0 : (0 : Int) ≤ (k : Int) := by omega
        have HXY : Hid (∀ x y, xs.getD k vd = x → ys.getD k vd = y → (x = y → xs.take (k + 1) = ys.take (k + 1)) ∧ (x ≠ y → xs ≠ ys)) := fun x y ex ey =>
          ⟨fun e => eq_take_vd xs ys k (by rw [LA.out]; exact hlt) (by rw [LB.out]; exact hlt) Heq.out (by rw [ex, ey, e]), fun e h => e (by rw [← ex, ← ey, h])⟩
        generalize hx : xs.getD k vd = x at p0 p1
        generalize hy : ys.getD k vd = y at q0 q1
        have HF : Hid _ := HXY.out x y hx hy
        obtain ⟨xb, xn⟩ := x
        obtain ⟨yb, yn⟩ := y
        simp only at p0 p1 q0 q1
        clear hc1 hc2 hx hy HXY
        cases hE : eqV (xb, xn) (yb, yn)
        · have HE : Hid (eqV (xb, xn) (yb, yn) = false) := hE
          have F : Hid (decide (xs = ys) = false) := decide_eq_false (HF.out.2 (of_decide_eq_false hE))
          clear hE HF
          go_wp2_with fail
          go_region_held3 (fun w' => Below wr.heap.size wr w' ∧ w'.cell? ⟨b1, o1 + k * 2, none⟩ = some (.bool xb) ∧ w'.cell? ⟨b1, o1 + k * 2 + 1, none⟩ = some (.int .i64 xn) ∧ w'.cell? ⟨b2, o2 + k * 2, none⟩ = some (.bool yb) ∧ w'.cell? ⟨b2, o2 + k * 2 + 1, none⟩ = some (.int .i64 yn))
            (first | exact ⟨(Below.refl _ _).drew, p0, p1, q0, q1⟩ | exact (fun kb => ⟨kb, Frame.held_cell kb p0, Frame.held_cell kb p1, Frame.held_cell kb q0, Frame.held_cell kb q1⟩) (Frame.held_next ‹Below wr.heap.size wr _ ∧ _› hb))
            (first | (go_at_call 106; refine (eqValue _ _ _ _ _).mono ?_; rintro e w1 ⟨rfl, hb⟩; rw [HE.out]))
          have Hn1 : Hid (Below w.heap.size w w1) := Frame.next Hn.out (And.left ‹Below wr.heap.size wr _ ∧ _›) Hn.out.size
          clear p0 p1 q0 q1 hb
          go_wp2
          go_ret
          exact ⟨Ints.ret_bool F.out.symm, Hn1.out⟩
        · have HE : Hid (eqV (xb, xn) (yb, yn) = true) := hE
          have F : Hid (xs.take (k + 1) = ys.take (k + 1)) := HF.out.1 (of_decide_eq_true hE)
          clear hE HF
          go_wp2_with fail
          go_region_held3 (fun w' => Below wr.heap.size wr w' ∧ w'.cell? ⟨b1, o1 + k * 2, none⟩ = some (.bool xb) ∧ w'.cell? ⟨b1, o1 + k * 2 + 1, none⟩ = some (.int .i64 xn) ∧ w'.cell? ⟨b2, o2 + k * 2, none⟩ = some (.bool yb) ∧ w'.cell? ⟨b2, o2 + k * 2 + 1, none⟩ = some (.int .i64 yn))
            (first | exact ⟨(Below.refl _ _).drew, p0, p1, q0, q1⟩ | exact (fun kb => ⟨kb, Frame.held_cell kb p0, Frame.held_cell kb p1, Frame.held_cell kb q0, Frame.held_cell kb q1⟩) (Frame.held_next ‹Below wr.heap.size wr _ ∧ _› hb))
            (first | (go_at_call 106; refine (eqValue _ _ _ _ _).mono ?_; rintro e w1 ⟨rfl, hb⟩; rw [HE.out]))
          have Hn1 : Hid (Below w.heap.size w w1) := Frame.next Hn.out (And.left ‹Below wr.heap.size wr _ ∧ _›) Hn.out.size
          clear p0 p1 q0 q1 hb
          go_wp2
          go_roundw
          case rel => exact ⟨k + 1, by omega, by go_num, F.out, Hn1.out⟩
          case measure => simp [intOf]; omega
      · have F : Hid (decide (xs = ys) = true) := decide_eq_true (by
          have h := Heq.out
          rwa [List.take_of_length_le (by rw [LA.out]; omega), List.take_of_length_le (by rw [LB.out]; omega)] at h)
        go_wp2
        go_ret
        exact ⟨Ints.ret_bool F.out.symm, Hn.out⟩
  · have e : decide (xs = ys) = false := decide_eq_false (fun h => hl (by rw [← la, ← lb, h]))
    rw [e]
    have hne : ((n : Int) != (m : Int)) = true := by rw [bne_iff_ne]; omega
    clear e ha hb la lb hl
    go_enter Tryd.func43, Tryd.ntmps43
    go_wp2
    go_ret
    exact ⟨rfl, Below.refl _ _⟩

def vmark (k : Int) (i : Nat) : Bool × Int := ((k + 2 * (i : Int)) % 3 == 0, k + 2 * (i : Int) + 1)
def vmarks (k : Int) (n : Nat) : List (Bool × Int) := (List.range n).map (vmark k)
theorem vmarks_length (k : Int) (n : Nat) : (vmarks k n).length = n := by simp [vmarks]
theorem vmarks_get (k : Int) (n i : Nat) (h : i < n) : (vmarks k n).getD i vd = vmark k i := by simp [vmarks, List.getD, h]
theorem vmarks_wf (k : Int) (n : Nat) (h0 : 0 ≤ k) (h1 : k + 2 * (n : Int) ≤ 9223372036854775807) : ∀ v ∈ vmarks k n, (Lit.int .i64 v.2).wf = true := by
  intro v hv
  simp only [vmarks, List.mem_map, List.mem_range] at hv
  obtain ⟨i, hi, rfl⟩ := hv
  exact int_wf _ (by simp only [vmark]; omega) (by simp only [vmark]; omega)

theorem vmark_part (k0 : Int) (vs : List (Bool × Int)) (n k : Nat) (h : k < n) (hn : vs.length = n) :
    ((vcells ((vmarks k0 n).take k ++ vs.drop k)).set (k * 2) (.bool (vmark k0 k).1)).set (k * 2 + 1) (.int .i64 (vmark k0 k).2) = vcells ((vmarks k0 n).take (k + 1) ++ vs.drop (k + 1)) := by
  have hl : (vcells ((vmarks k0 n).take k)).length = k * 2 := by rw [vcells_length, List.length_take, vmarks_length]; omega
  have e1 : vs.drop k = vs.getD k vd :: vs.drop (k + 1) := by
    rw [List.drop_eq_getElem_cons (by omega)]
    simp [List.getD, show k < vs.length by omega]
  rw [take_succ_vd (by rw [vmarks_length]; exact h), vmarks_get k0 n k h, e1, vcells_append, vcells_append, vcells_append]
  rw [List.set_append_right _ _ (by omega), hl, Nat.sub_self, List.set_append_right _ _ (by omega), hl]
  rw [show k * 2 + 1 - k * 2 = 1 by omega]
  simp [vcells]

set_option maxHeartbeats 800000 in
theorem markValueS (a : Option Addr) (n cap : Nat) (vs : List (Bool × Int)) (k0 : Int) (base : Nat) (w : World) (h : w.ownsRow base 26 2 (.slice a n cap) n (vcells vs)) (hn : n ≤ 1048576) (hk0 : 0 ≤ k0) (hk1 : k0 ≤ 1000000000000) :
    Calls Tryd.prog 110 #[.slice a n cap, .int .i64 k0] w fun e w' => e = .returned (.int .i64 (k0 + 2 * (n : Int))) ∧ w'.ownsRow base 26 2 (.slice a n cap) n (vcells (vmarks k0 n)) ∧ OnlyAt a w w' := by
  have hl : vs.length = n := by have := h.1; rw [vcells_length] at this; omega
  have HL : Hid (vs.length = n) := hl
  have HO : Hid (w.ownsRow base 26 2 (.slice a n cap) n (vcells vs)) := h
  clear hl h
  go_enter Tryd.func110, Tryd.ntmps110
  go_wp2
  go_loopw [1, 5] (fun m i wr => ∃ k : Nat, k ≤ n ∧ i = .int .i64 k ∧ m = .int .i64 (k0 + 2 * (k : Int)) ∧ wr.ownsRow base 26 2 (.slice a n cap) n (vcells ((vmarks k0 n).take k ++ vs.drop k)) ∧ OnlyAt a w wr) (fun _ i _ => n - (intOf i).toNat)
  case atStart => exact ⟨0, Nat.zero_le _, rfl, by simp, by simpa using HO.out, OnlyAt.refl _ _⟩
  case round =>
    obtain ⟨k, hk, rfl, rfl, hown, ht⟩ := hrel
    by_cases hlt : k < n
    · obtain ⟨g, rfl⟩ : ∃ g, a = some ⟨g, 0, none⟩ := by
        rcases hown.2 with ⟨h2, _⟩ | ⟨g, cap', cur, hv, _⟩
        · simp at h2; omega
        · simp only [Value.slice.injEq] at hv
          exact ⟨g, hv.1⟩
      have hst := ((hown.stored (k * 2) (.bool (vmark k0 k).1)).1.stored (k * 2 + 1) (.int .i64 (vmark k0 k).2)).1
      rw [vmark_part k0 vs n k hlt HL.out] at hst
      have Hst : Hid _ := hst
      have f0 := hown.frozenAt (k * 2)
      have f1 := hown.frozenAt (k * 2 + 1)
      have hl : (vcells ((vmarks k0 n).take k ++ vs.drop k)).length = n * 2 := by simpa using hown.1
      obtain ⟨o0, ho0⟩ : ∃ o, wr.cell? ⟨g, k * 2, none⟩ = some o := by rw [hown.cellAt _ (by omega)]; exact ⟨_, List.getElem?_eq_getElem (by omega)⟩
      obtain ⟨o1, ho1⟩ : ∃ o, wr.cell? ⟨g, k * 2 + 1, none⟩ = some o := by rw [hown.cellAt _ (by omega)]; exact ⟨_, List.getElem?_eq_getElem (by omega)⟩
      have Ht : Hid (OnlyAt (some ⟨g, 0, none⟩) w wr) := ht
      clear hst hown ht hl
      go_wp2
      go_roundw
      case rel => exact ⟨k + 1, by omega, by go_num, by go_num, Hst.out, (Ht.out.setCell (fun x hx => by cases hx; rfl) (by simp) _).setCell (fun x hx => by cases hx; rfl) (by simp) _⟩
      case measure => simp [intOf]; omega
    · obtain rfl : k = n := by omega
      have e : (vmarks k0 k).take k ++ vs.drop k = vmarks k0 k := by
        rw [List.take_of_length_le (by rw [vmarks_length]; omega), List.drop_of_length_le (by rw [HL.out]; omega)]
        simp
      rw [e] at hown
      have HO2 : Hid _ := hown
      have Ht : Hid _ := ht
      clear hown ht
      go_wp2
      go_ret
      exact ⟨rfl, HO2.out, Ht.out⟩

set_option maxHeartbeats 800000 in
theorem heldValueS (a : Option Addr) (n cap : Nat) (k0 : Int) (w : World) (h : IsVals w a n cap (vmarks k0 n)) (hn : n ≤ 1048576) (hk0 : 0 ≤ k0) (hk1 : k0 ≤ 1000000000000) :
    Calls Tryd.prog 111 #[.slice a n cap, .int .i64 k0] w fun e w' => e = .returned (.int .i64 (k0 + 2 * (n : Int))) ∧ Below w.heap.size w w' := by
  have HAs : Hid (0 < n → ∃ b off, a = some ⟨b, off, none⟩ ∧ b < w.heap.size ∧ ∀ i, i < n → w.cell? ⟨b, off + i * 2, none⟩ = some (.bool ((vmarks k0 n).getD i vd).1) ∧ w.cell? ⟨b, off + i * 2 + 1, none⟩ = some (.int .i64 ((vmarks k0 n).getD i vd).2)) := h.cells
  clear h
  go_enter Tryd.func111, Tryd.ntmps111
  go_wp2
  go_loopw [1, 5] (fun m i wr => ∃ k : Nat, k ≤ n ∧ i = .int .i64 k ∧ m = .int .i64 (k0 + 2 * (k : Int)) ∧ Below w.heap.size w wr) (fun _ i _ => n - (intOf i).toNat)
  case atStart => exact ⟨0, Nat.zero_le _, rfl, by simp, Below.refl _ _⟩
  case round =>
    obtain ⟨k, hk, rfl, rfl, hnx⟩ := hrel
    have HN : Hid (Below w.heap.size w wr) := hnx
    clear hnx
    by_cases hlt : k < n
    · obtain ⟨b, off, rfl, hbl, hc⟩ := HAs.out (by omega)
      have h0 : wr.cell? ⟨b, off + k * 2, none⟩ = some (.bool ((k0 + 2 * (k : Int)) % 3 == 0)) := by rw [HN.out.cell (p := ⟨b, off + k * 2, none⟩) hbl, (hc k hlt).1, vmarks_get k0 n k hlt]; rfl
      have h1 : wr.cell? ⟨b, off + k * 2 + 1, none⟩ = some (.int .i64 (k0 + 2 * (k : Int) + 1)) := by rw [HN.out.cell (p := ⟨b, off + k * 2 + 1, none⟩) hbl, (hc k hlt).2, vmarks_get k0 n k hlt]; rfl
      have hkI : (k : Int) < (n : Int) := by omega
      clear hc
      go_wp2
      go_roundw
      case rel => exact ⟨k + 1, by omega, by go_num, by go_num, HN.out⟩
      case measure => simp [intOf]; omega
    · obtain rfl : k = n := by omega
      go_wp2
      go_ret
      exact ⟨rfl, HN.out⟩


end Go.Proofs.YtdlcjcobfckncaaDoor.Vals
