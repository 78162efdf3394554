/-
  Contracts of the program's orders of numbers and of tuples, and of what rises by them.
-/
import Derived.Test.YtekheacbmbbpmaaKrl
import Derived.Test.YtekheacbmbbpmaaLst
namespace Go.Proofs.Ytekheacbmbbpmaa.Oa
open Go.RowKit
open Go.Proofs.Ytekheacbmbbpmaa.Frame Go.Proofs.Ytekheacbmbbpmaa.Mem Go.Proofs.Ytekheacbmbbpmaa.Ints Go.Proofs.Ytekheacbmbbpmaa.Kep Go.Proofs.Ytekheacbmbbpmaa.Lls Go.Proofs.Ytekheacbmbbpmaa.Rpu Go.Proofs.Ytekheacbmbbpmaa.Rel

def cmpI (x y : Int) : Int := if x < y then -1 else if y < x then 1 else 0

theorem cmp_compare (x y : Int) (w : World) : Calls Try.prog 70 #[.int .i64 x, .int .i64 y] w fun e w' => e = .returned (.int .i64 (cmpI x y)) ∧ w' = w := by
  by_cases h0 : x < y
  · have e : cmpI x y = -1 := by unfold cmpI; simp [h0]
    rw [e]
    clear e
    go_enter Try.func70, Try.ntmps70
    go_wp2
    go_ret
    exact ⟨rfl, rfl⟩
  · by_cases h1 : y < x
    · have e : cmpI x y = 1 := by unfold cmpI; simp [h0, h1]
      rw [e]
      clear e
      go_enter Try.func70, Try.ntmps70
      go_wp2
      go_ret
      exact ⟨rfl, rfl⟩
    · have e : cmpI x y = 0 := by unfold cmpI; simp [h0, h1]
      rw [e]
      clear e
      go_enter Try.func70, Try.ntmps70
      go_wp2
      go_ret
      exact ⟨rfl, rfl⟩

theorem byNumber (x y : Int) (w : World) : Calls Try.prog 53 #[.int .i64 x, .int .i64 y] w fun e w' => e = .returned (.int .i64 (cmpI x y)) ∧ w' = w := by
  go_enter Try.func53, Try.ntmps53
  go_wp2_with fail
  refine (cmp_compare _ _ _).mono ?_
  rintro e w' ⟨rfl, rfl⟩
  go_wp2
  go_ret
  exact ⟨rfl, rfl⟩

theorem cmpL_prefix : ∀ (k : Nat) (xs ys : List Int), k ≤ xs.length → k ≤ ys.length → xs.take k = ys.take k → cmpL xs ys = cmpL (xs.drop k) (ys.drop k)
  | 0, _, _, _, _, _ => rfl
  | k + 1, [], _, h, _, _ => absurd h (by simp)
  | k + 1, _ :: _, [], _, h, _ => absurd h (by simp)
  | k + 1, x :: xs, y :: ys, h1, h2, h => by
    simp only [List.take_succ_cons, List.cons.injEq] at h
    rw [cmpL_cons, if_pos h.1, cmpL_prefix k xs ys (by simpa using h1) (by simpa using h2) h.2]
    rfl
theorem drop_getD {zs : List Int} {k : Nat} (h : k < zs.length) : zs.drop k = zs.getD k 0 :: zs.drop (k + 1) := by
  rw [List.drop_eq_getElem_cons h]
  simp [List.getD, h]
theorem cmpL_long {xs ys : List Int} {k : Nat} (h : xs.take k = ys.take k) (hx : k < xs.length) (hy : ys.length = k) : cmpL xs ys = 1 := by
  rw [cmpL_prefix k xs ys (by omega) (by omega) h, drop_getD hx, List.drop_of_length_le (l := ys) (by omega)]
  rfl
theorem cmpL_diff {xs ys : List Int} {k : Nat} (h : xs.take k = ys.take k) (hx : k < xs.length) (hy : k < ys.length) (hn : xs.getD k 0 ≠ ys.getD k 0) : cmpL xs ys = cmpI (xs.getD k 0) (ys.getD k 0) := by
  rw [cmpL_prefix k xs ys (by omega) (by omega) h, drop_getD hx, drop_getD hy, cmpL_cons, if_neg hn]
  unfold cmpI
  by_cases hl : xs.getD k 0 < ys.getD k 0
  · rw [if_pos hl, if_pos hl]
  · rw [if_neg hl, if_neg hl, if_pos (by omega)]
theorem cmpL_short {xs ys : List Int} (h : xs.take xs.length = ys.take xs.length) (hy : xs.length < ys.length) : cmpL xs ys = -1 := by
  rw [cmpL_prefix xs.length xs ys (Nat.le_refl _) (by omega) h, drop_getD hy, List.drop_of_length_le (by omega)]
  rfl
theorem cmpI_zero {x y : Int} : cmpI x y = 0 ↔ x = y := by
  unfold cmpI
  split
  · constructor <;> intro h <;> omega
  · split
    · constructor <;> intro h <;> omega
    · constructor <;> intro h <;> omega
theorem cmpI_neg {x y : Int} : cmpI x y < 0 ↔ x < y := by
  unfold cmpI
  split
  · constructor <;> intro h <;> omega
  · split
    · constructor <;> intro h <;> omega
    · constructor <;> intro h <;> omega

set_option maxHeartbeats 400000 in
theorem slices_Compare (a b : Option Addr) (n m ca cb : Nat) (xs ys : List Int) (w : World) (ha : IsRow .i64 w a n ca xs) (hb : IsRow .i64 w b m cb ys) :
    Calls Try.prog 74 #[.slice a n ca, .slice b m cb] w fun e w' => e = .returned (.int .i64 (cmpL xs ys)) ∧ w' = w := by
  have hmaxn : n ≤ 9223372036854775807 := by have := ha.fits; have := ha.max; unfold maxLen at *; omega
  have hmaxm : m ≤ 9223372036854775807 := by have := hb.fits; have := hb.max; unfold maxLen at *; omega
  have HAs : Hid (0 < n → ∃ b off, a = some ⟨b, off, none⟩ ∧ b < w.heap.size ∧ ∀ i, i < n → w.cell? ⟨b, off + i, none⟩ = some (.int .i64 (xs.getD i 0))) := ha.cells
  have HBs : Hid (0 < m → ∃ c off, b = some ⟨c, off, none⟩ ∧ c < w.heap.size ∧ ∀ i, i < m → w.cell? ⟨c, off + i, none⟩ = some (.int .i64 (ys.getD i 0))) := hb.cells
  have LA : Hid (xs.length = n) := ha.len
  have LB : Hid (ys.length = m) := hb.len
  clear ha hb
  go_enter Try.func74, Try.ntmps74
  go_wp2
  go_loop [11] (fun i => ∃ k : Nat, k ≤ n ∧ k ≤ m ∧ i = .int .i64 k ∧ xs.take k = ys.take k) (fun i => n - (intOf i).toNat)
  case atStart => exact ⟨0, Nat.zero_le _, Nat.zero_le _, rfl, rfl⟩
  case round =>
    obtain ⟨k, hk, hkm, rfl, heq⟩ := hrel
    have Heq : Hid (xs.take k = ys.take k) := heq
    clear heq
    by_cases hlt : k < n
    · obtain ⟨b1, o1, rfl, hb1, hc1⟩ := HAs.out (by omega)
      have h1 := hc1 k hlt
      by_cases hltm : k < m
      · obtain ⟨b2, o2, rfl, hb2, hc2⟩ := HBs.out (by omega)
        have h2 := hc2 k hltm
        have hxy : Hid (∀ x y, xs.getD k 0 = x → ys.getD k 0 = y → (x = y → xs.take (k + 1) = ys.take (k + 1)) ∧ (x ≠ y → cmpL xs ys = cmpI x y)) := fun x y ex ey =>
          ⟨fun e => eq_take_succ xs ys k (by rw [LA.out]; exact hlt) (by rw [LB.out]; exact hltm) Heq.out (by rw [ex, ey, e]), fun e => by
            rw [cmpL_diff Heq.out (by rw [LA.out]; exact hlt) (by rw [LB.out]; exact hltm) (by rw [ex, ey]; exact e), ex, ey]⟩
        generalize hx : xs.getD k 0 = x at h1
        generalize hy : ys.getD k 0 = y at h2
        have hxy' : Hid ((x = y → xs.take (k + 1) = ys.take (k + 1)) ∧ (x ≠ y → cmpL xs ys = cmpI x y)) := hxy.out x y hx hy
        clear hc1 hc2 hx hy hxy
        have hc := cmpI_zero (x := x) (y := y)
        go_wp2_with fail
        refine (cmp_compare _ _ _).mono ?_
        rintro e w' ⟨rfl, rfl⟩
        by_cases hv : x = y
        · have F : Hid (xs.take (k + 1) = ys.take (k + 1)) := hxy'.out.1 hv
          have e0 : cmpI x y = 0 := hc.2 hv
          rw [e0]
          clear hxy' hc e0 hv
          go_wp2
          go_round
          case rel => exact ⟨k + 1, by omega, by omega, by go_num, F.out⟩
          case measure => simp [intOf]; omega
        · have F : Hid (cmpL xs ys = cmpI x y) := hxy'.out.2 hv
          have hne : ¬ cmpI x y = 0 := fun h => hv (hc.1 h)
          clear hxy' hc hv
          generalize cmpI x y = c at F hne ⊢
          have hnb : (c != 0) = true := by rw [bne_iff_ne]; exact hne
          clear hne
          go_wp2
          go_ret
          exact ⟨ret_int F.out.symm, rfl⟩
      · have F : Hid (cmpL xs ys = 1) := cmpL_long Heq.out (by rw [LA.out]; exact hlt) (by rw [LB.out]; omega)
        clear hc1
        go_wp2
        go_ret
        exact ⟨ret_int F.out.symm, rfl⟩
    · obtain rfl : k = n := by omega
      by_cases hlm : k < m
      · have F : Hid (cmpL xs ys = -1) := cmpL_short (by rw [LA.out]; exact Heq.out) (by rw [LA.out, LB.out]; exact hlm)
        go_wp2
        go_ret
        exact ⟨ret_int F.out.symm, rfl⟩
      · have F : Hid (cmpL xs ys = 0) := by
          show _ = _
          have h := Heq.out
          rw [List.take_of_length_le (by rw [LA.out]; omega), List.take_of_length_le (by rw [LB.out]; omega)] at h
          rw [h]
          exact cmpL_self _
        go_wp2
        go_ret
        exact ⟨ret_int F.out.symm, rfl⟩

theorem byNumbers (a b : Option Addr) (n m ca cb : Nat) (xs ys : List Int) (w : World) (ha : IsRow .i64 w a n ca xs) (hb : IsRow .i64 w b m cb ys) :
    Calls Try.prog 60 #[.slice a n ca, .slice b m cb] w fun e w' => e = .returned (.int .i64 (cmpL xs ys)) ∧ w' = w := by
  have HA : Hid (IsRow .i64 w a n ca xs) := ha
  have HB : Hid (IsRow .i64 w b m cb ys) := hb
  clear ha hb
  go_enter Try.func60, Try.ntmps60
  go_wp2_with fail
  refine (slices_Compare _ _ _ _ _ _ xs ys _ HA.out HB.out).mono ?_
  rintro e w' ⟨rfl, rfl⟩
  go_wp2
  go_ret
  exact ⟨rfl, rfl⟩

set_option maxHeartbeats 400000 in
theorem rises_int (a : Option Addr) (n ca : Nat) (zs : List Int) (w : World) (ha : IsRow .i64 w a n ca zs) :
    Calls Try.prog 52 #[.slice a n ca, .func (.func 53) #[] #[]] w fun e w' => e = .returned (.bool (decide (UpN zs))) ∧ Below w.heap.size w w' := by
  have hmaxn : n ≤ 9223372036854775807 := by have := ha.fits; have := ha.max; unfold maxLen at *; omega
  have HAs : Hid (0 < n → ∃ b off, a = some ⟨b, off, none⟩ ∧ b < w.heap.size ∧ ∀ i, i < n → w.cell? ⟨b, off + i, none⟩ = some (.int .i64 (zs.getD i 0))) := ha.cells
  have LA : Hid (zs.length = n) := ha.len
  clear ha
  go_enter Try.func52, Try.ntmps52
  go_wp2
  go_loopw [5] (fun i wr => ∃ j : Nat, 1 ≤ j ∧ j ≤ n + 1 ∧ i = .int .i64 j ∧ UpN (zs.take j) ∧ Below w.heap.size w wr) (fun i _ => n + 2 - (intOf i).toNat)
  case atStart =>
    refine ⟨1, by omega, by omega, rfl, ?_, Below.refl _ _⟩
    cases zs with
    | nil => simp [UpN]
    | cons z zs => simp [UpN]
  case round =>
    obtain ⟨j, hj1, hj, rfl, hup, hnx⟩ := hrel
    have HU : Hid (UpN (zs.take j)) := hup
    have HN : Hid (Below w.heap.size w wr) := hnx
    clear hup
    by_cases hlt : j < n
    · obtain ⟨b, off, rfl, hbl, hc⟩ := HAs.out (by omega)
      obtain ⟨k, hk⟩ : ∃ k, k = j - 1 := ⟨_, rfl⟩
      have h1 : wr.cell? ⟨b, off + k, none⟩ = some (.int .i64 (zs.getD k 0)) := by rw [hnx.cell (p := ⟨b, off + k, none⟩) hbl]; exact hc k (by omega)
      have h2 : wr.cell? ⟨b, off + j, none⟩ = some (.int .i64 (zs.getD j 0)) := by rw [hnx.cell (p := ⟨b, off + j, none⟩) hbl]; exact hc j hlt
      have HXY : Hid ((zs.getD k 0 < zs.getD j 0 → UpN (zs.take (j + 1))) ∧ (¬ zs.getD k 0 < zs.getD j 0 → ¬ UpN zs)) := by
        rw [hk]
        exact ⟨fun h => upN_step (by rw [LA.out]; exact hlt) HU.out (fun _ => h), fun h => upN_not (k := j) (by omega) (by rw [LA.out]; exact hlt) (by omega)⟩
      generalize zs.getD k 0 = x at h1 HXY
      generalize zs.getD j 0 = y at h2 HXY
      have hkI : (j : Int) < (n : Int) := by omega
      have hkJ : (k : Int) < (n : Int) := by omega
      have hwr : IntKind.i64.wrap ((j : Int) - 1) = (k : Int) := by simp [IntKind.wrap, IntKind.bits, IntKind.signed]; omega
      clear hc hnx hk
      by_cases hv : x < y
      · have F : Hid (UpN (zs.take (j + 1))) := HXY.out.1 hv
        have hc0 : ¬ 0 ≤ cmpI x y := by have := (cmpI_neg (x := x) (y := y)).2 hv; omega
        clear HXY hv
        go_wp2_with fail
        go_quiet (exact Calls.quiet_of_same (byNumber _ _ _))
        go_wp2
        go_roundw
        case rel => exact ⟨j + 1, by omega, by omega, by go_num, F.out, below_drewN HN.out _⟩
        case measure => simp [intOf]; omega
      · have F : Hid (decide (UpN zs) = false) := decide_eq_false (HXY.out.2 hv)
        have hc0 : 0 ≤ cmpI x y := by have := (cmpI_neg (x := x) (y := y)).1; omega
        clear HXY hv
        go_wp2_with fail
        go_quiet (exact Calls.quiet_of_same (byNumber _ _ _))
        go_wp2
        go_ret
        exact ⟨ret_bool F.out.symm, below_drewN HN.out _⟩
    · have F : Hid (decide (UpN zs) = true) := decide_eq_true (by
        have h := HU.out
        rwa [List.take_of_length_le (by rw [LA.out]; omega)] at h)
      clear hnx
      go_wp2
      go_ret
      exact ⟨ret_bool F.out.symm, HN.out⟩

theorem pw_step {α : Type} {R : α → α → Prop} (tr : ∀ a b c, R a b → R b c → R a c) (d : α) {l : List α} {k : Nat} (hk : k < l.length) (h : (l.take k).Pairwise R) (hl : 0 < k → R (l.getD (k - 1) d) (l.getD k d)) : (l.take (k + 1)).Pairwise R := by
  have e : l.take (k + 1) = l.take k ++ [l.getD k d] := by rw [List.take_succ_eq_append_getElem hk]; simp [List.getD, hk]
  rw [e, List.pairwise_append]
  refine ⟨h, List.pairwise_singleton _ _, fun a ha b hb => ?_⟩
  obtain rfl := List.mem_singleton.1 hb
  obtain ⟨i, hi, rfl⟩ := List.getElem_of_mem ha
  have hik : i < k := by simp at hi; omega
  have h0 := hl (by omega)
  have ei : (l.take k)[i] = l.getD i d := by simp [List.getD, show i < l.length by omega]
  rw [ei]
  by_cases hx : i = k - 1
  · subst hx; exact h0
  · have h1 := (List.pairwise_iff_getElem.1 h) i (k - 1) hi (by simp; omega) (by omega)
    have e2 : (l.take k)[k - 1]'(by simp; omega) = l.getD (k - 1) d := by simp [List.getD, show k - 1 < l.length by omega]
    rw [ei, e2] at h1
    exact tr _ _ _ h1 h0
theorem pw_not {α : Type} {R : α → α → Prop} (d : α) {l : List α} {k : Nat} (h0 : 0 < k) (hk : k < l.length) (h : ¬ R (l.getD (k - 1) d) (l.getD k d)) : ¬ l.Pairwise R := fun hp => h (by
  have h1 := (List.pairwise_iff_getElem.1 hp) (k - 1) k (by omega) hk (by omega)
  simpa [List.getD, hk, show k - 1 < l.length by omega] using h1)

/-- In the program's order, each once. -/
def Strict (ts : Rel.Ll) : Prop := ts.Pairwise fun a b => cmpL a b < 0
instance (ts : Rel.Ll) : Decidable (Strict ts) := by unfold Strict; exact inferInstance
theorem strict_step {ts : Rel.Ll} {k : Nat} (hk : k < ts.length) (h : Strict (ts.take k)) (hl : 0 < k → cmpL (ts.getD (k - 1) []) (ts.getD k []) < 0) : Strict (ts.take (k + 1)) := pw_step (R := fun a b => cmpL a b < 0) (fun _ _ _ => cmpL_trans) [] hk h hl
theorem strict_not {ts : Rel.Ll} {k : Nat} (h0 : 0 < k) (hk : k < ts.length) (h : ¬ cmpL (ts.getD (k - 1) []) (ts.getD k []) < 0) : ¬ Strict ts := pw_not (R := fun a b => cmpL a b < 0) [] h0 hk h
theorem up_strict {ts : Rel.Ll} {n : Nat} (h : Up ts) (hl : ∀ t ∈ ts, t.length = n) : Strict ts := by
  unfold Strict
  induction ts with
  | nil => simp
  | cons t ts ih =>
    unfold Up at h
    rw [List.pairwise_cons] at h ⊢
    exact ⟨fun s hs => (cmpL_less (by rw [hl t (by simp), hl s (by simp [hs])])).2 (h.1 s hs), ih h.2 (fun s hs => hl s (by simp [hs]))⟩
theorem strict_iff {ts : Rel.Ll} {n : Nat} (hl : ∀ t ∈ ts, t.length = n) : decide (Strict ts) = decide (Up ts) := by
  rw [decide_eq_decide]
  exact ⟨fun h => strict_up h hl, fun h => up_strict h hl⟩

theorem isRow_drewN {k : IntKind} {w : World} {a : Option Addr} {n cap : Nat} {zs : List Int} (h : IsRow k w a n cap zs) (m : Nat) : IsRow k (w.drewN m) a n cap zs := IsRow.below h (below_drewN (Below.refl _ _) m)
theorem lplain_length (rs : List LV) : (lplain rs).length = rs.length := by simp [lplain]

set_option maxHeartbeats 800000 in
theorem rises_ls (a : Option Addr) (n ca : Nat) (rs : List LV) (w : World) (ha : IsLs w a n ca rs) :
    Calls Try.prog 59 #[.slice a n ca, .func (.func 60) #[] #[]] w fun e w' => e = .returned (.bool (decide (Strict (lplain rs)))) ∧ Below w.heap.size w w' := by
  have hmaxn : n ≤ 9223372036854775807 := by have := ha.fits; have := ha.max; unfold maxLen at *; omega
  have HI : Hid (IsLs w a n ca rs) := ha
  have LA : Hid (rs.length = n) := ha.len
  clear ha
  go_enter Try.func59, Try.ntmps59
  go_wp2
  go_loopw [5] (fun i wr => ∃ j : Nat, 1 ≤ j ∧ j ≤ n + 1 ∧ i = .int .i64 j ∧ Strict ((lplain rs).take j) ∧ Below w.heap.size w wr) (fun i _ => n + 2 - (intOf i).toNat)
  case atStart =>
    refine ⟨1, by omega, by omega, rfl, ?_, Below.refl _ _⟩
    cases lplain rs with
    | nil => simp [Strict]
    | cons z zs => simp [Strict]
  case round =>
    obtain ⟨j, hj1, hj, rfl, hup, hnx⟩ := hrel
    have HU : Hid (Strict ((lplain rs).take j)) := hup
    have HN : Hid (Below w.heap.size w wr) := hnx
    clear hup
    by_cases hlt : j < n
    · obtain ⟨b, off, rfl, hbl, hc⟩ := HI.out.cells (by omega)
      obtain ⟨k, hk⟩ : ∃ k, k = j - 1 := ⟨_, rfl⟩
      have kl : k < rs.length := by rw [LA.out]; omega
      have jl : j < rs.length := by rw [LA.out]; omega
      have h1 : wr.cell? ⟨b, off + k, none⟩ = some (.slice (rs.getD k ld).a (rs.getD k ld).n (rs.getD k ld).c) := by rw [hnx.cell (p := ⟨b, off + k, none⟩) hbl]; exact hc k (by omega)
      have h2 : wr.cell? ⟨b, off + j, none⟩ = some (.slice (rs.getD j ld).a (rs.getD j ld).n (rs.getD j ld).c) := by rw [hnx.cell (p := ⟨b, off + j, none⟩) hbl]; exact hc j hlt
      have r1 := IsRow.below (HI.out.rows _ (getD_mem_ld kl)) hnx
      have HXY : Hid ((cmpL (rs.getD k ld).zs (rs.getD j ld).zs < 0 → Strict ((lplain rs).take (j + 1))) ∧ (¬ cmpL (rs.getD k ld).zs (rs.getD j ld).zs < 0 → ¬ Strict (lplain rs))) := by
        rw [← lplain_get rs k kl, ← lplain_get rs j jl, hk]
        exact ⟨fun h => strict_step (by rw [lplain_length]; exact jl) HU.out (fun _ => h), fun h => strict_not (k := j) (by omega) (by rw [lplain_length]; exact jl) h⟩
      have r2 := IsRow.below (HI.out.rows _ (getD_mem_ld jl)) hnx
      generalize rs.getD k ld = x at h1 r1 HXY
      generalize rs.getD j ld = y at h2 r2 HXY
      obtain ⟨xa, xn, xc, xs⟩ := x
      obtain ⟨ya, yn, yc, ys⟩ := y
      simp only at h1 h2 r1 r2
      have R1 : Hid (IsRow .i64 wr xa xn xc xs) := r1
      have R2 : Hid (IsRow .i64 wr ya yn yc ys) := r2
      have HF : Hid ((cmpL xs ys < 0 → Strict ((lplain rs).take (j + 1))) ∧ (¬ cmpL xs ys < 0 → ¬ Strict (lplain rs))) := HXY.out
      have hkI : (j : Int) < (n : Int) := by omega
      have hkJ : (k : Int) < (n : Int) := by omega
      have hwr : IntKind.i64.wrap ((j : Int) - 1) = (k : Int) := by simp [IntKind.wrap, IntKind.bits, IntKind.signed]; omega
      clear hc hnx hk r1 r2 HXY kl jl
      by_cases hv : cmpL xs ys < 0
      · have F : Hid (Strict ((lplain rs).take (j + 1))) := HF.out.1 hv
        have hc0 : ¬ 0 ≤ cmpL xs ys := by omega
        clear HF hv
        go_wp2_with fail
        go_quiet (exact Calls.quiet_of_same (byNumbers _ _ _ _ _ _ xs ys _ (isRow_drewN R1.out _) (isRow_drewN R2.out _)))
        go_wp2
        go_roundw
        case rel => exact ⟨j + 1, by omega, by omega, by go_num, F.out, below_drewN HN.out _⟩
        case measure => simp [intOf]; omega
      · have F : Hid (decide (Strict (lplain rs)) = false) := decide_eq_false (HF.out.2 hv)
        have hc0 : 0 ≤ cmpL xs ys := by omega
        clear HF hv
        go_wp2_with fail
        go_quiet (exact Calls.quiet_of_same (byNumbers _ _ _ _ _ _ xs ys _ (isRow_drewN R1.out _) (isRow_drewN R2.out _)))
        go_wp2
        go_ret
        exact ⟨ret_bool F.out.symm, below_drewN HN.out _⟩
    · have F : Hid (decide (Strict (lplain rs)) = true) := decide_eq_true (by
        have h := HU.out
        rwa [List.take_of_length_le (by rw [lplain_length, LA.out]; omega)] at h)
      clear hnx
      go_wp2
      go_ret
      exact ⟨ret_bool F.out.symm, HN.out⟩

theorem impl_isName (n : Int) (w : World) : Calls Try.prog 57 #[.int .i64 n] w fun e w' => e = .returned (.bool (Val.inB n 0 20)) ∧ w' = w := by
  by_cases h0 : 0 ≤ n
  · by_cases h2 : n ≤ 20
    · have e : Val.inB n 0 20 = true := by unfold Val.inB; simp [h0, h2]
      rw [e]
      go_enter Try.func57, Try.ntmps57
      go_wp2
      go_ret
      exact ⟨rfl, rfl⟩
    · have e : Val.inB n 0 20 = false := by unfold Val.inB; simp [h2]
      rw [e]
      go_enter Try.func57, Try.ntmps57
      go_wp2
      go_ret
      exact ⟨rfl, rfl⟩
  · have e : Val.inB n 0 20 = false := by unfold Val.inB; simp [h0]
    rw [e]
    go_enter Try.func57, Try.ntmps57
    go_wp2
    go_ret
    exact ⟨rfl, rfl⟩

set_option maxHeartbeats 400000 in
theorem impl_isTuple (a : Option Addr) (n ca : Nat) (zs : List Int) (m : Nat) (w : World) (ha : IsRow .i64 w a n ca zs) (hm : m ≤ maxLen) :
    Calls Try.prog 58 #[.slice a n ca, .int .i64 m] w fun e w' => e = .returned (.bool (tupB m zs)) ∧ w' = w := by
  have hmaxn : n ≤ 9223372036854775807 := by have := ha.fits; have := ha.max; unfold maxLen at *; omega
  unfold maxLen at hm
  have HAs : Hid (0 < n → ∃ b off, a = some ⟨b, off, none⟩ ∧ b < w.heap.size ∧ ∀ i, i < n → w.cell? ⟨b, off + i, none⟩ = some (.int .i64 (zs.getD i 0))) := ha.cells
  have LA : Hid (zs.length = n) := ha.len
  by_cases hnm : n = m
  · subst hnm
    have HE : Hid (tupB n zs = allI (-1000) 1000 zs) := by show _ = _; unfold tupB; rw [ha.len]; simp
    clear ha
    go_enter Try.func58, Try.ntmps58
    go_wp2
    go_loop [13] (fun i => ∃ k : Nat, k ≤ n ∧ i = .int .i64 k ∧ allI (-1000) 1000 (zs.take k) = true) (fun i => n - (intOf i).toNat)
    case atStart => exact ⟨0, Nat.zero_le _, rfl, rfl⟩
    case round =>
      obtain ⟨k, hk, rfl, hall⟩ := hrel
      have Hall : Hid (allI (-1000) 1000 (zs.take k) = true) := hall
      clear hall
      by_cases hlt : k < n
      · obtain ⟨b, off, rfl, hbl, hc⟩ := HAs.out (by omega)
        have hck := hc k hlt
        generalize hx : zs.getD k 0 = x at hck
        have HX : Hid (zs.getD k 0 = x) := hx
        clear hc hx
        cases hin : Val.inB x (-1000) 1000
        · have Hin : Hid (Val.inB x (-1000) 1000 = false) := hin
          clear hin
          go_wp2_with fail
          refine (Val.impl_isInBound _ _).mono ?_
          rintro e w' ⟨rfl, rfl⟩
          rw [Hin.out]
          go_wp2_with fail
          go_ret
          exact ⟨ret_bool (by rw [HE.out]; exact (Lst.all_take_false _ zs k (by rw [LA.out]; exact hlt) (by rw [HX.out]; exact Hin.out)).symm), rfl⟩
        · have Hin : Hid (Val.inB x (-1000) 1000 = true) := hin
          clear hin
          go_wp2_with fail
          refine (Val.impl_isInBound _ _).mono ?_
          rintro e w' ⟨rfl, rfl⟩
          rw [Hin.out]
          go_wp2_with fail
          go_round
          case rel => exact ⟨k + 1, by omega, by go_num, Lst.all_take_succ _ zs k (by rw [LA.out]; exact hlt) (by rw [HX.out]; exact Hin.out) Hall.out⟩
          case measure => simp [intOf]; omega
      · go_wp2
        go_ret
        have h := Hall.out
        rw [List.take_of_length_le (by rw [LA.out]; omega)] at h
        exact ⟨ret_bool (by rw [HE.out]; exact h.symm), rfl⟩
  · have HE : Hid (tupB m zs = false) := by show _ = _; unfold tupB; rw [ha.len]; simp [hnm]
    have hne : ((n : Int) != (m : Int)) = true := by rw [bne_iff_ne]; omega
    clear ha hnm
    go_enter Try.func58, Try.ntmps58
    go_wp2
    go_ret
    exact ⟨ret_bool HE.out.symm, rfl⟩


end Go.Proofs.Ytekheacbmbbpmaa.Oa
