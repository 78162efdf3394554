/-
  The laws' helpers on lists, and the drawn links as the laws take them.
-/
import Derived.Test.YtkondmnkmbdncaaDrl
import Derived.Test.YtkondmnkmbdncaaGpx
namespace Go.Proofs.Ytkondmnkmbdncaa.Dlg
open Go.RowKit
open Go.Proofs.Ytkondmnkmbdncaa.Frame Go.Proofs.Ytkondmnkmbdncaa.Mem Go.Proofs.Ytkondmnkmbdncaa.Ints Go.Proofs.Ytkondmnkmbdncaa.Kep Go.Proofs.Ytkondmnkmbdncaa.Lls Go.Proofs.Ytkondmnkmbdncaa.Mis Go.Proofs.Ytkondmnkmbdncaa.Cur Go.Proofs.Ytkondmnkmbdncaa.Draw1 Go.Proofs.Ytkondmnkmbdncaa.Drl
open Go.Proofs.Ytkondmnkmbdncaa.Knl hiding Ll
open Go.Proofs.Ytkondmnkmbdncaa.Rel

set_option maxHeartbeats 400000 in
theorem laws_has (a : Option Addr) (n ca : Nat) (zs : List Int) (x : Int) (w : World) (ha : IsRow .i64 w a n ca zs) :
    Calls Try.prog 23 #[.slice a n ca, .int .i64 x] w fun e w' => e = .returned (.bool (decide (x ∈ zs))) ∧ w' = w := by
  have hmaxn : n ≤ 9223372036854775807 := by have := ha.fits; have := ha.max; unfold maxLen at *; omega
  have HAs : Hid (0 < n → ∃ b off, a = some ⟨b, off, none⟩ ∧ b < w.heap.size ∧ ∀ i, i < n → w.cell? ⟨b, off + i, none⟩ = some (.int .i64 (zs.getD i 0))) := ha.cells
  have LA : Hid (zs.length = n) := ha.len
  clear ha
  go_enter Try.func23, Try.ntmps23
  go_wp2
  go_loop [9] (fun i => ∃ k : Nat, k ≤ n ∧ i = .int .i64 k ∧ x ∉ zs.take k) (fun i => n - (intOf i).toNat)
  case atStart => exact ⟨0, Nat.zero_le _, rfl, by simp⟩
  case round =>
    obtain ⟨k, hk, rfl, hall⟩ := hrel
    have Hall : Hid (x ∉ zs.take k) := hall
    clear hall
    by_cases hlt : k < n
    · obtain ⟨b, off, rfl, hbl, hc⟩ := HAs.out (by omega)
      have hck := hc k hlt
      have hkl : k < zs.length := by rw [LA.out]; exact hlt
      have HX : Hid ((zs.getD k 0 = x → decide (x ∈ zs) = true) ∧ (zs.getD k 0 ≠ x → x ∉ zs.take (k + 1))) :=
        ⟨fun e => decide_eq_true (by rw [← e]; exact getD_mem hkl), fun e h => by
          rw [take_succ_getD hkl, List.mem_append, List.mem_singleton] at h
          rcases h with h | h
          · exact Hall.out h
          · exact e h.symm⟩
      generalize zs.getD k 0 = y at hck HX
      clear hc hkl
      by_cases hv : y = x
      · have F : Hid (decide (x ∈ zs) = true) := HX.out.1 hv
        have hb : (y == x) = true := by rw [beq_iff_eq]; exact hv
        clear HX hv
        go_wp2
        go_ret
        exact ⟨ret_bool F.out.symm, rfl⟩
      · have F : Hid (x ∉ zs.take (k + 1)) := HX.out.2 hv
        have hb : (y == x) = false := by rw [beq_eq_false_iff_ne]; exact hv
        clear HX hv
        go_wp2
        go_round
        case rel => exact ⟨k + 1, by omega, by go_num, F.out⟩
        case measure => simp [intOf]; omega
    · have F : Hid (decide (x ∈ zs) = false) := decide_eq_false (by
        have := Hall.out
        rwa [List.take_of_length_le (by rw [LA.out]; omega)] at this)
      go_wp2
      go_ret
      exact ⟨ret_bool F.out.symm, rfl⟩

set_option maxHeartbeats 400000 in
theorem placeIn (a : Option Addr) (n ca : Nat) (zs : List Int) (x : Int) (w : World) (ha : IsRow .i64 w a n ca zs) :
    Calls Try.prog 36 #[.slice a n ca, .int .i64 x] w fun e w' => e = .returned (.int .i64 (Lib.idxOf zs x)) ∧ w' = w := by
  have hmaxn : n ≤ 9223372036854775807 := by have := ha.fits; have := ha.max; unfold maxLen at *; omega
  have HAs : Hid (0 < n → ∃ b off, a = some ⟨b, off, none⟩ ∧ b < w.heap.size ∧ ∀ i, i < n → w.cell? ⟨b, off + i, none⟩ = some (.int .i64 (zs.getD i 0))) := ha.cells
  have LA : Hid (zs.length = n) := ha.len
  clear ha
  go_enter Try.func36, Try.ntmps36
  go_wp2
  go_loop [9] (fun i => ∃ k : Nat, k ≤ n ∧ i = .int .i64 k ∧ ∀ j, j < k → zs.getD j 0 ≠ x) (fun i => n - (intOf i).toNat)
  case atStart => exact ⟨0, Nat.zero_le _, rfl, fun j hj => absurd hj (by omega)⟩
  case round =>
    obtain ⟨k, hk, rfl, hall⟩ := hrel
    have Hall : Hid (∀ j, j < k → zs.getD j 0 ≠ x) := hall
    clear hall
    by_cases hlt : k < n
    · obtain ⟨b, off, rfl, hbl, hc⟩ := HAs.out (by omega)
      have hck := hc k hlt
      have HX : Hid ((zs.getD k 0 = x → Lib.idxOf zs x = k) ∧ (zs.getD k 0 ≠ x → ∀ j, j < k + 1 → zs.getD j 0 ≠ x)) :=
        ⟨fun e => idx_is (by rw [LA.out]; exact hlt) e Hall.out, fun e j hj => by
          by_cases h : j = k
          · rw [h]; exact e
          · exact Hall.out j (by omega)⟩
      generalize zs.getD k 0 = y at hck HX
      clear hc
      by_cases hv : y = x
      · have F : Hid (Lib.idxOf zs x = k) := HX.out.1 hv
        have hb : (y == x) = true := by rw [beq_iff_eq]; exact hv
        clear HX hv
        go_wp2
        go_ret
        exact ⟨ret_int F.out.symm, rfl⟩
      · have F : Hid (∀ j, j < k + 1 → zs.getD j 0 ≠ x) := HX.out.2 hv
        have hb : (y == x) = false := by rw [beq_eq_false_iff_ne]; exact hv
        clear HX hv
        go_wp2
        go_round
        case rel => exact ⟨k + 1, by omega, by go_num, F.out⟩
        case measure => simp [intOf]; omega
    · have F : Hid (Lib.idxOf zs x = -1) := by
        have := Lib.idxOf_miss zs n x (fun j hj => Hall.out j (by omega))
        rwa [List.take_of_length_le (by rw [LA.out]; omega)] at this
      go_wp2
      go_ret
      exact ⟨ret_int F.out.symm, rfl⟩

set_option maxHeartbeats 1600000 in
theorem sameRowsG (a b : Option Addr) (n m ca cb : Nat) (xs ys : List LV) (w : World) (ha : IsLs w a n ca xs) (hb : IsLs w b m cb ys) (hn : n ≤ 1048576) (hm : m ≤ 1048576) (hx : ∀ r ∈ xs, r.n ≤ 1048576) (hy : ∀ r ∈ ys, r.n ≤ 1048576) :
    Calls Try.prog 32 #[.slice a n ca, .slice b m cb] w fun e w' => e = .returned (.bool (decide (lplain xs = lplain ys))) ∧ Below w.heap.size w w' := by
  have la := ha.len
  have lb := hb.len
  by_cases hl : n = m
  · subst hl
    have HA : Hid (IsLs w a n ca xs) := ha
    have HB : Hid (IsLs w b n cb ys) := hb
    have LA : Hid (xs.length = n) := la
    have LB : Hid (ys.length = n) := lb
    have NX : Hid (∀ r ∈ xs, r.n ≤ 1048576) := hx
    have NY : Hid (∀ r ∈ ys, r.n ≤ 1048576) := hy
    clear la lb ha hb hx hy
    go_enter Try.func32, Try.ntmps32
    go_wp2
    go_loopw [13] (fun i wr => ∃ k : Nat, k ≤ n ∧ i = .int .i64 k ∧ lplain (xs.take k) = lplain (ys.take k) ∧ Below w.heap.size w wr) (fun i _ => n - (intOf i).toNat)
    case atStart => exact ⟨0, Nat.zero_le _, rfl, rfl, Below.refl _ _⟩
    case round =>
      obtain ⟨k, hk, rfl, heq, hnx⟩ := hrel
      have Heq : Hid (lplain (xs.take k) = lplain (ys.take k)) := heq
      have Hn : Hid (Below w.heap.size w wr) := hnx
      clear heq hnx
      by_cases hlt : k < n
      · obtain ⟨b1, o1, rfl, hb1, hc1⟩ := HA.out.cells (by omega)
        obtain ⟨b2, o2, rfl, hb2, hc2⟩ := HB.out.cells (by omega)
        have kx : k < xs.length := by rw [LA.out]; exact hlt
        have ky : k < ys.length := by rw [LB.out]; exact hlt
        have p1 : wr.cell? ⟨b1, o1 + k, none⟩ = some (.slice (xs.getD k ld).a (xs.getD k ld).n (xs.getD k ld).c) := by rw [Hn.out.cell (p := ⟨b1, o1 + k, none⟩) hb1]; exact hc1 k hlt
        have q1 : wr.cell? ⟨b2, o2 + k, none⟩ = some (.slice (ys.getD k ld).a (ys.getD k ld).n (ys.getD k ld).c) := by rw [Hn.out.cell (p := ⟨b2, o2 + k, none⟩) hb2]; exact hc2 k hlt
        have vx := HA.out.rows _ (getD_mem_ld kx)
        have vy := HB.out.rows _ (getD_mem_ld ky)
        have nx := NX.out _ (getD_mem_ld kx)
        have ny := NY.out _ (getD_mem_ld ky)
        have hkI : (k : Int) < (n : Int) := by omega
        have hk0 : (0 : Int) ≤ (k : Int) := by omega
        have HXY : Hid (((xs.getD k ld).zs = (ys.getD k ld).zs → lplain (xs.take (k + 1)) = lplain (ys.take (k + 1))) ∧ ((xs.getD k ld).zs ≠ (ys.getD k ld).zs → lplain xs ≠ lplain ys)) :=
          ⟨fun e => eq_take_ld xs ys k kx ky Heq.out e, fun e h => e (by rw [← lplain_get xs k kx, ← lplain_get ys k ky, h])⟩
        generalize xs.getD k ld = x at p1 vx nx HXY
        generalize ys.getD k ld = y at q1 vy ny HXY
        obtain ⟨xa, xn, xc, xv⟩ := x
        obtain ⟨ya, yn, yc, yv⟩ := y
        simp only at p1 q1 vx vy nx ny
        have VX : Hid (IsRow .i64 w xa xn xc xv) := vx
        have VY : Hid (IsRow .i64 w ya yn yc yv) := vy
        have HF : Hid ((xv = yv → lplain (xs.take (k + 1)) = lplain (ys.take (k + 1))) ∧ (xv ≠ yv → lplain xs ≠ lplain ys)) := HXY.out
        clear hc1 hc2 vx vy HXY kx ky
        cases hE : decide (xv = yv)
        · have HE : Hid (decide (xv = yv) = false) := hE
          have F : Hid (decide (lplain xs = lplain ys) = false) := decide_eq_false (HF.out.2 (of_decide_eq_false hE))
          clear hE HF
          go_wp2_with fail
          go_region_held3 (fun w' => Below wr.heap.size wr w' ∧ w'.cell? ⟨b1, o1 + k, none⟩ = some (.slice xa xn xc) ∧ w'.cell? ⟨b2, o2 + k, none⟩ = some (.slice ya yn yc))
            (first | exact ⟨(Below.refl _ _).drew, p1, q1⟩ | exact (fun kb => ⟨kb, Frame.held_cell kb p1, Frame.held_cell kb q1⟩) (Frame.held_next ‹Below wr.heap.size wr _ ∧ _› hb))
            (first | (go_at_call 20; refine (Ints.sameInts _ _ _ _ _ _ xv yv _ ?_ ?_ nx ny).mono ?_; exact IsRow.below VX.out (Frame.next Hn.out (And.left ‹Below wr.heap.size wr _ ∧ _›) Hn.out.size); exact IsRow.below VY.out (Frame.next Hn.out (And.left ‹Below wr.heap.size wr _ ∧ _›) Hn.out.size); rintro e w1 ⟨rfl, hb⟩; rw [HE.out]))
          have Hn1 : Hid (Below w.heap.size w w1) := Frame.next Hn.out (And.left ‹Below wr.heap.size wr _ ∧ _›) Hn.out.size
          clear p1 q1 hb
          go_wp2
          go_ret
          exact ⟨Ints.ret_bool F.out.symm, Hn1.out⟩
        · have HE : Hid (decide (xv = yv) = true) := hE
          have F : Hid (lplain (xs.take (k + 1)) = lplain (ys.take (k + 1))) := HF.out.1 (of_decide_eq_true hE)
          clear hE HF
          go_wp2_with fail
          go_region_held3 (fun w' => Below wr.heap.size wr w' ∧ w'.cell? ⟨b1, o1 + k, none⟩ = some (.slice xa xn xc) ∧ w'.cell? ⟨b2, o2 + k, none⟩ = some (.slice ya yn yc))
            (first | exact ⟨(Below.refl _ _).drew, p1, q1⟩ | exact (fun kb => ⟨kb, Frame.held_cell kb p1, Frame.held_cell kb q1⟩) (Frame.held_next ‹Below wr.heap.size wr _ ∧ _› hb))
            (first | (go_at_call 20; refine (Ints.sameInts _ _ _ _ _ _ xv yv _ ?_ ?_ nx ny).mono ?_; exact IsRow.below VX.out (Frame.next Hn.out (And.left ‹Below wr.heap.size wr _ ∧ _›) Hn.out.size); exact IsRow.below VY.out (Frame.next Hn.out (And.left ‹Below wr.heap.size wr _ ∧ _›) Hn.out.size); rintro e w1 ⟨rfl, hb⟩; rw [HE.out]))
          have Hn1 : Hid (Below w.heap.size w w1) := Frame.next Hn.out (And.left ‹Below wr.heap.size wr _ ∧ _›) Hn.out.size
          clear p1 q1 hb
          go_wp2
          go_roundw
          case rel => exact ⟨k + 1, by omega, by go_num, F.out, Hn1.out⟩
          case measure => simp [intOf]; omega
      · have F : Hid (decide (lplain xs = lplain ys) = true) := decide_eq_true (by
          have h := Heq.out
          rwa [List.take_of_length_le (by rw [LA.out]; omega), List.take_of_length_le (by rw [LB.out]; omega)] at h)
        go_wp2
        go_ret
        exact ⟨Ints.ret_bool F.out.symm, Hn.out⟩
  · have e : decide (lplain xs = lplain ys) = false := decide_eq_false (fun h => hl (by rw [← la, ← lb]; have := congrArg List.length h; simpa [lplain] using this))
    rw [e]
    have hne : ((n : Int) != (m : Int)) = true := by rw [bne_iff_ne]; omega
    clear e ha hb la lb hl
    go_enter Try.func32, Try.ntmps32
    go_wp2
    go_ret
    exact ⟨rfl, Below.refl _ _⟩


theorem sameRows (u v : Value) (xs ys : Ll) (w : World) (h1 : LIs w u xs) (h2 : LIs w v ys) : Calls Try.prog 32 #[u, v] w fun e w' => e = .returned (.bool (decide (xs = ys))) ∧ Below w.heap.size w w' := by
  obtain ⟨a, n, cap, rs, rfl, hr, rfl, ht⟩ := h1
  obtain ⟨b, m, cb, qs, rfl, hq, rfl, ht2⟩ := h2
  exact sameRowsG a b n m cap cb rs qs w hr hq (by rw [← hr.len]; exact (small_ls ht).1) (by rw [← hq.len]; exact (small_ls ht2).1) (small_ls ht).2 (small_ls ht2).2
theorem sameInts (u v : Value) (xs ys : List Int) (w : World) (h1 : IIs w u xs) (h2 : IIs w v ys) : Calls Try.prog 20 #[u, v] w fun e w' => e = .returned (.bool (decide (xs = ys))) ∧ Below w.heap.size w w' := by
  obtain ⟨a, n, cap, rfl, hr, hn⟩ := h1
  obtain ⟨b, m, cb, rfl, hq, hm⟩ := h2
  exact Ints.sameInts a b n m cap cb xs ys w hr hq hn hm

/-- Some links. -/
def SomeD (w : World) (e : Ending) (w' : World) : Prop := ∃ (v : Value) (xs : Ll), e = .returned v ∧ LIs w' v xs ∧ Below w.heap.size w w'

set_option maxRecDepth 8000 in
theorem draw_GoodLinks (a : Option Addr) (n cap : Nat) (zs : List Int) (w : World) (h : IsRow .u8 w a n cap zs) :
    Calls Try.prog 82 #[.slice a n cap] w (SomeD w) := by
  have H : Hid _ := is_new h 68
  clear h
  go_enter Try.func82, Try.ntmps82
  go_wp2_with fail
  refine (Drl.links w.heap.size 0 _ H.out (by omega)).mono ?_
  rintro e w1 ⟨v, xs, rfl, ho, hn, hm⟩
  have F : Hid (LIs w1 v xs) := lOwn_is ho
  have B : Hid (Below w.heap.size w w1) := left_below hm
  clear ho hm
  go_wp2
  go_ret
  exact ⟨v, xs, rfl, F.out, B.out⟩

theorem draw_GroupsOf (a : Option Addr) (n cap : Nat) (zs : List Int) (w : World) (h : IsRow .u8 w a n cap zs) :
    Calls Try.prog 27 #[.slice a n cap] w (SomeD w) := by
  have H : Hid (IsRow .u8 w a n cap zs) := h
  clear h
  go_enter Try.func27, Try.ntmps27
  go_wp2_with fail
  refine (draw_GoodLinks a n cap zs _ H.out).mono ?_
  rintro e w1 ⟨v, xs, rfl, hv, hb⟩
  have F : Hid (LIs w1 v xs) := hv
  have B : Hid (Below w.heap.size w w1) := hb
  clear hv hb
  go_wp2
  go_ret
  exact ⟨v, xs, rfl, F.out, B.out⟩

theorem draw_Shrink (a : Option Addr) (n cap : Nat) (zs : List Int) (w : World) (h : IsRow .u8 w a n cap zs) :
    Calls Try.prog 40 #[.slice a n cap] w (SomeD w) := by
  have H : Hid (IsRow .u8 w a n cap zs) := h
  clear h
  go_enter Try.func40, Try.ntmps40
  go_wp2_with fail
  refine (draw_GoodLinks a n cap zs _ H.out).mono ?_
  rintro e w1 ⟨v, xs, rfl, hv, hb⟩
  have F : Hid (LIs w1 v xs) := hv
  have B : Hid (Below w.heap.size w w1) := hb
  clear hv hb
  go_wp2
  go_ret
  exact ⟨v, xs, rfl, F.out, B.out⟩

theorem draw_IsRoundless (a : Option Addr) (n cap : Nat) (zs : List Int) (w : World) (h : IsRow .u8 w a n cap zs) :
    Calls Try.prog 44 #[.slice a n cap] w (SomeD w) := by
  have H : Hid (IsRow .u8 w a n cap zs) := h
  clear h
  go_enter Try.func44, Try.ntmps44
  go_wp2_with fail
  refine (draw_GoodLinks a n cap zs _ H.out).mono ?_
  rintro e w1 ⟨v, xs, rfl, hv, hb⟩
  have F : Hid (LIs w1 v xs) := hv
  have B : Hid (Below w.heap.size w w1) := hb
  clear hv hb
  go_wp2
  go_ret
  exact ⟨v, xs, rfl, F.out, B.out⟩

/-- Some links and a number. -/
def SomeK (w : World) (e : Ending) (w' : World) : Prop := ∃ (v : Value) (xs : Ll) (k : Int), e = .returned (.tuple #[v, .int .i64 k]) ∧ LIs w' v xs ∧ Below w.heap.size w w'

theorem links_moved {b : Nat} {t : Int} {w w1 w2 : World} {v : Value} {xs : Ll} (h : LOwn w1 w.heap.size w1.heap.size v xs) (hb : b < w.heap.size) (m : Moved b t w1 w2) : LOwn w2 w.heap.size w1.heap.size v xs :=
  lOwn_keeps h (Keeps.of_only (lo := b) (hi := b + 1) m.2 (fun x hx => by cases hx; exact ⟨Nat.le_refl _, Nat.lt_succ_self _⟩)) (Or.inr (by omega))

set_option maxRecDepth 8000 in
set_option maxHeartbeats 800000 in
theorem draw_ReachOf (a : Option Addr) (n cap : Nat) (zs : List Int) (w : World) (h : IsRow .u8 w a n cap zs) :
    Calls Try.prog 95 #[.slice a n cap] w (SomeK w) := by
  have H : Hid _ := is_new h 68
  clear h
  have hW : w.heap.size < (w.alloc (.cells #[.slice a n cap, .int .i64 0, .int .u64 0] 68)).heap.size := by simp
  go_enter Try.func95, Try.ntmps95
  go_wp2_with fail
  refine (Drl.links w.heap.size 0 _ H.out (by omega)).mono ?_
  rintro e w1 ⟨v, xs, rfl, ho, hn, hm⟩
  obtain ⟨la, ln, lc, rs, rfl, hl, hp, htt⟩ := lOwn_is ho
  have HO : Hid (LOwn w1 (w.alloc (.cells #[.slice a n cap, .int .i64 0, .int .u64 0] 68)).heap.size w1.heap.size (.slice la ln lc) xs) := ho
  have hln : ln ≤ 13 := by have h1 := hl.len; have h2 : (lplain rs).length = rs.length := by simp [lplain]
                           rw [hp] at h2; omega
  have M1 : Hid (Moved w.heap.size 150 (w.alloc (.cells #[.slice a n cap, .int .i64 0, .int .u64 0] 68)) w1) := Drl.Moved.mono hm (by omega)
  have HW : Hid (w.heap.size < (w.alloc (.cells #[.slice a n cap, .int .i64 0, .int .u64 0] 68)).heap.size) := hW
  clear ho hm hl hp htt hn hW
  go_wp2_with fail
  refine (Cur.pick w.heap.size _ ((ln : Int) + 1) _ M1.out.1 (by omega) (by omega) (by omega)).mono ?_
  rintro e w2 ⟨x, rfl, hx0, hx1, hl2⟩
  have M2 : Hid (Moved w.heap.size 152 (w.alloc (.cells #[.slice a n cap, .int .i64 0, .int .u64 0] 68)) w2) := Drl.Moved.mono (M1.out.next hl2) (by omega)
  have O2 : Hid (LOwn w2 (w.alloc (.cells #[.slice a n cap, .int .i64 0, .int .u64 0] 68)).heap.size w1.heap.size (.slice la ln lc) xs) := links_moved HO.out HW.out hl2
  clear hl2
  go_wp2_with fail
  refine (Cur.pick w.heap.size _ 9 _ M2.out.1 (by omega) (by omega) (by omega)).mono ?_
  rintro e w3 ⟨y, rfl, hy0, hy1, hl3⟩
  have F : Hid (LIs w3 (.slice la ln lc) xs) := lOwn_is (lOwn_keeps O2.out (Keeps.of_only (lo := w.heap.size) (hi := w.heap.size + 1) hl3.2 (fun x hx => by cases hx; exact ⟨Nat.le_refl _, Nat.lt_succ_self _⟩)) (Or.inr (by have := HW.out; omega)))
  have B : Hid (Below w.heap.size w w3) := left_below (M2.out.next hl3)
  clear hl3
  go_wp2
  go_ret2
  exact ⟨_, xs, _, rfl, F.out, B.out⟩

theorem draw_GroupAt (a : Option Addr) (n cap : Nat) (zs : List Int) (w : World) (h : IsRow .u8 w a n cap zs) :
    Calls Try.prog 37 #[.slice a n cap] w (SomeK w) := by
  have H : Hid (IsRow .u8 w a n cap zs) := h
  clear h
  go_enter Try.func37, Try.ntmps37
  go_wp2_with fail
  refine (draw_ReachOf a n cap zs _ H.out).mono ?_
  rintro e w1 ⟨v, xs, k, rfl, hv, hb⟩
  have F : Hid (LIs w1 v xs) := hv
  have B : Hid (Below w.heap.size w w1) := hb
  clear hv hb
  go_wp2
  go_ret2
  exact ⟨v, xs, k, rfl, F.out, B.out⟩


end Go.Proofs.Ytkondmnkmbdncaa.Dlg
