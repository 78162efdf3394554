/-
  The laws' own tests of rows and tables.
-/
import Derived.Test.YtciaegdgoabipaaTfn
import Derived.Laws.StructEq
namespace Go.Proofs.Ytciaegdgoabipaa.Smt
open Go.RowKit
open Go.Proofs.Ytciaegdgoabipaa.Frame Go.Proofs.Ytciaegdgoabipaa.Mem Go.Proofs.Ytciaegdgoabipaa.Vals Go.Proofs.Ytciaegdgoabipaa.Rws Go.Proofs.Ytciaegdgoabipaa.Kep Go.Proofs.Ytciaegdgoabipaa.Knr

theorem neq_value (xb yb : Bool) (xn yn : Int) (w : World) : (binOp .neq 45 (.agg #[.bool xb, .int .i64 xn]) (.agg #[.bool yb, .int .i64 yn])).run Try.prog w = .ok (.bool (!((xb == yb) && (xn == yn)))) w := by
  have hS : Try.prog.underlying 45 = some (.struct (Try.prog.fieldsOf 45)) := by kernel_rfl
  have hp : Try.prog.stoodInHeld 45 = false := by kernel_rfl
  have u3 := Try.underlying3
  have u4 := Try.underlying4
  have a3 := Try.isAgg3
  have a4 := Try.isAgg4
  have z3 := Try.sizeOf3
  have z4 := Try.sizeOf4
  rw [run_neq_struct, show (10000 : Nat) = 9999 + 1 from rfl, run_equalIn_agg w 9999 45 _ _ hS hp]
  simp only [Program.fieldsOf, Try.underlying45]
  go_simp
  cases xb <;> cases yb <;> by_cases h2 : xn = yn <;> simp [h2]

set_option maxRecDepth 100000 in
set_option maxHeartbeats 1600000 in
theorem sameRow (k1 k2 : Int) (a b : Option Addr) (n m ca cb : Nat) (xs ys : List (Bool × Int)) (w : World) (ha : IsVals w a n ca xs) (hb : IsVals w b m cb ys) (hn : n ≤ 1048576) (hm : m ≤ 1048576) :
    Calls Try.prog 17 #[.agg #[.int .i64 k1, .slice a n ca], .agg #[.int .i64 k2, .slice b m cb]] w fun e w' => e = .returned (.bool (eqR (k1, xs) (k2, ys))) ∧ Below w.heap.size w w' := by
  have b2 : Below w.heap.size w ((w.alloc (.cells #[.int .i64 k1, .slice a n ca] 26)).alloc (.cells #[.int .i64 k2, .slice b m cb] 26)) := ((Below.refl _ _).alloc (Nat.le_refl _) _).alloc (by simp) _
  have la := ha.len
  have lb := hb.len
  by_cases h1 : k1 = k2
  · subst h1
    have HE : Hid (eqR (k1, xs) (k1, ys) = decide (xs = ys)) := by show _ = _; unfold eqR; simp
    by_cases hl : n = m
    · subst hl
      have HAs : Hid (0 < n → ∃ b off, a = some ⟨b, off, none⟩ ∧ b < w.heap.size ∧ ∀ i, i < n → w.cell? ⟨b, off + i * 2, none⟩ = some (.bool (xs.getD i vd).1) ∧ w.cell? ⟨b, off + i * 2 + 1, none⟩ = some (.int .i64 (xs.getD i vd).2)) := ha.cells
      have HBs : Hid (0 < n → ∃ c off, b = some ⟨c, off, none⟩ ∧ c < w.heap.size ∧ ∀ i, i < n → w.cell? ⟨c, off + i * 2, none⟩ = some (.bool (ys.getD i vd).1) ∧ w.cell? ⟨c, off + i * 2 + 1, none⟩ = some (.int .i64 (ys.getD i vd).2)) := hb.cells
      have LA : Hid (xs.length = n) := la
      have LB : Hid (ys.length = n) := lb
      have BW : Hid (Below w.heap.size w ((w.alloc (.cells #[.int .i64 k1, .slice a n ca] 26)).alloc (.cells #[.int .i64 k1, .slice b n cb] 26))) := b2
      clear la lb ha hb b2
      go_enter Try.func17, Try.ntmps17
      go_wp2
      go_loopw [23] (fun i wr => ∃ k : Nat, k ≤ n ∧ i = .int .i64 k ∧ xs.take k = ys.take k ∧ Below w.heap.size w wr ∧ wr.cell? ⟨w.heap.size, 1, none⟩ = some (.slice a n ca) ∧ wr.cell? ⟨w.heap.size + 1, 1, none⟩ = some (.slice b n cb)) (fun i _ => n - (intOf i).toNat)
      case atStart => exact ⟨0, Nat.zero_le _, rfl, rfl, BW.out, by simp, by simp⟩
      case round =>
        obtain ⟨k, hk, rfl, heq, hnx, pa, pb⟩ := hrel
        have Heq : Hid (xs.take k = ys.take k) := heq
        have Hn : Hid (Below w.heap.size w wr) := hnx
        clear heq hnx
        by_cases hlt : k < n
        · obtain ⟨b1, o1, rfl, hb1, hc1⟩ := HAs.out (by omega)
          obtain ⟨b2, o2, rfl, hb2, hc2⟩ := HBs.out (by omega)
          have p0 : wr.cell? ⟨b1, o1 + k * 2, none⟩ = some (.bool (xs.getD k vd).1) := by rw [Hn.out.cell (p := ⟨b1, o1 + k * 2, none⟩) hb1]; exact (hc1 k hlt).1
          have p1 : wr.cell? ⟨b1, o1 + k * 2 + 1, none⟩ = some (.int .i64 (xs.getD k vd).2) := by rw [Hn.out.cell (p := ⟨b1, o1 + k * 2 + 1, none⟩) hb1]; exact (hc1 k hlt).2
          have q0 : wr.cell? ⟨b2, o2 + k * 2, none⟩ = some (.bool (ys.getD k vd).1) := by rw [Hn.out.cell (p := ⟨b2, o2 + k * 2, none⟩) hb2]; exact (hc2 k hlt).1
          have q1 : wr.cell? ⟨b2, o2 + k * 2 + 1, none⟩ = some (.int .i64 (ys.getD k vd).2) := by rw [Hn.out.cell (p := ⟨b2, o2 + k * 2 + 1, none⟩) hb2]; exact (hc2 k hlt).2
          have hkI : (k : Int) < (n : Int) := by omega
          have hk0 : (0 : Int) ≤ (k : Int) := by omega
          have HXY : Hid (∀ x y, xs.getD k vd = x → ys.getD k vd = y → (x = y → xs.take (k + 1) = ys.take (k + 1)) ∧ (x ≠ y → xs ≠ ys)) := fun x y ex ey =>
            ⟨fun e => eq_take_vd xs ys k (by rw [LA.out]; exact hlt) (by rw [LB.out]; exact hlt) Heq.out (by rw [ex, ey, e]), fun e h => e (by rw [← ex, ← ey, h])⟩
          generalize hx : xs.getD k vd = x at p0 p1
          generalize hy : ys.getD k vd = y at q0 q1
          have HF : Hid _ := HXY.out x y hx hy
          obtain ⟨xb, xn⟩ := x
          obtain ⟨yb, yn⟩ := y
          simp only at p0 p1 q0 q1
          clear hc1 hc2 hx hy HXY
          have hg : Try.prog.eqGuardType Try.prog.depth 45 = false := by kernel_rfl
          have hq : ∀ w' : World, (binOp .neq 45 (.agg #[.bool xb, .int .i64 xn]) (.agg #[.bool yb, .int .i64 yn])).run Try.prog w' = .ok (.bool (!((xb == yb) && (xn == yn)))) w' := fun w' => neq_value xb yb xn yn w'
          cases hE : ((xb == yb) && (xn == yn))
          · have F : Hid (decide (xs = ys) = false) := decide_eq_false (HF.out.2 (fun e => by cases e; simp at hE))
            clear HF
            rw [hE] at hq
            go_wp2_with fail
            go_quiet (fail)
            go_wp2
            go_ret
            exact ⟨Ints.ret_bool (by rw [HE.out, F.out]), below_drewN Hn.out _⟩
          · have F : Hid (xs.take (k + 1) = ys.take (k + 1)) := HF.out.1 (by simp at hE; rw [hE.1, hE.2])
            clear HF
            rw [hE] at hq
            go_wp2_with fail
            go_quiet (fail)
            go_wp2
            go_roundw
            case rel => exact ⟨k + 1, by omega, by go_num, F.out, below_drewN Hn.out _, by simpa using pa, by simpa using pb⟩
            case measure => simp [intOf]; omega
        · have F : Hid (decide (xs = ys) = true) := decide_eq_true (by
            have h := Heq.out
            rwa [List.take_of_length_le (by rw [LA.out]; omega), List.take_of_length_le (by rw [LB.out]; omega)] at h)
          go_wp2
          go_ret
          exact ⟨Ints.ret_bool (by rw [HE.out, F.out]), Hn.out⟩
    · have F : Hid (decide (xs = ys) = false) := decide_eq_false (fun h => hl (by rw [← la, ← lb, h]))
      have hne : ((n : Int) != (m : Int)) = true := by rw [bne_iff_ne]; omega
      clear ha hb la lb hl
      go_enter Try.func17, Try.ntmps17
      go_wp2
      go_ret
      exact ⟨Ints.ret_bool (by rw [HE.out, F.out]), b2⟩
  · have HE : Hid (eqR (k1, xs) (k2, ys) = false) := by show _ = _; unfold eqR; simp [h1]
    have hb' : (k1 != k2) = true := by simp [h1]
    clear ha hb h1 la lb
    go_enter Try.func17, Try.ntmps17
    go_wp2
    go_ret
    exact ⟨Ints.ret_bool HE.out.symm, b2⟩

set_option maxHeartbeats 1600000 in
theorem sameTable (a b : Option Addr) (n m ca cb : Nat) (xs ys : List RowV) (w : World) (ha : IsRows w a n ca xs) (hb : IsRows w b m cb ys) (hn : n ≤ 1048576) (hm : m ≤ 1048576) (hx : ∀ r ∈ xs, r.n ≤ 1048576) (hy : ∀ r ∈ ys, r.n ≤ 1048576) :
    Calls Try.prog 12 #[.slice a n ca, .slice b m cb] w fun e w' => e = .returned (.bool (decide (plain xs = plain ys))) ∧ Below w.heap.size w w' := by
  have la := ha.len
  have lb := hb.len
  by_cases hl : n = m
  · subst hl
    have HA : Hid (IsRows w a n ca xs) := ha
    have HB : Hid (IsRows w b n cb ys) := hb
    have LA : Hid (xs.length = n) := la
    have LB : Hid (ys.length = n) := lb
    have NX : Hid (∀ r ∈ xs, r.n ≤ 1048576) := hx
    have NY : Hid (∀ r ∈ ys, r.n ≤ 1048576) := hy
    clear la lb ha hb hx hy
    go_enter Try.func12, Try.ntmps12
    go_wp2
    go_loopw [13] (fun i wr => ∃ k : Nat, k ≤ n ∧ i = .int .i64 k ∧ plain (xs.take k) = plain (ys.take k) ∧ Below w.heap.size w wr) (fun i _ => n - (intOf i).toNat)
    case atStart => exact ⟨0, Nat.zero_le _, rfl, rfl, Below.refl _ _⟩
    case round =>
      obtain ⟨k, hk, rfl, heq, hnx⟩ := hrel
      have Heq : Hid (plain (xs.take k) = plain (ys.take k)) := heq
      have Hn : Hid (Below w.heap.size w wr) := hnx
      clear heq hnx
      by_cases hlt : k < n
      · obtain ⟨b1, o1, rfl, hb1, hc1⟩ := HA.out.cells (by omega)
        obtain ⟨b2, o2, rfl, hb2, hc2⟩ := HB.out.cells (by omega)
        have kx : k < xs.length := by rw [LA.out]; exact hlt
        have ky : k < ys.length := by rw [LB.out]; exact hlt
        have p0 : wr.cell? ⟨b1, o1 + k * 2, none⟩ = some (.int .i64 (xs.getD k rd).key) := by rw [Hn.out.cell (p := ⟨b1, o1 + k * 2, none⟩) hb1]; exact (hc1 k hlt).1
        have p1 : wr.cell? ⟨b1, o1 + k * 2 + 1, none⟩ = some (.slice (xs.getD k rd).a (xs.getD k rd).n (xs.getD k rd).c) := by rw [Hn.out.cell (p := ⟨b1, o1 + k * 2 + 1, none⟩) hb1]; exact (hc1 k hlt).2
        have q0 : wr.cell? ⟨b2, o2 + k * 2, none⟩ = some (.int .i64 (ys.getD k rd).key) := by rw [Hn.out.cell (p := ⟨b2, o2 + k * 2, none⟩) hb2]; exact (hc2 k hlt).1
        have q1 : wr.cell? ⟨b2, o2 + k * 2 + 1, none⟩ = some (.slice (ys.getD k rd).a (ys.getD k rd).n (ys.getD k rd).c) := by rw [Hn.out.cell (p := ⟨b2, o2 + k * 2 + 1, none⟩) hb2]; exact (hc2 k hlt).2
        have vx := (HA.out.rows _ (getD_mem_rd kx)).2
        have vy := (HB.out.rows _ (getD_mem_rd ky)).2
        have nx := NX.out _ (getD_mem_rd kx)
        have ny := NY.out _ (getD_mem_rd ky)
        have hkI : (k : Int) < (n : Int) := by omega
        have hk0 : (0 : Int) ≤ (k : Int) := by omega
        have HXY : Hid ((((xs.getD k rd).key, (xs.getD k rd).vs) = ((ys.getD k rd).key, (ys.getD k rd).vs) → plain (xs.take (k + 1)) = plain (ys.take (k + 1))) ∧ (((xs.getD k rd).key, (xs.getD k rd).vs) ≠ ((ys.getD k rd).key, (ys.getD k rd).vs) → plain xs ≠ plain ys)) :=
          ⟨fun e => eq_take_rd xs ys k kx ky Heq.out e, fun e h => e (by rw [← plain_get xs k kx, ← plain_get ys k ky, h])⟩
        generalize xs.getD k rd = x at p0 p1 vx nx HXY
        generalize ys.getD k rd = y at q0 q1 vy ny HXY
        obtain ⟨xk, xa, xn, xc, xv⟩ := x
        obtain ⟨yk, ya, yn, yc, yv⟩ := y
        simp only at p0 p1 q0 q1 vx vy nx ny
        have VX : Hid (IsVals w xa xn xc xv) := vx
        have VY : Hid (IsVals w ya yn yc yv) := vy
        have HF : Hid (((xk, xv) = (yk, yv) → plain (xs.take (k + 1)) = plain (ys.take (k + 1))) ∧ ((xk, xv) ≠ (yk, yv) → plain xs ≠ plain ys)) := HXY.out
        clear hc1 hc2 vx vy HXY kx ky
        cases hE : eqR (xk, xv) (yk, yv)
        · have HE : Hid (eqR (xk, xv) (yk, yv) = false) := hE
          have F : Hid (decide (plain xs = plain ys) = false) := decide_eq_false (HF.out.2 (of_decide_eq_false hE))
          clear hE HF
          go_wp2_with fail
          go_region_held3 (fun w' => Below wr.heap.size wr w' ∧ w'.cell? ⟨b1, o1 + k * 2, none⟩ = some (.int .i64 xk) ∧ w'.cell? ⟨b1, o1 + k * 2 + 1, none⟩ = some (.slice xa xn xc) ∧ w'.cell? ⟨b2, o2 + k * 2, none⟩ = some (.int .i64 yk) ∧ w'.cell? ⟨b2, o2 + k * 2 + 1, none⟩ = some (.slice ya yn yc))
            (first | exact ⟨(Below.refl _ _).drew, p0, p1, q0, q1⟩ | exact (fun kb => ⟨kb, Frame.held_cell kb p0, Frame.held_cell kb p1, Frame.held_cell kb q0, Frame.held_cell kb q1⟩) (Frame.held_next ‹Below wr.heap.size wr _ ∧ _› hb))
            (first | (go_at_call 17; refine (sameRow _ _ _ _ _ _ _ _ xv yv _ ?_ ?_ nx ny).mono ?_; exact VX.out.below (Frame.next Hn.out (And.left ‹Below wr.heap.size wr _ ∧ _›) Hn.out.size); exact VY.out.below (Frame.next Hn.out (And.left ‹Below wr.heap.size wr _ ∧ _›) Hn.out.size); rintro e w1 ⟨rfl, hb⟩; rw [HE.out]))
          have Hn1 : Hid (Below w.heap.size w w1) := Frame.next Hn.out (And.left ‹Below wr.heap.size wr _ ∧ _›) Hn.out.size
          clear p0 p1 q0 q1 hb
          go_wp2
          go_ret
          exact ⟨Ints.ret_bool F.out.symm, Hn1.out⟩
        · have HE : Hid (eqR (xk, xv) (yk, yv) = true) := hE
          have F : Hid (plain (xs.take (k + 1)) = plain (ys.take (k + 1))) := HF.out.1 (of_decide_eq_true hE)
          clear hE HF
          go_wp2_with fail
          go_region_held3 (fun w' => Below wr.heap.size wr w' ∧ w'.cell? ⟨b1, o1 + k * 2, none⟩ = some (.int .i64 xk) ∧ w'.cell? ⟨b1, o1 + k * 2 + 1, none⟩ = some (.slice xa xn xc) ∧ w'.cell? ⟨b2, o2 + k * 2, none⟩ = some (.int .i64 yk) ∧ w'.cell? ⟨b2, o2 + k * 2 + 1, none⟩ = some (.slice ya yn yc))
            (first | exact ⟨(Below.refl _ _).drew, p0, p1, q0, q1⟩ | exact (fun kb => ⟨kb, Frame.held_cell kb p0, Frame.held_cell kb p1, Frame.held_cell kb q0, Frame.held_cell kb q1⟩) (Frame.held_next ‹Below wr.heap.size wr _ ∧ _› hb))
            (first | (go_at_call 17; refine (sameRow _ _ _ _ _ _ _ _ xv yv _ ?_ ?_ nx ny).mono ?_; exact VX.out.below (Frame.next Hn.out (And.left ‹Below wr.heap.size wr _ ∧ _›) Hn.out.size); exact VY.out.below (Frame.next Hn.out (And.left ‹Below wr.heap.size wr _ ∧ _›) Hn.out.size); rintro e w1 ⟨rfl, hb⟩; rw [HE.out]))
          have Hn1 : Hid (Below w.heap.size w w1) := Frame.next Hn.out (And.left ‹Below wr.heap.size wr _ ∧ _›) Hn.out.size
          clear p0 p1 q0 q1 hb
          go_wp2
          go_roundw
          case rel => exact ⟨k + 1, by omega, by go_num, F.out, Hn1.out⟩
          case measure => simp [intOf]; omega
      · have F : Hid (decide (plain xs = plain ys) = true) := decide_eq_true (by
          have h := Heq.out
          rwa [List.take_of_length_le (by rw [LA.out]; omega), List.take_of_length_le (by rw [LB.out]; omega)] at h)
        go_wp2
        go_ret
        exact ⟨Ints.ret_bool F.out.symm, Hn.out⟩
  · have e : decide (plain xs = plain ys) = false := decide_eq_false (fun h => hl (by rw [← la, ← lb]; have := congrArg List.length h; simpa [plain] using this))
    rw [e]
    have hne : ((n : Int) != (m : Int)) = true := by rw [bne_iff_ne]; omega
    clear e ha hb la lb hl
    go_enter Try.func12, Try.ntmps12
    go_wp2
    go_ret
    exact ⟨rfl, Below.refl _ _⟩

theorem same_table (u v : Value) (xs ys : List (Int × List (Bool × Int))) (w : World) (h1 : RIs w u xs) (h2 : RIs w v ys) : Calls Try.prog 12 #[u, v] w fun e w' => e = .returned (.bool (decide (xs = ys))) ∧ Below w.heap.size w w' := by
  obtain ⟨a, n, cap, rs, rfl, hr, rfl, ht⟩ := h1
  obtain ⟨b, m, cb, qs, rfl, hq, rfl, ht2⟩ := h2
  exact sameTable a b n m cap cb rs qs w hr hq (by rw [← hr.len]; exact (small_rows ht).1) (by rw [← hq.len]; exact (small_rows ht2).1) (small_rows ht).2 (small_rows ht2).2

theorem same_row (a b : Option Addr) (n ca m cb : Nat) (x y : Int × List (Bool × Int)) (w : World) (h1 : WIs w a n ca x) (h2 : WIs w b m cb y) : Calls Try.prog 17 #[.agg #[.int .i64 x.1, .slice a n ca], .agg #[.int .i64 y.1, .slice b m cb]] w fun e w' => e = .returned (.bool (decide (x = y))) ∧ Below w.heap.size w w' := by
  refine (sameRow x.1 y.1 a b n m ca cb x.2 y.2 w h1.1 h2.1 h1.2 h2.2).mono ?_
  rintro e w' ⟨rfl, hb⟩
  exact ⟨rfl, hb⟩


end Go.Proofs.Ytciaegdgoabipaa.Smt
