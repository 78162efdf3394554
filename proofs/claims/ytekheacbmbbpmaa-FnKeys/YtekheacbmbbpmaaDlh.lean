/-
  The laws' helpers on lists and on relations.
-/
import Derived.Test.YtekheacbmbbpmaaKrl
import Derived.Test.YtekheacbmbbpmaaMis
namespace Go.Proofs.Ytekheacbmbbpmaa.Dlh
open Go.RowKit
open Go.Proofs.Ytekheacbmbbpmaa.Frame Go.Proofs.Ytekheacbmbbpmaa.Mem Go.Proofs.Ytekheacbmbbpmaa.Ints Go.Proofs.Ytekheacbmbbpmaa.Kep Go.Proofs.Ytekheacbmbbpmaa.Lls Go.Proofs.Ytekheacbmbbpmaa.Mis Go.Proofs.Ytekheacbmbbpmaa.Krl
open Go.Proofs.Ytekheacbmbbpmaa.Knl hiding Ll
open Go.Proofs.Ytekheacbmbbpmaa.Rel

set_option maxHeartbeats 1600000 in
theorem sameRowsG (a b : Option Addr) (n m ca cb : Nat) (xs ys : List LV) (w : World) (ha : IsLs w a n ca xs) (hb : IsLs w b m cb ys) (hn : n ≤ 1048576) (hm : m ≤ 1048576) (hx : ∀ r ∈ xs, r.n ≤ 1048576) (hy : ∀ r ∈ ys, r.n ≤ 1048576) :
    Calls Try.prog 9 #[.slice a n ca, .slice b m cb] w fun e w' => e = .returned (.bool (decide (lplain xs = lplain ys))) ∧ Below w.heap.size w w' := by
  have la := ha.len
  have lb := hb.len
  by_cases hl : n = m
  · subst hl
    have HA : Hid (IsLs w a n ca xs) := ha
    have HB : Hid (IsLs w b n cb ys) := hb
    have LA : Hid (xs.length = n) := la
    have LB : Hid (ys.length = n) := lb
    have NX : Hid (∀ r ∈ xs, r.n ≤ 1048576) := hx
    have NY : Hid (∀ r ∈ ys, r.n ≤ 1048576) := hy
    clear la lb ha hb hx hy
    go_enter Try.func9, Try.ntmps9
    go_wp2
    go_loopw [13] (fun i wr => ∃ k : Nat, k ≤ n ∧ i = .int .i64 k ∧ lplain (xs.take k) = lplain (ys.take k) ∧ Below w.heap.size w wr) (fun i _ => n - (intOf i).toNat)
    case atStart => exact ⟨0, Nat.zero_le _, rfl, rfl, Below.refl _ _⟩
    case round =>
      obtain ⟨k, hk, rfl, heq, hnx⟩ := hrel
      have Heq : Hid (lplain (xs.take k) = lplain (ys.take k)) := heq
      have Hn : Hid (Below w.heap.size w wr) := hnx
      clear heq hnx
      by_cases hlt : k < n
      · obtain ⟨b1, o1, rfl, hb1, hc1⟩ := HA.out.cells (by omega)
        obtain ⟨b2, o2, rfl, hb2, hc2⟩ := HB.out.cells (by omega)
        have kx : k < xs.length := by rw [LA.out]; exact hlt
        have ky : k < ys.length := by rw [LB.out]; exact hlt
        have p1 : wr.cell? ⟨b1, o1 + k, none⟩ = some (.slice (xs.getD k ld).a (xs.getD k ld).n (xs.getD k ld).c) := by rw [Hn.out.cell (p := ⟨b1, o1 + k, none⟩) hb1]; exact hc1 k hlt
        have q1 : wr.cell? ⟨b2, o2 + k, none⟩ = some (.slice (ys.getD k ld).a (ys.getD k ld).n (ys.getD k ld).c) := by rw [Hn.out.cell (p := ⟨b2, o2 + k, none⟩) hb2]; exact hc2 k hlt
        have vx := HA.out.rows _ (getD_mem_ld kx)
        have vy := HB.out.rows _ (getD_mem_ld ky)
        have nx := NX.out _ (getD_mem_ld kx)
        have ny := NY.out _ (getD_mem_ld ky)
        have hkI : (k : Int) < (n : Int) := by omega
        have hk0 : (0 : Int) ≤ (k : Int) := by omega
        have HXY : Hid (((xs.getD k ld).zs = (ys.getD k ld).zs → lplain (xs.take (k + 1)) = lplain (ys.take (k + 1))) ∧ ((xs.getD k ld).zs ≠ (ys.getD k ld).zs → lplain xs ≠ lplain ys)) :=
          ⟨fun e => eq_take_ld xs ys k kx ky Heq.out e, fun e h => e (by rw [← lplain_get xs k kx, ← lplain_get ys k ky, h])⟩
        generalize xs.getD k ld = x at p1 vx nx HXY
        generalize ys.getD k ld = y at q1 vy ny HXY
        obtain ⟨xa, xn, xc, xv⟩ := x
        obtain ⟨ya, yn, yc, yv⟩ := y
        simp only at p1 q1 vx vy nx ny
        have VX : Hid (IsRow .i64 w xa xn xc xv) := vx
        have VY : Hid (IsRow .i64 w ya yn yc yv) := vy
        have HF : Hid ((xv = yv → lplain (xs.take (k + 1)) = lplain (ys.take (k + 1))) ∧ (xv ≠ yv → lplain xs ≠ lplain ys)) := HXY.out
        clear hc1 hc2 vx vy HXY kx ky
        cases hE : decide (xv = yv)
        · have HE : Hid (decide (xv = yv) = false) := hE
          have F : Hid (decide (lplain xs = lplain ys) = false) := decide_eq_false (HF.out.2 (of_decide_eq_false hE))
          clear hE HF
          go_wp2_with fail
          go_region_held3 (fun w' => Below wr.heap.size wr w' ∧ w'.cell? ⟨b1, o1 + k, none⟩ = some (.slice xa xn xc) ∧ w'.cell? ⟨b2, o2 + k, none⟩ = some (.slice ya yn yc))
            (first | exact ⟨(Below.refl _ _).drew, p1, q1⟩ | exact (fun kb => ⟨kb, Frame.held_cell kb p1, Frame.held_cell kb q1⟩) (Frame.held_next ‹Below wr.heap.size wr _ ∧ _› hb))
            (first | (go_at_call 11; refine (Ints.sameInts _ _ _ _ _ _ xv yv _ ?_ ?_ nx ny).mono ?_; exact IsRow.below VX.out (Frame.next Hn.out (And.left ‹Below wr.heap.size wr _ ∧ _›) Hn.out.size); exact IsRow.below VY.out (Frame.next Hn.out (And.left ‹Below wr.heap.size wr _ ∧ _›) Hn.out.size); rintro e w1 ⟨rfl, hb⟩; rw [HE.out]))
          have Hn1 : Hid (Below w.heap.size w w1) := Frame.next Hn.out (And.left ‹Below wr.heap.size wr _ ∧ _›) Hn.out.size
          clear p1 q1 hb
          go_wp2
          go_ret
          exact ⟨Ints.ret_bool F.out.symm, Hn1.out⟩
        · have HE : Hid (decide (xv = yv) = true) := hE
          have F : Hid (lplain (xs.take (k + 1)) = lplain (ys.take (k + 1))) := HF.out.1 (of_decide_eq_true hE)
          clear hE HF
          go_wp2_with fail
          go_region_held3 (fun w' => Below wr.heap.size wr w' ∧ w'.cell? ⟨b1, o1 + k, none⟩ = some (.slice xa xn xc) ∧ w'.cell? ⟨b2, o2 + k, none⟩ = some (.slice ya yn yc))
            (first | exact ⟨(Below.refl _ _).drew, p1, q1⟩ | exact (fun kb => ⟨kb, Frame.held_cell kb p1, Frame.held_cell kb q1⟩) (Frame.held_next ‹Below wr.heap.size wr _ ∧ _› hb))
            (first | (go_at_call 11; refine (Ints.sameInts _ _ _ _ _ _ xv yv _ ?_ ?_ nx ny).mono ?_; exact IsRow.below VX.out (Frame.next Hn.out (And.left ‹Below wr.heap.size wr _ ∧ _›) Hn.out.size); exact IsRow.below VY.out (Frame.next Hn.out (And.left ‹Below wr.heap.size wr _ ∧ _›) Hn.out.size); rintro e w1 ⟨rfl, hb⟩; rw [HE.out]))
          have Hn1 : Hid (Below w.heap.size w w1) := Frame.next Hn.out (And.left ‹Below wr.heap.size wr _ ∧ _›) Hn.out.size
          clear p1 q1 hb
          go_wp2
          go_roundw
          case rel => exact ⟨k + 1, by omega, by go_num, F.out, Hn1.out⟩
          case measure => simp [intOf]; omega
      · have F : Hid (decide (lplain xs = lplain ys) = true) := decide_eq_true (by
          have h := Heq.out
          rwa [List.take_of_length_le (by rw [LA.out]; omega), List.take_of_length_le (by rw [LB.out]; omega)] at h)
        go_wp2
        go_ret
        exact ⟨Ints.ret_bool F.out.symm, Hn.out⟩
  · have e : decide (lplain xs = lplain ys) = false := decide_eq_false (fun h => hl (by rw [← la, ← lb]; have := congrArg List.length h; simpa [lplain] using this))
    rw [e]
    have hne : ((n : Int) != (m : Int)) = true := by rw [bne_iff_ne]; omega
    clear e ha hb la lb hl
    go_enter Try.func9, Try.ntmps9
    go_wp2
    go_ret
    exact ⟨rfl, Below.refl _ _⟩


theorem sameRows (u v : Value) (xs ys : Ll) (w : World) (h1 : LIs w u xs) (h2 : LIs w v ys) : Calls Try.prog 9 #[u, v] w fun e w' => e = .returned (.bool (decide (xs = ys))) ∧ Below w.heap.size w w' := by
  obtain ⟨a, n, cap, rs, rfl, hr, rfl, ht⟩ := h1
  obtain ⟨b, m, cb, qs, rfl, hq, rfl, ht2⟩ := h2
  exact sameRowsG a b n m cap cb rs qs w hr hq (by rw [← hr.len]; exact (small_ls ht).1) (by rw [← hq.len]; exact (small_ls ht2).1) (small_ls ht).2 (small_ls ht2).2
theorem sameInts (u v : Value) (xs ys : List Int) (w : World) (h1 : IIs w u xs) (h2 : IIs w v ys) : Calls Try.prog 11 #[u, v] w fun e w' => e = .returned (.bool (decide (xs = ys))) ∧ Below w.heap.size w w' := by
  obtain ⟨a, n, cap, rfl, hr, hn⟩ := h1
  obtain ⟨b, m, cb, rfl, hq, hm⟩ := h2
  exact Ints.sameInts a b n m cap cb xs ys w hr hq hn hm


end Go.Proofs.Ytekheacbmbbpmaa.Dlh
