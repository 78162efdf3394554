/-
  Contracts of SwapAt, of the program and of the model.
-/
import Derived.Test.YteihgbiifcgipaaPco
import Derived.Test.YteihgbiifcgipaaPob
namespace Go.Proofs.Yteihgbiifcgipaa.Psw
open Go.RowKit
open Go.Proofs.Yteihgbiifcgipaa.Frame Go.Proofs.Yteihgbiifcgipaa.Mem Go.Proofs.Yteihgbiifcgipaa.Kep Go.Proofs.Yteihgbiifcgipaa.Val Go.Proofs.Yteihgbiifcgipaa.FAct Go.Proofs.Yteihgbiifcgipaa.Pga Go.Proofs.Yteihgbiifcgipaa.Ppu Go.Proofs.Yteihgbiifcgipaa.Mii
open Go.Proofs.Yteihgbiifcgipaa.Ints (ret_bool)
open Go.Proofs.Yteihgbiifcgipaa.Pob (xOwn_nil)
open Go.Proofs.Yteihgbiifcgipaa.Pco (actsClash l7Clash)

def swapN (xs : List D) (k : Nat) : List D := (xs.set k (xs.getD (k + 1) d0)).set (k + 1) (xs.getD k d0)
def mayB (x y : D) : Bool := x.1 != y.1 && !(clashB x y)
def swapB (xs : List D) (k : Int) : Bool := goodP xs && (inB k 0 ((xs.length : Int) - 2) && mayB (xs.getD k.toNat d0) (xs.getD (k.toNat + 1) d0))
def swapV (xs : List D) (k : Int) : List D := if swapB xs k then swapN xs k.toNat else []
theorem sizeA : (Try.prog.info? 59).map (·.size) = some 3 := by kernel_rfl

theorem swapN_length (xs : List D) (k : Nat) : (swapN xs k).length = xs.length := by simp [swapN]
theorem swapN_ok {xs : List D} {k : Nat} (h : ∀ x ∈ xs, ok x) (hk : k + 1 < xs.length) : ∀ x ∈ swapN xs k, ok x := by
  intro x hx
  unfold swapN at hx
  rcases List.mem_or_eq_of_mem_set hx with hx | rfl
  · rcases List.mem_or_eq_of_mem_set hx with hx | rfl
    · exact h x hx
    · exact h _ (FAct.getD_mem hk)
  · exact h _ (FAct.getD_mem (by omega))
theorem set_cells (xs : List D) (k : Nat) (y : D) (h : k < xs.length) : (((cells xs).set (k * 3) (.int .i64 y.1)).set (k * 3 + 1) (.int .i64 y.2.1)).set (k * 3 + 2) (.bool y.2.2) = cells (xs.set k y) := by
  have e : xs = xs.take k ++ xs.getD k d0 :: xs.drop (k + 1) := by rw [← FAct.drop_cons h, List.take_append_drop]
  have e2 : xs.set k y = xs.take k ++ y :: xs.drop (k + 1) := by
    have := List.set_eq_take_append_cons_drop (l := xs) (i := k) (a := y)
    rw [if_pos h] at this
    exact this
  rw [e2]
  have := FAct.set_one (xs.take k) (xs.drop (k + 1)) (xs.getD k d0) y k (by rw [List.length_take]; omega)
  rw [← e] at this
  exact this
/-- An act is put at its place into a list that the call owns. -/
theorem put_act {w : World} {base g n c : Nat} {xs : List D} (h : w.ownsRow base 59 3 (.slice (some ⟨g, 0, none⟩) n c) n (cells xs)) {k : Nat} (hk : k < n) (who item : Int) (wri : Bool) :
    (((w.setCell ⟨g, k * 3, none⟩ (.int .i64 who)).setCell ⟨g, k * 3 + 1, none⟩ (.int .i64 item)).setCell ⟨g, k * 3 + 2, none⟩ (.bool wri)).ownsRow base 59 3 (.slice (some ⟨g, 0, none⟩) n c) n (cells (xs.set k (who, item, wri))) := by
  have hl : xs.length = n := by have := h.1; rw [cells_length] at this; omega
  have := (((h.stored (k * 3) (.int .i64 who)).1.stored (k * 3 + 1) (.int .i64 item)).1.stored (k * 3 + 2) (.bool wri)).1
  rw [set_cells xs k (who, item, wri) (by omega)] at this
  exact this
theorem act_old {w : World} {base g n c : Nat} {xs : List D} (h : w.ownsRow base 59 3 (.slice (some ⟨g, 0, none⟩) n c) n (cells xs)) {k : Nat} (hk : k < n) :
    (∃ o, w.cell? ⟨g, k * 3, none⟩ = some o) ∧ (∃ o, w.cell? ⟨g, k * 3 + 1, none⟩ = some o) ∧ (∃ o, w.cell? ⟨g, k * 3 + 2, none⟩ = some o) := by
  have hl := h.1
  refine ⟨?_, ?_, ?_⟩ <;> (rw [h.cellAt _ (by omega)]; exact ⟨_, List.getElem?_eq_getElem (by omega)⟩)
theorem act_own {w : World} {base g n c : Nat} {xs : List D} (h : w.ownsRow base 59 3 (.slice (some ⟨g, 0, none⟩) n c) n (cells xs)) : base ≤ g := (Mem.own_block h ⟨g, 0, none⟩ rfl).1
theorem act_lt {w : World} {base g n c : Nat} {xs : List D} (h : w.ownsRow base 59 3 (.slice (some ⟨g, 0, none⟩) n c) n (cells xs)) : g < w.heap.size := (Mem.own_block h ⟨g, 0, none⟩ rfl).2
theorem below_put {B : Nat} {w0 w : World} (h : Below B w0 w) {g : Nat} (hg : B ≤ g) (a b c : Nat) (x y z : Value) : Below B w0 (((w.setCell ⟨g, a, none⟩ x).setCell ⟨g, b, none⟩ y).setCell ⟨g, c, none⟩ z) := ((h.setCell hg _).setCell hg _).setCell hg _
theorem inB_yes {k : Nat} {n : Nat} (h : k + 1 < n) : inB (k : Int) 0 ((n : Int) - 2) = true := decide_eq_true (by omega)
theorem inB_no {k : Int} {n : Nat} (h : ¬ (0 ≤ k ∧ k + 1 < (n : Int))) : inB k 0 ((n : Int) - 2) = false := decide_eq_false (by omega)
theorem swap_notgood {xs : List D} {k : Int} (h : goodP xs = false) : swapB xs k = false := by unfold swapB; rw [h]; rfl
theorem swap_out {xs : List D} {k : Int} (h : inB k 0 ((xs.length : Int) - 2) = false) : swapB xs k = false := by unfold swapB; rw [h, Bool.false_and, Bool.and_false]
theorem swap_in {xs : List D} {k : Nat} (hg : goodP xs = true) (h : k + 1 < xs.length) : swapB xs (k : Int) = mayB (xs.getD k d0) (xs.getD (k + 1) d0) := by
  unfold swapB
  rw [hg, inB_yes h, Bool.true_and, Bool.true_and, Int.toNat_natCast]

set_option maxRecDepth 8000 in
set_option maxHeartbeats 6400000 in
theorem impl_SwapAt (v : Value) (xs : List D) (k : Int) (w : World) (h : XIs w v xs) (hkw : (Lit.int .i64 k).wf = true) :
    Calls Try.prog 26 #[v, .int .i64 k] w fun e w' => ∃ r, e = .returned (.tuple #[r, .bool (swapB xs k)]) ∧ XOwn w' w.heap.size w'.heap.size r (swapV xs k) ∧ Below w.heap.size w w' := by
  obtain ⟨a, n, cap, rfl, hr, hn⟩ := h
  obtain ⟨i0, hi, hz0, hz1, hz2⟩ := info_parts FAct.info
  have HL : Hid (xs.length = n) := hr.len
  have HI : Hid (IsX w a n cap xs) := hr
  clear hr
  cases hg : goodP xs
  · have EB : swapB xs k = false := swap_notgood hg
    have E : Hid (swapV xs k = []) := if_neg (by rw [EB]; exact Bool.false_ne_true)
    have HG : Hid (goodP xs = false) := hg
    rw [EB]
    clear hg EB
    go_enter Try.func26, Try.ntmps26
    go_wp2_with fail
    refine (impl_GoodPlay a n cap xs _ HI.out).mono ?_
    rintro e w1 ⟨rfl, hb1⟩
    have B1 : Hid (Below w.heap.size w w1) := hb1
    clear hb1
    rw [HG.out]
    go_wp2_with fail
    go_ret2
    exact ⟨_, rfl, by rw [E.out]; exact xOwn_nil _ _ _, B1.out⟩
  have HG : Hid (goodP xs = true) := hg
  have hn16 : n ≤ 16 := by rw [← HL.out]; exact good_len hg
  by_cases hin : 0 ≤ k ∧ k + 1 < (n : Int)
  case neg =>
    have HIN : Hid (inB k 0 ((n : Int) - 2) = false) := inB_no hin
    have EB : swapB xs k = false := swap_out (by rw [HL.out]; exact HIN.out)
    have E : Hid (swapV xs k = []) := if_neg (by rw [EB]; exact Bool.false_ne_true)
    have hk1 : -9223372036854775808 ≤ k ∧ k ≤ 9223372036854775807 := wf_int hkw
    rw [EB]
    clear hg EB
    by_cases hk0 : k < 0
    · go_enter Try.func26, Try.ntmps26
      go_wp2_with fail
      refine (impl_GoodPlay a n cap xs _ HI.out).mono ?_
      rintro e w1 ⟨rfl, hb1⟩
      have B1 : Hid (Below w.heap.size w w1) := hb1
      clear hb1
      rw [HG.out]
      go_wp2_with fail
      go_ret2
      exact ⟨_, rfl, by rw [E.out]; exact xOwn_nil _ _ _, B1.out⟩
    · have hge : (n : Int) - 1 ≤ k := by omega
      have hk0' : ¬ k < 0 := hk0
      go_enter Try.func26, Try.ntmps26
      go_wp2_with fail
      refine (impl_GoodPlay a n cap xs _ HI.out).mono ?_
      rintro e w1 ⟨rfl, hb1⟩
      have B1 : Hid (Below w.heap.size w w1) := hb1
      clear hb1
      rw [HG.out]
      go_wp2_with fail
      go_ret2
      exact ⟨_, rfl, by rw [E.out]; exact xOwn_nil _ _ _, B1.out⟩
  obtain ⟨kk, rfl⟩ : ∃ kk : Nat, k = (kk : Int) := ⟨k.toNat, by omega⟩
  have hlt : kk + 1 < n := by omega
  have hltk : kk < n := by omega
  have HIN : Hid (inB (kk : Int) 0 ((n : Int) - 2) = true) := inB_yes hlt
  have EB : swapB xs (kk : Int) = mayB (xs.getD kk d0) (xs.getD (kk + 1) d0) := swap_in hg (by rw [HL.out]; exact hlt)
  have HV : Hid (swapB xs (kk : Int) = true → swapV xs (kk : Int) = swapN xs kk) := fun h => by unfold swapV; rw [if_pos h, Int.toNat_natCast]
  have HV0 : Hid (swapB xs (kk : Int) = false → swapV xs (kk : Int) = []) := fun h => if_neg (by rw [h]; exact Bool.false_ne_true)
  have HSW : Hid (swapN xs kk = (xs.set kk (xs.getD (kk + 1) d0)).set (kk + 1) (xs.getD kk d0)) := rfl
  have HOK : Hid (∀ x ∈ swapN xs kk, ok x) := swapN_ok HI.out.wf (by rw [HL.out]; exact hlt)
  have hkI : (kk : Int) + 1 < (n : Int) := by omega
  have hkI2 : (kk : Int) < (n : Int) := by omega
  have hkI0 : (0 : Int) ≤ (kk : Int) := by omega
  obtain ⟨b, off, xw, xi, xb, rfl, p0, p1, p2, hx⟩ := act_at HI.out (Below.refl _ _) hltk
  obtain ⟨_, _, yw, yi, yb, hbb, q0, q1, q2, hy⟩ := act_at HI.out (Below.refl _ _) hlt
  cases hbb
  rw [hx, hy] at EB HSW
  obtain ⟨k1, hk1⟩ : ∃ k1, k1 = kk + 1 := ⟨_, rfl⟩
  rw [← hk1] at q0 q1 q2 HSW
  have hk1I : IntKind.i64.wrap ((kk : Int) + 1) = (k1 : Int) := by simp [IntKind.wrap, IntKind.bits, IntKind.signed]; omega
  have hk1n : (k1 : Int) < (n : Int) := by omega
  have hk10 : (0 : Int) ≤ (k1 : Int) := by omega
  have HK1 : Hid (k1 = kk + 1) := hk1
  have hwr2 : IntKind.i64.wrap ((n : Int) - 2) = (n : Int) - 2 := by simp [IntKind.wrap, IntKind.bits, IntKind.signed]; omega
  have C0 : Hid (w.cell? ⟨b, off + kk * 3, none⟩ = some (.int .i64 xw) ∧ w.cell? ⟨b, off + kk * 3 + 1, none⟩ = some (.int .i64 xi) ∧ w.cell? ⟨b, off + kk * 3 + 2, none⟩ = some (.bool xb) ∧ w.cell? ⟨b, off + k1 * 3, none⟩ = some (.int .i64 yw) ∧ w.cell? ⟨b, off + k1 * 3 + 1, none⟩ = some (.int .i64 yi) ∧ w.cell? ⟨b, off + k1 * 3 + 2, none⟩ = some (.bool yb)) := ⟨p0, p1, p2, q0, q1, q2⟩
  have hcells : ∀ {W : World}, Below w.heap.size w W → W.cell? ⟨b, off + kk * 3, none⟩ = some (.int .i64 xw) ∧ W.cell? ⟨b, off + kk * 3 + 1, none⟩ = some (.int .i64 xi) ∧ W.cell? ⟨b, off + kk * 3 + 2, none⟩ = some (.bool xb) ∧ W.cell? ⟨b, off + k1 * 3, none⟩ = some (.int .i64 yw) ∧ W.cell? ⟨b, off + k1 * 3 + 1, none⟩ = some (.int .i64 yi) ∧ W.cell? ⟨b, off + k1 * 3 + 2, none⟩ = some (.bool yb) := fun hb => ⟨Frame.held_cell hb C0.out.1, Frame.held_cell hb C0.out.2.1, Frame.held_cell hb C0.out.2.2.1, Frame.held_cell hb C0.out.2.2.2.1, Frame.held_cell hb C0.out.2.2.2.2.1, Frame.held_cell hb C0.out.2.2.2.2.2⟩
  have HC : Hid (∀ {W : World}, Below w.heap.size w W → W.cell? ⟨b, off + kk * 3, none⟩ = some (.int .i64 xw) ∧ W.cell? ⟨b, off + kk * 3 + 1, none⟩ = some (.int .i64 xi) ∧ W.cell? ⟨b, off + kk * 3 + 2, none⟩ = some (.bool xb) ∧ W.cell? ⟨b, off + k1 * 3, none⟩ = some (.int .i64 yw) ∧ W.cell? ⟨b, off + k1 * 3 + 1, none⟩ = some (.int .i64 yi) ∧ W.cell? ⟨b, off + k1 * 3 + 2, none⟩ = some (.bool yb)) := hcells
  clear hcells p0 p1 p2 q0 q1 q2 hx hy hk1 hg C0 hin
  cases hw : (xw == yw)
  case true =>
    have EB2 : swapB xs (kk : Int) = false := by rw [EB]; unfold mayB; rw [show ((xw, xi, xb).1 != (yw, yi, yb).1) = false by show (xw != yw) = false; rw [bne, hw]; rfl]; rfl
    have E : Hid (swapV xs (kk : Int) = []) := HV0.out EB2
    rw [EB2]
    clear EB EB2
    go_enter Try.func26, Try.ntmps26
    go_wp2_with fail
    refine (impl_GoodPlay (some ⟨b, off, none⟩) n cap xs _ HI.out).mono ?_
    rintro e w1 ⟨rfl, hb1⟩
    have B1 : Hid (Below w.heap.size w w1) := hb1
    clear hb1
    rw [HG.out]
    obtain ⟨p0, p1, p2, q0, q1, q2⟩ := HC.out B1.out
    go_wp2_with fail
    go_quiet (fail)
    go_wp2_with fail
    go_ret2
    exact ⟨_, rfl, by rw [E.out]; exact xOwn_nil _ _ _, below_drewN B1.out _⟩
  have hne : (xw != yw) = true := by rw [bne, hw]; rfl
  have EB1 : swapB xs (kk : Int) = !(clashB (xw, xi, xb) (yw, yi, yb)) := by rw [EB]; unfold mayB; rw [show ((xw, xi, xb).1 != (yw, yi, yb).1) = true from hne]; rfl
  cases hc : clashB (xw, xi, xb) (yw, yi, yb)
  case true =>
    have EB2 : swapB xs (kk : Int) = false := by rw [EB1, hc]; rfl
    have E : Hid (swapV xs (kk : Int) = []) := HV0.out EB2
    have HCL : Hid (clashB (xw, xi, xb) (yw, yi, yb) = true) := hc
    rw [EB2]
    clear EB EB1 EB2 hc
    go_enter Try.func26, Try.ntmps26
    go_wp2_with fail
    refine (impl_GoodPlay (some ⟨b, off, none⟩) n cap xs _ HI.out).mono ?_
    rintro e w1 ⟨rfl, hb1⟩
    have B1 : Hid (Below w.heap.size w w1) := hb1
    clear hb1
    rw [HG.out]
    obtain ⟨p0, p1, p2, q0, q1, q2⟩ := HC.out B1.out
    have CD : Hid (w1.drew.cell? ⟨b, off + kk * 3, none⟩ = some (.int .i64 xw) ∧ w1.drew.cell? ⟨b, off + kk * 3 + 1, none⟩ = some (.int .i64 xi) ∧ w1.drew.cell? ⟨b, off + kk * 3 + 2, none⟩ = some (.bool xb) ∧ w1.drew.cell? ⟨b, off + k1 * 3, none⟩ = some (.int .i64 yw) ∧ w1.drew.cell? ⟨b, off + k1 * 3 + 1, none⟩ = some (.int .i64 yi) ∧ w1.drew.cell? ⟨b, off + k1 * 3 + 2, none⟩ = some (.bool yb)) := HC.out B1.out.drew
    go_wp2_with fail
    go_region_held3 (fun w' => w'.cell? ⟨b, off + kk * 3, none⟩ = some (.int .i64 xw) ∧ w'.cell? ⟨b, off + kk * 3 + 1, none⟩ = some (.int .i64 xi) ∧ w'.cell? ⟨b, off + kk * 3 + 2, none⟩ = some (.bool xb) ∧ w'.cell? ⟨b, off + k1 * 3, none⟩ = some (.int .i64 yw) ∧ w'.cell? ⟨b, off + k1 * 3 + 1, none⟩ = some (.int .i64 yi) ∧ w'.cell? ⟨b, off + k1 * 3 + 2, none⟩ = some (.bool yb)) (first | exact CD.out | with_reducible exact C2.out) (first | (go_at_call 52; refine (actsClash xw xi xb yw yi yb _).mono ?_; rintro e w2 ⟨rfl, hb2⟩; have B2 : Hid (Below w.heap.size w w2) := Frame.next B1.out.drew hb2 B1.out.drew.size; have C2 : Hid (w2.cell? ⟨b, off + kk * 3, none⟩ = some (.int .i64 xw) ∧ w2.cell? ⟨b, off + kk * 3 + 1, none⟩ = some (.int .i64 xi) ∧ w2.cell? ⟨b, off + kk * 3 + 2, none⟩ = some (.bool xb) ∧ w2.cell? ⟨b, off + k1 * 3, none⟩ = some (.int .i64 yw) ∧ w2.cell? ⟨b, off + k1 * 3 + 1, none⟩ = some (.int .i64 yi) ∧ w2.cell? ⟨b, off + k1 * 3 + 2, none⟩ = some (.bool yb)) := HC.out B2.out; clear hb2; rw [HCL.out]))
    go_wp2_with fail
    go_ret2
    exact ⟨_, rfl, by rw [E.out]; exact xOwn_nil _ _ _, B2.out⟩
  have EB2 : swapB xs (kk : Int) = true := by rw [EB1, hc]; rfl
  have E : Hid (swapV xs (kk : Int) = swapN xs kk) := HV.out EB2
  have HCL : Hid (clashB (xw, xi, xb) (yw, yi, yb) = false) := hc
  rw [EB2]
  clear EB EB1 EB2 hc
  go_enter Try.func26, Try.ntmps26
  go_wp2_with fail
  refine (impl_GoodPlay (some ⟨b, off, none⟩) n cap xs _ HI.out).mono ?_
  rintro e w1 ⟨rfl, hb1⟩
  have B1 : Hid (Below w.heap.size w w1) := hb1
  clear hb1
  rw [HG.out]
  obtain ⟨p0, p1, p2, q0, q1, q2⟩ := HC.out B1.out
  have CD : Hid (w1.drew.cell? ⟨b, off + kk * 3, none⟩ = some (.int .i64 xw) ∧ w1.drew.cell? ⟨b, off + kk * 3 + 1, none⟩ = some (.int .i64 xi) ∧ w1.drew.cell? ⟨b, off + kk * 3 + 2, none⟩ = some (.bool xb) ∧ w1.drew.cell? ⟨b, off + k1 * 3, none⟩ = some (.int .i64 yw) ∧ w1.drew.cell? ⟨b, off + k1 * 3 + 1, none⟩ = some (.int .i64 yi) ∧ w1.drew.cell? ⟨b, off + k1 * 3 + 2, none⟩ = some (.bool yb)) := HC.out B1.out.drew
  go_wp2_with fail
  go_region_held3 (fun w' => w'.cell? ⟨b, off + kk * 3, none⟩ = some (.int .i64 xw) ∧ w'.cell? ⟨b, off + kk * 3 + 1, none⟩ = some (.int .i64 xi) ∧ w'.cell? ⟨b, off + kk * 3 + 2, none⟩ = some (.bool xb) ∧ w'.cell? ⟨b, off + k1 * 3, none⟩ = some (.int .i64 yw) ∧ w'.cell? ⟨b, off + k1 * 3 + 1, none⟩ = some (.int .i64 yi) ∧ w'.cell? ⟨b, off + k1 * 3 + 2, none⟩ = some (.bool yb)) (first | exact CD.out | with_reducible exact C2.out) (first | (go_at_call 52; refine (actsClash xw xi xb yw yi yb _).mono ?_; rintro e w2 ⟨rfl, hb2⟩; have B2 : Hid (Below w.heap.size w w2) := Frame.next B1.out.drew hb2 B1.out.drew.size; have C2 : Hid (w2.cell? ⟨b, off + kk * 3, none⟩ = some (.int .i64 xw) ∧ w2.cell? ⟨b, off + kk * 3 + 1, none⟩ = some (.int .i64 xi) ∧ w2.cell? ⟨b, off + kk * 3 + 2, none⟩ = some (.bool xb) ∧ w2.cell? ⟨b, off + k1 * 3, none⟩ = some (.int .i64 yw) ∧ w2.cell? ⟨b, off + k1 * 3 + 1, none⟩ = some (.int .i64 yi) ∧ w2.cell? ⟨b, off + k1 * 3 + 2, none⟩ = some (.bool yb)) := HC.out B2.out; clear hb2; rw [HCL.out]))
  have hs2 := B2.out.size
  have SRC := FAct.news_x (HI.out.below B2.out)
  go_wp2_with (at_make; refine wpList_make_full _ rfl _ _ 23 rfl w.heap.size 59 i0 (.agg #[.int .i64 0, .int .i64 0, .bool false]) 3 Try.underlying23 hi hz0 hz1 _ _ _ _ n rfl rfl rfl rfl ?b2 ?b3 hs2 ?_)
  case b2 => rw [hz2]; omega
  case b3 => unfold maxLen; omega
  intro w3 hown3 hgrow3
  have B3 : Hid (Below w.heap.size w w3) := B2.out.grown hgrow3 hs2 (fun k h => by cases h)
  have O3 : Hid (w3.ownsRow w.heap.size 59 3 (.slice (some ⟨w2.heap.size, 0, none⟩) n n) n (cells (List.replicate n d0))) := by show World.ownsRow _ _ _ _ _ _ _; rw [← FAct.made]; exact hown3
  have HSRC : Hid (0 < n → ∃ ad, (some ⟨b, off, none⟩ : Option Addr) = some ad ∧ ∀ j v, (cells xs)[j]? = some v → w3.cell? (ad.add j) = some v) := FAct.news_x (HI.out.below B3.out)
  have HCL2 : Hid ((cells xs).length = n * 3) := by show _ = _; rw [cells_length, HL.out]
  clear SRC hown3 hgrow3
  go_wp2_with (refine Cop.wpList_copy_all _ rfl (.tmp 48) (.tmp 49) 23 23 rfl 59 3 Try.underlying23 sizeA w.heap.size _ _ n n cap rfl rfl _ (cells xs) O3.out HCL2.out HSRC.out (one_cells xs) ?_)
  intro w4 hown4 hgrow4
  have O4 : Hid (w4.ownsRow w.heap.size 59 3 (.slice (some ⟨w2.heap.size, 0, none⟩) n n) n (cells xs)) := hown4
  have B4 : Hid (Below w.heap.size w w4) := below_app B3.out O3.out hgrow4 B3.out.size (Nat.le_refl _)
  clear hown4 hgrow4
  have hgb : w.heap.size ≤ w2.heap.size := hs2
  have hbw : b < w.heap.size := Frame.cell_lt (HC.out (Below.refl _ _)).1
  have hltk1 : k1 < n := by rw [HK1.out]; exact hlt
  have P1 : Hid ((((w4.setCell ⟨w2.heap.size, kk * 3, none⟩ (.int .i64 yw)).setCell ⟨w2.heap.size, kk * 3 + 1, none⟩ (.int .i64 yi)).setCell ⟨w2.heap.size, kk * 3 + 2, none⟩ (.bool yb)).ownsRow w.heap.size 59 3 (.slice (some ⟨w2.heap.size, 0, none⟩) n n) n (cells (xs.set kk (yw, yi, yb)))) := put_act O4.out hltk yw yi yb
  have P2 : Hid ((((w4.setCell ⟨w2.heap.size, k1 * 3, none⟩ (.int .i64 xw)).setCell ⟨w2.heap.size, k1 * 3 + 1, none⟩ (.int .i64 xi)).setCell ⟨w2.heap.size, k1 * 3 + 2, none⟩ (.bool xb)).ownsRow w.heap.size 59 3 (.slice (some ⟨w2.heap.size, 0, none⟩) n n) n (cells (xs.set k1 (xw, xi, xb)))) := put_act O4.out hltk1 xw xi xb
  have P3 : Hid (((((((w4.setCell ⟨w2.heap.size, kk * 3, none⟩ (.int .i64 yw)).setCell ⟨w2.heap.size, kk * 3 + 1, none⟩ (.int .i64 yi)).setCell ⟨w2.heap.size, kk * 3 + 2, none⟩ (.bool yb)).setCell ⟨w2.heap.size, k1 * 3, none⟩ (.int .i64 xw)).setCell ⟨w2.heap.size, k1 * 3 + 1, none⟩ (.int .i64 xi)).setCell ⟨w2.heap.size, k1 * 3 + 2, none⟩ (.bool xb)).ownsRow w.heap.size 59 3 (.slice (some ⟨w2.heap.size, 0, none⟩) n n) n (cells ((xs.set kk (yw, yi, yb)).set k1 (xw, xi, xb)))) := put_act P1.out hltk1 xw xi xb
  have P4 : Hid (((((((w4.setCell ⟨w2.heap.size, k1 * 3, none⟩ (.int .i64 xw)).setCell ⟨w2.heap.size, k1 * 3 + 1, none⟩ (.int .i64 xi)).setCell ⟨w2.heap.size, k1 * 3 + 2, none⟩ (.bool xb)).setCell ⟨w2.heap.size, kk * 3, none⟩ (.int .i64 yw)).setCell ⟨w2.heap.size, kk * 3 + 1, none⟩ (.int .i64 yi)).setCell ⟨w2.heap.size, kk * 3 + 2, none⟩ (.bool yb)).ownsRow w.heap.size 59 3 (.slice (some ⟨w2.heap.size, 0, none⟩) n n) n (cells ((xs.set k1 (xw, xi, xb)).set kk (yw, yi, yb)))) := put_act P2.out hltk yw yi yb
  have Q1 : Hid (Below w.heap.size w (((w4.setCell ⟨w2.heap.size, kk * 3, none⟩ (.int .i64 yw)).setCell ⟨w2.heap.size, kk * 3 + 1, none⟩ (.int .i64 yi)).setCell ⟨w2.heap.size, kk * 3 + 2, none⟩ (.bool yb))) := below_put B4.out hgb _ _ _ _ _ _
  have Q2 : Hid (Below w.heap.size w (((w4.setCell ⟨w2.heap.size, k1 * 3, none⟩ (.int .i64 xw)).setCell ⟨w2.heap.size, k1 * 3 + 1, none⟩ (.int .i64 xi)).setCell ⟨w2.heap.size, k1 * 3 + 2, none⟩ (.bool xb))) := below_put B4.out hgb _ _ _ _ _ _
  have Q3 : Hid (Below w.heap.size w ((((((w4.setCell ⟨w2.heap.size, kk * 3, none⟩ (.int .i64 yw)).setCell ⟨w2.heap.size, kk * 3 + 1, none⟩ (.int .i64 yi)).setCell ⟨w2.heap.size, kk * 3 + 2, none⟩ (.bool yb)).setCell ⟨w2.heap.size, k1 * 3, none⟩ (.int .i64 xw)).setCell ⟨w2.heap.size, k1 * 3 + 1, none⟩ (.int .i64 xi)).setCell ⟨w2.heap.size, k1 * 3 + 2, none⟩ (.bool xb))) := below_put Q1.out hgb _ _ _ _ _ _
  have Q4 : Hid (Below w.heap.size w ((((((w4.setCell ⟨w2.heap.size, k1 * 3, none⟩ (.int .i64 xw)).setCell ⟨w2.heap.size, k1 * 3 + 1, none⟩ (.int .i64 xi)).setCell ⟨w2.heap.size, k1 * 3 + 2, none⟩ (.bool xb)).setCell ⟨w2.heap.size, kk * 3, none⟩ (.int .i64 yw)).setCell ⟨w2.heap.size, kk * 3 + 1, none⟩ (.int .i64 yi)).setCell ⟨w2.heap.size, kk * 3 + 2, none⟩ (.bool yb))) := below_put Q2.out hgb _ _ _ _ _ _
  obtain ⟨⟨_, a00⟩, ⟨_, a01⟩, ⟨_, a02⟩⟩ := act_old O4.out hltk
  have f00 := O4.out.frozenAt (kk * 3)
  have f01 := O4.out.frozenAt (kk * 3 + 1)
  have f02 := O4.out.frozenAt (kk * 3 + 2)
  obtain ⟨⟨_, a10⟩, ⟨_, a11⟩, ⟨_, a12⟩⟩ := act_old O4.out hltk1
  have f10 := O4.out.frozenAt (k1 * 3)
  have f11 := O4.out.frozenAt (k1 * 3 + 1)
  have f12 := O4.out.frozenAt (k1 * 3 + 2)
  obtain ⟨⟨_, a20⟩, ⟨_, a21⟩, ⟨_, a22⟩⟩ := act_old P1.out hltk1
  have f20 := P1.out.frozenAt (k1 * 3)
  have f21 := P1.out.frozenAt (k1 * 3 + 1)
  have f22 := P1.out.frozenAt (k1 * 3 + 2)
  obtain ⟨⟨_, a30⟩, ⟨_, a31⟩, ⟨_, a32⟩⟩ := act_old P2.out hltk
  have f30 := P2.out.frozenAt (kk * 3)
  have f31 := P2.out.frozenAt (kk * 3 + 1)
  have f32 := P2.out.frozenAt (kk * 3 + 2)
  obtain ⟨p0, p1, p2, q0, q1, q2⟩ := HC.out B4.out
  have C0 : Hid (w4.drew.cell? ⟨b, off + kk * 3, none⟩ = some (.int .i64 xw) ∧ w4.drew.cell? ⟨b, off + kk * 3 + 1, none⟩ = some (.int .i64 xi) ∧ w4.drew.cell? ⟨b, off + kk * 3 + 2, none⟩ = some (.bool xb) ∧ w4.drew.cell? ⟨b, off + k1 * 3, none⟩ = some (.int .i64 yw) ∧ w4.drew.cell? ⟨b, off + k1 * 3 + 1, none⟩ = some (.int .i64 yi) ∧ w4.drew.cell? ⟨b, off + k1 * 3 + 2, none⟩ = some (.bool yb)) := HC.out B4.out.drew
  have C1 : Hid ((((w4.setCell ⟨w2.heap.size, kk * 3, none⟩ (.int .i64 yw)).setCell ⟨w2.heap.size, kk * 3 + 1, none⟩ (.int .i64 yi)).setCell ⟨w2.heap.size, kk * 3 + 2, none⟩ (.bool yb)).drew.cell? ⟨b, off + kk * 3, none⟩ = some (.int .i64 xw) ∧ (((w4.setCell ⟨w2.heap.size, kk * 3, none⟩ (.int .i64 yw)).setCell ⟨w2.heap.size, kk * 3 + 1, none⟩ (.int .i64 yi)).setCell ⟨w2.heap.size, kk * 3 + 2, none⟩ (.bool yb)).drew.cell? ⟨b, off + kk * 3 + 1, none⟩ = some (.int .i64 xi) ∧ (((w4.setCell ⟨w2.heap.size, kk * 3, none⟩ (.int .i64 yw)).setCell ⟨w2.heap.size, kk * 3 + 1, none⟩ (.int .i64 yi)).setCell ⟨w2.heap.size, kk * 3 + 2, none⟩ (.bool yb)).drew.cell? ⟨b, off + kk * 3 + 2, none⟩ = some (.bool xb) ∧ (((w4.setCell ⟨w2.heap.size, kk * 3, none⟩ (.int .i64 yw)).setCell ⟨w2.heap.size, kk * 3 + 1, none⟩ (.int .i64 yi)).setCell ⟨w2.heap.size, kk * 3 + 2, none⟩ (.bool yb)).drew.cell? ⟨b, off + k1 * 3, none⟩ = some (.int .i64 yw) ∧ (((w4.setCell ⟨w2.heap.size, kk * 3, none⟩ (.int .i64 yw)).setCell ⟨w2.heap.size, kk * 3 + 1, none⟩ (.int .i64 yi)).setCell ⟨w2.heap.size, kk * 3 + 2, none⟩ (.bool yb)).drew.cell? ⟨b, off + k1 * 3 + 1, none⟩ = some (.int .i64 yi) ∧ (((w4.setCell ⟨w2.heap.size, kk * 3, none⟩ (.int .i64 yw)).setCell ⟨w2.heap.size, kk * 3 + 1, none⟩ (.int .i64 yi)).setCell ⟨w2.heap.size, kk * 3 + 2, none⟩ (.bool yb)).drew.cell? ⟨b, off + k1 * 3 + 2, none⟩ = some (.bool yb)) := HC.out Q1.out.drew
  have C2 : Hid ((((w4.setCell ⟨w2.heap.size, k1 * 3, none⟩ (.int .i64 xw)).setCell ⟨w2.heap.size, k1 * 3 + 1, none⟩ (.int .i64 xi)).setCell ⟨w2.heap.size, k1 * 3 + 2, none⟩ (.bool xb)).drew.cell? ⟨b, off + kk * 3, none⟩ = some (.int .i64 xw) ∧ (((w4.setCell ⟨w2.heap.size, k1 * 3, none⟩ (.int .i64 xw)).setCell ⟨w2.heap.size, k1 * 3 + 1, none⟩ (.int .i64 xi)).setCell ⟨w2.heap.size, k1 * 3 + 2, none⟩ (.bool xb)).drew.cell? ⟨b, off + kk * 3 + 1, none⟩ = some (.int .i64 xi) ∧ (((w4.setCell ⟨w2.heap.size, k1 * 3, none⟩ (.int .i64 xw)).setCell ⟨w2.heap.size, k1 * 3 + 1, none⟩ (.int .i64 xi)).setCell ⟨w2.heap.size, k1 * 3 + 2, none⟩ (.bool xb)).drew.cell? ⟨b, off + kk * 3 + 2, none⟩ = some (.bool xb) ∧ (((w4.setCell ⟨w2.heap.size, k1 * 3, none⟩ (.int .i64 xw)).setCell ⟨w2.heap.size, k1 * 3 + 1, none⟩ (.int .i64 xi)).setCell ⟨w2.heap.size, k1 * 3 + 2, none⟩ (.bool xb)).drew.cell? ⟨b, off + k1 * 3, none⟩ = some (.int .i64 yw) ∧ (((w4.setCell ⟨w2.heap.size, k1 * 3, none⟩ (.int .i64 xw)).setCell ⟨w2.heap.size, k1 * 3 + 1, none⟩ (.int .i64 xi)).setCell ⟨w2.heap.size, k1 * 3 + 2, none⟩ (.bool xb)).drew.cell? ⟨b, off + k1 * 3 + 1, none⟩ = some (.int .i64 yi) ∧ (((w4.setCell ⟨w2.heap.size, k1 * 3, none⟩ (.int .i64 xw)).setCell ⟨w2.heap.size, k1 * 3 + 1, none⟩ (.int .i64 xi)).setCell ⟨w2.heap.size, k1 * 3 + 2, none⟩ (.bool xb)).drew.cell? ⟨b, off + k1 * 3 + 2, none⟩ = some (.bool yb)) := HC.out Q2.out.drew
  have C3 : Hid (((((((w4.setCell ⟨w2.heap.size, kk * 3, none⟩ (.int .i64 yw)).setCell ⟨w2.heap.size, kk * 3 + 1, none⟩ (.int .i64 yi)).setCell ⟨w2.heap.size, kk * 3 + 2, none⟩ (.bool yb)).setCell ⟨w2.heap.size, k1 * 3, none⟩ (.int .i64 xw)).setCell ⟨w2.heap.size, k1 * 3 + 1, none⟩ (.int .i64 xi)).setCell ⟨w2.heap.size, k1 * 3 + 2, none⟩ (.bool xb)).drew.cell? ⟨b, off + kk * 3, none⟩ = some (.int .i64 xw) ∧ ((((((w4.setCell ⟨w2.heap.size, kk * 3, none⟩ (.int .i64 yw)).setCell ⟨w2.heap.size, kk * 3 + 1, none⟩ (.int .i64 yi)).setCell ⟨w2.heap.size, kk * 3 + 2, none⟩ (.bool yb)).setCell ⟨w2.heap.size, k1 * 3, none⟩ (.int .i64 xw)).setCell ⟨w2.heap.size, k1 * 3 + 1, none⟩ (.int .i64 xi)).setCell ⟨w2.heap.size, k1 * 3 + 2, none⟩ (.bool xb)).drew.cell? ⟨b, off + kk * 3 + 1, none⟩ = some (.int .i64 xi) ∧ ((((((w4.setCell ⟨w2.heap.size, kk * 3, none⟩ (.int .i64 yw)).setCell ⟨w2.heap.size, kk * 3 + 1, none⟩ (.int .i64 yi)).setCell ⟨w2.heap.size, kk * 3 + 2, none⟩ (.bool yb)).setCell ⟨w2.heap.size, k1 * 3, none⟩ (.int .i64 xw)).setCell ⟨w2.heap.size, k1 * 3 + 1, none⟩ (.int .i64 xi)).setCell ⟨w2.heap.size, k1 * 3 + 2, none⟩ (.bool xb)).drew.cell? ⟨b, off + kk * 3 + 2, none⟩ = some (.bool xb) ∧ ((((((w4.setCell ⟨w2.heap.size, kk * 3, none⟩ (.int .i64 yw)).setCell ⟨w2.heap.size, kk * 3 + 1, none⟩ (.int .i64 yi)).setCell ⟨w2.heap.size, kk * 3 + 2, none⟩ (.bool yb)).setCell ⟨w2.heap.size, k1 * 3, none⟩ (.int .i64 xw)).setCell ⟨w2.heap.size, k1 * 3 + 1, none⟩ (.int .i64 xi)).setCell ⟨w2.heap.size, k1 * 3 + 2, none⟩ (.bool xb)).drew.cell? ⟨b, off + k1 * 3, none⟩ = some (.int .i64 yw) ∧ ((((((w4.setCell ⟨w2.heap.size, kk * 3, none⟩ (.int .i64 yw)).setCell ⟨w2.heap.size, kk * 3 + 1, none⟩ (.int .i64 yi)).setCell ⟨w2.heap.size, kk * 3 + 2, none⟩ (.bool yb)).setCell ⟨w2.heap.size, k1 * 3, none⟩ (.int .i64 xw)).setCell ⟨w2.heap.size, k1 * 3 + 1, none⟩ (.int .i64 xi)).setCell ⟨w2.heap.size, k1 * 3 + 2, none⟩ (.bool xb)).drew.cell? ⟨b, off + k1 * 3 + 1, none⟩ = some (.int .i64 yi) ∧ ((((((w4.setCell ⟨w2.heap.size, kk * 3, none⟩ (.int .i64 yw)).setCell ⟨w2.heap.size, kk * 3 + 1, none⟩ (.int .i64 yi)).setCell ⟨w2.heap.size, kk * 3 + 2, none⟩ (.bool yb)).setCell ⟨w2.heap.size, k1 * 3, none⟩ (.int .i64 xw)).setCell ⟨w2.heap.size, k1 * 3 + 1, none⟩ (.int .i64 xi)).setCell ⟨w2.heap.size, k1 * 3 + 2, none⟩ (.bool xb)).drew.cell? ⟨b, off + k1 * 3 + 2, none⟩ = some (.bool yb)) := HC.out Q3.out.drew
  have C4 : Hid (((((((w4.setCell ⟨w2.heap.size, k1 * 3, none⟩ (.int .i64 xw)).setCell ⟨w2.heap.size, k1 * 3 + 1, none⟩ (.int .i64 xi)).setCell ⟨w2.heap.size, k1 * 3 + 2, none⟩ (.bool xb)).setCell ⟨w2.heap.size, kk * 3, none⟩ (.int .i64 yw)).setCell ⟨w2.heap.size, kk * 3 + 1, none⟩ (.int .i64 yi)).setCell ⟨w2.heap.size, kk * 3 + 2, none⟩ (.bool yb)).drew.cell? ⟨b, off + kk * 3, none⟩ = some (.int .i64 xw) ∧ ((((((w4.setCell ⟨w2.heap.size, k1 * 3, none⟩ (.int .i64 xw)).setCell ⟨w2.heap.size, k1 * 3 + 1, none⟩ (.int .i64 xi)).setCell ⟨w2.heap.size, k1 * 3 + 2, none⟩ (.bool xb)).setCell ⟨w2.heap.size, kk * 3, none⟩ (.int .i64 yw)).setCell ⟨w2.heap.size, kk * 3 + 1, none⟩ (.int .i64 yi)).setCell ⟨w2.heap.size, kk * 3 + 2, none⟩ (.bool yb)).drew.cell? ⟨b, off + kk * 3 + 1, none⟩ = some (.int .i64 xi) ∧ ((((((w4.setCell ⟨w2.heap.size, k1 * 3, none⟩ (.int .i64 xw)).setCell ⟨w2.heap.size, k1 * 3 + 1, none⟩ (.int .i64 xi)).setCell ⟨w2.heap.size, k1 * 3 + 2, none⟩ (.bool xb)).setCell ⟨w2.heap.size, kk * 3, none⟩ (.int .i64 yw)).setCell ⟨w2.heap.size, kk * 3 + 1, none⟩ (.int .i64 yi)).setCell ⟨w2.heap.size, kk * 3 + 2, none⟩ (.bool yb)).drew.cell? ⟨b, off + kk * 3 + 2, none⟩ = some (.bool xb) ∧ ((((((w4.setCell ⟨w2.heap.size, k1 * 3, none⟩ (.int .i64 xw)).setCell ⟨w2.heap.size, k1 * 3 + 1, none⟩ (.int .i64 xi)).setCell ⟨w2.heap.size, k1 * 3 + 2, none⟩ (.bool xb)).setCell ⟨w2.heap.size, kk * 3, none⟩ (.int .i64 yw)).setCell ⟨w2.heap.size, kk * 3 + 1, none⟩ (.int .i64 yi)).setCell ⟨w2.heap.size, kk * 3 + 2, none⟩ (.bool yb)).drew.cell? ⟨b, off + k1 * 3, none⟩ = some (.int .i64 yw) ∧ ((((((w4.setCell ⟨w2.heap.size, k1 * 3, none⟩ (.int .i64 xw)).setCell ⟨w2.heap.size, k1 * 3 + 1, none⟩ (.int .i64 xi)).setCell ⟨w2.heap.size, k1 * 3 + 2, none⟩ (.bool xb)).setCell ⟨w2.heap.size, kk * 3, none⟩ (.int .i64 yw)).setCell ⟨w2.heap.size, kk * 3 + 1, none⟩ (.int .i64 yi)).setCell ⟨w2.heap.size, kk * 3 + 2, none⟩ (.bool yb)).drew.cell? ⟨b, off + k1 * 3 + 1, none⟩ = some (.int .i64 yi) ∧ ((((((w4.setCell ⟨w2.heap.size, k1 * 3, none⟩ (.int .i64 xw)).setCell ⟨w2.heap.size, k1 * 3 + 1, none⟩ (.int .i64 xi)).setCell ⟨w2.heap.size, k1 * 3 + 2, none⟩ (.bool xb)).setCell ⟨w2.heap.size, kk * 3, none⟩ (.int .i64 yw)).setCell ⟨w2.heap.size, kk * 3 + 1, none⟩ (.int .i64 yi)).setCell ⟨w2.heap.size, kk * 3 + 2, none⟩ (.bool yb)).drew.cell? ⟨b, off + k1 * 3 + 2, none⟩ = some (.bool yb)) := HC.out Q4.out.drew
  have HSW2 : Hid (swapN xs kk = (xs.set k1 (xw, xi, xb)).set kk (yw, yi, yb)) := by show _ = _; rw [HSW.out, List.set_comm _ _ (by rw [HK1.out]; omega)]
  go_wp2_with fail
  go_region_held3 (fun w' => w'.cell? ⟨b, off + kk * 3, none⟩ = some (.int .i64 xw) ∧ w'.cell? ⟨b, off + kk * 3 + 1, none⟩ = some (.int .i64 xi) ∧ w'.cell? ⟨b, off + kk * 3 + 2, none⟩ = some (.bool xb) ∧ w'.cell? ⟨b, off + k1 * 3, none⟩ = some (.int .i64 yw) ∧ w'.cell? ⟨b, off + k1 * 3 + 1, none⟩ = some (.int .i64 yi) ∧ w'.cell? ⟨b, off + k1 * 3 + 2, none⟩ = some (.bool yb)) (first | with_reducible exact C1.out | with_reducible exact C2.out | with_reducible exact C3.out | with_reducible exact C4.out | exact C0.out) (fail)
  go_wp2_with fail
  go_ret2
  exact ⟨_, rfl, by rw [E.out, HSW.out]; exact xOwn_of P3.out.drew (by rw [← HSW.out]; exact HOK.out) (by omega), Q3.out.drew⟩

set_option maxRecDepth 8000 in
set_option maxHeartbeats 6400000 in
theorem spec_SwapAt (v : Value) (xs : List D) (k : Int) (w : World) (h : XIs w v xs) (hkw : (Lit.int .i64 k).wf = true) :
    Calls Try.prog 27 #[v, .int .i64 k] w fun e w' => ∃ r, e = .returned (.tuple #[r, .bool (swapB xs k)]) ∧ XOwn w' w.heap.size w'.heap.size r (swapV xs k) ∧ Below w.heap.size w w' := by
  obtain ⟨a, n, cap, rfl, hr, hn⟩ := h
  obtain ⟨i0, hi, hz0, hz1, hz2⟩ := info_parts FAct.info
  have HL : Hid (xs.length = n) := hr.len
  have HI : Hid (IsX w a n cap xs) := hr
  clear hr
  cases hg : goodP xs
  · have EB : swapB xs k = false := swap_notgood hg
    have E : Hid (swapV xs k = []) := if_neg (by rw [EB]; exact Bool.false_ne_true)
    have HG : Hid (goodP xs = false) := hg
    rw [EB]
    clear hg EB
    go_enter Try.func27, Try.ntmps27
    go_wp2_with fail
    refine wp_region_held_drew (S := fun w' => True) (by kernel_rfl) ?_ (fun hHeld => ?_)
    · exact trivial
    refine wpAnyH_take (i := 0) (v := (.slice a n cap)) rfl (by kernel_rfl) (by kernel_rfl) (by kernel_rfl) (fun _ _ _ h => h) (Or.inl ⟨by rfl, ?_⟩) (by assumption) ?_
    · intro w hSw; (try dsimp only at hSw); go_simp
    (try show wpAnyH _ _ _ _ _ _ _ (Act.put _ (some 7) _) _); (try simp only [Act.put, List.setIfInBounds_toArray, List.set_cons_zero, List.set_cons_succ])
    refine wpAnyH_ready (rs := [1]) (by kernel_rfl) (by simp) ?_
    refine AllReadyH.cons rfl (fun K hK => ?_) AllReadyH.nil
    go_simp
    (refine (spec_GoodPlay a n cap xs _ (HI.out.below ((Below.refl _ _).drew : Below w.heap.size w w.drew))).mono ?_; rintro e w1 ⟨rfl, hb1⟩; have B1 : Hid (Below w.heap.size w w1) := Frame.next ((Below.refl _ _).drew : Below w.heap.size w w.drew) hb1 ((Below.refl _ _).drew : Below w.heap.size w w.drew).size; clear hb1; rw [HG.out])
    go_wp2_with fail
    refine hK.out _ _ ?_ (fun hHeld => ?_)
    · exact trivial
    clear hK K
    (try show wpAnyH _ _ _ _ _ _ _ (Act.put _ (some 8) _) _); (try simp only [Act.put, List.setIfInBounds_toArray, List.set_cons_zero, List.set_cons_succ])
    refine wpAnyH_take (i := 2) (v := (.bool true)) rfl (by kernel_rfl) (by kernel_rfl) (by kernel_rfl) (fun _ _ _ h => h) (Or.inl ⟨by rfl, ?_⟩) (by assumption) ?_
    · intro w hSw; (try dsimp only at hSw); go_simp
    (try show wpAnyH _ _ _ _ _ _ _ (Act.put _ (some 9) _) _); (try simp only [Act.put, List.setIfInBounds_toArray, List.set_cons_zero, List.set_cons_succ])
    refine wpAnyH_take (i := 3) (v := (.bool true)) rfl (by kernel_rfl) (by kernel_rfl) (by kernel_rfl) (fun _ _ _ h => h) (Or.inl ⟨by rfl, ?_⟩) (by assumption) ?_
    · intro w hSw; (try dsimp only at hSw); go_simp
    (try show wpAnyH _ _ _ _ _ _ _ (Act.put _ (some 10) _) _); (try simp only [Act.put, List.setIfInBounds_toArray, List.set_cons_zero, List.set_cons_succ])
    refine wpAnyH_take (i := 4) (v := undef) rfl (by kernel_rfl) (by kernel_rfl) (by kernel_rfl) (fun _ _ _ h => h) (Or.inr ⟨by rfl, rfl⟩) (by assumption) ?_
    (try show wpAnyH _ _ _ _ _ _ _ (Act.put _ (some 11) _) _); (try simp only [Act.put, List.setIfInBounds_toArray, List.set_cons_zero, List.set_cons_succ])
    refine wpAnyH_take (i := 5) (v := undef) rfl (by kernel_rfl) (by kernel_rfl) (by kernel_rfl) (fun _ _ _ h => h) (Or.inr ⟨by rfl, rfl⟩) (by assumption) ?_
    (try show wpAnyH _ _ _ _ _ _ _ (Act.put _ (some 12) _) _); (try simp only [Act.put, List.setIfInBounds_toArray, List.set_cons_zero, List.set_cons_succ])
    refine wpAnyH_ready (rs := [6]) (by kernel_rfl) (by simp) ?_
    refine AllReadyH.cons rfl (fun K hK => ?_) AllReadyH.nil
    go_simp
    refine hK.out _ _ ?_ (fun hHeld => ?_)
    · assumption
    clear hK K
    (try show wpAnyH _ _ _ _ _ _ _ (Act.put _ (some 13) _) _); (try simp only [Act.put, List.setIfInBounds_toArray, List.set_cons_zero, List.set_cons_succ])
    refine wpAnyH_take (i := 7) (v := undef) rfl (by kernel_rfl) (by kernel_rfl) (by kernel_rfl) (fun _ _ _ h => h) (Or.inr ⟨by rfl, rfl⟩) (by assumption) ?_
    (try show wpAnyH _ _ _ _ _ _ _ (Act.put _ (some 14) _) _); (try simp only [Act.put, List.setIfInBounds_toArray, List.set_cons_zero, List.set_cons_succ])
    refine wpAnyH_ready (rs := [8]) (by kernel_rfl) (by simp) ?_
    refine AllReadyH.cons rfl (fun K hK => ?_) AllReadyH.nil
    go_simp
    refine hK.out _ _ ?_ (fun hHeld => ?_)
    · assumption
    clear hK K
    (try show wpAnyH _ _ _ _ _ _ _ (Act.put _ (some 15) _) _); (try simp only [Act.put, List.setIfInBounds_toArray, List.set_cons_zero, List.set_cons_succ])
    refine wpAnyH_take (i := 9) (v := undef) rfl (by kernel_rfl) (by kernel_rfl) (by kernel_rfl) (fun _ _ _ h => h) (Or.inr ⟨by rfl, rfl⟩) (by assumption) ?_
    (try show wpAnyH _ _ _ _ _ _ _ (Act.put _ (some 16) _) _); (try simp only [Act.put, List.setIfInBounds_toArray, List.set_cons_zero, List.set_cons_succ])
    refine wpAnyH_take (i := 10) (v := (.bool true)) rfl (by kernel_rfl) (by kernel_rfl) (by kernel_rfl) (fun _ _ _ h => h) (Or.inl ⟨by rfl, ?_⟩) (by assumption) ?_
    · intro w hSw; (try dsimp only at hSw); go_simp
    (try show wpAnyH _ _ _ _ _ _ _ (Act.put _ (some 17) _) _); (try simp only [Act.put, List.setIfInBounds_toArray, List.set_cons_zero, List.set_cons_succ])
    refine wpAnyH_take (i := 11) (v := (.bool true)) rfl (by kernel_rfl) (by kernel_rfl) (by kernel_rfl) (fun _ _ _ h => h) (Or.inl ⟨by rfl, ?_⟩) (by assumption) ?_
    · intro w hSw; (try dsimp only at hSw); go_simp
    (try show wpAnyH _ _ _ _ _ _ _ (Act.put _ (some 18) _) _); (try simp only [Act.put, List.setIfInBounds_toArray, List.set_cons_zero, List.set_cons_succ])
    refine wpAnyH_take (i := 12) (v := undef) rfl (by kernel_rfl) (by kernel_rfl) (by kernel_rfl) (fun _ _ _ h => h) (Or.inr ⟨by rfl, rfl⟩) (by assumption) ?_
    (try show wpAnyH _ _ _ _ _ _ _ (Act.put _ (some 19) _) _); (try simp only [Act.put, List.setIfInBounds_toArray, List.set_cons_zero, List.set_cons_succ])
    refine wpAnyH_take (i := 13) (v := undef) rfl (by kernel_rfl) (by kernel_rfl) (by kernel_rfl) (fun _ _ _ h => h) (Or.inr ⟨by rfl, rfl⟩) (by assumption) ?_
    (try show wpAnyH _ _ _ _ _ _ _ (Act.put _ (some 20) _) _); (try simp only [Act.put, List.setIfInBounds_toArray, List.set_cons_zero, List.set_cons_succ])
    refine wpAnyH_take (i := 14) (v := undef) rfl (by kernel_rfl) (by kernel_rfl) (by kernel_rfl) (fun _ _ _ h => h) (Or.inr ⟨by rfl, rfl⟩) (by assumption) ?_
    (try show wpAnyH _ _ _ _ _ _ _ (Act.put _ (some 21) _) _); (try simp only [Act.put, List.setIfInBounds_toArray, List.set_cons_zero, List.set_cons_succ])
    refine wpAnyH_take (i := 15) (v := undef) rfl (by kernel_rfl) (by kernel_rfl) (by kernel_rfl) (fun _ _ _ h => h) (Or.inr ⟨by rfl, rfl⟩) (by assumption) ?_
    (try show wpAnyH _ _ _ _ _ _ _ (Act.put _ (some 22) _) _); (try simp only [Act.put, List.setIfInBounds_toArray, List.set_cons_zero, List.set_cons_succ])
    refine wpAnyH_take (i := 16) (v := undef) rfl (by kernel_rfl) (by kernel_rfl) (by kernel_rfl) (fun _ _ _ h => h) (Or.inr ⟨by rfl, rfl⟩) (by assumption) ?_
    (try show wpAnyH _ _ _ _ _ _ _ (Act.put _ (some 23) _) _); (try simp only [Act.put, List.setIfInBounds_toArray, List.set_cons_zero, List.set_cons_succ])
    refine wpAnyH_take (i := 17) (v := undef) rfl (by kernel_rfl) (by kernel_rfl) (by kernel_rfl) (fun _ _ _ h => h) (Or.inr ⟨by rfl, rfl⟩) (by assumption) ?_
    (try show wpAnyH _ _ _ _ _ _ _ (Act.put _ (some 24) _) _); (try simp only [Act.put, List.setIfInBounds_toArray, List.set_cons_zero, List.set_cons_succ])
    refine wpAnyH_take (i := 18) (v := undef) rfl (by kernel_rfl) (by kernel_rfl) (by kernel_rfl) (fun _ _ _ h => h) (Or.inr ⟨by rfl, rfl⟩) (by assumption) ?_
    (try show wpAnyH _ _ _ _ _ _ _ (Act.put _ (some 25) _) _); (try simp only [Act.put, List.setIfInBounds_toArray, List.set_cons_zero, List.set_cons_succ])
    refine wpAnyH_take (i := 19) (v := undef) rfl (by kernel_rfl) (by kernel_rfl) (by kernel_rfl) (fun _ _ _ h => h) (Or.inr ⟨by rfl, rfl⟩) (by assumption) ?_
    (try show wpAnyH _ _ _ _ _ _ _ (Act.put _ (some 26) _) _); (try simp only [Act.put, List.setIfInBounds_toArray, List.set_cons_zero, List.set_cons_succ])
    refine wpAnyH_take (i := 20) (v := undef) rfl (by kernel_rfl) (by kernel_rfl) (by kernel_rfl) (fun _ _ _ h => h) (Or.inr ⟨by rfl, rfl⟩) (by assumption) ?_
    (try show wpAnyH _ _ _ _ _ _ _ (Act.put _ (some 27) _) _); (try simp only [Act.put, List.setIfInBounds_toArray, List.set_cons_zero, List.set_cons_succ])
    refine wpAnyH_take (i := 21) (v := undef) rfl (by kernel_rfl) (by kernel_rfl) (by kernel_rfl) (fun _ _ _ h => h) (Or.inr ⟨by rfl, rfl⟩) (by assumption) ?_
    (try show wpAnyH _ _ _ _ _ _ _ (Act.put _ (some 28) _) _); (try simp only [Act.put, List.setIfInBounds_toArray, List.set_cons_zero, List.set_cons_succ])
    refine wpAnyH_take (i := 22) (v := undef) rfl (by kernel_rfl) (by kernel_rfl) (by kernel_rfl) (fun _ _ _ h => h) (Or.inr ⟨by rfl, rfl⟩) (by assumption) ?_
    (try show wpAnyH _ _ _ _ _ _ _ (Act.put _ (some 29) _) _); (try simp only [Act.put, List.setIfInBounds_toArray, List.set_cons_zero, List.set_cons_succ])
    refine wpAnyH_take (i := 23) (v := undef) rfl (by kernel_rfl) (by kernel_rfl) (by kernel_rfl) (fun _ _ _ h => h) (Or.inr ⟨by rfl, rfl⟩) (by assumption) ?_
    (try show wpAnyH _ _ _ _ _ _ _ (Act.put _ (some 30) _) _); (try simp only [Act.put, List.setIfInBounds_toArray, List.set_cons_zero, List.set_cons_succ])
    refine wpAnyH_take (i := 24) (v := (.bool true)) rfl (by kernel_rfl) (by kernel_rfl) (by kernel_rfl) (fun _ _ _ h => h) (Or.inl ⟨by rfl, ?_⟩) (by assumption) ?_
    · intro w hSw; (try dsimp only at hSw); go_simp
    (try show wpAnyH _ _ _ _ _ _ _ (Act.put _ (some 31) _) _); (try simp only [Act.put, List.setIfInBounds_toArray, List.set_cons_zero, List.set_cons_succ])
    refine wpAnyH_take (i := 25) (v := (.bool true)) rfl (by kernel_rfl) (by kernel_rfl) (by kernel_rfl) (fun _ _ _ h => h) (Or.inl ⟨by rfl, ?_⟩) (by assumption) ?_
    · intro w hSw; (try dsimp only at hSw); go_simp
    (try show wpAnyH _ _ _ _ _ _ _ (Act.put _ (some 32) _) _); (try simp only [Act.put, List.setIfInBounds_toArray, List.set_cons_zero, List.set_cons_succ])
    refine wpAnyH_take (i := 26) (v := undef) rfl (by kernel_rfl) (by kernel_rfl) (by kernel_rfl) (fun _ _ _ h => h) (Or.inr ⟨by rfl, rfl⟩) (by assumption) ?_
    (try show wpAnyH _ _ _ _ _ _ _ (Act.put _ (some 33) _) _); (try simp only [Act.put, List.setIfInBounds_toArray, List.set_cons_zero, List.set_cons_succ])
    refine wpAnyH_take (i := 27) (v := undef) rfl (by kernel_rfl) (by kernel_rfl) (by kernel_rfl) (fun _ _ _ h => h) (Or.inr ⟨by rfl, rfl⟩) (by assumption) ?_
    (try show wpAnyH _ _ _ _ _ _ _ (Act.put _ (some 34) _) _); (try simp only [Act.put, List.setIfInBounds_toArray, List.set_cons_zero, List.set_cons_succ])
    refine wpAnyH_take (i := 28) (v := undef) rfl (by kernel_rfl) (by kernel_rfl) (by kernel_rfl) (fun _ _ _ h => h) (Or.inr ⟨by rfl, rfl⟩) (by assumption) ?_
    (try show wpAnyH _ _ _ _ _ _ _ (Act.put _ (some 35) _) _); (try simp only [Act.put, List.setIfInBounds_toArray, List.set_cons_zero, List.set_cons_succ])
    refine wpAnyH_take (i := 29) (v := undef) rfl (by kernel_rfl) (by kernel_rfl) (by kernel_rfl) (fun _ _ _ h => h) (Or.inr ⟨by rfl, rfl⟩) (by assumption) ?_
    (try show wpAnyH _ _ _ _ _ _ _ (Act.put _ (some 36) _) _); (try simp only [Act.put, List.setIfInBounds_toArray, List.set_cons_zero, List.set_cons_succ])
    refine wpAnyH_take (i := 30) (v := undef) rfl (by kernel_rfl) (by kernel_rfl) (by kernel_rfl) (fun _ _ _ h => h) (Or.inr ⟨by rfl, rfl⟩) (by assumption) ?_
    (try show wpAnyH _ _ _ _ _ _ _ (Act.put _ (some 37) _) _); (try simp only [Act.put, List.setIfInBounds_toArray, List.set_cons_zero, List.set_cons_succ])
    refine wpAnyH_take (i := 31) (v := undef) rfl (by kernel_rfl) (by kernel_rfl) (by kernel_rfl) (fun _ _ _ h => h) (Or.inr ⟨by rfl, rfl⟩) (by assumption) ?_
    (try show wpAnyH _ _ _ _ _ _ _ (Act.put _ (some 38) _) _); (try simp only [Act.put, List.setIfInBounds_toArray, List.set_cons_zero, List.set_cons_succ])
    refine wpAnyH_take (i := 32) (v := undef) rfl (by kernel_rfl) (by kernel_rfl) (by kernel_rfl) (fun _ _ _ h => h) (Or.inr ⟨by rfl, rfl⟩) (by assumption) ?_
    (try show wpAnyH _ _ _ _ _ _ _ (Act.put _ (some 39) _) _); (try simp only [Act.put, List.setIfInBounds_toArray, List.set_cons_zero, List.set_cons_succ])
    refine wpAnyH_take (i := 33) (v := undef) rfl (by kernel_rfl) (by kernel_rfl) (by kernel_rfl) (fun _ _ _ h => h) (Or.inr ⟨by rfl, rfl⟩) (by assumption) ?_
    (try show wpAnyH _ _ _ _ _ _ _ (Act.put _ (some 40) _) _); (try simp only [Act.put, List.setIfInBounds_toArray, List.set_cons_zero, List.set_cons_succ])
    refine wpAnyH_take (i := 34) (v := undef) rfl (by kernel_rfl) (by kernel_rfl) (by kernel_rfl) (fun _ _ _ h => h) (Or.inr ⟨by rfl, rfl⟩) (by assumption) ?_
    (try show wpAnyH _ _ _ _ _ _ _ (Act.put _ (some 41) _) _); (try simp only [Act.put, List.setIfInBounds_toArray, List.set_cons_zero, List.set_cons_succ])
    refine wpAnyH_ready (rs := [35]) (by kernel_rfl) (by simp) ?_
    refine AllReadyH.cons rfl (fun K hK => ?_) AllReadyH.nil
    go_simp
    refine hK.out _ _ ?_ (fun hHeld => ?_)
    · assumption
    clear hK K
    (try show wpAnyH _ _ _ _ _ _ _ (Act.put _ (some 42) _) _); (try simp only [Act.put, List.setIfInBounds_toArray, List.set_cons_zero, List.set_cons_succ])
    refine wpAnyH_take (i := 36) (v := (.bool true)) rfl (by kernel_rfl) (by kernel_rfl) (by kernel_rfl) (fun _ _ _ h => h) (Or.inl ⟨by rfl, ?_⟩) (by assumption) ?_
    · intro w hSw; (try dsimp only at hSw); go_simp
    (try show wpAnyH _ _ _ _ _ _ _ (Act.put _ (some 43) _) _); (try simp only [Act.put, List.setIfInBounds_toArray, List.set_cons_zero, List.set_cons_succ])
    refine wpAnyH_done (by kernel_rfl) ?_ _
    go_wp2_with fail
    go_ret2
    exact ⟨_, rfl, by rw [E.out]; exact xOwn_nil _ _ _, B1.out⟩
  have HG : Hid (goodP xs = true) := hg
  have hn16 : n ≤ 16 := by rw [← HL.out]; exact good_len hg
  by_cases hin : 0 ≤ k ∧ k + 1 < (n : Int)
  case neg =>
    have HIN : Hid (inB k 0 ((n : Int) - 2) = false) := inB_no hin
    have EB : swapB xs k = false := swap_out (by rw [HL.out]; exact HIN.out)
    have E : Hid (swapV xs k = []) := if_neg (by rw [EB]; exact Bool.false_ne_true)
    have hk1 : -9223372036854775808 ≤ k ∧ k ≤ 9223372036854775807 := wf_int hkw
    rw [EB]
    clear hg EB
    have hwr : IntKind.i64.wrap ((n : Int) - 2) = (n : Int) - 2 := by simp [IntKind.wrap, IntKind.bits, IntKind.signed]; omega
    go_enter Try.func27, Try.ntmps27
    go_wp2_with fail
    refine wp_region_held_drew (S := fun w' => True) (by kernel_rfl) ?_ (fun hHeld => ?_)
    · exact trivial
    refine wpAnyH_take (i := 0) (v := (.slice a n cap)) rfl (by kernel_rfl) (by kernel_rfl) (by kernel_rfl) (fun _ _ _ h => h) (Or.inl ⟨by rfl, ?_⟩) (by assumption) ?_
    · intro w hSw; (try dsimp only at hSw); go_simp
    (try show wpAnyH _ _ _ _ _ _ _ (Act.put _ (some 7) _) _); (try simp only [Act.put, List.setIfInBounds_toArray, List.set_cons_zero, List.set_cons_succ])
    refine wpAnyH_ready (rs := [1]) (by kernel_rfl) (by simp) ?_
    refine AllReadyH.cons rfl (fun K hK => ?_) AllReadyH.nil
    go_simp
    (refine (spec_GoodPlay a n cap xs _ (HI.out.below ((Below.refl _ _).drew : Below w.heap.size w w.drew))).mono ?_; rintro e w1 ⟨rfl, hb1⟩; have B1 : Hid (Below w.heap.size w w1) := Frame.next ((Below.refl _ _).drew : Below w.heap.size w w.drew) hb1 ((Below.refl _ _).drew : Below w.heap.size w w.drew).size; clear hb1; rw [HG.out])
    go_wp2_with fail
    refine hK.out _ _ ?_ (fun hHeld => ?_)
    · exact trivial
    clear hK K
    (try show wpAnyH _ _ _ _ _ _ _ (Act.put _ (some 8) _) _); (try simp only [Act.put, List.setIfInBounds_toArray, List.set_cons_zero, List.set_cons_succ])
    refine wpAnyH_take (i := 2) (v := (.bool false)) rfl (by kernel_rfl) (by kernel_rfl) (by kernel_rfl) (fun _ _ _ h => h) (Or.inl ⟨by rfl, ?_⟩) (by assumption) ?_
    · intro w hSw; (try dsimp only at hSw); go_simp
    (try show wpAnyH _ _ _ _ _ _ _ (Act.put _ (some 9) _) _); (try simp only [Act.put, List.setIfInBounds_toArray, List.set_cons_zero, List.set_cons_succ])
    refine wpAnyH_take (i := 3) (v := (.bool false)) rfl (by kernel_rfl) (by kernel_rfl) (by kernel_rfl) (fun _ _ _ h => h) (Or.inl ⟨by rfl, ?_⟩) (by assumption) ?_
    · intro w hSw; (try dsimp only at hSw); go_simp
    (try show wpAnyH _ _ _ _ _ _ _ (Act.put _ (some 10) _) _); (try simp only [Act.put, List.setIfInBounds_toArray, List.set_cons_zero, List.set_cons_succ])
    refine wpAnyH_take (i := 4) (v := (.int .i64 k)) rfl (by kernel_rfl) (by kernel_rfl) (by kernel_rfl) (fun _ _ _ h => h) (Or.inl ⟨by rfl, ?_⟩) (by assumption) ?_
    · intro w hSw; (try dsimp only at hSw); go_simp
    (try show wpAnyH _ _ _ _ _ _ _ (Act.put _ (some 11) _) _); (try simp only [Act.put, List.setIfInBounds_toArray, List.set_cons_zero, List.set_cons_succ])
    refine wpAnyH_take (i := 5) (v := (.slice a n cap)) rfl (by kernel_rfl) (by kernel_rfl) (by kernel_rfl) (fun _ _ _ h => h) (Or.inl ⟨by rfl, ?_⟩) (by assumption) ?_
    · intro w hSw; (try dsimp only at hSw); go_simp
    (try show wpAnyH _ _ _ _ _ _ _ (Act.put _ (some 12) _) _); (try simp only [Act.put, List.setIfInBounds_toArray, List.set_cons_zero, List.set_cons_succ])
    refine wpAnyH_ready (rs := [6]) (by kernel_rfl) (by simp) ?_
    refine AllReadyH.cons rfl (fun K hK => ?_) AllReadyH.nil
    go_simp
    refine hK.out _ _ ?_ (fun hHeld => ?_)
    · assumption
    clear hK K
    (try show wpAnyH _ _ _ _ _ _ _ (Act.put _ (some 13) _) _); (try simp only [Act.put, List.setIfInBounds_toArray, List.set_cons_zero, List.set_cons_succ])
    refine wpAnyH_take (i := 7) (v := (.int .i64 ((n : Int) - 2))) rfl (by kernel_rfl) (by kernel_rfl) (by kernel_rfl) (fun _ _ _ h => h) (Or.inl ⟨by rfl, ?_⟩) (by assumption) ?_
    · intro w hSw; (try dsimp only at hSw); go_simp
    (try show wpAnyH _ _ _ _ _ _ _ (Act.put _ (some 14) _) _); (try simp only [Act.put, List.setIfInBounds_toArray, List.set_cons_zero, List.set_cons_succ])
    refine wpAnyH_ready (rs := [8]) (by kernel_rfl) (by simp) ?_
    refine AllReadyH.cons rfl (fun K hK => ?_) AllReadyH.nil
    go_simp
    (refine (spec_In _ _ _ _).mono ?_; rintro e w' ⟨rfl, hw'⟩; have hw'' := hw'.symm; clear hw'; subst hw''; rw [HIN.out])
    go_wp2_with fail
    refine hK.out _ _ ?_ (fun hHeld => ?_)
    · exact trivial
    clear hK K
    (try show wpAnyH _ _ _ _ _ _ _ (Act.put _ (some 15) _) _); (try simp only [Act.put, List.setIfInBounds_toArray, List.set_cons_zero, List.set_cons_succ])
    refine wpAnyH_take (i := 9) (v := (.bool true)) rfl (by kernel_rfl) (by kernel_rfl) (by kernel_rfl) (fun _ _ _ h => h) (Or.inl ⟨by rfl, ?_⟩) (by assumption) ?_
    · intro w hSw; (try dsimp only at hSw); go_simp
    (try show wpAnyH _ _ _ _ _ _ _ (Act.put _ (some 16) _) _); (try simp only [Act.put, List.setIfInBounds_toArray, List.set_cons_zero, List.set_cons_succ])
    refine wpAnyH_take (i := 10) (v := (.bool true)) rfl (by kernel_rfl) (by kernel_rfl) (by kernel_rfl) (fun _ _ _ h => h) (Or.inl ⟨by rfl, ?_⟩) (by assumption) ?_
    · intro w hSw; (try dsimp only at hSw); go_simp
    (try show wpAnyH _ _ _ _ _ _ _ (Act.put _ (some 17) _) _); (try simp only [Act.put, List.setIfInBounds_toArray, List.set_cons_zero, List.set_cons_succ])
    refine wpAnyH_take (i := 11) (v := (.bool true)) rfl (by kernel_rfl) (by kernel_rfl) (by kernel_rfl) (fun _ _ _ h => h) (Or.inl ⟨by rfl, ?_⟩) (by assumption) ?_
    · intro w hSw; (try dsimp only at hSw); go_simp
    (try show wpAnyH _ _ _ _ _ _ _ (Act.put _ (some 18) _) _); (try simp only [Act.put, List.setIfInBounds_toArray, List.set_cons_zero, List.set_cons_succ])
    refine wpAnyH_take (i := 12) (v := undef) rfl (by kernel_rfl) (by kernel_rfl) (by kernel_rfl) (fun _ _ _ h => h) (Or.inr ⟨by rfl, rfl⟩) (by assumption) ?_
    (try show wpAnyH _ _ _ _ _ _ _ (Act.put _ (some 19) _) _); (try simp only [Act.put, List.setIfInBounds_toArray, List.set_cons_zero, List.set_cons_succ])
    refine wpAnyH_take (i := 13) (v := undef) rfl (by kernel_rfl) (by kernel_rfl) (by kernel_rfl) (fun _ _ _ h => h) (Or.inr ⟨by rfl, rfl⟩) (by assumption) ?_
    (try show wpAnyH _ _ _ _ _ _ _ (Act.put _ (some 20) _) _); (try simp only [Act.put, List.setIfInBounds_toArray, List.set_cons_zero, List.set_cons_succ])
    refine wpAnyH_take (i := 14) (v := undef) rfl (by kernel_rfl) (by kernel_rfl) (by kernel_rfl) (fun _ _ _ h => h) (Or.inr ⟨by rfl, rfl⟩) (by assumption) ?_
    (try show wpAnyH _ _ _ _ _ _ _ (Act.put _ (some 21) _) _); (try simp only [Act.put, List.setIfInBounds_toArray, List.set_cons_zero, List.set_cons_succ])
    refine wpAnyH_take (i := 15) (v := undef) rfl (by kernel_rfl) (by kernel_rfl) (by kernel_rfl) (fun _ _ _ h => h) (Or.inr ⟨by rfl, rfl⟩) (by assumption) ?_
    (try show wpAnyH _ _ _ _ _ _ _ (Act.put _ (some 22) _) _); (try simp only [Act.put, List.setIfInBounds_toArray, List.set_cons_zero, List.set_cons_succ])
    refine wpAnyH_take (i := 16) (v := undef) rfl (by kernel_rfl) (by kernel_rfl) (by kernel_rfl) (fun _ _ _ h => h) (Or.inr ⟨by rfl, rfl⟩) (by assumption) ?_
    (try show wpAnyH _ _ _ _ _ _ _ (Act.put _ (some 23) _) _); (try simp only [Act.put, List.setIfInBounds_toArray, List.set_cons_zero, List.set_cons_succ])
    refine wpAnyH_take (i := 17) (v := undef) rfl (by kernel_rfl) (by kernel_rfl) (by kernel_rfl) (fun _ _ _ h => h) (Or.inr ⟨by rfl, rfl⟩) (by assumption) ?_
    (try show wpAnyH _ _ _ _ _ _ _ (Act.put _ (some 24) _) _); (try simp only [Act.put, List.setIfInBounds_toArray, List.set_cons_zero, List.set_cons_succ])
    refine wpAnyH_take (i := 18) (v := undef) rfl (by kernel_rfl) (by kernel_rfl) (by kernel_rfl) (fun _ _ _ h => h) (Or.inr ⟨by rfl, rfl⟩) (by assumption) ?_
    (try show wpAnyH _ _ _ _ _ _ _ (Act.put _ (some 25) _) _); (try simp only [Act.put, List.setIfInBounds_toArray, List.set_cons_zero, List.set_cons_succ])
    refine wpAnyH_take (i := 19) (v := undef) rfl (by kernel_rfl) (by kernel_rfl) (by kernel_rfl) (fun _ _ _ h => h) (Or.inr ⟨by rfl, rfl⟩) (by assumption) ?_
    (try show wpAnyH _ _ _ _ _ _ _ (Act.put _ (some 26) _) _); (try simp only [Act.put, List.setIfInBounds_toArray, List.set_cons_zero, List.set_cons_succ])
    refine wpAnyH_take (i := 20) (v := undef) rfl (by kernel_rfl) (by kernel_rfl) (by kernel_rfl) (fun _ _ _ h => h) (Or.inr ⟨by rfl, rfl⟩) (by assumption) ?_
    (try show wpAnyH _ _ _ _ _ _ _ (Act.put _ (some 27) _) _); (try simp only [Act.put, List.setIfInBounds_toArray, List.set_cons_zero, List.set_cons_succ])
    refine wpAnyH_take (i := 21) (v := undef) rfl (by kernel_rfl) (by kernel_rfl) (by kernel_rfl) (fun _ _ _ h => h) (Or.inr ⟨by rfl, rfl⟩) (by assumption) ?_
    (try show wpAnyH _ _ _ _ _ _ _ (Act.put _ (some 28) _) _); (try simp only [Act.put, List.setIfInBounds_toArray, List.set_cons_zero, List.set_cons_succ])
    refine wpAnyH_take (i := 22) (v := undef) rfl (by kernel_rfl) (by kernel_rfl) (by kernel_rfl) (fun _ _ _ h => h) (Or.inr ⟨by rfl, rfl⟩) (by assumption) ?_
    (try show wpAnyH _ _ _ _ _ _ _ (Act.put _ (some 29) _) _); (try simp only [Act.put, List.setIfInBounds_toArray, List.set_cons_zero, List.set_cons_succ])
    refine wpAnyH_take (i := 23) (v := undef) rfl (by kernel_rfl) (by kernel_rfl) (by kernel_rfl) (fun _ _ _ h => h) (Or.inr ⟨by rfl, rfl⟩) (by assumption) ?_
    (try show wpAnyH _ _ _ _ _ _ _ (Act.put _ (some 30) _) _); (try simp only [Act.put, List.setIfInBounds_toArray, List.set_cons_zero, List.set_cons_succ])
    refine wpAnyH_take (i := 24) (v := (.bool true)) rfl (by kernel_rfl) (by kernel_rfl) (by kernel_rfl) (fun _ _ _ h => h) (Or.inl ⟨by rfl, ?_⟩) (by assumption) ?_
    · intro w hSw; (try dsimp only at hSw); go_simp
    (try show wpAnyH _ _ _ _ _ _ _ (Act.put _ (some 31) _) _); (try simp only [Act.put, List.setIfInBounds_toArray, List.set_cons_zero, List.set_cons_succ])
    refine wpAnyH_take (i := 25) (v := (.bool true)) rfl (by kernel_rfl) (by kernel_rfl) (by kernel_rfl) (fun _ _ _ h => h) (Or.inl ⟨by rfl, ?_⟩) (by assumption) ?_
    · intro w hSw; (try dsimp only at hSw); go_simp
    (try show wpAnyH _ _ _ _ _ _ _ (Act.put _ (some 32) _) _); (try simp only [Act.put, List.setIfInBounds_toArray, List.set_cons_zero, List.set_cons_succ])
    refine wpAnyH_take (i := 26) (v := undef) rfl (by kernel_rfl) (by kernel_rfl) (by kernel_rfl) (fun _ _ _ h => h) (Or.inr ⟨by rfl, rfl⟩) (by assumption) ?_
    (try show wpAnyH _ _ _ _ _ _ _ (Act.put _ (some 33) _) _); (try simp only [Act.put, List.setIfInBounds_toArray, List.set_cons_zero, List.set_cons_succ])
    refine wpAnyH_take (i := 27) (v := undef) rfl (by kernel_rfl) (by kernel_rfl) (by kernel_rfl) (fun _ _ _ h => h) (Or.inr ⟨by rfl, rfl⟩) (by assumption) ?_
    (try show wpAnyH _ _ _ _ _ _ _ (Act.put _ (some 34) _) _); (try simp only [Act.put, List.setIfInBounds_toArray, List.set_cons_zero, List.set_cons_succ])
    refine wpAnyH_take (i := 28) (v := undef) rfl (by kernel_rfl) (by kernel_rfl) (by kernel_rfl) (fun _ _ _ h => h) (Or.inr ⟨by rfl, rfl⟩) (by assumption) ?_
    (try show wpAnyH _ _ _ _ _ _ _ (Act.put _ (some 35) _) _); (try simp only [Act.put, List.setIfInBounds_toArray, List.set_cons_zero, List.set_cons_succ])
    refine wpAnyH_take (i := 29) (v := undef) rfl (by kernel_rfl) (by kernel_rfl) (by kernel_rfl) (fun _ _ _ h => h) (Or.inr ⟨by rfl, rfl⟩) (by assumption) ?_
    (try show wpAnyH _ _ _ _ _ _ _ (Act.put _ (some 36) _) _); (try simp only [Act.put, List.setIfInBounds_toArray, List.set_cons_zero, List.set_cons_succ])
    refine wpAnyH_take (i := 30) (v := undef) rfl (by kernel_rfl) (by kernel_rfl) (by kernel_rfl) (fun _ _ _ h => h) (Or.inr ⟨by rfl, rfl⟩) (by assumption) ?_
    (try show wpAnyH _ _ _ _ _ _ _ (Act.put _ (some 37) _) _); (try simp only [Act.put, List.setIfInBounds_toArray, List.set_cons_zero, List.set_cons_succ])
    refine wpAnyH_take (i := 31) (v := undef) rfl (by kernel_rfl) (by kernel_rfl) (by kernel_rfl) (fun _ _ _ h => h) (Or.inr ⟨by rfl, rfl⟩) (by assumption) ?_
    (try show wpAnyH _ _ _ _ _ _ _ (Act.put _ (some 38) _) _); (try simp only [Act.put, List.setIfInBounds_toArray, List.set_cons_zero, List.set_cons_succ])
    refine wpAnyH_take (i := 32) (v := undef) rfl (by kernel_rfl) (by kernel_rfl) (by kernel_rfl) (fun _ _ _ h => h) (Or.inr ⟨by rfl, rfl⟩) (by assumption) ?_
    (try show wpAnyH _ _ _ _ _ _ _ (Act.put _ (some 39) _) _); (try simp only [Act.put, List.setIfInBounds_toArray, List.set_cons_zero, List.set_cons_succ])
    refine wpAnyH_take (i := 33) (v := undef) rfl (by kernel_rfl) (by kernel_rfl) (by kernel_rfl) (fun _ _ _ h => h) (Or.inr ⟨by rfl, rfl⟩) (by assumption) ?_
    (try show wpAnyH _ _ _ _ _ _ _ (Act.put _ (some 40) _) _); (try simp only [Act.put, List.setIfInBounds_toArray, List.set_cons_zero, List.set_cons_succ])
    refine wpAnyH_take (i := 34) (v := undef) rfl (by kernel_rfl) (by kernel_rfl) (by kernel_rfl) (fun _ _ _ h => h) (Or.inr ⟨by rfl, rfl⟩) (by assumption) ?_
    (try show wpAnyH _ _ _ _ _ _ _ (Act.put _ (some 41) _) _); (try simp only [Act.put, List.setIfInBounds_toArray, List.set_cons_zero, List.set_cons_succ])
    refine wpAnyH_ready (rs := [35]) (by kernel_rfl) (by simp) ?_
    refine AllReadyH.cons rfl (fun K hK => ?_) AllReadyH.nil
    go_simp
    refine hK.out _ _ ?_ (fun hHeld => ?_)
    · assumption
    clear hK K
    (try show wpAnyH _ _ _ _ _ _ _ (Act.put _ (some 42) _) _); (try simp only [Act.put, List.setIfInBounds_toArray, List.set_cons_zero, List.set_cons_succ])
    refine wpAnyH_take (i := 36) (v := (.bool true)) rfl (by kernel_rfl) (by kernel_rfl) (by kernel_rfl) (fun _ _ _ h => h) (Or.inl ⟨by rfl, ?_⟩) (by assumption) ?_
    · intro w hSw; (try dsimp only at hSw); go_simp
    (try show wpAnyH _ _ _ _ _ _ _ (Act.put _ (some 43) _) _); (try simp only [Act.put, List.setIfInBounds_toArray, List.set_cons_zero, List.set_cons_succ])
    refine wpAnyH_done (by kernel_rfl) ?_ _
    go_wp2_with fail
    go_ret2
    exact ⟨_, rfl, by rw [E.out]; exact xOwn_nil _ _ _, B1.out⟩
  obtain ⟨kk, rfl⟩ : ∃ kk : Nat, k = (kk : Int) := ⟨k.toNat, by omega⟩
  have hlt : kk + 1 < n := by omega
  have hltk : kk < n := by omega
  have HIN : Hid (inB (kk : Int) 0 ((n : Int) - 2) = true) := inB_yes hlt
  have EB : swapB xs (kk : Int) = mayB (xs.getD kk d0) (xs.getD (kk + 1) d0) := swap_in hg (by rw [HL.out]; exact hlt)
  have HV : Hid (swapB xs (kk : Int) = true → swapV xs (kk : Int) = swapN xs kk) := fun h => by unfold swapV; rw [if_pos h, Int.toNat_natCast]
  have HV0 : Hid (swapB xs (kk : Int) = false → swapV xs (kk : Int) = []) := fun h => if_neg (by rw [h]; exact Bool.false_ne_true)
  have HSW : Hid (swapN xs kk = (xs.set kk (xs.getD (kk + 1) d0)).set (kk + 1) (xs.getD kk d0)) := rfl
  have HOK : Hid (∀ x ∈ swapN xs kk, ok x) := swapN_ok HI.out.wf (by rw [HL.out]; exact hlt)
  have hkI : (kk : Int) + 1 < (n : Int) := by omega
  have hkI2 : (kk : Int) < (n : Int) := by omega
  have hkI0 : (0 : Int) ≤ (kk : Int) := by omega
  obtain ⟨b, off, xw, xi, xb, rfl, p0, p1, p2, hx⟩ := act_at HI.out (Below.refl _ _) hltk
  obtain ⟨_, _, yw, yi, yb, hbb, q0, q1, q2, hy⟩ := act_at HI.out (Below.refl _ _) hlt
  cases hbb
  rw [hx, hy] at EB HSW
  obtain ⟨k1, hk1⟩ : ∃ k1, k1 = kk + 1 := ⟨_, rfl⟩
  rw [← hk1] at q0 q1 q2 HSW
  have hk1I : IntKind.i64.wrap ((kk : Int) + 1) = (k1 : Int) := by simp [IntKind.wrap, IntKind.bits, IntKind.signed]; omega
  have hk1n : (k1 : Int) < (n : Int) := by omega
  have hk10 : (0 : Int) ≤ (k1 : Int) := by omega
  have HK1 : Hid (k1 = kk + 1) := hk1
  have hwr2 : IntKind.i64.wrap ((n : Int) - 2) = (n : Int) - 2 := by simp [IntKind.wrap, IntKind.bits, IntKind.signed]; omega
  have C0 : Hid (w.cell? ⟨b, off + kk * 3, none⟩ = some (.int .i64 xw) ∧ w.cell? ⟨b, off + kk * 3 + 1, none⟩ = some (.int .i64 xi) ∧ w.cell? ⟨b, off + kk * 3 + 2, none⟩ = some (.bool xb) ∧ w.cell? ⟨b, off + k1 * 3, none⟩ = some (.int .i64 yw) ∧ w.cell? ⟨b, off + k1 * 3 + 1, none⟩ = some (.int .i64 yi) ∧ w.cell? ⟨b, off + k1 * 3 + 2, none⟩ = some (.bool yb)) := ⟨p0, p1, p2, q0, q1, q2⟩
  have hcells : ∀ {W : World}, Below w.heap.size w W → W.cell? ⟨b, off + kk * 3, none⟩ = some (.int .i64 xw) ∧ W.cell? ⟨b, off + kk * 3 + 1, none⟩ = some (.int .i64 xi) ∧ W.cell? ⟨b, off + kk * 3 + 2, none⟩ = some (.bool xb) ∧ W.cell? ⟨b, off + k1 * 3, none⟩ = some (.int .i64 yw) ∧ W.cell? ⟨b, off + k1 * 3 + 1, none⟩ = some (.int .i64 yi) ∧ W.cell? ⟨b, off + k1 * 3 + 2, none⟩ = some (.bool yb) := fun hb => ⟨Frame.held_cell hb C0.out.1, Frame.held_cell hb C0.out.2.1, Frame.held_cell hb C0.out.2.2.1, Frame.held_cell hb C0.out.2.2.2.1, Frame.held_cell hb C0.out.2.2.2.2.1, Frame.held_cell hb C0.out.2.2.2.2.2⟩
  have HC : Hid (∀ {W : World}, Below w.heap.size w W → W.cell? ⟨b, off + kk * 3, none⟩ = some (.int .i64 xw) ∧ W.cell? ⟨b, off + kk * 3 + 1, none⟩ = some (.int .i64 xi) ∧ W.cell? ⟨b, off + kk * 3 + 2, none⟩ = some (.bool xb) ∧ W.cell? ⟨b, off + k1 * 3, none⟩ = some (.int .i64 yw) ∧ W.cell? ⟨b, off + k1 * 3 + 1, none⟩ = some (.int .i64 yi) ∧ W.cell? ⟨b, off + k1 * 3 + 2, none⟩ = some (.bool yb)) := hcells
  clear hcells p0 p1 p2 q0 q1 q2 hx hy hk1 hg C0 hin
  cases hw : (xw == yw)
  case true =>
    have EB2 : swapB xs (kk : Int) = false := by rw [EB]; unfold mayB; rw [show ((xw, xi, xb).1 != (yw, yi, yb).1) = false by show (xw != yw) = false; rw [bne, hw]; rfl]; rfl
    have E : Hid (swapV xs (kk : Int) = []) := HV0.out EB2
    rw [EB2]
    clear EB EB2
    go_enter Try.func27, Try.ntmps27
    go_wp2_with fail
    refine wp_region_held_drew (S := fun w' => w'.cell? ⟨b, off + kk * 3, none⟩ = some (.int .i64 xw) ∧ w'.cell? ⟨b, off + kk * 3 + 1, none⟩ = some (.int .i64 xi) ∧ w'.cell? ⟨b, off + kk * 3 + 2, none⟩ = some (.bool xb) ∧ w'.cell? ⟨b, off + k1 * 3, none⟩ = some (.int .i64 yw) ∧ w'.cell? ⟨b, off + k1 * 3 + 1, none⟩ = some (.int .i64 yi) ∧ w'.cell? ⟨b, off + k1 * 3 + 2, none⟩ = some (.bool yb)) (by kernel_rfl) ?_ (fun hHeld => ?_)
    · exact HC.out ((Below.refl _ _).drew : Below w.heap.size w w.drew)
    refine wpAnyH_take (i := 0) (v := (.slice (some ⟨b, off, none⟩) n cap)) rfl (by kernel_rfl) (by kernel_rfl) (by kernel_rfl) (fun _ _ _ h => h) (Or.inl ⟨by rfl, ?_⟩) (by assumption) ?_
    · intro w hSw; (try dsimp only at hSw); go_simp
    (try show wpAnyH _ _ _ _ _ _ _ (Act.put _ (some 7) _) _); (try simp only [Act.put, List.setIfInBounds_toArray, List.set_cons_zero, List.set_cons_succ])
    refine wpAnyH_ready (rs := [1]) (by kernel_rfl) (by simp) ?_
    refine AllReadyH.cons rfl (fun K hK => ?_) AllReadyH.nil
    go_simp
    (refine (spec_GoodPlay (some ⟨b, off, none⟩) n cap xs _ (HI.out.below ((Below.refl _ _).drew : Below w.heap.size w w.drew))).mono ?_; rintro e w1 ⟨rfl, hb1⟩; have B1 : Hid (Below w.heap.size w w1) := Frame.next ((Below.refl _ _).drew : Below w.heap.size w w.drew) hb1 ((Below.refl _ _).drew : Below w.heap.size w w.drew).size; clear hb1; rw [HG.out])
    go_wp2_with fail
    refine hK.out _ _ ?_ (fun hHeld => ?_)
    · exact HC.out B1.out
    clear hK K
    (try show wpAnyH _ _ _ _ _ _ _ (Act.put _ (some 8) _) _); (try simp only [Act.put, List.setIfInBounds_toArray, List.set_cons_zero, List.set_cons_succ])
    refine wpAnyH_take (i := 2) (v := (.bool false)) rfl (by kernel_rfl) (by kernel_rfl) (by kernel_rfl) (fun _ _ _ h => h) (Or.inl ⟨by rfl, ?_⟩) (by assumption) ?_
    · intro w hSw; (try dsimp only at hSw); go_simp
    (try show wpAnyH _ _ _ _ _ _ _ (Act.put _ (some 9) _) _); (try simp only [Act.put, List.setIfInBounds_toArray, List.set_cons_zero, List.set_cons_succ])
    refine wpAnyH_take (i := 3) (v := (.bool false)) rfl (by kernel_rfl) (by kernel_rfl) (by kernel_rfl) (fun _ _ _ h => h) (Or.inl ⟨by rfl, ?_⟩) (by assumption) ?_
    · intro w hSw; (try dsimp only at hSw); go_simp
    (try show wpAnyH _ _ _ _ _ _ _ (Act.put _ (some 10) _) _); (try simp only [Act.put, List.setIfInBounds_toArray, List.set_cons_zero, List.set_cons_succ])
    refine wpAnyH_take (i := 4) (v := (.int .i64 (kk : Int))) rfl (by kernel_rfl) (by kernel_rfl) (by kernel_rfl) (fun _ _ _ h => h) (Or.inl ⟨by rfl, ?_⟩) (by assumption) ?_
    · intro w hSw; (try dsimp only at hSw); go_simp
    (try show wpAnyH _ _ _ _ _ _ _ (Act.put _ (some 11) _) _); (try simp only [Act.put, List.setIfInBounds_toArray, List.set_cons_zero, List.set_cons_succ])
    refine wpAnyH_take (i := 5) (v := (.slice (some ⟨b, off, none⟩) n cap)) rfl (by kernel_rfl) (by kernel_rfl) (by kernel_rfl) (fun _ _ _ h => h) (Or.inl ⟨by rfl, ?_⟩) (by assumption) ?_
    · intro w hSw; (try dsimp only at hSw); go_simp
    (try show wpAnyH _ _ _ _ _ _ _ (Act.put _ (some 12) _) _); (try simp only [Act.put, List.setIfInBounds_toArray, List.set_cons_zero, List.set_cons_succ])
    refine wpAnyH_ready (rs := [6]) (by kernel_rfl) (by simp) ?_
    refine AllReadyH.cons rfl (fun K hK => ?_) AllReadyH.nil
    go_simp
    refine hK.out _ _ ?_ (fun hHeld => ?_)
    · assumption
    clear hK K
    (try show wpAnyH _ _ _ _ _ _ _ (Act.put _ (some 13) _) _); (try simp only [Act.put, List.setIfInBounds_toArray, List.set_cons_zero, List.set_cons_succ])
    refine wpAnyH_take (i := 7) (v := (.int .i64 ((n : Int) - 2))) rfl (by kernel_rfl) (by kernel_rfl) (by kernel_rfl) (fun _ _ _ h => h) (Or.inl ⟨by rfl, ?_⟩) (by assumption) ?_
    · intro w hSw; (try dsimp only at hSw); go_simp
    (try show wpAnyH _ _ _ _ _ _ _ (Act.put _ (some 14) _) _); (try simp only [Act.put, List.setIfInBounds_toArray, List.set_cons_zero, List.set_cons_succ])
    refine wpAnyH_ready (rs := [8]) (by kernel_rfl) (by simp) ?_
    refine AllReadyH.cons rfl (fun K hK => ?_) AllReadyH.nil
    go_simp
    (refine (spec_In _ _ _ _).mono ?_; rintro e w' ⟨rfl, hw'⟩; have hw'' := hw'.symm; clear hw'; subst hw''; rw [HIN.out])
    go_wp2_with fail
    refine hK.out _ _ ?_ (fun hHeld => ?_)
    · exact HC.out B1.out
    clear hK K
    (try show wpAnyH _ _ _ _ _ _ _ (Act.put _ (some 15) _) _); (try simp only [Act.put, List.setIfInBounds_toArray, List.set_cons_zero, List.set_cons_succ])
    refine wpAnyH_take (i := 9) (v := (.bool false)) rfl (by kernel_rfl) (by kernel_rfl) (by kernel_rfl) (fun _ _ _ h => h) (Or.inl ⟨by rfl, ?_⟩) (by assumption) ?_
    · intro w hSw; (try dsimp only at hSw); go_simp
    (try show wpAnyH _ _ _ _ _ _ _ (Act.put _ (some 16) _) _); (try simp only [Act.put, List.setIfInBounds_toArray, List.set_cons_zero, List.set_cons_succ])
    refine wpAnyH_take (i := 10) (v := (.bool false)) rfl (by kernel_rfl) (by kernel_rfl) (by kernel_rfl) (fun _ _ _ h => h) (Or.inl ⟨by rfl, ?_⟩) (by assumption) ?_
    · intro w hSw; (try dsimp only at hSw); go_simp
    (try show wpAnyH _ _ _ _ _ _ _ (Act.put _ (some 17) _) _); (try simp only [Act.put, List.setIfInBounds_toArray, List.set_cons_zero, List.set_cons_succ])
    refine wpAnyH_take (i := 11) (v := (.bool false)) rfl (by kernel_rfl) (by kernel_rfl) (by kernel_rfl) (fun _ _ _ h => h) (Or.inl ⟨by rfl, ?_⟩) (by assumption) ?_
    · intro w hSw; (try dsimp only at hSw); go_simp
    (try show wpAnyH _ _ _ _ _ _ _ (Act.put _ (some 18) _) _); (try simp only [Act.put, List.setIfInBounds_toArray, List.set_cons_zero, List.set_cons_succ])
    refine wpAnyH_take (i := 12) (v := (.slice (some ⟨b, off, none⟩) n cap)) rfl (by kernel_rfl) (by kernel_rfl) (by kernel_rfl) (fun _ _ _ h => h) (Or.inl ⟨by rfl, ?_⟩) (by assumption) ?_
    · intro w hSw; (try dsimp only at hSw); go_simp
    (try show wpAnyH _ _ _ _ _ _ _ (Act.put _ (some 19) _) _); (try simp only [Act.put, List.setIfInBounds_toArray, List.set_cons_zero, List.set_cons_succ])
    refine wpAnyH_take (i := 13) (v := (.int .i64 (kk : Int))) rfl (by kernel_rfl) (by kernel_rfl) (by kernel_rfl) (fun _ _ _ h => h) (Or.inl ⟨by rfl, ?_⟩) (by assumption) ?_
    · intro w hSw; (try dsimp only at hSw); go_simp
    (try show wpAnyH _ _ _ _ _ _ _ (Act.put _ (some 20) _) _); (try simp only [Act.put, List.setIfInBounds_toArray, List.set_cons_zero, List.set_cons_succ])
    refine wpAnyH_take (i := 14) (v := (.pointer (some ⟨b, off + kk * 3, none⟩))) rfl (by kernel_rfl) (by kernel_rfl) (by kernel_rfl) (fun _ _ _ h => h) (Or.inl ⟨by rfl, ?_⟩) (by assumption) ?_
    · intro w hSw; (try dsimp only at hSw); go_simp
    (try show wpAnyH _ _ _ _ _ _ _ (Act.put _ (some 21) _) _); (try simp only [Act.put, List.setIfInBounds_toArray, List.set_cons_zero, List.set_cons_succ])
    refine wpAnyH_take (i := 15) (v := (.pointer (some ⟨b, off + kk * 3, none⟩))) rfl (by kernel_rfl) (by kernel_rfl) (by kernel_rfl) (fun _ _ _ h => h) (Or.inl ⟨by rfl, ?_⟩) (by assumption) ?_
    · intro w hSw; (try dsimp only at hSw); go_simp
    (try show wpAnyH _ _ _ _ _ _ _ (Act.put _ (some 22) _) _); (try simp only [Act.put, List.setIfInBounds_toArray, List.set_cons_zero, List.set_cons_succ])
    refine wpAnyH_take (i := 16) (v := (.int .i64 xw)) rfl (by kernel_rfl) (by kernel_rfl) (by kernel_rfl) (fun _ _ _ h => h) (Or.inl ⟨by rfl, ?_⟩) (by assumption) ?_
    · intro w hSw; (try dsimp only at hSw); go_simp
    (try show wpAnyH _ _ _ _ _ _ _ (Act.put _ (some 23) _) _); (try simp only [Act.put, List.setIfInBounds_toArray, List.set_cons_zero, List.set_cons_succ])
    refine wpAnyH_take (i := 17) (v := (.slice (some ⟨b, off, none⟩) n cap)) rfl (by kernel_rfl) (by kernel_rfl) (by kernel_rfl) (fun _ _ _ h => h) (Or.inl ⟨by rfl, ?_⟩) (by assumption) ?_
    · intro w hSw; (try dsimp only at hSw); go_simp
    (try show wpAnyH _ _ _ _ _ _ _ (Act.put _ (some 24) _) _); (try simp only [Act.put, List.setIfInBounds_toArray, List.set_cons_zero, List.set_cons_succ])
    refine wpAnyH_take (i := 18) (v := (.int .i64 (kk : Int))) rfl (by kernel_rfl) (by kernel_rfl) (by kernel_rfl) (fun _ _ _ h => h) (Or.inl ⟨by rfl, ?_⟩) (by assumption) ?_
    · intro w hSw; (try dsimp only at hSw); go_simp
    (try show wpAnyH _ _ _ _ _ _ _ (Act.put _ (some 25) _) _); (try simp only [Act.put, List.setIfInBounds_toArray, List.set_cons_zero, List.set_cons_succ])
    refine wpAnyH_take (i := 19) (v := (.int .i64 (k1 : Int))) rfl (by kernel_rfl) (by kernel_rfl) (by kernel_rfl) (fun _ _ _ h => h) (Or.inl ⟨by rfl, ?_⟩) (by assumption) ?_
    · intro w hSw; (try dsimp only at hSw); go_simp
    (try show wpAnyH _ _ _ _ _ _ _ (Act.put _ (some 26) _) _); (try simp only [Act.put, List.setIfInBounds_toArray, List.set_cons_zero, List.set_cons_succ])
    refine wpAnyH_take (i := 20) (v := (.pointer (some ⟨b, off + k1 * 3, none⟩))) rfl (by kernel_rfl) (by kernel_rfl) (by kernel_rfl) (fun _ _ _ h => h) (Or.inl ⟨by rfl, ?_⟩) (by assumption) ?_
    · intro w hSw; (try dsimp only at hSw); go_simp
    (try show wpAnyH _ _ _ _ _ _ _ (Act.put _ (some 27) _) _); (try simp only [Act.put, List.setIfInBounds_toArray, List.set_cons_zero, List.set_cons_succ])
    refine wpAnyH_take (i := 21) (v := (.pointer (some ⟨b, off + k1 * 3, none⟩))) rfl (by kernel_rfl) (by kernel_rfl) (by kernel_rfl) (fun _ _ _ h => h) (Or.inl ⟨by rfl, ?_⟩) (by assumption) ?_
    · intro w hSw; (try dsimp only at hSw); go_simp
    (try show wpAnyH _ _ _ _ _ _ _ (Act.put _ (some 28) _) _); (try simp only [Act.put, List.setIfInBounds_toArray, List.set_cons_zero, List.set_cons_succ])
    refine wpAnyH_take (i := 22) (v := (.int .i64 yw)) rfl (by kernel_rfl) (by kernel_rfl) (by kernel_rfl) (fun _ _ _ h => h) (Or.inl ⟨by rfl, ?_⟩) (by assumption) ?_
    · intro w hSw; (try dsimp only at hSw); go_simp
    (try show wpAnyH _ _ _ _ _ _ _ (Act.put _ (some 29) _) _); (try simp only [Act.put, List.setIfInBounds_toArray, List.set_cons_zero, List.set_cons_succ])
    refine wpAnyH_take (i := 23) (v := (.bool true)) rfl (by kernel_rfl) (by kernel_rfl) (by kernel_rfl) (fun _ _ _ h => h) (Or.inl ⟨by rfl, ?_⟩) (by assumption) ?_
    · intro w hSw; (try dsimp only at hSw); go_simp
    (try show wpAnyH _ _ _ _ _ _ _ (Act.put _ (some 30) _) _); (try simp only [Act.put, List.setIfInBounds_toArray, List.set_cons_zero, List.set_cons_succ])
    refine wpAnyH_take (i := 24) (v := (.bool true)) rfl (by kernel_rfl) (by kernel_rfl) (by kernel_rfl) (fun _ _ _ h => h) (Or.inl ⟨by rfl, ?_⟩) (by assumption) ?_
    · intro w hSw; (try dsimp only at hSw); go_simp
    (try show wpAnyH _ _ _ _ _ _ _ (Act.put _ (some 31) _) _); (try simp only [Act.put, List.setIfInBounds_toArray, List.set_cons_zero, List.set_cons_succ])
    refine wpAnyH_take (i := 25) (v := (.bool true)) rfl (by kernel_rfl) (by kernel_rfl) (by kernel_rfl) (fun _ _ _ h => h) (Or.inl ⟨by rfl, ?_⟩) (by assumption) ?_
    · intro w hSw; (try dsimp only at hSw); go_simp
    (try show wpAnyH _ _ _ _ _ _ _ (Act.put _ (some 32) _) _); (try simp only [Act.put, List.setIfInBounds_toArray, List.set_cons_zero, List.set_cons_succ])
    refine wpAnyH_take (i := 26) (v := undef) rfl (by kernel_rfl) (by kernel_rfl) (by kernel_rfl) (fun _ _ _ h => h) (Or.inr ⟨by rfl, rfl⟩) (by assumption) ?_
    (try show wpAnyH _ _ _ _ _ _ _ (Act.put _ (some 33) _) _); (try simp only [Act.put, List.setIfInBounds_toArray, List.set_cons_zero, List.set_cons_succ])
    refine wpAnyH_take (i := 27) (v := undef) rfl (by kernel_rfl) (by kernel_rfl) (by kernel_rfl) (fun _ _ _ h => h) (Or.inr ⟨by rfl, rfl⟩) (by assumption) ?_
    (try show wpAnyH _ _ _ _ _ _ _ (Act.put _ (some 34) _) _); (try simp only [Act.put, List.setIfInBounds_toArray, List.set_cons_zero, List.set_cons_succ])
    refine wpAnyH_take (i := 28) (v := undef) rfl (by kernel_rfl) (by kernel_rfl) (by kernel_rfl) (fun _ _ _ h => h) (Or.inr ⟨by rfl, rfl⟩) (by assumption) ?_
    (try show wpAnyH _ _ _ _ _ _ _ (Act.put _ (some 35) _) _); (try simp only [Act.put, List.setIfInBounds_toArray, List.set_cons_zero, List.set_cons_succ])
    refine wpAnyH_take (i := 29) (v := undef) rfl (by kernel_rfl) (by kernel_rfl) (by kernel_rfl) (fun _ _ _ h => h) (Or.inr ⟨by rfl, rfl⟩) (by assumption) ?_
    (try show wpAnyH _ _ _ _ _ _ _ (Act.put _ (some 36) _) _); (try simp only [Act.put, List.setIfInBounds_toArray, List.set_cons_zero, List.set_cons_succ])
    refine wpAnyH_take (i := 30) (v := undef) rfl (by kernel_rfl) (by kernel_rfl) (by kernel_rfl) (fun _ _ _ h => h) (Or.inr ⟨by rfl, rfl⟩) (by assumption) ?_
    (try show wpAnyH _ _ _ _ _ _ _ (Act.put _ (some 37) _) _); (try simp only [Act.put, List.setIfInBounds_toArray, List.set_cons_zero, List.set_cons_succ])
    refine wpAnyH_take (i := 31) (v := undef) rfl (by kernel_rfl) (by kernel_rfl) (by kernel_rfl) (fun _ _ _ h => h) (Or.inr ⟨by rfl, rfl⟩) (by assumption) ?_
    (try show wpAnyH _ _ _ _ _ _ _ (Act.put _ (some 38) _) _); (try simp only [Act.put, List.setIfInBounds_toArray, List.set_cons_zero, List.set_cons_succ])
    refine wpAnyH_take (i := 32) (v := undef) rfl (by kernel_rfl) (by kernel_rfl) (by kernel_rfl) (fun _ _ _ h => h) (Or.inr ⟨by rfl, rfl⟩) (by assumption) ?_
    (try show wpAnyH _ _ _ _ _ _ _ (Act.put _ (some 39) _) _); (try simp only [Act.put, List.setIfInBounds_toArray, List.set_cons_zero, List.set_cons_succ])
    refine wpAnyH_take (i := 33) (v := undef) rfl (by kernel_rfl) (by kernel_rfl) (by kernel_rfl) (fun _ _ _ h => h) (Or.inr ⟨by rfl, rfl⟩) (by assumption) ?_
    (try show wpAnyH _ _ _ _ _ _ _ (Act.put _ (some 40) _) _); (try simp only [Act.put, List.setIfInBounds_toArray, List.set_cons_zero, List.set_cons_succ])
    refine wpAnyH_take (i := 34) (v := undef) rfl (by kernel_rfl) (by kernel_rfl) (by kernel_rfl) (fun _ _ _ h => h) (Or.inr ⟨by rfl, rfl⟩) (by assumption) ?_
    (try show wpAnyH _ _ _ _ _ _ _ (Act.put _ (some 41) _) _); (try simp only [Act.put, List.setIfInBounds_toArray, List.set_cons_zero, List.set_cons_succ])
    refine wpAnyH_ready (rs := [35]) (by kernel_rfl) (by simp) ?_
    refine AllReadyH.cons rfl (fun K hK => ?_) AllReadyH.nil
    go_simp
    refine hK.out _ _ ?_ (fun hHeld => ?_)
    · assumption
    clear hK K
    (try show wpAnyH _ _ _ _ _ _ _ (Act.put _ (some 42) _) _); (try simp only [Act.put, List.setIfInBounds_toArray, List.set_cons_zero, List.set_cons_succ])
    refine wpAnyH_take (i := 36) (v := (.bool true)) rfl (by kernel_rfl) (by kernel_rfl) (by kernel_rfl) (fun _ _ _ h => h) (Or.inl ⟨by rfl, ?_⟩) (by assumption) ?_
    · intro w hSw; (try dsimp only at hSw); go_simp
    (try show wpAnyH _ _ _ _ _ _ _ (Act.put _ (some 43) _) _); (try simp only [Act.put, List.setIfInBounds_toArray, List.set_cons_zero, List.set_cons_succ])
    refine wpAnyH_done (by kernel_rfl) ?_ _
    go_wp2_with fail
    go_ret2
    exact ⟨_, rfl, by rw [E.out]; exact xOwn_nil _ _ _, B1.out⟩
  have hne : (xw != yw) = true := by rw [bne, hw]; rfl
  have EB1 : swapB xs (kk : Int) = !(clashB (xw, xi, xb) (yw, yi, yb)) := by rw [EB]; unfold mayB; rw [show ((xw, xi, xb).1 != (yw, yi, yb).1) = true from hne]; rfl
  cases hc : clashB (xw, xi, xb) (yw, yi, yb)
  case true =>
    have EB2 : swapB xs (kk : Int) = false := by rw [EB1, hc]; rfl
    have E : Hid (swapV xs (kk : Int) = []) := HV0.out EB2
    have HCL : Hid (clashB (xw, xi, xb) (yw, yi, yb) = true) := hc
    rw [EB2]
    clear EB EB1 EB2 hc
    go_enter Try.func27, Try.ntmps27
    go_wp2_with fail
    refine wp_region_held_drew (S := fun w' => w'.cell? ⟨b, off + kk * 3, none⟩ = some (.int .i64 xw) ∧ w'.cell? ⟨b, off + kk * 3 + 1, none⟩ = some (.int .i64 xi) ∧ w'.cell? ⟨b, off + kk * 3 + 2, none⟩ = some (.bool xb) ∧ w'.cell? ⟨b, off + k1 * 3, none⟩ = some (.int .i64 yw) ∧ w'.cell? ⟨b, off + k1 * 3 + 1, none⟩ = some (.int .i64 yi) ∧ w'.cell? ⟨b, off + k1 * 3 + 2, none⟩ = some (.bool yb)) (by kernel_rfl) ?_ (fun hHeld => ?_)
    · exact HC.out ((Below.refl _ _).drew : Below w.heap.size w w.drew)
    refine wpAnyH_take (i := 0) (v := (.slice (some ⟨b, off, none⟩) n cap)) rfl (by kernel_rfl) (by kernel_rfl) (by kernel_rfl) (fun _ _ _ h => h) (Or.inl ⟨by rfl, ?_⟩) (by assumption) ?_
    · intro w hSw; (try dsimp only at hSw); go_simp
    (try show wpAnyH _ _ _ _ _ _ _ (Act.put _ (some 7) _) _); (try simp only [Act.put, List.setIfInBounds_toArray, List.set_cons_zero, List.set_cons_succ])
    refine wpAnyH_ready (rs := [1]) (by kernel_rfl) (by simp) ?_
    refine AllReadyH.cons rfl (fun K hK => ?_) AllReadyH.nil
    go_simp
    (refine (spec_GoodPlay (some ⟨b, off, none⟩) n cap xs _ (HI.out.below ((Below.refl _ _).drew : Below w.heap.size w w.drew))).mono ?_; rintro e w1 ⟨rfl, hb1⟩; have B1 : Hid (Below w.heap.size w w1) := Frame.next ((Below.refl _ _).drew : Below w.heap.size w w.drew) hb1 ((Below.refl _ _).drew : Below w.heap.size w w.drew).size; clear hb1; rw [HG.out])
    go_wp2_with fail
    refine hK.out _ _ ?_ (fun hHeld => ?_)
    · exact HC.out B1.out
    clear hK K
    (try show wpAnyH _ _ _ _ _ _ _ (Act.put _ (some 8) _) _); (try simp only [Act.put, List.setIfInBounds_toArray, List.set_cons_zero, List.set_cons_succ])
    refine wpAnyH_take (i := 2) (v := (.bool false)) rfl (by kernel_rfl) (by kernel_rfl) (by kernel_rfl) (fun _ _ _ h => h) (Or.inl ⟨by rfl, ?_⟩) (by assumption) ?_
    · intro w hSw; (try dsimp only at hSw); go_simp
    (try show wpAnyH _ _ _ _ _ _ _ (Act.put _ (some 9) _) _); (try simp only [Act.put, List.setIfInBounds_toArray, List.set_cons_zero, List.set_cons_succ])
    refine wpAnyH_take (i := 3) (v := (.bool false)) rfl (by kernel_rfl) (by kernel_rfl) (by kernel_rfl) (fun _ _ _ h => h) (Or.inl ⟨by rfl, ?_⟩) (by assumption) ?_
    · intro w hSw; (try dsimp only at hSw); go_simp
    (try show wpAnyH _ _ _ _ _ _ _ (Act.put _ (some 10) _) _); (try simp only [Act.put, List.setIfInBounds_toArray, List.set_cons_zero, List.set_cons_succ])
    refine wpAnyH_take (i := 4) (v := (.int .i64 (kk : Int))) rfl (by kernel_rfl) (by kernel_rfl) (by kernel_rfl) (fun _ _ _ h => h) (Or.inl ⟨by rfl, ?_⟩) (by assumption) ?_
    · intro w hSw; (try dsimp only at hSw); go_simp
    (try show wpAnyH _ _ _ _ _ _ _ (Act.put _ (some 11) _) _); (try simp only [Act.put, List.setIfInBounds_toArray, List.set_cons_zero, List.set_cons_succ])
    refine wpAnyH_take (i := 5) (v := (.slice (some ⟨b, off, none⟩) n cap)) rfl (by kernel_rfl) (by kernel_rfl) (by kernel_rfl) (fun _ _ _ h => h) (Or.inl ⟨by rfl, ?_⟩) (by assumption) ?_
    · intro w hSw; (try dsimp only at hSw); go_simp
    (try show wpAnyH _ _ _ _ _ _ _ (Act.put _ (some 12) _) _); (try simp only [Act.put, List.setIfInBounds_toArray, List.set_cons_zero, List.set_cons_succ])
    refine wpAnyH_ready (rs := [6]) (by kernel_rfl) (by simp) ?_
    refine AllReadyH.cons rfl (fun K hK => ?_) AllReadyH.nil
    go_simp
    refine hK.out _ _ ?_ (fun hHeld => ?_)
    · assumption
    clear hK K
    (try show wpAnyH _ _ _ _ _ _ _ (Act.put _ (some 13) _) _); (try simp only [Act.put, List.setIfInBounds_toArray, List.set_cons_zero, List.set_cons_succ])
    refine wpAnyH_take (i := 7) (v := (.int .i64 ((n : Int) - 2))) rfl (by kernel_rfl) (by kernel_rfl) (by kernel_rfl) (fun _ _ _ h => h) (Or.inl ⟨by rfl, ?_⟩) (by assumption) ?_
    · intro w hSw; (try dsimp only at hSw); go_simp
    (try show wpAnyH _ _ _ _ _ _ _ (Act.put _ (some 14) _) _); (try simp only [Act.put, List.setIfInBounds_toArray, List.set_cons_zero, List.set_cons_succ])
    refine wpAnyH_ready (rs := [8]) (by kernel_rfl) (by simp) ?_
    refine AllReadyH.cons rfl (fun K hK => ?_) AllReadyH.nil
    go_simp
    (refine (spec_In _ _ _ _).mono ?_; rintro e w' ⟨rfl, hw'⟩; have hw'' := hw'.symm; clear hw'; subst hw''; rw [HIN.out])
    go_wp2_with fail
    refine hK.out _ _ ?_ (fun hHeld => ?_)
    · exact HC.out B1.out
    clear hK K
    (try show wpAnyH _ _ _ _ _ _ _ (Act.put _ (some 15) _) _); (try simp only [Act.put, List.setIfInBounds_toArray, List.set_cons_zero, List.set_cons_succ])
    refine wpAnyH_take (i := 9) (v := (.bool false)) rfl (by kernel_rfl) (by kernel_rfl) (by kernel_rfl) (fun _ _ _ h => h) (Or.inl ⟨by rfl, ?_⟩) (by assumption) ?_
    · intro w hSw; (try dsimp only at hSw); go_simp
    (try show wpAnyH _ _ _ _ _ _ _ (Act.put _ (some 16) _) _); (try simp only [Act.put, List.setIfInBounds_toArray, List.set_cons_zero, List.set_cons_succ])
    refine wpAnyH_take (i := 10) (v := (.bool false)) rfl (by kernel_rfl) (by kernel_rfl) (by kernel_rfl) (fun _ _ _ h => h) (Or.inl ⟨by rfl, ?_⟩) (by assumption) ?_
    · intro w hSw; (try dsimp only at hSw); go_simp
    (try show wpAnyH _ _ _ _ _ _ _ (Act.put _ (some 17) _) _); (try simp only [Act.put, List.setIfInBounds_toArray, List.set_cons_zero, List.set_cons_succ])
    refine wpAnyH_take (i := 11) (v := (.bool false)) rfl (by kernel_rfl) (by kernel_rfl) (by kernel_rfl) (fun _ _ _ h => h) (Or.inl ⟨by rfl, ?_⟩) (by assumption) ?_
    · intro w hSw; (try dsimp only at hSw); go_simp
    (try show wpAnyH _ _ _ _ _ _ _ (Act.put _ (some 18) _) _); (try simp only [Act.put, List.setIfInBounds_toArray, List.set_cons_zero, List.set_cons_succ])
    refine wpAnyH_take (i := 12) (v := (.slice (some ⟨b, off, none⟩) n cap)) rfl (by kernel_rfl) (by kernel_rfl) (by kernel_rfl) (fun _ _ _ h => h) (Or.inl ⟨by rfl, ?_⟩) (by assumption) ?_
    · intro w hSw; (try dsimp only at hSw); go_simp
    (try show wpAnyH _ _ _ _ _ _ _ (Act.put _ (some 19) _) _); (try simp only [Act.put, List.setIfInBounds_toArray, List.set_cons_zero, List.set_cons_succ])
    refine wpAnyH_take (i := 13) (v := (.int .i64 (kk : Int))) rfl (by kernel_rfl) (by kernel_rfl) (by kernel_rfl) (fun _ _ _ h => h) (Or.inl ⟨by rfl, ?_⟩) (by assumption) ?_
    · intro w hSw; (try dsimp only at hSw); go_simp
    (try show wpAnyH _ _ _ _ _ _ _ (Act.put _ (some 20) _) _); (try simp only [Act.put, List.setIfInBounds_toArray, List.set_cons_zero, List.set_cons_succ])
    refine wpAnyH_take (i := 14) (v := (.pointer (some ⟨b, off + kk * 3, none⟩))) rfl (by kernel_rfl) (by kernel_rfl) (by kernel_rfl) (fun _ _ _ h => h) (Or.inl ⟨by rfl, ?_⟩) (by assumption) ?_
    · intro w hSw; (try dsimp only at hSw); go_simp
    (try show wpAnyH _ _ _ _ _ _ _ (Act.put _ (some 21) _) _); (try simp only [Act.put, List.setIfInBounds_toArray, List.set_cons_zero, List.set_cons_succ])
    refine wpAnyH_take (i := 15) (v := (.pointer (some ⟨b, off + kk * 3, none⟩))) rfl (by kernel_rfl) (by kernel_rfl) (by kernel_rfl) (fun _ _ _ h => h) (Or.inl ⟨by rfl, ?_⟩) (by assumption) ?_
    · intro w hSw; (try dsimp only at hSw); go_simp
    (try show wpAnyH _ _ _ _ _ _ _ (Act.put _ (some 22) _) _); (try simp only [Act.put, List.setIfInBounds_toArray, List.set_cons_zero, List.set_cons_succ])
    refine wpAnyH_take (i := 16) (v := (.int .i64 xw)) rfl (by kernel_rfl) (by kernel_rfl) (by kernel_rfl) (fun _ _ _ h => h) (Or.inl ⟨by rfl, ?_⟩) (by assumption) ?_
    · intro w hSw; (try dsimp only at hSw); go_simp
    (try show wpAnyH _ _ _ _ _ _ _ (Act.put _ (some 23) _) _); (try simp only [Act.put, List.setIfInBounds_toArray, List.set_cons_zero, List.set_cons_succ])
    refine wpAnyH_take (i := 17) (v := (.slice (some ⟨b, off, none⟩) n cap)) rfl (by kernel_rfl) (by kernel_rfl) (by kernel_rfl) (fun _ _ _ h => h) (Or.inl ⟨by rfl, ?_⟩) (by assumption) ?_
    · intro w hSw; (try dsimp only at hSw); go_simp
    (try show wpAnyH _ _ _ _ _ _ _ (Act.put _ (some 24) _) _); (try simp only [Act.put, List.setIfInBounds_toArray, List.set_cons_zero, List.set_cons_succ])
    refine wpAnyH_take (i := 18) (v := (.int .i64 (kk : Int))) rfl (by kernel_rfl) (by kernel_rfl) (by kernel_rfl) (fun _ _ _ h => h) (Or.inl ⟨by rfl, ?_⟩) (by assumption) ?_
    · intro w hSw; (try dsimp only at hSw); go_simp
    (try show wpAnyH _ _ _ _ _ _ _ (Act.put _ (some 25) _) _); (try simp only [Act.put, List.setIfInBounds_toArray, List.set_cons_zero, List.set_cons_succ])
    refine wpAnyH_take (i := 19) (v := (.int .i64 (k1 : Int))) rfl (by kernel_rfl) (by kernel_rfl) (by kernel_rfl) (fun _ _ _ h => h) (Or.inl ⟨by rfl, ?_⟩) (by assumption) ?_
    · intro w hSw; (try dsimp only at hSw); go_simp
    (try show wpAnyH _ _ _ _ _ _ _ (Act.put _ (some 26) _) _); (try simp only [Act.put, List.setIfInBounds_toArray, List.set_cons_zero, List.set_cons_succ])
    refine wpAnyH_take (i := 20) (v := (.pointer (some ⟨b, off + k1 * 3, none⟩))) rfl (by kernel_rfl) (by kernel_rfl) (by kernel_rfl) (fun _ _ _ h => h) (Or.inl ⟨by rfl, ?_⟩) (by assumption) ?_
    · intro w hSw; (try dsimp only at hSw); go_simp
    (try show wpAnyH _ _ _ _ _ _ _ (Act.put _ (some 27) _) _); (try simp only [Act.put, List.setIfInBounds_toArray, List.set_cons_zero, List.set_cons_succ])
    refine wpAnyH_take (i := 21) (v := (.pointer (some ⟨b, off + k1 * 3, none⟩))) rfl (by kernel_rfl) (by kernel_rfl) (by kernel_rfl) (fun _ _ _ h => h) (Or.inl ⟨by rfl, ?_⟩) (by assumption) ?_
    · intro w hSw; (try dsimp only at hSw); go_simp
    (try show wpAnyH _ _ _ _ _ _ _ (Act.put _ (some 28) _) _); (try simp only [Act.put, List.setIfInBounds_toArray, List.set_cons_zero, List.set_cons_succ])
    refine wpAnyH_take (i := 22) (v := (.int .i64 yw)) rfl (by kernel_rfl) (by kernel_rfl) (by kernel_rfl) (fun _ _ _ h => h) (Or.inl ⟨by rfl, ?_⟩) (by assumption) ?_
    · intro w hSw; (try dsimp only at hSw); go_simp
    (try show wpAnyH _ _ _ _ _ _ _ (Act.put _ (some 29) _) _); (try simp only [Act.put, List.setIfInBounds_toArray, List.set_cons_zero, List.set_cons_succ])
    refine wpAnyH_take (i := 23) (v := (.bool false)) rfl (by kernel_rfl) (by kernel_rfl) (by kernel_rfl) (fun _ _ _ h => h) (Or.inl ⟨by rfl, ?_⟩) (by assumption) ?_
    · intro w hSw; (try dsimp only at hSw); go_simp
    (try show wpAnyH _ _ _ _ _ _ _ (Act.put _ (some 30) _) _); (try simp only [Act.put, List.setIfInBounds_toArray, List.set_cons_zero, List.set_cons_succ])
    refine wpAnyH_take (i := 24) (v := (.bool false)) rfl (by kernel_rfl) (by kernel_rfl) (by kernel_rfl) (fun _ _ _ h => h) (Or.inl ⟨by rfl, ?_⟩) (by assumption) ?_
    · intro w hSw; (try dsimp only at hSw); go_simp
    (try show wpAnyH _ _ _ _ _ _ _ (Act.put _ (some 31) _) _); (try simp only [Act.put, List.setIfInBounds_toArray, List.set_cons_zero, List.set_cons_succ])
    refine wpAnyH_take (i := 25) (v := (.bool false)) rfl (by kernel_rfl) (by kernel_rfl) (by kernel_rfl) (fun _ _ _ h => h) (Or.inl ⟨by rfl, ?_⟩) (by assumption) ?_
    · intro w hSw; (try dsimp only at hSw); go_simp
    (try show wpAnyH _ _ _ _ _ _ _ (Act.put _ (some 32) _) _); (try simp only [Act.put, List.setIfInBounds_toArray, List.set_cons_zero, List.set_cons_succ])
    refine wpAnyH_take (i := 26) (v := (.slice (some ⟨b, off, none⟩) n cap)) rfl (by kernel_rfl) (by kernel_rfl) (by kernel_rfl) (fun _ _ _ h => h) (Or.inl ⟨by rfl, ?_⟩) (by assumption) ?_
    · intro w hSw; (try dsimp only at hSw); go_simp
    (try show wpAnyH _ _ _ _ _ _ _ (Act.put _ (some 33) _) _); (try simp only [Act.put, List.setIfInBounds_toArray, List.set_cons_zero, List.set_cons_succ])
    refine wpAnyH_take (i := 27) (v := (.int .i64 (kk : Int))) rfl (by kernel_rfl) (by kernel_rfl) (by kernel_rfl) (fun _ _ _ h => h) (Or.inl ⟨by rfl, ?_⟩) (by assumption) ?_
    · intro w hSw; (try dsimp only at hSw); go_simp
    (try show wpAnyH _ _ _ _ _ _ _ (Act.put _ (some 34) _) _); (try simp only [Act.put, List.setIfInBounds_toArray, List.set_cons_zero, List.set_cons_succ])
    refine wpAnyH_take (i := 28) (v := (.pointer (some ⟨b, off + kk * 3, none⟩))) rfl (by kernel_rfl) (by kernel_rfl) (by kernel_rfl) (fun _ _ _ h => h) (Or.inl ⟨by rfl, ?_⟩) (by assumption) ?_
    · intro w hSw; (try dsimp only at hSw); go_simp
    (try show wpAnyH _ _ _ _ _ _ _ (Act.put _ (some 35) _) _); (try simp only [Act.put, List.setIfInBounds_toArray, List.set_cons_zero, List.set_cons_succ])
    refine wpAnyH_take (i := 29) (v := (.agg #[.int .i64 xw, .int .i64 xi, .bool xb])) rfl (by kernel_rfl) (by kernel_rfl) (by kernel_rfl) (fun _ _ _ h => h) (Or.inl ⟨by rfl, ?_⟩) (by assumption) ?_
    · intro w hSw; (try dsimp only at hSw); go_simp
    (try show wpAnyH _ _ _ _ _ _ _ (Act.put _ (some 36) _) _); (try simp only [Act.put, List.setIfInBounds_toArray, List.set_cons_zero, List.set_cons_succ])
    refine wpAnyH_take (i := 30) (v := (.slice (some ⟨b, off, none⟩) n cap)) rfl (by kernel_rfl) (by kernel_rfl) (by kernel_rfl) (fun _ _ _ h => h) (Or.inl ⟨by rfl, ?_⟩) (by assumption) ?_
    · intro w hSw; (try dsimp only at hSw); go_simp
    (try show wpAnyH _ _ _ _ _ _ _ (Act.put _ (some 37) _) _); (try simp only [Act.put, List.setIfInBounds_toArray, List.set_cons_zero, List.set_cons_succ])
    refine wpAnyH_take (i := 31) (v := (.int .i64 (kk : Int))) rfl (by kernel_rfl) (by kernel_rfl) (by kernel_rfl) (fun _ _ _ h => h) (Or.inl ⟨by rfl, ?_⟩) (by assumption) ?_
    · intro w hSw; (try dsimp only at hSw); go_simp
    (try show wpAnyH _ _ _ _ _ _ _ (Act.put _ (some 38) _) _); (try simp only [Act.put, List.setIfInBounds_toArray, List.set_cons_zero, List.set_cons_succ])
    refine wpAnyH_take (i := 32) (v := (.int .i64 (k1 : Int))) rfl (by kernel_rfl) (by kernel_rfl) (by kernel_rfl) (fun _ _ _ h => h) (Or.inl ⟨by rfl, ?_⟩) (by assumption) ?_
    · intro w hSw; (try dsimp only at hSw); go_simp
    (try show wpAnyH _ _ _ _ _ _ _ (Act.put _ (some 39) _) _); (try simp only [Act.put, List.setIfInBounds_toArray, List.set_cons_zero, List.set_cons_succ])
    refine wpAnyH_take (i := 33) (v := (.pointer (some ⟨b, off + k1 * 3, none⟩))) rfl (by kernel_rfl) (by kernel_rfl) (by kernel_rfl) (fun _ _ _ h => h) (Or.inl ⟨by rfl, ?_⟩) (by assumption) ?_
    · intro w hSw; (try dsimp only at hSw); go_simp
    (try show wpAnyH _ _ _ _ _ _ _ (Act.put _ (some 40) _) _); (try simp only [Act.put, List.setIfInBounds_toArray, List.set_cons_zero, List.set_cons_succ])
    refine wpAnyH_take (i := 34) (v := (.agg #[.int .i64 yw, .int .i64 yi, .bool yb])) rfl (by kernel_rfl) (by kernel_rfl) (by kernel_rfl) (fun _ _ _ h => h) (Or.inl ⟨by rfl, ?_⟩) (by assumption) ?_
    · intro w hSw; (try dsimp only at hSw); go_simp
    (try show wpAnyH _ _ _ _ _ _ _ (Act.put _ (some 41) _) _); (try simp only [Act.put, List.setIfInBounds_toArray, List.set_cons_zero, List.set_cons_succ])
    refine wpAnyH_ready (rs := [35]) (by kernel_rfl) (by simp) ?_
    refine AllReadyH.cons rfl (fun K hK => ?_) AllReadyH.nil
    go_simp
    (refine (l7Clash xw xi xb yw yi yb _).mono ?_; rintro e w2 ⟨rfl, hb2⟩; have B2 : Hid (Below w.heap.size w w2) := Frame.next B1.out hb2 B1.out.size; clear hb2; rw [HCL.out])
    go_wp2_with fail
    refine hK.out _ _ ?_ (fun hHeld => ?_)
    · exact HC.out B2.out
    clear hK K
    (try show wpAnyH _ _ _ _ _ _ _ (Act.put _ (some 42) _) _); (try simp only [Act.put, List.setIfInBounds_toArray, List.set_cons_zero, List.set_cons_succ])
    refine wpAnyH_take (i := 36) (v := (.bool true)) rfl (by kernel_rfl) (by kernel_rfl) (by kernel_rfl) (fun _ _ _ h => h) (Or.inl ⟨by rfl, ?_⟩) (by assumption) ?_
    · intro w hSw; (try dsimp only at hSw); go_simp
    (try show wpAnyH _ _ _ _ _ _ _ (Act.put _ (some 43) _) _); (try simp only [Act.put, List.setIfInBounds_toArray, List.set_cons_zero, List.set_cons_succ])
    refine wpAnyH_done (by kernel_rfl) ?_ _
    go_wp2_with fail
    go_ret2
    exact ⟨_, rfl, by rw [E.out]; exact xOwn_nil _ _ _, B2.out⟩
  have EB2 : swapB xs (kk : Int) = true := by rw [EB1, hc]; rfl
  have E : Hid (swapV xs (kk : Int) = swapN xs kk) := HV.out EB2
  have HCL : Hid (clashB (xw, xi, xb) (yw, yi, yb) = false) := hc
  rw [EB2]
  clear EB EB1 EB2 hc
  go_enter Try.func27, Try.ntmps27
  go_wp2_with fail
  refine wp_region_held_drew (S := fun w' => w'.cell? ⟨b, off + kk * 3, none⟩ = some (.int .i64 xw) ∧ w'.cell? ⟨b, off + kk * 3 + 1, none⟩ = some (.int .i64 xi) ∧ w'.cell? ⟨b, off + kk * 3 + 2, none⟩ = some (.bool xb) ∧ w'.cell? ⟨b, off + k1 * 3, none⟩ = some (.int .i64 yw) ∧ w'.cell? ⟨b, off + k1 * 3 + 1, none⟩ = some (.int .i64 yi) ∧ w'.cell? ⟨b, off + k1 * 3 + 2, none⟩ = some (.bool yb)) (by kernel_rfl) ?_ (fun hHeld => ?_)
  · exact HC.out ((Below.refl _ _).drew : Below w.heap.size w w.drew)
  refine wpAnyH_take (i := 0) (v := (.slice (some ⟨b, off, none⟩) n cap)) rfl (by kernel_rfl) (by kernel_rfl) (by kernel_rfl) (fun _ _ _ h => h) (Or.inl ⟨by rfl, ?_⟩) (by assumption) ?_
  · intro w hSw; (try dsimp only at hSw); go_simp
  (try show wpAnyH _ _ _ _ _ _ _ (Act.put _ (some 7) _) _); (try simp only [Act.put, List.setIfInBounds_toArray, List.set_cons_zero, List.set_cons_succ])
  refine wpAnyH_ready (rs := [1]) (by kernel_rfl) (by simp) ?_
  refine AllReadyH.cons rfl (fun K hK => ?_) AllReadyH.nil
  go_simp
  (refine (spec_GoodPlay (some ⟨b, off, none⟩) n cap xs _ (HI.out.below ((Below.refl _ _).drew : Below w.heap.size w w.drew))).mono ?_; rintro e w1 ⟨rfl, hb1⟩; have B1 : Hid (Below w.heap.size w w1) := Frame.next ((Below.refl _ _).drew : Below w.heap.size w w.drew) hb1 ((Below.refl _ _).drew : Below w.heap.size w w.drew).size; clear hb1; rw [HG.out])
  go_wp2_with fail
  refine hK.out _ _ ?_ (fun hHeld => ?_)
  · exact HC.out B1.out
  clear hK K
  (try show wpAnyH _ _ _ _ _ _ _ (Act.put _ (some 8) _) _); (try simp only [Act.put, List.setIfInBounds_toArray, List.set_cons_zero, List.set_cons_succ])
  refine wpAnyH_take (i := 2) (v := (.bool false)) rfl (by kernel_rfl) (by kernel_rfl) (by kernel_rfl) (fun _ _ _ h => h) (Or.inl ⟨by rfl, ?_⟩) (by assumption) ?_
  · intro w hSw; (try dsimp only at hSw); go_simp
  (try show wpAnyH _ _ _ _ _ _ _ (Act.put _ (some 9) _) _); (try simp only [Act.put, List.setIfInBounds_toArray, List.set_cons_zero, List.set_cons_succ])
  refine wpAnyH_take (i := 3) (v := (.bool false)) rfl (by kernel_rfl) (by kernel_rfl) (by kernel_rfl) (fun _ _ _ h => h) (Or.inl ⟨by rfl, ?_⟩) (by assumption) ?_
  · intro w hSw; (try dsimp only at hSw); go_simp
  (try show wpAnyH _ _ _ _ _ _ _ (Act.put _ (some 10) _) _); (try simp only [Act.put, List.setIfInBounds_toArray, List.set_cons_zero, List.set_cons_succ])
  refine wpAnyH_take (i := 4) (v := (.int .i64 (kk : Int))) rfl (by kernel_rfl) (by kernel_rfl) (by kernel_rfl) (fun _ _ _ h => h) (Or.inl ⟨by rfl, ?_⟩) (by assumption) ?_
  · intro w hSw; (try dsimp only at hSw); go_simp
  (try show wpAnyH _ _ _ _ _ _ _ (Act.put _ (some 11) _) _); (try simp only [Act.put, List.setIfInBounds_toArray, List.set_cons_zero, List.set_cons_succ])
  refine wpAnyH_take (i := 5) (v := (.slice (some ⟨b, off, none⟩) n cap)) rfl (by kernel_rfl) (by kernel_rfl) (by kernel_rfl) (fun _ _ _ h => h) (Or.inl ⟨by rfl, ?_⟩) (by assumption) ?_
  · intro w hSw; (try dsimp only at hSw); go_simp
  (try show wpAnyH _ _ _ _ _ _ _ (Act.put _ (some 12) _) _); (try simp only [Act.put, List.setIfInBounds_toArray, List.set_cons_zero, List.set_cons_succ])
  refine wpAnyH_ready (rs := [6]) (by kernel_rfl) (by simp) ?_
  refine AllReadyH.cons rfl (fun K hK => ?_) AllReadyH.nil
  go_simp
  refine hK.out _ _ ?_ (fun hHeld => ?_)
  · assumption
  clear hK K
  (try show wpAnyH _ _ _ _ _ _ _ (Act.put _ (some 13) _) _); (try simp only [Act.put, List.setIfInBounds_toArray, List.set_cons_zero, List.set_cons_succ])
  refine wpAnyH_take (i := 7) (v := (.int .i64 ((n : Int) - 2))) rfl (by kernel_rfl) (by kernel_rfl) (by kernel_rfl) (fun _ _ _ h => h) (Or.inl ⟨by rfl, ?_⟩) (by assumption) ?_
  · intro w hSw; (try dsimp only at hSw); go_simp
  (try show wpAnyH _ _ _ _ _ _ _ (Act.put _ (some 14) _) _); (try simp only [Act.put, List.setIfInBounds_toArray, List.set_cons_zero, List.set_cons_succ])
  refine wpAnyH_ready (rs := [8]) (by kernel_rfl) (by simp) ?_
  refine AllReadyH.cons rfl (fun K hK => ?_) AllReadyH.nil
  go_simp
  (refine (spec_In _ _ _ _).mono ?_; rintro e w' ⟨rfl, hw'⟩; have hw'' := hw'.symm; clear hw'; subst hw''; rw [HIN.out])
  go_wp2_with fail
  refine hK.out _ _ ?_ (fun hHeld => ?_)
  · exact HC.out B1.out
  clear hK K
  (try show wpAnyH _ _ _ _ _ _ _ (Act.put _ (some 15) _) _); (try simp only [Act.put, List.setIfInBounds_toArray, List.set_cons_zero, List.set_cons_succ])
  refine wpAnyH_take (i := 9) (v := (.bool false)) rfl (by kernel_rfl) (by kernel_rfl) (by kernel_rfl) (fun _ _ _ h => h) (Or.inl ⟨by rfl, ?_⟩) (by assumption) ?_
  · intro w hSw; (try dsimp only at hSw); go_simp
  (try show wpAnyH _ _ _ _ _ _ _ (Act.put _ (some 16) _) _); (try simp only [Act.put, List.setIfInBounds_toArray, List.set_cons_zero, List.set_cons_succ])
  refine wpAnyH_take (i := 10) (v := (.bool false)) rfl (by kernel_rfl) (by kernel_rfl) (by kernel_rfl) (fun _ _ _ h => h) (Or.inl ⟨by rfl, ?_⟩) (by assumption) ?_
  · intro w hSw; (try dsimp only at hSw); go_simp
  (try show wpAnyH _ _ _ _ _ _ _ (Act.put _ (some 17) _) _); (try simp only [Act.put, List.setIfInBounds_toArray, List.set_cons_zero, List.set_cons_succ])
  refine wpAnyH_take (i := 11) (v := (.bool false)) rfl (by kernel_rfl) (by kernel_rfl) (by kernel_rfl) (fun _ _ _ h => h) (Or.inl ⟨by rfl, ?_⟩) (by assumption) ?_
  · intro w hSw; (try dsimp only at hSw); go_simp
  (try show wpAnyH _ _ _ _ _ _ _ (Act.put _ (some 18) _) _); (try simp only [Act.put, List.setIfInBounds_toArray, List.set_cons_zero, List.set_cons_succ])
  refine wpAnyH_take (i := 12) (v := (.slice (some ⟨b, off, none⟩) n cap)) rfl (by kernel_rfl) (by kernel_rfl) (by kernel_rfl) (fun _ _ _ h => h) (Or.inl ⟨by rfl, ?_⟩) (by assumption) ?_
  · intro w hSw; (try dsimp only at hSw); go_simp
  (try show wpAnyH _ _ _ _ _ _ _ (Act.put _ (some 19) _) _); (try simp only [Act.put, List.setIfInBounds_toArray, List.set_cons_zero, List.set_cons_succ])
  refine wpAnyH_take (i := 13) (v := (.int .i64 (kk : Int))) rfl (by kernel_rfl) (by kernel_rfl) (by kernel_rfl) (fun _ _ _ h => h) (Or.inl ⟨by rfl, ?_⟩) (by assumption) ?_
  · intro w hSw; (try dsimp only at hSw); go_simp
  (try show wpAnyH _ _ _ _ _ _ _ (Act.put _ (some 20) _) _); (try simp only [Act.put, List.setIfInBounds_toArray, List.set_cons_zero, List.set_cons_succ])
  refine wpAnyH_take (i := 14) (v := (.pointer (some ⟨b, off + kk * 3, none⟩))) rfl (by kernel_rfl) (by kernel_rfl) (by kernel_rfl) (fun _ _ _ h => h) (Or.inl ⟨by rfl, ?_⟩) (by assumption) ?_
  · intro w hSw; (try dsimp only at hSw); go_simp
  (try show wpAnyH _ _ _ _ _ _ _ (Act.put _ (some 21) _) _); (try simp only [Act.put, List.setIfInBounds_toArray, List.set_cons_zero, List.set_cons_succ])
  refine wpAnyH_take (i := 15) (v := (.pointer (some ⟨b, off + kk * 3, none⟩))) rfl (by kernel_rfl) (by kernel_rfl) (by kernel_rfl) (fun _ _ _ h => h) (Or.inl ⟨by rfl, ?_⟩) (by assumption) ?_
  · intro w hSw; (try dsimp only at hSw); go_simp
  (try show wpAnyH _ _ _ _ _ _ _ (Act.put _ (some 22) _) _); (try simp only [Act.put, List.setIfInBounds_toArray, List.set_cons_zero, List.set_cons_succ])
  refine wpAnyH_take (i := 16) (v := (.int .i64 xw)) rfl (by kernel_rfl) (by kernel_rfl) (by kernel_rfl) (fun _ _ _ h => h) (Or.inl ⟨by rfl, ?_⟩) (by assumption) ?_
  · intro w hSw; (try dsimp only at hSw); go_simp
  (try show wpAnyH _ _ _ _ _ _ _ (Act.put _ (some 23) _) _); (try simp only [Act.put, List.setIfInBounds_toArray, List.set_cons_zero, List.set_cons_succ])
  refine wpAnyH_take (i := 17) (v := (.slice (some ⟨b, off, none⟩) n cap)) rfl (by kernel_rfl) (by kernel_rfl) (by kernel_rfl) (fun _ _ _ h => h) (Or.inl ⟨by rfl, ?_⟩) (by assumption) ?_
  · intro w hSw; (try dsimp only at hSw); go_simp
  (try show wpAnyH _ _ _ _ _ _ _ (Act.put _ (some 24) _) _); (try simp only [Act.put, List.setIfInBounds_toArray, List.set_cons_zero, List.set_cons_succ])
  refine wpAnyH_take (i := 18) (v := (.int .i64 (kk : Int))) rfl (by kernel_rfl) (by kernel_rfl) (by kernel_rfl) (fun _ _ _ h => h) (Or.inl ⟨by rfl, ?_⟩) (by assumption) ?_
  · intro w hSw; (try dsimp only at hSw); go_simp
  (try show wpAnyH _ _ _ _ _ _ _ (Act.put _ (some 25) _) _); (try simp only [Act.put, List.setIfInBounds_toArray, List.set_cons_zero, List.set_cons_succ])
  refine wpAnyH_take (i := 19) (v := (.int .i64 (k1 : Int))) rfl (by kernel_rfl) (by kernel_rfl) (by kernel_rfl) (fun _ _ _ h => h) (Or.inl ⟨by rfl, ?_⟩) (by assumption) ?_
  · intro w hSw; (try dsimp only at hSw); go_simp
  (try show wpAnyH _ _ _ _ _ _ _ (Act.put _ (some 26) _) _); (try simp only [Act.put, List.setIfInBounds_toArray, List.set_cons_zero, List.set_cons_succ])
  refine wpAnyH_take (i := 20) (v := (.pointer (some ⟨b, off + k1 * 3, none⟩))) rfl (by kernel_rfl) (by kernel_rfl) (by kernel_rfl) (fun _ _ _ h => h) (Or.inl ⟨by rfl, ?_⟩) (by assumption) ?_
  · intro w hSw; (try dsimp only at hSw); go_simp
  (try show wpAnyH _ _ _ _ _ _ _ (Act.put _ (some 27) _) _); (try simp only [Act.put, List.setIfInBounds_toArray, List.set_cons_zero, List.set_cons_succ])
  refine wpAnyH_take (i := 21) (v := (.pointer (some ⟨b, off + k1 * 3, none⟩))) rfl (by kernel_rfl) (by kernel_rfl) (by kernel_rfl) (fun _ _ _ h => h) (Or.inl ⟨by rfl, ?_⟩) (by assumption) ?_
  · intro w hSw; (try dsimp only at hSw); go_simp
  (try show wpAnyH _ _ _ _ _ _ _ (Act.put _ (some 28) _) _); (try simp only [Act.put, List.setIfInBounds_toArray, List.set_cons_zero, List.set_cons_succ])
  refine wpAnyH_take (i := 22) (v := (.int .i64 yw)) rfl (by kernel_rfl) (by kernel_rfl) (by kernel_rfl) (fun _ _ _ h => h) (Or.inl ⟨by rfl, ?_⟩) (by assumption) ?_
  · intro w hSw; (try dsimp only at hSw); go_simp
  (try show wpAnyH _ _ _ _ _ _ _ (Act.put _ (some 29) _) _); (try simp only [Act.put, List.setIfInBounds_toArray, List.set_cons_zero, List.set_cons_succ])
  refine wpAnyH_take (i := 23) (v := (.bool false)) rfl (by kernel_rfl) (by kernel_rfl) (by kernel_rfl) (fun _ _ _ h => h) (Or.inl ⟨by rfl, ?_⟩) (by assumption) ?_
  · intro w hSw; (try dsimp only at hSw); go_simp
  (try show wpAnyH _ _ _ _ _ _ _ (Act.put _ (some 30) _) _); (try simp only [Act.put, List.setIfInBounds_toArray, List.set_cons_zero, List.set_cons_succ])
  refine wpAnyH_take (i := 24) (v := (.bool false)) rfl (by kernel_rfl) (by kernel_rfl) (by kernel_rfl) (fun _ _ _ h => h) (Or.inl ⟨by rfl, ?_⟩) (by assumption) ?_
  · intro w hSw; (try dsimp only at hSw); go_simp
  (try show wpAnyH _ _ _ _ _ _ _ (Act.put _ (some 31) _) _); (try simp only [Act.put, List.setIfInBounds_toArray, List.set_cons_zero, List.set_cons_succ])
  refine wpAnyH_take (i := 25) (v := (.bool false)) rfl (by kernel_rfl) (by kernel_rfl) (by kernel_rfl) (fun _ _ _ h => h) (Or.inl ⟨by rfl, ?_⟩) (by assumption) ?_
  · intro w hSw; (try dsimp only at hSw); go_simp
  (try show wpAnyH _ _ _ _ _ _ _ (Act.put _ (some 32) _) _); (try simp only [Act.put, List.setIfInBounds_toArray, List.set_cons_zero, List.set_cons_succ])
  refine wpAnyH_take (i := 26) (v := (.slice (some ⟨b, off, none⟩) n cap)) rfl (by kernel_rfl) (by kernel_rfl) (by kernel_rfl) (fun _ _ _ h => h) (Or.inl ⟨by rfl, ?_⟩) (by assumption) ?_
  · intro w hSw; (try dsimp only at hSw); go_simp
  (try show wpAnyH _ _ _ _ _ _ _ (Act.put _ (some 33) _) _); (try simp only [Act.put, List.setIfInBounds_toArray, List.set_cons_zero, List.set_cons_succ])
  refine wpAnyH_take (i := 27) (v := (.int .i64 (kk : Int))) rfl (by kernel_rfl) (by kernel_rfl) (by kernel_rfl) (fun _ _ _ h => h) (Or.inl ⟨by rfl, ?_⟩) (by assumption) ?_
  · intro w hSw; (try dsimp only at hSw); go_simp
  (try show wpAnyH _ _ _ _ _ _ _ (Act.put _ (some 34) _) _); (try simp only [Act.put, List.setIfInBounds_toArray, List.set_cons_zero, List.set_cons_succ])
  refine wpAnyH_take (i := 28) (v := (.pointer (some ⟨b, off + kk * 3, none⟩))) rfl (by kernel_rfl) (by kernel_rfl) (by kernel_rfl) (fun _ _ _ h => h) (Or.inl ⟨by rfl, ?_⟩) (by assumption) ?_
  · intro w hSw; (try dsimp only at hSw); go_simp
  (try show wpAnyH _ _ _ _ _ _ _ (Act.put _ (some 35) _) _); (try simp only [Act.put, List.setIfInBounds_toArray, List.set_cons_zero, List.set_cons_succ])
  refine wpAnyH_take (i := 29) (v := (.agg #[.int .i64 xw, .int .i64 xi, .bool xb])) rfl (by kernel_rfl) (by kernel_rfl) (by kernel_rfl) (fun _ _ _ h => h) (Or.inl ⟨by rfl, ?_⟩) (by assumption) ?_
  · intro w hSw; (try dsimp only at hSw); go_simp
  (try show wpAnyH _ _ _ _ _ _ _ (Act.put _ (some 36) _) _); (try simp only [Act.put, List.setIfInBounds_toArray, List.set_cons_zero, List.set_cons_succ])
  refine wpAnyH_take (i := 30) (v := (.slice (some ⟨b, off, none⟩) n cap)) rfl (by kernel_rfl) (by kernel_rfl) (by kernel_rfl) (fun _ _ _ h => h) (Or.inl ⟨by rfl, ?_⟩) (by assumption) ?_
  · intro w hSw; (try dsimp only at hSw); go_simp
  (try show wpAnyH _ _ _ _ _ _ _ (Act.put _ (some 37) _) _); (try simp only [Act.put, List.setIfInBounds_toArray, List.set_cons_zero, List.set_cons_succ])
  refine wpAnyH_take (i := 31) (v := (.int .i64 (kk : Int))) rfl (by kernel_rfl) (by kernel_rfl) (by kernel_rfl) (fun _ _ _ h => h) (Or.inl ⟨by rfl, ?_⟩) (by assumption) ?_
  · intro w hSw; (try dsimp only at hSw); go_simp
  (try show wpAnyH _ _ _ _ _ _ _ (Act.put _ (some 38) _) _); (try simp only [Act.put, List.setIfInBounds_toArray, List.set_cons_zero, List.set_cons_succ])
  refine wpAnyH_take (i := 32) (v := (.int .i64 (k1 : Int))) rfl (by kernel_rfl) (by kernel_rfl) (by kernel_rfl) (fun _ _ _ h => h) (Or.inl ⟨by rfl, ?_⟩) (by assumption) ?_
  · intro w hSw; (try dsimp only at hSw); go_simp
  (try show wpAnyH _ _ _ _ _ _ _ (Act.put _ (some 39) _) _); (try simp only [Act.put, List.setIfInBounds_toArray, List.set_cons_zero, List.set_cons_succ])
  refine wpAnyH_take (i := 33) (v := (.pointer (some ⟨b, off + k1 * 3, none⟩))) rfl (by kernel_rfl) (by kernel_rfl) (by kernel_rfl) (fun _ _ _ h => h) (Or.inl ⟨by rfl, ?_⟩) (by assumption) ?_
  · intro w hSw; (try dsimp only at hSw); go_simp
  (try show wpAnyH _ _ _ _ _ _ _ (Act.put _ (some 40) _) _); (try simp only [Act.put, List.setIfInBounds_toArray, List.set_cons_zero, List.set_cons_succ])
  refine wpAnyH_take (i := 34) (v := (.agg #[.int .i64 yw, .int .i64 yi, .bool yb])) rfl (by kernel_rfl) (by kernel_rfl) (by kernel_rfl) (fun _ _ _ h => h) (Or.inl ⟨by rfl, ?_⟩) (by assumption) ?_
  · intro w hSw; (try dsimp only at hSw); go_simp
  (try show wpAnyH _ _ _ _ _ _ _ (Act.put _ (some 41) _) _); (try simp only [Act.put, List.setIfInBounds_toArray, List.set_cons_zero, List.set_cons_succ])
  refine wpAnyH_ready (rs := [35]) (by kernel_rfl) (by simp) ?_
  refine AllReadyH.cons rfl (fun K hK => ?_) AllReadyH.nil
  go_simp
  (refine (l7Clash xw xi xb yw yi yb _).mono ?_; rintro e w2 ⟨rfl, hb2⟩; have B2 : Hid (Below w.heap.size w w2) := Frame.next B1.out hb2 B1.out.size; clear hb2; rw [HCL.out])
  go_wp2_with fail
  refine hK.out _ _ ?_ (fun hHeld => ?_)
  · exact HC.out B2.out
  clear hK K
  (try show wpAnyH _ _ _ _ _ _ _ (Act.put _ (some 42) _) _); (try simp only [Act.put, List.setIfInBounds_toArray, List.set_cons_zero, List.set_cons_succ])
  refine wpAnyH_take (i := 36) (v := (.bool false)) rfl (by kernel_rfl) (by kernel_rfl) (by kernel_rfl) (fun _ _ _ h => h) (Or.inl ⟨by rfl, ?_⟩) (by assumption) ?_
  · intro w hSw; (try dsimp only at hSw); go_simp
  (try show wpAnyH _ _ _ _ _ _ _ (Act.put _ (some 43) _) _); (try simp only [Act.put, List.setIfInBounds_toArray, List.set_cons_zero, List.set_cons_succ])
  refine wpAnyH_done (by kernel_rfl) ?_ _

  have OZ : Hid ((w2.alloc (.cells #[] 59)).ownsRow w.heap.size 59 3 (.slice (some ⟨w2.heap.size, 0, none⟩) 0 0) 0 []) := own_zero _ _ _ _ _ rfl B2.out.size
  have BZ : Hid (Below w.heap.size w (w2.alloc (.cells #[] 59))) := B2.out.alloc B2.out.size _
  have HSRC : Hid (0 < n → ∃ ad, (some ⟨b, off, none⟩ : Option Addr) = some ad ∧ ∀ j v, (cells xs)[j]? = some v → (w2.alloc (.cells #[] 59)).cell? (ad.add j) = some v) := FAct.news_x (HI.out.below BZ.out)
  have HCL2 : Hid ((cells xs).length = n * 3) := by show _ = _; rw [cells_length, HL.out]
  go_wp2_with (at_builtin; refine App.wpList_append_all _ rfl _ _ 23 rfl w.heap.size 59 i0 (.agg #[.int .i64 0, .int .i64 0, .bool false]) 3 24 Try.underlying23 hi hz0 hz1 hz2 rfl (by decide) _ _ _ rfl OZ.out _ n _ (cells xs) rfl HCL2.out HSRC.out (one_cells _) (by unfold maxLen; omega) (by omega) BZ.out.size ?_)
  intro a4 c4 w4 hown4 hgrow4
  have B4 : Hid (Below w.heap.size w w4) := below_app BZ.out OZ.out hgrow4 BZ.out.size (Nat.le_refl _)
  have O4a : Hid (w4.ownsRow w.heap.size 59 3 (.slice a4 n c4) n (cells xs)) := by show World.ownsRow _ _ _ _ _ _ _; simpa using hown4
  clear hown4 hgrow4
  have hltk1 : k1 < n := by rw [HK1.out]; exact hlt
  obtain ⟨g, rfl⟩ : ∃ g, a4 = some ⟨g, 0, none⟩ := by
    rcases O4a.out.2 with ⟨h2, _⟩ | ⟨g, cap', cur, hv, _⟩
    · simp at h2; omega
    · simp only [Value.slice.injEq] at hv
      exact ⟨g, hv.1⟩
  have hgb : w.heap.size ≤ g := act_own O4a.out
  have P1 : Hid ((((w4.setCell ⟨g, kk * 3, none⟩ (.int .i64 yw)).setCell ⟨g, kk * 3 + 1, none⟩ (.int .i64 yi)).setCell ⟨g, kk * 3 + 2, none⟩ (.bool yb)).ownsRow w.heap.size 59 3 (.slice (some ⟨g, 0, none⟩) n c4) n (cells (xs.set kk (yw, yi, yb)))) := put_act O4a.out hltk yw yi yb
  have P3 : Hid (((((((w4.setCell ⟨g, kk * 3, none⟩ (.int .i64 yw)).setCell ⟨g, kk * 3 + 1, none⟩ (.int .i64 yi)).setCell ⟨g, kk * 3 + 2, none⟩ (.bool yb)).setCell ⟨g, k1 * 3, none⟩ (.int .i64 xw)).setCell ⟨g, k1 * 3 + 1, none⟩ (.int .i64 xi)).setCell ⟨g, k1 * 3 + 2, none⟩ (.bool xb)).ownsRow w.heap.size 59 3 (.slice (some ⟨g, 0, none⟩) n c4) n (cells ((xs.set kk (yw, yi, yb)).set k1 (xw, xi, xb)))) := put_act P1.out hltk1 xw xi xb
  have Q1 : Hid (Below w.heap.size w (((w4.setCell ⟨g, kk * 3, none⟩ (.int .i64 yw)).setCell ⟨g, kk * 3 + 1, none⟩ (.int .i64 yi)).setCell ⟨g, kk * 3 + 2, none⟩ (.bool yb))) := below_put B4.out hgb _ _ _ _ _ _
  have Q3 : Hid (Below w.heap.size w ((((((w4.setCell ⟨g, kk * 3, none⟩ (.int .i64 yw)).setCell ⟨g, kk * 3 + 1, none⟩ (.int .i64 yi)).setCell ⟨g, kk * 3 + 2, none⟩ (.bool yb)).setCell ⟨g, k1 * 3, none⟩ (.int .i64 xw)).setCell ⟨g, k1 * 3 + 1, none⟩ (.int .i64 xi)).setCell ⟨g, k1 * 3 + 2, none⟩ (.bool xb))) := below_put Q1.out hgb _ _ _ _ _ _
  obtain ⟨⟨_, a00⟩, ⟨_, a01⟩, ⟨_, a02⟩⟩ := act_old O4a.out hltk
  have f00 := O4a.out.frozenAt (kk * 3)
  have f01 := O4a.out.frozenAt (kk * 3 + 1)
  have f02 := O4a.out.frozenAt (kk * 3 + 2)
  obtain ⟨⟨_, a10⟩, ⟨_, a11⟩, ⟨_, a12⟩⟩ := act_old P1.out hltk1
  have f10 := P1.out.frozenAt (k1 * 3)
  have f11 := P1.out.frozenAt (k1 * 3 + 1)
  have f12 := P1.out.frozenAt (k1 * 3 + 2)
  obtain ⟨p0, p1, p2, q0, q1, q2⟩ := HC.out B4.out
  obtain ⟨r0, r1, r2, _, _, _⟩ := HC.out Q1.out
  go_wp2_with fail
  go_ret2
  exact ⟨_, rfl, by rw [E.out, HSW.out]; exact xOwn_of P3.out (by rw [← HSW.out]; exact HOK.out) (by omega), Q3.out⟩


end Go.Proofs.Yteihgbiifcgipaa.Psw
