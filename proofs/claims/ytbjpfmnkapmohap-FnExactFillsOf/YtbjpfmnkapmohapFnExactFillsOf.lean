/-
  Proved: at every value and every slice of integers the law FnExactFillsOf returns true, and its arguments read afterwards as they did.
-/
import Derived.Test.YtbjpfmnkapmohapFrame
import Derived.Test.YtbjpfmnkapmohapFill
namespace Go.Proofs.Ytbjpfmnkapmohap.fnExactFillsOf
open Go.ChangeShapes Go.WideShapes Go.ChangeAt Go.RowKit

theorem own : ownKnob Try.prog.godebug = none := by kernel_rfl
theorem laidOut : laidOutB Try.prog = true := by kernel_rfl

theorem fill_wf (b : Bool) (n : Int) (zs : List Int) (hn : (Lit.int .i64 n).wf = true) (hz : ∀ z ∈ zs, (Lit.int .i64 z).wf = true) : ∀ z ∈ Fill.fillV b n zs, (Lit.int .i64 z).wf = true := by
  intro z h
  unfold Fill.fillV at h
  split at h
  · unfold Fill.fillX at h
    split at h
    · exact hz z h
    · simp at h
      rw [← h.2]
      exact hn
  · cases h

set_option maxHeartbeats 1600000 in
theorem walk (b : Bool) (n : Int) (a : Option Addr) (m cap : Nat) (zs : List Int) (w : World) (hn : (Lit.int .i64 n).wf = true) (h : Frame.IsRow .i64 w a m cap zs) :
    Calls Try.prog 4 #[.agg #[.bool b, .int .i64 n], .slice a m cap] w fun e w' => e = .returned (.bool true) ∧ Below w.heap.size w w' := by
  have hmx := h.max
  have hft := h.fits
  unfold maxLen at hmx
  have HR : Hid (Frame.IsRow .i64 w a m cap zs) := h
  have HW : Hid (∀ z ∈ zs, (Lit.int .i64 z).wf = true) := h.wf
  have HFW : Hid (∀ z ∈ Fill.fillV b n zs, (Lit.int .i64 z).wf = true) := fill_wf b n zs hn h.wf
  have HFL : (Fill.fillV b n zs).length ≤ m := by
    have := h.len
    unfold Fill.fillV
    split
    · rw [Fill.fillX_length]; omega
    · simp
  have b0 := (Below.refl w.heap.size w).alloc (Nat.le_refl _) (.cells #[.bool b, .int .i64 n] 23)
  clear h
  by_cases hm : m ≤ 1048576
  · go_enter Try.func4, Try.ntmps4
    go_wp2_with fail
    refine (Val.toValue _ _ _).mono ?_
    rintro e w1 ⟨rfl, hb1⟩
    have B1 : Hid (Below w.heap.size w w1) := Frame.next b0 hb1 (by simp)
    have s1 : w.heap.size + 1 ≤ w1.heap.size := by simpa using hb1.size
    have D0 : Hid (w1.cell? ⟨w.heap.size, 0, none⟩ = some (.bool b)) := by show _ = _; rw [(Frame.bcell hb1).1 _ _ (by simp)]; simp
    have D1 : Hid (w1.cell? ⟨w.heap.size, 1, none⟩ = some (.int .i64 n)) := by show _ = _; rw [(Frame.bcell hb1).1 _ _ (by simp)]; simp
    clear b0 hb1
    go_wp2_with fail
    refine (Ints.toIntS _ _ _ _ _ (Mem.IsRow.below HR.out B1.out) hm).mono ?_
    rintro e w2 ⟨rfl, ho2, hb2⟩
    obtain ⟨a2, c2, e2, hr2⟩ := Mem.isRow_own ho2 HW.out
    cases e2
    have HR2 : Hid _ := hr2
    have B2 : Hid (Below w1.heap.size w1 w2) := hb2
    clear ho2 hr2 hb2
    go_wp2_with fail
    refine (Fill.spec_FillsOf _ _ _ _ _ _ _ HR2.out hm).mono ?_
    rintro e w3 ⟨a3, c3, rfl, ho3, hb3⟩
    -- what the model told: a3
    have O3 : Hid _ := ho3
    have B3 : Hid (Below w1.heap.size w1 w3) := Frame.next B2.out hb3 B2.out.size
    clear ho3 hb3
    go_wp2_with fail
    refine (Ints.toIntS _ _ _ _ _ (Mem.IsRow.below HR.out (Frame.next B1.out B3.out B1.out.size)) hm).mono ?_
    rintro e w4 ⟨rfl, ho4, hb4⟩
    -- the list that is handed in: x1, its block is w3.heap.size
    have O4 : Hid _ := ho4
    have B4 : Hid (Below w1.heap.size w1 w4) := Frame.next B3.out hb4 B3.out.size
    have O3a : Hid _ := Mem.own_below O3.out hb4
    have hs34 := hb4.size
    clear ho4 hb4
    have q0 : w4.cell? ⟨w.heap.size, 0, none⟩ = some (.bool b) := by rw [B4.out.cell (p := ⟨w.heap.size, 0, none⟩) (by show w.heap.size < _; omega)]; exact D0.out
    have q1 : w4.cell? ⟨w.heap.size, 1, none⟩ = some (.int .i64 n) := by rw [B4.out.cell (p := ⟨w.heap.size, 1, none⟩) (by show w.heap.size < _; omega)]; exact D1.out
    go_wp2_with fail
    refine (Val.toValue _ _ _).mono ?_
    rintro e w5 ⟨rfl, hb5⟩
    have O4b : Hid _ := Mem.own_below O4.out hb5
    have O3b : Hid _ := Mem.own_below O3a.out hb5
    have B5 : Hid (Below w1.heap.size w1 w5) := Frame.next B4.out hb5 B4.out.size
    have hs45 := hb5.size
    clear q0 q1 hb5
    obtain ⟨a4, c4, e4, hr4⟩ := Mem.isRow_own O4b.out HW.out
    cases e4
    have HR4 : Hid _ := hr4
    clear hr4
    go_wp2_with fail
    refine (Fill.impl_FillsOf _ _ _ _ _ _ _ HR4.out hm).mono ?_
    rintro e w6 ⟨a6, c6, rfl, ho6, hb6⟩
    -- what the program answered: a6
    have O6 : Hid _ := ho6
    have O4c : Hid _ := Mem.own_below O4b.out hb6
    have O3c : Hid _ := Mem.own_below O3b.out hb6
    have B6 : Hid (Below w1.heap.size w1 w6) := Frame.next B5.out hb6 B5.out.size
    clear ho6 hb6
    obtain ⟨_, _, e6, hr6⟩ := Mem.isRow_own O6.out HFW.out
    cases e6
    obtain ⟨_, _, e3, hr3⟩ := Mem.isRow_own O3c.out HFW.out
    cases e3
    have HR6 : Hid _ := hr6
    have HR3 : Hid _ := hr3
    clear hr6 hr3
    go_wp2_with fail
    refine (Ints.eqIntS _ _ _ _ _ _ _ _ _ HR6.out HR3.out (by omega) (by omega)).mono ?_
    rintro e w7 ⟨rfl, hb7⟩
    rw [decide_eq_true (Eq.refl (Fill.fillV b n zs))]
    have P3 : Hid (∀ x, a3 = some x → x.block < w3.heap.size) := fun x hx => (Mem.own_block O3.out x hx).2
    have P6 : Hid (∀ x, a6 = some x → w5.heap.size ≤ x.block) := fun x hx => (Mem.own_block O6.out x hx).1
    have P4 : w3.heap.size < w4.heap.size := (Mem.own_block O4.out _ rfl).2
    have hs13 := B3.out.size
    have O6d : Hid _ := Mem.own_below O6.out hb7
    have O4d : Hid _ := Mem.own_below O4c.out hb7
    have O3d : Hid _ := Mem.own_below O3c.out hb7
    have B7 : Hid (Below w1.heap.size w1 w7) := Frame.next B6.out hb7 B6.out.size
    clear hb7 HR6 HR3 HR4 HR2 O6 O4 O3 O4b O3b O3a O4c O3c B6 B5 B4 B3 B2
    go_wp2_with fail
    refine (Ints.toIntS _ _ _ _ _ (Mem.IsRow.below HR.out (Frame.next B1.out B7.out B1.out.size)) hm).mono ?_
    rintro e w8 ⟨rfl, ho8, hb8⟩
    obtain ⟨_, _, e8, hr8⟩ := Mem.isRow_own ho8 HW.out
    cases e8
    have HR8 : Hid _ := hr8
    have O6e : Hid _ := Mem.own_below O6d.out hb8
    have O4e : Hid _ := Mem.own_below O4d.out hb8
    have O3e : Hid _ := Mem.own_below O3d.out hb8
    have B8 : Hid (Below w1.heap.size w1 w8) := Frame.next B7.out hb8 B7.out.size
    obtain ⟨_, _, e4, hr4⟩ := Mem.isRow_own O4e.out HW.out
    cases e4
    have HR4 : Hid _ := hr4
    clear ho8 hr8 hb8 hr4 O6d O4d O3d B7
    go_wp2_with fail
    refine (Ints.eqIntS _ _ _ _ _ _ _ _ _ HR4.out HR8.out hm hm).mono ?_
    rintro e w9 ⟨rfl, hb9⟩
    rw [decide_eq_true (Eq.refl zs)]
    have O6f : Hid _ := Mem.own_below O6e.out hb9
    have O4f : Hid _ := Mem.own_below O4e.out hb9
    have O3f : Hid _ := Mem.own_below O3e.out hb9
    have B9 : Hid (Below w1.heap.size w1 w9) := Frame.next B8.out hb9 B8.out.size
    clear hb9 HR4 HR8 O6e O4e O3e B8
    go_wp2_with fail
    refine (Ints.markIntS _ _ _ _ _ _ _ O4f.out hm (by omega) (by omega)).mono ?_
    rintro e w10 ⟨rfl, _, ht10⟩
    have O6g : Hid _ := Mem.own_touch O6f.out ht10 (fun x y hx hy => by cases hy; have := P6.out x hx; show x.block ≠ w3.heap.size; omega)
    have O3g : Hid _ := Mem.own_touch O3f.out ht10 (fun x y hx hy => by cases hy; have := P3.out x hx; show x.block ≠ w3.heap.size; omega)
    have B10 : Hid (Below w1.heap.size w1 w10) := Mem.below_touch B9.out ht10 (fun x hx => by cases hx; exact hs13) B9.out.size
    obtain ⟨_, _, e6, hr6⟩ := Mem.isRow_own O6g.out HFW.out
    cases e6
    obtain ⟨_, _, e3, hr3⟩ := Mem.isRow_own O3g.out HFW.out
    cases e3
    have HR6 : Hid _ := hr6
    have HR3 : Hid _ := hr3
    clear ht10 hr6 hr3 O6f O4f O3f B9
    go_wp2_with fail
    refine (Ints.eqIntS _ _ _ _ _ _ _ _ _ HR6.out HR3.out (by omega) (by omega)).mono ?_
    rintro e w11 ⟨rfl, hb11⟩
    rw [decide_eq_true (Eq.refl (Fill.fillV b n zs))]
    have O6h : Hid _ := Mem.own_below O6g.out hb11
    have O3h : Hid _ := Mem.own_below O3g.out hb11
    have B11 : Hid (Below w1.heap.size w1 w11) := Frame.next B10.out hb11 B10.out.size
    clear hb11 HR6 HR3 O6g O3g B10
    go_wp2_with fail
    refine (Ints.markIntS _ _ _ _ _ _ _ O6h.out (by omega) (by omega) (by omega)).mono ?_
    rintro e w12 ⟨rfl, ho12, ht12⟩
    have O3i : Hid _ := Mem.own_touch O3h.out ht12 (fun x y hx hy => by have := P3.out x hx; have := P6.out y hy; omega)
    have B12 : Hid (Below w1.heap.size w1 w12) := Mem.below_touch B11.out ht12 (fun x hx => by have := P6.out x hx; omega) B11.out.size
    have MW : Hid (∀ z ∈ Mem.marks 1 (Fill.fillV b n zs).length, (Lit.int .i64 z).wf = true) := Mem.marks_wf 1 _ (by omega) (by omega)
    have O6i : Hid _ := ho12
    obtain ⟨_, _, e6, hr6⟩ := Mem.isRow_own ho12 MW.out
    cases e6
    have HR6 : Hid _ := hr6
    clear ht12 ho12 hr6 O6h O3h B11
    go_wp2_with fail
    refine (Ints.heldIntS _ _ _ _ _ HR6.out (by omega) (by omega) (by omega)).mono ?_
    rintro e w' ⟨rfl, rfl⟩
    have q0 : w'.cell? ⟨w.heap.size, 0, none⟩ = some (.bool b) := by rw [B12.out.cell (p := ⟨w.heap.size, 0, none⟩) (by show w.heap.size < _; omega)]; exact D0.out
    have q1 : w'.cell? ⟨w.heap.size, 1, none⟩ = some (.int .i64 n) := by rw [B12.out.cell (p := ⟨w.heap.size, 1, none⟩) (by show w.heap.size < _; omega)]; exact D1.out
    clear HR6
    go_wp2_with fail
    refine (Val.toValue _ _ _).mono ?_
    rintro e w13 ⟨rfl, hb13⟩
    have O6j : Hid _ := Mem.own_below O6i.out hb13
    have O3j : Hid _ := Mem.own_below O3i.out hb13
    have B13 : Hid (Below w1.heap.size w1 w13) := Frame.next B12.out hb13 B12.out.size
    clear hb13 q0 q1 O6i O3i B12
    go_wp2_with fail
    refine (Ints.toIntS _ _ _ _ _ (Mem.IsRow.below HR.out (Frame.next B1.out B13.out B1.out.size)) hm).mono ?_
    rintro e w14 ⟨rfl, ho14, hb14⟩
    obtain ⟨_, _, e14, hr14⟩ := Mem.isRow_own ho14 HW.out
    cases e14
    have HR14 : Hid _ := hr14
    have O6k : Hid _ := Mem.own_below O6j.out hb14
    have O3k : Hid _ := Mem.own_below O3j.out hb14
    have B14 : Hid (Below w1.heap.size w1 w14) := Frame.next B13.out hb14 B13.out.size
    clear ho14 hr14 hb14 O6j O3j B13
    go_wp2_with fail
    refine (Fill.impl_FillsOf _ _ _ _ _ _ _ HR14.out hm).mono ?_
    rintro e w15 ⟨a15, c15, rfl, ho15, hb15⟩
    have O6l : Hid _ := Mem.own_below O6k.out hb15
    have O3l : Hid _ := Mem.own_below O3k.out hb15
    have B15 : Hid (Below w1.heap.size w1 w15) := Frame.next B14.out hb15 B14.out.size
    obtain ⟨_, _, e15, hr15⟩ := Mem.isRow_own ho15 HFW.out
    cases e15
    obtain ⟨_, _, e3, hr3⟩ := Mem.isRow_own O3l.out HFW.out
    cases e3
    have HR15 : Hid _ := hr15
    have HR3 : Hid _ := hr3
    clear ho15 hb15 hr15 hr3 HR14 O6k O3k B14
    go_wp2_with fail
    refine (Ints.eqIntS _ _ _ _ _ _ _ _ _ HR15.out HR3.out (by omega) (by omega)).mono ?_
    rintro e w16 ⟨rfl, hb16⟩
    rw [decide_eq_true (Eq.refl (Fill.fillV b n zs))]
    have B16 : Hid (Below w1.heap.size w1 w16) := Frame.next B15.out hb16 B15.out.size
    obtain ⟨_, _, e6, hr6⟩ := Mem.isRow_own (Mem.own_below O6l.out hb16) MW.out
    cases e6
    have HR6 : Hid _ := hr6
    clear hr6 hb16 HR15 HR3 O6l O3l B15
    go_wp2_with fail
    refine (Ints.heldIntS _ _ _ _ _ HR6.out (by omega) (by omega) (by omega)).mono ?_
    rintro e w' ⟨rfl, rfl⟩
    go_wp2
    go_ret
    exact ⟨rfl, Frame.next B1.out B16.out B1.out.size⟩
  · go_enter Try.func4, Try.ntmps4
    go_wp2
    go_ret
    exact ⟨rfl, b0⟩

theorem contract (H : Type) (enc : TypeId × Value → H) (W : World) (base : Nat) (args : Array Value) (ds gs : List (DataW H)) (before : List MemPlace)
    (hval0 : ∀ (j : Nat) t v, Try.f4.params[j]? = some t → args[j]? = some v → Value.okWide Try.prog W .any base t v)
    (hW : DataW.Whole enc Try.prog Try.f4.params.toList Rows.fnExactFillsOfSpec.vars false W args.toList ds gs before) :
    Calls Try.prog 4 args W fun e W' => ∃ v, e = .returned v ∧ Rows.fnExactFillsOfSpec.post enc Try.prog Try.f4 false true false false W args v W' := by
  refine Frame.law_calls (tb := 4) laidOut (by kernel_rfl) (by kernel_rfl) (by kernel_rfl) Try.underlying4 hW (fun ds gs h1 h2 => ?_) ?_
  · rw [Try.params4] at h1
    match ds, gs, h1, h2 with
    | [_, _], [], _, _ => rfl
  · obtain ⟨p, q, hA0, _, _, _, _⟩ := hW
    have hval : ∀ (j : Nat) t v, Try.f4.params[j]? = some t → args[j]? = some v → Value.okWide Try.prog W .any base t v := hval0
    have hA : DataW.TrodAll enc Try.prog W 0 (fun _ => true) true Try.f4.params.toList args.toList ds p := hA0
    rw [Try.params4] at hA hval
    obtain ⟨v0, vs0, d0, ds0, p0, q0, hargs, rfl, rfl, h0, r0⟩ := trodAll_cons hA
    obtain ⟨v1, vs1, d1, ds1, p1, q1, rfl, rfl, rfl, h1, r1⟩ := trodAll_cons r0
    obtain ⟨rfl, rfl, rfl⟩ := trodAll_nil r1
    obtain rfl : args = #[v0, v1] := by cases args; simp_all
    obtain ⟨b0, n0, rfl, w0⟩ := Frame.value_of Try.underlying23 (by kernel_rfl) (by kernel_rfl) Try.underlying4 Try.underlying3 (hval 0 23 v0 rfl rfl) h0
    obtain ⟨a1, len1, cap1, rfl⟩ := okWide_slice Try.underlying29 (hval 1 29 v1 rfl rfl)
    obtain ⟨z1, w1⟩ := Frame.isRow_of Try.underlying29 Try.underlying3 (by kernel_rfl) h1
    exact walk b0 n0 a1 len1 cap1 z1 W w0 w1

set_option maxRecDepth 100000 in
theorem lifted (os : Os) (started : os.Started) (H : Type) (enc : TypeId × Value → H) :
    ReturnsInHanded {} Try.checked os 4 .any (Rows.fnExactFillsOfSpec.pre6 enc Try.prog Try.f4 Rows.fnExactFillsOfRow.domain false) (Rows.fnExactFillsOfSpec.post enc Try.prog Try.f4 false true false false) := by
  refine returnsInHanded_of_change (C := Try.checked) own started (by kernel_rfl) Try.func4
    (ChangeSpec.witness6 (enc := enc) (C := Try.checked) false ⟨#[], #[.agg #[.bool false, .int .i64 0], .slice none 0 0], []⟩ 8 (by kernel_rfl) (by kernel_rfl) (by kernel_rfl) (by kernel_rfl)) ?_
  intro W base args ds gs before hval hW _ _
  exact contract H enc W base args ds gs before hval hW

/-- The statement. -/
theorem proved : Rows.FnExactFillsOfSaid :=
  OpenClaim.holds_of_wide 4 Try.f4 rfl rfl rfl rfl rfl rfl rfl ⟨rfl, rfl, rfl, rfl, rfl⟩ rfl rfl rfl rfl rfl (by kernel_rfl) Try.func4 (by kernel_rfl)
    (of_decide_eq_true (by kernel_rfl)) (by unfold Func.isWrapper; first | (rw [if_pos (by decide +kernel)]; kernel_rfl) | (rw [if_neg (by decide +kernel)]; exact ⟨rfl, rfl⟩))
    (fun os started H enc _ => lifted os started H enc)
#print axioms proved

end Go.Proofs.Ytbjpfmnkapmohap.fnExactFillsOf
