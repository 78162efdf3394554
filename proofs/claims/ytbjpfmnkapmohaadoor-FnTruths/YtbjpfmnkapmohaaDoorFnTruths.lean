/-
  Proved: at every two slices of bytes the law FnTruths returns true, and its arguments read afterwards as they did; the package tables that it reads start as the program's text lays them (the card ties them).
-/
import Derived.Test.YtbjpfmnkapmohaaDoorFrame
import Derived.Test.YtbjpfmnkapmohaaDoorAll
import Derived.Test.YtbjpfmnkapmohaaDoorDraw1
import Derived.Test.YtbjpfmnkapmohaaDoorCards
import Derived.Test.YtbjpfmnkapmohaaDoorTie
import Derived.LaidMore
namespace Go.Proofs.YtbjpfmnkapmohaaDoor.fnTruths
open Go.ChangeShapes Go.WideShapes Go.ChangeAt Go.RowKit

theorem own : ownKnob Tryd.prog.godebug = none := by kernel_rfl
theorem laidOut : laidOutB Tryd.prog = true := by kernel_rfl

theorem table0 {W : World} (h : laidMetH Tryd.prog Rows.fnTruthsRow.laid W) : Tr.AndTab W := by
  have c := Frame.tab2_cell (n := "loop.example/g00641/impl.bothTold") (k := .i64) (zss := [[0, 0, 0], [0, 1, 1], [0, 1, 2]]) (g := 0) (t := 55) (e := 54) (u := 3) (m := 3) (r := 3) h (by kernel_rfl) (by simp [Rows.fnTruthsRow, Rows.laid_loop_example_g00641_impl_bothTold, Lib.tabData])
    (by kernel_rfl) (by kernel_rfl) Tryd.underlying55 Tryd.underlying54 Tryd.underlying3 (by kernel_rfl) (by kernel_rfl)
  exact ⟨c 0 0 (by decide) (by decide) (by decide), c 0 1 (by decide) (by decide) (by decide), c 0 2 (by decide) (by decide) (by decide), c 1 0 (by decide) (by decide) (by decide), c 1 1 (by decide) (by decide) (by decide), c 1 2 (by decide) (by decide) (by decide), c 2 0 (by decide) (by decide) (by decide), c 2 1 (by decide) (by decide) (by decide), c 2 2 (by decide) (by decide) (by decide)⟩

theorem table1 {W : World} (h : laidMetH Tryd.prog Rows.fnTruthsRow.laid W) : Tr.OrTab W := by
  have c := Frame.tab2_cell (n := "loop.example/g00641/impl.eitherTold") (k := .i64) (zss := [[0, 1, 2], [1, 1, 2], [2, 2, 2]]) (g := 1) (t := 55) (e := 54) (u := 3) (m := 3) (r := 3) h (by kernel_rfl) (by simp [Rows.fnTruthsRow, Rows.laid_loop_example_g00641_impl_eitherTold, Lib.tabData])
    (by kernel_rfl) (by kernel_rfl) Tryd.underlying55 Tryd.underlying54 Tryd.underlying3 (by kernel_rfl) (by kernel_rfl)
  exact ⟨c 0 0 (by decide) (by decide) (by decide), c 0 1 (by decide) (by decide) (by decide), c 0 2 (by decide) (by decide) (by decide), c 1 0 (by decide) (by decide) (by decide), c 1 1 (by decide) (by decide) (by decide), c 1 2 (by decide) (by decide) (by decide), c 2 0 (by decide) (by decide) (by decide), c 2 1 (by decide) (by decide) (by decide), c 2 2 (by decide) (by decide) (by decide)⟩

theorem table2 {W : World} (h : laidMetH Tryd.prog Rows.fnTruthsRow.laid W) : Tr.NotTab W := by
  have c := Frame.tab1_cell (n := "loop.example/g00641/impl.turnedAbout") (k := .i64) (zs := [2, 1, 0]) (g := 2) (t := 54) (e := 3) (m := 3) h (by kernel_rfl) (by simp [Rows.fnTruthsRow, Rows.laid_loop_example_g00641_impl_turnedAbout, Lib.tabData])
    (by kernel_rfl) (by kernel_rfl) Tryd.underlying54 Tryd.underlying3 (by kernel_rfl) (by kernel_rfl)
  exact ⟨c 0 (by decide), c 1 (by decide), c 2 (by decide)⟩

theorem turn_about {a b : Int} (ha : Tr.isT a = true) (hb : Tr.isT b = true) : Tr.orV (Tr.notV a) (Tr.notV b) = Tr.notV (Tr.andV a b) := by
  rcases Tr.tru_cases ha with rfl | rfl | rfl <;> rcases Tr.tru_cases hb with rfl | rfl | rfl <;> rfl
theorem not_isT {a : Int} (ha : Tr.isT a = true) : Tr.isT (Tr.notV a) = true := by
  rcases Tr.tru_cases ha with rfl | rfl | rfl <;> rfl
theorem and_isT {a b : Int} (ha : Tr.isT a = true) (hb : Tr.isT b = true) : Tr.isT (Tr.andV a b) = true := by
  rcases Tr.tru_cases ha with rfl | rfl | rfl <;> rcases Tr.tru_cases hb with rfl | rfl | rfl <;> rfl
theorem all_two {a b : Int} (ha : Tr.isT a = true) (hb : Tr.isT b = true) : All.allV [a, b] = Tr.andV a b ∧ All.allB [a, b] = true := by
  rcases Tr.tru_cases ha with rfl | rfl | rfl <;> rcases Tr.tru_cases hb with rfl | rfl | rfl <;> exact ⟨rfl, rfl⟩
def told (a k : Int) : Int := if a = 1 then k else a
theorem told_isT {a k : Int} (ha : Tr.isT a = true) (hk : k = 0 ∨ k = 2) : Tr.isT (told a k) = true := by
  rcases Tr.tru_cases ha with rfl | rfl | rfl <;> rcases hk with rfl | rfl <;> rfl
theorem known_stays {a b k : Int} (ha : Tr.isT a = true) (hb : Tr.isT b = true) (hk : k = 0 ∨ k = 2) (hx : Tr.andV a b ≠ 1) : Tr.andV (told a k) (told b k) = Tr.andV a b := by
  rcases Tr.tru_cases ha with rfl | rfl | rfl <;> rcases Tr.tru_cases hb with rfl | rfl | rfl <;> rcases hk with rfl | rfl <;> first | rfl | exact absurd rfl hx
theorem step_k {j : Int} (h : j = 0 ∨ j = 2) : j + 2 = 0 ∨ j + 2 = 2 ∨ j + 2 = 4 := by omega
theorem isT_wf {a : Int} (ha : Tr.isT a = true) : (Lit.int .i64 a).wf = true := by
  rcases Tr.tru_cases ha with rfl | rfl | rfl <;> decide

set_option maxHeartbeats 3200000 in
set_option maxRecDepth 100000 in
theorem walk (a : Option Addr) (n cap : Nat) (zs : List Int) (b : Option Addr) (m capb : Nat) (ys : List Int) (w : World) (hc : Frame.IsRow .u8 w a n cap zs) (hd : Frame.IsRow .u8 w b m capb ys) (tA : Tr.AndTab w) (tO : Tr.OrTab w) (tN : Tr.NotTab w) :
    Calls Tryd.prog 3 #[.slice a n cap, .slice b m capb] w fun e w' => e = .returned (.bool true) ∧ Below w.heap.size w w' := by
  have hmx := hc.max
  have hft := hc.fits
  have hmy := hd.max
  have hfy := hd.fits
  have HC : Hid (Frame.IsRow .u8 w a n cap zs) := hc
  have HD : Hid (Frame.IsRow .u8 w b m capb ys) := hd
  have TA : Hid (Tr.AndTab w) := tA
  have TO : Hid (Tr.OrTab w) := tO
  have TN : Hid (Tr.NotTab w) := tN
  clear hc hd tA tO tN hmx hft hmy hfy
  by_cases hbig : (1048576 : Int) < wrap64 ((n : Int) + (m : Int))
  · go_enter Tryd.func3, Tryd.ntmps3
    go_wp2
    go_ret
    exact ⟨rfl, Below.refl _ _⟩
  · go_enter Tryd.func3, Tryd.ntmps3
    go_wp2_with fail
    refine (Draw1.draw_AndOf _ _ _ _ _ HC.out).mono ?_
    rintro e w1 ⟨x, y, rfl, hb1⟩
    have BW : Hid (Below w.heap.size w w1) := hb1
    clear hb1
    go_wp2_with fail
    refine (Tr.impl_AndOf _ _ _ (Tr.AndTab.below TA.out BW.out)).mono ?_
    rintro e w' ⟨rfl, rfl⟩
    go_wp2_with fail
    refine (Tr.spec_AndOf _ _ _).mono ?_
    rintro e w' ⟨rfl, rfl⟩
    go_wp2_with fail
    refine (Tr.impl_OrOf _ _ _ (Tr.OrTab.below TO.out BW.out)).mono ?_
    rintro e w' ⟨rfl, rfl⟩
    go_wp2_with fail
    refine (Tr.spec_OrOf _ _ _).mono ?_
    rintro e w' ⟨rfl, rfl⟩
    cases hx : Tr.isT x
    · rw [Bool.false_and]
      clear hx
      go_wp2_with fail
      refine (Draw1.draw_NotOf _ _ _ _ _ (Mem.IsRow.below HD.out BW.out)).mono ?_
      rintro e w5 ⟨q, rfl, hb5⟩
      have BW5 : Hid (Below w.heap.size w w5) := Frame.next BW.out hb5 BW.out.size
      clear hb5 BW
      go_wp2_with fail
      refine (Tr.impl_NotOf _ _ (Tr.NotTab.below TN.out BW5.out)).mono ?_
      rintro e w' ⟨rfl, rfl⟩
      go_wp2_with fail
      refine (Tr.spec_NotOf _ _).mono ?_
      rintro e w' ⟨rfl, rfl⟩
      go_wp2_with fail
      refine (Draw1.draw_AllOf _ _ _ _ _ (Mem.IsRow.below HD.out BW5.out)).mono ?_
      rintro e w6 ⟨a6, c6, us, rfl, ho6, hl6, hw6, hb6⟩
      obtain ⟨_, _, e6, hr6⟩ := Mem.isRow_own ho6 hw6
      cases e6
      have HR6 : Hid _ := hr6
      have BW6 : Hid (Below w.heap.size w w6) := Frame.next BW5.out hb6 BW5.out.size
      clear ho6 hb6 hr6 hw6 BW5
      go_wp2_with fail
      refine (All.impl_AllOf _ _ _ _ _ (Tr.AndTab.below TA.out BW6.out) HR6.out (by omega)).mono ?_
      rintro e w' ⟨rfl, rfl⟩
      go_wp2_with fail
      refine (All.spec_AllOf _ _ _ _ _ HR6.out (by omega)).mono ?_
      rintro e w' ⟨rfl, rfl⟩
      go_wp2
      go_ret
      exact ⟨rfl, BW6.out⟩
    · cases hy : Tr.isT y
      · rw [Bool.true_and]
        clear hx hy
        go_wp2_with fail
        refine (Draw1.draw_NotOf _ _ _ _ _ (Mem.IsRow.below HD.out BW.out)).mono ?_
        rintro e w5 ⟨q, rfl, hb5⟩
        have BW5 : Hid (Below w.heap.size w w5) := Frame.next BW.out hb5 BW.out.size
        clear hb5 BW
        go_wp2_with fail
        refine (Tr.impl_NotOf _ _ (Tr.NotTab.below TN.out BW5.out)).mono ?_
        rintro e w' ⟨rfl, rfl⟩
        go_wp2_with fail
        refine (Tr.spec_NotOf _ _).mono ?_
        rintro e w' ⟨rfl, rfl⟩
        go_wp2_with fail
        refine (Draw1.draw_AllOf _ _ _ _ _ (Mem.IsRow.below HD.out BW5.out)).mono ?_
        rintro e w6 ⟨a6, c6, us, rfl, ho6, hl6, hw6, hb6⟩
        obtain ⟨_, _, e6, hr6⟩ := Mem.isRow_own ho6 hw6
        cases e6
        have HR6 : Hid _ := hr6
        have BW6 : Hid (Below w.heap.size w w6) := Frame.next BW5.out hb6 BW5.out.size
        clear ho6 hb6 hr6 hw6 BW5
        go_wp2_with fail
        refine (All.impl_AllOf _ _ _ _ _ (Tr.AndTab.below TA.out BW6.out) HR6.out (by omega)).mono ?_
        rintro e w' ⟨rfl, rfl⟩
        go_wp2_with fail
        refine (All.spec_AllOf _ _ _ _ _ HR6.out (by omega)).mono ?_
        rintro e w' ⟨rfl, rfl⟩
        go_wp2
        go_ret
        exact ⟨rfl, BW6.out⟩
      · have Hx : Hid (Tr.isT x = true) := hx
        have Hy : Hid (Tr.isT y = true) := hy
        rw [Bool.true_and]
        have HA : Hid (Tr.isT (Tr.andV x y) = true) := and_isT hx hy
        clear hx hy
        have H2 : Hid (All.allV [x, y] = Tr.andV x y ∧ All.allB [x, y] = true) := all_two Hx.out Hy.out
        have HT : Hid (Tr.orV (Tr.notV x) (Tr.notV y) = Tr.notV (Tr.andV x y)) := turn_about Hx.out Hy.out
        go_wp2_with fail
        refine (Tr.impl_NotOf _ _ (Tr.NotTab.below TN.out BW.out)).mono ?_
        rintro e w' ⟨rfl, rfl⟩
        rw [Hx.out]
        go_wp2_with fail
        refine (Tr.impl_NotOf _ _ (Tr.NotTab.below TN.out BW.out)).mono ?_
        rintro e w' ⟨rfl, rfl⟩
        rw [Hy.out]
        go_wp2_with fail
        refine (Tr.impl_OrOf _ _ _ (Tr.OrTab.below TO.out BW.out)).mono ?_
        rintro e w' ⟨rfl, rfl⟩
        rw [HT.out, not_isT Hx.out, not_isT Hy.out, Bool.true_and]
        go_wp2_with fail
        refine (Tr.impl_NotOf _ _ (Tr.NotTab.below TN.out BW.out)).mono ?_
        rintro e w2 ⟨rfl, rfl⟩
        rw [HA.out]
        have hl : Frame.IsRow .i64 (w2.alloc (.cells #[.int .i64 x, .int .i64 y] 3)) (some ⟨w2.heap.size, 0, none⟩) 2 2 [x, y] := Draw1.isRow_lit w2 3 [x, y] (by simp) (fun z hz => by simp only [List.mem_cons, List.not_mem_nil, or_false] at hz; rcases hz with rfl | rfl; exact isT_wf Hx.out; exact isT_wf Hy.out)
        have HL : Hid (Frame.IsRow .i64 (w2.alloc (.cells #[.int .i64 x, .int .i64 y] 3)) (some ⟨w2.heap.size, 0, none⟩) 2 2 [x, y]) := hl
        clear hl
        go_wp2_with fail
        refine (All.impl_AllOf _ 2 2 [x, y] (w2.alloc (.cells #[.int .i64 x, .int .i64 y] 3)) (Tr.AndTab.below TA.out (BW.out.alloc BW.out.size _)) HL.out (by omega)).mono ?_
        rintro e w' ⟨rfl, rfl⟩
        rw [H2.out.1, H2.out.2]
        have BW2 : Hid (Below w.heap.size w (w2.alloc (.cells #[.int .i64 x, .int .i64 y] 3))) := BW.out.alloc BW.out.size _
        clear BW HL
        have BW : Hid (Below w.heap.size w (w2.alloc (.cells #[.int .i64 x, .int .i64 y] 3))) := BW2.out
        clear BW2
        go_wp2_with fail
        go_loop [25] (fun k => ∃ j : Int, (j = 0 ∨ j = 2 ∨ j = 4) ∧ k = .int .i64 j) (fun k => (4 - intOf k).toNat)
        case atStart => exact ⟨0, .inl rfl, rfl⟩
        case round =>
          obtain ⟨j, hj, rfl⟩ := hrel
          by_cases hj4 : j = 4
          · subst hj4
            clear hj
            go_wp2_with fail
            refine (Draw1.draw_NotOf _ _ _ _ _ (Mem.IsRow.below HD.out BW.out)).mono ?_
            rintro e w5 ⟨q, rfl, hb5⟩
            have BW5 : Hid (Below w.heap.size w w5) := Frame.next BW.out hb5 BW.out.size
            clear hb5 BW
            go_wp2_with fail
            refine (Tr.impl_NotOf _ _ (Tr.NotTab.below TN.out BW5.out)).mono ?_
            rintro e w' ⟨rfl, rfl⟩
            go_wp2_with fail
            refine (Tr.spec_NotOf _ _).mono ?_
            rintro e w' ⟨rfl, rfl⟩
            go_wp2_with fail
            refine (Draw1.draw_AllOf _ _ _ _ _ (Mem.IsRow.below HD.out BW5.out)).mono ?_
            rintro e w6 ⟨a6, c6, us, rfl, ho6, hl6, hw6, hb6⟩
            obtain ⟨_, _, e6, hr6⟩ := Mem.isRow_own ho6 hw6
            cases e6
            have HR6 : Hid _ := hr6
            have BW6 : Hid (Below w.heap.size w w6) := Frame.next BW5.out hb6 BW5.out.size
            clear ho6 hb6 hr6 hw6 BW5
            go_wp2_with fail
            refine (All.impl_AllOf _ _ _ _ _ (Tr.AndTab.below TA.out BW6.out) HR6.out (by omega)).mono ?_
            rintro e w' ⟨rfl, rfl⟩
            go_wp2_with fail
            refine (All.spec_AllOf _ _ _ _ _ HR6.out (by omega)).mono ?_
            rintro e w' ⟨rfl, rfl⟩
            go_wp2
            go_ret
            exact ⟨rfl, BW6.out⟩
          · have HJ : Hid (j = 0 ∨ j = 2) := by show _ ∨ _; omega
            have hjb : j ≤ 2 := by have := HJ.out; omega
            have hj0 : 0 ≤ j := by have := HJ.out; omega
            by_cases h1 : x = 1
            · have hx1 : (x == 1) = true := by simpa using h1
              by_cases h2 : y = 1
              · have hy1 : (y == 1) = true := by simpa using h2
                have ec : told x j = j := if_pos h1
                have ed : told y j = j := if_pos h2
                have HB : Hid ((Tr.isT j && Tr.isT j) = true) := by show _ = _; have t1 := told_isT Hx.out HJ.out; have t2 := told_isT Hy.out HJ.out; rw [ec] at t1; rw [ed] at t2; exact Bool.and_eq_true_iff.2 ⟨t1, t2⟩
                by_cases hv : Tr.andV x y = 1
                · have hvb : (Tr.andV x y != 1) = false := by simp [hv]
                  clear hv ec ed h1 h2 hj hj4
                  go_wp2_with fail
                  refine (Tr.impl_AndOf _ _ _ (Tr.AndTab.below TA.out BW.out)).mono ?_
                  rintro e w' ⟨rfl, rfl⟩
                  rw [HB.out]
                  go_wp2_with fail
                  go_round
                  case rel => exact ⟨j + 2, step_k HJ.out, rfl⟩
                  case measure => have := HJ.out; simp [intOf]; omega
                · have hvb : (Tr.andV x y != 1) = true := by simp [hv]
                  have HE : Hid (Tr.andV j j = Tr.andV x y) := by have t1 := known_stays Hx.out Hy.out HJ.out hv; rw [ec, ed] at t1; exact t1
                  clear hv ec ed h1 h2 hj hj4
                  go_wp2_with fail
                  refine (Tr.impl_AndOf _ _ _ (Tr.AndTab.below TA.out BW.out)).mono ?_
                  rintro e w' ⟨rfl, rfl⟩
                  rw [HB.out, HE.out]
                  go_wp2_with fail
                  go_round
                  case rel => exact ⟨j + 2, step_k HJ.out, rfl⟩
                  case measure => have := HJ.out; simp [intOf]; omega
              · have hy1 : (y == 1) = false := by simpa using h2
                have ec : told x j = j := if_pos h1
                have ed : told y j = y := if_neg h2
                have HB : Hid ((Tr.isT j && Tr.isT y) = true) := by show _ = _; have t1 := told_isT Hx.out HJ.out; have t2 := told_isT Hy.out HJ.out; rw [ec] at t1; rw [ed] at t2; exact Bool.and_eq_true_iff.2 ⟨t1, t2⟩
                by_cases hv : Tr.andV x y = 1
                · have hvb : (Tr.andV x y != 1) = false := by simp [hv]
                  clear hv ec ed h1 h2 hj hj4
                  go_wp2_with fail
                  refine (Tr.impl_AndOf _ _ _ (Tr.AndTab.below TA.out BW.out)).mono ?_
                  rintro e w' ⟨rfl, rfl⟩
                  rw [HB.out]
                  go_wp2_with fail
                  go_round
                  case rel => exact ⟨j + 2, step_k HJ.out, rfl⟩
                  case measure => have := HJ.out; simp [intOf]; omega
                · have hvb : (Tr.andV x y != 1) = true := by simp [hv]
                  have HE : Hid (Tr.andV j y = Tr.andV x y) := by have t1 := known_stays Hx.out Hy.out HJ.out hv; rw [ec, ed] at t1; exact t1
                  clear hv ec ed h1 h2 hj hj4
                  go_wp2_with fail
                  refine (Tr.impl_AndOf _ _ _ (Tr.AndTab.below TA.out BW.out)).mono ?_
                  rintro e w' ⟨rfl, rfl⟩
                  rw [HB.out, HE.out]
                  go_wp2_with fail
                  go_round
                  case rel => exact ⟨j + 2, step_k HJ.out, rfl⟩
                  case measure => have := HJ.out; simp [intOf]; omega
            · have hx1 : (x == 1) = false := by simpa using h1
              by_cases h2 : y = 1
              · have hy1 : (y == 1) = true := by simpa using h2
                have ec : told x j = x := if_neg h1
                have ed : told y j = j := if_pos h2
                have HB : Hid ((Tr.isT x && Tr.isT j) = true) := by show _ = _; have t1 := told_isT Hx.out HJ.out; have t2 := told_isT Hy.out HJ.out; rw [ec] at t1; rw [ed] at t2; exact Bool.and_eq_true_iff.2 ⟨t1, t2⟩
                by_cases hv : Tr.andV x y = 1
                · have hvb : (Tr.andV x y != 1) = false := by simp [hv]
                  clear hv ec ed h1 h2 hj hj4
                  go_wp2_with fail
                  refine (Tr.impl_AndOf _ _ _ (Tr.AndTab.below TA.out BW.out)).mono ?_
                  rintro e w' ⟨rfl, rfl⟩
                  rw [HB.out]
                  go_wp2_with fail
                  go_round
                  case rel => exact ⟨j + 2, step_k HJ.out, rfl⟩
                  case measure => have := HJ.out; simp [intOf]; omega
                · have hvb : (Tr.andV x y != 1) = true := by simp [hv]
                  have HE : Hid (Tr.andV x j = Tr.andV x y) := by have t1 := known_stays Hx.out Hy.out HJ.out hv; rw [ec, ed] at t1; exact t1
                  clear hv ec ed h1 h2 hj hj4
                  go_wp2_with fail
                  refine (Tr.impl_AndOf _ _ _ (Tr.AndTab.below TA.out BW.out)).mono ?_
                  rintro e w' ⟨rfl, rfl⟩
                  rw [HB.out, HE.out]
                  go_wp2_with fail
                  go_round
                  case rel => exact ⟨j + 2, step_k HJ.out, rfl⟩
                  case measure => have := HJ.out; simp [intOf]; omega
              · have hy1 : (y == 1) = false := by simpa using h2
                have ec : told x j = x := if_neg h1
                have ed : told y j = y := if_neg h2
                have HB : Hid ((Tr.isT x && Tr.isT y) = true) := by show _ = _; have t1 := told_isT Hx.out HJ.out; have t2 := told_isT Hy.out HJ.out; rw [ec] at t1; rw [ed] at t2; exact Bool.and_eq_true_iff.2 ⟨t1, t2⟩
                by_cases hv : Tr.andV x y = 1
                · have hvb : (Tr.andV x y != 1) = false := by simp [hv]
                  clear hv ec ed h1 h2 hj hj4
                  go_wp2_with fail
                  refine (Tr.impl_AndOf _ _ _ (Tr.AndTab.below TA.out BW.out)).mono ?_
                  rintro e w' ⟨rfl, rfl⟩
                  rw [HB.out]
                  go_wp2_with fail
                  go_round
                  case rel => exact ⟨j + 2, step_k HJ.out, rfl⟩
                  case measure => have := HJ.out; simp [intOf]; omega
                · have hvb : (Tr.andV x y != 1) = true := by simp [hv]
                  clear hv ec ed h1 h2 hj hj4
                  go_wp2_with fail
                  refine (Tr.impl_AndOf _ _ _ (Tr.AndTab.below TA.out BW.out)).mono ?_
                  rintro e w' ⟨rfl, rfl⟩
                  rw [HB.out]
                  go_wp2_with fail
                  go_round
                  case rel => exact ⟨j + 2, step_k HJ.out, rfl⟩
                  case measure => have := HJ.out; simp [intOf]; omega

theorem contract (H : Type) (enc : TypeId × Value → H) (W : World) (base : Nat) (args : Array Value) (ds gs : List (DataW H)) (before : List MemPlace)
    (hval0 : ∀ (j : Nat) t v, Tryd.f3.params[j]? = some t → args[j]? = some v → Value.okWide Tryd.prog W .any base t v)
    (hW : DataW.Whole enc Tryd.prog Tryd.f3.params.toList Rows.fnTruthsSpec.vars false W args.toList ds gs before) (hL : laidMetH Tryd.prog Rows.fnTruthsRow.laid W) :
    Calls Tryd.prog 3 args W fun e W' => ∃ v, e = .returned v ∧ Rows.fnTruthsSpec.post enc Tryd.prog Tryd.f3 false true false false W args v W' := by
  refine Frame.law_calls (tb := 4) laidOut (by kernel_rfl) (by kernel_rfl) (by kernel_rfl) Tryd.underlying4 hW (fun ds gs h1 h2 => ?_) ?_
  · rw [Tryd.params3] at h1
    match ds, gs, h1, h2 with
    | [_, _], [_, _, _], _, _ => rfl
  · obtain ⟨p, q, hA0, _, _, _, _⟩ := hW
    have hval : ∀ (j : Nat) t v, Tryd.f3.params[j]? = some t → args[j]? = some v → Value.okWide Tryd.prog W .any base t v := hval0
    have hA : DataW.TrodAll enc Tryd.prog W 0 (fun _ => true) true Tryd.f3.params.toList args.toList ds p := hA0
    rw [Tryd.params3] at hA hval
    obtain ⟨v0, vs0, d0, ds0, p0, q0, hargs, rfl, rfl, h0, r0⟩ := trodAll_cons hA
    obtain ⟨v1, vs1, d1, ds1, p1, q1, rfl, rfl, rfl, h1, r1⟩ := trodAll_cons r0
    obtain ⟨rfl, rfl, rfl⟩ := trodAll_nil r1
    obtain rfl : args = #[v0, v1] := by cases args; simp_all
    obtain ⟨a0, len0, cap0, rfl⟩ := okWide_slice Tryd.underlying22 (hval 0 22 v0 rfl rfl)
    obtain ⟨z0, w0⟩ := Frame.isRow_of Tryd.underlying22 Tryd.underlying5 (by kernel_rfl) h0
    obtain ⟨a1, len1, cap1, rfl⟩ := okWide_slice Tryd.underlying22 (hval 1 22 v1 rfl rfl)
    obtain ⟨z1, w1⟩ := Frame.isRow_of Tryd.underlying22 Tryd.underlying5 (by kernel_rfl) h1
    exact walk a0 len0 cap0 z0 a1 len1 cap1 z1 W w0 w1 (table0 hL) (table1 hL) (table2 hL)

theorem laid_met (os : Os) : laidMetH Tryd.prog Rows.fnTruthsRow.laid ((World.doorLaid Tryd.prog 400 os).forCall (fun _ _ => 0) ⟨#[], #[.slice none 0 0, .slice none 0 0], []⟩).memory :=
  laidMetH_of_parts3 (fuel := 8) (laidMet_of_run' 8 (by kernel_rfl) (by kernel_rfl)) (by kernel_rfl) (by kernel_rfl)

set_option maxRecDepth 100000 in
theorem lifted (os : Os) (started : os.Started) (H : Type) (enc : TypeId × Value → H) (F : Stop.Interp) :
    ReturnsInHanded {} Tryd.checked os 3 .any ((OpenSpec.ofChange Rows.fnTruthsSpec).preRow enc Tryd.prog Tryd.f3 Rows.fnTruthsRow.domain false Rows.fnTruthsRow.laid) (((OpenSpec.ofChange Rows.fnTruthsSpec).at F).post enc Tryd.prog Tryd.f3 false true false false) := by
  obtain ⟨places, hx⟩ : ∃ places, DataW.whole enc Tryd.prog ((World.doorLaid Tryd.prog 400 os).forCall (fun _ _ => 0) ⟨#[], #[.slice none 0 0, .slice none 0 0], []⟩).memory Tryd.f3.params.toList Rows.fnTruthsSpec.vars false #[Value.slice none 0 0, Value.slice none 0 0].toList 8 = some ([.nil, .nil], [Rows.laid_loop_example_g00641_impl_bothTold, Rows.laid_loop_example_g00641_impl_eitherTold, Rows.laid_loop_example_g00641_impl_turnedAbout], places) := ⟨MemPlace.row ⟨0, 0, none⟩ 9 ++ MemPlace.row ⟨1, 0, none⟩ 9 ++ MemPlace.row ⟨2, 0, none⟩ 3, by kernel_rfl⟩
  refine returnsInHanded_of_row (C := Tryd.checked) (s := OpenSpec.ofChange Rows.fnTruthsSpec) own started (by kernel_rfl) Tryd.func3
    (witness_row_at (enc := enc) (C := Tryd.checked) false (World.doorLaid Tryd.prog 400 os) #[.slice none 0 0, .slice none 0 0] rfl (by kernel_rfl) (by kernel_rfl) (by kernel_rfl)
      (OpenSpec.preRow_of_cond 8 hx (by kernel_rfl) (fun k hk => by cases hk) (by kernel_rfl) (laid_met os))) ?_
  intro W base args ds gs before hval hW _ _ _ hL _ _
  exact contract H enc W base args ds gs before hval hW hL

theorem said : Rows.FnTruthsSaid :=
  OpenClaim.holds_of_cond 3 Tryd.f3 rfl rfl rfl rfl rfl rfl rfl ⟨rfl, rfl, rfl, rfl, rfl⟩ rfl rfl rfl rfl rfl (by kernel_rfl) Tryd.func3 (by kernel_rfl)
    (of_decide_eq_true (by kernel_rfl)) (by unfold Func.isWrapper; first | (rw [if_pos (by decide +kernel)]; kernel_rfl) | (rw [if_neg (by decide +kernel)]; exact ⟨rfl, rfl⟩))
    (fun os started H enc _ F => by rw [OpenClaim.pre_eq_preRow]; exact lifted os started H enc F)

theorem plain (f : FuncId) (fn : Func) (hf : Tryd.pinned.checked.prog.funcNamed "loop.example/g00641/laws.FnTruths" = some f) (hfn : Tryd.pinned.checked.prog.funcs[f]? = some fn) :
    false = Tryd.pinned.checked.prog.looks [] ∧ ∀ (j : Nat) t, fn.params[j]? = some t → Tryd.pinned.checked.prog.wantsStandIn t = false := by
  obtain rfl : f = 3 := Option.some.inj ((show Tryd.prog.funcNamed "loop.example/g00641/laws.FnTruths" = some 3 by kernel_rfl).symm.trans hf) |>.symm
  obtain rfl : fn = Tryd.f3 := (Option.some.inj (Tryd.func3.symm.trans hfn)).symm
  refine ⟨by kernel_rfl, fun j t ht => ?_⟩
  have hm := Array.mem_of_getElem? ht
  have hall : (Tryd.f3.params.toList.all fun u => !Tryd.prog.wantsStandIn u) = true := by kernel_rfl
  exact (show Tryd.prog.wantsStandIn t = false by simpa using List.all_eq_true.1 hall t (by simpa using hm))

/-- The card. -/
theorem proved : Rows.FnTruthsCardSaid :=
  Claim7.holds_tied_plain_at .later [] _ _ _ _ said (fun _ h => by cases h) (by kernel_rfl) (fun _ h => by cases h) fnTruths_row_tie rfl ⟨rfl, rfl⟩ (by kernel_rfl) rfl plain (by kernel_rfl)
#print axioms proved

end Go.Proofs.YtbjpfmnkapmohaaDoor.fnTruths
