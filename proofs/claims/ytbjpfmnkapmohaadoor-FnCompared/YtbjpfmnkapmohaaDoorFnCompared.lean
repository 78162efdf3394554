/-
  Proved: at every two slices of bytes the law FnCompared returns true, and its arguments read afterwards as they did; the package table that it reads starts as the program's text lays it (the card ties it).
-/
import Derived.Test.YtbjpfmnkapmohaaDoorFrame
import Derived.Test.YtbjpfmnkapmohaaDoorCmp
import Derived.Test.YtbjpfmnkapmohaaDoorSame
import Derived.Test.YtbjpfmnkapmohaaDoorFill
import Derived.Test.YtbjpfmnkapmohaaDoorDraw1b
import Derived.Test.YtbjpfmnkapmohaaDoorCards
import Derived.Test.YtbjpfmnkapmohaaDoorTie
import Derived.LaidMore
namespace Go.Proofs.YtbjpfmnkapmohaaDoor.fnCompared
open Go.ChangeShapes Go.WideShapes Go.ChangeAt Go.RowKit

theorem own : ownKnob Tryd.prog.godebug = none := by kernel_rfl
theorem laidOut : laidOutB Tryd.prog = true := by kernel_rfl

theorem table0 {W : World} (h : laidMetH Tryd.prog Rows.fnComparedRow.laid W) : Cmp.CmpTab W := by
  have c := Frame.tab2_cell (n := "loop.example/g00641/impl.toldByKind") (k := .i64) (zss := [[0, 2, 0], [2, 0, 0], [0, 0, 2]]) (g := 3) (t := 55) (e := 54) (u := 3) (m := 3) (r := 3) h (by kernel_rfl) (by simp [Rows.fnComparedRow, Rows.laid_loop_example_g00641_impl_toldByKind, Lib.tabData])
    (by kernel_rfl) (by kernel_rfl) Tryd.underlying55 Tryd.underlying54 Tryd.underlying3 (by kernel_rfl) (by kernel_rfl)
  exact ⟨c 0 0 (by decide) (by decide) (by decide), c 0 1 (by decide) (by decide) (by decide), c 0 2 (by decide) (by decide) (by decide), c 1 0 (by decide) (by decide) (by decide), c 1 1 (by decide) (by decide) (by decide), c 1 2 (by decide) (by decide) (by decide), c 2 0 (by decide) (by decide) (by decide), c 2 1 (by decide) (by decide) (by decide), c 2 2 (by decide) (by decide) (by decide)⟩

theorem fill_wf (b : Bool) (n : Int) (zs : List Int) (hn : (Lit.int .i64 n).wf = true) (hz : ∀ z ∈ zs, (Lit.int .i64 z).wf = true) : ∀ z ∈ Fill.fillV b n zs, (Lit.int .i64 z).wf = true := by
  intro z h
  unfold Fill.fillV at h
  split at h
  · unfold Fill.fillX at h
    split at h
    · exact hz z h
    · simp at h
      rw [← h.2]
      exact hn
  · cases h

def xs0 : List Int := [-1, 0, 1, 2, 3]
def ys0 : List Int := [2, -1, 3, 0, 1]
def Goes (k c : Int) (X Y : List Int) : Prop := ∀ p ∈ X, ∀ q ∈ Y, Cmp.cmpB k false p false q = true ∧ Cmp.cmpV k false p false q ≠ 1 ∧ (c ≠ 1 → Cmp.cmpV k false p false q = c)

theorem fill_xs (b : Bool) (n : Int) (l : List Int) (hl : l = xs0 ∨ l = ys0) (h : Val.goodV b n = true) : Fill.fillB b n l = true ∧ (Fill.fillV b n l).length = 5 ∧ (∀ z ∈ Fill.fillV b n l, Val.goodV false z = true ∧ (b = false → z = n) ∧ (Lit.int .i64 z).wf = true) := by
  have hB : Fill.fillB b n l = true := by
    unfold Fill.fillB
    rw [h]
    rcases hl with rfl | rfl <;> rfl
  have hV : Fill.fillV b n l = Fill.fillX b n l := by unfold Fill.fillV; simp [hB]
  have hlen : l.length = 5 := by rcases hl with rfl | rfl <;> rfl
  refine ⟨hB, by rw [hV, Fill.fillX_length, hlen], fun z hz => ?_⟩
  rw [hV] at hz
  unfold Fill.fillX at hz
  cases b
  · simp at hz
    obtain ⟨_, rfl⟩ := hz
    unfold Val.goodV Val.inB at h
    simp at h
    exact ⟨by unfold Val.goodV Val.inB; simp [h], fun _ => rfl, Mem.int_wf _ (by omega) (by omega)⟩
  · simp at hz
    have hz2 : -1 ≤ z ∧ z ≤ 3 := by
      rcases hl with rfl | rfl
      · simp [xs0] at hz; omega
      · simp [ys0] at hz; omega
    refine ⟨?_, fun h => (by cases h), Mem.int_wf _ (by omega) (by omega)⟩
    unfold Val.goodV Val.inB
    simp
    omega

theorem cmp_parts {k : Int} {b1 b2 : Bool} {n1 n2 : Int} (h : Cmp.cmpB k b1 n1 b2 n2 = true) : Val.inB k 0 2 = true ∧ Val.goodV b1 n1 = true ∧ Val.goodV b2 n2 = true := by
  unfold Cmp.cmpB at h
  simp only [Bool.and_eq_true] at h
  exact ⟨h.1.1, h.1.2, h.2⟩

theorem cmpT_known (k p q : Int) : Cmp.cmpT k false p false q ≠ 1 := by
  unfold Cmp.cmpT
  simp only [Bool.or_false, Bool.false_eq_true, if_false]
  split
  · split <;> omega
  · split
    · split <;> omega
    · split <;> omega

theorem goes {k : Int} {b1 b2 : Bool} {n1 n2 : Int} (h : Cmp.cmpB k b1 n1 b2 n2 = true) : Goes k (Cmp.cmpV k b1 n1 b2 n2) (Fill.fillV b1 n1 xs0) (Fill.fillV b2 n2 ys0) := by
  obtain ⟨hk, h1, h2⟩ := cmp_parts h
  intro p hp q hq
  obtain ⟨gp, ep, _⟩ := (fill_xs b1 n1 xs0 (.inl rfl) h1).2.2 p hp
  obtain ⟨gq, eq, _⟩ := (fill_xs b2 n2 ys0 (.inr rfl) h2).2.2 q hq
  have hB : Cmp.cmpB k false p false q = true := by unfold Cmp.cmpB; rw [hk, gp, gq]; rfl
  have hV : Cmp.cmpV k false p false q = Cmp.cmpT k false p false q := by unfold Cmp.cmpV; simp [hB]
  refine ⟨hB, by rw [hV]; exact cmpT_known k p q, fun hc => ?_⟩
  have hV' : Cmp.cmpV k b1 n1 b2 n2 = Cmp.cmpT k b1 n1 b2 n2 := by unfold Cmp.cmpV; simp [h]
  rw [hV'] at hc ⊢
  rw [hV]
  cases b1
  · cases b2
    · rw [ep rfl, eq rfl]
    · exact absurd (by unfold Cmp.cmpT; simp) hc
  · exact absurd (by unfold Cmp.cmpT; simp) hc

theorem unknown_is {k : Int} {b1 b2 : Bool} {n1 n2 : Int} (h : Cmp.cmpB k b1 n1 b2 n2 = true) : (Cmp.cmpV k b1 n1 b2 n2 == 1) = (b1 || b2) := by
  have hV' : Cmp.cmpV k b1 n1 b2 n2 = Cmp.cmpT k b1 n1 b2 n2 := by unfold Cmp.cmpV; simp [h]
  rw [hV']
  cases b1
  · cases b2
    · have := cmpT_known k n1 n2
      simpa using this
    · unfold Cmp.cmpT; simp
  · unfold Cmp.cmpT; simp

set_option maxHeartbeats 3200000 in
set_option maxRecDepth 100000 in
theorem walk (a : Option Addr) (n cap : Nat) (zs : List Int) (b : Option Addr) (m capb : Nat) (ys : List Int) (w : World) (hc : Frame.IsRow .u8 w a n cap zs) (hd : Frame.IsRow .u8 w b m capb ys) (tC : Cmp.CmpTab w) :
    Calls Tryd.prog 4 #[.slice a n cap, .slice b m capb] w fun e w' => e = .returned (.bool true) ∧ Below w.heap.size w w' := by
  have HC : Hid (Frame.IsRow .u8 w a n cap zs) := hc
  have HD : Hid (Frame.IsRow .u8 w b m capb ys) := hd
  have TC : Hid (Cmp.CmpTab w) := tC
  clear hc hd tC
  by_cases hbig : (1048576 : Int) < wrap64 ((n : Int) + (m : Int))
  · go_enter Tryd.func4, Tryd.ntmps4
    go_wp2
    go_ret
    exact ⟨rfl, Below.refl _ _⟩
  · go_enter Tryd.func4, Tryd.ntmps4
    go_wp2_with fail
    refine (Draw1b.draw_Compare _ _ _ _ _ HC.out).mono ?_
    rintro e w1 ⟨k, b1, b2, n1, n2, rfl, hn1, hn2, hb1⟩
    have BW1 : Hid (Below w.heap.size w w1) := hb1
    have s1 := hb1.size
    clear hb1
    go_wp2_with fail
    refine (Cmp.impl_Compare _ _ _ _ _ _ (Cmp.CmpTab.below TC.out ((BW1.out.alloc s1 _).alloc (by simp; omega) _))).mono ?_
    rintro e w2 ⟨rfl, hb2⟩
    have s2 : w1.heap.size + 2 ≤ w2.heap.size := by have := hb2.size; simp at this; omega
    have p0 : w2.cell? ⟨w1.heap.size, 0, none⟩ = some (.bool b1) := by rw [(Frame.bcell hb2).1 _ _ (by simp; omega)]; simp
    have p1 : w2.cell? ⟨w1.heap.size, 1, none⟩ = some (.int .i64 n1) := by rw [(Frame.bcell hb2).1 _ _ (by simp; omega)]; simp
    have p2 : w2.cell? ⟨w1.heap.size + 1, 0, none⟩ = some (.bool b2) := by rw [(Frame.bcell hb2).1 _ _ (by simp)]; simp
    have p3 : w2.cell? ⟨w1.heap.size + 1, 1, none⟩ = some (.int .i64 n2) := by rw [(Frame.bcell hb2).1 _ _ (by simp)]; simp
    have BW2 : Hid (Below w.heap.size w w2) := Frame.next ((BW1.out.alloc s1 _).alloc (by simp; omega) _) hb2 (by simp; omega)
    clear hb2 BW1
    go_wp2_with fail
    refine (Cmp.spec_Compare _ _ _ _ _ _).mono ?_
    rintro e w3 ⟨rfl, hb3⟩
    have BW : Hid (Below w.heap.size w w3) := Frame.next BW2.out hb3 BW2.out.size
    have s3 : w2.heap.size ≤ w3.heap.size := hb3.size
    have C0 : Hid (w3.cell? ⟨w1.heap.size, 0, none⟩ = some (.bool b1)) := by show _ = _; rw [(Frame.bcell hb3).1 _ _ (by omega)]; exact p0
    have C1 : Hid (w3.cell? ⟨w1.heap.size, 1, none⟩ = some (.int .i64 n1)) := by show _ = _; rw [(Frame.bcell hb3).1 _ _ (by omega)]; exact p1
    have C2 : Hid (w3.cell? ⟨w1.heap.size + 1, 0, none⟩ = some (.bool b2)) := by show _ = _; rw [(Frame.bcell hb3).1 _ _ (by omega)]; exact p2
    have C3 : Hid (w3.cell? ⟨w1.heap.size + 1, 1, none⟩ = some (.int .i64 n2)) := by show _ = _; rw [(Frame.bcell hb3).1 _ _ (by omega)]; exact p3
    clear hb3 BW2 p0 p1 p2 p3
    cases hB : Cmp.cmpB k b1 n1 b2 n2
    · clear hB
      go_wp2_with fail
      refine (Draw1b.draw_SameValue _ _ _ _ _ (Mem.IsRow.below HD.out BW.out)).mono ?_
      rintro e w5 ⟨u1, u2, m1, m2, rfl, hu1, hu2, hb5⟩
      have BW5 : Hid (Below w.heap.size w w5) := Frame.next BW.out hb5 BW.out.size
      have s5 := BW5.out.size
      clear hb5 BW
      go_wp2_with fail
      refine (Same.impl_SameValue _ _ _ _ _).mono ?_
      rintro e w6 ⟨rfl, hb6⟩
      have s6 : w5.heap.size + 2 ≤ w6.heap.size := by have := hb6.size; simp at this; omega
      have p0 : w6.cell? ⟨w5.heap.size, 0, none⟩ = some (.bool u1) := by rw [(Frame.bcell hb6).1 _ _ (by simp; omega)]; simp
      have p1 : w6.cell? ⟨w5.heap.size, 1, none⟩ = some (.int .i64 m1) := by rw [(Frame.bcell hb6).1 _ _ (by simp; omega)]; simp
      have p2 : w6.cell? ⟨w5.heap.size + 1, 0, none⟩ = some (.bool u2) := by rw [(Frame.bcell hb6).1 _ _ (by simp)]; simp
      have p3 : w6.cell? ⟨w5.heap.size + 1, 1, none⟩ = some (.int .i64 m2) := by rw [(Frame.bcell hb6).1 _ _ (by simp)]; simp
      have BW6 : Hid (Below w.heap.size w w6) := Frame.next ((BW5.out.alloc s5 _).alloc (by simp; omega) _) hb6 (by simp; omega)
      clear hb6 BW5
      go_wp2_with fail
      refine (Same.spec_SameValue _ _ _ _ _).mono ?_
      rintro e w7 ⟨rfl, hb7⟩
      have q0 : w7.cell? ⟨w5.heap.size, 0, none⟩ = some (.bool u1) := by rw [(Frame.bcell hb7).1 _ _ (by omega)]; exact p0
      have q1 : w7.cell? ⟨w5.heap.size, 1, none⟩ = some (.int .i64 m1) := by rw [(Frame.bcell hb7).1 _ _ (by omega)]; exact p1
      have s7 : w6.heap.size ≤ w7.heap.size := hb7.size
      have Q0 : Hid _ := q0
      have Q1 : Hid _ := q1
      have BW7 : Hid (Below w.heap.size w w7) := Frame.next BW6.out hb7 BW6.out.size
      clear hb7 BW6 p0 p1 p2 p3 q0 q1
      go_wp2_with fail
      refine (Draw1b.draw_FillsOf _ _ _ _ _ (Mem.IsRow.below HD.out BW7.out)).mono ?_
      rintro e w8 ⟨fb, fn, a8, c8, us, rfl, hfn, ho8, hl8, hw8, hb8⟩
      have W8 : Hid (∀ z ∈ us, (Lit.int .i64 z).wf = true) := hw8
      have FW : Hid (∀ z ∈ Fill.fillV fb fn us, (Lit.int .i64 z).wf = true) := fill_wf fb fn us hfn hw8
      have FL : (Fill.fillV fb fn us).length ≤ 4 := by
        unfold Fill.fillV
        split
        · rw [Fill.fillX_length]; omega
        · simp
      have O8 : Hid (w8.ownsRow w7.heap.size 3 1 (.slice a8 us.length c8) us.length (Mem.ints .i64 us)) := ho8
      have BW8 : Hid (Below w.heap.size w w8) := Frame.next BW7.out hb8 BW7.out.size
      have R0 : Hid (w8.cell? ⟨w5.heap.size, 0, none⟩ = some (.bool u1)) := by show _ = _; rw [(Frame.bcell hb8).1 _ _ (by omega)]; exact Q0.out
      have R1 : Hid (w8.cell? ⟨w5.heap.size, 1, none⟩ = some (.int .i64 m1)) := by show _ = _; rw [(Frame.bcell hb8).1 _ _ (by omega)]; exact Q1.out
      have s8 : w7.heap.size ≤ w8.heap.size := hb8.size
      obtain ⟨_, _, e8, hr8⟩ := Mem.isRow_own (ho8.alloc (.cells #[.bool fb, .int .i64 fn] 34)) hw8
      cases e8
      have HR8 : Hid _ := hr8
      clear hb8 BW7 Q0 Q1 ho8 hw8 hr8
      go_wp2_with fail
      refine (Fill.impl_FillsOf _ _ _ _ _ _ _ HR8.out (by omega)).mono ?_
      rintro e w9 ⟨a9, c9, rfl, ho9, hb9⟩
      have s9 : w8.heap.size + 1 ≤ w9.heap.size := by simpa using hb9.size
      have t0 : w9.cell? ⟨w8.heap.size, 0, none⟩ = some (.bool fb) := by rw [(Frame.bcell hb9).1 _ _ (by simp)]; simp
      have t1 : w9.cell? ⟨w8.heap.size, 1, none⟩ = some (.int .i64 fn) := by rw [(Frame.bcell hb9).1 _ _ (by simp)]; simp
      have BW9 : Hid (Below w.heap.size w w9) := Frame.next (BW8.out.alloc BW8.out.size _) hb9 (by have := BW8.out.size; simp; omega)
      have R0a : Hid (w9.cell? ⟨w5.heap.size, 0, none⟩ = some (.bool u1)) := by show _ = _; rw [(Frame.bcell hb9).1 _ _ (by simp; omega), (Frame.bcell (Draw1.below_alloc _ _)).1 _ _ (by omega)]; exact R0.out
      have R1a : Hid (w9.cell? ⟨w5.heap.size, 1, none⟩ = some (.int .i64 m1)) := by show _ = _; rw [(Frame.bcell hb9).1 _ _ (by simp; omega), (Frame.bcell (Draw1.below_alloc _ _)).1 _ _ (by omega)]; exact R1.out
      have HR8a : Hid _ := Mem.IsRow.below HR8.out hb9
      have O9 : Hid _ := ho9
      clear hb9 BW8 R0 R1 HR8 O8 ho9
      go_wp2_with fail
      refine (Fill.spec_FillsOf _ _ _ _ _ _ _ HR8a.out (by omega)).mono ?_
      rintro e w10 ⟨a10, c10, rfl, ho10, hb10⟩
      have BW10 : Hid (Below w.heap.size w w10) := Frame.next BW9.out hb10 BW9.out.size
      have r0 : w10.cell? ⟨w5.heap.size, 0, none⟩ = some (.bool u1) := by rw [(Frame.bcell hb10).1 _ _ (by omega)]; exact R0a.out
      have r1 : w10.cell? ⟨w5.heap.size, 1, none⟩ = some (.int .i64 m1) := by rw [(Frame.bcell hb10).1 _ _ (by omega)]; exact R1a.out
      obtain ⟨_, _, e9, hr9⟩ := Mem.isRow_own (Mem.own_below O9.out hb10) FW.out
      cases e9
      obtain ⟨_, _, e10, hr10⟩ := Mem.isRow_own ho10 FW.out
      cases e10
      have HR9 : Hid (Frame.IsRow .i64 w10 a9 (Fill.fillV fb fn us).length c9 (Fill.fillV fb fn us)) := hr9
      have HR10 : Hid (Frame.IsRow .i64 w10 a10 (Fill.fillV fb fn us).length c10 (Fill.fillV fb fn us)) := hr10
      clear hb10 BW9 R0a R1a HR8a O9 ho10 hr9 hr10 t0 t1
      go_wp2_with fail
      go_region_held3 (fun w' => Below w10.heap.size w10 w' ∧ w'.cell? ⟨w5.heap.size, 0, none⟩ = some (.bool u1) ∧ w'.cell? ⟨w5.heap.size, 1, none⟩ = some (.int .i64 m1))
        (first | exact ⟨(Below.refl _ _).drew, r0, r1⟩ | exact (fun kb => ⟨kb, Frame.held_cell kb r0, Frame.held_cell kb r1⟩) (Frame.held_next ‹Below w10.heap.size w10 _ ∧ _› hb))
        (first
          | (go_at_call 25; refine (Ints.sameInts _ _ _ _ _ _ (Fill.fillV fb fn us) (Fill.fillV fb fn us) _ ?_ ?_ ?_ ?_).mono ?_; exact Mem.IsRow.below HR9.out (And.left ‹Below w10.heap.size w10 _ ∧ _›); exact Mem.IsRow.below HR10.out (And.left ‹Below w10.heap.size w10 _ ∧ _›); omega; omega; rintro e w11 ⟨rfl, hb⟩; try rw [decide_eq_true (Eq.refl (Fill.fillV fb fn us))])
          | (go_at_call 26; refine (Val.impl_GoodValue _ _ _).mono ?_; rintro e w11 ⟨rfl, hb⟩)
          | (go_at_call 27; refine (Val.spec_GoodValue _ _ _).mono ?_; rintro e w11 ⟨rfl, hb⟩))
      all_goals have b11 := Frame.next BW10.out (And.left ‹Below w10.heap.size w10 _ ∧ _›) BW10.out.size
      all_goals go_wp2
      all_goals go_ret
      all_goals exact ⟨rfl, b11⟩
    · have HG : Hid (Goes k (Cmp.cmpV k b1 n1 b2 n2) (Fill.fillV b1 n1 xs0) (Fill.fillV b2 n2 ys0)) := goes hB
      have HU : Hid ((Cmp.cmpV k b1 n1 b2 n2 == 1) = (b1 || b2)) := unknown_is hB
      have HF1 : Hid _ := fill_xs b1 n1 xs0 (.inl rfl) (cmp_parts hB).2.1
      have HF2 : Hid _ := fill_xs b2 n2 ys0 (.inr rfl) (cmp_parts hB).2.2
      have hl4 : Frame.IsRow .i64 (w3.alloc (.cells #[.int .i64 (-1), .int .i64 0, .int .i64 1, .int .i64 2, .int .i64 3] 3)) (some ⟨w3.heap.size, 0, none⟩) 5 5 xs0 := Draw1.isRow_lit w3 3 xs0 (by decide) (Draw1.lit_wf (by decide))
      have HL4 : Hid _ := hl4
      have c0 := C0.out
      have c1 := C1.out
      clear hB hl4
      go_wp2_with fail
      refine (Fill.impl_FillsOf b1 n1 _ 5 5 xs0 (w3.alloc (.cells #[.int .i64 (-1), .int .i64 0, .int .i64 1, .int .i64 2, .int .i64 3] 3)) HL4.out (by omega)).mono ?_
      rintro e w4 ⟨a4, c4, rfl, ho4, hb4⟩
      rw [HF1.out.1, HF1.out.2.1]
      rw [HF1.out.2.1] at ho4
      have s4 : w3.heap.size + 1 ≤ w4.heap.size := by simpa using hb4.size
      have BW4 : Hid (Below w.heap.size w w4) := Frame.next (BW.out.alloc BW.out.size _) hb4 (by have := BW.out.size; simp; omega)
      have O4 : Hid _ := ho4
      have d0 : w4.cell? ⟨w1.heap.size, 0, none⟩ = some (.bool b1) := by rw [(Frame.bcell hb4).1 _ _ (by simp; omega), (Frame.bcell (Draw1.below_alloc _ _)).1 _ _ (by omega)]; exact c0
      have d2 : w4.cell? ⟨w1.heap.size + 1, 0, none⟩ = some (.bool b2) := by rw [(Frame.bcell hb4).1 _ _ (by simp; omega), (Frame.bcell (Draw1.below_alloc _ _)).1 _ _ (by omega)]; exact C2.out
      have d3 : w4.cell? ⟨w1.heap.size + 1, 1, none⟩ = some (.int .i64 n2) := by rw [(Frame.bcell hb4).1 _ _ (by simp; omega), (Frame.bcell (Draw1.below_alloc _ _)).1 _ _ (by omega)]; exact C3.out
      have D0 : Hid _ := d0
      have D2 : Hid _ := d2
      have hl5 : Frame.IsRow .i64 (w4.alloc (.cells #[.int .i64 2, .int .i64 (-1), .int .i64 3, .int .i64 0, .int .i64 1] 3)) (some ⟨w4.heap.size, 0, none⟩) 5 5 ys0 := Draw1.isRow_lit w4 3 ys0 (by decide) (Draw1.lit_wf (by decide))
      have HL5 : Hid _ := hl5
      clear ho4 hb4 c0 c1 hl5 HL4 BW C0 C1 C2 C3 d0
      go_wp2_with fail
      refine (Fill.impl_FillsOf b2 n2 _ 5 5 ys0 (w4.alloc (.cells #[.int .i64 2, .int .i64 (-1), .int .i64 3, .int .i64 0, .int .i64 1] 3)) HL5.out (by omega)).mono ?_
      rintro e w5 ⟨a5, c5, rfl, ho5, hb5⟩
      rw [HF2.out.1, HF2.out.2.1]
      rw [HF2.out.2.1] at ho5
      have BWx : Hid (Below w.heap.size w w5) := Frame.next (BW4.out.alloc BW4.out.size _) hb5 (by have := BW4.out.size; simp; omega)
      have sx : w4.heap.size + 1 ≤ w5.heap.size := by simpa using hb5.size
      have E0 : Hid (w5.cell? ⟨w1.heap.size, 0, none⟩ = some (.bool b1)) := by show _ = _; rw [(Frame.bcell hb5).1 _ _ (by simp; omega), (Frame.bcell (Draw1.below_alloc _ _)).1 _ _ (by omega)]; exact D0.out
      have E2 : Hid (w5.cell? ⟨w1.heap.size + 1, 0, none⟩ = some (.bool b2)) := by show _ = _; rw [(Frame.bcell hb5).1 _ _ (by simp; omega), (Frame.bcell (Draw1.below_alloc _ _)).1 _ _ (by omega)]; exact D2.out
      obtain ⟨_, _, e4, hr4⟩ := Mem.isRow_own (Mem.own_below (Mem.own_below O4.out (Draw1.below_alloc _ _)) hb5) (fun z hz => (HF1.out.2.2 z hz).2.2)
      cases e4
      obtain ⟨_, _, e5, hr5⟩ := Mem.isRow_own ho5 (fun z hz => (HF2.out.2.2 z hz).2.2)
      cases e5
      have HX5 : (Fill.fillV b1 n1 xs0).length = 5 := HF1.out.2.1
      have HY5 : (Fill.fillV b2 n2 ys0).length = 5 := HF2.out.2.1
      clear HF1 HF2 ho5 hb5 O4 D0 D2 d2 d3 HL5 BW4
      generalize Fill.fillV b1 n1 xs0 = X at *
      generalize Fill.fillV b2 n2 ys0 = Y at *

      have HRX : Hid (Frame.IsRow .i64 w5 a4 5 c4 X) := hr4
      have HRY : Hid (Frame.IsRow .i64 w5 a5 5 c5 Y) := hr5
      obtain ⟨gx, ox, rfl, lx, kx⟩ := hr4.cells (by omega)
      obtain ⟨gy, oy, rfl, ly, ky⟩ := hr5.cells (by omega)
      have KX : Hid _ := kx
      have KY : Hid _ := ky
      have X5 : Hid (X.length = 5) := HX5
      have Y5 : Hid (Y.length = 5) := HY5
      clear hr4 hr5 kx ky HX5 HY5
      go_wp2_with fail
      go_loopw [89] (fun i wr => ∃ j : Nat, j ≤ 5 ∧ i = .int .i64 j ∧ Below w5.heap.size w5 wr) (fun i _ => 5 - (intOf i).toNat)
      case atStart => exact ⟨0, Nat.zero_le _, rfl, Below.refl _ _⟩
      case round =>
        obtain ⟨j, hj, rfl, hnx⟩ := hrel
        have HN : Hid (Below w5.heap.size w5 wr) := hnx
        clear hnx
        by_cases hj5 : j < 5
        · have hjb : decide ((j : Int) < 5) = true := by simp; omega
          have hcx : wr.cell? ⟨gx, ox + j, none⟩ = some (.int .i64 (X.getD j 0)) := by rw [HN.out.cell (p := ⟨gx, ox + j, none⟩) lx]; exact KX.out j hj5
          have HP : Hid (X.getD j 0 ∈ X) := Mem.getD_mem (by rw [X5.out]; exact hj5)
          generalize X.getD j 0 = p at hcx HP
          go_wp2_with fail
          obtain ⟨wo, rfl⟩ : ∃ wo : World, wo = wr := ⟨_, rfl⟩
          clear hcx
          go_loopw [95] (fun i wr => ∃ l : Nat, l ≤ 5 ∧ i = .int .i64 l ∧ Below w5.heap.size w5 wr) (fun i _ => 5 - (intOf i).toNat)
          case atStart => exact ⟨0, Nat.zero_le _, rfl, HN.out⟩
          case round =>
            obtain ⟨l, hl, rfl, hnx⟩ := hrel
            have HN2 : Hid (Below w5.heap.size w5 wr) := hnx
            clear hnx
            by_cases hl5 : l < 5
            · have hcy : wr.cell? ⟨gy, oy + l, none⟩ = some (.int .i64 (Y.getD l 0)) := by rw [HN2.out.cell (p := ⟨gy, oy + l, none⟩) ly]; exact KY.out l hl5
              have HQ : Hid (Y.getD l 0 ∈ Y) := Mem.getD_mem (by rw [Y5.out]; exact hl5)
              generalize Y.getD l 0 = q at hcy HQ
              have HGpq : Hid _ := HG.out p HP.out q HQ.out
              go_wp2_with fail
              refine (Cmp.impl_Compare _ _ _ _ _ _ (Cmp.CmpTab.below TC.out (Frame.next BWx.out HN2.out BWx.out.size))).mono ?_
              rintro e w6 ⟨rfl, hb6⟩
              have HN3 : Hid (Below w5.heap.size w5 w6) := Frame.next HN2.out hb6 HN2.out.size
              rw [HGpq.out.1]
              have hd1 : (Cmp.cmpV k false p false q == 1) = false := by simpa using HGpq.out.2.1
              by_cases hc1 : Cmp.cmpV k b1 n1 b2 n2 = 1
              · have hcb : (Cmp.cmpV k b1 n1 b2 n2 != 1) = false := by simp [hc1]
                clear hb6 hcy hc1
                go_wp2
                go_roundw
                case rel => exact ⟨l + 1, by omega, by go_num, HN3.out⟩
                case measure => simp [intOf]; omega
              · have hcb : (Cmp.cmpV k b1 n1 b2 n2 != 1) = true := by simp [hc1]
                have hcb2 : (Cmp.cmpV k b1 n1 b2 n2 == 1) = false := by simp [hc1]
                rw [HGpq.out.2.2 hc1]
                clear hb6 hcy hc1 hd1
                go_wp2
                go_roundw
                case rel => exact ⟨l + 1, by omega, by go_num, HN3.out⟩
                case measure => simp [intOf]; omega
            · go_wp2
              go_roundw
              case rel => exact ⟨j + 1, by omega, by go_num, HN2.out⟩
              case measure => simp [intOf]; omega
        · have f0 : wr.cell? ⟨w1.heap.size, 0, none⟩ = some (.bool b1) := by rw [HN.out.cell (p := ⟨w1.heap.size, 0, none⟩) (by show w1.heap.size < _; omega)]; exact E0.out
          have f2 : wr.cell? ⟨w1.heap.size + 1, 0, none⟩ = some (.bool b2) := by rw [HN.out.cell (p := ⟨w1.heap.size + 1, 0, none⟩) (by show w1.heap.size + 1 < _; omega)]; exact E2.out
          have BW : Hid (Below w.heap.size w wr) := Frame.next BWx.out HN.out BWx.out.size
          have hjf : decide ((j : Int) < 5) = false := by simp; omega
          clear HN HG E0 E2 HRX HRY KX KY X5 Y5 BWx
          cases b1
          · have hu : (Cmp.cmpV k false n1 b2 n2 == 1) = b2 := by have := HU.out; simpa using this
            clear HU
            go_wp2_with fail
            refine (Draw1b.draw_SameValue _ _ _ _ _ (Mem.IsRow.below HD.out BW.out)).mono ?_
            rintro e w5 ⟨u1, u2, m1, m2, rfl, hu1, hu2, hb5⟩
            have BW5 : Hid (Below w.heap.size w w5) := Frame.next BW.out hb5 BW.out.size
            have s5 := BW5.out.size
            clear hb5 BW
            go_wp2_with fail
            refine (Same.impl_SameValue _ _ _ _ _).mono ?_
            rintro e w6 ⟨rfl, hb6⟩
            have s6 : w5.heap.size + 2 ≤ w6.heap.size := by have := hb6.size; simp at this; omega
            have p0 : w6.cell? ⟨w5.heap.size, 0, none⟩ = some (.bool u1) := by rw [(Frame.bcell hb6).1 _ _ (by simp; omega)]; simp
            have p1 : w6.cell? ⟨w5.heap.size, 1, none⟩ = some (.int .i64 m1) := by rw [(Frame.bcell hb6).1 _ _ (by simp; omega)]; simp
            have p2 : w6.cell? ⟨w5.heap.size + 1, 0, none⟩ = some (.bool u2) := by rw [(Frame.bcell hb6).1 _ _ (by simp)]; simp
            have p3 : w6.cell? ⟨w5.heap.size + 1, 1, none⟩ = some (.int .i64 m2) := by rw [(Frame.bcell hb6).1 _ _ (by simp)]; simp
            have BW6 : Hid (Below w.heap.size w w6) := Frame.next ((BW5.out.alloc s5 _).alloc (by simp; omega) _) hb6 (by simp; omega)
            clear hb6 BW5
            go_wp2_with fail
            refine (Same.spec_SameValue _ _ _ _ _).mono ?_
            rintro e w7 ⟨rfl, hb7⟩
            have q0 : w7.cell? ⟨w5.heap.size, 0, none⟩ = some (.bool u1) := by rw [(Frame.bcell hb7).1 _ _ (by omega)]; exact p0
            have q1 : w7.cell? ⟨w5.heap.size, 1, none⟩ = some (.int .i64 m1) := by rw [(Frame.bcell hb7).1 _ _ (by omega)]; exact p1
            have s7 : w6.heap.size ≤ w7.heap.size := hb7.size
            have Q0 : Hid _ := q0
            have Q1 : Hid _ := q1
            have BW7 : Hid (Below w.heap.size w w7) := Frame.next BW6.out hb7 BW6.out.size
            clear hb7 BW6 p0 p1 p2 p3 q0 q1
            go_wp2_with fail
            refine (Draw1b.draw_FillsOf _ _ _ _ _ (Mem.IsRow.below HD.out BW7.out)).mono ?_
            rintro e w8 ⟨fb, fn, a8, c8, us, rfl, hfn, ho8, hl8, hw8, hb8⟩
            have W8 : Hid (∀ z ∈ us, (Lit.int .i64 z).wf = true) := hw8
            have FW : Hid (∀ z ∈ Fill.fillV fb fn us, (Lit.int .i64 z).wf = true) := fill_wf fb fn us hfn hw8
            have FL : (Fill.fillV fb fn us).length ≤ 4 := by
              unfold Fill.fillV
              split
              · rw [Fill.fillX_length]; omega
              · simp
            have O8 : Hid (w8.ownsRow w7.heap.size 3 1 (.slice a8 us.length c8) us.length (Mem.ints .i64 us)) := ho8
            have BW8 : Hid (Below w.heap.size w w8) := Frame.next BW7.out hb8 BW7.out.size
            have R0 : Hid (w8.cell? ⟨w5.heap.size, 0, none⟩ = some (.bool u1)) := by show _ = _; rw [(Frame.bcell hb8).1 _ _ (by omega)]; exact Q0.out
            have R1 : Hid (w8.cell? ⟨w5.heap.size, 1, none⟩ = some (.int .i64 m1)) := by show _ = _; rw [(Frame.bcell hb8).1 _ _ (by omega)]; exact Q1.out
            have s8 : w7.heap.size ≤ w8.heap.size := hb8.size
            obtain ⟨_, _, e8, hr8⟩ := Mem.isRow_own (ho8.alloc (.cells #[.bool fb, .int .i64 fn] 34)) hw8
            cases e8
            have HR8 : Hid _ := hr8
            clear hb8 BW7 Q0 Q1 ho8 hw8 hr8
            go_wp2_with fail
            refine (Fill.impl_FillsOf _ _ _ _ _ _ _ HR8.out (by omega)).mono ?_
            rintro e w9 ⟨a9, c9, rfl, ho9, hb9⟩
            have s9 : w8.heap.size + 1 ≤ w9.heap.size := by simpa using hb9.size
            have t0 : w9.cell? ⟨w8.heap.size, 0, none⟩ = some (.bool fb) := by rw [(Frame.bcell hb9).1 _ _ (by simp)]; simp
            have t1 : w9.cell? ⟨w8.heap.size, 1, none⟩ = some (.int .i64 fn) := by rw [(Frame.bcell hb9).1 _ _ (by simp)]; simp
            have BW9 : Hid (Below w.heap.size w w9) := Frame.next (BW8.out.alloc BW8.out.size _) hb9 (by have := BW8.out.size; simp; omega)
            have R0a : Hid (w9.cell? ⟨w5.heap.size, 0, none⟩ = some (.bool u1)) := by show _ = _; rw [(Frame.bcell hb9).1 _ _ (by simp; omega), (Frame.bcell (Draw1.below_alloc _ _)).1 _ _ (by omega)]; exact R0.out
            have R1a : Hid (w9.cell? ⟨w5.heap.size, 1, none⟩ = some (.int .i64 m1)) := by show _ = _; rw [(Frame.bcell hb9).1 _ _ (by simp; omega), (Frame.bcell (Draw1.below_alloc _ _)).1 _ _ (by omega)]; exact R1.out
            have HR8a : Hid _ := Mem.IsRow.below HR8.out hb9
            have O9 : Hid _ := ho9
            clear hb9 BW8 R0 R1 HR8 O8 ho9
            go_wp2_with fail
            refine (Fill.spec_FillsOf _ _ _ _ _ _ _ HR8a.out (by omega)).mono ?_
            rintro e w10 ⟨a10, c10, rfl, ho10, hb10⟩
            have BW10 : Hid (Below w.heap.size w w10) := Frame.next BW9.out hb10 BW9.out.size
            have r0 : w10.cell? ⟨w5.heap.size, 0, none⟩ = some (.bool u1) := by rw [(Frame.bcell hb10).1 _ _ (by omega)]; exact R0a.out
            have r1 : w10.cell? ⟨w5.heap.size, 1, none⟩ = some (.int .i64 m1) := by rw [(Frame.bcell hb10).1 _ _ (by omega)]; exact R1a.out
            obtain ⟨_, _, e9, hr9⟩ := Mem.isRow_own (Mem.own_below O9.out hb10) FW.out
            cases e9
            obtain ⟨_, _, e10, hr10⟩ := Mem.isRow_own ho10 FW.out
            cases e10
            have HR9 : Hid (Frame.IsRow .i64 w10 a9 (Fill.fillV fb fn us).length c9 (Fill.fillV fb fn us)) := hr9
            have HR10 : Hid (Frame.IsRow .i64 w10 a10 (Fill.fillV fb fn us).length c10 (Fill.fillV fb fn us)) := hr10
            clear hb10 BW9 R0a R1a HR8a O9 ho10 hr9 hr10 t0 t1
            go_wp2_with fail
            go_region_held3 (fun w' => Below w10.heap.size w10 w' ∧ w'.cell? ⟨w5.heap.size, 0, none⟩ = some (.bool u1) ∧ w'.cell? ⟨w5.heap.size, 1, none⟩ = some (.int .i64 m1))
              (first | exact ⟨(Below.refl _ _).drew, r0, r1⟩ | exact (fun kb => ⟨kb, Frame.held_cell kb r0, Frame.held_cell kb r1⟩) (Frame.held_next ‹Below w10.heap.size w10 _ ∧ _› hb))
              (first
                | (go_at_call 25; refine (Ints.sameInts _ _ _ _ _ _ (Fill.fillV fb fn us) (Fill.fillV fb fn us) _ ?_ ?_ ?_ ?_).mono ?_; exact Mem.IsRow.below HR9.out (And.left ‹Below w10.heap.size w10 _ ∧ _›); exact Mem.IsRow.below HR10.out (And.left ‹Below w10.heap.size w10 _ ∧ _›); omega; omega; rintro e w11 ⟨rfl, hb⟩; try rw [decide_eq_true (Eq.refl (Fill.fillV fb fn us))])
                | (go_at_call 26; refine (Val.impl_GoodValue _ _ _).mono ?_; rintro e w11 ⟨rfl, hb⟩)
                | (go_at_call 27; refine (Val.spec_GoodValue _ _ _).mono ?_; rintro e w11 ⟨rfl, hb⟩))
            all_goals have b11 := Frame.next BW10.out (And.left ‹Below w10.heap.size w10 _ ∧ _›) BW10.out.size
            all_goals go_wp2
            all_goals go_ret
            all_goals exact ⟨rfl, b11⟩
          · have hu : (Cmp.cmpV k true n1 b2 n2 == 1) = true := by have := HU.out; simpa using this
            clear HU
            go_wp2_with fail
            refine (Draw1b.draw_SameValue _ _ _ _ _ (Mem.IsRow.below HD.out BW.out)).mono ?_
            rintro e w5 ⟨u1, u2, m1, m2, rfl, hu1, hu2, hb5⟩
            have BW5 : Hid (Below w.heap.size w w5) := Frame.next BW.out hb5 BW.out.size
            have s5 := BW5.out.size
            clear hb5 BW
            go_wp2_with fail
            refine (Same.impl_SameValue _ _ _ _ _).mono ?_
            rintro e w6 ⟨rfl, hb6⟩
            have s6 : w5.heap.size + 2 ≤ w6.heap.size := by have := hb6.size; simp at this; omega
            have p0 : w6.cell? ⟨w5.heap.size, 0, none⟩ = some (.bool u1) := by rw [(Frame.bcell hb6).1 _ _ (by simp; omega)]; simp
            have p1 : w6.cell? ⟨w5.heap.size, 1, none⟩ = some (.int .i64 m1) := by rw [(Frame.bcell hb6).1 _ _ (by simp; omega)]; simp
            have p2 : w6.cell? ⟨w5.heap.size + 1, 0, none⟩ = some (.bool u2) := by rw [(Frame.bcell hb6).1 _ _ (by simp)]; simp
            have p3 : w6.cell? ⟨w5.heap.size + 1, 1, none⟩ = some (.int .i64 m2) := by rw [(Frame.bcell hb6).1 _ _ (by simp)]; simp
            have BW6 : Hid (Below w.heap.size w w6) := Frame.next ((BW5.out.alloc s5 _).alloc (by simp; omega) _) hb6 (by simp; omega)
            clear hb6 BW5
            go_wp2_with fail
            refine (Same.spec_SameValue _ _ _ _ _).mono ?_
            rintro e w7 ⟨rfl, hb7⟩
            have q0 : w7.cell? ⟨w5.heap.size, 0, none⟩ = some (.bool u1) := by rw [(Frame.bcell hb7).1 _ _ (by omega)]; exact p0
            have q1 : w7.cell? ⟨w5.heap.size, 1, none⟩ = some (.int .i64 m1) := by rw [(Frame.bcell hb7).1 _ _ (by omega)]; exact p1
            have s7 : w6.heap.size ≤ w7.heap.size := hb7.size
            have Q0 : Hid _ := q0
            have Q1 : Hid _ := q1
            have BW7 : Hid (Below w.heap.size w w7) := Frame.next BW6.out hb7 BW6.out.size
            clear hb7 BW6 p0 p1 p2 p3 q0 q1
            go_wp2_with fail
            refine (Draw1b.draw_FillsOf _ _ _ _ _ (Mem.IsRow.below HD.out BW7.out)).mono ?_
            rintro e w8 ⟨fb, fn, a8, c8, us, rfl, hfn, ho8, hl8, hw8, hb8⟩
            have W8 : Hid (∀ z ∈ us, (Lit.int .i64 z).wf = true) := hw8
            have FW : Hid (∀ z ∈ Fill.fillV fb fn us, (Lit.int .i64 z).wf = true) := fill_wf fb fn us hfn hw8
            have FL : (Fill.fillV fb fn us).length ≤ 4 := by
              unfold Fill.fillV
              split
              · rw [Fill.fillX_length]; omega
              · simp
            have O8 : Hid (w8.ownsRow w7.heap.size 3 1 (.slice a8 us.length c8) us.length (Mem.ints .i64 us)) := ho8
            have BW8 : Hid (Below w.heap.size w w8) := Frame.next BW7.out hb8 BW7.out.size
            have R0 : Hid (w8.cell? ⟨w5.heap.size, 0, none⟩ = some (.bool u1)) := by show _ = _; rw [(Frame.bcell hb8).1 _ _ (by omega)]; exact Q0.out
            have R1 : Hid (w8.cell? ⟨w5.heap.size, 1, none⟩ = some (.int .i64 m1)) := by show _ = _; rw [(Frame.bcell hb8).1 _ _ (by omega)]; exact Q1.out
            have s8 : w7.heap.size ≤ w8.heap.size := hb8.size
            obtain ⟨_, _, e8, hr8⟩ := Mem.isRow_own (ho8.alloc (.cells #[.bool fb, .int .i64 fn] 34)) hw8
            cases e8
            have HR8 : Hid _ := hr8
            clear hb8 BW7 Q0 Q1 ho8 hw8 hr8
            go_wp2_with fail
            refine (Fill.impl_FillsOf _ _ _ _ _ _ _ HR8.out (by omega)).mono ?_
            rintro e w9 ⟨a9, c9, rfl, ho9, hb9⟩
            have s9 : w8.heap.size + 1 ≤ w9.heap.size := by simpa using hb9.size
            have t0 : w9.cell? ⟨w8.heap.size, 0, none⟩ = some (.bool fb) := by rw [(Frame.bcell hb9).1 _ _ (by simp)]; simp
            have t1 : w9.cell? ⟨w8.heap.size, 1, none⟩ = some (.int .i64 fn) := by rw [(Frame.bcell hb9).1 _ _ (by simp)]; simp
            have BW9 : Hid (Below w.heap.size w w9) := Frame.next (BW8.out.alloc BW8.out.size _) hb9 (by have := BW8.out.size; simp; omega)
            have R0a : Hid (w9.cell? ⟨w5.heap.size, 0, none⟩ = some (.bool u1)) := by show _ = _; rw [(Frame.bcell hb9).1 _ _ (by simp; omega), (Frame.bcell (Draw1.below_alloc _ _)).1 _ _ (by omega)]; exact R0.out
            have R1a : Hid (w9.cell? ⟨w5.heap.size, 1, none⟩ = some (.int .i64 m1)) := by show _ = _; rw [(Frame.bcell hb9).1 _ _ (by simp; omega), (Frame.bcell (Draw1.below_alloc _ _)).1 _ _ (by omega)]; exact R1.out
            have HR8a : Hid _ := Mem.IsRow.below HR8.out hb9
            have O9 : Hid _ := ho9
            clear hb9 BW8 R0 R1 HR8 O8 ho9
            go_wp2_with fail
            refine (Fill.spec_FillsOf _ _ _ _ _ _ _ HR8a.out (by omega)).mono ?_
            rintro e w10 ⟨a10, c10, rfl, ho10, hb10⟩
            have BW10 : Hid (Below w.heap.size w w10) := Frame.next BW9.out hb10 BW9.out.size
            have r0 : w10.cell? ⟨w5.heap.size, 0, none⟩ = some (.bool u1) := by rw [(Frame.bcell hb10).1 _ _ (by omega)]; exact R0a.out
            have r1 : w10.cell? ⟨w5.heap.size, 1, none⟩ = some (.int .i64 m1) := by rw [(Frame.bcell hb10).1 _ _ (by omega)]; exact R1a.out
            obtain ⟨_, _, e9, hr9⟩ := Mem.isRow_own (Mem.own_below O9.out hb10) FW.out
            cases e9
            obtain ⟨_, _, e10, hr10⟩ := Mem.isRow_own ho10 FW.out
            cases e10
            have HR9 : Hid (Frame.IsRow .i64 w10 a9 (Fill.fillV fb fn us).length c9 (Fill.fillV fb fn us)) := hr9
            have HR10 : Hid (Frame.IsRow .i64 w10 a10 (Fill.fillV fb fn us).length c10 (Fill.fillV fb fn us)) := hr10
            clear hb10 BW9 R0a R1a HR8a O9 ho10 hr9 hr10 t0 t1
            go_wp2_with fail
            go_region_held3 (fun w' => Below w10.heap.size w10 w' ∧ w'.cell? ⟨w5.heap.size, 0, none⟩ = some (.bool u1) ∧ w'.cell? ⟨w5.heap.size, 1, none⟩ = some (.int .i64 m1))
              (first | exact ⟨(Below.refl _ _).drew, r0, r1⟩ | exact (fun kb => ⟨kb, Frame.held_cell kb r0, Frame.held_cell kb r1⟩) (Frame.held_next ‹Below w10.heap.size w10 _ ∧ _› hb))
              (first
                | (go_at_call 25; refine (Ints.sameInts _ _ _ _ _ _ (Fill.fillV fb fn us) (Fill.fillV fb fn us) _ ?_ ?_ ?_ ?_).mono ?_; exact Mem.IsRow.below HR9.out (And.left ‹Below w10.heap.size w10 _ ∧ _›); exact Mem.IsRow.below HR10.out (And.left ‹Below w10.heap.size w10 _ ∧ _›); omega; omega; rintro e w11 ⟨rfl, hb⟩; try rw [decide_eq_true (Eq.refl (Fill.fillV fb fn us))])
                | (go_at_call 26; refine (Val.impl_GoodValue _ _ _).mono ?_; rintro e w11 ⟨rfl, hb⟩)
                | (go_at_call 27; refine (Val.spec_GoodValue _ _ _).mono ?_; rintro e w11 ⟨rfl, hb⟩))
            all_goals have b11 := Frame.next BW10.out (And.left ‹Below w10.heap.size w10 _ ∧ _›) BW10.out.size
            all_goals go_wp2
            all_goals go_ret
            all_goals exact ⟨rfl, b11⟩

theorem contract (H : Type) (enc : TypeId × Value → H) (W : World) (base : Nat) (args : Array Value) (ds gs : List (DataW H)) (before : List MemPlace)
    (hval0 : ∀ (j : Nat) t v, Tryd.f4.params[j]? = some t → args[j]? = some v → Value.okWide Tryd.prog W .any base t v)
    (hW : DataW.Whole enc Tryd.prog Tryd.f4.params.toList Rows.fnComparedSpec.vars false W args.toList ds gs before) (hL : laidMetH Tryd.prog Rows.fnComparedRow.laid W) :
    Calls Tryd.prog 4 args W fun e W' => ∃ v, e = .returned v ∧ Rows.fnComparedSpec.post enc Tryd.prog Tryd.f4 false true false false W args v W' := by
  refine Frame.law_calls (tb := 4) laidOut (by kernel_rfl) (by kernel_rfl) (by kernel_rfl) Tryd.underlying4 hW (fun ds gs h1 h2 => ?_) ?_
  · rw [Tryd.params4] at h1
    match ds, gs, h1, h2 with
    | [_, _], [_], _, _ => rfl
  · obtain ⟨p, q, hA0, _, _, _, _⟩ := hW
    have hval : ∀ (j : Nat) t v, Tryd.f4.params[j]? = some t → args[j]? = some v → Value.okWide Tryd.prog W .any base t v := hval0
    have hA : DataW.TrodAll enc Tryd.prog W 0 (fun _ => true) true Tryd.f4.params.toList args.toList ds p := hA0
    rw [Tryd.params4] at hA hval
    obtain ⟨v0, vs0, d0, ds0, p0, q0, hargs, rfl, rfl, h0, r0⟩ := trodAll_cons hA
    obtain ⟨v1, vs1, d1, ds1, p1, q1, rfl, rfl, rfl, h1, r1⟩ := trodAll_cons r0
    obtain ⟨rfl, rfl, rfl⟩ := trodAll_nil r1
    obtain rfl : args = #[v0, v1] := by cases args; simp_all
    obtain ⟨a0, len0, cap0, rfl⟩ := okWide_slice Tryd.underlying22 (hval 0 22 v0 rfl rfl)
    obtain ⟨z0, w0⟩ := Frame.isRow_of Tryd.underlying22 Tryd.underlying5 (by kernel_rfl) h0
    obtain ⟨a1, len1, cap1, rfl⟩ := okWide_slice Tryd.underlying22 (hval 1 22 v1 rfl rfl)
    obtain ⟨z1, w1⟩ := Frame.isRow_of Tryd.underlying22 Tryd.underlying5 (by kernel_rfl) h1
    exact walk a0 len0 cap0 z0 a1 len1 cap1 z1 W w0 w1 (table0 hL)

theorem laid_met (os : Os) : laidMetH Tryd.prog Rows.fnComparedRow.laid ((World.doorLaid Tryd.prog 400 os).forCall (fun _ _ => 0) ⟨#[], #[.slice none 0 0, .slice none 0 0], []⟩).memory :=
  laidMetH_of_parts3 (fuel := 8) (laidMet_of_run' 8 (by kernel_rfl) (by kernel_rfl)) (by kernel_rfl) (by kernel_rfl)

set_option maxRecDepth 100000 in
theorem lifted (os : Os) (started : os.Started) (H : Type) (enc : TypeId × Value → H) (F : Stop.Interp) :
    ReturnsInHanded {} Tryd.checked os 4 .any ((OpenSpec.ofChange Rows.fnComparedSpec).preRow enc Tryd.prog Tryd.f4 Rows.fnComparedRow.domain false Rows.fnComparedRow.laid) (((OpenSpec.ofChange Rows.fnComparedSpec).at F).post enc Tryd.prog Tryd.f4 false true false false) := by
  obtain ⟨places, hx⟩ : ∃ places, DataW.whole enc Tryd.prog ((World.doorLaid Tryd.prog 400 os).forCall (fun _ _ => 0) ⟨#[], #[.slice none 0 0, .slice none 0 0], []⟩).memory Tryd.f4.params.toList Rows.fnComparedSpec.vars false #[Value.slice none 0 0, Value.slice none 0 0].toList 8 = some ([.nil, .nil], [Rows.laid_loop_example_g00641_impl_toldByKind], places) := ⟨MemPlace.row ⟨3, 0, none⟩ 9, by kernel_rfl⟩
  refine returnsInHanded_of_row (C := Tryd.checked) (s := OpenSpec.ofChange Rows.fnComparedSpec) own started (by kernel_rfl) Tryd.func4
    (witness_row_at (enc := enc) (C := Tryd.checked) false (World.doorLaid Tryd.prog 400 os) #[.slice none 0 0, .slice none 0 0] rfl (by kernel_rfl) (by kernel_rfl) (by kernel_rfl)
      (OpenSpec.preRow_of_cond 8 hx (by kernel_rfl) (fun k hk => by cases hk) (by kernel_rfl) (laid_met os))) ?_
  intro W base args ds gs before hval hW _ _ _ hL _ _
  exact contract H enc W base args ds gs before hval hW hL

theorem said : Rows.FnComparedSaid :=
  OpenClaim.holds_of_cond 4 Tryd.f4 rfl rfl rfl rfl rfl rfl rfl ⟨rfl, rfl, rfl, rfl, rfl⟩ rfl rfl rfl rfl rfl (by kernel_rfl) Tryd.func4 (by kernel_rfl)
    (of_decide_eq_true (by kernel_rfl)) (by unfold Func.isWrapper; first | (rw [if_pos (by decide +kernel)]; kernel_rfl) | (rw [if_neg (by decide +kernel)]; exact ⟨rfl, rfl⟩))
    (fun os started H enc _ F => by rw [OpenClaim.pre_eq_preRow]; exact lifted os started H enc F)

theorem plain (f : FuncId) (fn : Func) (hf : Tryd.pinned.checked.prog.funcNamed "loop.example/g00641/laws.FnCompared" = some f) (hfn : Tryd.pinned.checked.prog.funcs[f]? = some fn) :
    false = Tryd.pinned.checked.prog.looks [] ∧ ∀ (j : Nat) t, fn.params[j]? = some t → Tryd.pinned.checked.prog.wantsStandIn t = false := by
  obtain rfl : f = 4 := Option.some.inj ((show Tryd.prog.funcNamed "loop.example/g00641/laws.FnCompared" = some 4 by kernel_rfl).symm.trans hf) |>.symm
  obtain rfl : fn = Tryd.f4 := (Option.some.inj (Tryd.func4.symm.trans hfn)).symm
  refine ⟨by kernel_rfl, fun j t ht => ?_⟩
  have hm := Array.mem_of_getElem? ht
  have hall : (Tryd.f4.params.toList.all fun u => !Tryd.prog.wantsStandIn u) = true := by kernel_rfl
  exact (show Tryd.prog.wantsStandIn t = false by simpa using List.all_eq_true.1 hall t (by simpa using hm))

/-- The card. -/
theorem proved : Rows.FnComparedCardSaid :=
  Claim7.holds_tied_plain_at .later [] _ _ _ _ said (fun _ h => by cases h) (by kernel_rfl) (fun _ h => by cases h) fnCompared_row_tie rfl ⟨rfl, rfl⟩ (by kernel_rfl) rfl plain (by kernel_rfl)
#print axioms proved

end Go.Proofs.YtbjpfmnkapmohaaDoor.fnCompared
