/-
  What chapter 1's drawn arguments may be: some numbers, some values, some lists; which ones nothing asks.
-/
import Derived.Test.YtbjpfmnkapmohaaDoorCur
import Derived.Test.YtbjpfmnkapmohaaDoorInts
namespace Go.Proofs.YtbjpfmnkapmohaaDoor.Draw1
open Go.RowKit
open Go.Proofs.YtbjpfmnkapmohaaDoor.Frame Go.Proofs.YtbjpfmnkapmohaaDoor.Mem Go.Proofs.YtbjpfmnkapmohaaDoor.Cur

/-- A list that has just been laid. -/
theorem isRow_lit (w : World) (t : TypeId) (zs : List Int) (h : zs.length ≤ 1000) (hw : ∀ z ∈ zs, (Lit.int .i64 z).wf = true) :
    IsRow .i64 (w.alloc (.cells (ints .i64 zs).toArray t)) (some ⟨w.heap.size, 0, none⟩) zs.length zs.length zs := by
  refine ⟨rfl, Nat.le_refl _, by unfold maxLen; omega, hw, fun _ => ⟨w.heap.size, 0, rfl, by simp, fun i hi => ?_⟩⟩
  rw [Nat.zero_add, World.cell?_alloc_at _ _ _ _ rfl]
  simpa using ints_get .i64 zs i hi

theorem lit_wf {zs : List Int} (h : (zs.all fun z => decide (-2000 ≤ z ∧ z ≤ 2000)) = true) : ∀ z ∈ zs, (Lit.int .i64 z).wf = true := by
  intro z hz
  have := List.all_eq_true.1 h z hz
  simp only [decide_eq_true_eq] at this
  exact int_wf z (by omega) (by omega)

theorem below_alloc (w : World) (o : Obj) : Below w.heap.size w (w.alloc o) := (Below.refl _ _).alloc (Nat.le_refl _) o

theorem truth (b : Nat) (t : Int) (w : World) (h : Is b t w) (ht : t ≤ 900000) :
    Calls Tryd.prog 28 #[.pointer (some ⟨b, 0, none⟩)] w fun e w' => ∃ x : Int, e = .returned (.int .i64 x) ∧ -1 ≤ x ∧ x ≤ 3 ∧ Moved b (t + 2) w w' := by
  have H : Hid (Is b t w) := h
  have hbl := h.lt
  clear h
  go_enter Tryd.func28, Tryd.ntmps28
  go_wp2_with fail
  refine (among b t _ 8 8 [0, 0, 1, 1, 2, 2, -1, 3] _ (H.out.below (below_alloc _ _)) (isRow_lit w 3 [0, 0, 1, 1, 2, 2, -1, 3] (by decide) (lit_wf (by decide))) (fun x hx => by cases hx; show w.heap.size ≠ b; omega) (by omega) (by omega) (by omega)).mono ?_
  rintro e w1 ⟨x, rfl, hx, hl⟩
  have HL : Hid _ := hl
  have HX : Hid (-1 ≤ x ∧ x ≤ 3) := by
    simp only [List.mem_cons, List.not_mem_nil, or_false] at hx
    show _ ∧ _
    omega
  clear hl hx
  go_wp2
  go_ret
  exact ⟨x, rfl, HX.out.1, HX.out.2, HL.out.1, (OnlyAt.of_below (below_alloc _ _)).trans HL.out.2⟩

/-- A reader that has just been made over what came in. -/
theorem is_new {w : World} {a : Option Addr} {n cap : Nat} {zs : List Int} (h : IsRow .u8 w a n cap zs) (tt : TypeId) : Is w.heap.size 0 (w.alloc (.cells #[.slice a n cap, .int .i64 0, .int .u64 0] tt)) := by
  refine ⟨a, n, cap, zs, 0, 0, IsRow.below h (below_alloc _ _), fun x hx h0 => ?_, by simp, by simp, by simp, by omega, by omega, by decide, ?_, ?_⟩
  · obtain ⟨c, off, rfl, hlt, _⟩ := h.cells h0
    cases hx
    exact hlt
  · exact World.frozen?_alloc_at _ _ _ _ rfl
  · exact World.frozen?_alloc_at _ _ _ _ rfl

theorem left_below {w w' : World} {o : Obj} {t : Int} (h : Moved w.heap.size t (w.alloc o) w') : Below w.heap.size w w' :=
  below_touch (below_alloc w o) h.2 (fun x hx => by cases hx; exact Nat.le_refl _) (by simp)

theorem draw_AndOf (a : Option Addr) (n cap : Nat) (zs : List Int) (w : World) (h : IsRow .u8 w a n cap zs) :
    Calls Tryd.prog 5 #[.slice a n cap] w fun e w' => ∃ x y : Int, e = .returned (.tuple #[.int .i64 x, .int .i64 y]) ∧ Below w.heap.size w w' := by
  have H : Hid _ := is_new h 51
  clear h
  go_enter Tryd.func5, Tryd.ntmps5
  go_wp2_with fail
  refine (truth w.heap.size 0 _ H.out (by omega)).mono ?_
  rintro e w1 ⟨x, rfl, hx0, hx1, hl⟩
  have HL : Hid _ := hl
  clear hl
  go_wp2_with fail
  refine (truth w.heap.size _ _ HL.out.1 (by omega)).mono ?_
  rintro e w2 ⟨y, rfl, hy0, hy1, hl⟩
  have HL2 : Hid _ := Moved.next HL.out hl
  clear hl
  go_wp2
  go_ret2
  exact ⟨x, y, rfl, left_below HL2.out⟩

theorem draw_NotOf (a : Option Addr) (n cap : Nat) (zs : List Int) (w : World) (h : IsRow .u8 w a n cap zs) :
    Calls Tryd.prog 12 #[.slice a n cap] w fun e w' => ∃ x : Int, e = .returned (.int .i64 x) ∧ Below w.heap.size w w' := by
  have H : Hid _ := is_new h 51
  clear h
  go_enter Tryd.func12, Tryd.ntmps12
  go_wp2_with fail
  refine (truth w.heap.size 0 _ H.out (by omega)).mono ?_
  rintro e w1 ⟨x, rfl, hx0, hx1, hl⟩
  have HL : Hid _ := hl
  clear hl
  go_wp2
  go_ret
  exact ⟨x, rfl, left_below HL.out⟩

/-- A reader stays where its own block and all below it stay. -/
theorem is_blocks {b : Nat} {t : Int} {w w' : World} (h : Is b t w) (hk : ∀ k, k ≤ b → w'.heap[k]? = w.heap[k]?) (hs : w.heap.size ≤ w'.heap.size) : Is b t w' := by
  obtain ⟨a, len, cap, zs, at_, seed, hr, hne, c0, c1, c2, ha0, hat, hsd, f1, f2⟩ := h
  have hb := hk b (Nat.le_refl _)
  refine ⟨a, len, cap, zs, at_, seed, ⟨hr.len, hr.fits, hr.max, hr.wf, fun h0 => ?_⟩, hne, ?_, ?_, ?_, ha0, hat, hsd, ?_, ?_⟩
  · obtain ⟨bb, off, ha, hlt, hc⟩ := hr.cells h0
    refine ⟨bb, off, ha, Nat.lt_of_lt_of_le hlt hs, fun i hi => ?_⟩
    rw [World.cell?_of_block (w := w) (hk bb (Nat.le_of_lt (hne _ ha h0)))]
    exact hc i hi
  · rw [World.cell?_of_block (w := w) hb]; exact c0
  · rw [World.cell?_of_block (w := w) hb]; exact c1
  · rw [World.cell?_of_block (w := w) hb]; exact c2
  · rw [World.frozen?_of_block (w := w) hb]; exact f1
  · rw [World.frozen?_of_block (w := w) hb]; exact f2

theorem own_left {w w' : World} {b : Nat} {t : Int} {base : Nat} {e : TypeId} {size : Nat} {a : Option Addr} {n cap : Nat} {xs : List Value} (h : w.ownsRow base e size (.slice a n cap) n xs) (hb : b < base) (m : Moved b t w w') : w'.ownsRow base e size (.slice a n cap) n xs :=
  own_touch h m.2 (fun x y hx hy => by cases hy; have := (own_block h x hx).1; show x.block ≠ b; omega)

set_option maxHeartbeats 1600000 in
theorem draw_AllOf (a : Option Addr) (n cap : Nat) (zs : List Int) (w : World) (h : IsRow .u8 w a n cap zs) :
    Calls Tryd.prog 14 #[.slice a n cap] w fun e w' => ∃ (a1 : Option Addr) (c1 : Nat) (ys : List Int), e = .returned (.slice a1 ys.length c1) ∧ w'.ownsRow w.heap.size 3 1 (.slice a1 ys.length c1) ys.length (ints .i64 ys) ∧ ys.length ≤ 21 ∧ (∀ z ∈ ys, (Lit.int .i64 z).wf = true) ∧ Below w.heap.size w w' := by
  obtain ⟨i0, hi, hz0, hz1, hz2⟩ := info_parts Ints.info
  have H : Hid _ := is_new h 51
  clear h
  go_enter Tryd.func14, Tryd.ntmps14
  go_wp2_with fail
  refine (pick w.heap.size 0 5 _ H.out (by omega) (by omega) (by omega)).mono ?_
  rintro e w1 ⟨x, rfl, hx0, hx1, hl⟩
  have HL : Hid _ := hl
  clear hl
  go_wp2_with fail
  refine (one w.heap.size _ 20 _ HL.out.1 (by omega) (by omega) (by omega)).mono ?_
  rintro e w2 ⟨o, rfl, hl⟩
  have HL2 : Hid _ := Moved.next HL.out hl
  clear hl HL
  cases o
  · have HM : Hid (Moved w.heap.size 6 (w.alloc (.cells #[.slice a n cap, .int .i64 0, .int .u64 0] 51)) w2) := ⟨Is.mono HL2.out.1 (by omega), HL2.out.2⟩
    clear HL2
    obtain ⟨x, rfl⟩ := Int.eq_ofNat_of_zero_le hx0
    go_wp2_with fail
    go_loopw [4, 5] (fun l c wr => ∃ (m : Nat) (a1 : Option Addr) (c1 : Nat) (ys : List Int), c = .int .i64 m ∧ l = .slice a1 ys.length c1 ∧ wr.ownsRow (w.heap.size + 1) 3 1 (.slice a1 ys.length c1) ys.length (ints .i64 ys) ∧ ys.length + m ≤ 21 ∧ (∀ z ∈ ys, (Lit.int .i64 z).wf = true) ∧ Moved w.heap.size (6 + 2 * (ys.length : Int)) (w.alloc (.cells #[.slice a n cap, .int .i64 0, .int .u64 0] 51)) wr)
      (fun _ c _ => (intOf c).toNat)
    case atStart => exact ⟨x, none, 0, [], by go_num, rfl, World.ownsRow_nil _ _ _ _, by simp; omega, by simp, Is.mono HM.out.1 (by simp), HM.out.2⟩
    case round =>
      obtain ⟨m, a1, c1, ys, rfl, rfl, hown, hlen, hwf, hmv⟩ := hrel
      have HWF : Hid (∀ z ∈ ys, (Lit.int .i64 z).wf = true) := hwf
      have HMV : Hid (Moved w.heap.size (6 + 2 * (ys.length : Int)) (w.alloc (.cells #[.slice a n cap, .int .i64 0, .int .u64 0] 51)) wr) := hmv
      have hsz : w.heap.size < wr.heap.size := hmv.1.lt
      clear hwf hmv
      by_cases hm : 0 < m
      · have HO : Hid (wr.ownsRow (w.heap.size + 1) 3 1 (.slice a1 ys.length c1) ys.length (ints .i64 ys)) := hown
        clear hown
        go_wp2_with fail
        refine (among w.heap.size (6 + 2 * (ys.length : Int)) _ 5 5 [0, 1, 2, 2, 2] _ (Is.below HMV.out.1 (below_alloc _ _)) (isRow_lit wr 3 [0, 1, 2, 2, 2] (by decide) (lit_wf (by decide))) (fun x hx => by cases hx; show wr.heap.size ≠ w.heap.size; omega) (by omega) (by omega) (by omega)).mono ?_
        rintro e w4 ⟨z, rfl, hz, hl4⟩
        have HZ : Hid ((Lit.int .i64 z).wf = true) := lit_wf (zs := [0, 1, 2, 2, 2]) (by decide) z hz
        have hown4 := own_left (HO.out.alloc _) (by omega) hl4
        have hs4 : wr.heap.size + 1 ≤ w4.heap.size := by simpa using hl4.2.size
        have HL4 : Hid _ := hl4
        clear hz hl4
        go_wp2_with (at_builtin; refine wpList_append_own _ rfl _ _ 29 rfl (w.heap.size + 1) 3 i0 (.int .i64 0) 1 8 Tryd.underlying29 hi hz0 hz1 hz2 rfl (by decide) _ _ _ rfl (hown4.alloc _) ⟨w4.heap.size, 0, none⟩ 1 1 [.int .i64 z] rfl rfl ?c1 ?c2 ?c3 ?c4 ?c5 ?_)
        case c1 =>
          intro j u hj
          match j, hj with
          | 0, hj => simp at hj; subst hj; simp [Addr.add]
        case c2 => intro u hu; simp at hu; subst hu; rfl
        case c3 => unfold maxLen; omega
        case c4 => omega
        case c5 => simp; omega
        intro v' w5 hown' hgrow _
        obtain ⟨a5, c5, rfl⟩ := own_form hown'
        have e5 : ints .i64 ys ++ [Value.int .i64 z] = ints .i64 (ys ++ [z]) := by simp [ints]
        rw [e5] at hown'
        have HO5 : Hid _ := hown'
        have HB5 : Hid (OnlyAt (some ⟨w.heap.size, 0, none⟩) (w.alloc (.cells #[.slice a n cap, .int .i64 0, .int .u64 0] 51)) w5 ∧ Is w.heap.size (6 + 2 * (ys.length : Int) + 2) w5) := by
          have hne : ∀ g, (Value.slice a1 ys.length c1).ownBlock = some g → w.heap.size + 1 ≤ g ∧ g < w4.heap.size := fun g hg => by
            simp only [Value.ownBlock] at hg
            rcases a1 with _ | x
            · simp at hg
            · have := own_block hown4 x rfl
              simp at hg
              omega
          have hOK : ∀ k, k < w4.heap.size → k < w.heap.size + 1 → w5.heap[k]? = w4.heap[k]? := fun k hk hk2 => by
            rw [hgrow.block k (by simp; omega) (fun e => by have := hne k e.symm; omega)]
            exact Below.heap_alloc _ _ _ hk
          have hgs := hgrow.size
          simp at hgs
          have hm4 : OnlyAt (some ⟨w.heap.size, 0, none⟩) (w.alloc (.cells #[.slice a n cap, .int .i64 0, .int .u64 0] 51)) w4 := (HMV.out.2.trans (OnlyAt.of_below (below_alloc _ _))).trans HL4.out.2
          refine ⟨⟨hgrow.os.trans hm4.os, hgrow.tape.trans hm4.tape, hgrow.output.trans hm4.output, by have := hm4.size; simp at this ⊢; omega, fun k hk hk2 => ?_⟩, ?_⟩
          · have hk3 : k < w.heap.size + 1 := by simpa using hk
            rw [hOK k (by omega) hk3]
            exact hm4.block k hk hk2
          · exact is_blocks HL4.out.1 (fun k hk => hOK k (by omega) (by omega)) (by omega)
        clear hown4 hown' hgrow e5
        go_wp2
        go_roundw
        case rel => exact ⟨m - 1, a5, c5, ys ++ [z], by go_num, by simp, by rw [show (ys ++ [z]).length = ys.length + 1 by simp]; exact HO5.out, by simp; omega, fun q hq => by rcases List.mem_append.1 hq with h | h; exact HWF.out q h; simp at h; subst h; exact HZ.out, Is.mono HB5.out.2 (by simp; omega), HB5.out.1⟩
        case measure => simp [intOf]; omega
      · have hm0 : m = 0 := by omega
        subst hm0
        have HO : Hid (wr.ownsRow (w.heap.size + 1) 3 1 (.slice a1 ys.length c1) ys.length (ints .i64 ys)) := hown
        clear hown
        by_cases hy : 0 < ys.length
        · go_wp2_with fail
          refine (one w.heap.size _ 20 _ HMV.out.1 (by omega) (by omega) (by omega)).mono ?_
          rintro e w6 ⟨o6, rfl, hl6⟩
          have hown6 := own_left HO.out (by omega) hl6
          have HO6 : Hid _ := hown6
          have HB6 : Hid _ := left_below (Moved.next HMV.out hl6)
          cases o6
          · clear hown6 hl6
            go_wp2
            go_ret
            exact ⟨a1, c1, ys, rfl, own_base HO6.out (by omega), by omega, HWF.out, HB6.out⟩
          · obtain ⟨g, rfl⟩ : ∃ g, a1 = some ⟨g, 0, none⟩ := by
              rcases hown6.2 with ⟨h2, _⟩ | ⟨g, cap', cur, hv, _⟩
              · simp at h2; omega
              · simp only [Value.slice.injEq] at hv
                exact ⟨g, hv.1⟩
            have hst := hown6.stored 0 (.int .i64 3)
            have eset : (ints .i64 ys).set 0 (.int .i64 3) = ints .i64 (ys.set 0 3) := by simp [ints, List.map_set]
            rw [eset] at hst
            have HST : Hid _ := hst
            have hfz := hown6.frozenAt 0
            obtain ⟨old, hold⟩ : ∃ old, w6.cell? ⟨g, 0, none⟩ = some old := by
              rw [hown6.cellAt 0 (by omega)]
              exact ⟨_, List.getElem?_eq_getElem (by rw [ints_length]; omega)⟩
            have hgb := (own_block hown6 _ rfl).1
            have hgb' : w.heap.size ≤ g := by simp at hgb; omega
            clear hown6 hl6 hst eset hgb
            go_wp2
            go_ret
            exact ⟨some ⟨g, 0, none⟩, c1, ys.set 0 3, by simp, by rw [List.length_set]; exact own_base HST.out.1 (by omega), by rw [List.length_set]; omega, fun z hz => by rcases List.mem_or_eq_of_mem_set hz with h | h; exact HWF.out z h; subst h; decide, HB6.out.setCell hgb' _⟩
        · go_wp2
          go_ret
          exact ⟨a1, c1, ys, rfl, own_base HO.out (by omega), by omega, HWF.out, left_below HMV.out⟩
  · go_wp2_with fail
    refine (pick w.heap.size _ 2 _ HL2.out.1 (by omega) (by omega) (by omega)).mono ?_
    rintro e w3 ⟨y, rfl, hy0, hy1, hl⟩
    have HM : Hid (Moved w.heap.size 6 (w.alloc (.cells #[.slice a n cap, .int .i64 0, .int .u64 0] 51)) w3) := ⟨Is.mono hl.1 (by omega), (Moved.next HL2.out hl).2⟩
    clear HL2 hl
    obtain ⟨y, rfl⟩ := Int.eq_ofNat_of_zero_le hy0
    go_wp2_with fail
    go_loopw [4, 5] (fun l c wr => ∃ (m : Nat) (a1 : Option Addr) (c1 : Nat) (ys : List Int), c = .int .i64 m ∧ l = .slice a1 ys.length c1 ∧ wr.ownsRow (w.heap.size + 1) 3 1 (.slice a1 ys.length c1) ys.length (ints .i64 ys) ∧ ys.length + m ≤ 21 ∧ (∀ z ∈ ys, (Lit.int .i64 z).wf = true) ∧ Moved w.heap.size (6 + 2 * (ys.length : Int)) (w.alloc (.cells #[.slice a n cap, .int .i64 0, .int .u64 0] 51)) wr)
      (fun _ c _ => (intOf c).toNat)
    case atStart => exact ⟨20 + y, none, 0, [], by go_num, rfl, World.ownsRow_nil _ _ _ _, by simp; omega, by simp, Is.mono HM.out.1 (by simp), HM.out.2⟩
    case round =>
      obtain ⟨m, a1, c1, ys, rfl, rfl, hown, hlen, hwf, hmv⟩ := hrel
      have HWF : Hid (∀ z ∈ ys, (Lit.int .i64 z).wf = true) := hwf
      have HMV : Hid (Moved w.heap.size (6 + 2 * (ys.length : Int)) (w.alloc (.cells #[.slice a n cap, .int .i64 0, .int .u64 0] 51)) wr) := hmv
      have hsz : w.heap.size < wr.heap.size := hmv.1.lt
      clear hwf hmv
      by_cases hm : 0 < m
      · have HO : Hid (wr.ownsRow (w.heap.size + 1) 3 1 (.slice a1 ys.length c1) ys.length (ints .i64 ys)) := hown
        clear hown
        go_wp2_with fail
        refine (among w.heap.size (6 + 2 * (ys.length : Int)) _ 5 5 [0, 1, 2, 2, 2] _ (Is.below HMV.out.1 (below_alloc _ _)) (isRow_lit wr 3 [0, 1, 2, 2, 2] (by decide) (lit_wf (by decide))) (fun x hx => by cases hx; show wr.heap.size ≠ w.heap.size; omega) (by omega) (by omega) (by omega)).mono ?_
        rintro e w4 ⟨z, rfl, hz, hl4⟩
        have HZ : Hid ((Lit.int .i64 z).wf = true) := lit_wf (zs := [0, 1, 2, 2, 2]) (by decide) z hz
        have hown4 := own_left (HO.out.alloc _) (by omega) hl4
        have hs4 : wr.heap.size + 1 ≤ w4.heap.size := by simpa using hl4.2.size
        have HL4 : Hid _ := hl4
        clear hz hl4
        go_wp2_with (at_builtin; refine wpList_append_own _ rfl _ _ 29 rfl (w.heap.size + 1) 3 i0 (.int .i64 0) 1 8 Tryd.underlying29 hi hz0 hz1 hz2 rfl (by decide) _ _ _ rfl (hown4.alloc _) ⟨w4.heap.size, 0, none⟩ 1 1 [.int .i64 z] rfl rfl ?c1 ?c2 ?c3 ?c4 ?c5 ?_)
        case c1 =>
          intro j u hj
          match j, hj with
          | 0, hj => simp at hj; subst hj; simp [Addr.add]
        case c2 => intro u hu; simp at hu; subst hu; rfl
        case c3 => unfold maxLen; omega
        case c4 => omega
        case c5 => simp; omega
        intro v' w5 hown' hgrow _
        obtain ⟨a5, c5, rfl⟩ := own_form hown'
        have e5 : ints .i64 ys ++ [Value.int .i64 z] = ints .i64 (ys ++ [z]) := by simp [ints]
        rw [e5] at hown'
        have HO5 : Hid _ := hown'
        have HB5 : Hid (OnlyAt (some ⟨w.heap.size, 0, none⟩) (w.alloc (.cells #[.slice a n cap, .int .i64 0, .int .u64 0] 51)) w5 ∧ Is w.heap.size (6 + 2 * (ys.length : Int) + 2) w5) := by
          have hne : ∀ g, (Value.slice a1 ys.length c1).ownBlock = some g → w.heap.size + 1 ≤ g ∧ g < w4.heap.size := fun g hg => by
            simp only [Value.ownBlock] at hg
            rcases a1 with _ | x
            · simp at hg
            · have := own_block hown4 x rfl
              simp at hg
              omega
          have hOK : ∀ k, k < w4.heap.size → k < w.heap.size + 1 → w5.heap[k]? = w4.heap[k]? := fun k hk hk2 => by
            rw [hgrow.block k (by simp; omega) (fun e => by have := hne k e.symm; omega)]
            exact Below.heap_alloc _ _ _ hk
          have hgs := hgrow.size
          simp at hgs
          have hm4 : OnlyAt (some ⟨w.heap.size, 0, none⟩) (w.alloc (.cells #[.slice a n cap, .int .i64 0, .int .u64 0] 51)) w4 := (HMV.out.2.trans (OnlyAt.of_below (below_alloc _ _))).trans HL4.out.2
          refine ⟨⟨hgrow.os.trans hm4.os, hgrow.tape.trans hm4.tape, hgrow.output.trans hm4.output, by have := hm4.size; simp at this ⊢; omega, fun k hk hk2 => ?_⟩, ?_⟩
          · have hk3 : k < w.heap.size + 1 := by simpa using hk
            rw [hOK k (by omega) hk3]
            exact hm4.block k hk hk2
          · exact is_blocks HL4.out.1 (fun k hk => hOK k (by omega) (by omega)) (by omega)
        clear hown4 hown' hgrow e5
        go_wp2
        go_roundw
        case rel => exact ⟨m - 1, a5, c5, ys ++ [z], by go_num, by simp, by rw [show (ys ++ [z]).length = ys.length + 1 by simp]; exact HO5.out, by simp; omega, fun q hq => by rcases List.mem_append.1 hq with h | h; exact HWF.out q h; simp at h; subst h; exact HZ.out, Is.mono HB5.out.2 (by simp; omega), HB5.out.1⟩
        case measure => simp [intOf]; omega
      · have hm0 : m = 0 := by omega
        subst hm0
        have HO : Hid (wr.ownsRow (w.heap.size + 1) 3 1 (.slice a1 ys.length c1) ys.length (ints .i64 ys)) := hown
        clear hown
        by_cases hy : 0 < ys.length
        · go_wp2_with fail
          refine (one w.heap.size _ 20 _ HMV.out.1 (by omega) (by omega) (by omega)).mono ?_
          rintro e w6 ⟨o6, rfl, hl6⟩
          have hown6 := own_left HO.out (by omega) hl6
          have HO6 : Hid _ := hown6
          have HB6 : Hid _ := left_below (Moved.next HMV.out hl6)
          cases o6
          · clear hown6 hl6
            go_wp2
            go_ret
            exact ⟨a1, c1, ys, rfl, own_base HO6.out (by omega), by omega, HWF.out, HB6.out⟩
          · obtain ⟨g, rfl⟩ : ∃ g, a1 = some ⟨g, 0, none⟩ := by
              rcases hown6.2 with ⟨h2, _⟩ | ⟨g, cap', cur, hv, _⟩
              · simp at h2; omega
              · simp only [Value.slice.injEq] at hv
                exact ⟨g, hv.1⟩
            have hst := hown6.stored 0 (.int .i64 3)
            have eset : (ints .i64 ys).set 0 (.int .i64 3) = ints .i64 (ys.set 0 3) := by simp [ints, List.map_set]
            rw [eset] at hst
            have HST : Hid _ := hst
            have hfz := hown6.frozenAt 0
            obtain ⟨old, hold⟩ : ∃ old, w6.cell? ⟨g, 0, none⟩ = some old := by
              rw [hown6.cellAt 0 (by omega)]
              exact ⟨_, List.getElem?_eq_getElem (by rw [ints_length]; omega)⟩
            have hgb := (own_block hown6 _ rfl).1
            have hgb' : w.heap.size ≤ g := by simp at hgb; omega
            clear hown6 hl6 hst eset hgb
            go_wp2
            go_ret
            exact ⟨some ⟨g, 0, none⟩, c1, ys.set 0 3, by simp, by rw [List.length_set]; exact own_base HST.out.1 (by omega), by rw [List.length_set]; omega, fun z hz => by rcases List.mem_or_eq_of_mem_set hz with h | h; exact HWF.out z h; subst h; decide, HB6.out.setCell hgb' _⟩
        · go_wp2
          go_ret
          exact ⟨a1, c1, ys, rfl, own_base HO.out (by omega), by omega, HWF.out, left_below HMV.out⟩


end Go.Proofs.YtbjpfmnkapmohaaDoor.Draw1
