/-
  Contracts of OneByOne, of the program and of the model, and of what tells an order of all.
-/
import Derived.Test.YteihgbiifcgipaaPpu
import Derived.Test.YteihgbiifcgipaaIhl
import Derived.Test.YteihgbiifcgipaaKAct
namespace Go.Proofs.Yteihgbiifcgipaa.Pob
open Go.RowKit
open Go.Proofs.Yteihgbiifcgipaa.Frame Go.Proofs.Yteihgbiifcgipaa.Mem Go.Proofs.Yteihgbiifcgipaa.Kep Go.Proofs.Yteihgbiifcgipaa.Val Go.Proofs.Yteihgbiifcgipaa.FAct Go.Proofs.Yteihgbiifcgipaa.Pga Go.Proofs.Yteihgbiifcgipaa.Ppu Go.Proofs.Yteihgbiifcgipaa.Mii Go.Proofs.Yteihgbiifcgipaa.Ihl
open Go.Proofs.Yteihgbiifcgipaa.Ints (ret_bool)

def orderB (zs : List Int) : Bool := decide (zs.length = 4) && (List.range 4).all fun (k : Nat) => decide ((k : Int) ∈ zs)
def oneP (xs : List D) (zs : List Int) : List D := zs.flatMap fun q => xs.filter fun a => a.1 == q
def oneB (xs : List D) (zs : List Int) : Bool := goodP xs && orderB zs
def oneV (xs : List D) (zs : List Int) : List D := if oneB xs zs then oneP xs zs else []
theorem oneP_append (xs : List D) (zs : List Int) (q : Int) : oneP xs (zs ++ [q]) = oneP xs zs ++ xs.filter (fun a => a.1 == q) := by unfold oneP; simp
theorem order_len {zs : List Int} (h : orderB zs = true) : zs.length = 4 := by
  unfold orderB at h
  exact of_decide_eq_true (Bool.and_eq_true_iff.1 h).1
theorem order_has {zs : List Int} (h : orderB zs = true) {k : Nat} (hk : k < 4) : (k : Int) ∈ zs := by
  unfold orderB at h
  exact of_decide_eq_true (List.all_eq_true.1 (Bool.and_eq_true_iff.1 h).2 k (List.mem_range.2 hk))
theorem order_all {zs : List Int} (h : orderB zs = true) : Lst.allIn 0 3 zs = true := by
  have hl := order_len h
  have h0 := order_has h (k := 0) (by omega)
  have h1 := order_has h (k := 1) (by omega)
  have h2 := order_has h (k := 2) (by omega)
  have h3 := order_has h (k := 3) (by omega)
  match zs, hl with
  | [a, b, c, d], _ =>
    simp only [List.mem_cons, List.not_mem_nil, or_false, Int.natCast_zero, Int.natCast_one] at h0 h1 h2 h3
    unfold Lst.allIn Val.inB
    simp only [List.all_cons, List.all_nil, Bool.and_true, Bool.and_eq_true, decide_eq_true_eq]
    omega
theorem order_no {zs : List Int} (h : zs.length ≠ 4) : orderB zs = false := by unfold orderB; rw [decide_eq_false h]; rfl
theorem order_miss {zs : List Int} {k : Nat} (hk : k < 4) (h : decide ((k : Int) ∈ zs) = false) : orderB zs = false := by
  cases ho : orderB zs
  · rfl
  · have := order_has ho hk
    rw [decide_eq_true this] at h
    cases h
theorem order_yes {zs : List Int} (hl : zs.length = 4) (h : ∀ j, j < 4 → ((j : Nat) : Int) ∈ zs) : orderB zs = true := by
  unfold orderB
  rw [decide_eq_true hl, Bool.true_and, List.all_eq_true]
  intro j hj
  exact decide_eq_true (h j (List.mem_range.1 hj))
theorem xOwn_nil (w : World) (lo hi : Nat) : XOwn w lo hi (.slice none 0 0) [] := ⟨none, 0, 0, rfl, ⟨rfl, .inl ⟨rfl, rfl⟩⟩, by simp, by omega, by simp⟩

set_option maxHeartbeats 400000 in
theorem isOrder (a : Option Addr) (n ca : Nat) (zs : List Int) (w : World) (ha : IsRow .i64 w a n ca zs) :
    Calls Try.prog 55 #[.slice a n ca, .int .i64 4] w fun e w' => e = .returned (.bool (orderB zs)) ∧ w' = w := by
  have HA : Hid (IsRow .i64 w a n ca zs) := ha
  have hmaxn : n ≤ 9223372036854775807 := by have := ha.fits; have := ha.max; unfold maxLen at *; omega
  clear ha
  by_cases h4 : n = 4
  · subst h4
    go_enter Try.func55, Try.ntmps55
    go_wp2_with fail
    go_loop [11] (fun i => ∃ k : Nat, k ≤ 4 ∧ i = .int .i64 k ∧ ∀ j, j < k → ((j : Nat) : Int) ∈ zs) (fun i => 4 - (intOf i).toNat)
    case atStart => exact ⟨0, Nat.zero_le _, rfl, fun j hj => absurd hj (by omega)⟩
    case round =>
      obtain ⟨k, hk, rfl, hall⟩ := hrel
      have Hall : Hid (∀ j, j < k → ((j : Nat) : Int) ∈ zs) := hall
      clear hall
      by_cases hlt : k < 4
      · go_wp2_with fail
        refine (slices_Contains a 4 ca zs (k : Int) _ HA.out).mono ?_
        rintro e w' ⟨rfl, hw'⟩; have hw'' := hw'.symm; clear hw'; subst hw''
        cases hv : decide ((k : Int) ∈ zs)
        · have F : Hid (orderB zs = false) := order_miss hlt hv
          clear hv
          go_wp2
          go_ret
          exact ⟨ret_bool F.out.symm, rfl⟩
        · have F : Hid (∀ j, j < k + 1 → ((j : Nat) : Int) ∈ zs) := fun j hj => by
            by_cases h : j = k
            · rw [h]; exact of_decide_eq_true hv
            · exact Hall.out j (by omega)
          clear hv
          go_wp2
          go_round
          case rel => exact ⟨k + 1, by omega, by go_num, F.out⟩
          case measure => simp [intOf]; omega
      · have F : Hid (orderB zs = true) := order_yes HA.out.len (fun j hj => Hall.out j (by omega))
        go_wp2
        go_ret
        exact ⟨ret_bool F.out.symm, rfl⟩
  · have F : Hid (orderB zs = false) := order_no (by rw [HA.out.len]; exact h4)
    have hne : ((n : Int) != 4) = true := by rw [bne_iff_ne]; omega
    go_enter Try.func55, Try.ntmps55
    go_wp2
    go_ret
    exact ⟨ret_bool F.out.symm, rfl⟩

set_option maxHeartbeats 400000 in
theorem l7Order (a : Option Addr) (n ca : Nat) (zs : List Int) (w : World) (ha : IsRow .i64 w a n ca zs) (hn : n ≤ 1048576) :
    Calls Try.prog 61 #[.slice a n ca] w fun e w' => e = .returned (.bool (orderB zs)) ∧ w' = w := by
  have HA : Hid (IsRow .i64 w a n ca zs) := ha
  clear ha
  by_cases h4 : n = 4
  · subst h4
    cases hal : Lst.allIn 0 3 zs
    · have F : Hid (orderB zs = false) := by
        show _ = _
        cases ho : orderB zs
        · rfl
        · rw [order_all ho] at hal; cases hal
      have HAL : Hid (Lst.allIn 0 3 zs = false) := hal
      clear hal
      go_enter Try.func61, Try.ntmps61
      go_wp2_with fail
      refine (Lst.spec_l1All a 4 ca zs 0 3 _ HA.out (by omega)).mono ?_
      rintro e w' ⟨rfl, hw'⟩; have hw'' := hw'.symm; clear hw'; subst hw''
      rw [HAL.out]
      go_wp2
      go_ret
      exact ⟨ret_bool F.out.symm, rfl⟩
    · have HAL : Hid (Lst.allIn 0 3 zs = true) := hal
      clear hal
      go_enter Try.func61, Try.ntmps61
      go_wp2_with fail
      refine (Lst.spec_l1All a 4 ca zs 0 3 _ HA.out (by omega)).mono ?_
      rintro e w' ⟨rfl, hw'⟩; have hw'' := hw'.symm; clear hw'; subst hw''
      rw [HAL.out]
      go_wp2_with fail
      go_loop [3] (fun i => ∃ k : Nat, k ≤ 4 ∧ i = .int .i64 k ∧ ∀ j, j < k → ((j : Nat) : Int) ∈ zs) (fun i => 4 - (intOf i).toNat)
      case atStart => exact ⟨0, Nat.zero_le _, rfl, fun j hj => absurd hj (by omega)⟩
      case round =>
        obtain ⟨k, hk, rfl, hall⟩ := hrel
        have Hall : Hid (∀ j, j < k → ((j : Nat) : Int) ∈ zs) := hall
        clear hall
        by_cases hlt : k < 4
        · go_wp2_with fail
          refine (l1Has a 4 ca zs (k : Int) _ HA.out).mono ?_
          rintro e w' ⟨rfl, hw'⟩; have hw'' := hw'.symm; clear hw'; subst hw''
          cases hv : decide ((k : Int) ∈ zs)
          · have F : Hid (orderB zs = false) := order_miss hlt hv
            clear hv
            go_wp2
            go_ret
            exact ⟨ret_bool F.out.symm, rfl⟩
          · have F : Hid (∀ j, j < k + 1 → ((j : Nat) : Int) ∈ zs) := fun j hj => by
              by_cases h : j = k
              · rw [h]; exact of_decide_eq_true hv
              · exact Hall.out j (by omega)
            clear hv
            go_wp2
            go_round
            case rel => exact ⟨k + 1, by omega, by go_num, F.out⟩
            case measure => simp [intOf]; omega
        · have F : Hid (orderB zs = true) := order_yes HA.out.len (fun j hj => Hall.out j (by omega))
          go_wp2
          go_ret
          exact ⟨ret_bool F.out.symm, rfl⟩
  · have F : Hid (orderB zs = false) := order_no (by rw [HA.out.len]; exact h4)
    have hne : ((n : Int) != 4) = true := by rw [bne_iff_ne]; omega
    go_enter Try.func61, Try.ntmps61
    go_wp2
    go_ret
    exact ⟨ret_bool F.out.symm, rfl⟩

theorem one_closure (who item : Int) (wri : Bool) (b : Nat) (q : Int) (w : World) (hq : w.cell? ⟨b, 0, none⟩ = some (.int .i64 q)) :
    Calls Try.prog 57 #[.agg #[.int .i64 who, .int .i64 item, .bool wri], .pointer (some ⟨b, 0, none⟩)] w fun e w' => e = .returned (.bool (who == q)) ∧ Below w.heap.size w w' := by
  have hlt := Frame.cell_lt hq
  have hb : (w.alloc (.cells #[.int .i64 who, .int .i64 item, .bool wri] 59)).cell? ⟨b, 0, none⟩ = some (.int .i64 q) := Frame.held_cell ((Below.refl _ _).alloc (Nat.le_refl _) _) hq
  go_enter Try.func57, Try.ntmps57
  go_wp2
  go_ret
  exact ⟨rfl, (Below.refl _ _).alloc (Nat.le_refl _) _⟩

set_option maxRecDepth 4000 in
set_option maxHeartbeats 1600000 in
theorem l7Of (a : Option Addr) (n ca : Nat) (xs : List D) (q : Int) (w : World) (h : IsX w a n ca xs) (hn : n ≤ 1048576) :
    Calls Try.prog 62 #[.slice a n ca, .int .i64 q] w fun e w' => ∃ a' m c', e = .returned (.slice a' m c') ∧ m ≤ n ∧ w'.ownsRow w.heap.size 59 3 (.slice a' m c') m (cells (xs.filter fun a => a.1 == q)) ∧ Below w.heap.size w w' := by
  obtain ⟨i0, hi, hz0, hz1, hz2⟩ := info_parts FAct.info
  have HI : Hid (IsX w a n ca xs) := h
  have HL : Hid (xs.length = n) := h.len
  clear h
  go_enter Try.func62, Try.ntmps62
  go_wp2_with fail
  go_loopw [5, 10] (fun v i wr => ∃ (k m : Nat) (a' : Option Addr) (c' : Nat), k ≤ n ∧ m ≤ k ∧ i = .int .i64 k ∧ v = .slice a' m c' ∧ wr.ownsRow w.heap.size 59 3 (.slice a' m c') m (cells ((xs.take k).filter fun a => a.1 == q)) ∧ Below w.heap.size w wr) (fun _ i _ => n - (intOf i).toNat)
  case atStart => exact ⟨0, 0, none, 0, Nat.zero_le _, Nat.le_refl _, rfl, rfl, ⟨rfl, .inl ⟨rfl, rfl⟩⟩, Below.refl _ _⟩
  case round =>
    obtain ⟨k, m, a', c', hk, hmk, rfl, rfl, ho, hnx⟩ := hrel
    have HO : Hid (wr.ownsRow w.heap.size 59 3 (.slice a' m c') m (cells ((xs.take k).filter fun a => a.1 == q))) := ho
    have HN : Hid (Below w.heap.size w wr) := hnx
    have hsr := hnx.size
    clear ho
    by_cases hlt : k < n
    · obtain ⟨b, off, who, item, wri, rfl, p0, p1, p2, hx⟩ := act_at HI.out hnx hlt
      have hkl : k < xs.length := by rw [HL.out]; exact hlt
      have HF : Hid ((xs.take (k + 1)).filter (fun a => a.1 == q) = (xs.take k).filter (fun a => a.1 == q) ++ (if who == q then [(who, item, wri)] else [])) := by
        show _ = _
        rw [FAct.take_succ hkl, List.filter_append, List.filter_cons, hx]
        rfl
      have B1 : Hid (Below w.heap.size w (wr.alloc (.cells #[.int .i64 who, .int .i64 item, .bool wri] 59))) := hnx.alloc hsr _
      have HO1 : Hid ((wr.alloc (.cells #[.int .i64 who, .int .i64 item, .bool wri] 59)).ownsRow w.heap.size 59 3 (.slice a' m c') m (cells ((xs.take k).filter fun a => a.1 == q))) := own_below HO.out ((Below.refl _ _).alloc (Nat.le_refl _) _)
      clear hnx hkl hx
      cases hv : (who == q)
      · have F : Hid ((xs.take (k + 1)).filter (fun a => a.1 == q) = (xs.take k).filter (fun a => a.1 == q)) := by show _ = _; rw [HF.out, hv]; exact List.append_nil _
        clear HF
        go_wp2_with fail
        go_roundw
        case rel => exact ⟨k + 1, m, a', c', by omega, by omega, by go_num, rfl, by rw [F.out]; exact HO1.out, B1.out⟩
        case measure => simp [intOf]; omega
      · have F : Hid ((xs.take (k + 1)).filter (fun a => a.1 == q) = (xs.take k).filter (fun a => a.1 == q) ++ [(who, item, wri)]) := by show _ = _; rw [HF.out, hv]; rfl
        clear HF
        have hsz : (wr.alloc (.cells #[.int .i64 who, .int .i64 item, .bool wri] 59)).heap.size = wr.heap.size + 1 := by simp
        have HO3 : Hid (((wr.alloc (.cells #[.int .i64 who, .int .i64 item, .bool wri] 59)).alloc (.cells #[.int .i64 who, .int .i64 item, .bool wri] 59)).ownsRow w.heap.size 59 3 (.slice a' m c') m (cells ((xs.take k).filter fun a => a.1 == q))) := own_below HO1.out ((Below.refl _ _).alloc (Nat.le_refl _) _)
        have HN3 : Hid (Below w.heap.size w ((wr.alloc (.cells #[.int .i64 who, .int .i64 item, .bool wri] 59)).alloc (.cells #[.int .i64 who, .int .i64 item, .bool wri] 59))) := B1.out.alloc B1.out.size _
        have S3 : Hid (0 < 1 → ∃ ad, (some ⟨wr.heap.size + 1, 0, none⟩ : Option Addr) = some ad ∧ ∀ j u, ([.int .i64 who, .int .i64 item, .bool wri] : List Value)[j]? = some u → ((wr.alloc (.cells #[.int .i64 who, .int .i64 item, .bool wri] 59)).alloc (.cells #[.int .i64 who, .int .i64 item, .bool wri] 59)).cell? (ad.add j) = some u) := KAct.news_alloc _ _ hsz.symm (who, item, wri) _
        go_wp2_with (at_builtin; refine App.wpList_append_all _ rfl _ _ 23 rfl w.heap.size 59 i0 (.agg #[.int .i64 0, .int .i64 0, .bool false]) 3 24 Try.underlying23 hi hz0 hz1 hz2 rfl (by decide) _ _ _ rfl HO3.out _ 1 _ [.int .i64 who, .int .i64 item, .bool wri] rfl rfl S3.out (by simp [Value.oneCell']) (by unfold maxLen; omega) (by omega) HN3.out.size ?_)
        intro a4 c4 w4 hown4 hgrow4
        have O4 : Hid (w4.ownsRow w.heap.size 59 3 (.slice a4 (m + 1) c4) (m + 1) (cells ((xs.take (k + 1)).filter fun a => a.1 == q))) := by show World.ownsRow _ _ _ _ _ _ _; rw [F.out, cells_append]; simpa [cells, one] using hown4
        have N4 : Hid (Below w.heap.size w w4) := below_app HN3.out HO3.out hgrow4 HN3.out.size (Nat.le_refl _)
        clear hown4 hgrow4
        go_wp2
        go_roundw
        case rel => exact ⟨k + 1, m + 1, a4, c4, by omega, by omega, by go_num, rfl, O4.out, N4.out⟩
        case measure => simp [intOf]; omega
    · have F : Hid (wr.ownsRow w.heap.size 59 3 (.slice a' m c') m (cells (xs.filter fun a => a.1 == q))) := by have := HO.out; rwa [List.take_of_length_le (by rw [HL.out]; omega)] at this
      clear hnx
      go_wp2
      go_ret
      exact ⟨_, _, _, rfl, by omega, F.out, HN.out⟩

set_option maxRecDepth 4000 in
set_option maxHeartbeats 1600000 in
theorem impl_OneByOne (v u : Value) (xs : List D) (zs : List Int) (w : World) (h : XIs w v xs) (h2 : IIs w u zs) :
    Calls Try.prog 20 #[v, u] w fun e w' => ∃ r, e = .returned (.tuple #[r, .bool (oneB xs zs)]) ∧ XOwn w' w.heap.size w'.heap.size r (oneV xs zs) ∧ Below w.heap.size w w' := by
  obtain ⟨a, n, cap, rfl, hr, hn⟩ := h
  obtain ⟨b, m, cb, rfl, hq, hm⟩ := h2
  obtain ⟨i0, hi, hz0, hz1, hz2⟩ := info_parts FAct.info
  have HL : Hid (xs.length = n) := hr.len
  have HI : Hid (IsX w a n cap xs) := hr
  have HR : Hid (IsRow .i64 w b m cb zs) := hq
  clear hr hq
  cases hg : goodP xs
  · have E : Hid (oneV xs zs = []) := if_neg (by unfold oneB; rw [hg]; exact Bool.false_ne_true)
    have EB : oneB xs zs = false := by unfold oneB; rw [hg]; rfl
    have HG : Hid (goodP xs = false) := hg
    rw [EB]
    clear hg EB
    go_enter Try.func20, Try.ntmps20
    go_wp2_with fail
    refine (impl_GoodPlay a n cap xs _ HI.out).mono ?_
    rintro e w1 ⟨rfl, hb1⟩
    have B1 : Hid (Below w.heap.size w w1) := hb1
    clear hb1
    rw [HG.out]
    go_wp2_with fail
    go_ret2
    exact ⟨_, rfl, by rw [E.out]; exact xOwn_nil _ _ _, B1.out⟩
  cases ho : orderB zs
  · have E : Hid (oneV xs zs = []) := if_neg (by unfold oneB; rw [ho, Bool.and_false]; exact Bool.false_ne_true)
    have EB : oneB xs zs = false := by unfold oneB; rw [ho, Bool.and_false]
    have HG : Hid (goodP xs = true) := hg
    have HOO : Hid (orderB zs = false) := ho
    rw [EB]
    clear hg ho EB
    go_enter Try.func20, Try.ntmps20
    go_wp2_with fail
    refine (impl_GoodPlay a n cap xs _ HI.out).mono ?_
    rintro e w1 ⟨rfl, hb1⟩
    have B1 : Hid (Below w.heap.size w w1) := hb1
    clear hb1
    rw [HG.out]
    go_wp2_with fail
    refine (isOrder b m cb zs _ (Mem.IsRow.below HR.out B1.out)).mono ?_
    rintro e w' ⟨rfl, hw'⟩; have hw'' := hw'.symm; clear hw'; subst hw''
    rw [HOO.out]
    go_wp2_with fail
    go_ret2
    exact ⟨_, rfl, by rw [E.out]; exact xOwn_nil _ _ _, B1.out⟩
  have EB : oneB xs zs = true := by unfold oneB; rw [hg, ho]; rfl
  have E : Hid (oneV xs zs = oneP xs zs) := if_pos EB
  have HG : Hid (goodP xs = true) := hg
  have HOO : Hid (orderB zs = true) := ho
  have h4 : m = 4 := by rw [← HR.out.len]; exact order_len ho
  have hn16 : n ≤ 16 := by rw [← HL.out]; exact good_len hg
  have HWF : Hid (∀ x ∈ oneP xs zs, ok x) := fun x hx => by
    unfold oneP at hx
    obtain ⟨q, _, hx⟩ := List.mem_flatMap.1 hx
    exact HI.out.wf x ((List.mem_filter.1 hx).1)
  rw [EB]
  subst h4
  clear hg ho EB
  go_enter Try.func20, Try.ntmps20
  go_wp2_with fail
  refine (impl_GoodPlay a n cap xs _ HI.out).mono ?_
  rintro e w1 ⟨rfl, hb1⟩
  have B1 : Hid (Below w.heap.size w w1) := hb1
  clear hb1
  rw [HG.out]
  go_wp2_with fail
  refine (isOrder b 4 cb zs _ (Mem.IsRow.below HR.out B1.out)).mono ?_
  rintro e w' ⟨rfl, hw'⟩; have hw'' := hw'.symm; clear hw'; subst hw''
  rw [HOO.out]
  have hs1 := B1.out.size
  go_wp2_with (at_make; refine wpList_make_own _ rfl _ _ 23 rfl w.heap.size 59 i0 (.agg #[.int .i64 0, .int .i64 0, .bool false]) 3 Try.underlying23 hi hz0 hz1 _ _ _ n rfl rfl rfl ?d2 ?d3 hs1 ?_)
  case d2 => rw [hz2]; omega
  case d3 => unfold maxLen; omega
  intro w2 hown2 hgrow2
  have B2 : Hid (Below w.heap.size w w2) := below_make B1.out hgrow2 hs1
  have O2 : Hid (w2.ownsRow w.heap.size 59 3 (.slice (some ⟨w1.heap.size, 0, none⟩) 0 n) 0 (cells (oneP xs (zs.take 0)))) := hown2
  clear hown2 hgrow2
  go_wp2_with fail
  go_loopw [6, 22] (fun v i wr => ∃ (k j : Nat) (a' : Option Addr) (c' : Nat), k ≤ 4 ∧ j ≤ k * 16 ∧ i = .int .i64 k ∧ v = .slice a' j c' ∧ wr.ownsRow w.heap.size 59 3 (.slice a' j c') j (cells (oneP xs (zs.take k))) ∧ Below w.heap.size w wr) (fun _ i _ => 4 - (intOf i).toNat)
  case atStart => exact ⟨0, 0, _, _, Nat.zero_le _, Nat.le_refl _, rfl, rfl, O2.out, B2.out⟩
  case round =>
    obtain ⟨k, j, a', c', hk, hj, rfl, rfl, ho, hnx⟩ := hrel
    have HO : Hid (wr.ownsRow w.heap.size 59 3 (.slice a' j c') j (cells (oneP xs (zs.take k)))) := ho
    have HN : Hid (Below w.heap.size w wr) := hnx
    have hsr := hnx.size
    clear ho
    by_cases hlt : k < 4
    · obtain ⟨bb, off, rfl, hbl, hc⟩ := HR.out.cells (by omega)
      have hck : wr.cell? ⟨bb, off + k, none⟩ = some (.int .i64 (zs.getD k 0)) := by rw [hnx.cell (p := ⟨bb, off + k, none⟩) hbl]; exact hc k hlt
      have F : Hid (oneP xs (zs.take (k + 1)) = oneP xs (zs.take k) ++ xs.filter (fun a => a.1 == zs.getD k 0)) := by
        show _ = _
        rw [take_succ_getD (by rw [HR.out.len]; exact hlt), oneP_append]
      clear hc hnx
      generalize zs.getD k 0 = q at hck F
      have B3 : Hid (Below w.heap.size w (wr.alloc (.cells #[.int .i64 q] 3))) := HN.out.alloc hsr _
      have O3 : Hid ((wr.alloc (.cells #[.int .i64 q] 3)).ownsRow w.heap.size 59 3 (.slice a' j c') j (cells (oneP xs (zs.take k)))) := own_below HO.out ((Below.refl _ _).alloc (Nat.le_refl _) _)
      have KB : Hid ((wr.alloc (.cells #[.int .i64 q] 3)).cell? ⟨wr.heap.size, 0, none⟩ = some (.int .i64 q)) := by show _ = _; go_simp
      have hlt2 : wr.heap.size < (wr.alloc (.cells #[.int .i64 q] 3)).heap.size := by simp
      have HLT : Hid (wr.heap.size < (wr.alloc (.cells #[.int .i64 q] 3)).heap.size) := hlt2
      go_wp2_with fail
      refine (KAct.kept a n cap xs 57 #[.pointer (some ⟨wr.heap.size, 0, none⟩)] (fun a => a.1 == q) _ (HI.out.below B3.out) (by omega) (KAct.enters Try.func57 (by kernel_rfl) rfl) (fun who item wri _ w1 hw1 => one_closure who item wri wr.heap.size q w1 (Frame.held_cell hw1 KB.out))).mono ?_
      rintro e w4 ⟨a4, m4, c4, rfl, hm4, ho4, hb4⟩
      have O4 : Hid (w4.ownsRow w.heap.size 59 3 (.slice a' j c') j (cells (oneP xs (zs.take k)))) := own_below O3.out hb4
      have B4 : Hid (Below w.heap.size w w4) := Frame.next B3.out hb4 B3.out.size
      have hx4 : ∃ a cap, (Value.slice a4 m4 c4) = .slice a m4 cap ∧ IsX w4 a m4 cap (xs.filter (fun a => a.1 == q)) := isX_own ho4 (fun x hx => HI.out.wf x ((List.mem_filter.1 hx).1))
      obtain ⟨_, _, e4, hx4⟩ := hx4
      cases e4
      have S4 := FAct.news_x hx4
      have HS4 : Hid _ := S4
      have L4 : Hid ((cells (xs.filter (fun a => a.1 == q))).length = m4 * 3) := by show _ = _; rw [cells_length, hx4.len]
      clear S4 hx4 ho4 hb4
      go_wp2_with (at_builtin; refine App.wpList_append_all _ rfl _ _ 23 rfl w.heap.size 59 i0 (.agg #[.int .i64 0, .int .i64 0, .bool false]) 3 24 Try.underlying23 hi hz0 hz1 hz2 rfl (by decide) _ _ _ rfl O4.out _ m4 _ (cells (xs.filter (fun a => a.1 == q))) rfl L4.out HS4.out (one_cells _) (by unfold maxLen; omega) (by omega) B4.out.size ?_)
      intro a5 c5 w5 hown5 hgrow5
      have O5 : Hid (w5.ownsRow w.heap.size 59 3 (.slice a5 (j + m4) c5) (j + m4) (cells (oneP xs (zs.take (k + 1))))) := by show World.ownsRow _ _ _ _ _ _ _; rw [F.out, cells_append]; exact hown5
      have N5 : Hid (Below w.heap.size w w5) := below_app B4.out O4.out hgrow5 B4.out.size (Nat.le_refl _)
      clear hown5 hgrow5
      go_wp2
      go_roundw
      case rel => exact ⟨k + 1, j + m4, a5, c5, by omega, by omega, by go_num, rfl, O5.out, N5.out⟩
      case measure => simp [intOf]; omega
    · obtain rfl : k = 4 := by omega
      have O4 : Hid (wr.ownsRow w.heap.size 59 3 (.slice a' j c') j (cells (oneP xs zs))) := by
        show World.ownsRow _ _ _ _ _ _ _
        have := HO.out
        rwa [List.take_of_length_le (by rw [HR.out.len]; omega)] at this
      clear HO hnx
      go_wp2
      go_ret2
      exact ⟨_, rfl, by rw [E.out]; exact xOwn_of O4.out HWF.out (by omega), HN.out⟩

set_option maxRecDepth 4000 in
set_option maxHeartbeats 1600000 in
theorem spec_OneByOne (v u : Value) (xs : List D) (zs : List Int) (w : World) (h : XIs w v xs) (h2 : IIs w u zs) :
    Calls Try.prog 23 #[v, u] w fun e w' => ∃ r, e = .returned (.tuple #[r, .bool (oneB xs zs)]) ∧ XOwn w' w.heap.size w'.heap.size r (oneV xs zs) ∧ Below w.heap.size w w' := by
  obtain ⟨a, n, cap, rfl, hr, hn⟩ := h
  obtain ⟨b, m, cb, rfl, hq, hm⟩ := h2
  obtain ⟨i0, hi, hz0, hz1, hz2⟩ := info_parts FAct.info
  have HL : Hid (xs.length = n) := hr.len
  have HI : Hid (IsX w a n cap xs) := hr
  have HR : Hid (IsRow .i64 w b m cb zs) := hq
  clear hr hq
  cases hg : goodP xs
  · have E : Hid (oneV xs zs = []) := if_neg (by unfold oneB; rw [hg]; exact Bool.false_ne_true)
    have EB : oneB xs zs = false := by unfold oneB; rw [hg]; rfl
    have HG : Hid (goodP xs = false) := hg
    rw [EB]
    clear hg EB
    go_enter Try.func23, Try.ntmps23
    go_wp2_with fail
    refine (spec_GoodPlay a n cap xs _ HI.out).mono ?_
    rintro e w1 ⟨rfl, hb1⟩
    have B1 : Hid (Below w.heap.size w w1) := hb1
    clear hb1
    rw [HG.out]
    go_wp2_with fail
    go_ret2
    exact ⟨_, rfl, by rw [E.out]; exact xOwn_nil _ _ _, B1.out⟩
  cases ho : orderB zs
  · have E : Hid (oneV xs zs = []) := if_neg (by unfold oneB; rw [ho, Bool.and_false]; exact Bool.false_ne_true)
    have EB : oneB xs zs = false := by unfold oneB; rw [ho, Bool.and_false]
    have HG : Hid (goodP xs = true) := hg
    have HOO : Hid (orderB zs = false) := ho
    rw [EB]
    clear hg ho EB
    go_enter Try.func23, Try.ntmps23
    go_wp2_with fail
    refine (spec_GoodPlay a n cap xs _ HI.out).mono ?_
    rintro e w1 ⟨rfl, hb1⟩
    have B1 : Hid (Below w.heap.size w w1) := hb1
    clear hb1
    rw [HG.out]
    go_wp2_with fail
    refine (l7Order b m cb zs _ (Mem.IsRow.below HR.out B1.out) (by omega)).mono ?_
    rintro e w' ⟨rfl, hw'⟩; have hw'' := hw'.symm; clear hw'; subst hw''
    rw [HOO.out]
    go_wp2_with fail
    go_ret2
    exact ⟨_, rfl, by rw [E.out]; exact xOwn_nil _ _ _, B1.out⟩
  have EB : oneB xs zs = true := by unfold oneB; rw [hg, ho]; rfl
  have E : Hid (oneV xs zs = oneP xs zs) := if_pos EB
  have HG : Hid (goodP xs = true) := hg
  have HOO : Hid (orderB zs = true) := ho
  have h4 : m = 4 := by rw [← HR.out.len]; exact order_len ho
  have hn16 : n ≤ 16 := by rw [← HL.out]; exact good_len hg
  have HWF : Hid (∀ x ∈ oneP xs zs, ok x) := fun x hx => by
    unfold oneP at hx
    obtain ⟨q, _, hx⟩ := List.mem_flatMap.1 hx
    exact HI.out.wf x ((List.mem_filter.1 hx).1)
  rw [EB]
  subst h4
  clear hg ho EB
  go_enter Try.func23, Try.ntmps23
  go_wp2_with fail
  refine (spec_GoodPlay a n cap xs _ HI.out).mono ?_
  rintro e w1 ⟨rfl, hb1⟩
  have B1 : Hid (Below w.heap.size w w1) := hb1
  clear hb1
  rw [HG.out]
  go_wp2_with fail
  refine (l7Order b 4 cb zs _ (Mem.IsRow.below HR.out B1.out) (by omega)).mono ?_
  rintro e w' ⟨rfl, hw'⟩; have hw'' := hw'.symm; clear hw'; subst hw''
  rw [HOO.out]
  have hs1 := B1.out.size
  go_wp2_with fail
  go_loopw [6, 19] (fun v i wr => ∃ (k j : Nat) (a' : Option Addr) (c' : Nat), k ≤ 4 ∧ j ≤ k * 16 ∧ i = .int .i64 k ∧ v = .slice a' j c' ∧ wr.ownsRow w.heap.size 59 3 (.slice a' j c') j (cells (oneP xs (zs.take k))) ∧ Below w.heap.size w wr) (fun _ i _ => 4 - (intOf i).toNat)
  case atStart => exact ⟨0, 0, none, 0, Nat.zero_le _, Nat.le_refl _, rfl, rfl, ⟨rfl, .inl ⟨rfl, rfl⟩⟩, B1.out⟩
  case round =>
    obtain ⟨k, j, a', c', hk, hj, rfl, rfl, ho, hnx⟩ := hrel
    have HO : Hid (wr.ownsRow w.heap.size 59 3 (.slice a' j c') j (cells (oneP xs (zs.take k)))) := ho
    have HN : Hid (Below w.heap.size w wr) := hnx
    have hsr := hnx.size
    clear ho
    by_cases hlt : k < 4
    · obtain ⟨bb, off, rfl, hbl, hc⟩ := HR.out.cells (by omega)
      have hck : wr.cell? ⟨bb, off + k, none⟩ = some (.int .i64 (zs.getD k 0)) := by rw [hnx.cell (p := ⟨bb, off + k, none⟩) hbl]; exact hc k hlt
      have F : Hid (oneP xs (zs.take (k + 1)) = oneP xs (zs.take k) ++ xs.filter (fun a => a.1 == zs.getD k 0)) := by
        show _ = _
        rw [take_succ_getD (by rw [HR.out.len]; exact hlt), oneP_append]
      clear hc hnx
      generalize zs.getD k 0 = q at hck F
      have B3 : Hid (Below w.heap.size w wr) := HN.out
      have O3 : Hid (wr.ownsRow w.heap.size 59 3 (.slice a' j c') j (cells (oneP xs (zs.take k)))) := HO.out
      go_wp2_with fail
      refine (l7Of a n cap xs q _ (HI.out.below B3.out) (by omega)).mono ?_
      rintro e w4 ⟨a4, m4, c4, rfl, hm4, ho4, hb4⟩
      have O4 : Hid (w4.ownsRow w.heap.size 59 3 (.slice a' j c') j (cells (oneP xs (zs.take k)))) := own_below O3.out hb4
      have B4 : Hid (Below w.heap.size w w4) := Frame.next B3.out hb4 B3.out.size
      have hx4 : ∃ a cap, (Value.slice a4 m4 c4) = .slice a m4 cap ∧ IsX w4 a m4 cap (xs.filter (fun a => a.1 == q)) := isX_own ho4 (fun x hx => HI.out.wf x ((List.mem_filter.1 hx).1))
      obtain ⟨_, _, e4, hx4⟩ := hx4
      cases e4
      have S4 := FAct.news_x hx4
      have HS4 : Hid _ := S4
      have L4 : Hid ((cells (xs.filter (fun a => a.1 == q))).length = m4 * 3) := by show _ = _; rw [cells_length, hx4.len]
      clear S4 hx4 ho4 hb4
      go_wp2_with (at_builtin; refine App.wpList_append_all _ rfl _ _ 23 rfl w.heap.size 59 i0 (.agg #[.int .i64 0, .int .i64 0, .bool false]) 3 24 Try.underlying23 hi hz0 hz1 hz2 rfl (by decide) _ _ _ rfl O4.out _ m4 _ (cells (xs.filter (fun a => a.1 == q))) rfl L4.out HS4.out (one_cells _) (by unfold maxLen; omega) (by omega) B4.out.size ?_)
      intro a5 c5 w5 hown5 hgrow5
      have O5 : Hid (w5.ownsRow w.heap.size 59 3 (.slice a5 (j + m4) c5) (j + m4) (cells (oneP xs (zs.take (k + 1))))) := by show World.ownsRow _ _ _ _ _ _ _; rw [F.out, cells_append]; exact hown5
      have N5 : Hid (Below w.heap.size w w5) := below_app B4.out O4.out hgrow5 B4.out.size (Nat.le_refl _)
      clear hown5 hgrow5
      go_wp2
      go_roundw
      case rel => exact ⟨k + 1, j + m4, a5, c5, by omega, by omega, by go_num, rfl, O5.out, N5.out⟩
      case measure => simp [intOf]; omega
    · obtain rfl : k = 4 := by omega
      have O4 : Hid (wr.ownsRow w.heap.size 59 3 (.slice a' j c') j (cells (oneP xs zs))) := by
        show World.ownsRow _ _ _ _ _ _ _
        have := HO.out
        rwa [List.take_of_length_le (by rw [HR.out.len]; omega)] at this
      clear HO hnx
      go_wp2
      go_ret2
      exact ⟨_, rfl, by rw [E.out]; exact xOwn_of O4.out HWF.out (by omega), HN.out⟩


end Go.Proofs.Yteihgbiifcgipaa.Pob
