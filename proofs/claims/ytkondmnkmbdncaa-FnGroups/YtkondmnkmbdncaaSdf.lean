/-
  Contract of slices.DeleteFunc on an own list of numbers, for any test that turns nothing.
-/
import Derived.Test.YtkondmnkmbdncaaGld
import Derived.Lib.SliceRun
import Derived.BigFrame
namespace Go.Proofs.Ytkondmnkmbdncaa.Sdf
open Go.RowKit
open Go.Proofs.Ytkondmnkmbdncaa.Frame Go.Proofs.Ytkondmnkmbdncaa.Mem Go.Proofs.Ytkondmnkmbdncaa.Ints Go.Proofs.Ytkondmnkmbdncaa.Kep
open Go.Proofs.Ytkondmnkmbdncaa.Kpi (Enters enters)
open Go.Proofs.Ytkondmnkmbdncaa.Glb (own_row em_bool)

theorem own_setCells {base g n c : Nat} {e : TypeId} : ∀ (vs : List Value) (o : Nat) (w : World) (xs : List Value), o + vs.length ≤ xs.length → w.ownsRow base e 1 (.slice (some ⟨g, 0, none⟩) n c) n xs → (w.setCells g o vs).ownsRow base e 1 (.slice (some ⟨g, 0, none⟩) n c) n (xs.take o ++ vs ++ xs.drop (o + vs.length))
  | [], o, w, xs, _, h => by
    rw [List.length_nil, Nat.add_zero, List.append_nil, List.take_append_drop]; exact h
  | v :: vs, o, w, xs, hl, h => by
    rw [List.length_cons] at hl
    have h1 := own_setCells vs (o + 1) (w.setCell ⟨g, o, none⟩ v) (xs.set o v) (by rw [List.length_set]; omega) (h.stored o v).1
    have e1 : (xs.set o v).take (o + 1) = xs.take o ++ [v] := by
      rw [List.set_eq_take_append_cons_drop, if_pos (by omega), List.take_append, List.length_take, List.take_take]
      rw [show min (o + 1) o = o by omega, show o + 1 - min o xs.length = 1 by omega]
      rfl
    have e2 : (xs.set o v).drop (o + 1 + vs.length) = xs.drop (o + (vs.length + 1)) := by
      rw [List.drop_set_of_lt (by omega), show o + 1 + vs.length = o + (vs.length + 1) by omega]
    rw [e1, e2, List.append_assoc, List.append_assoc] at h1
    rw [List.length_cons, List.append_assoc]
    exact h1
theorem only_setCells {g : Nat} : ∀ (vs : List Value) (o : Nat) (w0 w : World), OnlyAt (some ⟨g, 0, none⟩) w0 w → OnlyAt (some ⟨g, 0, none⟩) w0 (w.setCells g o vs)
  | [], _, _, _, h => h
  | v :: vs, o, w0, w, h => only_setCells vs (o + 1) w0 (w.setCell ⟨g, o, none⟩ v) (h.setCell (fun x hx => by cases hx; rfl) (by simp) v)
theorem own_short {w : World} {base g n m c : Nat} {e : TypeId} {xs : List Value} (h : w.ownsRow base e 1 (.slice (some ⟨g, 0, none⟩) n c) n xs) (hm : m ≤ n) : w.ownsRow base e 1 (.slice (some ⟨g, 0, none⟩) m c) m (xs.take m) := by
  obtain ⟨h1, h2⟩ := h
  refine ⟨by rw [List.length_take]; omega, ?_⟩
  rcases h2 with ⟨h2, _⟩ | ⟨g', cap, cur, hv, hg, hh, hn, hc, hs, ht⟩
  · simp at h2
  · simp only [Value.slice.injEq, Option.some.injEq, Addr.mk.injEq] at hv
    obtain ⟨⟨rfl, _⟩, _, rfl⟩ := hv
    refine .inr ⟨_, _, cur, rfl, hg, hh, by omega, hc, hs, ?_⟩
    rw [← ht, List.take_take, Nat.mul_one, Nat.mul_one, Nat.min_eq_left hm]

theorem zero_int (w : World) : (zeroValue 3).run Try.prog w = .ok (.int .i64 0) w := by kernel_rfl

theorem take_set {cur : List Int} {i : Nat} {v : Int} (h : i < cur.length) : (cur.set i v).take (i + 1) = cur.take i ++ [v] := by
  rw [List.take_succ_eq_append_getElem (by simpa using h), List.take_set_of_le (Nat.le_refl _)]
  simp

set_option maxRecDepth 8000 in
set_option maxHeartbeats 3200000 in
theorem delete_func (g n c : Nat) (base : Nat) (zs : List Int) (f : FuncId) (bs : Array Value) (p : Int → Bool) (w : World) (h : w.ownsRow base 3 1 (.slice (some ⟨g, 0, none⟩) n c) n (ints .i64 zs)) (hw : ∀ z ∈ zs, (Lit.int .i64 z).wf = true) (hen : Enters Try.prog f)
    (hcl : ∀ z ∈ zs, ∀ w1, OnlyAt (some ⟨g, 0, none⟩) w w1 → Calls Try.prog f (#[.int .i64 z] ++ bs) w1 fun e w2 => e = .returned (.bool (p z)) ∧ w2 = w1) :
    Calls Try.prog 130 #[.slice (some ⟨g, 0, none⟩) n c, .func (.func f) #[] bs] w fun e w' => ∃ m, e = .returned (.slice (some ⟨g, 0, none⟩) m c) ∧ w'.ownsRow base 3 1 (.slice (some ⟨g, 0, none⟩) m c) m (ints .i64 (zs.filter fun z => !p z)) ∧ OnlyAt (some ⟨g, 0, none⟩) w w' := by
  have HO : Hid (w.ownsRow base 3 1 (.slice (some ⟨g, 0, none⟩) n c) n (ints .i64 zs)) := h
  have HR : Hid (IsRow .i64 w (some ⟨g, 0, none⟩) n c zs) := own_row h hw
  have HW : Hid (∀ z ∈ zs, (Lit.int .i64 z).wf = true) := hw
  have HL : Hid (zs.length = n) := HR.out.len
  have HEN : Hid (Enters Try.prog f) := hen
  have HCL : Hid (∀ z ∈ zs, ∀ w1, OnlyAt (some ⟨g, 0, none⟩) w w1 → Calls Try.prog f (#[.int .i64 z] ++ bs) w1 fun e w2 => e = .returned (.bool (p z)) ∧ w2 = w1) := hcl
  have hnc := HR.out.fits
  have hcm := HR.out.max
  unfold maxLen at hcm
  clear h hw hen hcl
  go_enter Try.func130, Try.ntmps130
  go_wp2_with fail
  refine (Gld.index_int (some ⟨g, 0, none⟩) n c zs f bs p _ HR.out HEN.out (fun z hz w1 hb1 => (HCL.out z hz w1 (OnlyAt.of_below hb1)).mono (by rintro e w2 ⟨rfl, rfl⟩; exact ⟨rfl, Below.refl _ _⟩))).mono ?_
  rintro e w1 ⟨i, rfl, hi, hb1⟩
  have O1 : Hid (w1.ownsRow base 3 1 (.slice (some ⟨g, 0, none⟩) n c) n (ints .i64 zs)) := own_below HO.out hb1
  have T1 : Hid (OnlyAt (some ⟨g, 0, none⟩) w w1) := OnlyAt.of_below hb1
  clear hb1
  rcases hi with ⟨rfl, hall⟩ | ⟨k, rfl, hk, hpk, hbef⟩
  · have F : Hid ((zs.filter fun z => !p z) = zs) := List.filter_eq_self.2 (fun z hz => by rw [hall z hz]; rfl)
    clear hall
    go_wp2
    go_ret
    exact ⟨n, rfl, by rw [F.out]; exact O1.out, T1.out⟩
  · have hkn : k < n := by rw [← HL.out]; exact hk
    have F0 : Hid (zs.take k = (zs.take (k + 1)).filter fun z => !p z) := by
      show _ = _
      rw [take_succ_getD hk, List.filter_append, List.filter_cons, hpk]
      simp only [Bool.not_true, Bool.false_eq_true, if_false, List.filter_nil, List.append_nil]
      symm
      rw [List.filter_eq_self]
      intro z hz
      obtain ⟨j, hj, rfl⟩ := List.getElem_of_mem hz
      have hj' : j < k := by rw [List.length_take] at hj; omega
      have := hbef j hj'
      rw [show (zs.take k)[j] = zs.getD j 0 by simp [List.getD, show j < zs.length by omega], this]
      rfl
    have hk1 : ((k : Int) == -1) = false := by rw [beq_eq_false_iff_ne]; omega
    clear hpk hbef hk
    go_wp2_with fail
    go_loopw [5, 6] (fun vi vj wr => ∃ (i j : Nat) (cur : List Int), vi = .int .i64 (i : Int) ∧ vj = .int .i64 (j : Int) ∧ i < j ∧ j ≤ n ∧ cur.length = n ∧ wr.ownsRow base 3 1 (.slice (some ⟨g, 0, none⟩) n c) n (ints .i64 cur) ∧ (cur.take i = (zs.take j).filter fun z => !p z) ∧ cur.drop j = zs.drop j ∧ OnlyAt (some ⟨g, 0, none⟩) w wr) (fun _ vj _ => n - (intOf vj).toNat)
    case atStart => exact ⟨k, k + 1, zs, rfl, by go_num, by omega, by omega, HL.out, O1.out, F0.out, rfl, T1.out⟩
    case round =>
      obtain ⟨i, j, cur, rfl, rfl, hij, hj, hcl, ho, hf, hd, ht⟩ := hrel
      have C : Hid (cur.length = n) := hcl
      have OW : Hid (wr.ownsRow base 3 1 (.slice (some ⟨g, 0, none⟩) n c) n (ints .i64 cur)) := ho
      have FI : Hid (cur.take i = (zs.take j).filter fun z => !p z) := hf
      have DR : Hid (cur.drop j = zs.drop j) := hd
      have TT : Hid (OnlyAt (some ⟨g, 0, none⟩) w wr) := ht
      clear hcl ho hf hd ht O1 T1 F0
      by_cases hlt : j < n
      · have hjz : j < zs.length := by rw [HL.out]; exact hlt
        have he : cur.getD j 0 = zs.getD j 0 := by
          have h1 := congrArg (fun l => l.getD 0 0) DR.out
          simpa [List.getD, List.getElem?_drop] using h1
        have p0 : wr.cell? ⟨g, j, none⟩ = some (.int .i64 (zs.getD j 0)) := by
          rw [OW.out.cellAt j (by omega), ← he]
          exact ints_get .i64 cur j (by rw [C.out]; exact hlt)
        have DN : Hid (cur.drop (j + 1) = zs.drop (j + 1)) := by
          have h1 := congrArg (List.drop 1) DR.out
          rwa [List.drop_drop, List.drop_drop] at h1
        have FN : Hid ((zs.take (j + 1)).filter (fun z => !p z) = cur.take i ++ (if !p (zs.getD j 0) then [zs.getD j 0] else [])) := by
          show _ = _
          rw [FI.out, take_succ_getD hjz, List.filter_append, List.filter_cons]
          rfl
        have CA := HCL.out _ (getD_mem hjz) wr TT.out
        generalize zs.getD j 0 = z at p0 FN CA
        have CALL : Hid (Calls Try.prog f (#[.int .i64 z] ++ bs) wr fun e w2 => e = .returned (.bool (p z)) ∧ w2 = wr) := CA
        have hj0 : (0 : Int) ≤ (j : Int) := by omega
        have hjn : (j : Int) < (n : Int) := by omega
        clear he hjz CA
        go_wp2_with fail
        rw [HEN.out]
        refine Calls.mono CALL.out ?_
        rintro e w' ⟨rfl, hw'⟩; have hw'' := hw'.symm; clear hw'; subst hw''
        rcases em_bool (p z) with hv | hv
        · have F : Hid (cur.set i z = cur.set i z ∧ (zs.take (j + 1)).filter (fun z => !p z) = cur.take i ++ [z]) := ⟨rfl, by have h1 := FN.out; rw [hv] at h1; exact h1⟩
          have ST : Hid (((wr.setCell ⟨g, i, none⟩ (.int .i64 z))).ownsRow base 3 1 (.slice (some ⟨g, 0, none⟩) n c) n (ints .i64 (cur.set i z))) := by
            have h1 := (OW.out.stored i (.int .i64 z)).1
            have e : (ints .i64 cur).set i (.int .i64 z) = ints .i64 (cur.set i z) := by unfold ints; rw [List.map_set]
            rw [e] at h1
            exact h1
          have ON : Hid (OnlyAt (some ⟨g, 0, none⟩) w (wr.setCell ⟨g, i, none⟩ (.int .i64 z))) := TT.out.setCell (fun x hx => by cases hx; rfl) (by simp) _
          obtain ⟨old, hold⟩ : ∃ old, wr.cell? ⟨g, i, none⟩ = some old := by rw [OW.out.cellAt i (by omega)]; exact ⟨_, List.getElem?_eq_getElem (by rw [ints_length, C.out]; omega)⟩
          have hfz := OW.out.frozenAt i
          have hi0 : (0 : Int) ≤ (i : Int) := by omega
          have hin : (i : Int) < (n : Int) := by omega
          rw [hv]
          clear hv FN CALL
          go_wp2
          go_roundw
          case rel =>
            refine ⟨i + 1, j + 1, cur.set i z, by go_num, by go_num, by omega, by omega, by simpa using C.out, ST.out, ?_, ?_, ON.out⟩
            · rw [F.out.2, take_set (by rw [C.out]; omega)]
            · rw [List.drop_set_of_lt (by omega)]; exact DN.out
          case measure => simp [intOf]; omega
        · have F : Hid ((zs.take (j + 1)).filter (fun z => !p z) = cur.take i) := by show _ = _; rw [FN.out, hv]; simp
          rw [hv]
          clear hv FN CALL
          go_wp2
          go_roundw
          case rel => exact ⟨i, j + 1, cur, rfl, by go_num, by omega, by omega, C.out, OW.out, F.out.symm, DN.out, TT.out⟩
          case measure => simp [intOf]; omega
      · obtain rfl : j = n := by omega
        have F : Hid (zs.filter (fun z => !p z) = cur.take i) := by show _ = _; rw [FI.out, List.take_of_length_le (by rw [HL.out]; omega)]
        have hi0 : (0 : Int) ≤ (i : Int) := by omega
        have hin : (i : Int) ≤ (j : Int) := by omega
        have hic : ¬ c = i := by omega
        have hin2 : i ≤ j := by omega
        have hjc : (i : Int) ≤ (c : Int) := by omega
        have HCLR : ∀ ty, (Builtin.clear_ #[24] ty #[.slice (some ⟨g, i, none⟩) (j - i) (c - i)]).run Try.prog wr = .ok (.tuple #[]) (wr.setCells g i (List.replicate (j - i) (.int .i64 0))) := fun ty =>
          Lib.run_clear_slice wr 24 3 ty (.int .i64 0) Try.underlying24 zero_int rfl rfl g i (j - i) (c - i) (by omega) (fun q hq => by rw [OW.out.cellAt (i + q) (by omega), List.getElem?_eq_getElem (by rw [ints_length, C.out]; omega)]; rfl) (fun q _ => OW.out.frozenAt (i + q))
        have OE : Hid ((wr.setCells g i (List.replicate (j - i) (.int .i64 0))).ownsRow base 3 1 (.slice (some ⟨g, 0, none⟩) i c) i (ints .i64 (zs.filter fun z => !p z))) := by
          have h1 := own_setCells (List.replicate (j - i) (.int .i64 0)) i wr (ints .i64 cur) (by rw [List.length_replicate, ints_length, C.out]; omega) OW.out
          have h2 := own_short h1 (m := i) (by omega)
          have e : ((ints .i64 cur).take i ++ List.replicate (j - i) (Value.int .i64 0) ++ (ints .i64 cur).drop (i + (List.replicate (j - i) (Value.int .i64 0)).length)).take i = ints .i64 (zs.filter fun z => !p z) := by
            rw [F.out, List.append_assoc, List.take_append_of_le_length (by rw [List.length_take, ints_length, C.out]; omega), List.take_take, Nat.min_self]
            unfold ints
            rw [List.map_take]
          rw [e] at h2
          exact h2
        have TE : Hid (OnlyAt (some ⟨g, 0, none⟩) w (wr.setCells g i (List.replicate (j - i) (.int .i64 0)))) := only_setCells _ _ _ _ TT.out
        clear hlt
        go_wp2_with (simp only [HCLR])
        go_ret
        exact ⟨i, rfl, OE.out, TE.out⟩


end Go.Proofs.Ytkondmnkmbdncaa.Sdf
