/-
  slices.Delete of one number out of a list that the call owns; slices.IndexFunc on numbers, for any test.
-/
import Derived.Test.YteihgbiifcgipaaIhl
import Derived.Test.YteihgbiifcgipaaKep
import Derived.Test.YteihgbiifcgipaaLay
import Derived.Laws.IdiomCopy
namespace Go.Proofs.Yteihgbiifcgipaa.Sdl
open Go.RowKit
open Go.Proofs.Yteihgbiifcgipaa.Frame Go.Proofs.Yteihgbiifcgipaa.Mem Go.Proofs.Yteihgbiifcgipaa.Ints Go.Proofs.Yteihgbiifcgipaa.Mii

theorem own_setCells {base g n c : Nat} {e : TypeId} : ∀ (vs : List Value) (o : Nat) (w : World) (xs : List Value), o + vs.length ≤ xs.length → w.ownsRow base e 1 (.slice (some ⟨g, 0, none⟩) n c) n xs → (w.setCells g o vs).ownsRow base e 1 (.slice (some ⟨g, 0, none⟩) n c) n (xs.take o ++ vs ++ xs.drop (o + vs.length))
  | [], o, w, xs, _, h => by
    rw [List.length_nil, Nat.add_zero, List.append_nil, List.take_append_drop]; exact h
  | v :: vs, o, w, xs, hl, h => by
    rw [List.length_cons] at hl
    have h1 := own_setCells vs (o + 1) (w.setCell ⟨g, o, none⟩ v) (xs.set o v) (by rw [List.length_set]; omega) (h.stored o v).1
    have e1 : (xs.set o v).take (o + 1) = xs.take o ++ [v] := by
      rw [List.set_eq_take_append_cons_drop, if_pos (by omega), List.take_append, List.length_take, List.take_take]
      rw [show min (o + 1) o = o by omega, show o + 1 - min o xs.length = 1 by omega]
      rfl
    have e2 : (xs.set o v).drop (o + 1 + vs.length) = xs.drop (o + (vs.length + 1)) := by
      rw [List.drop_set_of_lt (by omega), show o + 1 + vs.length = o + (vs.length + 1) by omega]
    rw [e1, e2, List.append_assoc, List.append_assoc] at h1
    rw [List.length_cons, List.append_assoc]
    exact h1
theorem only_setCells {g : Nat} : ∀ (vs : List Value) (o : Nat) (w0 w : World), OnlyAt (some ⟨g, 0, none⟩) w0 w → OnlyAt (some ⟨g, 0, none⟩) w0 (w.setCells g o vs)
  | [], _, _, _, h => h
  | v :: vs, o, w0, w, h => only_setCells vs (o + 1) w0 (w.setCell ⟨g, o, none⟩ v) (h.setCell (fun x hx => by cases hx; rfl) (by simp) v)
theorem own_short {w : World} {base g n m c : Nat} {e : TypeId} {xs : List Value} (h : w.ownsRow base e 1 (.slice (some ⟨g, 0, none⟩) n c) n xs) (hm : m ≤ n) : w.ownsRow base e 1 (.slice (some ⟨g, 0, none⟩) m c) m (xs.take m) := by
  obtain ⟨h1, h2⟩ := h
  refine ⟨by rw [List.length_take]; omega, ?_⟩
  rcases h2 with ⟨h2, _⟩ | ⟨g', cap, cur, hv, hg, hh, hn, hc, hs, ht⟩
  · simp at h2
  · simp only [Value.slice.injEq, Option.some.injEq, Addr.mk.injEq] at hv
    obtain ⟨⟨rfl, _⟩, _, rfl⟩ := hv
    refine .inr ⟨_, _, cur, rfl, hg, hh, by omega, hc, hs, ?_⟩
    rw [← ht, List.take_take, Nat.mul_one, Nat.mul_one, Nat.min_eq_left hm]
theorem own_drewN {w : World} {base : Nat} {e : TypeId} {size : Nat} {v : Value} {n : Nat} {xs : List Value} (h : w.ownsRow base e size v n xs) (q : Nat) : (w.drewN q).ownsRow base e size v n xs := h

theorem delete_own (g n c k : Nat) (base : Nat) (zs : List Int) (w : World) (h : w.ownsRow base 3 1 (.slice (some ⟨g, 0, none⟩) n c) n (ints .i64 zs)) (hk : k < n) :
    Calls Try.prog 49 #[.slice (some ⟨g, 0, none⟩) n c, .int .i64 (k : Int), .int .i64 ((k + 1 : Nat) : Int)] w fun e w' => e = .returned (.slice (some ⟨g, 0, none⟩) (n - 1) c) ∧ w'.ownsRow base 3 1 (.slice (some ⟨g, 0, none⟩) (n - 1) c) (n - 1) (ints .i64 (zs.take k ++ zs.drop (k + 1))) ∧ OnlyAt (some ⟨g, 0, none⟩) w w' := by
  have hl : zs.length = n := by have := h.1; rw [ints_length] at this; omega
  obtain ⟨hnc, hcm⟩ : n ≤ c ∧ c ≤ maxLen := by
    rcases h.2 with ⟨h2, _⟩ | ⟨g', cap, cur, hv, _, _, hn, hc, _, _⟩
    · simp at h2
    · simp only [Value.slice.injEq] at hv
      rw [hv.2.2]; exact ⟨hn, hc⟩
  have hcell : ∀ j, j < zs.length → w.cell? ⟨g, 0 + j, none⟩ = some (.int .i64 (zs.getD j 0)) := fun j hj => by
    rw [Nat.zero_add, h.cellAt j (by omega)]
    exact ints_get .i64 zs j hj
  have hfz : ∀ j, j < n → w.frozen? ⟨g, 0 + j, none⟩ = false := fun j _ => by rw [Nat.zero_add]; exact h.frozenAt j
  have hc2 : c ≤ 9223372036854775807 := by unfold maxLen at hcm; omega
  refine (Lay.slices_Delete_int_cells g 0 n c k (k + 1) zs w (by omega) hnc hc2 (by omega) (by omega) hcell hfz).mono ?_
  rintro e w' ⟨rfl, q, rfl⟩
  have e1 : n - (k + 1 - k) = n - 1 := by omega
  have e2 : zs.take n = zs := List.take_of_length_le (by omega)
  have e3 : k + 1 - k = 1 := by omega
  rw [e1, e2, e3]
  obtain ⟨L, hL⟩ : ∃ L, L = zs.take k ++ zs.drop (k + 1) := ⟨_, rfl⟩
  have hLn : L.length = n - 1 := by rw [hL, List.length_append, List.length_take, List.length_drop]; omega
  rw [← hL]
  refine ⟨rfl, ?_, only_setCells _ _ _ _ (OnlyAt.refl _ _ |>.drewN q)⟩
  have hlen : ((L ++ List.replicate 1 0).map (Value.int .i64)).length = n := by
    rw [List.length_map, List.length_append, List.length_replicate, hLn]; omega
  have h3 := own_setCells ((L ++ List.replicate 1 0).map (Value.int .i64)) 0 (w.drewN q) (ints .i64 zs) (by rw [hlen, ints_length]; omega) (own_drewN h q)
  have h4 := own_short h3 (m := n - 1) (by omega)
  have e : ((ints .i64 zs).take 0 ++ (L ++ List.replicate 1 0).map (Value.int .i64) ++ (ints .i64 zs).drop (0 + ((L ++ List.replicate 1 0).map (Value.int .i64)).length)).take (n - 1) = ints .i64 L := by
    rw [List.take_zero, List.nil_append, Nat.zero_add, hlen, List.drop_of_length_le (by rw [ints_length]; omega), List.append_nil, List.map_append, List.take_append_of_le_length (by rw [List.length_map]; omega), List.take_of_length_le (by rw [List.length_map]; omega)]
    rfl
  rw [e] at h4
  exact h4

/-- What IndexFunc tells. -/
def IdxF (zs : List Int) (p : Int → Bool) (i : Int) : Prop := (i = -1 ∧ ∀ z ∈ zs, p z = false) ∨ ∃ k : Nat, i = (k : Int) ∧ k < zs.length ∧ p (zs.getD k 0) = true ∧ ∀ j, j < k → p (zs.getD j 0) = false
def Enters (P : Program) (f : FuncId) : Prop := ∀ (args : Array Value) (w : World), (callFunc f args).run P w = .ok (.enter f args) w
theorem enters {P : Program} {f : FuncId} {fn : Func} {c : Code} (hf : P.funcs[f]? = some fn) (hname : (fn.name == "runtime.NumGoroutine") = false) (hb : fn.body = some c) : Enters P f := fun args w => by
  have h1 : fn.name ≠ "runtime.NumGoroutine" := by simpa using hname
  simp [callFunc, hf, h1, hb]

set_option maxRecDepth 4000 in
set_option maxHeartbeats 800000 in
theorem index_func (a : Option Addr) (n ca : Nat) (zs : List Int) (f : FuncId) (bs : Array Value) (p : Int → Bool) (w : World) (h : IsRow .i64 w a n ca zs) (hn : n ≤ 1048576) (hen : Enters Try.prog f) (hcl : ∀ z ∈ zs, Calls Try.prog f (#[.int .i64 z] ++ bs) w fun e w2 => e = .returned (.bool (p z)) ∧ w2 = w) :
    Calls Try.prog 46 #[.slice a n ca, .func (.func f) #[] bs] w fun e w' => ∃ i : Int, e = .returned (.int .i64 i) ∧ IdxF zs p i ∧ w' = w := by
  have HI : Hid (IsRow .i64 w a n ca zs) := h
  have HL : Hid (zs.length = n) := h.len
  have HCL : Hid (∀ z ∈ zs, Calls Try.prog f (#[.int .i64 z] ++ bs) w fun e w2 => e = .returned (.bool (p z)) ∧ w2 = w) := hcl
  have HEN : Hid (Enters Try.prog f) := hen
  clear h hcl hen
  go_enter Try.func46, Try.ntmps46
  go_wp2
  go_loop [8] (fun i => ∃ k : Nat, k ≤ n ∧ i = .int .i64 k ∧ ∀ j, j < k → p (zs.getD j 0) = false) (fun i => n - (intOf i).toNat)
  case atStart => exact ⟨0, Nat.zero_le _, rfl, fun j hj => absurd hj (by omega)⟩
  case round =>
    obtain ⟨k, hk, rfl, hall⟩ := hrel
    have Hall : Hid (∀ j, j < k → p (zs.getD j 0) = false) := hall
    clear hall
    by_cases hlt : k < n
    · obtain ⟨b, off, rfl, hbl, hc⟩ := HI.out.cells (by omega)
      have hck := hc k hlt
      have hm : zs.getD k 0 ∈ zs := getD_mem (by rw [HL.out]; exact hlt)
      have CALL : Hid (Calls Try.prog f (#[.int .i64 (zs.getD k 0)] ++ bs) w fun e w2 => e = .returned (.bool (p (zs.getD k 0))) ∧ w2 = w) := HCL.out _ hm
      have HZ : Hid (∀ b, p (zs.getD k 0) = b → (b = true → IdxF zs p (k : Int)) ∧ (b = false → ∀ j, j < k + 1 → p (zs.getD j 0) = false)) := fun b hb => ⟨fun e => Or.inr ⟨k, rfl, by rw [HL.out]; exact hlt, by rw [hb, e], Hall.out⟩, fun e j hj => by
        by_cases hjk : j = k
        · rw [hjk, hb, e]
        · exact Hall.out j (by omega)⟩
      generalize zs.getD k 0 = z at hck CALL HZ
      clear hc hm
      go_wp2_with fail
      rw [HEN.out]
      refine Calls.mono CALL.out ?_
      rintro e w2 ⟨rfl, hw2⟩; have hw2' := hw2.symm; clear hw2; subst hw2'
      cases hv : p z
      · have F : Hid (∀ j, j < k + 1 → p (zs.getD j 0) = false) := (HZ.out _ hv).2 rfl
        clear hv HZ CALL
        go_wp2
        go_round
        case rel => exact ⟨k + 1, by omega, by go_num, F.out⟩
        case measure => simp [intOf]; omega
      · have F : Hid (IdxF zs p (k : Int)) := (HZ.out _ hv).1 rfl
        clear hv HZ CALL
        go_wp2
        go_ret
        exact ⟨_, rfl, F.out, rfl⟩
    · have F : Hid (IdxF zs p (-1)) := Or.inl ⟨rfl, fun z hz => by
        obtain ⟨j, hj, rfl⟩ := List.mem_iff_getElem.1 hz
        have := Hall.out j (by rw [← HL.out] at hk hlt; omega)
        simpa [List.getD, hj] using this⟩
      go_wp2
      go_ret
      exact ⟨_, rfl, F.out, rfl⟩


end Go.Proofs.Yteihgbiifcgipaa.Sdl
