/-
  Contracts of who leads to whom, in the program: leadingBy, togetherWith, GroupAt; ContainsFunc, IndexFunc on numbers for any test.
-/
import Derived.Test.YtkondmnkmbdncaaGlb
import Derived.Test.YtkondmnkmbdncaaOf
import Derived.Test.YtkondmnkmbdncaaGpr
namespace Go.Proofs.Ytkondmnkmbdncaa.Gld
open Go.RowKit
open Go.Proofs.Ytkondmnkmbdncaa.Frame Go.Proofs.Ytkondmnkmbdncaa.Mem Go.Proofs.Ytkondmnkmbdncaa.Ints Go.Proofs.Ytkondmnkmbdncaa.Kep Go.Proofs.Ytkondmnkmbdncaa.Lls Go.Proofs.Ytkondmnkmbdncaa.Mis Go.Proofs.Ytkondmnkmbdncaa.Gpu Go.Proofs.Ytkondmnkmbdncaa.Gpr Go.Proofs.Ytkondmnkmbdncaa.Gla Go.Proofs.Ytkondmnkmbdncaa.Glb
open Go.Proofs.Ytkondmnkmbdncaa.Kpi (Enters enters kept_int)
open Go.Proofs.Ytkondmnkmbdncaa.Knl hiding Ll
open Go.Proofs.Ytkondmnkmbdncaa.Rel

def IdxF (zs : List Int) (p : Int → Bool) (i : Int) : Prop := (i = -1 ∧ ∀ z ∈ zs, p z = false) ∨ ∃ k : Nat, i = (k : Int) ∧ k < zs.length ∧ p (zs.getD k 0) = true ∧ ∀ j, j < k → p (zs.getD j 0) = false

set_option maxRecDepth 4000 in
set_option maxHeartbeats 1600000 in
theorem index_int (a : Option Addr) (n ca : Nat) (zs : List Int) (f : FuncId) (bs : Array Value) (p : Int → Bool) (w : World) (h : IsRow .i64 w a n ca zs) (hen : Enters Try.prog f) (hcl : ∀ z ∈ zs, ∀ w1, Below w.heap.size w w1 → Calls Try.prog f (#[.int .i64 z] ++ bs) w1 fun e w2 => e = .returned (.bool (p z)) ∧ Below w1.heap.size w1 w2) :
    Calls Try.prog 129 #[.slice a n ca, .func (.func f) #[] bs] w fun e w' => ∃ i : Int, e = .returned (.int .i64 i) ∧ IdxF zs p i ∧ Below w.heap.size w w' := by
  have hn : n ≤ 9223372036854775807 := by have := h.fits; have := h.max; unfold maxLen at *; omega
  have HI : Hid (IsRow .i64 w a n ca zs) := h
  have HL : Hid (zs.length = n) := h.len
  have HCL : Hid (∀ z ∈ zs, ∀ w1, Below w.heap.size w w1 → Calls Try.prog f (#[.int .i64 z] ++ bs) w1 fun e w2 => e = .returned (.bool (p z)) ∧ Below w1.heap.size w1 w2) := hcl
  have HEN : Hid (Enters Try.prog f) := hen
  clear h hcl hen
  go_enter Try.func129, Try.ntmps129
  go_wp2_with fail
  go_loopw [8] (fun i wr => ∃ k : Nat, k ≤ n ∧ i = .int .i64 k ∧ (∀ j, j < k → p (zs.getD j 0) = false) ∧ Below w.heap.size w wr) (fun i _ => n - (intOf i).toNat)
  case atStart => exact ⟨0, Nat.zero_le _, rfl, fun j hj => absurd hj (by omega), Below.refl _ _⟩
  case round =>
    obtain ⟨k, hk, rfl, hall, hnx⟩ := hrel
    have HA : Hid (∀ j, j < k → p (zs.getD j 0) = false) := hall
    have HN : Hid (Below w.heap.size w wr) := hnx
    clear hall
    by_cases hlt : k < n
    · obtain ⟨b, off, rfl, hbl, hc⟩ := HI.out.cells (by omega)
      have hkl : k < zs.length := by rw [HL.out]; exact hlt
      have hck : wr.cell? ⟨b, off + k, none⟩ = some (.int .i64 (zs.getD k 0)) := by rw [hnx.cell (p := ⟨b, off + k, none⟩) hbl]; exact hc k hlt
      have CA := HCL.out _ (getD_mem hkl) wr hnx
      generalize hx : zs.getD k 0 = x at hck CA
      have HX : Hid (zs.getD k 0 = x) := hx
      have CALL : Hid (Calls Try.prog f (#[.int .i64 x] ++ bs) wr fun e w2 => e = .returned (.bool (p x)) ∧ Below wr.heap.size wr w2) := CA
      clear hc hnx hkl CA hx
      go_wp2_with fail
      rw [HEN.out]
      refine Calls.mono CALL.out ?_
      rintro e w2 ⟨rfl, hb2⟩
      have HN1 : Hid (Below w.heap.size w w2) := Frame.next HN.out hb2 HN.out.size
      clear hb2 CALL hck
      rcases em_bool (p x) with hv | hv
      · have F : Hid (∀ j, j < k + 1 → p (zs.getD j 0) = false) := fun j hj => by
          by_cases e : j = k
          · rw [e, HX.out]; exact hv
          · exact HA.out j (by omega)
        rw [hv]
        clear hv
        go_wp2_with fail
        go_roundw
        case rel => exact ⟨k + 1, by omega, by go_num, F.out, HN1.out⟩
        case measure => simp [intOf]; omega
      · have F : Hid (IdxF zs p (k : Int)) := Or.inr ⟨k, rfl, by rw [HL.out]; exact hlt, by rw [HX.out]; exact hv, HA.out⟩
        rw [hv]
        clear hv
        go_wp2
        go_ret
        exact ⟨(k : Int), rfl, F.out, HN1.out⟩
    · have F : Hid (IdxF zs p (-1)) := Or.inl ⟨rfl, fun z hz => by
        obtain ⟨i, hi, rfl⟩ := List.getElem_of_mem hz
        have := HA.out i (by have := HL.out; omega)
        rwa [show zs.getD i 0 = zs[i] by simp [List.getD, hi]] at this⟩
      clear hnx
      go_wp2
      go_ret
      exact ⟨-1, rfl, F.out, HN.out⟩

theorem idx_any {zs : List Int} {p : Int → Bool} {i : Int} (h : IdxF zs p i) : decide (0 ≤ i) = zs.any p := by
  rcases h with ⟨rfl, h⟩ | ⟨k, rfl, hk, hp, _⟩
  · symm
    rw [show decide ((0 : Int) ≤ -1) = false from rfl, List.any_eq_false]
    exact fun z hz => by rw [h z hz]; decide
  · rw [decide_eq_true (by omega)]
    exact (List.any_eq_true.2 ⟨_, getD_mem hk, hp⟩).symm

theorem contains_int (a : Option Addr) (n ca : Nat) (zs : List Int) (f : FuncId) (bs : Array Value) (p : Int → Bool) (w : World) (h : IsRow .i64 w a n ca zs) (hen : Enters Try.prog f) (hcl : ∀ z ∈ zs, ∀ w1, Below w.heap.size w w1 → Calls Try.prog f (#[.int .i64 z] ++ bs) w1 fun e w2 => e = .returned (.bool (p z)) ∧ Below w1.heap.size w1 w2) :
    Calls Try.prog 103 #[.slice a n ca, .func (.func f) #[] bs] w fun e w' => e = .returned (.bool (zs.any p)) ∧ Below w.heap.size w w' := by
  have HC := index_int a n ca zs f bs p w h hen hcl
  have C : Hid _ := HC
  clear h hen hcl HC
  go_enter Try.func103, Try.ntmps103
  go_wp2_with fail
  refine Calls.mono C.out ?_
  rintro e w1 ⟨i, rfl, hi, hb1⟩
  have B1 : Hid (Below w.heap.size w w1) := hb1
  have HI : Hid (decide (0 ≤ i) = zs.any p) := idx_any hi
  clear hb1 hi
  go_wp2
  go_ret
  refine ⟨?_, B1.out⟩
  rw [← HI.out]
  first | rfl | simp

/-- A value that tells of links who leads to whom. -/
def Leads (w : World) (v : Value) (xs : Ll) : Prop := ∃ br a c qs, v = .func (.func 136) #[] #[.pointer (some ⟨br, 0, none⟩)] ∧ w.cell? ⟨br, 0, none⟩ = some (.slice a xs.length c) ∧ IsLs w a xs.length c qs ∧ lplain qs = (numN xs.length).map (reachN xs)
theorem Leads.below {w w' : World} {v : Value} {xs : Ll} (h : Leads w v xs) (hb : Below w.heap.size w w') : Leads w' v xs := by
  obtain ⟨br, a, c, qs, rfl, hc, hl, hp⟩ := h
  exact ⟨br, a, c, qs, rfl, Frame.held_cell hb hc, hl.below hb, hp⟩
/-- The function of such a value, and what it has bound. -/
theorem Leads.form {w : World} {v : Value} {xs : Ll} (h : Leads w v xs) : ∃ br, v = .func (.func 136) #[] #[.pointer (some ⟨br, 0, none⟩)] := by
  obtain ⟨br, a, c, qs, rfl, _⟩ := h
  exact ⟨br, rfl⟩

set_option maxRecDepth 4000 in
set_option maxHeartbeats 800000 in
theorem leads_call (br : Nat) (xs : Ll) (i j : Int) (w : World) (h : Leads w (.func (.func 136) #[] #[.pointer (some ⟨br, 0, none⟩)]) xs) (hg : GoodP xs) (hi : 0 ≤ i ∧ i < (xs.length : Int)) :
    Calls Try.prog 136 #[.int .i64 i, .int .i64 j, .pointer (some ⟨br, 0, none⟩)] w fun e w' => e = .returned (.bool (rB xs i j)) ∧ w' = w := by
  obtain ⟨br', a, c, qs, e, hc, hl, hp⟩ := h
  obtain rfl : br = br' := by simpa using e
  obtain ⟨x, rfl⟩ : ∃ x : Nat, i = (x : Int) := ⟨i.toNat, by omega⟩
  have hx : x < xs.length := by omega
  obtain ⟨b, off, rfl, hb, hcc⟩ := hl.cells (by omega)
  have hkl : x < qs.length := by rw [hl.len]; exact hx
  have p0 := hcc x hx
  have hrow := hl.rows _ (getD_mem_ld hkl)
  have hz : (qs.getD x ld).zs = reachN xs (x : Int) := by
    rw [← lplain_get qs x hkl, hp]
    have : (numN xs.length).getD x 0 = (x : Int) := numN_get _ _ hx
    simp [List.getD, numN, hx]
  have hfew := hg.few
  generalize qs.getD x ld = q at p0 hrow hz
  obtain ⟨qa, qn, qc, zs⟩ := q
  simp only at p0 hrow hz
  subst hz
  have hqn : qn ≤ 1048576 := by have := hrow.len; have := reach_len xs (x : Int); omega
  have HROW : Hid (IsRow .i64 w qa qn qc (reachN xs (x : Int))) := hrow
  have HU : Hid (UpN (reachN xs (x : Int))) := up_reach _ _
  have HD : Hid (decide (j ∈ reachN xs (x : Int)) = rB xs (x : Int) j) := by
    show _ = _
    rw [Bool.eq_iff_iff, decide_eq_true_eq, rB_iff]
    exact mem_reach hg hi
  have hxI : (x : Int) < (xs.length : Int) := by omega
  have hx0 : (0 : Int) ≤ (x : Int) := by omega
  clear hcc hl hp hrow hb hg hi e hkl
  go_enter Try.func136, Try.ntmps136
  go_wp2_with fail
  refine (Of.has_int qa qn qc _ j _ HROW.out hqn HU.out).mono ?_
  rintro e w' ⟨rfl, hw'⟩; have hw'' := hw'.symm; clear hw'; subst hw''
  rw [HD.out]
  go_wp2
  go_ret
  exact ⟨rfl, rfl⟩

/-- A value that tells who is in one group with a node. -/
def Tog (w : World) (v : Value) (xs : Ll) (i : Int) : Prop := ∃ bl bn br, v = .func (.func 135) #[] #[.pointer (some ⟨bl, 0, none⟩), .pointer (some ⟨bn, 0, none⟩)] ∧ w.cell? ⟨bl, 0, none⟩ = some (.func (.func 136) #[] #[.pointer (some ⟨br, 0, none⟩)]) ∧ Leads w (.func (.func 136) #[] #[.pointer (some ⟨br, 0, none⟩)]) xs ∧ w.cell? ⟨bn, 0, none⟩ = some (.int .i64 i)
theorem Tog.below {w w' : World} {v : Value} {xs : Ll} {i : Int} (h : Tog w v xs i) (hb : Below w.heap.size w w') : Tog w' v xs i := by
  obtain ⟨bl, bn, br, rfl, h1, h2, h3⟩ := h
  exact ⟨bl, bn, br, rfl, Frame.held_cell hb h1, h2.below hb, Frame.held_cell hb h3⟩
theorem Tog.form {w : World} {v : Value} {xs : Ll} {i : Int} (h : Tog w v xs i) : ∃ bl bn, v = .func (.func 135) #[] #[.pointer (some ⟨bl, 0, none⟩), .pointer (some ⟨bn, 0, none⟩)] := by
  obtain ⟨bl, bn, br, rfl, _⟩ := h
  exact ⟨bl, bn, rfl⟩

set_option maxRecDepth 4000 in
set_option maxHeartbeats 800000 in
theorem tog_call (bl bn : Nat) (xs : Ll) (i o : Int) (w : World) (h : Tog w (.func (.func 135) #[] #[.pointer (some ⟨bl, 0, none⟩), .pointer (some ⟨bn, 0, none⟩)]) xs i) (hg : GoodP xs) (hi : 0 ≤ i ∧ i < (xs.length : Int)) (ho : 0 ≤ o ∧ o < (xs.length : Int)) :
    Calls Try.prog 135 #[.int .i64 o, .pointer (some ⟨bl, 0, none⟩), .pointer (some ⟨bn, 0, none⟩)] w fun e w' => e = .returned (.bool (togB xs i o)) ∧ w' = w := by
  obtain ⟨bl', bn', br, e, h1, h2, h3⟩ := h
  obtain ⟨rfl, rfl⟩ : bl = bl' ∧ bn = bn' := by simpa using e
  have HG : Hid (GoodP xs) := hg
  have HI : Hid (0 ≤ i ∧ i < (xs.length : Int)) := hi
  have HO : Hid (0 ≤ o ∧ o < (xs.length : Int)) := ho
  have HLD : Hid (Leads w (.func (.func 136) #[] #[.pointer (some ⟨br, 0, none⟩)]) xs) := h2
  have HT : Hid (togB xs i o = (rB xs i o && rB xs o i)) := rfl
  clear h2 hg hi ho e
  rcases em_bool (rB xs i o) with hv | hv
  · have F : Hid (togB xs i o = false) := by show _ = _; rw [HT.out, hv]; rfl
    have V : Hid (rB xs i o = false) := hv
    clear hv HT
    go_enter Try.func135, Try.ntmps135
    go_wp2_with fail
    refine (leads_call br xs i o _ HLD.out HG.out HI.out).mono ?_
    rintro e w' ⟨rfl, hw'⟩; have hw'' := hw'.symm; clear hw'; subst hw''
    rw [V.out]
    go_wp2
    go_ret
    exact ⟨ret_bool F.out.symm, rfl⟩
  · have F : Hid (togB xs i o = rB xs o i) := by show _ = _; rw [HT.out, hv]; rfl
    have V : Hid (rB xs i o = true) := hv
    clear hv HT
    go_enter Try.func135, Try.ntmps135
    go_wp2_with fail
    refine (leads_call br xs i o _ HLD.out HG.out HI.out).mono ?_
    rintro e w' ⟨rfl, hw'⟩; have hw'' := hw'.symm; clear hw'; subst hw''
    rw [V.out]
    go_wp2_with fail
    refine (leads_call br xs o i _ HLD.out HG.out HO.out).mono ?_
    rintro e w' ⟨rfl, hw'⟩; have hw'' := hw'.symm; clear hw'; subst hw''
    rw [← F.out]
    go_wp2
    go_ret
    exact ⟨rfl, rfl⟩

set_option maxRecDepth 4000 in
set_option maxHeartbeats 800000 in
theorem togetherWith (v : Value) (xs : Ll) (i : Int) (w : World) (h : Leads w v xs) :
    Calls Try.prog 93 #[v, .int .i64 i] w fun e w' => ∃ u, e = .returned u ∧ Tog w' u xs i ∧ Below w.heap.size w w' := by
  obtain ⟨br, rfl⟩ := h.form
  have H : Hid (Leads w (.func (.func 136) #[] #[.pointer (some ⟨br, 0, none⟩)]) xs) := h
  have hst : ∀ (a : Addr) (w : World) (f : Fn) (x y : Array Value) (m : Mode), (store a (.func f x y) m).run Try.prog w = stored Try.prog w a (.func f x y) m := fun a w f x y m => run_store Try.prog w a _ m rfl
  clear h
  go_enter Try.func93, Try.ntmps93
  go_wp2_with fail
  go_ret
  have hb : Below w.heap.size w ((w.alloc (.cells #[.func (.func 136) #[] #[.pointer (some ⟨br, 0, none⟩)]] 92)).alloc (.cells #[.int .i64 i] 3)) := ((Below.refl _ _).alloc (Nat.le_refl _) _).alloc (by simp) _
  exact ⟨_, rfl, ⟨w.heap.size, w.heap.size + 1, br, rfl, by go_simp, H.out.below hb, by go_simp⟩, hb⟩

theorem numN_take (n k : Nat) (h : k ≤ n) : (numN n).take k = numN k := by
  unfold numN
  rw [← List.map_take, List.take_range, Nat.min_eq_left h]

set_option maxRecDepth 8000 in
set_option maxHeartbeats 3200000 in
theorem leadingBy (la : Option Addr) (ln lc : Nat) (rs : List LV) (w : World) (hl : IsLs w la ln lc rs) (hg : GoodP (lplain rs)) :
    Calls Try.prog 94 #[.slice la ln lc] w fun e w' => ∃ u, e = .returned u ∧ Leads w' u (lplain rs) ∧ Below w.heap.size w w' := by
  obtain ⟨i0, hi, hz0, hz1, hz2⟩ := info_parts infoL
  have hlen : (lplain rs).length = ln := by simp [lplain, hl.len]
  have hn12 : ln ≤ 12 := by have := hg.few; omega
  have HL : Hid ((lplain rs).length = ln) := hlen
  have HI : Hid (IsLs w la ln lc rs) := hl
  have HG : Hid (GoodP (lplain rs)) := hg
  clear hl hg hlen
  go_enter Try.func94, Try.ntmps94
  go_wp2_with (at_make; refine wpList_make_full _ rfl _ _ 23 rfl w.heap.size 24 i0 (.slice none 0 0) 1 Try.underlying23 hi hz0 hz1 _ _ _ _ ln rfl rfl rfl rfl ?b2 ?b3 (Nat.le_refl _) ?_)
  case b2 => rw [hz2]; omega
  case b3 => unfold maxLen; omega
  intro w0 hown0 hgrow0
  have O0 : Hid (OwnLs w0 w.heap.size (some ⟨w.heap.size, 0, none⟩) ln ln (List.replicate ln ld)) := own_made (by simpa using hown0)
  have B0 : Hid (Below w.heap.size w w0) := (Below.refl _ _).grown hgrow0 (Nat.le_refl _) (fun k h => by cases h)
  clear hown0 hgrow0
  go_wp2_with fail
  have O1 : Hid (OwnLs (w0.alloc (.cells #[.slice (some ⟨w.heap.size, 0, none⟩) ln ln] 23)) w.heap.size (some ⟨w.heap.size, 0, none⟩) ln ln (List.replicate ln ld)) := O0.out.below ((Below.refl _ _).alloc (Nat.le_refl _) _)
  have B1 : Hid (Below w.heap.size w (w0.alloc (.cells #[.slice (some ⟨w.heap.size, 0, none⟩) ln ln] 23))) := B0.out.alloc B0.out.size _
  have K1 : Hid ((w0.alloc (.cells #[.slice (some ⟨w.heap.size, 0, none⟩) ln ln] 23)).cell? ⟨w0.heap.size, 0, none⟩ = some (.slice (some ⟨w.heap.size, 0, none⟩) ln ln)) := by show _ = _; go_simp
  have HZ : Hid (w.heap.size < w0.heap.size) := (own_block O0.out.outer _ rfl).2
  obtain ⟨bx, hbx⟩ : ∃ bx, bx = w0.heap.size := ⟨_, rfl⟩
  rw [← hbx] at K1 HZ ⊢
  clear O0 B0 hbx
  go_loopw [10] (fun i wr => ∃ (k : Nat) (xs : List LV), k ≤ ln ∧ i = .int .i64 k ∧ xs.length = k ∧ lplain xs = (numN k).map (reachN (lplain rs)) ∧ OwnLs wr w.heap.size (some ⟨w.heap.size, 0, none⟩) ln ln (xs ++ List.replicate (ln - k) ld) ∧ wr.cell? ⟨bx, 0, none⟩ = some (.slice (some ⟨w.heap.size, 0, none⟩) ln ln) ∧ Below w.heap.size w wr) (fun i _ => ln - (intOf i).toNat)
  case atStart => exact ⟨0, [], Nat.zero_le _, rfl, rfl, rfl, O1.out, K1.out, B1.out⟩
  case round =>
    obtain ⟨k, xs, hk, rfl, hxl, hpl, hown, hcb, hnx⟩ := hrel
    have HN : Hid (Below w.heap.size w wr) := hnx
    have HXL : Hid (xs.length = k) := hxl
    have HP : Hid (lplain xs = (numN k).map (reachN (lplain rs))) := hpl
    clear hnx hxl hpl O1 B1 K1
    by_cases hlt : k < ln
    · have hsplit : xs ++ List.replicate (ln - k) ld = xs ++ ld :: List.replicate (ln - (k + 1)) ld := by
        rw [show ln - k = (ln - (k + 1)) + 1 by omega, List.replicate_succ]
      rw [hsplit] at hown
      have HO : Hid (OwnLs wr w.heap.size (some ⟨w.heap.size, 0, none⟩) ln ln (xs ++ ld :: List.replicate (ln - (k + 1)) ld)) := hown
      have K2 : Hid (wr.drew.cell? ⟨bx, 0, none⟩ = some (.slice (some ⟨w.heap.size, 0, none⟩) ln ln)) := by show _ = _; rw [World.cell?_drew]; exact hcb
      have HOD : Hid (OwnLs wr.drew w.heap.size (some ⟨w.heap.size, 0, none⟩) ln ln (xs ++ ld :: List.replicate (ln - (k + 1)) ld)) := hown.below (Below.refl _ _).drew
      have BD : Hid (Below w.heap.size w wr.drew) := Frame.next HN.out (Below.refl _ _).drew HN.out.size
      have hk0 : (0 : Int) ≤ (k : Int) := by omega
      have hkn : (k : Int) < (ln : Int) := by omega
      clear hown hsplit hcb
      go_wp2_with fail
      go_region_held3 (fun w' => w'.cell? ⟨bx, 0, none⟩ = some (.slice (some ⟨w.heap.size, 0, none⟩) ln ln)) (first | exact K2.out | with_reducible exact K3.out | with_reducible exact K4.out)
        (first | (go_at_call 90; refine (Glb.reachedFrom la ln lc rs k _ (IsLs.below HI.out BD.out) HG.out hlt).mono ?_; rintro e w1 ⟨a', m, c', rfl, hm, ho, hb⟩; have B3 : Hid (Below w.heap.size w w1) := Frame.next BD.out hb BD.out.size; have K3 : Hid (w1.cell? ⟨bx, 0, none⟩ = some (.slice (some ⟨w.heap.size, 0, none⟩) ln ln)) := Frame.held_cell hb K2.out; have O3 : Hid (OwnLs w1 w.heap.size (some ⟨w.heap.size, 0, none⟩) ln ln (xs ++ ld :: List.replicate (ln - (k + 1)) ld)) := HOD.out.below hb; have R3 : Hid (w1.ownsRow wr.drew.heap.size 3 1 (.slice a' m c') m (ints .i64 (reachN (lplain rs) (k : Int)))) := ho; have K4 : Hid ((w1.setCell ⟨w.heap.size, k, none⟩ (.slice a' m c')).cell? ⟨bx, 0, none⟩ = some (.slice (some ⟨w.heap.size, 0, none⟩) ln ln)) := (World.cell?_setCell_other _ _ _ _ (by simp; have := HZ.out; omega)).trans K3.out; obtain ⟨o0, ho0⟩ : ∃ o, w1.cell? ⟨w.heap.size, k, none⟩ = some o := (by rw [O3.out.outer.cellAt _ (by omega)]; exact ⟨_, List.getElem?_eq_getElem (by rw [lcells_length]; simp; have := HXL.out; omega)⟩); have f0 := O3.out.outer.frozenAt k; clear ho hb))
      have hput := OwnLs.put (r := ⟨a', m, c', reachN (lplain rs) (k : Int)⟩) O3.out (own_base R3.out BD.out.size) (reach_wf (by have := HG.out.few; omega))
        (fun t ht x y hx hy => by have h1 := (HOD.out.lt t (List.mem_append_left _ ht) x hx).2; have h2 := (own_block R3.out y hy).1; omega)
        (fun t ht x y hx hy => by rw [(List.mem_replicate.1 ht).2] at hy; cases hy)
        (fun x y hx hy => by cases hx; have h1 := (own_block HOD.out.outer _ rfl).2; have h2 := (own_block R3.out y hy).1; simp at h1 h2; show w.heap.size ≠ y.block; omega)
      rw [HXL.out] at hput
      have O5 : Hid (OwnLs (w1.setCell ⟨w.heap.size, k, none⟩ (.slice a' m c')) w.heap.size (some ⟨w.heap.size, 0, none⟩) ln ln (xs ++ ⟨a', m, c', reachN (lplain rs) (k : Int)⟩ :: List.replicate (ln - (k + 1)) ld)) := hput
      have B5 : Hid (Below w.heap.size w (w1.setCell ⟨w.heap.size, k, none⟩ (.slice a' m c'))) := B3.out.setCell (Nat.le_refl _) _
      clear hput K2 K3 ho0 f0
      go_wp2
      go_roundw
      case rel =>
        refine ⟨k + 1, xs ++ [⟨a', m, c', reachN (lplain rs) (k : Int)⟩], by omega, by go_num, by rw [List.length_append, HXL.out]; rfl, ?_, ?_, K4.out, B5.out⟩
        · rw [numN_succ, List.map_append, ← HP.out]
          simp [lplain]
        · rw [List.append_assoc]
          exact O5.out
      case measure => simp [intOf]; omega
    · obtain rfl : k = ln := by omega
      rw [Nat.sub_self, List.replicate_zero, List.append_nil] at hown
      have O5 : Hid (OwnLs wr w.heap.size (some ⟨w.heap.size, 0, none⟩) k k xs) := hown
      have K5 : Hid (wr.cell? ⟨bx, 0, none⟩ = some (.slice (some ⟨w.heap.size, 0, none⟩) k k)) := hcb
      clear hown hcb
      go_wp2
      go_ret
      refine ⟨_, rfl, ⟨bx, some ⟨w.heap.size, 0, none⟩, k, xs, rfl, ?_, ?_, ?_⟩, HN.out⟩
      · rw [HL.out]; exact K5.out
      · rw [HL.out]; exact O5.out.isLs
      · rw [HL.out]; exact HP.out

set_option maxRecDepth 8000 in
set_option maxHeartbeats 1600000 in
theorem impl_GroupAt (v : Value) (xs : Ll) (k : Int) (w : World) (h : LIs w v xs) :
    Calls Try.prog 35 #[v, .int .i64 k] w fun e w' => ∃ u, e = .returned (.tuple #[u, .bool (nodeB xs k)]) ∧ IOwn w' w.heap.size w'.heap.size u (groupV xs k) ∧ Below w.heap.size w w' := by
  obtain ⟨a, n, c, rs, rfl, hr, rfl, ht⟩ := h
  have H : Hid (LIs w (.slice a n c) (lplain rs)) := ⟨a, n, c, rs, rfl, hr, rfl, ht⟩
  have HI : Hid (IsLs w a n c rs) := hr
  have hlen : (lplain rs).length = n := by simp [lplain, hr.len]
  have HN : Hid (nodeB (lplain rs) k = (goodG (lplain rs) && decide (0 ≤ k ∧ k < (n : Int)))) := by
    show _ = _
    unfold nodeB Val.inB
    rw [hlen]
    congr 1
    rw [decide_eq_decide]
    omega
  clear hr ht hlen
  rcases em_bool (goodG (lplain rs)) with hg | hg
  · have F : Hid (nodeB (lplain rs) k = false) := by show _ = _; rw [HN.out, hg]; rfl
    have HG : Hid (goodG (lplain rs) = false) := hg
    clear hg HN
    go_enter Try.func35, Try.ntmps35
    go_wp2_with fail
    refine (impl_GoodLinks _ _ _ H.out).mono ?_
    rintro e w1 ⟨rfl, hb1⟩
    have B1 : Hid (Below w.heap.size w w1) := hb1
    rw [HG.out]
    clear hb1
    go_wp2
    go_ret2
    refine ⟨_, by rw [F.out]; rfl, ?_, B1.out⟩
    unfold groupV
    rw [F.out]
    exact iOwn_nil _ _ _
  · have HG : Hid (goodG (lplain rs) = true) := hg
    have GP : Hid (GoodP (lplain rs)) := good_iff.1 hg
    have HL : Hid ((lplain rs).length = n) := by show _ = _; simp [lplain, HI.out.len]
    have F : Hid (nodeB (lplain rs) k = decide (0 ≤ k ∧ k < (n : Int))) := by show _ = _; rw [HN.out, hg, Bool.true_and]
    clear hg HN
    by_cases hk : 0 ≤ k ∧ k < (n : Int)
    · have F2 : Hid (nodeB (lplain rs) k = true) := by show _ = _; rw [F.out]; exact decide_eq_true hk
      have D : Hid (decide (0 ≤ k ∧ k < (n : Int)) = true) := decide_eq_true hk
      have HK : Hid (0 ≤ k ∧ k < ((lplain rs).length : Int)) := by rw [HL.out]; exact hk
      have hn12 : n ≤ 12 := by have := GP.out.few; have := HL.out; omega
      have HEN : Hid (Enters Try.prog 135) := enters Try.func135 (by kernel_rfl) rfl
      clear hk F
      go_enter Try.func35, Try.ntmps35
      go_wp2_with fail
      refine (impl_GoodLinks _ _ _ H.out).mono ?_
      rintro e w1 ⟨rfl, hb1⟩
      have B1 : Hid (Below w.heap.size w w1) := hb1
      rw [HG.out]
      clear hb1
      go_wp2_with fail
      refine (isNode a n c k _).mono ?_
      rintro e w' ⟨rfl, hw'⟩; have hw'' := hw'.symm; clear hw'; subst hw''
      rw [D.out]
      go_wp2_with fail
      refine (numbersBelow n _ (by omega)).mono ?_
      rintro e w2 ⟨g, rfl, ho2, hb2⟩
      have R2 : Hid (IsRow .i64 w2 (some ⟨g, 0, none⟩) n n (numN n)) := own_row ho2 (numN_wf n (by omega))
      have B2 : Hid (Below w.heap.size w w2) := Frame.next B1.out hb2 B1.out.size
      clear ho2 hb2
      go_wp2_with fail
      refine (leadingBy a n c rs _ (IsLs.below HI.out B2.out) GP.out).mono ?_
      rintro e w3 ⟨lv, rfl, hlv, hb3⟩
      have R3 : Hid (IsRow .i64 w3 (some ⟨g, 0, none⟩) n n (numN n)) := IsRow.below R2.out hb3
      have B3 : Hid (Below w.heap.size w w3) := Frame.next B2.out hb3 B2.out.size
      have L3 : Hid (Leads w3 lv (lplain rs)) := hlv
      clear hlv hb3
      go_wp2_with fail
      refine (togetherWith lv _ k _ L3.out).mono ?_
      rintro e w4 ⟨tv, rfl, htv, hb4⟩
      obtain ⟨bl, bn, rfl⟩ := htv.form
      have T4 : Hid (Tog w4 (.func (.func 135) #[] #[.pointer (some ⟨bl, 0, none⟩), .pointer (some ⟨bn, 0, none⟩)]) (lplain rs) k) := htv
      have R4 : Hid (IsRow .i64 w4 (some ⟨g, 0, none⟩) n n (numN n)) := IsRow.below R3.out hb4
      have B4 : Hid (Below w.heap.size w w4) := Frame.next B3.out hb4 B3.out.size
      clear htv hb4
      go_wp2_with fail
      refine (kept_int (some ⟨g, 0, none⟩) n n (numN n) 135 #[.pointer (some ⟨bl, 0, none⟩), .pointer (some ⟨bn, 0, none⟩)] (togB (lplain rs) k) _ R4.out (by omega) HEN.out (fun z hz w5 hb5 => (tog_call bl bn (lplain rs) k z w5 (T4.out.below hb5) GP.out HK.out (by rw [HL.out]; exact mem_numN.1 hz)).mono (by rintro e w6 ⟨rfl, rfl⟩; exact ⟨rfl, Below.refl _ _⟩))).mono ?_
      rintro e w5 ⟨a', m, c', rfl, hm, ho, hb⟩
      have B5 : Hid (Below w.heap.size w w5) := Frame.next B4.out hb B4.out.size
      have O5 : Hid (IOwn w5 w.heap.size w5.heap.size (.slice a' m c') (groupV (lplain rs) k)) := by
        show IOwn _ _ _ _ _
        unfold groupV groupN
        rw [F2.out, HL.out]
        exact iOwn_of (own_base ho B4.out.size) (fun z hz => numN_wf n (by omega) z (List.mem_filter.1 hz).1) (by omega)
      clear ho hb
      go_wp2
      go_ret2
      exact ⟨_, by rw [F2.out]; rfl, O5.out, B5.out⟩
    · have F2 : Hid (nodeB (lplain rs) k = false) := by show _ = _; rw [F.out]; exact decide_eq_false hk
      have D : Hid (decide (0 ≤ k ∧ k < (n : Int)) = false) := decide_eq_false hk
      clear hk F
      go_enter Try.func35, Try.ntmps35
      go_wp2_with fail
      refine (impl_GoodLinks _ _ _ H.out).mono ?_
      rintro e w1 ⟨rfl, hb1⟩
      have B1 : Hid (Below w.heap.size w w1) := hb1
      rw [HG.out]
      clear hb1
      go_wp2_with fail
      refine (isNode a n c k _).mono ?_
      rintro e w' ⟨rfl, hw'⟩; have hw'' := hw'.symm; clear hw'; subst hw''
      rw [D.out]
      go_wp2
      go_ret2
      refine ⟨_, by rw [F2.out]; rfl, ?_, B1.out⟩
      unfold groupV
      rw [F2.out]
      exact iOwn_nil _ _ _

theorem row_of {w wr : World} {la : Option Addr} {ln lc : Nat} {rs : List LV} (hl : IsLs w la ln lc rs) {k : Nat} (hk : k < ln) (hb : Below w.heap.size w wr) : ∃ b off qa qn qc zs, la = some ⟨b, off, none⟩ ∧ wr.cell? ⟨b, off + k, none⟩ = some (.slice qa qn qc) ∧ IsRow .i64 w qa qn qc zs ∧ gRow (lplain rs) (k : Int) = zs := by
  obtain ⟨b, off, ha, hb0, hc⟩ := hl.cells (by omega)
  have hkl : k < rs.length := by rw [hl.len]; exact hk
  refine ⟨b, off, _, _, _, _, ha, by rw [hb.cell (p := ⟨b, off + k, none⟩) hb0]; exact hc k hk, hl.rows _ (getD_mem_ld hkl), ?_⟩
  unfold gRow
  rw [show ((k : Int)).toNat = k by omega]
  exact lplain_get rs k hkl

set_option maxRecDepth 4000 in
set_option maxHeartbeats 800000 in
theorem leads_back (bl bn br : Nat) (xs : Ll) (y k : Int) (w : World) (hl : w.cell? ⟨bl, 0, none⟩ = some (.func (.func 136) #[] #[.pointer (some ⟨br, 0, none⟩)])) (hn : w.cell? ⟨bn, 0, none⟩ = some (.int .i64 k)) (h : Leads w (.func (.func 136) #[] #[.pointer (some ⟨br, 0, none⟩)]) xs) (hg : GoodP xs) (hy : 0 ≤ y ∧ y < (xs.length : Int)) :
    Calls Try.prog 104 #[.int .i64 y, .pointer (some ⟨bl, 0, none⟩), .pointer (some ⟨bn, 0, none⟩)] w fun e w' => e = .returned (.bool (rB xs y k)) ∧ w' = w := by
  have HLD : Hid (Leads w (.func (.func 136) #[] #[.pointer (some ⟨br, 0, none⟩)]) xs) := h
  have HG : Hid (GoodP xs) := hg
  have HY : Hid (0 ≤ y ∧ y < (xs.length : Int)) := hy
  clear h hg hy
  go_enter Try.func104, Try.ntmps104
  go_wp2_with fail
  refine (leads_call br xs y k _ HLD.out HG.out HY.out).mono ?_
  rintro e w' ⟨rfl, hw'⟩; have hw'' := hw'.symm; clear hw'; subst hw''
  go_wp2
  go_ret
  exact ⟨rfl, rfl⟩

set_option maxRecDepth 8000 in
set_option maxHeartbeats 3200000 in
theorem impl_IsRoundless (v : Value) (xs : Ll) (w : World) (h : LIs w v xs) :
    Calls Try.prog 43 #[v] w fun e w' => e = .returned (.tuple #[.bool (plainV xs), .bool (goodG xs)]) ∧ Below w.heap.size w w' := by
  obtain ⟨a, n, c, rs, rfl, hr, rfl, ht⟩ := h
  have H : Hid (LIs w (.slice a n c) (lplain rs)) := ⟨a, n, c, rs, rfl, hr, rfl, ht⟩
  have HI : Hid (IsLs w a n c rs) := hr
  have HL : Hid ((lplain rs).length = n) := by show _ = _; simp [lplain, hr.len]
  clear hr ht
  rcases em_bool (goodG (lplain rs)) with hg | hg
  · have HG : Hid (goodG (lplain rs) = false) := hg
    have F : Hid (plainV (lplain rs) = false) := by show _ = _; unfold plainV; rw [hg]; rfl
    clear hg
    go_enter Try.func43, Try.ntmps43
    go_wp2_with fail
    refine (impl_GoodLinks _ _ _ H.out).mono ?_
    rintro e w1 ⟨rfl, hb1⟩
    have B1 : Hid (Below w.heap.size w w1) := hb1
    rw [HG.out]
    clear hb1
    go_wp2
    go_ret2
    exact ⟨by rw [F.out, HG.out]; rfl, B1.out⟩
  · have HG : Hid (goodG (lplain rs) = true) := hg
    have GP : Hid (GoodP (lplain rs)) := good_iff.1 hg
    have HP : Hid (plainV (lplain rs) = !roundB (lplain rs)) := by show _ = _; unfold plainV; rw [hg]; rfl
    have hn12 : n ≤ 12 := by have := GP.out.few; have := HL.out; omega
    have HEN : Hid (Enters Try.prog 104) := enters Try.func104 (by kernel_rfl) rfl
    have hst : ∀ (a : Addr) (w : World) (f : Fn) (x y : Array Value) (m : Mode), (store a (.func f x y) m).run Try.prog w = stored Try.prog w a (.func f x y) m := fun a w f x y m => run_store Try.prog w a _ m rfl
    clear hg
    go_enter Try.func43, Try.ntmps43
    go_wp2_with fail
    refine (impl_GoodLinks _ _ _ H.out).mono ?_
    rintro e w1 ⟨rfl, hb1⟩
    have B1 : Hid (Below w.heap.size w w1) := hb1
    rw [HG.out]
    clear hb1
    go_wp2_with fail
    refine (leadingBy a n c rs _ (IsLs.below HI.out B1.out) GP.out).mono ?_
    rintro e w2 ⟨lv, rfl, hlv, hb2⟩
    obtain ⟨br, rfl⟩ := hlv.form
    have B2 : Hid (Below w.heap.size w w2) := Frame.next B1.out hb2 B1.out.size
    have L2 : Hid (Leads w2 (.func (.func 136) #[] #[.pointer (some ⟨br, 0, none⟩)]) (lplain rs)) := hlv
    have B3 : Hid (Below w.heap.size w (w2.alloc (.cells #[.func (.func 136) #[] #[.pointer (some ⟨br, 0, none⟩)]] 92))) := B2.out.alloc B2.out.size _
    have L3 : Hid (Leads (w2.alloc (.cells #[.func (.func 136) #[] #[.pointer (some ⟨br, 0, none⟩)]] 92)) (.func (.func 136) #[] #[.pointer (some ⟨br, 0, none⟩)]) (lplain rs)) := L2.out.below ((Below.refl _ _).alloc (Nat.le_refl _) _)
    have K3 : Hid ((w2.alloc (.cells #[.func (.func 136) #[] #[.pointer (some ⟨br, 0, none⟩)]] 92)).cell? ⟨w2.heap.size, 0, none⟩ = some (.func (.func 136) #[] #[.pointer (some ⟨br, 0, none⟩)])) := by show _ = _; go_simp
    clear hlv hb2 L2 B2
    go_wp2_with fail
    obtain ⟨bl, hbl⟩ : ∃ bl, bl = w2.heap.size := ⟨_, rfl⟩
    rw [← hbl] at K3 ⊢
    clear hbl
    go_loopw [14] (fun i wr => ∃ k : Nat, k ≤ n ∧ i = .int .i64 k ∧ (∀ j : Nat, j < k → roundAt (lplain rs) (j : Int) = false) ∧ Leads wr (.func (.func 136) #[] #[.pointer (some ⟨br, 0, none⟩)]) (lplain rs) ∧ wr.cell? ⟨bl, 0, none⟩ = some (.func (.func 136) #[] #[.pointer (some ⟨br, 0, none⟩)]) ∧ Below w.heap.size w wr) (fun i _ => n - (intOf i).toNat)
    case atStart => exact ⟨0, Nat.zero_le _, rfl, fun j hj => absurd hj (by omega), L3.out, K3.out, B3.out⟩
    case round =>
      obtain ⟨k, hk, rfl, hall, hld, hcl, hnx⟩ := hrel
      have HA : Hid (∀ j : Nat, j < k → roundAt (lplain rs) (j : Int) = false) := hall
      have HN : Hid (Below w.heap.size w wr) := hnx
      have HLD : Hid (Leads wr (.func (.func 136) #[] #[.pointer (some ⟨br, 0, none⟩)]) (lplain rs)) := hld
      have HCL : Hid (wr.cell? ⟨bl, 0, none⟩ = some (.func (.func 136) #[] #[.pointer (some ⟨br, 0, none⟩)])) := hcl
      clear hall hnx hld hcl L3 K3 B3
      by_cases hlt : k < n
      · obtain ⟨b, off, qa, qn, qc, zs, rfl, p0, hrow, hge⟩ := row_of HI.out hlt HN.out
        have HROW : Hid (IsRow .i64 w qa qn qc zs) := hrow
        have HIN : Hid (∀ z ∈ zs, 0 ≤ z ∧ z < ((lplain rs).length : Int)) := fun z hz => row_in GP.out (i := (k : Int)) (by rw [hge]; exact hz)
        have HE : Hid (roundAt (lplain rs) (k : Int) = zs.any fun y => rB (lplain rs) y (k : Int)) := by show _ = _; unfold roundAt; rw [hge]
        have hk0 : (0 : Int) ≤ (k : Int) := by omega
        have hkn : (k : Int) < (n : Int) := by omega
        have B4 : Hid (Below wr.heap.size wr (wr.alloc (.cells #[.int .i64 (k : Int)] 3))) := (Below.refl _ _).alloc (Nat.le_refl _) _
        have K4 : Hid ((wr.alloc (.cells #[.int .i64 (k : Int)] 3)).cell? ⟨wr.heap.size, 0, none⟩ = some (.int .i64 (k : Int))) := by show _ = _; go_simp
        clear hrow hge
        go_wp2_with fail
        refine (contains_int qa qn qc zs 104 #[.pointer (some ⟨bl, 0, none⟩), .pointer (some ⟨wr.heap.size, 0, none⟩)] (fun y => rB (lplain rs) y (k : Int)) _ (IsRow.below HROW.out (Frame.next HN.out B4.out HN.out.size)) HEN.out (fun z hz w5 hb5 => (leads_back bl wr.heap.size br (lplain rs) z (k : Int) w5 (Frame.held_cell (Frame.next B4.out hb5 B4.out.size) HCL.out) (Frame.held_cell hb5 K4.out) (HLD.out.below (Frame.next B4.out hb5 B4.out.size)) GP.out (HIN.out z hz)).mono (by rintro e w6 ⟨rfl, rfl⟩; exact ⟨rfl, Below.refl _ _⟩))).mono ?_
        rintro e w5 ⟨rfl, hb5⟩
        have B5 : Hid (Below wr.heap.size wr w5) := Frame.next B4.out hb5 B4.out.size
        have N5 : Hid (Below w.heap.size w w5) := Frame.next HN.out B5.out HN.out.size
        rw [← HE.out]
        clear hb5 HE p0 K4 B4
        rcases em_bool (roundAt (lplain rs) (k : Int)) with hv | hv
        · have F : Hid (∀ j : Nat, j < k + 1 → roundAt (lplain rs) (j : Int) = false) := fun j hj => by
            by_cases e : j = k
            · rw [e]; exact hv
            · exact HA.out j (by omega)
          rw [hv]
          clear hv
          go_wp2_with fail
          go_roundw
          case rel => exact ⟨k + 1, by omega, by go_num, F.out, HLD.out.below B5.out, Frame.held_cell B5.out HCL.out, N5.out⟩
          case measure => simp [intOf]; omega
        · have F : Hid (plainV (lplain rs) = false) := by show _ = _; rw [HP.out, round_yes (by rw [HL.out]; exact hlt) hv]; rfl
          rw [hv]
          clear hv
          go_wp2
          go_ret2
          exact ⟨by rw [F.out, HG.out]; rfl, N5.out⟩
      · have F : Hid (plainV (lplain rs) = true) := by show _ = _; rw [HP.out, round_no (fun j hj => HA.out j (by have := HL.out; omega))]; rfl
        go_wp2
        go_ret2
        exact ⟨by rw [F.out, HG.out]; rfl, HN.out⟩


end Go.Proofs.Ytkondmnkmbdncaa.Gld
