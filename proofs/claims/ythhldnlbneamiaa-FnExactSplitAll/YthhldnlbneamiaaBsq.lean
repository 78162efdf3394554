/-
  The first bad list of columns, in the model: contracts of l6Bad, BadIn.
-/
import Derived.Test.YthhldnlbneamiaaBsp
import Derived.Test.YthhldnlbneamiaaSpy
namespace Go.Proofs.Ythhldnlbneamiaa.Bsq
open Go.RowKit
open Go.Proofs.Ythhldnlbneamiaa.Frame Go.Proofs.Ythhldnlbneamiaa.Mem Go.Proofs.Ythhldnlbneamiaa.Ints Go.Proofs.Ythhldnlbneamiaa.Kep Go.Proofs.Ythhldnlbneamiaa.Lls Go.Proofs.Ythhldnlbneamiaa.Mis Go.Proofs.Ythhldnlbneamiaa.Dls Go.Proofs.Ythhldnlbneamiaa.Dlk Go.Proofs.Ythhldnlbneamiaa.Csa Go.Proofs.Ythhldnlbneamiaa.Csb Go.Proofs.Ythhldnlbneamiaa.Csd Go.Proofs.Ythhldnlbneamiaa.Csf Go.Proofs.Ythhldnlbneamiaa.Csg Go.Proofs.Ythhldnlbneamiaa.Ssc Go.Proofs.Ythhldnlbneamiaa.Spx Go.Proofs.Ythhldnlbneamiaa.Spy Go.Proofs.Ythhldnlbneamiaa.Bpu Go.Proofs.Ythhldnlbneamiaa.Bsp
open Go.Proofs.Ythhldnlbneamiaa.Rel hiding Ll
open Go.Proofs.Ythhldnlbneamiaa.Cpu hiding Dp

/-- A box that holds no sentence. -/
structure Nob (w : World) (b : Nat) : Prop where
  c0 : w.cell? ⟨b, 0, none⟩ = some (.slice none 0 0)
  c1 : w.cell? ⟨b, 1, none⟩ = some (.slice none 0 0)
  f0 : w.frozen? ⟨b, 0, none⟩ = false
  f1 : w.frozen? ⟨b, 1, none⟩ = false
theorem Nob.below {w w' : World} {b : Nat} (h : Nob w b) (hb : Below w.heap.size w w') : Nob w' b :=
  ⟨Frame.held_cell hb h.c0, Frame.held_cell hb h.c1, (hb.frozen (p := ⟨b, 0, none⟩) (Frame.cell_lt h.c0)).trans h.f0, (hb.frozen (p := ⟨b, 1, none⟩) (Frame.cell_lt h.c1)).trans h.f1⟩
theorem Nob.made (w : World) (t : TypeId) : Nob (w.alloc (.cells #[.slice none 0 0, .slice none 0 0] t)) w.heap.size := by
  refine ⟨?_, ?_, ?_, ?_⟩ <;> go_simp
/-- What a way that tells a sentence tells. -/
def DepR (d : Dp) (ok : Bool) (w : World) (e : Ending) (w' : World) : Prop := ∃ ua un uc ta tn tc, e = .returned (.tuple #[.agg #[.slice ua un uc, .slice ta tn tc], .bool ok]) ∧ EOwn w' w.heap.size w'.heap.size (.slice ua un uc) (.slice ta tn tc) d ∧ Below w.heap.size w w'
theorem eOwn_none (w : World) (lo hi : Nat) : EOwn w lo hi (.slice none 0 0) (.slice none 0 0) ([], []) := ⟨iOwn_nil _ _ _, iOwn_nil _ _ _, fun x y hx _ => by cases hx⟩
theorem depR_no {w w1 : World} {b : Nat} {v0 v1 : Value} (hb : w.heap.size ≤ b) (hB : Below w.heap.size w w1) : DepR ([], []) false w (.returned (.tuple #[.agg #[.slice none 0 0, .slice none 0 0], .bool false])) ((w1.setCell ⟨b, 0, none⟩ v0).setCell ⟨b, 1, none⟩ v1) :=
  ⟨_, _, _, _, _, _, rfl, eOwn_none _ _ _, (hB.setCell hb _).setCell hb _⟩
theorem depR_yes {w w1 : World} {d : Dp} {b lo : Nat} {ua ta : Option Addr} {un uc tn tc : Nat} {v0 v1 : Value} (h : EOwn w1 lo w1.heap.size (.slice ua un uc) (.slice ta tn tc) d) (hb : b < lo) (hw : w.heap.size ≤ b) (hB : Below w.heap.size w w1) : DepR d true w (.returned (.tuple #[.agg #[.slice ua un uc, .slice ta tn tc], .bool true])) ((w1.setCell ⟨b, 0, none⟩ v0).setCell ⟨b, 1, none⟩ v1) :=
  ⟨_, _, _, _, _, _, rfl, eOwn_wide (eOwn_set (eOwn_set h _ _ hb) _ _ hb) (by omega) (by simp), (hB.setCell hw _).setCell hw _⟩

set_option maxRecDepth 4000 in
set_option maxHeartbeats 6400000 in
theorem l6Bad (v : Value) (a : Option Addr) (n ca : Nat) (ds : List Dp) (ps : List Int) (w : World) (h : DIs w v ds) (hp : IsRow .i64 w a n ca ps) (hC : Cols ds) (hU : UpN ps) (hP : InC ps) (hn : n ≤ 1048576) :
    Calls Try.prog 106 #[v, .slice a n ca] w (DepR (badO ds ps (badF ds ps)) (badF ds ps).isSome w) := by
  have b0 : Below w.heap.size w (w.alloc (.cells #[.slice none 0 0, .slice none 0 0] 26)) := (Below.refl w.heap.size w).alloc (Nat.le_refl _) _
  have hD := dIs_below h b0
  have hR := IsRow.below hp b0
  have hN := Nob.made w 26
  have hlt0 : w.heap.size < (w.alloc (.cells #[.slice none 0 0, .slice none 0 0] 26)).heap.size := by simp
  have HC : Hid (Cols ds) := hC
  have HU : Hid (UpN ps) := hU
  have HP : Hid (InC ps) := hP
  have HL : Hid (ps.length = n) := hp.len
  clear h hp hC hU hP
  go_enter Try.func106, Try.ntmps106
  go_wp2_with fail
  generalize (w.alloc (.cells #[.slice none 0 0, .slice none 0 0] 26)) = V at b0 hD hR hN hlt0 ⊢
  have B0 : Hid (Below w.heap.size w V) := b0
  have HD : Hid (DIs V v ds) := hD
  have HR : Hid (IsRow .i64 V a n ca ps) := hR
  have HN : Hid (Nob V w.heap.size) := hN
  clear b0 hD hR hN
  refine (l6Number a n ca ps _ HR.out HP.out).mono ?_
  rintro e w1 ⟨⟨m, hm, rfl, hs⟩, hww⟩
  obtain rfl := hww.symm
  clear hww
  have HS : Hid (∀ i, i < 6 → bitS (m : Int) i = inS ps i) := hs
  clear hs
  go_wp2_with fail
  go_loopw [7] (fun i wr => ∃ k : Nat, k ≤ m + 1 ∧ i = .int .i64 k ∧ (∀ j, j < k → badP ds ps j = false) ∧ Below V.heap.size V wr) (fun i _ => m + 1 - (intOf i).toNat)
  case atStart => exact ⟨0, Nat.zero_le _, rfl, fun j hj => absurd hj (by omega), Below.refl _ _⟩
  case round =>
    obtain ⟨k, hk, rfl, hall, hnx⟩ := hrel
    have HA : Hid (∀ j, j < k → badP ds ps j = false) := hall
    have HX : Hid (Below V.heap.size V wr) := hnx
    have BX : Hid (Below w.heap.size w wr) := Frame.next B0.out hnx B0.out.size
    clear hall hnx
    by_cases hle : k ≤ m
    · have hleI : (k : Int) ≤ (m : Int) := by omega
      have WI : Hid (withinB (bitS (k : Int)) (bitS (m : Int)) = withinB (bitS (k : Int)) (inS ps)) := within_congr (fun _ _ => rfl) HS.out
      have hand := bit_and k m (by omega) hm
      cases hw : withinB (bitS (k : Int)) (bitS (m : Int))
      · have F : Hid (∀ j, j < k + 1 → badP ds ps j = false) := fun j hj => by
          by_cases e : j = k
          · rw [e]; exact bad_out (by rw [← WI.out]; exact hw)
          · exact HA.out j (by omega)
        have hne : (bits .and .i64 (k : Int) (m : Int) != (k : Int)) = true := by rw [hw] at hand; simp only [bne, hand]; rfl
        clear hand hw
        go_wp2_with fail
        go_roundw
        case rel => exact ⟨k + 1, by omega, by go_num, F.out, HX.out⟩
        case measure => simp [intOf]; omega
      · have HW : Hid (withinB (bitS (k : Int)) (inS ps) = true) := by show _ = _; rw [← WI.out]; exact hw
        have hne : (bits .and .i64 (k : Int) (m : Int) != (k : Int)) = false := by rw [hw] at hand; simp only [bne, hand]; rfl
        have BL : Hid (badP ds ps k = (decide ((listI (bitS (k : Int))).length < (listI (tolS ds ps k)).length) && decide ((listI (tolS ds ps k)).length < ps.length))) := bad_len HU.out HP.out HW.out
        have TI : Hid (bothL ps (clL ds (listI (bitS (k : Int)))) = listI (tolS ds ps k)) := told_is HC.out HU.out HP.out
        clear hand hw
        go_wp2_with fail
        refine (l5List k _ (by omega)).mono ?_
        rintro e w2 ⟨u2, rfl, ho2, hb2⟩
        have O2 : Hid (IOwn w2 wr.heap.size w2.heap.size u2 (listI (bitS (k : Int)))) := ho2
        obtain ⟨a2, n2, c2, rfl, hr2, hn2⟩ := iOwn_is ho2
        have HL2 : Hid ((listI (bitS (k : Int))).length = n2) := hr2.len
        have hs2 : n2 ≤ 6 := by rw [← hr2.len]; exact listI_length _
        have R2 : Hid (IsRow .i64 w2 a2 n2 c2 (listI (bitS (k : Int)))) := hr2
        have X2 : Hid (Below V.heap.size V w2) := Frame.next HX.out hb2 HX.out.size
        have Z2 : Hid (wr.heap.size ≤ w2.heap.size) := hb2.size
        clear ho2 hr2 hb2
        go_wp2_with fail
        refine (l5Closure v a2 n2 c2 ds _ _ (dIs_below HD.out X2.out) R2.out HC.out (up_listI _) (fun z hz => by obtain ⟨i, hi, _, rfl⟩ := mem_listI.1 hz; omega)).mono ?_
        rintro e w3 ⟨u3, rfl, ho3, hb3⟩
        obtain ⟨a3, n3, c3, rfl, hr3, hn3⟩ := iOwn_is ho3
        have R3 : Hid (IsRow .i64 w3 a3 n3 c3 (clL ds (listI (bitS (k : Int))))) := hr3
        have X3 : Hid (Below V.heap.size V w3) := Frame.next X2.out hb3 X2.out.size
        have R23 : Hid (IsRow .i64 w3 a2 n2 c2 (listI (bitS (k : Int)))) := IsRow.below R2.out hb3
        have O23 : Hid (IOwn w3 wr.heap.size w2.heap.size (.slice a2 n2 c2) (listI (bitS (k : Int)))) := iOwn_below O2.out hb3
        have Z3 : Hid (w2.heap.size ≤ w3.heap.size) := hb3.size
        clear ho3 hr3 hb3
        go_wp2_with fail
        refine (l6Both a a3 n n3 ca c3 ps _ _ (IsRow.below HR.out X3.out) R3.out hn).mono ?_
        rintro e w4 ⟨u4, rfl, ho4, hb4⟩
        rw [TI.out] at ho4
        obtain ⟨a4, n4, c4, rfl, hr4, hn4⟩ := iOwn_is ho4
        have HL4 : Hid ((listI (tolS ds ps k)).length = n4) := hr4.len
        have R4 : Hid (IsRow .i64 w4 a4 n4 c4 (listI (tolS ds ps k))) := hr4
        have X4 : Hid (Below V.heap.size V w4) := Frame.next X3.out hb4 X3.out.size
        have R24 : Hid (IsRow .i64 w4 a2 n2 c2 (listI (bitS (k : Int)))) := IsRow.below R23.out hb4
        have O24 : Hid (IOwn w4 wr.heap.size w2.heap.size (.slice a2 n2 c2) (listI (bitS (k : Int)))) := iOwn_below O23.out hb4
        have Z4 : Hid (w2.heap.size ≤ w4.heap.size) := Nat.le_trans Z3.out hb4.size
        clear ho4 hr4 hb4
        have BL2 : Hid (badP ds ps k = (decide (n2 < n4) && decide (n4 < n))) := by show _ = _; rw [BL.out, HL2.out, HL4.out, HL.out]
        by_cases h1 : n2 < n4
        · have h1I : (n2 : Int) < (n4 : Int) := by omega
          by_cases h2 : n4 < n
          · have h2I : (n4 : Int) < (n : Int) := by omega
            have FB : Hid (badF ds ps = some k) := bad_at HA.out (by rw [BL2.out, decide_eq_true h1, decide_eq_true h2]; rfl) (by omega)
            have hs4 : n4 ≤ 1048576 := hn4
            go_wp2_with fail
            refine (l6Less a4 a2 n4 n2 c4 c2 _ _ _ R4.out R24.out hs4).mono ?_
            rintro e w5 ⟨u5, rfl, ho5, hb5⟩
            rw [less_tol] at ho5
            obtain ⟨a5, n5, c5, rfl, _, hn5⟩ := iOwn_is ho5
            have E5 : Hid (EOwn w5 (w.heap.size + 1) w5.heap.size (.slice a2 n2 c2) (.slice a5 n5 c5) (badO ds ps (badF ds ps))) := by
              show EOwn _ _ _ _ _ _
              rw [FB.out]
              exact eOwn_of (m := w4.heap.size) (Krl.iOwn_wide (iOwn_below O24.out hb5) (by have := HX.out.size; omega) Z4.out) ho5 hb5.size (by have := X4.out.size; omega)
            have B5 : Hid (Below w.heap.size w w5) := Frame.next (Frame.next B0.out X4.out B0.out.size) hb5 (Frame.next B0.out X4.out B0.out.size).size
            obtain ⟨c0, c1, f0, f1⟩ := HN.out.below (Frame.next X4.out hb5 X4.out.size)
            have G : Hid ((badF ds ps).isSome = true) := by show _ = _; rw [FB.out]; rfl
            clear ho5 hb5
            go_wp2
            refine bodyPost_ret (v := .tuple #[.agg #[.slice a2 n2 c2, .slice a5 n5 c5], .bool true]) (by simp [results, Try.results106, go_sem, c0, c1]) rfl ?_
            rw [G.out]
            exact depR_yes E5.out (by omega) (Nat.le_refl _) B5.out
          · have h2I : ¬ (n4 : Int) < (n : Int) := by omega
            have F : Hid (∀ j, j < k + 1 → badP ds ps j = false) := fun j hj => by
              by_cases e : j = k
              · rw [e, BL2.out, decide_eq_false h2, Bool.and_false]
              · exact HA.out j (by omega)
            go_wp2_with fail
            go_roundw
            case rel => exact ⟨k + 1, by omega, by go_num, F.out, X4.out⟩
            case measure => simp [intOf]; omega
        · have h1I : ¬ (n2 : Int) < (n4 : Int) := by omega
          have F : Hid (∀ j, j < k + 1 → badP ds ps j = false) := fun j hj => by
            by_cases e : j = k
            · rw [e, BL2.out, decide_eq_false h1]; rfl
            · exact HA.out j (by omega)
          go_wp2_with fail
          go_roundw
          case rel => exact ⟨k + 1, by omega, by go_num, F.out, X4.out⟩
          case measure => simp [intOf]; omega
    · have hleI : ¬ (k : Int) ≤ (m : Int) := by omega
      have FB : Hid (badF ds ps = none) := bad_upto hm HS.out (fun j hj => HA.out j (by omega))
      obtain ⟨c0, c1, f0, f1⟩ := HN.out.below HX.out
      go_wp2
      refine bodyPost_ret (v := .tuple #[.agg #[.slice none 0 0, .slice none 0 0], .bool false]) (by simp [results, Try.results106, go_sem, c0, c1]) rfl ?_
      rw [FB.out]
      exact depR_no (Nat.le_refl _) BX.out


end Go.Proofs.Ythhldnlbneamiaa.Bsq
