/-
  Tables taken apart, in the program: contract of IsLossless.
-/
import Derived.Test.YtfekaladfifgoaaLsa
namespace Go.Proofs.Ytfekaladfifgoaa.Lsc
open Go.RowKit
open Go.Proofs.Ytfekaladfifgoaa.Frame Go.Proofs.Ytfekaladfifgoaa.Mem Go.Proofs.Ytfekaladfifgoaa.Ints Go.Proofs.Ytfekaladfifgoaa.Kep Go.Proofs.Ytfekaladfifgoaa.Lls Go.Proofs.Ytfekaladfifgoaa.Mis Go.Proofs.Ytfekaladfifgoaa.Dls Go.Proofs.Ytfekaladfifgoaa.Dlk Go.Proofs.Ytfekaladfifgoaa.Csa Go.Proofs.Ytfekaladfifgoaa.Csb Go.Proofs.Ytfekaladfifgoaa.Csc Go.Proofs.Ytfekaladfifgoaa.Csd Go.Proofs.Ytfekaladfifgoaa.Csf Go.Proofs.Ytfekaladfifgoaa.Csg Go.Proofs.Ytfekaladfifgoaa.Spx Go.Proofs.Ytfekaladfifgoaa.Lsa
open Go.Proofs.Ytfekaladfifgoaa.Rel hiding Ll
open Go.Proofs.Ytfekaladfifgoaa.Cpu hiding Dp

set_option maxRecDepth 4000 in
set_option maxHeartbeats 6400000 in
theorem impl_IsLossless (cols : Int) (v u t : Value) (ds : List Dp) (xs zs : List Int) (w : World) (h : DIs w v ds) (hx : IIs w u xs) (hz : IIs w t zs) :
    Calls Try.prog 74 #[.int .i64 cols, v, u, t] w fun e w' => e = .returned (.tuple #[.bool (losV cols ds xs zs), .bool (losG cols ds xs zs)]) ∧ Below w.heap.size w w' := by
  obtain ⟨xa, xn, xc, rfl, hxr, hxn⟩ := hx
  obtain ⟨za, zn, zc, rfl, hzr, hzn⟩ := hz
  have HD : Hid (DIs w v ds) := h
  have HX : Hid (IsRow .i64 w xa xn xc xs) := hxr
  have HZ : Hid (IsRow .i64 w za zn zc zs) := hzr
  have LE : Hid (losG cols ds xs zs = (closG cols ds xs && closG cols ds zs && decide (((eithL xs zs).length : Int) = cols))) := rfl
  clear h hxr hzr
  go_enter Try.func74, Try.ntmps74
  go_wp2_with fail
  refine (Dga.impl_GoodDeps cols v ds _ HD.out).mono ?_
  rintro e w1 ⟨rfl, hb1⟩
  have B1 : Hid (Below w.heap.size w w1) := hb1
  clear hb1
  cases hG : goodD cols ds
  · have E : Hid (losG cols ds xs zs = false) := by show _ = _; rw [LE.out]; unfold closG; rw [hG]; rfl
    have EV : Hid (losV cols ds xs zs = false) := by show _ = _; unfold losV; rw [E.out]; rfl
    clear hG
    go_wp2
    go_ret2
    exact ⟨by rw [E.out, EV.out]; rfl, B1.out⟩
  · have HG : Hid (goodD cols ds = true) := hG
    clear hG
    go_wp2_with fail
    refine (Dga.areColumns cols xa xn xc xs _ (IsRow.below HX.out B1.out)).mono ?_
    rintro e w2 ⟨rfl, hb2⟩
    have B2 : Hid (Below w.heap.size w w2) := Frame.next B1.out hb2 B1.out.size
    clear hb2
    cases hR : riseB 0 (cols - 1) xs
    · have E : Hid (losG cols ds xs zs = false) := by show _ = _; rw [LE.out]; unfold closG; rw [hR, Bool.and_false]; rfl
      have EV : Hid (losV cols ds xs zs = false) := by show _ = _; unfold losV; rw [E.out]; rfl
      clear hR
      go_wp2
      go_ret2
      exact ⟨by rw [E.out, EV.out]; rfl, B2.out⟩
    · have HR : Hid (riseB 0 (cols - 1) xs = true) := hR
      clear hR
      go_wp2_with fail
      refine (Dga.areColumns cols za zn zc zs _ (IsRow.below HZ.out B2.out)).mono ?_
      rintro e w3 ⟨rfl, hb3⟩
      have B3 : Hid (Below w.heap.size w w3) := Frame.next B2.out hb3 B2.out.size
      clear hb3
      cases hQ : riseB 0 (cols - 1) zs
      · have E : Hid (losG cols ds xs zs = false) := by show _ = _; rw [LE.out]; unfold closG; rw [hQ, Bool.and_false, Bool.and_false]; rfl
        have EV : Hid (losV cols ds xs zs = false) := by show _ = _; unfold losV; rw [E.out]; rfl
        clear hQ
        go_wp2
        go_ret2
        exact ⟨by rw [E.out, EV.out]; rfl, B3.out⟩
      · have L2 : Hid (losG cols ds xs zs = decide (((eithL xs zs).length : Int) = cols)) := by show _ = _; rw [LE.out]; unfold closG; rw [hQ, HR.out, HG.out]; rfl
        have hc1 := (cols_of HG.out).2.1
        have hc6 := (cols_of HG.out).2.2.1
        have HC : Hid (Cols ds) := (cols_of HG.out).1
        have CX : Hid (InC xs) := rise_cols HR.out hc6
        have CZ : Hid (InC zs) := rise_cols hQ hc6
        obtain ⟨c, hcc⟩ : ∃ c : Nat, cols = (c : Int) := ⟨cols.toNat, by omega⟩
        have HS : Hid (sameS (orS (inS xs) (inS zs)) (firstS c) = decide (((eithL xs zs).length : Int) = cols)) := by
          show _ = _
          rw [hcc]
          refine first_same (by omega) (fun i hi hf => ?_)
          rcases Bool.or_eq_true_iff.1 hf with hm | hm
          · have := (rise_iff.1 HR.out).1 _ (of_decide_eq_true hm); omega
          · have := (rise_iff.1 hQ).1 _ (of_decide_eq_true hm); omega
        clear hQ
        subst hcc
        go_wp2_with fail
        refine (setOf xa xn xc xs _ (IsRow.below HX.out B3.out) CX.out).mono ?_
        rintro e w4 ⟨rfl, hb4⟩
        unfold csv
        have B4 : Hid (Below w.heap.size w w4) := Frame.next B3.out hb4 B3.out.size
        clear hb4
        go_wp2_with fail
        refine (setOf za zn zc zs _ (IsRow.below HZ.out B4.out) CZ.out).mono ?_
        rintro e w5 ⟨rfl, hb5⟩
        unfold csv
        have B5 : Hid (Below w.heap.size w w5) := Frame.next B4.out hb5 B4.out.size
        clear hb5
        have a1 : At6 ((w5.alloc (.cells #[.bool (inS xs 0), .bool (inS xs 1), .bool (inS xs 2), .bool (inS xs 3), .bool (inS xs 4), .bool (inS xs 5)] 120)).alloc (.cells #[.bool (inS zs 0), .bool (inS zs 1), .bool (inS zs 2), .bool (inS zs 3), .bool (inS zs 4), .bool (inS zs 5)] 120)) w5.heap.size (inS xs) := (At6.made w5 (inS xs) _).below ((Below.refl _ _).alloc (Nat.le_refl _) (.cells #[.bool (inS zs 0), .bool (inS zs 1), .bool (inS zs 2), .bool (inS zs 3), .bool (inS zs 4), .bool (inS zs 5)] 120))
        have a2 : At6 ((w5.alloc (.cells #[.bool (inS xs 0), .bool (inS xs 1), .bool (inS xs 2), .bool (inS xs 3), .bool (inS xs 4), .bool (inS xs 5)] 120)).alloc (.cells #[.bool (inS zs 0), .bool (inS zs 1), .bool (inS zs 2), .bool (inS zs 3), .bool (inS zs 4), .bool (inS zs 5)] 120)) (w5.alloc (.cells #[.bool (inS xs 0), .bool (inS xs 1), .bool (inS xs 2), .bool (inS xs 3), .bool (inS xs 4), .bool (inS xs 5)] 120)).heap.size (inS zs) := At6.made (w5.alloc (.cells #[.bool (inS xs 0), .bool (inS xs 1), .bool (inS xs 2), .bool (inS xs 3), .bool (inS xs 4), .bool (inS xs 5)] 120)) (inS zs) _
        rw [show (w5.alloc (.cells #[.bool (inS xs 0), .bool (inS xs 1), .bool (inS xs 2), .bool (inS xs 3), .bool (inS xs 4), .bool (inS xs 5)] 120)).heap.size = w5.heap.size + 1 by simp] at a2
        have b1 : Below w.heap.size w ((w5.alloc (.cells #[.bool (inS xs 0), .bool (inS xs 1), .bool (inS xs 2), .bool (inS xs 3), .bool (inS xs 4), .bool (inS xs 5)] 120)).alloc (.cells #[.bool (inS zs 0), .bool (inS zs 1), .bool (inS zs 2), .bool (inS zs 3), .bool (inS zs 4), .bool (inS zs 5)] 120)) := (B5.out.alloc B5.out.size (.cells #[.bool (inS xs 0), .bool (inS xs 1), .bool (inS xs 2), .bool (inS xs 3), .bool (inS xs 4), .bool (inS xs 5)] 120)).alloc (by have := B5.out.size; simp; omega) (.cells #[.bool (inS zs 0), .bool (inS zs 1), .bool (inS zs 2), .bool (inS zs 3), .bool (inS zs 4), .bool (inS zs 5)] 120)
        go_wp2_with fail
        generalize ((w5.alloc (.cells #[.bool (inS xs 0), .bool (inS xs 1), .bool (inS xs 2), .bool (inS xs 3), .bool (inS xs 4), .bool (inS xs 5)] 120)).alloc (.cells #[.bool (inS zs 0), .bool (inS zs 1), .bool (inS zs 2), .bool (inS zs 3), .bool (inS zs 4), .bool (inS zs 5)] 120)) = V at a1 a2 b1 ⊢
        have BV : Hid (Below w.heap.size w V) := b1
        have A1 : Hid (At6 V w5.heap.size (inS xs)) := a1
        have A2 : Hid (At6 V (w5.heap.size + 1) (inS zs)) := a2
        clear a1 a2 b1
        refine (united (inS xs) (inS zs) _).mono ?_
        rintro e w6 ⟨rfl, hb6⟩
        unfold csv
        have B6 : Hid (Below w.heap.size w w6) := Frame.next BV.out hb6 BV.out.size
        have C6 : Hid (Below V.heap.size V w6) := hb6
        clear hb6
        go_wp2_with fail
        refine (firstColumns c _ (by omega) (by omega)).mono ?_
        rintro e w7 ⟨rfl, hb7⟩
        unfold csv
        have B7 : Hid (Below w.heap.size w w7) := Frame.next B6.out hb7 B6.out.size
        have C7 : Hid (Below V.heap.size V w7) := Frame.next C6.out hb7 C6.out.size
        clear hb7
        have EQ : ∀ w, (binOp .neq 120 (.agg #[.bool (orS (inS xs) (inS zs) 0), .bool (orS (inS xs) (inS zs) 1), .bool (orS (inS xs) (inS zs) 2), .bool (orS (inS xs) (inS zs) 3), .bool (orS (inS xs) (inS zs) 4), .bool (orS (inS xs) (inS zs) 5)]) (.agg #[.bool (firstS c 0), .bool (firstS c 1), .bool (firstS c 2), .bool (firstS c 3), .bool (firstS c 4), .bool (firstS c 5)])).run Try.prog w = .ok (.bool (!sameS (orS (inS xs) (inS zs)) (firstS c))) w := neq_cs (orS (inS xs) (inS zs)) (firstS c)
        have hgd : Try.prog.eqGuardType Try.prog.depth 120 = false := by kernel_rfl
        cases hs : sameS (orS (inS xs) (inS zs)) (firstS c)
        · have E : Hid (losG (c : Int) ds xs zs = false) := by show _ = _; rw [L2.out, ← HS.out, hs]
          have EV : Hid (losV (c : Int) ds xs zs = false) := by show _ = _; unfold losV; rw [E.out]; rfl
          rw [hs] at EQ
          clear hs
          go_wp2
          go_ret2
          exact ⟨by rw [E.out, EV.out]; rfl, B7.out⟩
        · have E : Hid (losG (c : Int) ds xs zs = true) := by show _ = _; rw [L2.out, ← HS.out, hs]
          have EV : Hid (losV (c : Int) ds xs zs = (insideB xs (clL ds (bothL xs zs)) || insideB zs (clL ds (bothL xs zs)))) := by show _ = _; unfold losV; rw [E.out]; rfl
          rw [hs] at EQ
          clear hs
          have x7 := A1.out.below C7.out
          have z7 := A2.out.below C7.out
          obtain ⟨x0, x1, x2, x3, x4, x5⟩ := x7.cells
          obtain ⟨z0, z1, z2, z3, z4, z5⟩ := z7.cells
          clear x7 z7
          go_wp2_with fail
          refine (inBoth (inS xs) (inS zs) _).mono ?_
          rintro e w8 ⟨rfl, hb8⟩
          unfold csv
          have B8 : Hid (Below w.heap.size w w8) := Frame.next B7.out hb8 B7.out.size
          have C8 : Hid (Below V.heap.size V w8) := Frame.next C7.out hb8 C7.out.size
          clear hb8 x0 x1 x2 x3 x4 x5 z0 z1 z2 z3 z4 z5 EQ
          go_wp2_with fail
          refine (toldBy v ds (andS (inS xs) (inS zs)) _ (dIs_below HD.out B8.out) HC.out).mono ?_
          rintro e w9 ⟨rfl, hb9⟩
          unfold csv
          have B9 : Hid (Below w.heap.size w w9) := Frame.next B8.out hb9 B8.out.size
          have C9 : Hid (Below V.heap.size V w9) := Frame.next C8.out hb9 C8.out.size
          clear hb9
          have d3 : At6 (w9.alloc (.cells #[.bool (clS ds (andS (inS xs) (inS zs)) 0), .bool (clS ds (andS (inS xs) (inS zs)) 1), .bool (clS ds (andS (inS xs) (inS zs)) 2), .bool (clS ds (andS (inS xs) (inS zs)) 3), .bool (clS ds (andS (inS xs) (inS zs)) 4), .bool (clS ds (andS (inS xs) (inS zs)) 5)] 120)) w9.heap.size (clS ds (andS (inS xs) (inS zs))) := At6.made w9 (clS ds (andS (inS xs) (inS zs))) _
          have d1 : At6 (w9.alloc (.cells #[.bool (clS ds (andS (inS xs) (inS zs)) 0), .bool (clS ds (andS (inS xs) (inS zs)) 1), .bool (clS ds (andS (inS xs) (inS zs)) 2), .bool (clS ds (andS (inS xs) (inS zs)) 3), .bool (clS ds (andS (inS xs) (inS zs)) 4), .bool (clS ds (andS (inS xs) (inS zs)) 5)] 120)) w5.heap.size (inS xs) := (A1.out.below C9.out).below ((Below.refl _ _).alloc (Nat.le_refl _) (.cells #[.bool (clS ds (andS (inS xs) (inS zs)) 0), .bool (clS ds (andS (inS xs) (inS zs)) 1), .bool (clS ds (andS (inS xs) (inS zs)) 2), .bool (clS ds (andS (inS xs) (inS zs)) 3), .bool (clS ds (andS (inS xs) (inS zs)) 4), .bool (clS ds (andS (inS xs) (inS zs)) 5)] 120))
          have d2 : At6 (w9.alloc (.cells #[.bool (clS ds (andS (inS xs) (inS zs)) 0), .bool (clS ds (andS (inS xs) (inS zs)) 1), .bool (clS ds (andS (inS xs) (inS zs)) 2), .bool (clS ds (andS (inS xs) (inS zs)) 3), .bool (clS ds (andS (inS xs) (inS zs)) 4), .bool (clS ds (andS (inS xs) (inS zs)) 5)] 120)) (w5.heap.size + 1) (inS zs) := (A2.out.below C9.out).below ((Below.refl _ _).alloc (Nat.le_refl _) (.cells #[.bool (clS ds (andS (inS xs) (inS zs)) 0), .bool (clS ds (andS (inS xs) (inS zs)) 1), .bool (clS ds (andS (inS xs) (inS zs)) 2), .bool (clS ds (andS (inS xs) (inS zs)) 3), .bool (clS ds (andS (inS xs) (inS zs)) 4), .bool (clS ds (andS (inS xs) (inS zs)) 5)] 120))
          have b2 : Below w.heap.size w (w9.alloc (.cells #[.bool (clS ds (andS (inS xs) (inS zs)) 0), .bool (clS ds (andS (inS xs) (inS zs)) 1), .bool (clS ds (andS (inS xs) (inS zs)) 2), .bool (clS ds (andS (inS xs) (inS zs)) 3), .bool (clS ds (andS (inS xs) (inS zs)) 4), .bool (clS ds (andS (inS xs) (inS zs)) 5)] 120)) := B9.out.alloc B9.out.size (.cells #[.bool (clS ds (andS (inS xs) (inS zs)) 0), .bool (clS ds (andS (inS xs) (inS zs)) 1), .bool (clS ds (andS (inS xs) (inS zs)) 2), .bool (clS ds (andS (inS xs) (inS zs)) 3), .bool (clS ds (andS (inS xs) (inS zs)) 4), .bool (clS ds (andS (inS xs) (inS zs)) 5)] 120)
          obtain ⟨x0, x1, x2, x3, x4, x5⟩ := d1.cells
          obtain ⟨y0, y1, y2, y3, y4, y5⟩ := d3.cells
          go_wp2_with fail
          clear x0 x1 x2 x3 x4 x5 y0 y1 y2 y3 y4 y5
          generalize (w9.alloc (.cells #[.bool (clS ds (andS (inS xs) (inS zs)) 0), .bool (clS ds (andS (inS xs) (inS zs)) 1), .bool (clS ds (andS (inS xs) (inS zs)) 2), .bool (clS ds (andS (inS xs) (inS zs)) 3), .bool (clS ds (andS (inS xs) (inS zs)) 4), .bool (clS ds (andS (inS xs) (inS zs)) 5)] 120)) = Y at d1 d2 d3 b2 ⊢
          have BY : Hid (Below w.heap.size w Y) := b2
          have D2 : Hid (At6 Y (w5.heap.size + 1) (inS zs)) := d2
          have D3 : Hid (At6 Y w9.heap.size (clS ds (andS (inS xs) (inS zs)))) := d3
          clear d1 d2 d3 b2
          refine (isWithin (inS xs) (clS ds (andS (inS xs) (inS zs))) _).mono ?_
          rintro e wa ⟨rfl, hba⟩
          rw [within_both CX.out CX.out CZ.out]
          have BA : Hid (Below w.heap.size w wa) := Frame.next BY.out hba BY.out.size
          have x7 := D2.out.below hba
          have z7 := D3.out.below hba
          clear hba
          cases hI : insideB xs (clL ds (bothL xs zs))
          · have EW : Hid (losV (c : Int) ds xs zs = insideB zs (clL ds (bothL xs zs))) := by show _ = _; rw [EV.out, hI]; rfl
            obtain ⟨x0, x1, x2, x3, x4, x5⟩ := x7.cells
            obtain ⟨z0, z1, z2, z3, z4, z5⟩ := z7.cells
            clear hI x7 z7
            go_wp2_with fail
            refine (isWithin (inS zs) (clS ds (andS (inS xs) (inS zs))) _).mono ?_
            rintro e wb ⟨rfl, hbb⟩
            rw [within_both CZ.out CX.out CZ.out]
            have BB : Hid (Below w.heap.size w wb) := Frame.next BA.out hbb BA.out.size
            clear hbb x0 x1 x2 x3 x4 x5 z0 z1 z2 z3 z4 z5
            go_wp2
            go_ret2
            exact ⟨by rw [E.out, EW.out]; rfl, BB.out⟩
          · have EW : Hid (losV (c : Int) ds xs zs = true) := by show _ = _; rw [EV.out, hI]; rfl
            clear hI x7 z7
            go_wp2
            go_ret2
            exact ⟨by rw [E.out, EW.out]; rfl, BA.out⟩


end Go.Proofs.Ytfekaladfifgoaa.Lsc
