/-
  Tables taken apart, in the program: contracts of isDepWithin, IsKept.
-/
import Derived.Test.YtbeielafbegflaaSpx
namespace Go.Proofs.Ytbeielafbegflaa.Lsa
open Go.RowKit
open Go.Proofs.Ytbeielafbegflaa.Frame Go.Proofs.Ytbeielafbegflaa.Mem Go.Proofs.Ytbeielafbegflaa.Ints Go.Proofs.Ytbeielafbegflaa.Kep Go.Proofs.Ytbeielafbegflaa.Lls Go.Proofs.Ytbeielafbegflaa.Mis Go.Proofs.Ytbeielafbegflaa.Dls Go.Proofs.Ytbeielafbegflaa.Dlk Go.Proofs.Ytbeielafbegflaa.Csa Go.Proofs.Ytbeielafbegflaa.Csb Go.Proofs.Ytbeielafbegflaa.Csc Go.Proofs.Ytbeielafbegflaa.Csd Go.Proofs.Ytbeielafbegflaa.Csg Go.Proofs.Ytbeielafbegflaa.Spx
open Go.Proofs.Ytbeielafbegflaa.Rel hiding Ll
open Go.Proofs.Ytbeielafbegflaa.Cpu hiding Dp

theorem one_isG {W : World} {g : Nat} {fa ta : Option Addr} {fn fc tn tc : Nat} {d : Dp} (h : EIs W (.slice fa fn fc) (.slice ta tn tc) d) (hg : g < W.heap.size) (c0 : W.cell? ⟨g, 0, none⟩ = some (.slice fa fn fc)) (c1 : W.cell? ⟨g, 1, none⟩ = some (.slice ta tn tc)) : IsG W (some ⟨g, 0, none⟩) 1 1 [⟨fa, fn, fc, d.1⟩, ⟨ta, tn, tc, d.2⟩] := by
  obtain ⟨⟨_, _, _, e, hf, _⟩, ⟨_, _, _, e', ht, _⟩⟩ := h
  cases e
  cases e'
  refine ⟨rfl, Nat.le_refl _, by unfold maxLen; omega, fun r hr => ?_, fun _ => ⟨g, 0, rfl, hg, fun i hi => ?_⟩⟩
  · rcases List.mem_cons.1 hr with rfl | hr
    · exact hf
    · rw [List.mem_singleton.1 hr]; exact ht
  · obtain rfl : i = 0 := by omega
    exact ⟨c0, c1⟩
theorem part_of {cols : Int} {ps : List Int} {d : Dp} (h : partG cols ps d = true) : 1 ≤ cols ∧ cols ≤ 6 ∧ depB cols d = true ∧ InC d.1 ∧ InC d.2 ∧ InC ps ∧ UpN d.1 ∧ UpN d.2 ∧ UpN ps ∧ insideB d.1 ps = true ∧ insideB d.2 ps = true := by
  unfold partG at h
  rw [Bool.and_eq_true, Bool.and_eq_true, Bool.and_eq_true] at h
  obtain ⟨⟨hg, hr⟩, h1, h2⟩ := h
  have hc := cols_of hg
  have hd := hc.2.2.2.2 d (List.mem_singleton.2 rfl)
  have hdc := depB_cols hd hc.2.2.1
  have hr6 := rise_cols hr hc.2.2.1
  have hd' := hd
  unfold depB at hd'
  rw [Bool.and_eq_true, rise_iff, rise_iff] at hd'
  exact ⟨hc.2.1, hc.2.2.1, hd, hdc.1, hdc.2, hr6, hd'.1.2, hd'.2.2, (rise_iff.1 hr).2, h1, h2⟩
theorem cells_one (w : World) (x y : Value) (t : TypeId) : (w.alloc (.cells #[x, y] t)).cell? ⟨w.heap.size, 0, none⟩ = some x ∧ (w.alloc (.cells #[x, y] t)).cell? ⟨w.heap.size, 1, none⟩ = some y := by
  constructor <;> rw [World.cell?_alloc_at _ _ _ _ rfl] <;> rfl

set_option maxRecDepth 4000 in
set_option maxHeartbeats 6400000 in
theorem isDepWithin (cols : Int) (a : Option Addr) (n ca : Nat) (ps : List Int) (u t : Value) (d : Dp) (w : World) (hp : IsRow .i64 w a n ca ps) (hd : EIs w u t d) :
    Calls Try.prog 62 #[.int .i64 cols, .slice a n ca, .agg #[u, t]] w fun e w' => e = .returned (.bool (partG cols ps d)) ∧ Below w.heap.size w w' := by
  obtain ⟨⟨fa, fn, fc, rfl, hf, hfn⟩, ⟨ta, tn, tc, rfl, ht, htn⟩⟩ := hd
  have b0 : Below w.heap.size w (w.alloc (.cells #[.slice fa fn fc, .slice ta tn tc] 26)) := (Below.refl w.heap.size w).alloc (Nat.le_refl _) _
  have b1 : Below w.heap.size w ((w.alloc (.cells #[.slice fa fn fc, .slice ta tn tc] 26)).alloc (.cells #[.slice fa fn fc, .slice ta tn tc] 26)) := b0.alloc (by simp) _
  have hE : EIs ((w.alloc (.cells #[.slice fa fn fc, .slice ta tn tc] 26)).alloc (.cells #[.slice fa fn fc, .slice ta tn tc] 26)) (.slice fa fn fc) (.slice ta tn tc) d := ⟨⟨_, _, _, rfl, IsRow.below hf b1, hfn⟩, ⟨_, _, _, rfl, IsRow.below ht b1, htn⟩⟩
  have hs1 : (w.alloc (.cells #[.slice fa fn fc, .slice ta tn tc] 26)).heap.size = w.heap.size + 1 := by simp
  have k0 := cells_one (w.alloc (.cells #[.slice fa fn fc, .slice ta tn tc] 26)) (.slice fa fn fc) (.slice ta tn tc) 26
  rw [hs1] at k0
  have b2 : Below (w.alloc (.cells #[.slice fa fn fc, .slice ta tn tc] 26)).heap.size (w.alloc (.cells #[.slice fa fn fc, .slice ta tn tc] 26)) ((w.alloc (.cells #[.slice fa fn fc, .slice ta tn tc] 26)).alloc (.cells #[.slice fa fn fc, .slice ta tn tc] 26)) := (Below.refl _ _).alloc (Nat.le_refl _) _
  have p0 := Frame.held_cell b2 (cells_one w (.slice fa fn fc) (.slice ta tn tc) 26).1
  have p1 := Frame.held_cell b2 (cells_one w (.slice fa fn fc) (.slice ta tn tc) 26).2
  have hG := one_isG hE (show w.heap.size + 1 < _ by simp) k0.1 k0.2
  have hP := IsRow.below hp b1
  have HRN : Hid (∀ r ∈ ([⟨fa, fn, fc, d.1⟩, ⟨ta, tn, tc, d.2⟩] : List LV), r.n ≤ 1048576) := fun r hr => by
    rcases List.mem_cons.1 hr with rfl | hr
    · exact hfn
    · rw [List.mem_singleton.1 hr]; exact htn
  have HDE : Hid (dpl [⟨fa, fn, fc, d.1⟩, ⟨ta, tn, tc, d.2⟩] = [d]) := rfl
  clear b0 b2 hs1 k0 hf ht hp
  go_enter Try.func62, Try.ntmps62
  go_wp2_with fail
  generalize ((w.alloc (.cells #[.slice fa fn fc, .slice ta tn tc] 26)).alloc (.cells #[.slice fa fn fc, .slice ta tn tc] 26)) = V at b1 hE p0 p1 hG hP ⊢
  have B0 : Hid (Below w.heap.size w V) := b1
  obtain ⟨⟨_, _, _, ef, hrf, _⟩, ⟨_, _, _, et, hrt, _⟩⟩ := hE
  cases ef
  cases et
  have HG : Hid (IsG V (some ⟨w.heap.size + 1, 0, none⟩) 1 1 [⟨fa, fn, fc, d.1⟩, ⟨ta, tn, tc, d.2⟩]) := hG
  have HF : Hid (IsRow .i64 V fa fn fc d.1) := hrf
  have HT : Hid (IsRow .i64 V ta tn tc d.2) := hrt
  have HP : Hid (IsRow .i64 V a n ca ps) := hP
  clear b1 hrf hrt hG hP hfn htn
  refine (Dga.impl_GoodDepsG cols _ 1 1 _ _ HG.out (by omega) HRN.out).mono ?_
  rintro e w1 ⟨rfl, hb1⟩
  rw [HDE.out]
  have B1 : Hid (Below w.heap.size w w1) := Frame.next B0.out hb1 B0.out.size
  have C1 : Hid (Below V.heap.size V w1) := hb1
  have q0 : w1.cell? ⟨w.heap.size, 0, none⟩ = some (.slice fa fn fc) := Frame.held_cell hb1 p0
  have q1 : w1.cell? ⟨w.heap.size, 1, none⟩ = some (.slice ta tn tc) := Frame.held_cell hb1 p1
  clear hb1 p0 p1
  cases hG : goodD cols [d]
  · have E : Hid (partG cols ps d = false) := by show _ = _; unfold partG; rw [hG]; rfl
    clear hG
    go_wp2
    go_ret
    exact ⟨ret_bool E.out.symm, B1.out⟩
  · have HGD : Hid (goodD cols [d] = true) := hG
    clear hG
    go_wp2_with fail
    refine (Dga.areColumns cols a n ca ps _ (IsRow.below HP.out C1.out)).mono ?_
    rintro e w2 ⟨rfl, hb2⟩
    have B2 : Hid (Below w.heap.size w w2) := Frame.next B1.out hb2 B1.out.size
    have C2 : Hid (Below V.heap.size V w2) := Frame.next C1.out hb2 C1.out.size
    have r0 : w2.cell? ⟨w.heap.size, 0, none⟩ = some (.slice fa fn fc) := Frame.held_cell hb2 q0
    have r1 : w2.cell? ⟨w.heap.size, 1, none⟩ = some (.slice ta tn tc) := Frame.held_cell hb2 q1
    clear hb2 q0 q1
    cases hR : riseB 0 (cols - 1) ps
    · have E : Hid (partG cols ps d = false) := by show _ = _; unfold partG; rw [hR, Bool.and_false]; rfl
      clear hR
      go_wp2
      go_ret
      exact ⟨ret_bool E.out.symm, B2.out⟩
    · have E : Hid (partG cols ps d = (insideB d.1 ps && insideB d.2 ps)) := by show _ = _; unfold partG; rw [hR, HGD.out]; rfl
      have hc6 := (cols_of HGD.out).2.2.1
      have HDC : Hid (InC d.1 ∧ InC d.2) := depB_cols ((cols_of HGD.out).2.2.2.2 d (List.mem_singleton.2 rfl)) hc6
      have HPC : Hid (InC ps) := rise_cols hR hc6
      have RF : Hid (IsRow .i64 w2 fa fn fc d.1) := IsRow.below HF.out C2.out
      have RT : Hid (IsRow .i64 w2 ta tn tc d.2) := IsRow.below HT.out C2.out
      have RP : Hid (IsRow .i64 w2 a n ca ps) := IsRow.below HP.out C2.out
      clear hR hc6
      go_wp2_with fail
      go_region_held3 (fun w' => Below w2.heap.size w2 w' ∧ w'.cell? ⟨w.heap.size, 0, none⟩ = some (.slice fa fn fc) ∧ w'.cell? ⟨w.heap.size, 1, none⟩ = some (.slice ta tn tc))
        (first | exact ⟨(Below.refl _ _).drew, r0, r1⟩ | with_reducible exact (fun kb => ⟨kb, Frame.held_cell kb r0, Frame.held_cell kb r1⟩) (Frame.held_next ‹Below w2.heap.size w2 _ ∧ _› hb3) | with_reducible exact (fun kb => ⟨kb, Frame.held_cell kb r0, Frame.held_cell kb r1⟩) (Frame.held_next ‹Below w2.heap.size w2 _ ∧ _› hb4) | with_reducible exact (fun kb => ⟨kb, Frame.held_cell kb r0, Frame.held_cell kb r1⟩) (Frame.held_next ‹Below w2.heap.size w2 _ ∧ _› hb5) | with_reducible exact (fun kb => ⟨kb, Frame.held_cell kb r0, Frame.held_cell kb r1⟩) (Frame.held_next ‹Below w2.heap.size w2 _ ∧ _› hb6) | with_reducible exact (fun kb => ⟨kb, Frame.held_cell kb r0, Frame.held_cell kb r1⟩) (Frame.held_next ‹Below w2.heap.size w2 _ ∧ _› hb7) | with_reducible exact ‹Below w2.heap.size w2 _ ∧ _›)
        (first | (go_at_call 69; refine (isWithin (orS (inS d.1) (inS d.2)) (inS ps) _).mono ?_; rintro e w7 ⟨rfl, hb7⟩) | (go_at_call 63; refine (united (inS d.1) (inS d.2) _).mono ?_; rintro e w6 ⟨rfl, hb6⟩; unfold csv) | (go_at_call_has 41 fa; refine (setOf fa fn fc d.1 _ ?_ HDC.out.1).mono ?_; exact IsRow.below RF.out (And.left ‹Below w2.heap.size w2 _ ∧ _›); rintro e w3 ⟨rfl, hb3⟩; unfold csv) | (go_at_call_has 41 ta; refine (setOf ta tn tc d.2 _ ?_ HDC.out.2).mono ?_; exact IsRow.below RT.out (And.left ‹Below w2.heap.size w2 _ ∧ _›); rintro e w4 ⟨rfl, hb4⟩; unfold csv) | (go_at_call_has 41 a; refine (setOf a n ca ps _ ?_ HPC.out).mono ?_; exact IsRow.below RP.out (And.left ‹Below w2.heap.size w2 _ ∧ _›); rintro e w5 ⟨rfl, hb5⟩; unfold csv))
      all_goals
        have B7 : Hid (Below w.heap.size w w7) := Frame.next B2.out (And.left ‹Below w2.heap.size w2 w7 ∧ _›) B2.out.size
        rw [within_two HDC.out.1 HDC.out.2, ← E.out]
        go_wp2
        go_ret
        exact ⟨rfl, B7.out⟩

set_option maxRecDepth 4000 in
set_option maxHeartbeats 1600000 in
theorem impl_IsKept (cols : Int) (v z u t : Value) (ds : List Dp) (ps : List Int) (d : Dp) (w : World) (h : DIs w v ds) (hz : IIs w z ps) (hd : EIs w u t d) :
    Calls Try.prog 25 #[.int .i64 cols, v, z, .agg #[u, t]] w fun e w' => e = .returned (.tuple #[.bool (keptV cols ds ps d), .bool (keptG cols ds ps d)]) ∧ Below w.heap.size w w' := by
  obtain ⟨za, zn, zc, rfl, hzr, hzn⟩ := hz
  obtain ⟨⟨fa, fn, fc, rfl, hf, hfn⟩, ⟨ta, tn, tc, rfl, ht, htn⟩⟩ := hd
  have b0 : Below w.heap.size w (w.alloc (.cells #[.slice fa fn fc, .slice ta tn tc] 26)) := (Below.refl w.heap.size w).alloc (Nat.le_refl _) _
  have hD : DIs (w.alloc (.cells #[.slice fa fn fc, .slice ta tn tc] 26)) v ds := dIs_below h b0
  have hE : EIs (w.alloc (.cells #[.slice fa fn fc, .slice ta tn tc] 26)) (.slice fa fn fc) (.slice ta tn tc) d := ⟨⟨_, _, _, rfl, IsRow.below hf b0, hfn⟩, ⟨_, _, _, rfl, IsRow.below ht b0, htn⟩⟩
  have hP := IsRow.below hzr b0
  have p0 := (cells_one w (.slice fa fn fc) (.slice ta tn tc) 26).1
  have p1 := (cells_one w (.slice fa fn fc) (.slice ta tn tc) 26).2
  clear h hf ht hfn htn hzr
  go_enter Try.func25, Try.ntmps25
  go_wp2_with fail
  generalize (w.alloc (.cells #[.slice fa fn fc, .slice ta tn tc] 26)) = V at b0 hD hE hP p0 p1 ⊢
  have B0 : Hid (Below w.heap.size w V) := b0
  have HD : Hid (DIs V v ds) := hD
  have HE : Hid (EIs V (.slice fa fn fc) (.slice ta tn tc) d) := hE
  have HP : Hid (IsRow .i64 V za zn zc ps) := hP
  clear b0 hD hE hP
  refine (Dga.impl_GoodDeps cols v ds _ HD.out).mono ?_
  rintro e w1 ⟨rfl, hb1⟩
  have B1 : Hid (Below w.heap.size w w1) := Frame.next B0.out hb1 B0.out.size
  have C1 : Hid (Below V.heap.size V w1) := hb1
  have q0 : w1.cell? ⟨w.heap.size, 0, none⟩ = some (.slice fa fn fc) := Frame.held_cell hb1 p0
  have q1 : w1.cell? ⟨w.heap.size, 1, none⟩ = some (.slice ta tn tc) := Frame.held_cell hb1 p1
  clear hb1 p0 p1
  cases hG : goodD cols ds
  · have E : Hid (keptG cols ds ps d = false) := by show _ = _; unfold keptG; rw [hG]; rfl
    have EV : Hid (keptV cols ds ps d = false) := by show _ = _; unfold keptV; rw [E.out]; rfl
    clear hG
    go_wp2
    go_ret2
    exact ⟨by rw [E.out, EV.out]; rfl, B1.out⟩
  · have HG : Hid (goodD cols ds = true) := hG
    clear hG
    go_wp2_with fail
    refine (isDepWithin cols za zn zc ps _ _ d _ (IsRow.below HP.out C1.out) (eIs_below HE.out C1.out)).mono ?_
    rintro e w2 ⟨rfl, hb2⟩
    have B2 : Hid (Below w.heap.size w w2) := Frame.next B1.out hb2 B1.out.size
    have C2 : Hid (Below V.heap.size V w2) := Frame.next C1.out hb2 C1.out.size
    have r0 : w2.cell? ⟨w.heap.size, 0, none⟩ = some (.slice fa fn fc) := Frame.held_cell hb2 q0
    have r1 : w2.cell? ⟨w.heap.size, 1, none⟩ = some (.slice ta tn tc) := Frame.held_cell hb2 q1
    clear hb2 q0 q1
    cases hR : partG cols ps d
    · have E : Hid (keptG cols ds ps d = false) := by show _ = _; unfold keptG; rw [hR, Bool.and_false]
      have EV : Hid (keptV cols ds ps d = false) := by show _ = _; unfold keptV; rw [E.out]; rfl
      clear hR
      go_wp2
      go_ret2
      exact ⟨by rw [E.out, EV.out]; rfl, B2.out⟩
    · have E : Hid (keptG cols ds ps d = true) := by show _ = _; unfold keptG; rw [hR, HG.out]; rfl
      have EV : Hid (keptV cols ds ps d = impB ds d) := by show _ = _; unfold keptV; rw [E.out]; rfl
      have HC : Hid (Cols ds) := (cols_of HG.out).1
      have HP2 : Hid (InC d.1 ∧ InC d.2) := ⟨(part_of hR).2.2.2.1, (part_of hR).2.2.2.2.1⟩
      clear hR
      go_wp2_with fail
      refine (follows v _ _ ds d _ (dIs_below HD.out C2.out) (eIs_below HE.out C2.out) HC.out HP2.out.1 HP2.out.2).mono ?_
      rintro e w3 ⟨rfl, hb3⟩
      have B3 : Hid (Below w.heap.size w w3) := Frame.next B2.out hb3 B2.out.size
      clear hb3
      go_wp2
      go_ret2
      exact ⟨by rw [E.out, EV.out]; rfl, B3.out⟩


end Go.Proofs.Ytbeielafbegflaa.Lsa
