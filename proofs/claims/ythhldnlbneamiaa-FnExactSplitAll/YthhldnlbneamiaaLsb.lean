/-
  Tables taken apart, in the model: contracts of IsKept, IsLossless.
-/
import Derived.Test.YthhldnlbneamiaaSpy
import Derived.Test.YthhldnlbneamiaaLsa
namespace Go.Proofs.Ythhldnlbneamiaa.Lsb
open Go.RowKit
open Go.Proofs.Ythhldnlbneamiaa.Frame Go.Proofs.Ythhldnlbneamiaa.Mem Go.Proofs.Ythhldnlbneamiaa.Ints Go.Proofs.Ythhldnlbneamiaa.Kep Go.Proofs.Ythhldnlbneamiaa.Lls Go.Proofs.Ythhldnlbneamiaa.Mis Go.Proofs.Ythhldnlbneamiaa.Dls Go.Proofs.Ythhldnlbneamiaa.Dlk Go.Proofs.Ythhldnlbneamiaa.Csd Go.Proofs.Ythhldnlbneamiaa.Ssc Go.Proofs.Ythhldnlbneamiaa.Spx Go.Proofs.Ythhldnlbneamiaa.Spy Go.Proofs.Ythhldnlbneamiaa.Lsa
open Go.Proofs.Ythhldnlbneamiaa.Rel hiding Ll
open Go.Proofs.Ythhldnlbneamiaa.Cpu hiding Dp

theorem part_is {cols : Int} {ds : List Dp} {ps : List Int} {d : Dp} : keptG cols ds ps d = (closG cols ds ps && (depB cols d && (insideB d.1 ps && insideB d.2 ps))) := by
  unfold keptG partG closG
  cases hg : goodD cols ds
  · rfl
  · have hc := cols_of hg
    rw [goodD_one hc.2.1 hc.2.2.1]
    cases depB cols d <;> cases riseB 0 (cols - 1) ps <;> rfl

set_option maxRecDepth 4000 in
set_option maxHeartbeats 3200000 in
theorem spec_IsKept (cols : Int) (v z u t : Value) (ds : List Dp) (ps : List Int) (d : Dp) (w : World) (h : DIs w v ds) (hz : IIs w z ps) (hd : EIs w u t d) :
    Calls Try.prog 42 #[.int .i64 cols, v, z, .agg #[u, t]] w fun e w' => e = .returned (.tuple #[.bool (keptV cols ds ps d), .bool (keptG cols ds ps d)]) ∧ Below w.heap.size w w' := by
  obtain ⟨za, zn, zc, rfl, hzr, hzn⟩ := hz
  obtain ⟨⟨fa, fn, fc, rfl, hf, hfn⟩, ⟨ta, tn, tc, rfl, ht, htn⟩⟩ := hd
  have b0 : Below w.heap.size w (w.alloc (.cells #[.slice fa fn fc, .slice ta tn tc] 26)) := (Below.refl w.heap.size w).alloc (Nat.le_refl _) _
  have hD : DIs (w.alloc (.cells #[.slice fa fn fc, .slice ta tn tc] 26)) v ds := dIs_below h b0
  have hE : EIs (w.alloc (.cells #[.slice fa fn fc, .slice ta tn tc] 26)) (.slice fa fn fc) (.slice ta tn tc) d := ⟨⟨_, _, _, rfl, IsRow.below hf b0, hfn⟩, ⟨_, _, _, rfl, IsRow.below ht b0, htn⟩⟩
  have hP := IsRow.below hzr b0
  have hF := IsRow.below hf b0
  have hT := IsRow.below ht b0
  have p0 := (cells_one w (.slice fa fn fc) (.slice ta tn tc) 26).1
  have p1 := (cells_one w (.slice fa fn fc) (.slice ta tn tc) 26).2
  clear h hf ht hfn htn hzr
  go_enter Try.func42, Try.ntmps42
  go_wp2_with fail
  generalize (w.alloc (.cells #[.slice fa fn fc, .slice ta tn tc] 26)) = V at b0 hD hE hP hF hT p0 p1 ⊢
  have B0 : Hid (Below w.heap.size w V) := b0
  have HD : Hid (DIs V v ds) := hD
  have HE : Hid (EIs V (.slice fa fn fc) (.slice ta tn tc) d) := hE
  have HP : Hid (IsRow .i64 V za zn zc ps) := hP
  have HF : Hid (IsRow .i64 V fa fn fc d.1) := hF
  have HT : Hid (IsRow .i64 V ta tn tc d.2) := hT
  have PE : Hid (keptG cols ds ps d = (closG cols ds ps && (depB cols d && (insideB d.1 ps && insideB d.2 ps)))) := part_is
  clear b0 hD hE hP hF hT
  refine (l6Part cols v za zn zc ds ps _ HD.out HP.out).mono ?_
  rintro e w1 ⟨rfl, hb1⟩
  have B1 : Hid (Below w.heap.size w w1) := Frame.next B0.out hb1 B0.out.size
  have C1 : Hid (Below V.heap.size V w1) := hb1
  have q0 : w1.cell? ⟨w.heap.size, 0, none⟩ = some (.slice fa fn fc) := Frame.held_cell hb1 p0
  have q1 : w1.cell? ⟨w.heap.size, 1, none⟩ = some (.slice ta tn tc) := Frame.held_cell hb1 p1
  clear hb1 p0 p1
  cases hG : closG cols ds ps
  · have E : Hid (keptG cols ds ps d = false) := by show _ = _; rw [PE.out, hG]; rfl
    have EV : Hid (keptV cols ds ps d = false) := by show _ = _; unfold keptV; rw [E.out]; rfl
    clear hG
    go_wp2
    go_ret2
    exact ⟨by rw [E.out, EV.out]; rfl, B1.out⟩
  · have HG : Hid (closG cols ds ps = true) := hG
    have hg1 : goodD cols ds = true := by unfold closG at hG; rw [Bool.and_eq_true] at hG; exact hG.1
    have HGD : Hid (goodD cols ds = true) := hg1
    have hc1 := (cols_of hg1).2.1
    have hc6 := (cols_of hg1).2.2.1
    clear hG hg1
    go_wp2_with fail
    refine (Dga.l5Dep cols _ _ d _ (eIs_below HE.out C1.out) hc1 hc6).mono ?_
    rintro e w2 ⟨rfl, hb2⟩
    have B2 : Hid (Below w.heap.size w w2) := Frame.next B1.out hb2 B1.out.size
    have C2 : Hid (Below V.heap.size V w2) := Frame.next C1.out hb2 C1.out.size
    have r0 : w2.cell? ⟨w.heap.size, 0, none⟩ = some (.slice fa fn fc) := Frame.held_cell hb2 q0
    have r1 : w2.cell? ⟨w.heap.size, 1, none⟩ = some (.slice ta tn tc) := Frame.held_cell hb2 q1
    have RF : Hid (IsRow .i64 w2 fa fn fc d.1) := IsRow.below HF.out C2.out
    have RT : Hid (IsRow .i64 w2 ta tn tc d.2) := IsRow.below HT.out C2.out
    have RP : Hid (IsRow .i64 w2 za zn zc ps) := IsRow.below HP.out C2.out
    clear hb2 q0 q1
    cases hR : depB cols d
    · have E : Hid (keptG cols ds ps d = false) := by show _ = _; rw [PE.out, hR, Bool.false_and, Bool.and_false]
      have EV : Hid (keptV cols ds ps d = false) := by show _ = _; unfold keptV; rw [E.out]; rfl
      clear hR
      go_wp2
      go_ret2
      exact ⟨by rw [E.out, EV.out]; rfl, B2.out⟩
    · have HR : Hid (depB cols d = true) := hR
      clear hR
      go_wp2_with fail
      refine (l5Sub _ _ _ _ _ _ d.1 ps _ RF.out RP.out).mono ?_
      rintro e w3 ⟨rfl, hww⟩
      obtain rfl := hww.symm
      clear hww
      cases hI : insideB d.1 ps
      · have E : Hid (keptG cols ds ps d = false) := by show _ = _; rw [PE.out, hI, Bool.false_and, Bool.and_false, Bool.and_false]
        have EV : Hid (keptV cols ds ps d = false) := by show _ = _; unfold keptV; rw [E.out]; rfl
        clear hI
        go_wp2
        go_ret2
        exact ⟨by rw [E.out, EV.out]; rfl, B2.out⟩
      · have HI : Hid (insideB d.1 ps = true) := hI
        clear hI
        go_wp2_with fail
        refine (l5Sub _ _ _ _ _ _ d.2 ps _ RT.out RP.out).mono ?_
        rintro e w4 ⟨rfl, hww⟩
        obtain rfl := hww.symm
        clear hww
        cases hJ : insideB d.2 ps
        · have E : Hid (keptG cols ds ps d = false) := by show _ = _; rw [PE.out, hJ, Bool.and_false, Bool.and_false, Bool.and_false]
          have EV : Hid (keptV cols ds ps d = false) := by show _ = _; unfold keptV; rw [E.out]; rfl
          clear hJ
          go_wp2
          go_ret2
          exact ⟨by rw [E.out, EV.out]; rfl, B2.out⟩
        · have E : Hid (keptG cols ds ps d = true) := by show _ = _; rw [PE.out, HG.out, HR.out, HI.out, hJ]; rfl
          have EV : Hid (keptV cols ds ps d = insideB d.2 (clL ds d.1)) := by show _ = _; unfold keptV; rw [E.out]; rfl
          have HC : Hid (Cols ds) := (cols_of HGD.out).1
          have HDC : Hid ((∀ z ∈ d.1, 0 ≤ z ∧ z < 6) ∧ ∀ z ∈ d.2, 0 ≤ z ∧ z < 6) := depB_cols HR.out hc6
          have HUP : Hid (UpN d.1) := by have h := HR.out; unfold depB at h; rw [Bool.and_eq_true, rise_iff] at h; exact h.1.2
          have HD2 : Hid (DIs w2 v ds) := dIs_below HD.out C2.out
          clear hJ
          go_wp2_with fail
          go_region_held3 (fun w' => Below w2.heap.size w2 w' ∧ w'.cell? ⟨w.heap.size, 0, none⟩ = some (.slice fa fn fc) ∧ w'.cell? ⟨w.heap.size, 1, none⟩ = some (.slice ta tn tc))
            (first | exact ⟨(Below.refl _ _).drew, r0, r1⟩ | with_reducible exact (fun kb => ⟨kb, Frame.held_cell kb r0, Frame.held_cell kb r1⟩) (Frame.held_next ‹Below w2.heap.size w2 _ ∧ _› hb3) | with_reducible exact ‹Below w2.heap.size w2 _ ∧ _›)
            (first | (go_at_call 81; refine (l5Closure v fa fn fc ds d.1 _ ?_ ?_ HC.out HUP.out HDC.out.1).mono ?_; exact dIs_below HD2.out (And.left ‹Below w2.heap.size w2 _ ∧ _›); exact IsRow.below RF.out (And.left ‹Below w2.heap.size w2 _ ∧ _›); rintro e w3 ⟨u3, rfl, ho3, hb3⟩; obtain ⟨a3, n3, c3, rfl, hr3, hn3⟩ := iOwn_is ho3; have R3 : Hid (IsRow .i64 w3 a3 n3 c3 (clL ds d.1)) := hr3; clear ho3 hr3) | (go_at_call 80; refine (l5Sub ta a3 tn n3 tc c3 d.2 (clL ds d.1) _ ?_ R3.out).mono ?_; exact IsRow.below RT.out (And.left ‹Below w2.heap.size w2 _ ∧ _›); rintro e w4 ⟨rfl, rfl⟩))
          all_goals
            have B4 : Hid (Below w.heap.size w w4) := Frame.next B2.out (And.left ‹Below w2.heap.size w2 _ ∧ _›) B2.out.size
            go_wp2
            go_ret2
            exact ⟨by rw [E.out, EV.out]; rfl, B4.out⟩


end Go.Proofs.Ythhldnlbneamiaa.Lsb
