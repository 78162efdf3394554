/-
  What follows, in the model: contracts of ClosureOf, Implies.
-/
import Derived.Test.YtbeielafbegflaaSsc
namespace Go.Proofs.Ytbeielafbegflaa.Ssd
open Go.RowKit
open Go.Proofs.Ytbeielafbegflaa.Frame Go.Proofs.Ytbeielafbegflaa.Mem Go.Proofs.Ytbeielafbegflaa.Ints Go.Proofs.Ytbeielafbegflaa.Kep Go.Proofs.Ytbeielafbegflaa.Lls Go.Proofs.Ytbeielafbegflaa.Mis Go.Proofs.Ytbeielafbegflaa.Dls Go.Proofs.Ytbeielafbegflaa.Dlk Go.Proofs.Ytbeielafbegflaa.Csd Go.Proofs.Ytbeielafbegflaa.Ssc
open Go.Proofs.Ytbeielafbegflaa.Rel hiding Ll
open Go.Proofs.Ytbeielafbegflaa.Cpu hiding Dp

set_option maxRecDepth 4000 in
set_option maxHeartbeats 1600000 in
theorem spec_ClosureOf (cols : Int) (v u : Value) (ds : List Dp) (zs : List Int) (w : World) (h : DIs w v ds) (hz : IIs w u zs) :
    Calls Try.prog 14 #[.int .i64 cols, v, u] w fun e w' => ∃ u', e = .returned (.tuple #[u', .bool (closG cols ds zs)]) ∧ IOwn w' w.heap.size w'.heap.size u' (closV cols ds zs) ∧ Below w.heap.size w w' := by
  obtain ⟨za, zn, zc, rfl, hzr, hzn⟩ := hz
  have HD : Hid (DIs w v ds) := h
  have HZ : Hid (IsRow .i64 w za zn zc zs) := hzr
  clear h hzr
  go_enter Try.func14, Try.ntmps14
  go_wp2_with fail
  refine (Dga.spec_GoodDeps cols v ds _ HD.out).mono ?_
  rintro e w1 ⟨rfl, hb1⟩
  have B1 : Hid (Below w.heap.size w w1) := hb1
  clear hb1
  cases hG : goodD cols ds
  · have E : Hid (closG cols ds zs = false) := by show _ = _; unfold closG; rw [hG]; rfl
    have EV : Hid (closV cols ds zs = []) := by show _ = _; unfold closV; rw [E.out]; rfl
    clear hG
    go_wp2
    go_ret2
    exact ⟨.slice none 0 0, by rw [E.out]; rfl, by rw [EV.out]; exact iOwn_nil _ _ _, B1.out⟩
  · have HG : Hid (goodD cols ds = true) := hG
    have hc1 := (cols_of hG).2.1
    have hc6 := (cols_of hG).2.2.1
    clear hG
    go_wp2_with fail
    refine (Sa.spec_l1Rising _ _ _ zs 0 (cols - 1) _ (IsRow.below HZ.out B1.out)).mono ?_
    rintro e w2 ⟨rfl, hww⟩
    obtain rfl := hww.symm
    cases hR : riseB 0 (cols - 1) zs
    · have E : Hid (closG cols ds zs = false) := by show _ = _; unfold closG; rw [hR, Bool.and_false]
      have EV : Hid (closV cols ds zs = []) := by show _ = _; unfold closV; rw [E.out]; rfl
      clear hR
      go_wp2
      go_ret2
      exact ⟨.slice none 0 0, by rw [E.out]; rfl, by rw [EV.out]; exact iOwn_nil _ _ _, B1.out⟩
    · have E : Hid (closG cols ds zs = true) := by show _ = _; unfold closG; rw [hR, HG.out]; rfl
      have EV : Hid (closV cols ds zs = clL ds zs) := by show _ = _; unfold closV; rw [E.out]; rfl
      have HC : Hid (Cols ds) := (cols_of HG.out).1
      have HZ6 : Hid (∀ z ∈ zs, 0 ≤ z ∧ z < 6) := rise_cols hR hc6
      have HUP : Hid (UpN zs) := (rise_iff.1 hR).2
      clear hR
      go_wp2_with fail
      refine (l5Closure v _ _ _ ds zs _ (dIs_below HD.out B1.out) (IsRow.below HZ.out B1.out) HC.out HUP.out HZ6.out).mono ?_
      rintro e w5 ⟨u5, rfl, ho5, hb5⟩
      have B5 : Hid (Below w.heap.size w w5) := Frame.next B1.out hb5 B1.out.size
      have O5 : Hid (IOwn w5 w.heap.size w5.heap.size u5 (clL ds zs)) := Krl.iOwn_wide ho5 B1.out.size (Nat.le_refl _)
      clear hb5 ho5
      go_wp2
      go_ret2
      exact ⟨u5, by rw [E.out]; rfl, by rw [EV.out]; exact O5.out, B5.out⟩

set_option maxRecDepth 4000 in
set_option maxHeartbeats 1600000 in
theorem spec_Implies (cols : Int) (v u t : Value) (ds : List Dp) (d : Dp) (w : World) (h : DIs w v ds) (hd : EIs w u t d) :
    Calls Try.prog 7 #[.int .i64 cols, v, .agg #[u, t]] w fun e w' => e = .returned (.tuple #[.bool (impV cols ds d), .bool (impG cols ds d)]) ∧ Below w.heap.size w w' := by
  obtain ⟨⟨fa, fn, fc, rfl, hf, hfn⟩, ⟨ta, tn, tc, rfl, ht, htn⟩⟩ := hd
  have b0 : Below w.heap.size w (w.alloc (.cells #[.slice fa fn fc, .slice ta tn tc] 26)) := (Below.refl w.heap.size w).alloc (Nat.le_refl _) _
  have HD : Hid (DIs (w.alloc (.cells #[.slice fa fn fc, .slice ta tn tc] 26)) v ds) := dIs_below h b0
  have HE : Hid (EIs (w.alloc (.cells #[.slice fa fn fc, .slice ta tn tc] 26)) (.slice fa fn fc) (.slice ta tn tc) d) := ⟨⟨_, _, _, rfl, IsRow.below hf b0, hfn⟩, ⟨_, _, _, rfl, IsRow.below ht b0, htn⟩⟩
  have B0 : Hid (Below w.heap.size w (w.alloc (.cells #[.slice fa fn fc, .slice ta tn tc] 26))) := b0
  clear h hf ht b0 hfn htn
  go_enter Try.func7, Try.ntmps7
  go_wp2_with fail
  refine (Dga.spec_GoodDeps cols v ds _ HD.out).mono ?_
  rintro e w1 ⟨rfl, hb1⟩
  have B1 : Hid (Below w.heap.size w w1) := Frame.next B0.out hb1 B0.out.size
  have C1 : Hid (Below (w.alloc (.cells #[.slice fa fn fc, .slice ta tn tc] 26)).heap.size (w.alloc (.cells #[.slice fa fn fc, .slice ta tn tc] 26)) w1) := hb1
  have p0 : w1.cell? ⟨w.heap.size, 0, none⟩ = some (.slice fa fn fc) := by rw [(Frame.bcell hb1).1 _ _ (by simp)]; go_simp
  have p1 : w1.cell? ⟨w.heap.size, 1, none⟩ = some (.slice ta tn tc) := by rw [(Frame.bcell hb1).1 _ _ (by simp)]; go_simp
  clear hb1
  cases hG : goodD cols ds
  · have E : Hid (impG cols ds d = false) := by show _ = _; unfold impG; rw [hG]; rfl
    have EV : Hid (impV cols ds d = false) := by show _ = _; unfold impV; rw [E.out]; rfl
    clear hG
    go_wp2
    go_ret2
    exact ⟨by rw [E.out, EV.out]; rfl, B1.out⟩
  · have HG : Hid (goodD cols ds = true) := hG
    have hc1 := (cols_of hG).2.1
    have hc6 := (cols_of hG).2.2.1
    clear hG
    go_wp2_with fail
    refine (Dga.l5Dep cols _ _ d _ (eIs_below HE.out C1.out) hc1 hc6).mono ?_
    rintro e w2 ⟨rfl, hb2⟩
    have B2 : Hid (Below w.heap.size w w2) := Frame.next B1.out hb2 B1.out.size
    have q0 : w2.cell? ⟨w.heap.size, 0, none⟩ = some (.slice fa fn fc) := Frame.held_cell hb2 p0
    have q1 : w2.cell? ⟨w.heap.size, 1, none⟩ = some (.slice ta tn tc) := Frame.held_cell hb2 p1
    have C2 : Hid (Below (w.alloc (.cells #[.slice fa fn fc, .slice ta tn tc] 26)).heap.size (w.alloc (.cells #[.slice fa fn fc, .slice ta tn tc] 26)) w2) := Frame.next C1.out hb2 C1.out.size
    clear hb2 p0 p1
    cases hR : depB cols d
    · have E : Hid (impG cols ds d = false) := by show _ = _; unfold impG; rw [hR, Bool.and_false]
      have EV : Hid (impV cols ds d = false) := by show _ = _; unfold impV; rw [E.out]; rfl
      clear hR
      go_wp2
      go_ret2
      exact ⟨by rw [E.out, EV.out]; rfl, B2.out⟩
    · have E : Hid (impG cols ds d = true) := by show _ = _; unfold impG; rw [hR, HG.out]; rfl
      have EV : Hid (impV cols ds d = insideB d.2 (clL ds d.1)) := by show _ = _; unfold impV; rw [E.out]; rfl
      have HC : Hid (Cols ds) := (cols_of HG.out).1
      have HDC : Hid ((∀ z ∈ d.1, 0 ≤ z ∧ z < 6) ∧ ∀ z ∈ d.2, 0 ≤ z ∧ z < 6) := depB_cols hR hc6
      have HUP : Hid (UpN d.1) := by unfold depB at hR; rw [Bool.and_eq_true, rise_iff] at hR; exact hR.1.2
      have HD2 : Hid (DIs w2 v ds) := dIs_below HD.out C2.out
      obtain ⟨⟨_, _, _, ef, hrf, _⟩, ⟨_, _, _, et, hrt, _⟩⟩ := eIs_below HE.out C2.out
      cases ef
      cases et
      have RF : Hid (IsRow .i64 w2 fa fn fc d.1) := hrf
      have RT : Hid (IsRow .i64 w2 ta tn tc d.2) := hrt
      clear hR hrf hrt
      go_wp2_with fail
      go_region_held3 (fun w' => Below w2.heap.size w2 w' ∧ w'.cell? ⟨w.heap.size, 0, none⟩ = some (.slice fa fn fc) ∧ w'.cell? ⟨w.heap.size, 1, none⟩ = some (.slice ta tn tc))
        (first | exact ⟨(Below.refl _ _).drew, q0, q1⟩ | with_reducible exact (fun kb => ⟨kb, Frame.held_cell kb q0, Frame.held_cell kb q1⟩) (Frame.held_next ‹Below w2.heap.size w2 _ ∧ _› hb3) | with_reducible exact ‹Below w2.heap.size w2 _ ∧ _›)
        (first | (go_at_call 39; refine (l5Closure v fa fn fc ds d.1 _ ?_ ?_ HC.out HUP.out HDC.out.1).mono ?_; exact dIs_below HD2.out (And.left ‹Below w2.heap.size w2 _ ∧ _›); exact IsRow.below RF.out (And.left ‹Below w2.heap.size w2 _ ∧ _›); rintro e w3 ⟨u3, rfl, ho3, hb3⟩; obtain ⟨a3, n3, c3, rfl, hr3, hn3⟩ := iOwn_is ho3; have R3 : Hid (IsRow .i64 w3 a3 n3 c3 (clL ds d.1)) := hr3; clear ho3 hr3) | (go_at_call 38; refine (l5Sub ta a3 tn n3 tc c3 d.2 (clL ds d.1) _ ?_ R3.out).mono ?_; exact IsRow.below RT.out (And.left ‹Below w2.heap.size w2 _ ∧ _›); rintro e w4 ⟨rfl, rfl⟩))
      all_goals
        have B4 : Hid (Below w.heap.size w w4) := Frame.next B2.out (And.left ‹Below w2.heap.size w2 _ ∧ _›) B2.out.size
        go_wp2
        go_ret2
        exact ⟨by rw [E.out, EV.out]; rfl, B4.out⟩


end Go.Proofs.Ytbeielafbegflaa.Ssd
