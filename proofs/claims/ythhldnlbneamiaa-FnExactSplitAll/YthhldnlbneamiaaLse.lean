/-
  A table split by a sentence, in the program: contract of SplitBy.
-/
import Derived.Test.YthhldnlbneamiaaLsd
import Derived.Deep.DeepCutAuto
namespace Go.Proofs.Ythhldnlbneamiaa.Lse
open Go.RowKit
open Go.Proofs.Ythhldnlbneamiaa.Frame Go.Proofs.Ythhldnlbneamiaa.Mem Go.Proofs.Ythhldnlbneamiaa.Ints Go.Proofs.Ythhldnlbneamiaa.Kep Go.Proofs.Ythhldnlbneamiaa.Lls Go.Proofs.Ythhldnlbneamiaa.Mis Go.Proofs.Ythhldnlbneamiaa.Dls Go.Proofs.Ythhldnlbneamiaa.Dlk Go.Proofs.Ythhldnlbneamiaa.Csa Go.Proofs.Ythhldnlbneamiaa.Csb Go.Proofs.Ythhldnlbneamiaa.Csc Go.Proofs.Ythhldnlbneamiaa.Csd Go.Proofs.Ythhldnlbneamiaa.Csf Go.Proofs.Ythhldnlbneamiaa.Csg Go.Proofs.Ythhldnlbneamiaa.Spx Go.Proofs.Ythhldnlbneamiaa.Lsa Go.Proofs.Ythhldnlbneamiaa.Lsd
open Go.Proofs.Ythhldnlbneamiaa.Rel hiding Ll
open Go.Proofs.Ythhldnlbneamiaa.Cpu hiding Dp

/-- What stands while two sets are made, in whatever order. -/
structure Inv (D : World) (p : Nat) (x y : Value) (W : World) : Prop where
  cells : W.cell? ⟨p, 0, none⟩ = some x ∧ W.cell? ⟨p, 1, none⟩ = some y
  below : Below D.heap.size D W
section
variable {D : World} {p : Nat} {x y : Value} {W : World}
theorem Inv.call {W' : World} (h : Inv D p x y W) (hb : Below W.heap.size W W') : Inv D p x y W' :=
  ⟨⟨Frame.held_cell hb h.cells.1, Frame.held_cell hb h.cells.2⟩, Frame.next h.below hb h.below.size⟩
theorem Inv.drawn (h : Inv D p x y W) : Inv D p x y W.drew := h.call ((Below.refl _ _).drew)
theorem Inv.made (o : Obj) (h : Inv D p x y W) : Inv D p x y (W.alloc o) := h.call ((Below.refl _ _).alloc (Nat.le_refl _) o)
theorem Inv.set (b i : Nat) (v : Value) (hb : D.heap.size ≤ b) (hp : p < D.heap.size) (h : Inv D p x y W) : Inv D p x y (W.setCell ⟨b, i, none⟩ v) := by
  have q : ∀ (j : Nat) (u : Value), W.cell? ⟨p, j, none⟩ = some u → (W.setCell ⟨b, i, none⟩ v).cell? ⟨p, j, none⟩ = some u := fun j u h2 => by
    rw [World.cell?_setCell_other W ⟨b, i, none⟩ ⟨p, j, none⟩ v (by intro e; cases e; omega)]
    exact h2
  exact ⟨⟨q _ _ h.cells.1, q _ _ h.cells.2⟩, h.below.setCell hb _⟩
end
/-- Two sets lie in boxes of their own. -/
def Mk (D : World) (f g : Cs) (W : World) (b c : Nat) : Prop := Below D.heap.size D W ∧ At6 W b f ∧ At6 W c g ∧ D.heap.size ≤ b ∧ D.heap.size ≤ c
theorem At6.call {X W : World} {b : Nat} {f : Cs} (h : At6 X b f) (hb : Below X.heap.size X W) : At6 W b f := h.below hb
theorem At6.al {X : World} {b : Nat} {f : Cs} (o : Obj) (h : At6 X b f) : At6 (X.alloc o) b f := h.below ((Below.refl _ _).alloc (Nat.le_refl _) o)
theorem At6.drew {X : World} {b : Nat} {f : Cs} (h : At6 X b f) : At6 X.drew b f := h.below ((Below.refl _ _).drew)
theorem At6.new1 (Y : World) (o : Obj) (f : Cs) (t : TypeId) : At6 ((Y.alloc o).alloc (.cells #[.bool (f 0), .bool (f 1), .bool (f 2), .bool (f 3), .bool (f 4), .bool (f 5)] t)) (Y.heap.size + 1) f := by
  have h := At6.made (Y.alloc o) f t
  rwa [World.size_alloc] at h
theorem At6.ne {X : World} {b : Nat} {f : Cs} (h : At6 X b f) : X.heap.size ≠ b := Nat.ne_of_gt h.2.2
theorem At6.ne1 {X : World} {b : Nat} {f : Cs} (h : At6 X b f) : X.heap.size + 1 ≠ b := Nat.ne_of_gt (Nat.lt_succ_of_lt h.2.2)

theorem size6 (W : World) (b : Nat) (f : Cs) : ((((((W.setCell ⟨b, 0, none⟩ (.bool (f 0))).setCell ⟨b, 1, none⟩ (.bool (f 1))).setCell ⟨b, 2, none⟩ (.bool (f 2))).setCell ⟨b, 3, none⟩ (.bool (f 3))).setCell ⟨b, 4, none⟩ (.bool (f 4))).setCell ⟨b, 5, none⟩ (.bool (f 5))).heap.size = W.heap.size := by simp
theorem mk1 {D W : World} {f g : Cs} (h : Below D.heap.size D W) : Mk D f g ((W.alloc (.cells #[.bool (f 0), .bool (f 1), .bool (f 2), .bool (f 3), .bool (f 4), .bool (f 5)] 107)).alloc (.cells #[.bool (g 0), .bool (g 1), .bool (g 2), .bool (g 3), .bool (g 4), .bool (g 5)] 107)) W.heap.size (W.heap.size + 1) :=
  ⟨(h.alloc h.size _).alloc (by rw [World.size_alloc]; exact Nat.le_succ_of_le h.size) _, At6.al _ (At6.made W f _), At6.new1 W _ g _, h.size, Nat.le_succ_of_le h.size⟩
theorem mk2 {D W : World} {f g : Cs} (h : Below D.heap.size D W) : Mk D f g ((W.alloc (.cells #[.bool (g 0), .bool (g 1), .bool (g 2), .bool (g 3), .bool (g 4), .bool (g 5)] 107)).alloc (.cells #[.bool (f 0), .bool (f 1), .bool (f 2), .bool (f 3), .bool (f 4), .bool (f 5)] 107)) (W.heap.size + 1) W.heap.size :=
  ⟨(h.alloc h.size _).alloc (by rw [World.size_alloc]; exact Nat.le_succ_of_le h.size) _, At6.new1 W _ f _, At6.al _ (At6.made W g _), Nat.le_succ_of_le h.size, h.size⟩
theorem mk3 {D W : World} {f g e : Cs} {b : Nat} (h : Below D.heap.size D W) (hb : At6 W b e) (hd : D.heap.size ≤ b) : Mk D f g (((((((W.setCell ⟨b, 0, none⟩ (.bool (f 0))).setCell ⟨b, 1, none⟩ (.bool (f 1))).setCell ⟨b, 2, none⟩ (.bool (f 2))).setCell ⟨b, 3, none⟩ (.bool (f 3))).setCell ⟨b, 4, none⟩ (.bool (f 4))).setCell ⟨b, 5, none⟩ (.bool (f 5))).alloc (.cells #[.bool (g 0), .bool (g 1), .bool (g 2), .bool (g 3), .bool (g 4), .bool (g 5)] 107)) b W.heap.size := by
  have hs := six_set hb f
  have hz := size6 W b f
  have hB := Csa.Below.set6 h hd (.bool (f 0)) (.bool (f 1)) (.bool (f 2)) (.bool (f 3)) (.bool (f 4)) (.bool (f 5))
  generalize ((((((W.setCell ⟨b, 0, none⟩ (.bool (f 0))).setCell ⟨b, 1, none⟩ (.bool (f 1))).setCell ⟨b, 2, none⟩ (.bool (f 2))).setCell ⟨b, 3, none⟩ (.bool (f 3))).setCell ⟨b, 4, none⟩ (.bool (f 4))).setCell ⟨b, 5, none⟩ (.bool (f 5))) = V at hs hz hB ⊢
  refine ⟨hB.alloc hB.size _, At6.al _ hs, ?_, hd, h.size⟩
  rw [← hz]
  exact At6.made V g _
theorem mk4 {D W : World} {f g e : Cs} {b : Nat} (h : Below D.heap.size D W) (hb : At6 W b e) (hd : D.heap.size ≤ b) : Mk D f g (((((((W.setCell ⟨b, 0, none⟩ (.bool (g 0))).setCell ⟨b, 1, none⟩ (.bool (g 1))).setCell ⟨b, 2, none⟩ (.bool (g 2))).setCell ⟨b, 3, none⟩ (.bool (g 3))).setCell ⟨b, 4, none⟩ (.bool (g 4))).setCell ⟨b, 5, none⟩ (.bool (g 5))).alloc (.cells #[.bool (f 0), .bool (f 1), .bool (f 2), .bool (f 3), .bool (f 4), .bool (f 5)] 107)) W.heap.size b := by
  have hm := mk3 (f := g) (g := f) h hb hd
  exact ⟨hm.1, hm.2.2.1, hm.2.1, hm.2.2.2.2, hm.2.2.2.1⟩
theorem mk5 {D W : World} {f g e k : Cs} {b c : Nat} (h : Below D.heap.size D W) (hb : At6 W b e) (hc : At6 W c k) (hd : D.heap.size ≤ b) (he : D.heap.size ≤ c) (hne : b ≠ c) : Mk D f g ((((((((((((W.setCell ⟨b, 0, none⟩ (.bool (f 0))).setCell ⟨b, 1, none⟩ (.bool (f 1))).setCell ⟨b, 2, none⟩ (.bool (f 2))).setCell ⟨b, 3, none⟩ (.bool (f 3))).setCell ⟨b, 4, none⟩ (.bool (f 4))).setCell ⟨b, 5, none⟩ (.bool (f 5))).setCell ⟨c, 0, none⟩ (.bool (g 0))).setCell ⟨c, 1, none⟩ (.bool (g 1))).setCell ⟨c, 2, none⟩ (.bool (g 2))).setCell ⟨c, 3, none⟩ (.bool (g 3))).setCell ⟨c, 4, none⟩ (.bool (g 4))).setCell ⟨c, 5, none⟩ (.bool (g 5))) b c :=
  ⟨Csa.Below.set6 (Csa.Below.set6 h hd _ _ _ _ _ _) he _ _ _ _ _ _, six_other (six_set hb f) g hne.symm, six_set (six_other hc f hne) g, hd, he⟩

set_option maxRecDepth 8000 in
set_option maxHeartbeats 40000000 in
theorem impl_SplitBy (cols : Int) (z u t : Value) (ps : List Int) (d : Dp) (w : World) (hz : IIs w z ps) (hd : EIs w u t d) :
    Calls Try.prog 37 #[.int .i64 cols, z, .agg #[u, t]] w (SplR cols ps d w) := by
  obtain ⟨za, zn, zc, rfl, hzr, hzn⟩ := hz
  obtain ⟨⟨fa, fn, fc, rfl, hf, hfn⟩, ⟨ta, tn, tc, rfl, ht, htn⟩⟩ := hd
  have b0 : Below w.heap.size w (w.alloc (.cells #[.slice fa fn fc, .slice ta tn tc] 26)) := (Below.refl w.heap.size w).alloc (Nat.le_refl _) _
  have hE : EIs (w.alloc (.cells #[.slice fa fn fc, .slice ta tn tc] 26)) (.slice fa fn fc) (.slice ta tn tc) d := ⟨⟨_, _, _, rfl, IsRow.below hf b0, hfn⟩, ⟨_, _, _, rfl, IsRow.below ht b0, htn⟩⟩
  have hP := IsRow.below hzr b0
  have hF := IsRow.below hf b0
  have hT := IsRow.below ht b0
  have hV : w.heap.size < (w.alloc (.cells #[.slice fa fn fc, .slice ta tn tc] 26)).heap.size := by simp
  have p0 := (cells_one w (.slice fa fn fc) (.slice ta tn tc) 26).1
  have p1 := (cells_one w (.slice fa fn fc) (.slice ta tn tc) 26).2
  clear hf ht hfn htn hzr
  go_enter Try.func37, Try.ntmps37
  go_wp2_with fail
  generalize (w.alloc (.cells #[.slice fa fn fc, .slice ta tn tc] 26)) = V at b0 hE hP hF hT hV p0 p1 ⊢
  have B0 : Hid (Below w.heap.size w V) := b0
  refine (isDepWithin cols za zn zc ps _ _ d _ hP hE).mono ?_
  rintro e w1 ⟨rfl, hb1⟩
  have B1 : Hid (Below w.heap.size w w1) := Frame.next B0.out hb1 B0.out.size
  have hp : w.heap.size < w1.heap.size := Nat.lt_of_lt_of_le hV hb1.size
  have q0 : w1.cell? ⟨w.heap.size, 0, none⟩ = some (.slice fa fn fc) := Frame.held_cell hb1 p0
  have q1 : w1.cell? ⟨w.heap.size, 1, none⟩ = some (.slice ta tn tc) := Frame.held_cell hb1 p1
  have HP : Hid (IsRow .i64 w1 za zn zc ps) := IsRow.below hP hb1
  have HF : Hid (IsRow .i64 w1 fa fn fc d.1) := IsRow.below hF hb1
  have HT : Hid (IsRow .i64 w1 ta tn tc d.2) := IsRow.below hT hb1
  clear hb1 p0 p1 b0 hE hP hF hT hV
  cases hR : partG cols ps d
  · have E : Hid (splG cols ps d = false) := by show _ = _; unfold splG; rw [hR]; rfl
    clear hR
    go_wp2
    go_ret3
    exact splR_no E.out B1.out
  · obtain ⟨_, _, _, hc1, hc2, hcp, hu1, _, hup, _, _⟩ := part_of hR
    have HDC : Hid (InC d.1 ∧ InC d.2) := ⟨hc1, hc2⟩
    have HLI : Hid (listI (lessS (inS ps) (inS d.2)) = lessC ps d.2) := less_is hup hcp hc2
    have HPC : Hid (InC ps) := hcp
    have E : Hid (splG cols ps d = decide (bothL d.1 d.2 = [])) := by show _ = _; unfold splG; rw [hR]; rfl
    clear hR hc1 hc2 hcp hu1 hup
    have IX : Hid (Inv w1 w.heap.size (.slice fa fn fc) (.slice ta tn tc) w1) := ⟨⟨q0, q1⟩, Below.refl _ _⟩
    have I0 : Hid (Inv w1 w.heap.size (.slice fa fn fc) (.slice ta tn tc) w1.drew) := Inv.drawn IX.out
    go_upto_region 3 with fail
    go_cut [9, 10] (fun s9 s10 wx => ∃ b c, s9 = .pointer (some ⟨b, 0, none⟩) ∧ s10 = .pointer (some ⟨c, 0, none⟩) ∧ Mk w1 (inS d.1) (inS d.2) wx b c)
    case first =>
      go_region_held3 (fun W => W.cell? ⟨w.heap.size, 0, none⟩ = some (.slice fa fn fc) ∧ W.cell? ⟨w.heap.size, 1, none⟩ = some (.slice ta tn tc))
        (first | with_reducible exact I0.out.cells | with_reducible exact I1.out.cells | with_reducible exact I2.out.cells | (refine Inv.cells (D := w1) (p := w.heap.size) (x := .slice fa fn fc) (y := .slice ta tn tc) ?_; (repeat (first | with_reducible exact I2.out | with_reducible exact I1.out | with_reducible exact IX.out | with_reducible apply Inv.made | with_reducible apply Inv.drawn | (with_reducible refine Inv.set _ _ _ ?_ hp ?_; (focus omega))))))
        (first | (go_at_call_has 83 fa; refine (setOf fa fn fc d.1 _ (IsRow.below HF.out (by refine Inv.below (D := w1) (p := w.heap.size) (x := .slice fa fn fc) (y := .slice ta tn tc) ?_; (repeat (first | with_reducible exact I2.out | with_reducible exact I1.out | with_reducible exact IX.out | with_reducible apply Inv.made | with_reducible apply Inv.drawn | (with_reducible refine Inv.set _ _ _ ?_ hp ?_; (focus omega)))))) HDC.out.1).mono ?_; rintro e w2 ⟨rfl, hb1⟩; unfold csv; have I1 : Hid (Inv w1 w.heap.size (.slice fa fn fc) (.slice ta tn tc) w2) := (by refine Inv.call ?_ hb1; (repeat (first | with_reducible exact I2.out | with_reducible exact I1.out | with_reducible exact IX.out | with_reducible apply Inv.made | with_reducible apply Inv.drawn | (with_reducible refine Inv.set _ _ _ ?_ hp ?_; (focus omega))))); have bz1 := I1.out.below.size; (first | (have X10 : Hid (At6 w2 (w1.heap.size) noneS) := At6.call (At6.drew (At6.made w1 noneS 107)) hb1) | (have X10 : Hid (At6 w2 (w1.heap.size) noneS) := At6.call (At6.drew (At6.al _ (At6.made w1 noneS 107))) hb1) | skip); (first | (obtain ⟨a100, a101, a102, a103, a104, a105⟩ := X10.out.cells; obtain ⟨g100, g101, g102, g103, g104, g105⟩ := X10.out.froz; have n10 := At6.ne X10.out; have m10 := At6.ne1 X10.out; have l10 := X10.out.2.2) | skip); (first | (have X11 : Hid (At6 w2 (w1.heap.size + 1) noneS) := At6.call (At6.drew (At6.new1 w1 _ noneS 107)) hb1) | skip); (first | (obtain ⟨a110, a111, a112, a113, a114, a115⟩ := X11.out.cells; obtain ⟨g110, g111, g112, g113, g114, g115⟩ := X11.out.froz; have n11 := At6.ne X11.out; have m11 := At6.ne1 X11.out; have l11 := X11.out.2.2) | skip); clear hb1) | (go_at_call_has 83 ta; refine (setOf ta tn tc d.2 _ (IsRow.below HT.out (by refine Inv.below (D := w1) (p := w.heap.size) (x := .slice fa fn fc) (y := .slice ta tn tc) ?_; (repeat (first | with_reducible exact I2.out | with_reducible exact I1.out | with_reducible exact IX.out | with_reducible apply Inv.made | with_reducible apply Inv.drawn | (with_reducible refine Inv.set _ _ _ ?_ hp ?_; (focus omega)))))) HDC.out.2).mono ?_; rintro e w3 ⟨rfl, hb2⟩; unfold csv; have I2 : Hid (Inv w1 w.heap.size (.slice fa fn fc) (.slice ta tn tc) w3) := (by refine Inv.call ?_ hb2; (repeat (first | with_reducible exact I2.out | with_reducible exact I1.out | with_reducible exact IX.out | with_reducible apply Inv.made | with_reducible apply Inv.drawn | (with_reducible refine Inv.set _ _ _ ?_ hp ?_; (focus omega))))); have bz2 := I2.out.below.size; (first | (have X20 : Hid (At6 w3 (w1.heap.size) noneS) := At6.call X10.out hb2) | (have X20 : Hid (At6 w3 (w1.heap.size) noneS) := At6.call (At6.al _ X10.out) hb2) | skip); (first | (obtain ⟨a200, a201, a202, a203, a204, a205⟩ := X20.out.cells; obtain ⟨g200, g201, g202, g203, g204, g205⟩ := X20.out.froz; have n20 := At6.ne X20.out; have m20 := At6.ne1 X20.out; have l20 := X20.out.2.2) | skip); (first | (have X21 : Hid (At6 w3 (w1.heap.size + 1) noneS) := At6.call X11.out hb2) | skip); (first | (obtain ⟨a210, a211, a212, a213, a214, a215⟩ := X21.out.cells; obtain ⟨g210, g211, g212, g213, g214, g215⟩ := X21.out.froz; have n21 := At6.ne X21.out; have m21 := At6.ne1 X21.out; have l21 := X21.out.2.2) | skip); (first | (have X22 : Hid (At6 w3 (w2.heap.size) noneS) := At6.call (At6.made w2 noneS 107) hb2) | (have X22 : Hid (At6 w3 (w2.heap.size) noneS) := At6.call (At6.al _ (At6.made w2 noneS 107)) hb2) | skip); (first | (obtain ⟨a220, a221, a222, a223, a224, a225⟩ := X22.out.cells; obtain ⟨g220, g221, g222, g223, g224, g225⟩ := X22.out.froz; have n22 := At6.ne X22.out; have m22 := At6.ne1 X22.out; have l22 := X22.out.2.2) | skip); (first | (have X23 : Hid (At6 w3 (w2.heap.size + 1) noneS) := At6.call (At6.new1 w2 _ noneS 107) hb2) | skip); (first | (obtain ⟨a230, a231, a232, a233, a234, a235⟩ := X23.out.cells; obtain ⟨g230, g231, g232, g233, g234, g235⟩ := X23.out.froz; have n23 := At6.ne X23.out; have m23 := At6.ne1 X23.out; have l23 := X23.out.2.2) | skip); clear hb2))
      · go_wp2_with fail
        go_meet
        exact ⟨_, _, rfl, rfl, mk1 I2.out.below⟩
      · go_wp2_with fail
        go_meet
        exact ⟨_, _, rfl, rfl, mk2 I2.out.below⟩
      · go_wp2_with fail
        go_meet
        exact ⟨_, _, rfl, rfl, mk3 I2.out.below X22.out I1.out.below.size⟩
      · go_wp2_with fail
        go_meet
        exact ⟨_, _, rfl, rfl, mk5 I2.out.below X22.out X23.out I1.out.below.size (Nat.le_succ_of_le I1.out.below.size) (Nat.ne_of_lt (Nat.lt_succ_self _))⟩
      · go_wp2_with fail
        go_meet
        exact ⟨_, _, rfl, rfl, mk4 I2.out.below X22.out I1.out.below.size⟩
      · go_wp2_with fail
        go_meet
        exact ⟨_, _, rfl, rfl, mk5 I2.out.below X23.out X22.out (Nat.le_succ_of_le I1.out.below.size) I1.out.below.size (Nat.ne_of_gt (Nat.lt_succ_self _))⟩
      · go_wp2_with fail
        go_meet
        exact ⟨_, _, rfl, rfl, mk3 I2.out.below X20.out (Nat.le_refl _)⟩
      · go_wp2_with fail
        go_meet
        exact ⟨_, _, rfl, rfl, mk5 I2.out.below X20.out X22.out (Nat.le_refl _) I1.out.below.size (Nat.ne_of_lt X10.out.2.2)⟩
      · go_wp2_with fail
        go_meet
        exact ⟨_, _, rfl, rfl, mk5 I2.out.below X20.out X21.out (Nat.le_refl _) (Nat.le_succ _) (Nat.ne_of_lt (Nat.lt_succ_self _))⟩
      · go_wp2_with fail
        go_meet
        exact ⟨_, _, rfl, rfl, mk4 I2.out.below X20.out (Nat.le_refl _)⟩
      · go_wp2_with fail
        go_meet
        exact ⟨_, _, rfl, rfl, mk5 I2.out.below X22.out X20.out I1.out.below.size (Nat.le_refl _) (Nat.ne_of_gt X10.out.2.2)⟩
      · go_wp2_with fail
        go_meet
        exact ⟨_, _, rfl, rfl, mk5 I2.out.below X21.out X20.out (Nat.le_succ _) (Nat.le_refl _) (Nat.ne_of_gt (Nat.lt_succ_self _))⟩
    case rest =>
      obtain ⟨b, c, rfl, rfl, hB, hf, hg, hbl, hcl⟩ := hcut
      have BC : Hid (Below w.heap.size w wc) := Frame.next B1.out hB B1.out.size
      have HP2 : Hid (IsRow .i64 wc za zn zc ps) := IsRow.below HP.out hB
      obtain ⟨x0, x1, x2, x3, x4, x5⟩ := hf.cells
      obtain ⟨z0, z1, z2, z3, z4, z5⟩ := hg.cells
      have EQ : ∀ w, (binOp .neq 107 (.agg #[.bool (lessS (inS d.1) (inS d.2) 0), .bool (lessS (inS d.1) (inS d.2) 1), .bool (lessS (inS d.1) (inS d.2) 2), .bool (lessS (inS d.1) (inS d.2) 3), .bool (lessS (inS d.1) (inS d.2) 4), .bool (lessS (inS d.1) (inS d.2) 5)]) (.agg #[.bool (inS d.1 0), .bool (inS d.1 1), .bool (inS d.1 2), .bool (inS d.1 3), .bool (inS d.1 4), .bool (inS d.1 5)])).run Try.prog w = .ok (.bool (!sameS (lessS (inS d.1) (inS d.2)) (inS d.1))) w := neq_cs (lessS (inS d.1) (inS d.2)) (inS d.1)
      have hgd : Try.prog.eqGuardType Try.prog.depth 107 = false := by kernel_rfl
      have LS : Hid (sameS (lessS (inS d.1) (inS d.2)) (inS d.1) = decide (bothL d.1 d.2 = [])) := less_same HDC.out.1
      clear hB hf hg hbl hcl q0 q1 hp
      cases hs : sameS (lessS (inS d.1) (inS d.2)) (inS d.1)
      · have E2 : Hid (splG cols ps d = false) := by show _ = _; rw [E.out, ← LS.out, hs]
        rw [hs] at EQ
        clear hs
        go_wp2_with fail
        go_region_held3 (fun w' => Below wc.heap.size wc w' ∧ w'.cell? ⟨b, 0, none⟩ = some (.bool (inS d.1 0)) ∧ w'.cell? ⟨b, 1, none⟩ = some (.bool (inS d.1 1)) ∧ w'.cell? ⟨b, 2, none⟩ = some (.bool (inS d.1 2)) ∧ w'.cell? ⟨b, 3, none⟩ = some (.bool (inS d.1 3)) ∧ w'.cell? ⟨b, 4, none⟩ = some (.bool (inS d.1 4)) ∧ w'.cell? ⟨b, 5, none⟩ = some (.bool (inS d.1 5)) ∧ w'.cell? ⟨c, 0, none⟩ = some (.bool (inS d.2 0)) ∧ w'.cell? ⟨c, 1, none⟩ = some (.bool (inS d.2 1)) ∧ w'.cell? ⟨c, 2, none⟩ = some (.bool (inS d.2 2)) ∧ w'.cell? ⟨c, 3, none⟩ = some (.bool (inS d.2 3)) ∧ w'.cell? ⟨c, 4, none⟩ = some (.bool (inS d.2 4)) ∧ w'.cell? ⟨c, 5, none⟩ = some (.bool (inS d.2 5)))
          (first | exact ⟨(Below.refl _ _).drew, x0, x1, x2, x3, x4, x5, z0, z1, z2, z3, z4, z5⟩ | with_reducible exact (fun kb => ⟨kb, Frame.held_cell kb x0, Frame.held_cell kb x1, Frame.held_cell kb x2, Frame.held_cell kb x3, Frame.held_cell kb x4, Frame.held_cell kb x5, Frame.held_cell kb z0, Frame.held_cell kb z1, Frame.held_cell kb z2, Frame.held_cell kb z3, Frame.held_cell kb z4, Frame.held_cell kb z5⟩) (Frame.held_next ‹Below wc.heap.size wc _ ∧ _› hb4) | with_reducible exact ‹Below wc.heap.size wc _ ∧ _›)
          (first | (go_at_call 110; refine (without (inS d.1) (inS d.2) _).mono ?_; rintro e w4 ⟨rfl, hb4⟩; unfold csv))
        all_goals
          have B4 : Hid (Below w.heap.size w w4) := Frame.next BC.out (And.left ‹Below wc.heap.size wc w4 ∧ _›) BC.out.size
          go_wp2
          go_ret3
          exact splR_no E2.out B4.out
      · have E2 : Hid (splG cols ps d = true) := by show _ = _; rw [E.out, ← LS.out, hs]
        rw [hs] at EQ
        clear hs
        go_wp2_with fail
        go_region_held3 (fun w' => Below wc.heap.size wc w' ∧ w'.cell? ⟨b, 0, none⟩ = some (.bool (inS d.1 0)) ∧ w'.cell? ⟨b, 1, none⟩ = some (.bool (inS d.1 1)) ∧ w'.cell? ⟨b, 2, none⟩ = some (.bool (inS d.1 2)) ∧ w'.cell? ⟨b, 3, none⟩ = some (.bool (inS d.1 3)) ∧ w'.cell? ⟨b, 4, none⟩ = some (.bool (inS d.1 4)) ∧ w'.cell? ⟨b, 5, none⟩ = some (.bool (inS d.1 5)) ∧ w'.cell? ⟨c, 0, none⟩ = some (.bool (inS d.2 0)) ∧ w'.cell? ⟨c, 1, none⟩ = some (.bool (inS d.2 1)) ∧ w'.cell? ⟨c, 2, none⟩ = some (.bool (inS d.2 2)) ∧ w'.cell? ⟨c, 3, none⟩ = some (.bool (inS d.2 3)) ∧ w'.cell? ⟨c, 4, none⟩ = some (.bool (inS d.2 4)) ∧ w'.cell? ⟨c, 5, none⟩ = some (.bool (inS d.2 5)))
          (first | exact ⟨(Below.refl _ _).drew, x0, x1, x2, x3, x4, x5, z0, z1, z2, z3, z4, z5⟩ | with_reducible exact (fun kb => ⟨kb, Frame.held_cell kb x0, Frame.held_cell kb x1, Frame.held_cell kb x2, Frame.held_cell kb x3, Frame.held_cell kb x4, Frame.held_cell kb x5, Frame.held_cell kb z0, Frame.held_cell kb z1, Frame.held_cell kb z2, Frame.held_cell kb z3, Frame.held_cell kb z4, Frame.held_cell kb z5⟩) (Frame.held_next ‹Below wc.heap.size wc _ ∧ _› hb4) | with_reducible exact ‹Below wc.heap.size wc _ ∧ _›)
          (first | (go_at_call 110; refine (without (inS d.1) (inS d.2) _).mono ?_; rintro e w4 ⟨rfl, hb4⟩; unfold csv))
        all_goals
          have C4 : Hid (Below wc.heap.size wc w4) := And.left ‹Below wc.heap.size wc w4 ∧ _›
          have y0 : w4.cell? ⟨b, 0, none⟩ = some (.bool (inS d.1 0)) := Frame.held_cell C4.out x0
          have y1 : w4.cell? ⟨b, 1, none⟩ = some (.bool (inS d.1 1)) := Frame.held_cell C4.out x1
          have y2 : w4.cell? ⟨b, 2, none⟩ = some (.bool (inS d.1 2)) := Frame.held_cell C4.out x2
          have y3 : w4.cell? ⟨b, 3, none⟩ = some (.bool (inS d.1 3)) := Frame.held_cell C4.out x3
          have y4 : w4.cell? ⟨b, 4, none⟩ = some (.bool (inS d.1 4)) := Frame.held_cell C4.out x4
          have y5 : w4.cell? ⟨b, 5, none⟩ = some (.bool (inS d.1 5)) := Frame.held_cell C4.out x5
          have v0 : w4.cell? ⟨c, 0, none⟩ = some (.bool (inS d.2 0)) := Frame.held_cell C4.out z0
          have v1 : w4.cell? ⟨c, 1, none⟩ = some (.bool (inS d.2 1)) := Frame.held_cell C4.out z1
          have v2 : w4.cell? ⟨c, 2, none⟩ = some (.bool (inS d.2 2)) := Frame.held_cell C4.out z2
          have v3 : w4.cell? ⟨c, 3, none⟩ = some (.bool (inS d.2 3)) := Frame.held_cell C4.out z3
          have v4 : w4.cell? ⟨c, 4, none⟩ = some (.bool (inS d.2 4)) := Frame.held_cell C4.out z4
          have v5 : w4.cell? ⟨c, 5, none⟩ = some (.bool (inS d.2 5)) := Frame.held_cell C4.out z5
          have B4 : Hid (Below w.heap.size w w4) := Frame.next BC.out C4.out BC.out.size
          have HP4 : Hid (IsRow .i64 w4 za zn zc ps) := IsRow.below HP2.out C4.out
          clear x0 x1 x2 x3 x4 x5 z0 z1 z2 z3 z4 z5 EQ
          clear ‹Below wc.heap.size wc w4 ∧ _›
          go_wp2_with fail
          go_region_held3 (fun w' => Below w4.heap.size w4 w' ∧ w'.cell? ⟨b, 0, none⟩ = some (.bool (inS d.1 0)) ∧ w'.cell? ⟨b, 1, none⟩ = some (.bool (inS d.1 1)) ∧ w'.cell? ⟨b, 2, none⟩ = some (.bool (inS d.1 2)) ∧ w'.cell? ⟨b, 3, none⟩ = some (.bool (inS d.1 3)) ∧ w'.cell? ⟨b, 4, none⟩ = some (.bool (inS d.1 4)) ∧ w'.cell? ⟨b, 5, none⟩ = some (.bool (inS d.1 5)) ∧ w'.cell? ⟨c, 0, none⟩ = some (.bool (inS d.2 0)) ∧ w'.cell? ⟨c, 1, none⟩ = some (.bool (inS d.2 1)) ∧ w'.cell? ⟨c, 2, none⟩ = some (.bool (inS d.2 2)) ∧ w'.cell? ⟨c, 3, none⟩ = some (.bool (inS d.2 3)) ∧ w'.cell? ⟨c, 4, none⟩ = some (.bool (inS d.2 4)) ∧ w'.cell? ⟨c, 5, none⟩ = some (.bool (inS d.2 5)))
            (first | exact ⟨(Below.refl _ _).drew, y0, y1, y2, y3, y4, y5, v0, v1, v2, v3, v4, v5⟩ | with_reducible exact (fun kb => ⟨kb, Frame.held_cell kb y0, Frame.held_cell kb y1, Frame.held_cell kb y2, Frame.held_cell kb y3, Frame.held_cell kb y4, Frame.held_cell kb y5, Frame.held_cell kb v0, Frame.held_cell kb v1, Frame.held_cell kb v2, Frame.held_cell kb v3, Frame.held_cell kb v4, Frame.held_cell kb v5⟩) (Frame.held_next ‹Below w4.heap.size w4 _ ∧ _› hb5) | with_reducible exact (fun kb => ⟨kb, Frame.held_cell kb y0, Frame.held_cell kb y1, Frame.held_cell kb y2, Frame.held_cell kb y3, Frame.held_cell kb y4, Frame.held_cell kb y5, Frame.held_cell kb v0, Frame.held_cell kb v1, Frame.held_cell kb v2, Frame.held_cell kb v3, Frame.held_cell kb v4, Frame.held_cell kb v5⟩) (Frame.held_next ‹Below w4.heap.size w4 _ ∧ _› hb6) | with_reducible exact (fun kb => ⟨kb, Frame.held_cell kb y0, Frame.held_cell kb y1, Frame.held_cell kb y2, Frame.held_cell kb y3, Frame.held_cell kb y4, Frame.held_cell kb y5, Frame.held_cell kb v0, Frame.held_cell kb v1, Frame.held_cell kb v2, Frame.held_cell kb v3, Frame.held_cell kb v4, Frame.held_cell kb v5⟩) (Frame.held_next ‹Below w4.heap.size w4 _ ∧ _› hb7) | with_reducible exact (fun kb => ⟨kb, Frame.held_cell kb y0, Frame.held_cell kb y1, Frame.held_cell kb y2, Frame.held_cell kb y3, Frame.held_cell kb y4, Frame.held_cell kb y5, Frame.held_cell kb v0, Frame.held_cell kb v1, Frame.held_cell kb v2, Frame.held_cell kb v3, Frame.held_cell kb v4, Frame.held_cell kb v5⟩) (Frame.held_next ‹Below w4.heap.size w4 _ ∧ _› hb8) | with_reducible exact (fun kb => ⟨kb, Frame.held_cell kb y0, Frame.held_cell kb y1, Frame.held_cell kb y2, Frame.held_cell kb y3, Frame.held_cell kb y4, Frame.held_cell kb y5, Frame.held_cell kb v0, Frame.held_cell kb v1, Frame.held_cell kb v2, Frame.held_cell kb v3, Frame.held_cell kb v4, Frame.held_cell kb v5⟩) (Frame.held_next ‹Below w4.heap.size w4 _ ∧ _› hb9) | with_reducible exact ‹Below w4.heap.size w4 _ ∧ _›)
            (first | (go_at_call 113; refine (united (inS d.1) (inS d.2) _).mono ?_; rintro e w5 ⟨rfl, hb5⟩; unfold csv) | (go_at_call_has 84 (orS (inS d.1) (inS d.2) 0); refine (listOf (orS (inS d.1) (inS d.2)) _).mono ?_; rintro e w6 ⟨u6, rfl, ho6, hb6⟩; have O6 : Hid (IOwn w6 w.heap.size w6.heap.size u6 (eithL d.1 d.2)) := Krl.iOwn_wide ho6 (Nat.le_trans B4.out.size (And.left ‹Below w4.heap.size w4 _ ∧ _›).size) (Nat.le_refl _); have Z6 : Hid (w.heap.size ≤ w6.heap.size) := Nat.le_trans B4.out.size (Nat.le_trans (And.left ‹Below w4.heap.size w4 _ ∧ _›).size hb6.size); clear ho6) | (go_at_call 83; refine (setOf za zn zc ps _ (IsRow.below HP4.out (And.left ‹Below w4.heap.size w4 _ ∧ _›)) HPC.out).mono ?_; rintro e w7 ⟨rfl, hb7⟩; unfold csv; have O7 : Hid (IOwn w7 w.heap.size w6.heap.size u6 (eithL d.1 d.2)) := iOwn_below O6.out hb7; have Z7 : Hid (w6.heap.size ≤ w7.heap.size) := hb7.size) | (go_at_call 110; refine (without (inS ps) (inS d.2) _).mono ?_; rintro e w8 ⟨rfl, hb8⟩; unfold csv; have O8 : Hid (IOwn w8 w.heap.size w6.heap.size u6 (eithL d.1 d.2)) := iOwn_below O7.out hb8; have Z8 : Hid (w6.heap.size ≤ w8.heap.size) := Nat.le_trans Z7.out hb8.size) | (go_at_call_has 84 (lessS (inS ps) (inS d.2) 0); refine (listOf (lessS (inS ps) (inS d.2)) _).mono ?_; rintro e w9 ⟨u9, rfl, ho9, hb9⟩; rw [HLI.out] at ho9; have O9 : Hid (IOwn w9 w.heap.size w6.heap.size u6 (eithL d.1 d.2)) := iOwn_below O8.out hb9; have P9 : Hid (IOwn w9 w6.heap.size w9.heap.size u9 (lessC ps d.2)) := Krl.iOwn_wide ho9 Z8.out (Nat.le_refl _); have Z9 : Hid (w6.heap.size ≤ w9.heap.size) := Nat.le_trans Z8.out hb9.size; clear ho9))
          all_goals
            have B9 : Hid (Below w.heap.size w w9) := Frame.next B4.out (And.left ‹Below w4.heap.size w4 w9 ∧ _›) B4.out.size
            go_wp2
            go_ret3
            exact ⟨u6, u9, w6.heap.size, by rw [E2.out]; rfl, Z6.out, Z9.out, by rw [(split_yes E2.out).1]; exact O9.out, by rw [(split_yes E2.out).2]; exact P9.out, B9.out⟩


end Go.Proofs.Ythhldnlbneamiaa.Lse
