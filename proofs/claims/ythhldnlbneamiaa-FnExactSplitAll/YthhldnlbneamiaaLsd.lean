/-
  A table split by a sentence, in the model: contract of SplitBy.
-/
import Derived.Test.YthhldnlbneamiaaLsb
import Derived.OwnWalk
namespace Go.Proofs.Ythhldnlbneamiaa.Lsd
open Go.RowKit
open Go.Proofs.Ythhldnlbneamiaa.Frame Go.Proofs.Ythhldnlbneamiaa.Mem Go.Proofs.Ythhldnlbneamiaa.Ints Go.Proofs.Ythhldnlbneamiaa.Kep Go.Proofs.Ythhldnlbneamiaa.Lls Go.Proofs.Ythhldnlbneamiaa.Mis Go.Proofs.Ythhldnlbneamiaa.Dls Go.Proofs.Ythhldnlbneamiaa.Dlk Go.Proofs.Ythhldnlbneamiaa.Csd Go.Proofs.Ythhldnlbneamiaa.Ssc Go.Proofs.Ythhldnlbneamiaa.Spx Go.Proofs.Ythhldnlbneamiaa.Spy Go.Proofs.Ythhldnlbneamiaa.Lsa
open Go.Proofs.Ythhldnlbneamiaa.Rel hiding Ll
open Go.Proofs.Ythhldnlbneamiaa.Cpu hiding Dp

theorem split_is {cols : Int} {ps : List Int} {d : Dp} : splG cols ps d = (closG cols [d] ps && insideB d.1 ps && insideB d.2 ps && decide (bothL d.1 d.2 = [])) := by
  unfold splG partG closG
  cases goodD cols [d] <;> cases riseB 0 (cols - 1) ps <;> cases insideB d.1 ps <;> cases insideB d.2 ps <;> rfl
theorem split_no {cols : Int} {ps : List Int} {d : Dp} (h : splG cols ps d = false) : splA cols ps d = [] ∧ splB cols ps d = [] := by
  unfold splA splB
  rw [h]
  exact ⟨rfl, rfl⟩
theorem split_yes {cols : Int} {ps : List Int} {d : Dp} (h : splG cols ps d = true) : splA cols ps d = eithL d.1 d.2 ∧ splB cols ps d = lessC ps d.2 := by
  unfold splA splB
  rw [h]
  exact ⟨rfl, rfl⟩
/-- What SplitBy tells: two lists of one's own, the one behind the other. -/
def SplR (cols : Int) (ps : List Int) (d : Dp) (w : World) (e : Ending) (w' : World) : Prop := ∃ u1 u2 m, e = .returned (.tuple #[u1, u2, .bool (splG cols ps d)]) ∧ w.heap.size ≤ m ∧ m ≤ w'.heap.size ∧ IOwn w' w.heap.size m u1 (splA cols ps d) ∧ IOwn w' m w'.heap.size u2 (splB cols ps d) ∧ Below w.heap.size w w'
theorem splR_no {cols : Int} {ps : List Int} {d : Dp} {w w' : World} (h : splG cols ps d = false) (hb : Below w.heap.size w w') : SplR cols ps d w (.returned (.tuple #[.slice none 0 0, .slice none 0 0, .bool false])) w' := by
  refine ⟨.slice none 0 0, .slice none 0 0, w.heap.size, by rw [h], Nat.le_refl _, hb.size, ?_, ?_, hb⟩
  · rw [(split_no h).1]; exact iOwn_nil _ _ _
  · rw [(split_no h).2]; exact iOwn_nil _ _ _

set_option maxRecDepth 4000 in
set_option maxHeartbeats 3200000 in
theorem spec_SplitBy (cols : Int) (z u t : Value) (ps : List Int) (d : Dp) (w : World) (hz : IIs w z ps) (hd : EIs w u t d) :
    Calls Try.prog 40 #[.int .i64 cols, z, .agg #[u, t]] w (SplR cols ps d w) := by
  obtain ⟨za, zn, zc, rfl, hzr, hzn⟩ := hz
  obtain ⟨⟨fa, fn, fc, rfl, hf, hfn⟩, ⟨ta, tn, tc, rfl, ht, htn⟩⟩ := hd
  have b0 : Below w.heap.size w (w.alloc (.cells #[.slice fa fn fc, .slice ta tn tc] 26)) := (Below.refl w.heap.size w).alloc (Nat.le_refl _) _
  have b1 : Below w.heap.size w ((w.alloc (.cells #[.slice fa fn fc, .slice ta tn tc] 26)).alloc (.cells #[.slice fa fn fc, .slice ta tn tc] 26)) := b0.alloc (by simp) _
  have hE : EIs ((w.alloc (.cells #[.slice fa fn fc, .slice ta tn tc] 26)).alloc (.cells #[.slice fa fn fc, .slice ta tn tc] 26)) (.slice fa fn fc) (.slice ta tn tc) d := ⟨⟨_, _, _, rfl, IsRow.below hf b1, hfn⟩, ⟨_, _, _, rfl, IsRow.below ht b1, htn⟩⟩
  have hs1 : (w.alloc (.cells #[.slice fa fn fc, .slice ta tn tc] 26)).heap.size = w.heap.size + 1 := by simp
  have k0 := cells_one (w.alloc (.cells #[.slice fa fn fc, .slice ta tn tc] 26)) (.slice fa fn fc) (.slice ta tn tc) 26
  rw [hs1] at k0
  have b2 : Below (w.alloc (.cells #[.slice fa fn fc, .slice ta tn tc] 26)).heap.size (w.alloc (.cells #[.slice fa fn fc, .slice ta tn tc] 26)) ((w.alloc (.cells #[.slice fa fn fc, .slice ta tn tc] 26)).alloc (.cells #[.slice fa fn fc, .slice ta tn tc] 26)) := (Below.refl _ _).alloc (Nat.le_refl _) _
  have p0 := Frame.held_cell b2 (cells_one w (.slice fa fn fc) (.slice ta tn tc) 26).1
  have p1 := Frame.held_cell b2 (cells_one w (.slice fa fn fc) (.slice ta tn tc) 26).2
  have hG := one_isG hE (show w.heap.size + 1 < _ by simp) k0.1 k0.2
  have hP := IsRow.below hzr b1
  have HRN : Hid (∀ r ∈ ([⟨fa, fn, fc, d.1⟩, ⟨ta, tn, tc, d.2⟩] : List LV), r.n ≤ 1048576) := fun r hr => by
    rcases List.mem_cons.1 hr with rfl | hr
    · exact hfn
    · rw [List.mem_singleton.1 hr]; exact htn
  have HDE : Hid (dpl [⟨fa, fn, fc, d.1⟩, ⟨ta, tn, tc, d.2⟩] = [d]) := rfl
  have SE : Hid (splG cols ps d = (closG cols [d] ps && insideB d.1 ps && insideB d.2 ps && decide (bothL d.1 d.2 = []))) := split_is
  clear b0 b2 hs1 k0 hf ht hzr
  go_enter Try.func40, Try.ntmps40
  go_wp2_with fail
  generalize ((w.alloc (.cells #[.slice fa fn fc, .slice ta tn tc] 26)).alloc (.cells #[.slice fa fn fc, .slice ta tn tc] 26)) = V at b1 hE p0 p1 hG hP ⊢
  have B0 : Hid (Below w.heap.size w V) := b1
  obtain ⟨⟨_, _, _, ef, hrf, _⟩, ⟨_, _, _, et, hrt, _⟩⟩ := hE
  cases ef
  cases et
  have HG : Hid (IsG V (some ⟨w.heap.size + 1, 0, none⟩) 1 1 [⟨fa, fn, fc, d.1⟩, ⟨ta, tn, tc, d.2⟩]) := hG
  have HF : Hid (IsRow .i64 V fa fn fc d.1) := hrf
  have HT : Hid (IsRow .i64 V ta tn tc d.2) := hrt
  have HP : Hid (IsRow .i64 V za zn zc ps) := hP
  clear b1 hrf hrt hG hP
  refine (l6PartG cols _ 1 1 _ za zn zc ps _ HG.out (by omega) HRN.out HP.out).mono ?_
  rintro e w1 ⟨rfl, hb1⟩
  rw [HDE.out]
  have B1 : Hid (Below w.heap.size w w1) := Frame.next B0.out hb1 B0.out.size
  have C1 : Hid (Below V.heap.size V w1) := hb1
  have q0 : w1.cell? ⟨w.heap.size, 0, none⟩ = some (.slice fa fn fc) := Frame.held_cell hb1 p0
  have q1 : w1.cell? ⟨w.heap.size, 1, none⟩ = some (.slice ta tn tc) := Frame.held_cell hb1 p1
  clear hb1 p0 p1
  cases hG : closG cols [d] ps
  · have E : Hid (splG cols ps d = false) := by show _ = _; rw [SE.out, hG]; rfl
    clear hG
    go_wp2
    go_ret3
    exact splR_no E.out B1.out
  · have HGD : Hid (closG cols [d] ps = true) := hG
    have RF : Hid (IsRow .i64 w1 fa fn fc d.1) := IsRow.below HF.out C1.out
    have RT : Hid (IsRow .i64 w1 ta tn tc d.2) := IsRow.below HT.out C1.out
    have RP : Hid (IsRow .i64 w1 za zn zc ps) := IsRow.below HP.out C1.out
    clear hG
    go_wp2_with fail
    refine (l5Sub _ _ _ _ _ _ d.1 ps _ RF.out RP.out).mono ?_
    rintro e w3 ⟨rfl, hww⟩
    obtain rfl := hww.symm
    clear hww
    cases hI : insideB d.1 ps
    · have E : Hid (splG cols ps d = false) := by show _ = _; rw [SE.out, hI, Bool.and_false]; rfl
      clear hI
      go_wp2
      go_ret3
      exact splR_no E.out B1.out
    · have HI : Hid (insideB d.1 ps = true) := hI
      clear hI
      go_wp2_with fail
      refine (l5Sub _ _ _ _ _ _ d.2 ps _ RT.out RP.out).mono ?_
      rintro e w4 ⟨rfl, hww⟩
      obtain rfl := hww.symm
      clear hww
      cases hJ : insideB d.2 ps
      · have E : Hid (splG cols ps d = false) := by show _ = _; rw [SE.out, hJ, Bool.and_false]; rfl
        clear hJ
        go_wp2
        go_ret3
        exact splR_no E.out B1.out
      · have SF : Hid (splG cols ps d = decide (bothL d.1 d.2 = [])) := by show _ = _; rw [SE.out, HGD.out, HI.out, hJ]; rfl
        have hgd : goodD cols [d] = true := by have h := HGD.out; unfold closG at h; rw [Bool.and_eq_true] at h; exact h.1
        have hdb := (cols_of hgd).2.2.2.2 d (List.mem_singleton.2 rfl)
        have HDC : Hid (InC d.1 ∧ InC d.2) := depB_cols hdb (cols_of hgd).2.2.1
        have HU : Hid (UpN d.1) := by have h := hdb; unfold depB at h; rw [Bool.and_eq_true, rise_iff] at h; exact h.1.2
        clear hJ hgd hdb
        go_wp2_with fail
        refine (l6Both fa ta fn tn fc tc d.1 d.2 _ RF.out RT.out hfn).mono ?_
        rintro e w5 ⟨u5, rfl, ho5, hb5⟩
        obtain ⟨a5, n5, c5, rfl, hr5, hn5⟩ := iOwn_is ho5
        have HL5 : Hid ((bothL d.1 d.2).length = n5) := hr5.len
        have B5 : Hid (Below w.heap.size w w5) := Frame.next B1.out hb5 B1.out.size
        have r0 : w5.cell? ⟨w.heap.size, 0, none⟩ = some (.slice fa fn fc) := Frame.held_cell hb5 q0
        have r1 : w5.cell? ⟨w.heap.size, 1, none⟩ = some (.slice ta tn tc) := Frame.held_cell hb5 q1
        have SFF : Hid (IsRow .i64 w5 fa fn fc d.1) := IsRow.below RF.out hb5
        have ST : Hid (IsRow .i64 w5 ta tn tc d.2) := IsRow.below RT.out hb5
        have SP : Hid (IsRow .i64 w5 za zn zc ps) := IsRow.below RP.out hb5
        clear ho5 hr5 hb5 q0 q1
        by_cases h0 : 0 < n5
        · have E : Hid (splG cols ps d = false) := by show _ = _; rw [SF.out]; exact decide_eq_false (fun h => by have := HL5.out; rw [h] at this; simp at this; omega)
          have h0' : (0 : Int) < (n5 : Int) := by omega
          go_wp2
          go_ret3
          exact splR_no E.out B5.out
        · have E : Hid (splG cols ps d = true) := by show _ = _; rw [SF.out]; exact decide_eq_true (List.eq_nil_of_length_eq_zero (by have := HL5.out; omega))
          obtain rfl : n5 = 0 := by omega
          clear h0
          go_wp2_with fail
          go_region_held3 (fun w' => Below w5.heap.size w5 w' ∧ w'.cell? ⟨w.heap.size, 0, none⟩ = some (.slice fa fn fc) ∧ w'.cell? ⟨w.heap.size, 1, none⟩ = some (.slice ta tn tc))
            (first | exact ⟨(Below.refl _ _).drew, r0, r1⟩ | with_reducible exact (fun kb => ⟨kb, Frame.held_cell kb r0, Frame.held_cell kb r1⟩) (Frame.held_next ‹Below w5.heap.size w5 _ ∧ _› hb6) | with_reducible exact (fun kb => ⟨kb, Frame.held_cell kb r0, Frame.held_cell kb r1⟩) (Frame.held_next ‹Below w5.heap.size w5 _ ∧ _› hb7) | with_reducible exact ‹Below w5.heap.size w5 _ ∧ _›)
            (first | (go_at_call 107; refine (l6Either fa ta fn tn fc tc d.1 d.2 _ ?_ ?_ HU.out HDC.out.1 HDC.out.2 htn).mono ?_; exact IsRow.below SFF.out (And.left ‹Below w5.heap.size w5 _ ∧ _›); exact IsRow.below ST.out (And.left ‹Below w5.heap.size w5 _ ∧ _›); rintro e w6 ⟨u6, rfl, ho6, hb6⟩; have O6 : Hid (IOwn w6 w.heap.size w6.heap.size u6 (eithL d.1 d.2)) := Krl.iOwn_wide ho6 (Nat.le_trans B5.out.size (And.left ‹Below w5.heap.size w5 _ ∧ _›).size) (Nat.le_refl _); have Z6 : Hid (w.heap.size ≤ w6.heap.size) := Nat.le_trans B5.out.size (Nat.le_trans (And.left ‹Below w5.heap.size w5 _ ∧ _›).size hb6.size); clear ho6) | (go_at_call 108; refine (l6Less za ta zn tn zc tc ps d.2 _ ?_ ?_ hzn).mono ?_; exact IsRow.below SP.out (And.left ‹Below w5.heap.size w5 _ ∧ _›); exact IsRow.below ST.out (And.left ‹Below w5.heap.size w5 _ ∧ _›); rintro e w7 ⟨u7, rfl, ho7, hb7⟩; have O7 : Hid (IOwn w7 w6.heap.size w7.heap.size u7 (lessC ps d.2)) := ho7; have P6 : Hid (IOwn w7 w.heap.size w6.heap.size u6 (eithL d.1 d.2)) := iOwn_below O6.out hb7; have Z7 : Hid (w6.heap.size ≤ w7.heap.size) := hb7.size; clear ho7))
          all_goals
            have B7 : Hid (Below w.heap.size w w7) := Frame.next B5.out (And.left ‹Below w5.heap.size w5 w7 ∧ _›) B5.out.size
            go_wp2
            go_ret3
            exact ⟨u6, u7, w6.heap.size, by rw [E.out]; rfl, Z6.out, Z7.out, by rw [(split_yes E.out).1]; exact P6.out, by rw [(split_yes E.out).2]; exact O7.out, B7.out⟩


end Go.Proofs.Ythhldnlbneamiaa.Lsd
