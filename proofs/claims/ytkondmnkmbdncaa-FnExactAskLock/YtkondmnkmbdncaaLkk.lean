/-
  Contract of the model's l8Own.
-/
import Derived.Test.YtkondmnkmbdncaaLkj
import Derived.Deep.RegionHeld
namespace Go.Proofs.Ytkondmnkmbdncaa.Lkk
open Go.RowKit
open Go.Proofs.Ytkondmnkmbdncaa.Frame Go.Proofs.Ytkondmnkmbdncaa.Mem Go.Proofs.Ytkondmnkmbdncaa.Kep Go.Proofs.Ytkondmnkmbdncaa.Lls Go.Proofs.Ytkondmnkmbdncaa.Knl Go.Proofs.Ytkondmnkmbdncaa.Mis Go.Proofs.Ytkondmnkmbdncaa.Kpi Go.Proofs.Ytkondmnkmbdncaa.Lkp Go.Proofs.Ytkondmnkmbdncaa.Lka Go.Proofs.Ytkondmnkmbdncaa.Lkb Go.Proofs.Ytkondmnkmbdncaa.Lkg Go.Proofs.Ytkondmnkmbdncaa.Lkh Go.Proofs.Ytkondmnkmbdncaa.Lki Go.Proofs.Ytkondmnkmbdncaa.Lkj Go.Proofs.Ytkondmnkmbdncaa.Lks
open Go.Proofs.Ytkondmnkmbdncaa.SLocks (D SIs SOwn)

structure L7 (F M : World → Option Addr → Nat → Option Addr → Nat → Nat → Nat → Nat → Prop) : Prop where
  out : ∀ W a b c d e f g, F W a b c d e f g → M W a b c d e f g
theorem later7 {G : Prop} (F : World → Option Addr → Nat → Option Addr → Nat → Nat → Nat → Nat → Prop) {M : World → Option Addr → Nat → Option Addr → Nat → Nat → Nat → Nat → Prop} (k : L7 F M → G) (pf : ∀ W a b c d e f g, F W a b c d e f g → M W a b c d e f g) : G := k ⟨pf⟩

set_option maxRecDepth 8000 in
set_option maxHeartbeats 3200000 in
theorem spec_Own (a0 a1 a2 : Option Addr) (c0 c1 n2 c2 : Nat) (d : D) (w : World) (h : SIs w (.slice a0 4 c0) (.slice a1 4 c1) (.slice a2 n2 c2) d) (hr : ∀ k, k < 4 → (d.1.getD k []).length ≤ 100) (hn2 : n2 ≤ 100) :
    Calls Try.prog 69 #[.agg #[.slice a0 4 c0, .slice a1 4 c1, .slice a2 n2 c2]] w fun e w' => ∃ g0 k0 rs g1 k1 b2 k2, e = .returned (.agg #[.slice (some ⟨g0, 0, none⟩) 4 k0, .slice (some ⟨g1, 0, none⟩) 4 k1, .slice b2 n2 k2]) ∧ lplain rs = d.1 ∧ OwnK (w.heap.size + 2) w' g0 k0 rs g1 k1 d.2.1 b2 n2 k2 d.2.2 ∧ Below w.heap.size w w' := by
  obtain ⟨i0, hi, hz0, hz1, hz2⟩ := info_parts Ints.info
  obtain ⟨i1, hj, hy0, hy1, hy2⟩ := info_parts Lls.infoL
  have HS : Hid (SIs w (.slice a0 4 c0) (.slice a1 4 c1) (.slice a2 n2 c2) d) := h
  have L0 : Hid (d.1.length = 4) := (row_at h.1).1
  have HR4 : Hid (∀ k, k < 4 → (d.1.getD k []).length ≤ 100) := hr
  obtain ⟨b0, o0, _, _, _, rfl, hlb0, _⟩ := (row_at h.1).2 0 (by omega)
  have BP : Hid (Below w.heap.size w ((w.alloc (.cells #[.slice (some ⟨b0, o0, none⟩) 4 c0, .slice a1 4 c1, .slice a2 n2 c2] 26)).alloc (.cells #[.slice none 0 0, .slice none 0 0, .slice none 0 0] 26))) := ((Below.refl _ _).alloc (Nat.le_refl _) _).alloc (by simp) _
  have HZ : Hid (((w.alloc (.cells #[.slice (some ⟨b0, o0, none⟩) 4 c0, .slice a1 4 c1, .slice a2 n2 c2] 26)).alloc (.cells #[.slice none 0 0, .slice none 0 0, .slice none 0 0] 26)).heap.size = w.heap.size + 2) := by show _ = _; simp
  have KP : Hid (((w.alloc (.cells #[.slice (some ⟨b0, o0, none⟩) 4 c0, .slice a1 4 c1, .slice a2 n2 c2] 26)).alloc (.cells #[.slice none 0 0, .slice none 0 0, .slice none 0 0] 26)).cell? ⟨w.heap.size, 0, none⟩ = some (.slice (some ⟨b0, o0, none⟩) 4 c0) ∧ ((w.alloc (.cells #[.slice (some ⟨b0, o0, none⟩) 4 c0, .slice a1 4 c1, .slice a2 n2 c2] 26)).alloc (.cells #[.slice none 0 0, .slice none 0 0, .slice none 0 0] 26)).cell? ⟨w.heap.size, 1, none⟩ = some (.slice a1 4 c1) ∧ ((w.alloc (.cells #[.slice (some ⟨b0, o0, none⟩) 4 c0, .slice a1 4 c1, .slice a2 n2 c2] 26)).alloc (.cells #[.slice none 0 0, .slice none 0 0, .slice none 0 0] 26)).cell? ⟨w.heap.size, 2, none⟩ = some (.slice a2 n2 c2)) := by show _ ∧ _; refine ⟨?_, ?_, ?_⟩ <;> go_simp
  have KR : Hid (((w.alloc (.cells #[.slice (some ⟨b0, o0, none⟩) 4 c0, .slice a1 4 c1, .slice a2 n2 c2] 26)).alloc (.cells #[.slice none 0 0, .slice none 0 0, .slice none 0 0] 26)).cell? ⟨w.heap.size + 1, 0, none⟩ = some (.slice none 0 0) ∧ ((w.alloc (.cells #[.slice (some ⟨b0, o0, none⟩) 4 c0, .slice a1 4 c1, .slice a2 n2 c2] 26)).alloc (.cells #[.slice none 0 0, .slice none 0 0, .slice none 0 0] 26)).cell? ⟨w.heap.size + 1, 1, none⟩ = some (.slice none 0 0) ∧ ((w.alloc (.cells #[.slice (some ⟨b0, o0, none⟩) 4 c0, .slice a1 4 c1, .slice a2 n2 c2] 26)).alloc (.cells #[.slice none 0 0, .slice none 0 0, .slice none 0 0] 26)).cell? ⟨w.heap.size + 1, 2, none⟩ = some (.slice none 0 0) ∧ ((w.alloc (.cells #[.slice (some ⟨b0, o0, none⟩) 4 c0, .slice a1 4 c1, .slice a2 n2 c2] 26)).alloc (.cells #[.slice none 0 0, .slice none 0 0, .slice none 0 0] 26)).frozen? ⟨w.heap.size + 1, 0, none⟩ = false ∧ ((w.alloc (.cells #[.slice (some ⟨b0, o0, none⟩) 4 c0, .slice a1 4 c1, .slice a2 n2 c2] 26)).alloc (.cells #[.slice none 0 0, .slice none 0 0, .slice none 0 0] 26)).frozen? ⟨w.heap.size + 1, 1, none⟩ = false ∧ ((w.alloc (.cells #[.slice (some ⟨b0, o0, none⟩) 4 c0, .slice a1 4 c1, .slice a2 n2 c2] 26)).alloc (.cells #[.slice none 0 0, .slice none 0 0, .slice none 0 0] 26)).frozen? ⟨w.heap.size + 1, 2, none⟩ = false) := by show _ ∧ _; refine ⟨?_, ?_, ?_, ?_, ?_, ?_⟩ <;> go_simp
  clear h hr
  go_enter Try.func69, Try.ntmps69
  go_wp2_with fail
  generalize ((w.alloc (.cells #[.slice (some ⟨b0, o0, none⟩) 4 c0, .slice a1 4 c1, .slice a2 n2 c2] 26)).alloc (.cells #[.slice none 0 0, .slice none 0 0, .slice none 0 0] 26)) = P at BP HZ KP KR ⊢
  have R1 : Hid (IsRow .i64 P a1 4 c1 d.2.1) := (num_at (iIs_below HS.out.2.1 BP.out)).1
  have R2 : Hid (IsRow .i64 P a2 n2 c2 d.2.2) := (num_at (iIs_below HS.out.2.2 BP.out)).1
  have STs : Hid (St P P.drew (w.heap.size + 2) none 0 0 [] none 0 0 [] none) := St.start P _ HZ.out.symm
  have SKs : Hid (P.drew.cell? ⟨w.heap.size, 1, none⟩ = some (.slice a1 4 c1) ∧ P.drew.cell? ⟨w.heap.size, 2, none⟩ = some (.slice a2 n2 c2)) := ⟨Frame.held_cell STs.out.below KP.out.2.1, Frame.held_cell STs.out.below KP.out.2.2⟩
  apply later7 (fun W a k b l e _ _ => New2 P W (w.heap.size + 2) a 4 k d.2.1 b n2 l d.2.2 e)
  · intro HL
    refine wp_region_held_drew (S := fun w' => w'.cell? ⟨w.heap.size, 1, none⟩ = some (.slice a1 4 c1) ∧ w'.cell? ⟨w.heap.size, 2, none⟩ = some (.slice a2 n2 c2)) (by kernel_rfl) ?_ (fun hHeld => ?_)
    · exact SKs.out
    refine wpAnyH_take (i := 1) (v := (.pointer (some ⟨w.heap.size, 1, none⟩))) rfl (by kernel_rfl) (by kernel_rfl) (by kernel_rfl) (fun _ _ _ h => h) (Or.inl ⟨by rfl, ?_⟩) (by assumption) ?_
    · intro w hSw; (try dsimp only at hSw); go_simp
    (try show wpAnyH _ _ _ _ _ _ _ (Act.put _ (some 7) _) _); (try simp only [Act.put, List.setIfInBounds_toArray, List.set_cons_zero, List.set_cons_succ])
    refine wpAnyH_take (i := 2) (v := (.slice a1 4 c1)) rfl (by kernel_rfl) (by kernel_rfl) (by kernel_rfl) (fun _ _ _ h => h) (Or.inl ⟨by rfl, ?_⟩) (by assumption) ?_
    · intro w hSw; (try dsimp only at hSw); go_simp
    (try show wpAnyH _ _ _ _ _ _ _ (Act.put _ (some 8) _) _); (try simp only [Act.put, List.setIfInBounds_toArray, List.set_cons_zero, List.set_cons_succ])
    refine wpAnyH_take (i := 5) (v := (.pointer (some ⟨w.heap.size, 2, none⟩))) rfl (by kernel_rfl) (by kernel_rfl) (by kernel_rfl) (fun _ _ _ h => h) (Or.inl ⟨by rfl, ?_⟩) (by assumption) ?_
    · intro w hSw; (try dsimp only at hSw); go_simp
    (try show wpAnyH _ _ _ _ _ _ _ (Act.put _ (some 11) _) _); (try simp only [Act.put, List.setIfInBounds_toArray, List.set_cons_zero, List.set_cons_succ])
    refine wpAnyH_take (i := 6) (v := (.slice a2 n2 c2)) rfl (by kernel_rfl) (by kernel_rfl) (by kernel_rfl) (fun _ _ _ h => h) (Or.inl ⟨by rfl, ?_⟩) (by assumption) ?_
    · intro w hSw; (try dsimp only at hSw); go_simp
    (try show wpAnyH _ _ _ _ _ _ _ (Act.put _ (some 12) _) _); (try simp only [Act.put, List.setIfInBounds_toArray, List.set_cons_zero, List.set_cons_succ])
    refine wpAnyH_ready (rs := [0, 4, 9]) (by kernel_rfl) (by simp) ?_
    refine (AllReadyH.cons rfl (fun K hK => ?_) (AllReadyH.cons rfl (fun K hK => ?_) (AllReadyH.cons rfl (fun K hK => ?_) AllReadyH.nil)))
    · refine step_empty _ (by rfl) (by rfl) ?_
      intro V0_ hO hB hS
      have ST0_ : Hid (St P V0_ (w.heap.size + 2) (some ⟨P.drew.heap.size, 0, none⟩) 0 0 [] none 0 0 [] none ) := STs.out.newx hO hB
      have SK0_ : Hid (V0_.cell? ⟨w.heap.size, 1, none⟩ = some (.slice a1 4 c1) ∧ V0_.cell? ⟨w.heap.size, 2, none⟩ = some (.slice a2 n2 c2)) := ⟨Frame.held_cell ST0_.out.below KP.out.2.1, Frame.held_cell ST0_.out.below KP.out.2.2⟩
      clear hO hB hS
      refine hK.out _ _ ?_ (fun hHeld => ?_)
      · exact SK0_.out
      clear hK K
      (try show wpAnyH _ _ _ _ _ _ _ (Act.put _ (some 6) _) _); (try simp only [Act.put, List.setIfInBounds_toArray, List.set_cons_zero, List.set_cons_succ])
      refine wpAnyH_ready (rs := [3, 4, 9]) (by kernel_rfl) (by simp) ?_
      refine (AllReadyH.cons rfl (fun K hK => ?_) (AllReadyH.cons rfl (fun K hK => ?_) (AllReadyH.cons rfl (fun K hK => ?_) AllReadyH.nil)))
      · refine step_int _ (by rfl) _ _ (by rfl) (w.heap.size + 2) (P.drew.heap.size) a1 4 c1 d.2.1 (by rfl) (by rfl) (by exact ST0_.out.ox) (by exact IsRow.below R1.out ST0_.out.below) (by omega) ?_
        intro ax kx V0_3_ hA
        have ST0_3_ : Hid (St P V0_3_ (w.heap.size + 2) ax 4 kx d.2.1 none 0 0 [] none ) := ST0_.out.appx hA
        have SK0_3_ : Hid (V0_3_.cell? ⟨w.heap.size, 1, none⟩ = some (.slice a1 4 c1) ∧ V0_3_.cell? ⟨w.heap.size, 2, none⟩ = some (.slice a2 n2 c2)) := ⟨Frame.held_cell ST0_3_.out.below KP.out.2.1, Frame.held_cell ST0_3_.out.below KP.out.2.2⟩
        clear hA
        refine hK.out _ _ ?_ (fun hHeld => ?_)
        · exact SK0_3_.out
        clear hK K
        (try show wpAnyH _ _ _ _ _ _ _ (Act.put _ (some 9) _) _); (try simp only [Act.put, List.setIfInBounds_toArray, List.set_cons_zero, List.set_cons_succ])
        refine wpAnyH_ready (rs := [4, 9]) (by kernel_rfl) (by simp) ?_
        refine (AllReadyH.cons rfl (fun K hK => ?_) (AllReadyH.cons rfl (fun K hK => ?_) AllReadyH.nil))
        · refine step_empty _ (by rfl) (by rfl) ?_
          intro V0_3_4_ hO hB hS
          have ST0_3_4_ : Hid (St P V0_3_4_ (w.heap.size + 2) ax 4 kx d.2.1 (some ⟨V0_3_.heap.size, 0, none⟩) 0 0 [] none ) := ST0_3_.out.newy hO hB
          have SK0_3_4_ : Hid (V0_3_4_.cell? ⟨w.heap.size, 1, none⟩ = some (.slice a1 4 c1) ∧ V0_3_4_.cell? ⟨w.heap.size, 2, none⟩ = some (.slice a2 n2 c2)) := ⟨Frame.held_cell ST0_3_4_.out.below KP.out.2.1, Frame.held_cell ST0_3_4_.out.below KP.out.2.2⟩
          clear hO hB hS
          refine hK.out _ _ ?_ (fun hHeld => ?_)
          · exact SK0_3_4_.out
          clear hK K
          (try show wpAnyH _ _ _ _ _ _ _ (Act.put _ (some 10) _) _); (try simp only [Act.put, List.setIfInBounds_toArray, List.set_cons_zero, List.set_cons_succ])
          refine wpAnyH_ready (rs := [7, 9]) (by kernel_rfl) (by simp) ?_
          refine (AllReadyH.cons rfl (fun K hK => ?_) (AllReadyH.cons rfl (fun K hK => ?_) AllReadyH.nil))
          · refine step_int _ (by rfl) _ _ (by rfl) (w.heap.size + 2) (V0_3_.heap.size) a2 n2 c2 d.2.2 (by rfl) (by rfl) (by exact ST0_3_4_.out.oy) (by exact IsRow.below R2.out ST0_3_4_.out.below) (by omega) ?_
            intro ay ky V0_3_4_7_ hA
            have ST0_3_4_7_ : Hid (St P V0_3_4_7_ (w.heap.size + 2) ax 4 kx d.2.1 ay n2 ky d.2.2 none ) := ST0_3_4_.out.appy hA
            have SK0_3_4_7_ : Hid (V0_3_4_7_.cell? ⟨w.heap.size, 1, none⟩ = some (.slice a1 4 c1) ∧ V0_3_4_7_.cell? ⟨w.heap.size, 2, none⟩ = some (.slice a2 n2 c2)) := ⟨Frame.held_cell ST0_3_4_7_.out.below KP.out.2.1, Frame.held_cell ST0_3_4_7_.out.below KP.out.2.2⟩
            clear hA
            refine hK.out _ _ ?_ (fun hHeld => ?_)
            · exact SK0_3_4_7_.out
            clear hK K
            (try show wpAnyH _ _ _ _ _ _ _ (Act.put _ (some 13) _) _); (try simp only [Act.put, List.setIfInBounds_toArray, List.set_cons_zero, List.set_cons_succ])
            refine wpAnyH_take (i := 8) (v := (.agg #[.slice none 0 0, .slice ax 4 kx, .slice ay n2 ky])) rfl (by kernel_rfl) (by kernel_rfl) (by kernel_rfl) (fun _ _ _ h => h) (Or.inl ⟨by rfl, ?_⟩) (by assumption) ?_
            · intro w hSw; (try dsimp only at hSw); go_simp
            (try show wpAnyH _ _ _ _ _ _ _ (Act.put _ (some 14) _) _); (try simp only [Act.put, List.setIfInBounds_toArray, List.set_cons_zero, List.set_cons_succ])
            refine wpAnyH_ready (rs := [9]) (by kernel_rfl) (by simp) ?_
            refine AllReadyH.cons rfl (fun K hK => ?_) AllReadyH.nil
            refine step_box _ (by rfl) (by rfl) ?_
            intro V0_3_4_7_9_ hO hB hS
            have ST0_3_4_7_9_ : Hid (St P V0_3_4_7_9_ (w.heap.size + 2) ax 4 kx d.2.1 ay n2 ky d.2.2 (some ⟨V0_3_4_7_.heap.size, 0, none⟩) ) := ST0_3_4_7_.out.newb hO hB
            have SK0_3_4_7_9_ : Hid (V0_3_4_7_9_.cell? ⟨w.heap.size, 1, none⟩ = some (.slice a1 4 c1) ∧ V0_3_4_7_9_.cell? ⟨w.heap.size, 2, none⟩ = some (.slice a2 n2 c2)) := ⟨Frame.held_cell ST0_3_4_7_9_.out.below KP.out.2.1, Frame.held_cell ST0_3_4_7_9_.out.below KP.out.2.2⟩
            clear hO hB hS
            refine hK.out _ _ ?_ (fun hHeld => ?_)
            · exact SK0_3_4_7_9_.out
            clear hK K
            (try show wpAnyH _ _ _ _ _ _ _ (Act.put _ (some 3) _) _); (try simp only [Act.put, List.setIfInBounds_toArray, List.set_cons_zero, List.set_cons_succ])
            refine wpAnyH_ready (rs := [10]) (by kernel_rfl) (by simp) ?_
            refine AllReadyH.cons rfl (fun K hK => ?_) AllReadyH.nil
            have NB : V0_3_4_7_.heap.size ≠ w.heap.size := by have h : w.heap.size + 2 ≤ V0_3_4_7_.heap.size := (ST0_3_4_7_9_.out.bx _ rfl).1; omega
            have BX : Box V0_3_4_7_9_ (V0_3_4_7_.heap.size) NV NV NV := (ST0_3_4_7_9_.out.bx _ rfl).2
            obtain ⟨e0, e1, e2, e3, e4, e5⟩ := BX
            have SKF : Hid ((((V0_3_4_7_9_.setCell ⟨V0_3_4_7_.heap.size, 0, none⟩ (.slice none 0 0)).setCell ⟨V0_3_4_7_.heap.size, 1, none⟩ (.slice ax 4 kx)).setCell ⟨V0_3_4_7_.heap.size, 2, none⟩ (.slice ay n2 ky)).cell? ⟨w.heap.size, 1, none⟩ = some (.slice a1 4 c1) ∧ (((V0_3_4_7_9_.setCell ⟨V0_3_4_7_.heap.size, 0, none⟩ (.slice none 0 0)).setCell ⟨V0_3_4_7_.heap.size, 1, none⟩ (.slice ax 4 kx)).setCell ⟨V0_3_4_7_.heap.size, 2, none⟩ (.slice ay n2 ky)).cell? ⟨w.heap.size, 2, none⟩ = some (.slice a2 n2 c2)) := ⟨set_cell NB (set_cell NB (set_cell NB SK0_3_4_7_9_.out.1)), set_cell NB (set_cell NB (set_cell NB SK0_3_4_7_9_.out.2))⟩
            go_simp
            clear e0 e1 e2 e3 e4 e5 NB
            refine hK.out _ _ ?_ (fun hHeld => ?_)
            · exact SKF.out
            clear hK K
            (try simp only [Act.put, List.setIfInBounds_toArray, List.set_cons_zero, List.set_cons_succ])
            refine wpAnyH_done (by kernel_rfl) ?_ _
            have FF : New2 P (((V0_3_4_7_9_.setCell ⟨V0_3_4_7_.heap.size, 0, none⟩ (.slice none 0 0)).setCell ⟨V0_3_4_7_.heap.size, 1, none⟩ (.slice ax 4 kx)).setCell ⟨V0_3_4_7_.heap.size, 2, none⟩ (.slice ay n2 ky)) (w.heap.size + 2) ax 4 kx d.2.1 ay n2 ky d.2.2 (V0_3_4_7_.heap.size) := ST0_3_4_7_9_.out.fin
            generalize hW : (((V0_3_4_7_9_.setCell ⟨V0_3_4_7_.heap.size, 0, none⟩ (.slice none 0 0)).setCell ⟨V0_3_4_7_.heap.size, 1, none⟩ (.slice ax 4 kx)).setCell ⟨V0_3_4_7_.heap.size, 2, none⟩ (.slice ay n2 ky)) = WW at FF ⊢
            generalize V0_3_4_7_.heap.size = bb at FF ⊢
            generalize P.heap.size = xb
            generalize V0_3_.heap.size = yb
            exact HL.out WW ax kx ay ky bb xb yb FF
          · refine step_box _ (by rfl) (by rfl) ?_
            intro V0_3_4_9_ hO hB hS
            have ST0_3_4_9_ : Hid (St P V0_3_4_9_ (w.heap.size + 2) ax 4 kx d.2.1 (some ⟨V0_3_.heap.size, 0, none⟩) 0 0 [] (some ⟨V0_3_4_.heap.size, 0, none⟩) ) := ST0_3_4_.out.newb hO hB
            have SK0_3_4_9_ : Hid (V0_3_4_9_.cell? ⟨w.heap.size, 1, none⟩ = some (.slice a1 4 c1) ∧ V0_3_4_9_.cell? ⟨w.heap.size, 2, none⟩ = some (.slice a2 n2 c2)) := ⟨Frame.held_cell ST0_3_4_9_.out.below KP.out.2.1, Frame.held_cell ST0_3_4_9_.out.below KP.out.2.2⟩
            clear hO hB hS
            refine hK.out _ _ ?_ (fun hHeld => ?_)
            · exact SK0_3_4_9_.out
            clear hK K
            (try show wpAnyH _ _ _ _ _ _ _ (Act.put _ (some 3) _) _); (try simp only [Act.put, List.setIfInBounds_toArray, List.set_cons_zero, List.set_cons_succ])
            refine wpAnyH_ready (rs := [7]) (by kernel_rfl) (by simp) ?_
            refine AllReadyH.cons rfl (fun K hK => ?_) AllReadyH.nil
            refine step_int _ (by rfl) _ _ (by rfl) (w.heap.size + 2) (V0_3_.heap.size) a2 n2 c2 d.2.2 (by rfl) (by rfl) (by exact ST0_3_4_9_.out.oy) (by exact IsRow.below R2.out ST0_3_4_9_.out.below) (by omega) ?_
            intro ay ky V0_3_4_9_7_ hA
            have ST0_3_4_9_7_ : Hid (St P V0_3_4_9_7_ (w.heap.size + 2) ax 4 kx d.2.1 ay n2 ky d.2.2 (some ⟨V0_3_4_.heap.size, 0, none⟩) ) := ST0_3_4_9_.out.appy hA
            have SK0_3_4_9_7_ : Hid (V0_3_4_9_7_.cell? ⟨w.heap.size, 1, none⟩ = some (.slice a1 4 c1) ∧ V0_3_4_9_7_.cell? ⟨w.heap.size, 2, none⟩ = some (.slice a2 n2 c2)) := ⟨Frame.held_cell ST0_3_4_9_7_.out.below KP.out.2.1, Frame.held_cell ST0_3_4_9_7_.out.below KP.out.2.2⟩
            clear hA
            refine hK.out _ _ ?_ (fun hHeld => ?_)
            · exact SK0_3_4_9_7_.out
            clear hK K
            (try show wpAnyH _ _ _ _ _ _ _ (Act.put _ (some 13) _) _); (try simp only [Act.put, List.setIfInBounds_toArray, List.set_cons_zero, List.set_cons_succ])
            refine wpAnyH_take (i := 8) (v := (.agg #[.slice none 0 0, .slice ax 4 kx, .slice ay n2 ky])) rfl (by kernel_rfl) (by kernel_rfl) (by kernel_rfl) (fun _ _ _ h => h) (Or.inl ⟨by rfl, ?_⟩) (by assumption) ?_
            · intro w hSw; (try dsimp only at hSw); go_simp
            (try show wpAnyH _ _ _ _ _ _ _ (Act.put _ (some 14) _) _); (try simp only [Act.put, List.setIfInBounds_toArray, List.set_cons_zero, List.set_cons_succ])
            refine wpAnyH_ready (rs := [10]) (by kernel_rfl) (by simp) ?_
            refine AllReadyH.cons rfl (fun K hK => ?_) AllReadyH.nil
            have NB : V0_3_4_.heap.size ≠ w.heap.size := by have h : w.heap.size + 2 ≤ V0_3_4_.heap.size := (ST0_3_4_9_7_.out.bx _ rfl).1; omega
            have BX : Box V0_3_4_9_7_ (V0_3_4_.heap.size) NV NV NV := (ST0_3_4_9_7_.out.bx _ rfl).2
            obtain ⟨e0, e1, e2, e3, e4, e5⟩ := BX
            have SKF : Hid ((((V0_3_4_9_7_.setCell ⟨V0_3_4_.heap.size, 0, none⟩ (.slice none 0 0)).setCell ⟨V0_3_4_.heap.size, 1, none⟩ (.slice ax 4 kx)).setCell ⟨V0_3_4_.heap.size, 2, none⟩ (.slice ay n2 ky)).cell? ⟨w.heap.size, 1, none⟩ = some (.slice a1 4 c1) ∧ (((V0_3_4_9_7_.setCell ⟨V0_3_4_.heap.size, 0, none⟩ (.slice none 0 0)).setCell ⟨V0_3_4_.heap.size, 1, none⟩ (.slice ax 4 kx)).setCell ⟨V0_3_4_.heap.size, 2, none⟩ (.slice ay n2 ky)).cell? ⟨w.heap.size, 2, none⟩ = some (.slice a2 n2 c2)) := ⟨set_cell NB (set_cell NB (set_cell NB SK0_3_4_9_7_.out.1)), set_cell NB (set_cell NB (set_cell NB SK0_3_4_9_7_.out.2))⟩
            go_simp
            clear e0 e1 e2 e3 e4 e5 NB
            refine hK.out _ _ ?_ (fun hHeld => ?_)
            · exact SKF.out
            clear hK K
            (try simp only [Act.put, List.setIfInBounds_toArray, List.set_cons_zero, List.set_cons_succ])
            refine wpAnyH_done (by kernel_rfl) ?_ _
            have FF : New2 P (((V0_3_4_9_7_.setCell ⟨V0_3_4_.heap.size, 0, none⟩ (.slice none 0 0)).setCell ⟨V0_3_4_.heap.size, 1, none⟩ (.slice ax 4 kx)).setCell ⟨V0_3_4_.heap.size, 2, none⟩ (.slice ay n2 ky)) (w.heap.size + 2) ax 4 kx d.2.1 ay n2 ky d.2.2 (V0_3_4_.heap.size) := ST0_3_4_9_7_.out.fin
            generalize hW : (((V0_3_4_9_7_.setCell ⟨V0_3_4_.heap.size, 0, none⟩ (.slice none 0 0)).setCell ⟨V0_3_4_.heap.size, 1, none⟩ (.slice ax 4 kx)).setCell ⟨V0_3_4_.heap.size, 2, none⟩ (.slice ay n2 ky)) = WW at FF ⊢
            generalize V0_3_4_.heap.size = bb at FF ⊢
            generalize P.heap.size = xb
            generalize V0_3_.heap.size = yb
            exact HL.out WW ax kx ay ky bb xb yb FF
        · refine step_box _ (by rfl) (by rfl) ?_
          intro V0_3_9_ hO hB hS
          have ST0_3_9_ : Hid (St P V0_3_9_ (w.heap.size + 2) ax 4 kx d.2.1 none 0 0 [] (some ⟨V0_3_.heap.size, 0, none⟩) ) := ST0_3_.out.newb hO hB
          have SK0_3_9_ : Hid (V0_3_9_.cell? ⟨w.heap.size, 1, none⟩ = some (.slice a1 4 c1) ∧ V0_3_9_.cell? ⟨w.heap.size, 2, none⟩ = some (.slice a2 n2 c2)) := ⟨Frame.held_cell ST0_3_9_.out.below KP.out.2.1, Frame.held_cell ST0_3_9_.out.below KP.out.2.2⟩
          clear hO hB hS
          refine hK.out _ _ ?_ (fun hHeld => ?_)
          · exact SK0_3_9_.out
          clear hK K
          (try show wpAnyH _ _ _ _ _ _ _ (Act.put _ (some 3) _) _); (try simp only [Act.put, List.setIfInBounds_toArray, List.set_cons_zero, List.set_cons_succ])
          refine wpAnyH_ready (rs := [4]) (by kernel_rfl) (by simp) ?_
          refine AllReadyH.cons rfl (fun K hK => ?_) AllReadyH.nil
          refine step_empty _ (by rfl) (by rfl) ?_
          intro V0_3_9_4_ hO hB hS
          have ST0_3_9_4_ : Hid (St P V0_3_9_4_ (w.heap.size + 2) ax 4 kx d.2.1 (some ⟨V0_3_9_.heap.size, 0, none⟩) 0 0 [] (some ⟨V0_3_.heap.size, 0, none⟩) ) := ST0_3_9_.out.newy hO hB
          have SK0_3_9_4_ : Hid (V0_3_9_4_.cell? ⟨w.heap.size, 1, none⟩ = some (.slice a1 4 c1) ∧ V0_3_9_4_.cell? ⟨w.heap.size, 2, none⟩ = some (.slice a2 n2 c2)) := ⟨Frame.held_cell ST0_3_9_4_.out.below KP.out.2.1, Frame.held_cell ST0_3_9_4_.out.below KP.out.2.2⟩
          clear hO hB hS
          refine hK.out _ _ ?_ (fun hHeld => ?_)
          · exact SK0_3_9_4_.out
          clear hK K
          (try show wpAnyH _ _ _ _ _ _ _ (Act.put _ (some 10) _) _); (try simp only [Act.put, List.setIfInBounds_toArray, List.set_cons_zero, List.set_cons_succ])
          refine wpAnyH_ready (rs := [7]) (by kernel_rfl) (by simp) ?_
          refine AllReadyH.cons rfl (fun K hK => ?_) AllReadyH.nil
          refine step_int _ (by rfl) _ _ (by rfl) (w.heap.size + 2) (V0_3_9_.heap.size) a2 n2 c2 d.2.2 (by rfl) (by rfl) (by exact ST0_3_9_4_.out.oy) (by exact IsRow.below R2.out ST0_3_9_4_.out.below) (by omega) ?_
          intro ay ky V0_3_9_4_7_ hA
          have ST0_3_9_4_7_ : Hid (St P V0_3_9_4_7_ (w.heap.size + 2) ax 4 kx d.2.1 ay n2 ky d.2.2 (some ⟨V0_3_.heap.size, 0, none⟩) ) := ST0_3_9_4_.out.appy hA
          have SK0_3_9_4_7_ : Hid (V0_3_9_4_7_.cell? ⟨w.heap.size, 1, none⟩ = some (.slice a1 4 c1) ∧ V0_3_9_4_7_.cell? ⟨w.heap.size, 2, none⟩ = some (.slice a2 n2 c2)) := ⟨Frame.held_cell ST0_3_9_4_7_.out.below KP.out.2.1, Frame.held_cell ST0_3_9_4_7_.out.below KP.out.2.2⟩
          clear hA
          refine hK.out _ _ ?_ (fun hHeld => ?_)
          · exact SK0_3_9_4_7_.out
          clear hK K
          (try show wpAnyH _ _ _ _ _ _ _ (Act.put _ (some 13) _) _); (try simp only [Act.put, List.setIfInBounds_toArray, List.set_cons_zero, List.set_cons_succ])
          refine wpAnyH_take (i := 8) (v := (.agg #[.slice none 0 0, .slice ax 4 kx, .slice ay n2 ky])) rfl (by kernel_rfl) (by kernel_rfl) (by kernel_rfl) (fun _ _ _ h => h) (Or.inl ⟨by rfl, ?_⟩) (by assumption) ?_
          · intro w hSw; (try dsimp only at hSw); go_simp
          (try show wpAnyH _ _ _ _ _ _ _ (Act.put _ (some 14) _) _); (try simp only [Act.put, List.setIfInBounds_toArray, List.set_cons_zero, List.set_cons_succ])
          refine wpAnyH_ready (rs := [10]) (by kernel_rfl) (by simp) ?_
          refine AllReadyH.cons rfl (fun K hK => ?_) AllReadyH.nil
          have NB : V0_3_.heap.size ≠ w.heap.size := by have h : w.heap.size + 2 ≤ V0_3_.heap.size := (ST0_3_9_4_7_.out.bx _ rfl).1; omega
          have BX : Box V0_3_9_4_7_ (V0_3_.heap.size) NV NV NV := (ST0_3_9_4_7_.out.bx _ rfl).2
          obtain ⟨e0, e1, e2, e3, e4, e5⟩ := BX
          have SKF : Hid ((((V0_3_9_4_7_.setCell ⟨V0_3_.heap.size, 0, none⟩ (.slice none 0 0)).setCell ⟨V0_3_.heap.size, 1, none⟩ (.slice ax 4 kx)).setCell ⟨V0_3_.heap.size, 2, none⟩ (.slice ay n2 ky)).cell? ⟨w.heap.size, 1, none⟩ = some (.slice a1 4 c1) ∧ (((V0_3_9_4_7_.setCell ⟨V0_3_.heap.size, 0, none⟩ (.slice none 0 0)).setCell ⟨V0_3_.heap.size, 1, none⟩ (.slice ax 4 kx)).setCell ⟨V0_3_.heap.size, 2, none⟩ (.slice ay n2 ky)).cell? ⟨w.heap.size, 2, none⟩ = some (.slice a2 n2 c2)) := ⟨set_cell NB (set_cell NB (set_cell NB SK0_3_9_4_7_.out.1)), set_cell NB (set_cell NB (set_cell NB SK0_3_9_4_7_.out.2))⟩
          go_simp
          clear e0 e1 e2 e3 e4 e5 NB
          refine hK.out _ _ ?_ (fun hHeld => ?_)
          · exact SKF.out
          clear hK K
          (try simp only [Act.put, List.setIfInBounds_toArray, List.set_cons_zero, List.set_cons_succ])
          refine wpAnyH_done (by kernel_rfl) ?_ _
          have FF : New2 P (((V0_3_9_4_7_.setCell ⟨V0_3_.heap.size, 0, none⟩ (.slice none 0 0)).setCell ⟨V0_3_.heap.size, 1, none⟩ (.slice ax 4 kx)).setCell ⟨V0_3_.heap.size, 2, none⟩ (.slice ay n2 ky)) (w.heap.size + 2) ax 4 kx d.2.1 ay n2 ky d.2.2 (V0_3_.heap.size) := ST0_3_9_4_7_.out.fin
          generalize hW : (((V0_3_9_4_7_.setCell ⟨V0_3_.heap.size, 0, none⟩ (.slice none 0 0)).setCell ⟨V0_3_.heap.size, 1, none⟩ (.slice ax 4 kx)).setCell ⟨V0_3_.heap.size, 2, none⟩ (.slice ay n2 ky)) = WW at FF ⊢
          generalize V0_3_.heap.size = bb at FF ⊢
          generalize P.heap.size = xb
          generalize V0_3_9_.heap.size = yb
          exact HL.out WW ax kx ay ky bb xb yb FF
      · refine step_empty _ (by rfl) (by rfl) ?_
        intro V0_4_ hO hB hS
        have ST0_4_ : Hid (St P V0_4_ (w.heap.size + 2) (some ⟨P.drew.heap.size, 0, none⟩) 0 0 [] (some ⟨V0_.heap.size, 0, none⟩) 0 0 [] none ) := ST0_.out.newy hO hB
        have SK0_4_ : Hid (V0_4_.cell? ⟨w.heap.size, 1, none⟩ = some (.slice a1 4 c1) ∧ V0_4_.cell? ⟨w.heap.size, 2, none⟩ = some (.slice a2 n2 c2)) := ⟨Frame.held_cell ST0_4_.out.below KP.out.2.1, Frame.held_cell ST0_4_.out.below KP.out.2.2⟩
        clear hO hB hS
        refine hK.out _ _ ?_ (fun hHeld => ?_)
        · exact SK0_4_.out
        clear hK K
        (try show wpAnyH _ _ _ _ _ _ _ (Act.put _ (some 10) _) _); (try simp only [Act.put, List.setIfInBounds_toArray, List.set_cons_zero, List.set_cons_succ])
        refine wpAnyH_ready (rs := [3, 9]) (by kernel_rfl) (by simp) ?_
        refine (AllReadyH.cons rfl (fun K hK => ?_) (AllReadyH.cons rfl (fun K hK => ?_) AllReadyH.nil))
        · refine step_int _ (by rfl) _ _ (by rfl) (w.heap.size + 2) (P.drew.heap.size) a1 4 c1 d.2.1 (by rfl) (by rfl) (by exact ST0_4_.out.ox) (by exact IsRow.below R1.out ST0_4_.out.below) (by omega) ?_
          intro ax kx V0_4_3_ hA
          have ST0_4_3_ : Hid (St P V0_4_3_ (w.heap.size + 2) ax 4 kx d.2.1 (some ⟨V0_.heap.size, 0, none⟩) 0 0 [] none ) := ST0_4_.out.appx hA
          have SK0_4_3_ : Hid (V0_4_3_.cell? ⟨w.heap.size, 1, none⟩ = some (.slice a1 4 c1) ∧ V0_4_3_.cell? ⟨w.heap.size, 2, none⟩ = some (.slice a2 n2 c2)) := ⟨Frame.held_cell ST0_4_3_.out.below KP.out.2.1, Frame.held_cell ST0_4_3_.out.below KP.out.2.2⟩
          clear hA
          refine hK.out _ _ ?_ (fun hHeld => ?_)
          · exact SK0_4_3_.out
          clear hK K
          (try show wpAnyH _ _ _ _ _ _ _ (Act.put _ (some 9) _) _); (try simp only [Act.put, List.setIfInBounds_toArray, List.set_cons_zero, List.set_cons_succ])
          refine wpAnyH_ready (rs := [7, 9]) (by kernel_rfl) (by simp) ?_
          refine (AllReadyH.cons rfl (fun K hK => ?_) (AllReadyH.cons rfl (fun K hK => ?_) AllReadyH.nil))
          · refine step_int _ (by rfl) _ _ (by rfl) (w.heap.size + 2) (V0_.heap.size) a2 n2 c2 d.2.2 (by rfl) (by rfl) (by exact ST0_4_3_.out.oy) (by exact IsRow.below R2.out ST0_4_3_.out.below) (by omega) ?_
            intro ay ky V0_4_3_7_ hA
            have ST0_4_3_7_ : Hid (St P V0_4_3_7_ (w.heap.size + 2) ax 4 kx d.2.1 ay n2 ky d.2.2 none ) := ST0_4_3_.out.appy hA
            have SK0_4_3_7_ : Hid (V0_4_3_7_.cell? ⟨w.heap.size, 1, none⟩ = some (.slice a1 4 c1) ∧ V0_4_3_7_.cell? ⟨w.heap.size, 2, none⟩ = some (.slice a2 n2 c2)) := ⟨Frame.held_cell ST0_4_3_7_.out.below KP.out.2.1, Frame.held_cell ST0_4_3_7_.out.below KP.out.2.2⟩
            clear hA
            refine hK.out _ _ ?_ (fun hHeld => ?_)
            · exact SK0_4_3_7_.out
            clear hK K
            (try show wpAnyH _ _ _ _ _ _ _ (Act.put _ (some 13) _) _); (try simp only [Act.put, List.setIfInBounds_toArray, List.set_cons_zero, List.set_cons_succ])
            refine wpAnyH_take (i := 8) (v := (.agg #[.slice none 0 0, .slice ax 4 kx, .slice ay n2 ky])) rfl (by kernel_rfl) (by kernel_rfl) (by kernel_rfl) (fun _ _ _ h => h) (Or.inl ⟨by rfl, ?_⟩) (by assumption) ?_
            · intro w hSw; (try dsimp only at hSw); go_simp
            (try show wpAnyH _ _ _ _ _ _ _ (Act.put _ (some 14) _) _); (try simp only [Act.put, List.setIfInBounds_toArray, List.set_cons_zero, List.set_cons_succ])
            refine wpAnyH_ready (rs := [9]) (by kernel_rfl) (by simp) ?_
            refine AllReadyH.cons rfl (fun K hK => ?_) AllReadyH.nil
            refine step_box _ (by rfl) (by rfl) ?_
            intro V0_4_3_7_9_ hO hB hS
            have ST0_4_3_7_9_ : Hid (St P V0_4_3_7_9_ (w.heap.size + 2) ax 4 kx d.2.1 ay n2 ky d.2.2 (some ⟨V0_4_3_7_.heap.size, 0, none⟩) ) := ST0_4_3_7_.out.newb hO hB
            have SK0_4_3_7_9_ : Hid (V0_4_3_7_9_.cell? ⟨w.heap.size, 1, none⟩ = some (.slice a1 4 c1) ∧ V0_4_3_7_9_.cell? ⟨w.heap.size, 2, none⟩ = some (.slice a2 n2 c2)) := ⟨Frame.held_cell ST0_4_3_7_9_.out.below KP.out.2.1, Frame.held_cell ST0_4_3_7_9_.out.below KP.out.2.2⟩
            clear hO hB hS
            refine hK.out _ _ ?_ (fun hHeld => ?_)
            · exact SK0_4_3_7_9_.out
            clear hK K
            (try show wpAnyH _ _ _ _ _ _ _ (Act.put _ (some 3) _) _); (try simp only [Act.put, List.setIfInBounds_toArray, List.set_cons_zero, List.set_cons_succ])
            refine wpAnyH_ready (rs := [10]) (by kernel_rfl) (by simp) ?_
            refine AllReadyH.cons rfl (fun K hK => ?_) AllReadyH.nil
            have NB : V0_4_3_7_.heap.size ≠ w.heap.size := by have h : w.heap.size + 2 ≤ V0_4_3_7_.heap.size := (ST0_4_3_7_9_.out.bx _ rfl).1; omega
            have BX : Box V0_4_3_7_9_ (V0_4_3_7_.heap.size) NV NV NV := (ST0_4_3_7_9_.out.bx _ rfl).2
            obtain ⟨e0, e1, e2, e3, e4, e5⟩ := BX
            have SKF : Hid ((((V0_4_3_7_9_.setCell ⟨V0_4_3_7_.heap.size, 0, none⟩ (.slice none 0 0)).setCell ⟨V0_4_3_7_.heap.size, 1, none⟩ (.slice ax 4 kx)).setCell ⟨V0_4_3_7_.heap.size, 2, none⟩ (.slice ay n2 ky)).cell? ⟨w.heap.size, 1, none⟩ = some (.slice a1 4 c1) ∧ (((V0_4_3_7_9_.setCell ⟨V0_4_3_7_.heap.size, 0, none⟩ (.slice none 0 0)).setCell ⟨V0_4_3_7_.heap.size, 1, none⟩ (.slice ax 4 kx)).setCell ⟨V0_4_3_7_.heap.size, 2, none⟩ (.slice ay n2 ky)).cell? ⟨w.heap.size, 2, none⟩ = some (.slice a2 n2 c2)) := ⟨set_cell NB (set_cell NB (set_cell NB SK0_4_3_7_9_.out.1)), set_cell NB (set_cell NB (set_cell NB SK0_4_3_7_9_.out.2))⟩
            go_simp
            clear e0 e1 e2 e3 e4 e5 NB
            refine hK.out _ _ ?_ (fun hHeld => ?_)
            · exact SKF.out
            clear hK K
            (try simp only [Act.put, List.setIfInBounds_toArray, List.set_cons_zero, List.set_cons_succ])
            refine wpAnyH_done (by kernel_rfl) ?_ _
            have FF : New2 P (((V0_4_3_7_9_.setCell ⟨V0_4_3_7_.heap.size, 0, none⟩ (.slice none 0 0)).setCell ⟨V0_4_3_7_.heap.size, 1, none⟩ (.slice ax 4 kx)).setCell ⟨V0_4_3_7_.heap.size, 2, none⟩ (.slice ay n2 ky)) (w.heap.size + 2) ax 4 kx d.2.1 ay n2 ky d.2.2 (V0_4_3_7_.heap.size) := ST0_4_3_7_9_.out.fin
            generalize hW : (((V0_4_3_7_9_.setCell ⟨V0_4_3_7_.heap.size, 0, none⟩ (.slice none 0 0)).setCell ⟨V0_4_3_7_.heap.size, 1, none⟩ (.slice ax 4 kx)).setCell ⟨V0_4_3_7_.heap.size, 2, none⟩ (.slice ay n2 ky)) = WW at FF ⊢
            generalize V0_4_3_7_.heap.size = bb at FF ⊢
            generalize P.heap.size = xb
            generalize V0_.heap.size = yb
            exact HL.out WW ax kx ay ky bb xb yb FF
          · refine step_box _ (by rfl) (by rfl) ?_
            intro V0_4_3_9_ hO hB hS
            have ST0_4_3_9_ : Hid (St P V0_4_3_9_ (w.heap.size + 2) ax 4 kx d.2.1 (some ⟨V0_.heap.size, 0, none⟩) 0 0 [] (some ⟨V0_4_3_.heap.size, 0, none⟩) ) := ST0_4_3_.out.newb hO hB
            have SK0_4_3_9_ : Hid (V0_4_3_9_.cell? ⟨w.heap.size, 1, none⟩ = some (.slice a1 4 c1) ∧ V0_4_3_9_.cell? ⟨w.heap.size, 2, none⟩ = some (.slice a2 n2 c2)) := ⟨Frame.held_cell ST0_4_3_9_.out.below KP.out.2.1, Frame.held_cell ST0_4_3_9_.out.below KP.out.2.2⟩
            clear hO hB hS
            refine hK.out _ _ ?_ (fun hHeld => ?_)
            · exact SK0_4_3_9_.out
            clear hK K
            (try show wpAnyH _ _ _ _ _ _ _ (Act.put _ (some 3) _) _); (try simp only [Act.put, List.setIfInBounds_toArray, List.set_cons_zero, List.set_cons_succ])
            refine wpAnyH_ready (rs := [7]) (by kernel_rfl) (by simp) ?_
            refine AllReadyH.cons rfl (fun K hK => ?_) AllReadyH.nil
            refine step_int _ (by rfl) _ _ (by rfl) (w.heap.size + 2) (V0_.heap.size) a2 n2 c2 d.2.2 (by rfl) (by rfl) (by exact ST0_4_3_9_.out.oy) (by exact IsRow.below R2.out ST0_4_3_9_.out.below) (by omega) ?_
            intro ay ky V0_4_3_9_7_ hA
            have ST0_4_3_9_7_ : Hid (St P V0_4_3_9_7_ (w.heap.size + 2) ax 4 kx d.2.1 ay n2 ky d.2.2 (some ⟨V0_4_3_.heap.size, 0, none⟩) ) := ST0_4_3_9_.out.appy hA
            have SK0_4_3_9_7_ : Hid (V0_4_3_9_7_.cell? ⟨w.heap.size, 1, none⟩ = some (.slice a1 4 c1) ∧ V0_4_3_9_7_.cell? ⟨w.heap.size, 2, none⟩ = some (.slice a2 n2 c2)) := ⟨Frame.held_cell ST0_4_3_9_7_.out.below KP.out.2.1, Frame.held_cell ST0_4_3_9_7_.out.below KP.out.2.2⟩
            clear hA
            refine hK.out _ _ ?_ (fun hHeld => ?_)
            · exact SK0_4_3_9_7_.out
            clear hK K
            (try show wpAnyH _ _ _ _ _ _ _ (Act.put _ (some 13) _) _); (try simp only [Act.put, List.setIfInBounds_toArray, List.set_cons_zero, List.set_cons_succ])
            refine wpAnyH_take (i := 8) (v := (.agg #[.slice none 0 0, .slice ax 4 kx, .slice ay n2 ky])) rfl (by kernel_rfl) (by kernel_rfl) (by kernel_rfl) (fun _ _ _ h => h) (Or.inl ⟨by rfl, ?_⟩) (by assumption) ?_
            · intro w hSw; (try dsimp only at hSw); go_simp
            (try show wpAnyH _ _ _ _ _ _ _ (Act.put _ (some 14) _) _); (try simp only [Act.put, List.setIfInBounds_toArray, List.set_cons_zero, List.set_cons_succ])
            refine wpAnyH_ready (rs := [10]) (by kernel_rfl) (by simp) ?_
            refine AllReadyH.cons rfl (fun K hK => ?_) AllReadyH.nil
            have NB : V0_4_3_.heap.size ≠ w.heap.size := by have h : w.heap.size + 2 ≤ V0_4_3_.heap.size := (ST0_4_3_9_7_.out.bx _ rfl).1; omega
            have BX : Box V0_4_3_9_7_ (V0_4_3_.heap.size) NV NV NV := (ST0_4_3_9_7_.out.bx _ rfl).2
            obtain ⟨e0, e1, e2, e3, e4, e5⟩ := BX
            have SKF : Hid ((((V0_4_3_9_7_.setCell ⟨V0_4_3_.heap.size, 0, none⟩ (.slice none 0 0)).setCell ⟨V0_4_3_.heap.size, 1, none⟩ (.slice ax 4 kx)).setCell ⟨V0_4_3_.heap.size, 2, none⟩ (.slice ay n2 ky)).cell? ⟨w.heap.size, 1, none⟩ = some (.slice a1 4 c1) ∧ (((V0_4_3_9_7_.setCell ⟨V0_4_3_.heap.size, 0, none⟩ (.slice none 0 0)).setCell ⟨V0_4_3_.heap.size, 1, none⟩ (.slice ax 4 kx)).setCell ⟨V0_4_3_.heap.size, 2, none⟩ (.slice ay n2 ky)).cell? ⟨w.heap.size, 2, none⟩ = some (.slice a2 n2 c2)) := ⟨set_cell NB (set_cell NB (set_cell NB SK0_4_3_9_7_.out.1)), set_cell NB (set_cell NB (set_cell NB SK0_4_3_9_7_.out.2))⟩
            go_simp
            clear e0 e1 e2 e3 e4 e5 NB
            refine hK.out _ _ ?_ (fun hHeld => ?_)
            · exact SKF.out
            clear hK K
            (try simp only [Act.put, List.setIfInBounds_toArray, List.set_cons_zero, List.set_cons_succ])
            refine wpAnyH_done (by kernel_rfl) ?_ _
            have FF : New2 P (((V0_4_3_9_7_.setCell ⟨V0_4_3_.heap.size, 0, none⟩ (.slice none 0 0)).setCell ⟨V0_4_3_.heap.size, 1, none⟩ (.slice ax 4 kx)).setCell ⟨V0_4_3_.heap.size, 2, none⟩ (.slice ay n2 ky)) (w.heap.size + 2) ax 4 kx d.2.1 ay n2 ky d.2.2 (V0_4_3_.heap.size) := ST0_4_3_9_7_.out.fin
            generalize hW : (((V0_4_3_9_7_.setCell ⟨V0_4_3_.heap.size, 0, none⟩ (.slice none 0 0)).setCell ⟨V0_4_3_.heap.size, 1, none⟩ (.slice ax 4 kx)).setCell ⟨V0_4_3_.heap.size, 2, none⟩ (.slice ay n2 ky)) = WW at FF ⊢
            generalize V0_4_3_.heap.size = bb at FF ⊢
            generalize P.heap.size = xb
            generalize V0_.heap.size = yb
            exact HL.out WW ax kx ay ky bb xb yb FF
        · refine step_box _ (by rfl) (by rfl) ?_
          intro V0_4_9_ hO hB hS
          have ST0_4_9_ : Hid (St P V0_4_9_ (w.heap.size + 2) (some ⟨P.drew.heap.size, 0, none⟩) 0 0 [] (some ⟨V0_.heap.size, 0, none⟩) 0 0 [] (some ⟨V0_4_.heap.size, 0, none⟩) ) := ST0_4_.out.newb hO hB
          have SK0_4_9_ : Hid (V0_4_9_.cell? ⟨w.heap.size, 1, none⟩ = some (.slice a1 4 c1) ∧ V0_4_9_.cell? ⟨w.heap.size, 2, none⟩ = some (.slice a2 n2 c2)) := ⟨Frame.held_cell ST0_4_9_.out.below KP.out.2.1, Frame.held_cell ST0_4_9_.out.below KP.out.2.2⟩
          clear hO hB hS
          refine hK.out _ _ ?_ (fun hHeld => ?_)
          · exact SK0_4_9_.out
          clear hK K
          (try show wpAnyH _ _ _ _ _ _ _ (Act.put _ (some 3) _) _); (try simp only [Act.put, List.setIfInBounds_toArray, List.set_cons_zero, List.set_cons_succ])
          refine wpAnyH_ready (rs := [3]) (by kernel_rfl) (by simp) ?_
          refine AllReadyH.cons rfl (fun K hK => ?_) AllReadyH.nil
          refine step_int _ (by rfl) _ _ (by rfl) (w.heap.size + 2) (P.drew.heap.size) a1 4 c1 d.2.1 (by rfl) (by rfl) (by exact ST0_4_9_.out.ox) (by exact IsRow.below R1.out ST0_4_9_.out.below) (by omega) ?_
          intro ax kx V0_4_9_3_ hA
          have ST0_4_9_3_ : Hid (St P V0_4_9_3_ (w.heap.size + 2) ax 4 kx d.2.1 (some ⟨V0_.heap.size, 0, none⟩) 0 0 [] (some ⟨V0_4_.heap.size, 0, none⟩) ) := ST0_4_9_.out.appx hA
          have SK0_4_9_3_ : Hid (V0_4_9_3_.cell? ⟨w.heap.size, 1, none⟩ = some (.slice a1 4 c1) ∧ V0_4_9_3_.cell? ⟨w.heap.size, 2, none⟩ = some (.slice a2 n2 c2)) := ⟨Frame.held_cell ST0_4_9_3_.out.below KP.out.2.1, Frame.held_cell ST0_4_9_3_.out.below KP.out.2.2⟩
          clear hA
          refine hK.out _ _ ?_ (fun hHeld => ?_)
          · exact SK0_4_9_3_.out
          clear hK K
          (try show wpAnyH _ _ _ _ _ _ _ (Act.put _ (some 9) _) _); (try simp only [Act.put, List.setIfInBounds_toArray, List.set_cons_zero, List.set_cons_succ])
          refine wpAnyH_ready (rs := [7]) (by kernel_rfl) (by simp) ?_
          refine AllReadyH.cons rfl (fun K hK => ?_) AllReadyH.nil
          refine step_int _ (by rfl) _ _ (by rfl) (w.heap.size + 2) (V0_.heap.size) a2 n2 c2 d.2.2 (by rfl) (by rfl) (by exact ST0_4_9_3_.out.oy) (by exact IsRow.below R2.out ST0_4_9_3_.out.below) (by omega) ?_
          intro ay ky V0_4_9_3_7_ hA
          have ST0_4_9_3_7_ : Hid (St P V0_4_9_3_7_ (w.heap.size + 2) ax 4 kx d.2.1 ay n2 ky d.2.2 (some ⟨V0_4_.heap.size, 0, none⟩) ) := ST0_4_9_3_.out.appy hA
          have SK0_4_9_3_7_ : Hid (V0_4_9_3_7_.cell? ⟨w.heap.size, 1, none⟩ = some (.slice a1 4 c1) ∧ V0_4_9_3_7_.cell? ⟨w.heap.size, 2, none⟩ = some (.slice a2 n2 c2)) := ⟨Frame.held_cell ST0_4_9_3_7_.out.below KP.out.2.1, Frame.held_cell ST0_4_9_3_7_.out.below KP.out.2.2⟩
          clear hA
          refine hK.out _ _ ?_ (fun hHeld => ?_)
          · exact SK0_4_9_3_7_.out
          clear hK K
          (try show wpAnyH _ _ _ _ _ _ _ (Act.put _ (some 13) _) _); (try simp only [Act.put, List.setIfInBounds_toArray, List.set_cons_zero, List.set_cons_succ])
          refine wpAnyH_take (i := 8) (v := (.agg #[.slice none 0 0, .slice ax 4 kx, .slice ay n2 ky])) rfl (by kernel_rfl) (by kernel_rfl) (by kernel_rfl) (fun _ _ _ h => h) (Or.inl ⟨by rfl, ?_⟩) (by assumption) ?_
          · intro w hSw; (try dsimp only at hSw); go_simp
          (try show wpAnyH _ _ _ _ _ _ _ (Act.put _ (some 14) _) _); (try simp only [Act.put, List.setIfInBounds_toArray, List.set_cons_zero, List.set_cons_succ])
          refine wpAnyH_ready (rs := [10]) (by kernel_rfl) (by simp) ?_
          refine AllReadyH.cons rfl (fun K hK => ?_) AllReadyH.nil
          have NB : V0_4_.heap.size ≠ w.heap.size := by have h : w.heap.size + 2 ≤ V0_4_.heap.size := (ST0_4_9_3_7_.out.bx _ rfl).1; omega
          have BX : Box V0_4_9_3_7_ (V0_4_.heap.size) NV NV NV := (ST0_4_9_3_7_.out.bx _ rfl).2
          obtain ⟨e0, e1, e2, e3, e4, e5⟩ := BX
          have SKF : Hid ((((V0_4_9_3_7_.setCell ⟨V0_4_.heap.size, 0, none⟩ (.slice none 0 0)).setCell ⟨V0_4_.heap.size, 1, none⟩ (.slice ax 4 kx)).setCell ⟨V0_4_.heap.size, 2, none⟩ (.slice ay n2 ky)).cell? ⟨w.heap.size, 1, none⟩ = some (.slice a1 4 c1) ∧ (((V0_4_9_3_7_.setCell ⟨V0_4_.heap.size, 0, none⟩ (.slice none 0 0)).setCell ⟨V0_4_.heap.size, 1, none⟩ (.slice ax 4 kx)).setCell ⟨V0_4_.heap.size, 2, none⟩ (.slice ay n2 ky)).cell? ⟨w.heap.size, 2, none⟩ = some (.slice a2 n2 c2)) := ⟨set_cell NB (set_cell NB (set_cell NB SK0_4_9_3_7_.out.1)), set_cell NB (set_cell NB (set_cell NB SK0_4_9_3_7_.out.2))⟩
          go_simp
          clear e0 e1 e2 e3 e4 e5 NB
          refine hK.out _ _ ?_ (fun hHeld => ?_)
          · exact SKF.out
          clear hK K
          (try simp only [Act.put, List.setIfInBounds_toArray, List.set_cons_zero, List.set_cons_succ])
          refine wpAnyH_done (by kernel_rfl) ?_ _
          have FF : New2 P (((V0_4_9_3_7_.setCell ⟨V0_4_.heap.size, 0, none⟩ (.slice none 0 0)).setCell ⟨V0_4_.heap.size, 1, none⟩ (.slice ax 4 kx)).setCell ⟨V0_4_.heap.size, 2, none⟩ (.slice ay n2 ky)) (w.heap.size + 2) ax 4 kx d.2.1 ay n2 ky d.2.2 (V0_4_.heap.size) := ST0_4_9_3_7_.out.fin
          generalize hW : (((V0_4_9_3_7_.setCell ⟨V0_4_.heap.size, 0, none⟩ (.slice none 0 0)).setCell ⟨V0_4_.heap.size, 1, none⟩ (.slice ax 4 kx)).setCell ⟨V0_4_.heap.size, 2, none⟩ (.slice ay n2 ky)) = WW at FF ⊢
          generalize V0_4_.heap.size = bb at FF ⊢
          generalize P.heap.size = xb
          generalize V0_.heap.size = yb
          exact HL.out WW ax kx ay ky bb xb yb FF
      · refine step_box _ (by rfl) (by rfl) ?_
        intro V0_9_ hO hB hS
        have ST0_9_ : Hid (St P V0_9_ (w.heap.size + 2) (some ⟨P.drew.heap.size, 0, none⟩) 0 0 [] none 0 0 [] (some ⟨V0_.heap.size, 0, none⟩) ) := ST0_.out.newb hO hB
        have SK0_9_ : Hid (V0_9_.cell? ⟨w.heap.size, 1, none⟩ = some (.slice a1 4 c1) ∧ V0_9_.cell? ⟨w.heap.size, 2, none⟩ = some (.slice a2 n2 c2)) := ⟨Frame.held_cell ST0_9_.out.below KP.out.2.1, Frame.held_cell ST0_9_.out.below KP.out.2.2⟩
        clear hO hB hS
        refine hK.out _ _ ?_ (fun hHeld => ?_)
        · exact SK0_9_.out
        clear hK K
        (try show wpAnyH _ _ _ _ _ _ _ (Act.put _ (some 3) _) _); (try simp only [Act.put, List.setIfInBounds_toArray, List.set_cons_zero, List.set_cons_succ])
        refine wpAnyH_ready (rs := [3, 4]) (by kernel_rfl) (by simp) ?_
        refine (AllReadyH.cons rfl (fun K hK => ?_) (AllReadyH.cons rfl (fun K hK => ?_) AllReadyH.nil))
        · refine step_int _ (by rfl) _ _ (by rfl) (w.heap.size + 2) (P.drew.heap.size) a1 4 c1 d.2.1 (by rfl) (by rfl) (by exact ST0_9_.out.ox) (by exact IsRow.below R1.out ST0_9_.out.below) (by omega) ?_
          intro ax kx V0_9_3_ hA
          have ST0_9_3_ : Hid (St P V0_9_3_ (w.heap.size + 2) ax 4 kx d.2.1 none 0 0 [] (some ⟨V0_.heap.size, 0, none⟩) ) := ST0_9_.out.appx hA
          have SK0_9_3_ : Hid (V0_9_3_.cell? ⟨w.heap.size, 1, none⟩ = some (.slice a1 4 c1) ∧ V0_9_3_.cell? ⟨w.heap.size, 2, none⟩ = some (.slice a2 n2 c2)) := ⟨Frame.held_cell ST0_9_3_.out.below KP.out.2.1, Frame.held_cell ST0_9_3_.out.below KP.out.2.2⟩
          clear hA
          refine hK.out _ _ ?_ (fun hHeld => ?_)
          · exact SK0_9_3_.out
          clear hK K
          (try show wpAnyH _ _ _ _ _ _ _ (Act.put _ (some 9) _) _); (try simp only [Act.put, List.setIfInBounds_toArray, List.set_cons_zero, List.set_cons_succ])
          refine wpAnyH_ready (rs := [4]) (by kernel_rfl) (by simp) ?_
          refine AllReadyH.cons rfl (fun K hK => ?_) AllReadyH.nil
          refine step_empty _ (by rfl) (by rfl) ?_
          intro V0_9_3_4_ hO hB hS
          have ST0_9_3_4_ : Hid (St P V0_9_3_4_ (w.heap.size + 2) ax 4 kx d.2.1 (some ⟨V0_9_3_.heap.size, 0, none⟩) 0 0 [] (some ⟨V0_.heap.size, 0, none⟩) ) := ST0_9_3_.out.newy hO hB
          have SK0_9_3_4_ : Hid (V0_9_3_4_.cell? ⟨w.heap.size, 1, none⟩ = some (.slice a1 4 c1) ∧ V0_9_3_4_.cell? ⟨w.heap.size, 2, none⟩ = some (.slice a2 n2 c2)) := ⟨Frame.held_cell ST0_9_3_4_.out.below KP.out.2.1, Frame.held_cell ST0_9_3_4_.out.below KP.out.2.2⟩
          clear hO hB hS
          refine hK.out _ _ ?_ (fun hHeld => ?_)
          · exact SK0_9_3_4_.out
          clear hK K
          (try show wpAnyH _ _ _ _ _ _ _ (Act.put _ (some 10) _) _); (try simp only [Act.put, List.setIfInBounds_toArray, List.set_cons_zero, List.set_cons_succ])
          refine wpAnyH_ready (rs := [7]) (by kernel_rfl) (by simp) ?_
          refine AllReadyH.cons rfl (fun K hK => ?_) AllReadyH.nil
          refine step_int _ (by rfl) _ _ (by rfl) (w.heap.size + 2) (V0_9_3_.heap.size) a2 n2 c2 d.2.2 (by rfl) (by rfl) (by exact ST0_9_3_4_.out.oy) (by exact IsRow.below R2.out ST0_9_3_4_.out.below) (by omega) ?_
          intro ay ky V0_9_3_4_7_ hA
          have ST0_9_3_4_7_ : Hid (St P V0_9_3_4_7_ (w.heap.size + 2) ax 4 kx d.2.1 ay n2 ky d.2.2 (some ⟨V0_.heap.size, 0, none⟩) ) := ST0_9_3_4_.out.appy hA
          have SK0_9_3_4_7_ : Hid (V0_9_3_4_7_.cell? ⟨w.heap.size, 1, none⟩ = some (.slice a1 4 c1) ∧ V0_9_3_4_7_.cell? ⟨w.heap.size, 2, none⟩ = some (.slice a2 n2 c2)) := ⟨Frame.held_cell ST0_9_3_4_7_.out.below KP.out.2.1, Frame.held_cell ST0_9_3_4_7_.out.below KP.out.2.2⟩
          clear hA
          refine hK.out _ _ ?_ (fun hHeld => ?_)
          · exact SK0_9_3_4_7_.out
          clear hK K
          (try show wpAnyH _ _ _ _ _ _ _ (Act.put _ (some 13) _) _); (try simp only [Act.put, List.setIfInBounds_toArray, List.set_cons_zero, List.set_cons_succ])
          refine wpAnyH_take (i := 8) (v := (.agg #[.slice none 0 0, .slice ax 4 kx, .slice ay n2 ky])) rfl (by kernel_rfl) (by kernel_rfl) (by kernel_rfl) (fun _ _ _ h => h) (Or.inl ⟨by rfl, ?_⟩) (by assumption) ?_
          · intro w hSw; (try dsimp only at hSw); go_simp
          (try show wpAnyH _ _ _ _ _ _ _ (Act.put _ (some 14) _) _); (try simp only [Act.put, List.setIfInBounds_toArray, List.set_cons_zero, List.set_cons_succ])
          refine wpAnyH_ready (rs := [10]) (by kernel_rfl) (by simp) ?_
          refine AllReadyH.cons rfl (fun K hK => ?_) AllReadyH.nil
          have NB : V0_.heap.size ≠ w.heap.size := by have h : w.heap.size + 2 ≤ V0_.heap.size := (ST0_9_3_4_7_.out.bx _ rfl).1; omega
          have BX : Box V0_9_3_4_7_ (V0_.heap.size) NV NV NV := (ST0_9_3_4_7_.out.bx _ rfl).2
          obtain ⟨e0, e1, e2, e3, e4, e5⟩ := BX
          have SKF : Hid ((((V0_9_3_4_7_.setCell ⟨V0_.heap.size, 0, none⟩ (.slice none 0 0)).setCell ⟨V0_.heap.size, 1, none⟩ (.slice ax 4 kx)).setCell ⟨V0_.heap.size, 2, none⟩ (.slice ay n2 ky)).cell? ⟨w.heap.size, 1, none⟩ = some (.slice a1 4 c1) ∧ (((V0_9_3_4_7_.setCell ⟨V0_.heap.size, 0, none⟩ (.slice none 0 0)).setCell ⟨V0_.heap.size, 1, none⟩ (.slice ax 4 kx)).setCell ⟨V0_.heap.size, 2, none⟩ (.slice ay n2 ky)).cell? ⟨w.heap.size, 2, none⟩ = some (.slice a2 n2 c2)) := ⟨set_cell NB (set_cell NB (set_cell NB SK0_9_3_4_7_.out.1)), set_cell NB (set_cell NB (set_cell NB SK0_9_3_4_7_.out.2))⟩
          go_simp
          clear e0 e1 e2 e3 e4 e5 NB
          refine hK.out _ _ ?_ (fun hHeld => ?_)
          · exact SKF.out
          clear hK K
          (try simp only [Act.put, List.setIfInBounds_toArray, List.set_cons_zero, List.set_cons_succ])
          refine wpAnyH_done (by kernel_rfl) ?_ _
          have FF : New2 P (((V0_9_3_4_7_.setCell ⟨V0_.heap.size, 0, none⟩ (.slice none 0 0)).setCell ⟨V0_.heap.size, 1, none⟩ (.slice ax 4 kx)).setCell ⟨V0_.heap.size, 2, none⟩ (.slice ay n2 ky)) (w.heap.size + 2) ax 4 kx d.2.1 ay n2 ky d.2.2 (V0_.heap.size) := ST0_9_3_4_7_.out.fin
          generalize hW : (((V0_9_3_4_7_.setCell ⟨V0_.heap.size, 0, none⟩ (.slice none 0 0)).setCell ⟨V0_.heap.size, 1, none⟩ (.slice ax 4 kx)).setCell ⟨V0_.heap.size, 2, none⟩ (.slice ay n2 ky)) = WW at FF ⊢
          generalize V0_.heap.size = bb at FF ⊢
          generalize P.heap.size = xb
          generalize V0_9_3_.heap.size = yb
          exact HL.out WW ax kx ay ky bb xb yb FF
        · refine step_empty _ (by rfl) (by rfl) ?_
          intro V0_9_4_ hO hB hS
          have ST0_9_4_ : Hid (St P V0_9_4_ (w.heap.size + 2) (some ⟨P.drew.heap.size, 0, none⟩) 0 0 [] (some ⟨V0_9_.heap.size, 0, none⟩) 0 0 [] (some ⟨V0_.heap.size, 0, none⟩) ) := ST0_9_.out.newy hO hB
          have SK0_9_4_ : Hid (V0_9_4_.cell? ⟨w.heap.size, 1, none⟩ = some (.slice a1 4 c1) ∧ V0_9_4_.cell? ⟨w.heap.size, 2, none⟩ = some (.slice a2 n2 c2)) := ⟨Frame.held_cell ST0_9_4_.out.below KP.out.2.1, Frame.held_cell ST0_9_4_.out.below KP.out.2.2⟩
          clear hO hB hS
          refine hK.out _ _ ?_ (fun hHeld => ?_)
          · exact SK0_9_4_.out
          clear hK K
          (try show wpAnyH _ _ _ _ _ _ _ (Act.put _ (some 10) _) _); (try simp only [Act.put, List.setIfInBounds_toArray, List.set_cons_zero, List.set_cons_succ])
          refine wpAnyH_ready (rs := [3]) (by kernel_rfl) (by simp) ?_
          refine AllReadyH.cons rfl (fun K hK => ?_) AllReadyH.nil
          refine step_int _ (by rfl) _ _ (by rfl) (w.heap.size + 2) (P.drew.heap.size) a1 4 c1 d.2.1 (by rfl) (by rfl) (by exact ST0_9_4_.out.ox) (by exact IsRow.below R1.out ST0_9_4_.out.below) (by omega) ?_
          intro ax kx V0_9_4_3_ hA
          have ST0_9_4_3_ : Hid (St P V0_9_4_3_ (w.heap.size + 2) ax 4 kx d.2.1 (some ⟨V0_9_.heap.size, 0, none⟩) 0 0 [] (some ⟨V0_.heap.size, 0, none⟩) ) := ST0_9_4_.out.appx hA
          have SK0_9_4_3_ : Hid (V0_9_4_3_.cell? ⟨w.heap.size, 1, none⟩ = some (.slice a1 4 c1) ∧ V0_9_4_3_.cell? ⟨w.heap.size, 2, none⟩ = some (.slice a2 n2 c2)) := ⟨Frame.held_cell ST0_9_4_3_.out.below KP.out.2.1, Frame.held_cell ST0_9_4_3_.out.below KP.out.2.2⟩
          clear hA
          refine hK.out _ _ ?_ (fun hHeld => ?_)
          · exact SK0_9_4_3_.out
          clear hK K
          (try show wpAnyH _ _ _ _ _ _ _ (Act.put _ (some 9) _) _); (try simp only [Act.put, List.setIfInBounds_toArray, List.set_cons_zero, List.set_cons_succ])
          refine wpAnyH_ready (rs := [7]) (by kernel_rfl) (by simp) ?_
          refine AllReadyH.cons rfl (fun K hK => ?_) AllReadyH.nil
          refine step_int _ (by rfl) _ _ (by rfl) (w.heap.size + 2) (V0_9_.heap.size) a2 n2 c2 d.2.2 (by rfl) (by rfl) (by exact ST0_9_4_3_.out.oy) (by exact IsRow.below R2.out ST0_9_4_3_.out.below) (by omega) ?_
          intro ay ky V0_9_4_3_7_ hA
          have ST0_9_4_3_7_ : Hid (St P V0_9_4_3_7_ (w.heap.size + 2) ax 4 kx d.2.1 ay n2 ky d.2.2 (some ⟨V0_.heap.size, 0, none⟩) ) := ST0_9_4_3_.out.appy hA
          have SK0_9_4_3_7_ : Hid (V0_9_4_3_7_.cell? ⟨w.heap.size, 1, none⟩ = some (.slice a1 4 c1) ∧ V0_9_4_3_7_.cell? ⟨w.heap.size, 2, none⟩ = some (.slice a2 n2 c2)) := ⟨Frame.held_cell ST0_9_4_3_7_.out.below KP.out.2.1, Frame.held_cell ST0_9_4_3_7_.out.below KP.out.2.2⟩
          clear hA
          refine hK.out _ _ ?_ (fun hHeld => ?_)
          · exact SK0_9_4_3_7_.out
          clear hK K
          (try show wpAnyH _ _ _ _ _ _ _ (Act.put _ (some 13) _) _); (try simp only [Act.put, List.setIfInBounds_toArray, List.set_cons_zero, List.set_cons_succ])
          refine wpAnyH_take (i := 8) (v := (.agg #[.slice none 0 0, .slice ax 4 kx, .slice ay n2 ky])) rfl (by kernel_rfl) (by kernel_rfl) (by kernel_rfl) (fun _ _ _ h => h) (Or.inl ⟨by rfl, ?_⟩) (by assumption) ?_
          · intro w hSw; (try dsimp only at hSw); go_simp
          (try show wpAnyH _ _ _ _ _ _ _ (Act.put _ (some 14) _) _); (try simp only [Act.put, List.setIfInBounds_toArray, List.set_cons_zero, List.set_cons_succ])
          refine wpAnyH_ready (rs := [10]) (by kernel_rfl) (by simp) ?_
          refine AllReadyH.cons rfl (fun K hK => ?_) AllReadyH.nil
          have NB : V0_.heap.size ≠ w.heap.size := by have h : w.heap.size + 2 ≤ V0_.heap.size := (ST0_9_4_3_7_.out.bx _ rfl).1; omega
          have BX : Box V0_9_4_3_7_ (V0_.heap.size) NV NV NV := (ST0_9_4_3_7_.out.bx _ rfl).2
          obtain ⟨e0, e1, e2, e3, e4, e5⟩ := BX
          have SKF : Hid ((((V0_9_4_3_7_.setCell ⟨V0_.heap.size, 0, none⟩ (.slice none 0 0)).setCell ⟨V0_.heap.size, 1, none⟩ (.slice ax 4 kx)).setCell ⟨V0_.heap.size, 2, none⟩ (.slice ay n2 ky)).cell? ⟨w.heap.size, 1, none⟩ = some (.slice a1 4 c1) ∧ (((V0_9_4_3_7_.setCell ⟨V0_.heap.size, 0, none⟩ (.slice none 0 0)).setCell ⟨V0_.heap.size, 1, none⟩ (.slice ax 4 kx)).setCell ⟨V0_.heap.size, 2, none⟩ (.slice ay n2 ky)).cell? ⟨w.heap.size, 2, none⟩ = some (.slice a2 n2 c2)) := ⟨set_cell NB (set_cell NB (set_cell NB SK0_9_4_3_7_.out.1)), set_cell NB (set_cell NB (set_cell NB SK0_9_4_3_7_.out.2))⟩
          go_simp
          clear e0 e1 e2 e3 e4 e5 NB
          refine hK.out _ _ ?_ (fun hHeld => ?_)
          · exact SKF.out
          clear hK K
          (try simp only [Act.put, List.setIfInBounds_toArray, List.set_cons_zero, List.set_cons_succ])
          refine wpAnyH_done (by kernel_rfl) ?_ _
          have FF : New2 P (((V0_9_4_3_7_.setCell ⟨V0_.heap.size, 0, none⟩ (.slice none 0 0)).setCell ⟨V0_.heap.size, 1, none⟩ (.slice ax 4 kx)).setCell ⟨V0_.heap.size, 2, none⟩ (.slice ay n2 ky)) (w.heap.size + 2) ax 4 kx d.2.1 ay n2 ky d.2.2 (V0_.heap.size) := ST0_9_4_3_7_.out.fin
          generalize hW : (((V0_9_4_3_7_.setCell ⟨V0_.heap.size, 0, none⟩ (.slice none 0 0)).setCell ⟨V0_.heap.size, 1, none⟩ (.slice ax 4 kx)).setCell ⟨V0_.heap.size, 2, none⟩ (.slice ay n2 ky)) = WW at FF ⊢
          generalize V0_.heap.size = bb at FF ⊢
          generalize P.heap.size = xb
          generalize V0_9_.heap.size = yb
          exact HL.out WW ax kx ay ky bb xb yb FF
    · refine step_empty _ (by rfl) (by rfl) ?_
      intro V4_ hO hB hS
      have ST4_ : Hid (St P V4_ (w.heap.size + 2) none 0 0 [] (some ⟨P.drew.heap.size, 0, none⟩) 0 0 [] none ) := STs.out.newy hO hB
      have SK4_ : Hid (V4_.cell? ⟨w.heap.size, 1, none⟩ = some (.slice a1 4 c1) ∧ V4_.cell? ⟨w.heap.size, 2, none⟩ = some (.slice a2 n2 c2)) := ⟨Frame.held_cell ST4_.out.below KP.out.2.1, Frame.held_cell ST4_.out.below KP.out.2.2⟩
      clear hO hB hS
      refine hK.out _ _ ?_ (fun hHeld => ?_)
      · exact SK4_.out
      clear hK K
      (try show wpAnyH _ _ _ _ _ _ _ (Act.put _ (some 10) _) _); (try simp only [Act.put, List.setIfInBounds_toArray, List.set_cons_zero, List.set_cons_succ])
      refine wpAnyH_ready (rs := [0, 9]) (by kernel_rfl) (by simp) ?_
      refine (AllReadyH.cons rfl (fun K hK => ?_) (AllReadyH.cons rfl (fun K hK => ?_) AllReadyH.nil))
      · refine step_empty _ (by rfl) (by rfl) ?_
        intro V4_0_ hO hB hS
        have ST4_0_ : Hid (St P V4_0_ (w.heap.size + 2) (some ⟨V4_.heap.size, 0, none⟩) 0 0 [] (some ⟨P.drew.heap.size, 0, none⟩) 0 0 [] none ) := ST4_.out.newx hO hB
        have SK4_0_ : Hid (V4_0_.cell? ⟨w.heap.size, 1, none⟩ = some (.slice a1 4 c1) ∧ V4_0_.cell? ⟨w.heap.size, 2, none⟩ = some (.slice a2 n2 c2)) := ⟨Frame.held_cell ST4_0_.out.below KP.out.2.1, Frame.held_cell ST4_0_.out.below KP.out.2.2⟩
        clear hO hB hS
        refine hK.out _ _ ?_ (fun hHeld => ?_)
        · exact SK4_0_.out
        clear hK K
        (try show wpAnyH _ _ _ _ _ _ _ (Act.put _ (some 6) _) _); (try simp only [Act.put, List.setIfInBounds_toArray, List.set_cons_zero, List.set_cons_succ])
        refine wpAnyH_ready (rs := [3, 9]) (by kernel_rfl) (by simp) ?_
        refine (AllReadyH.cons rfl (fun K hK => ?_) (AllReadyH.cons rfl (fun K hK => ?_) AllReadyH.nil))
        · refine step_int _ (by rfl) _ _ (by rfl) (w.heap.size + 2) (V4_.heap.size) a1 4 c1 d.2.1 (by rfl) (by rfl) (by exact ST4_0_.out.ox) (by exact IsRow.below R1.out ST4_0_.out.below) (by omega) ?_
          intro ax kx V4_0_3_ hA
          have ST4_0_3_ : Hid (St P V4_0_3_ (w.heap.size + 2) ax 4 kx d.2.1 (some ⟨P.drew.heap.size, 0, none⟩) 0 0 [] none ) := ST4_0_.out.appx hA
          have SK4_0_3_ : Hid (V4_0_3_.cell? ⟨w.heap.size, 1, none⟩ = some (.slice a1 4 c1) ∧ V4_0_3_.cell? ⟨w.heap.size, 2, none⟩ = some (.slice a2 n2 c2)) := ⟨Frame.held_cell ST4_0_3_.out.below KP.out.2.1, Frame.held_cell ST4_0_3_.out.below KP.out.2.2⟩
          clear hA
          refine hK.out _ _ ?_ (fun hHeld => ?_)
          · exact SK4_0_3_.out
          clear hK K
          (try show wpAnyH _ _ _ _ _ _ _ (Act.put _ (some 9) _) _); (try simp only [Act.put, List.setIfInBounds_toArray, List.set_cons_zero, List.set_cons_succ])
          refine wpAnyH_ready (rs := [7, 9]) (by kernel_rfl) (by simp) ?_
          refine (AllReadyH.cons rfl (fun K hK => ?_) (AllReadyH.cons rfl (fun K hK => ?_) AllReadyH.nil))
          · refine step_int _ (by rfl) _ _ (by rfl) (w.heap.size + 2) (P.drew.heap.size) a2 n2 c2 d.2.2 (by rfl) (by rfl) (by exact ST4_0_3_.out.oy) (by exact IsRow.below R2.out ST4_0_3_.out.below) (by omega) ?_
            intro ay ky V4_0_3_7_ hA
            have ST4_0_3_7_ : Hid (St P V4_0_3_7_ (w.heap.size + 2) ax 4 kx d.2.1 ay n2 ky d.2.2 none ) := ST4_0_3_.out.appy hA
            have SK4_0_3_7_ : Hid (V4_0_3_7_.cell? ⟨w.heap.size, 1, none⟩ = some (.slice a1 4 c1) ∧ V4_0_3_7_.cell? ⟨w.heap.size, 2, none⟩ = some (.slice a2 n2 c2)) := ⟨Frame.held_cell ST4_0_3_7_.out.below KP.out.2.1, Frame.held_cell ST4_0_3_7_.out.below KP.out.2.2⟩
            clear hA
            refine hK.out _ _ ?_ (fun hHeld => ?_)
            · exact SK4_0_3_7_.out
            clear hK K
            (try show wpAnyH _ _ _ _ _ _ _ (Act.put _ (some 13) _) _); (try simp only [Act.put, List.setIfInBounds_toArray, List.set_cons_zero, List.set_cons_succ])
            refine wpAnyH_take (i := 8) (v := (.agg #[.slice none 0 0, .slice ax 4 kx, .slice ay n2 ky])) rfl (by kernel_rfl) (by kernel_rfl) (by kernel_rfl) (fun _ _ _ h => h) (Or.inl ⟨by rfl, ?_⟩) (by assumption) ?_
            · intro w hSw; (try dsimp only at hSw); go_simp
            (try show wpAnyH _ _ _ _ _ _ _ (Act.put _ (some 14) _) _); (try simp only [Act.put, List.setIfInBounds_toArray, List.set_cons_zero, List.set_cons_succ])
            refine wpAnyH_ready (rs := [9]) (by kernel_rfl) (by simp) ?_
            refine AllReadyH.cons rfl (fun K hK => ?_) AllReadyH.nil
            refine step_box _ (by rfl) (by rfl) ?_
            intro V4_0_3_7_9_ hO hB hS
            have ST4_0_3_7_9_ : Hid (St P V4_0_3_7_9_ (w.heap.size + 2) ax 4 kx d.2.1 ay n2 ky d.2.2 (some ⟨V4_0_3_7_.heap.size, 0, none⟩) ) := ST4_0_3_7_.out.newb hO hB
            have SK4_0_3_7_9_ : Hid (V4_0_3_7_9_.cell? ⟨w.heap.size, 1, none⟩ = some (.slice a1 4 c1) ∧ V4_0_3_7_9_.cell? ⟨w.heap.size, 2, none⟩ = some (.slice a2 n2 c2)) := ⟨Frame.held_cell ST4_0_3_7_9_.out.below KP.out.2.1, Frame.held_cell ST4_0_3_7_9_.out.below KP.out.2.2⟩
            clear hO hB hS
            refine hK.out _ _ ?_ (fun hHeld => ?_)
            · exact SK4_0_3_7_9_.out
            clear hK K
            (try show wpAnyH _ _ _ _ _ _ _ (Act.put _ (some 3) _) _); (try simp only [Act.put, List.setIfInBounds_toArray, List.set_cons_zero, List.set_cons_succ])
            refine wpAnyH_ready (rs := [10]) (by kernel_rfl) (by simp) ?_
            refine AllReadyH.cons rfl (fun K hK => ?_) AllReadyH.nil
            have NB : V4_0_3_7_.heap.size ≠ w.heap.size := by have h : w.heap.size + 2 ≤ V4_0_3_7_.heap.size := (ST4_0_3_7_9_.out.bx _ rfl).1; omega
            have BX : Box V4_0_3_7_9_ (V4_0_3_7_.heap.size) NV NV NV := (ST4_0_3_7_9_.out.bx _ rfl).2
            obtain ⟨e0, e1, e2, e3, e4, e5⟩ := BX
            have SKF : Hid ((((V4_0_3_7_9_.setCell ⟨V4_0_3_7_.heap.size, 0, none⟩ (.slice none 0 0)).setCell ⟨V4_0_3_7_.heap.size, 1, none⟩ (.slice ax 4 kx)).setCell ⟨V4_0_3_7_.heap.size, 2, none⟩ (.slice ay n2 ky)).cell? ⟨w.heap.size, 1, none⟩ = some (.slice a1 4 c1) ∧ (((V4_0_3_7_9_.setCell ⟨V4_0_3_7_.heap.size, 0, none⟩ (.slice none 0 0)).setCell ⟨V4_0_3_7_.heap.size, 1, none⟩ (.slice ax 4 kx)).setCell ⟨V4_0_3_7_.heap.size, 2, none⟩ (.slice ay n2 ky)).cell? ⟨w.heap.size, 2, none⟩ = some (.slice a2 n2 c2)) := ⟨set_cell NB (set_cell NB (set_cell NB SK4_0_3_7_9_.out.1)), set_cell NB (set_cell NB (set_cell NB SK4_0_3_7_9_.out.2))⟩
            go_simp
            clear e0 e1 e2 e3 e4 e5 NB
            refine hK.out _ _ ?_ (fun hHeld => ?_)
            · exact SKF.out
            clear hK K
            (try simp only [Act.put, List.setIfInBounds_toArray, List.set_cons_zero, List.set_cons_succ])
            refine wpAnyH_done (by kernel_rfl) ?_ _
            have FF : New2 P (((V4_0_3_7_9_.setCell ⟨V4_0_3_7_.heap.size, 0, none⟩ (.slice none 0 0)).setCell ⟨V4_0_3_7_.heap.size, 1, none⟩ (.slice ax 4 kx)).setCell ⟨V4_0_3_7_.heap.size, 2, none⟩ (.slice ay n2 ky)) (w.heap.size + 2) ax 4 kx d.2.1 ay n2 ky d.2.2 (V4_0_3_7_.heap.size) := ST4_0_3_7_9_.out.fin
            generalize hW : (((V4_0_3_7_9_.setCell ⟨V4_0_3_7_.heap.size, 0, none⟩ (.slice none 0 0)).setCell ⟨V4_0_3_7_.heap.size, 1, none⟩ (.slice ax 4 kx)).setCell ⟨V4_0_3_7_.heap.size, 2, none⟩ (.slice ay n2 ky)) = WW at FF ⊢
            generalize V4_0_3_7_.heap.size = bb at FF ⊢
            generalize V4_.heap.size = xb
            generalize P.heap.size = yb
            exact HL.out WW ax kx ay ky bb xb yb FF
          · refine step_box _ (by rfl) (by rfl) ?_
            intro V4_0_3_9_ hO hB hS
            have ST4_0_3_9_ : Hid (St P V4_0_3_9_ (w.heap.size + 2) ax 4 kx d.2.1 (some ⟨P.drew.heap.size, 0, none⟩) 0 0 [] (some ⟨V4_0_3_.heap.size, 0, none⟩) ) := ST4_0_3_.out.newb hO hB
            have SK4_0_3_9_ : Hid (V4_0_3_9_.cell? ⟨w.heap.size, 1, none⟩ = some (.slice a1 4 c1) ∧ V4_0_3_9_.cell? ⟨w.heap.size, 2, none⟩ = some (.slice a2 n2 c2)) := ⟨Frame.held_cell ST4_0_3_9_.out.below KP.out.2.1, Frame.held_cell ST4_0_3_9_.out.below KP.out.2.2⟩
            clear hO hB hS
            refine hK.out _ _ ?_ (fun hHeld => ?_)
            · exact SK4_0_3_9_.out
            clear hK K
            (try show wpAnyH _ _ _ _ _ _ _ (Act.put _ (some 3) _) _); (try simp only [Act.put, List.setIfInBounds_toArray, List.set_cons_zero, List.set_cons_succ])
            refine wpAnyH_ready (rs := [7]) (by kernel_rfl) (by simp) ?_
            refine AllReadyH.cons rfl (fun K hK => ?_) AllReadyH.nil
            refine step_int _ (by rfl) _ _ (by rfl) (w.heap.size + 2) (P.drew.heap.size) a2 n2 c2 d.2.2 (by rfl) (by rfl) (by exact ST4_0_3_9_.out.oy) (by exact IsRow.below R2.out ST4_0_3_9_.out.below) (by omega) ?_
            intro ay ky V4_0_3_9_7_ hA
            have ST4_0_3_9_7_ : Hid (St P V4_0_3_9_7_ (w.heap.size + 2) ax 4 kx d.2.1 ay n2 ky d.2.2 (some ⟨V4_0_3_.heap.size, 0, none⟩) ) := ST4_0_3_9_.out.appy hA
            have SK4_0_3_9_7_ : Hid (V4_0_3_9_7_.cell? ⟨w.heap.size, 1, none⟩ = some (.slice a1 4 c1) ∧ V4_0_3_9_7_.cell? ⟨w.heap.size, 2, none⟩ = some (.slice a2 n2 c2)) := ⟨Frame.held_cell ST4_0_3_9_7_.out.below KP.out.2.1, Frame.held_cell ST4_0_3_9_7_.out.below KP.out.2.2⟩
            clear hA
            refine hK.out _ _ ?_ (fun hHeld => ?_)
            · exact SK4_0_3_9_7_.out
            clear hK K
            (try show wpAnyH _ _ _ _ _ _ _ (Act.put _ (some 13) _) _); (try simp only [Act.put, List.setIfInBounds_toArray, List.set_cons_zero, List.set_cons_succ])
            refine wpAnyH_take (i := 8) (v := (.agg #[.slice none 0 0, .slice ax 4 kx, .slice ay n2 ky])) rfl (by kernel_rfl) (by kernel_rfl) (by kernel_rfl) (fun _ _ _ h => h) (Or.inl ⟨by rfl, ?_⟩) (by assumption) ?_
            · intro w hSw; (try dsimp only at hSw); go_simp
            (try show wpAnyH _ _ _ _ _ _ _ (Act.put _ (some 14) _) _); (try simp only [Act.put, List.setIfInBounds_toArray, List.set_cons_zero, List.set_cons_succ])
            refine wpAnyH_ready (rs := [10]) (by kernel_rfl) (by simp) ?_
            refine AllReadyH.cons rfl (fun K hK => ?_) AllReadyH.nil
            have NB : V4_0_3_.heap.size ≠ w.heap.size := by have h : w.heap.size + 2 ≤ V4_0_3_.heap.size := (ST4_0_3_9_7_.out.bx _ rfl).1; omega
            have BX : Box V4_0_3_9_7_ (V4_0_3_.heap.size) NV NV NV := (ST4_0_3_9_7_.out.bx _ rfl).2
            obtain ⟨e0, e1, e2, e3, e4, e5⟩ := BX
            have SKF : Hid ((((V4_0_3_9_7_.setCell ⟨V4_0_3_.heap.size, 0, none⟩ (.slice none 0 0)).setCell ⟨V4_0_3_.heap.size, 1, none⟩ (.slice ax 4 kx)).setCell ⟨V4_0_3_.heap.size, 2, none⟩ (.slice ay n2 ky)).cell? ⟨w.heap.size, 1, none⟩ = some (.slice a1 4 c1) ∧ (((V4_0_3_9_7_.setCell ⟨V4_0_3_.heap.size, 0, none⟩ (.slice none 0 0)).setCell ⟨V4_0_3_.heap.size, 1, none⟩ (.slice ax 4 kx)).setCell ⟨V4_0_3_.heap.size, 2, none⟩ (.slice ay n2 ky)).cell? ⟨w.heap.size, 2, none⟩ = some (.slice a2 n2 c2)) := ⟨set_cell NB (set_cell NB (set_cell NB SK4_0_3_9_7_.out.1)), set_cell NB (set_cell NB (set_cell NB SK4_0_3_9_7_.out.2))⟩
            go_simp
            clear e0 e1 e2 e3 e4 e5 NB
            refine hK.out _ _ ?_ (fun hHeld => ?_)
            · exact SKF.out
            clear hK K
            (try simp only [Act.put, List.setIfInBounds_toArray, List.set_cons_zero, List.set_cons_succ])
            refine wpAnyH_done (by kernel_rfl) ?_ _
            have FF : New2 P (((V4_0_3_9_7_.setCell ⟨V4_0_3_.heap.size, 0, none⟩ (.slice none 0 0)).setCell ⟨V4_0_3_.heap.size, 1, none⟩ (.slice ax 4 kx)).setCell ⟨V4_0_3_.heap.size, 2, none⟩ (.slice ay n2 ky)) (w.heap.size + 2) ax 4 kx d.2.1 ay n2 ky d.2.2 (V4_0_3_.heap.size) := ST4_0_3_9_7_.out.fin
            generalize hW : (((V4_0_3_9_7_.setCell ⟨V4_0_3_.heap.size, 0, none⟩ (.slice none 0 0)).setCell ⟨V4_0_3_.heap.size, 1, none⟩ (.slice ax 4 kx)).setCell ⟨V4_0_3_.heap.size, 2, none⟩ (.slice ay n2 ky)) = WW at FF ⊢
            generalize V4_0_3_.heap.size = bb at FF ⊢
            generalize V4_.heap.size = xb
            generalize P.heap.size = yb
            exact HL.out WW ax kx ay ky bb xb yb FF
        · refine step_box _ (by rfl) (by rfl) ?_
          intro V4_0_9_ hO hB hS
          have ST4_0_9_ : Hid (St P V4_0_9_ (w.heap.size + 2) (some ⟨V4_.heap.size, 0, none⟩) 0 0 [] (some ⟨P.drew.heap.size, 0, none⟩) 0 0 [] (some ⟨V4_0_.heap.size, 0, none⟩) ) := ST4_0_.out.newb hO hB
          have SK4_0_9_ : Hid (V4_0_9_.cell? ⟨w.heap.size, 1, none⟩ = some (.slice a1 4 c1) ∧ V4_0_9_.cell? ⟨w.heap.size, 2, none⟩ = some (.slice a2 n2 c2)) := ⟨Frame.held_cell ST4_0_9_.out.below KP.out.2.1, Frame.held_cell ST4_0_9_.out.below KP.out.2.2⟩
          clear hO hB hS
          refine hK.out _ _ ?_ (fun hHeld => ?_)
          · exact SK4_0_9_.out
          clear hK K
          (try show wpAnyH _ _ _ _ _ _ _ (Act.put _ (some 3) _) _); (try simp only [Act.put, List.setIfInBounds_toArray, List.set_cons_zero, List.set_cons_succ])
          refine wpAnyH_ready (rs := [3]) (by kernel_rfl) (by simp) ?_
          refine AllReadyH.cons rfl (fun K hK => ?_) AllReadyH.nil
          refine step_int _ (by rfl) _ _ (by rfl) (w.heap.size + 2) (V4_.heap.size) a1 4 c1 d.2.1 (by rfl) (by rfl) (by exact ST4_0_9_.out.ox) (by exact IsRow.below R1.out ST4_0_9_.out.below) (by omega) ?_
          intro ax kx V4_0_9_3_ hA
          have ST4_0_9_3_ : Hid (St P V4_0_9_3_ (w.heap.size + 2) ax 4 kx d.2.1 (some ⟨P.drew.heap.size, 0, none⟩) 0 0 [] (some ⟨V4_0_.heap.size, 0, none⟩) ) := ST4_0_9_.out.appx hA
          have SK4_0_9_3_ : Hid (V4_0_9_3_.cell? ⟨w.heap.size, 1, none⟩ = some (.slice a1 4 c1) ∧ V4_0_9_3_.cell? ⟨w.heap.size, 2, none⟩ = some (.slice a2 n2 c2)) := ⟨Frame.held_cell ST4_0_9_3_.out.below KP.out.2.1, Frame.held_cell ST4_0_9_3_.out.below KP.out.2.2⟩
          clear hA
          refine hK.out _ _ ?_ (fun hHeld => ?_)
          · exact SK4_0_9_3_.out
          clear hK K
          (try show wpAnyH _ _ _ _ _ _ _ (Act.put _ (some 9) _) _); (try simp only [Act.put, List.setIfInBounds_toArray, List.set_cons_zero, List.set_cons_succ])
          refine wpAnyH_ready (rs := [7]) (by kernel_rfl) (by simp) ?_
          refine AllReadyH.cons rfl (fun K hK => ?_) AllReadyH.nil
          refine step_int _ (by rfl) _ _ (by rfl) (w.heap.size + 2) (P.drew.heap.size) a2 n2 c2 d.2.2 (by rfl) (by rfl) (by exact ST4_0_9_3_.out.oy) (by exact IsRow.below R2.out ST4_0_9_3_.out.below) (by omega) ?_
          intro ay ky V4_0_9_3_7_ hA
          have ST4_0_9_3_7_ : Hid (St P V4_0_9_3_7_ (w.heap.size + 2) ax 4 kx d.2.1 ay n2 ky d.2.2 (some ⟨V4_0_.heap.size, 0, none⟩) ) := ST4_0_9_3_.out.appy hA
          have SK4_0_9_3_7_ : Hid (V4_0_9_3_7_.cell? ⟨w.heap.size, 1, none⟩ = some (.slice a1 4 c1) ∧ V4_0_9_3_7_.cell? ⟨w.heap.size, 2, none⟩ = some (.slice a2 n2 c2)) := ⟨Frame.held_cell ST4_0_9_3_7_.out.below KP.out.2.1, Frame.held_cell ST4_0_9_3_7_.out.below KP.out.2.2⟩
          clear hA
          refine hK.out _ _ ?_ (fun hHeld => ?_)
          · exact SK4_0_9_3_7_.out
          clear hK K
          (try show wpAnyH _ _ _ _ _ _ _ (Act.put _ (some 13) _) _); (try simp only [Act.put, List.setIfInBounds_toArray, List.set_cons_zero, List.set_cons_succ])
          refine wpAnyH_take (i := 8) (v := (.agg #[.slice none 0 0, .slice ax 4 kx, .slice ay n2 ky])) rfl (by kernel_rfl) (by kernel_rfl) (by kernel_rfl) (fun _ _ _ h => h) (Or.inl ⟨by rfl, ?_⟩) (by assumption) ?_
          · intro w hSw; (try dsimp only at hSw); go_simp
          (try show wpAnyH _ _ _ _ _ _ _ (Act.put _ (some 14) _) _); (try simp only [Act.put, List.setIfInBounds_toArray, List.set_cons_zero, List.set_cons_succ])
          refine wpAnyH_ready (rs := [10]) (by kernel_rfl) (by simp) ?_
          refine AllReadyH.cons rfl (fun K hK => ?_) AllReadyH.nil
          have NB : V4_0_.heap.size ≠ w.heap.size := by have h : w.heap.size + 2 ≤ V4_0_.heap.size := (ST4_0_9_3_7_.out.bx _ rfl).1; omega
          have BX : Box V4_0_9_3_7_ (V4_0_.heap.size) NV NV NV := (ST4_0_9_3_7_.out.bx _ rfl).2
          obtain ⟨e0, e1, e2, e3, e4, e5⟩ := BX
          have SKF : Hid ((((V4_0_9_3_7_.setCell ⟨V4_0_.heap.size, 0, none⟩ (.slice none 0 0)).setCell ⟨V4_0_.heap.size, 1, none⟩ (.slice ax 4 kx)).setCell ⟨V4_0_.heap.size, 2, none⟩ (.slice ay n2 ky)).cell? ⟨w.heap.size, 1, none⟩ = some (.slice a1 4 c1) ∧ (((V4_0_9_3_7_.setCell ⟨V4_0_.heap.size, 0, none⟩ (.slice none 0 0)).setCell ⟨V4_0_.heap.size, 1, none⟩ (.slice ax 4 kx)).setCell ⟨V4_0_.heap.size, 2, none⟩ (.slice ay n2 ky)).cell? ⟨w.heap.size, 2, none⟩ = some (.slice a2 n2 c2)) := ⟨set_cell NB (set_cell NB (set_cell NB SK4_0_9_3_7_.out.1)), set_cell NB (set_cell NB (set_cell NB SK4_0_9_3_7_.out.2))⟩
          go_simp
          clear e0 e1 e2 e3 e4 e5 NB
          refine hK.out _ _ ?_ (fun hHeld => ?_)
          · exact SKF.out
          clear hK K
          (try simp only [Act.put, List.setIfInBounds_toArray, List.set_cons_zero, List.set_cons_succ])
          refine wpAnyH_done (by kernel_rfl) ?_ _
          have FF : New2 P (((V4_0_9_3_7_.setCell ⟨V4_0_.heap.size, 0, none⟩ (.slice none 0 0)).setCell ⟨V4_0_.heap.size, 1, none⟩ (.slice ax 4 kx)).setCell ⟨V4_0_.heap.size, 2, none⟩ (.slice ay n2 ky)) (w.heap.size + 2) ax 4 kx d.2.1 ay n2 ky d.2.2 (V4_0_.heap.size) := ST4_0_9_3_7_.out.fin
          generalize hW : (((V4_0_9_3_7_.setCell ⟨V4_0_.heap.size, 0, none⟩ (.slice none 0 0)).setCell ⟨V4_0_.heap.size, 1, none⟩ (.slice ax 4 kx)).setCell ⟨V4_0_.heap.size, 2, none⟩ (.slice ay n2 ky)) = WW at FF ⊢
          generalize V4_0_.heap.size = bb at FF ⊢
          generalize V4_.heap.size = xb
          generalize P.heap.size = yb
          exact HL.out WW ax kx ay ky bb xb yb FF
      · refine step_box _ (by rfl) (by rfl) ?_
        intro V4_9_ hO hB hS
        have ST4_9_ : Hid (St P V4_9_ (w.heap.size + 2) none 0 0 [] (some ⟨P.drew.heap.size, 0, none⟩) 0 0 [] (some ⟨V4_.heap.size, 0, none⟩) ) := ST4_.out.newb hO hB
        have SK4_9_ : Hid (V4_9_.cell? ⟨w.heap.size, 1, none⟩ = some (.slice a1 4 c1) ∧ V4_9_.cell? ⟨w.heap.size, 2, none⟩ = some (.slice a2 n2 c2)) := ⟨Frame.held_cell ST4_9_.out.below KP.out.2.1, Frame.held_cell ST4_9_.out.below KP.out.2.2⟩
        clear hO hB hS
        refine hK.out _ _ ?_ (fun hHeld => ?_)
        · exact SK4_9_.out
        clear hK K
        (try show wpAnyH _ _ _ _ _ _ _ (Act.put _ (some 3) _) _); (try simp only [Act.put, List.setIfInBounds_toArray, List.set_cons_zero, List.set_cons_succ])
        refine wpAnyH_ready (rs := [0]) (by kernel_rfl) (by simp) ?_
        refine AllReadyH.cons rfl (fun K hK => ?_) AllReadyH.nil
        refine step_empty _ (by rfl) (by rfl) ?_
        intro V4_9_0_ hO hB hS
        have ST4_9_0_ : Hid (St P V4_9_0_ (w.heap.size + 2) (some ⟨V4_9_.heap.size, 0, none⟩) 0 0 [] (some ⟨P.drew.heap.size, 0, none⟩) 0 0 [] (some ⟨V4_.heap.size, 0, none⟩) ) := ST4_9_.out.newx hO hB
        have SK4_9_0_ : Hid (V4_9_0_.cell? ⟨w.heap.size, 1, none⟩ = some (.slice a1 4 c1) ∧ V4_9_0_.cell? ⟨w.heap.size, 2, none⟩ = some (.slice a2 n2 c2)) := ⟨Frame.held_cell ST4_9_0_.out.below KP.out.2.1, Frame.held_cell ST4_9_0_.out.below KP.out.2.2⟩
        clear hO hB hS
        refine hK.out _ _ ?_ (fun hHeld => ?_)
        · exact SK4_9_0_.out
        clear hK K
        (try show wpAnyH _ _ _ _ _ _ _ (Act.put _ (some 6) _) _); (try simp only [Act.put, List.setIfInBounds_toArray, List.set_cons_zero, List.set_cons_succ])
        refine wpAnyH_ready (rs := [3]) (by kernel_rfl) (by simp) ?_
        refine AllReadyH.cons rfl (fun K hK => ?_) AllReadyH.nil
        refine step_int _ (by rfl) _ _ (by rfl) (w.heap.size + 2) (V4_9_.heap.size) a1 4 c1 d.2.1 (by rfl) (by rfl) (by exact ST4_9_0_.out.ox) (by exact IsRow.below R1.out ST4_9_0_.out.below) (by omega) ?_
        intro ax kx V4_9_0_3_ hA
        have ST4_9_0_3_ : Hid (St P V4_9_0_3_ (w.heap.size + 2) ax 4 kx d.2.1 (some ⟨P.drew.heap.size, 0, none⟩) 0 0 [] (some ⟨V4_.heap.size, 0, none⟩) ) := ST4_9_0_.out.appx hA
        have SK4_9_0_3_ : Hid (V4_9_0_3_.cell? ⟨w.heap.size, 1, none⟩ = some (.slice a1 4 c1) ∧ V4_9_0_3_.cell? ⟨w.heap.size, 2, none⟩ = some (.slice a2 n2 c2)) := ⟨Frame.held_cell ST4_9_0_3_.out.below KP.out.2.1, Frame.held_cell ST4_9_0_3_.out.below KP.out.2.2⟩
        clear hA
        refine hK.out _ _ ?_ (fun hHeld => ?_)
        · exact SK4_9_0_3_.out
        clear hK K
        (try show wpAnyH _ _ _ _ _ _ _ (Act.put _ (some 9) _) _); (try simp only [Act.put, List.setIfInBounds_toArray, List.set_cons_zero, List.set_cons_succ])
        refine wpAnyH_ready (rs := [7]) (by kernel_rfl) (by simp) ?_
        refine AllReadyH.cons rfl (fun K hK => ?_) AllReadyH.nil
        refine step_int _ (by rfl) _ _ (by rfl) (w.heap.size + 2) (P.drew.heap.size) a2 n2 c2 d.2.2 (by rfl) (by rfl) (by exact ST4_9_0_3_.out.oy) (by exact IsRow.below R2.out ST4_9_0_3_.out.below) (by omega) ?_
        intro ay ky V4_9_0_3_7_ hA
        have ST4_9_0_3_7_ : Hid (St P V4_9_0_3_7_ (w.heap.size + 2) ax 4 kx d.2.1 ay n2 ky d.2.2 (some ⟨V4_.heap.size, 0, none⟩) ) := ST4_9_0_3_.out.appy hA
        have SK4_9_0_3_7_ : Hid (V4_9_0_3_7_.cell? ⟨w.heap.size, 1, none⟩ = some (.slice a1 4 c1) ∧ V4_9_0_3_7_.cell? ⟨w.heap.size, 2, none⟩ = some (.slice a2 n2 c2)) := ⟨Frame.held_cell ST4_9_0_3_7_.out.below KP.out.2.1, Frame.held_cell ST4_9_0_3_7_.out.below KP.out.2.2⟩
        clear hA
        refine hK.out _ _ ?_ (fun hHeld => ?_)
        · exact SK4_9_0_3_7_.out
        clear hK K
        (try show wpAnyH _ _ _ _ _ _ _ (Act.put _ (some 13) _) _); (try simp only [Act.put, List.setIfInBounds_toArray, List.set_cons_zero, List.set_cons_succ])
        refine wpAnyH_take (i := 8) (v := (.agg #[.slice none 0 0, .slice ax 4 kx, .slice ay n2 ky])) rfl (by kernel_rfl) (by kernel_rfl) (by kernel_rfl) (fun _ _ _ h => h) (Or.inl ⟨by rfl, ?_⟩) (by assumption) ?_
        · intro w hSw; (try dsimp only at hSw); go_simp
        (try show wpAnyH _ _ _ _ _ _ _ (Act.put _ (some 14) _) _); (try simp only [Act.put, List.setIfInBounds_toArray, List.set_cons_zero, List.set_cons_succ])
        refine wpAnyH_ready (rs := [10]) (by kernel_rfl) (by simp) ?_
        refine AllReadyH.cons rfl (fun K hK => ?_) AllReadyH.nil
        have NB : V4_.heap.size ≠ w.heap.size := by have h : w.heap.size + 2 ≤ V4_.heap.size := (ST4_9_0_3_7_.out.bx _ rfl).1; omega
        have BX : Box V4_9_0_3_7_ (V4_.heap.size) NV NV NV := (ST4_9_0_3_7_.out.bx _ rfl).2
        obtain ⟨e0, e1, e2, e3, e4, e5⟩ := BX
        have SKF : Hid ((((V4_9_0_3_7_.setCell ⟨V4_.heap.size, 0, none⟩ (.slice none 0 0)).setCell ⟨V4_.heap.size, 1, none⟩ (.slice ax 4 kx)).setCell ⟨V4_.heap.size, 2, none⟩ (.slice ay n2 ky)).cell? ⟨w.heap.size, 1, none⟩ = some (.slice a1 4 c1) ∧ (((V4_9_0_3_7_.setCell ⟨V4_.heap.size, 0, none⟩ (.slice none 0 0)).setCell ⟨V4_.heap.size, 1, none⟩ (.slice ax 4 kx)).setCell ⟨V4_.heap.size, 2, none⟩ (.slice ay n2 ky)).cell? ⟨w.heap.size, 2, none⟩ = some (.slice a2 n2 c2)) := ⟨set_cell NB (set_cell NB (set_cell NB SK4_9_0_3_7_.out.1)), set_cell NB (set_cell NB (set_cell NB SK4_9_0_3_7_.out.2))⟩
        go_simp
        clear e0 e1 e2 e3 e4 e5 NB
        refine hK.out _ _ ?_ (fun hHeld => ?_)
        · exact SKF.out
        clear hK K
        (try simp only [Act.put, List.setIfInBounds_toArray, List.set_cons_zero, List.set_cons_succ])
        refine wpAnyH_done (by kernel_rfl) ?_ _
        have FF : New2 P (((V4_9_0_3_7_.setCell ⟨V4_.heap.size, 0, none⟩ (.slice none 0 0)).setCell ⟨V4_.heap.size, 1, none⟩ (.slice ax 4 kx)).setCell ⟨V4_.heap.size, 2, none⟩ (.slice ay n2 ky)) (w.heap.size + 2) ax 4 kx d.2.1 ay n2 ky d.2.2 (V4_.heap.size) := ST4_9_0_3_7_.out.fin
        generalize hW : (((V4_9_0_3_7_.setCell ⟨V4_.heap.size, 0, none⟩ (.slice none 0 0)).setCell ⟨V4_.heap.size, 1, none⟩ (.slice ax 4 kx)).setCell ⟨V4_.heap.size, 2, none⟩ (.slice ay n2 ky)) = WW at FF ⊢
        generalize V4_.heap.size = bb at FF ⊢
        generalize V4_9_.heap.size = xb
        generalize P.heap.size = yb
        exact HL.out WW ax kx ay ky bb xb yb FF
    · refine step_box _ (by rfl) (by rfl) ?_
      intro V9_ hO hB hS
      have ST9_ : Hid (St P V9_ (w.heap.size + 2) none 0 0 [] none 0 0 [] (some ⟨P.drew.heap.size, 0, none⟩) ) := STs.out.newb hO hB
      have SK9_ : Hid (V9_.cell? ⟨w.heap.size, 1, none⟩ = some (.slice a1 4 c1) ∧ V9_.cell? ⟨w.heap.size, 2, none⟩ = some (.slice a2 n2 c2)) := ⟨Frame.held_cell ST9_.out.below KP.out.2.1, Frame.held_cell ST9_.out.below KP.out.2.2⟩
      clear hO hB hS
      refine hK.out _ _ ?_ (fun hHeld => ?_)
      · exact SK9_.out
      clear hK K
      (try show wpAnyH _ _ _ _ _ _ _ (Act.put _ (some 3) _) _); (try simp only [Act.put, List.setIfInBounds_toArray, List.set_cons_zero, List.set_cons_succ])
      refine wpAnyH_ready (rs := [0, 4]) (by kernel_rfl) (by simp) ?_
      refine (AllReadyH.cons rfl (fun K hK => ?_) (AllReadyH.cons rfl (fun K hK => ?_) AllReadyH.nil))
      · refine step_empty _ (by rfl) (by rfl) ?_
        intro V9_0_ hO hB hS
        have ST9_0_ : Hid (St P V9_0_ (w.heap.size + 2) (some ⟨V9_.heap.size, 0, none⟩) 0 0 [] none 0 0 [] (some ⟨P.drew.heap.size, 0, none⟩) ) := ST9_.out.newx hO hB
        have SK9_0_ : Hid (V9_0_.cell? ⟨w.heap.size, 1, none⟩ = some (.slice a1 4 c1) ∧ V9_0_.cell? ⟨w.heap.size, 2, none⟩ = some (.slice a2 n2 c2)) := ⟨Frame.held_cell ST9_0_.out.below KP.out.2.1, Frame.held_cell ST9_0_.out.below KP.out.2.2⟩
        clear hO hB hS
        refine hK.out _ _ ?_ (fun hHeld => ?_)
        · exact SK9_0_.out
        clear hK K
        (try show wpAnyH _ _ _ _ _ _ _ (Act.put _ (some 6) _) _); (try simp only [Act.put, List.setIfInBounds_toArray, List.set_cons_zero, List.set_cons_succ])
        refine wpAnyH_ready (rs := [3, 4]) (by kernel_rfl) (by simp) ?_
        refine (AllReadyH.cons rfl (fun K hK => ?_) (AllReadyH.cons rfl (fun K hK => ?_) AllReadyH.nil))
        · refine step_int _ (by rfl) _ _ (by rfl) (w.heap.size + 2) (V9_.heap.size) a1 4 c1 d.2.1 (by rfl) (by rfl) (by exact ST9_0_.out.ox) (by exact IsRow.below R1.out ST9_0_.out.below) (by omega) ?_
          intro ax kx V9_0_3_ hA
          have ST9_0_3_ : Hid (St P V9_0_3_ (w.heap.size + 2) ax 4 kx d.2.1 none 0 0 [] (some ⟨P.drew.heap.size, 0, none⟩) ) := ST9_0_.out.appx hA
          have SK9_0_3_ : Hid (V9_0_3_.cell? ⟨w.heap.size, 1, none⟩ = some (.slice a1 4 c1) ∧ V9_0_3_.cell? ⟨w.heap.size, 2, none⟩ = some (.slice a2 n2 c2)) := ⟨Frame.held_cell ST9_0_3_.out.below KP.out.2.1, Frame.held_cell ST9_0_3_.out.below KP.out.2.2⟩
          clear hA
          refine hK.out _ _ ?_ (fun hHeld => ?_)
          · exact SK9_0_3_.out
          clear hK K
          (try show wpAnyH _ _ _ _ _ _ _ (Act.put _ (some 9) _) _); (try simp only [Act.put, List.setIfInBounds_toArray, List.set_cons_zero, List.set_cons_succ])
          refine wpAnyH_ready (rs := [4]) (by kernel_rfl) (by simp) ?_
          refine AllReadyH.cons rfl (fun K hK => ?_) AllReadyH.nil
          refine step_empty _ (by rfl) (by rfl) ?_
          intro V9_0_3_4_ hO hB hS
          have ST9_0_3_4_ : Hid (St P V9_0_3_4_ (w.heap.size + 2) ax 4 kx d.2.1 (some ⟨V9_0_3_.heap.size, 0, none⟩) 0 0 [] (some ⟨P.drew.heap.size, 0, none⟩) ) := ST9_0_3_.out.newy hO hB
          have SK9_0_3_4_ : Hid (V9_0_3_4_.cell? ⟨w.heap.size, 1, none⟩ = some (.slice a1 4 c1) ∧ V9_0_3_4_.cell? ⟨w.heap.size, 2, none⟩ = some (.slice a2 n2 c2)) := ⟨Frame.held_cell ST9_0_3_4_.out.below KP.out.2.1, Frame.held_cell ST9_0_3_4_.out.below KP.out.2.2⟩
          clear hO hB hS
          refine hK.out _ _ ?_ (fun hHeld => ?_)
          · exact SK9_0_3_4_.out
          clear hK K
          (try show wpAnyH _ _ _ _ _ _ _ (Act.put _ (some 10) _) _); (try simp only [Act.put, List.setIfInBounds_toArray, List.set_cons_zero, List.set_cons_succ])
          refine wpAnyH_ready (rs := [7]) (by kernel_rfl) (by simp) ?_
          refine AllReadyH.cons rfl (fun K hK => ?_) AllReadyH.nil
          refine step_int _ (by rfl) _ _ (by rfl) (w.heap.size + 2) (V9_0_3_.heap.size) a2 n2 c2 d.2.2 (by rfl) (by rfl) (by exact ST9_0_3_4_.out.oy) (by exact IsRow.below R2.out ST9_0_3_4_.out.below) (by omega) ?_
          intro ay ky V9_0_3_4_7_ hA
          have ST9_0_3_4_7_ : Hid (St P V9_0_3_4_7_ (w.heap.size + 2) ax 4 kx d.2.1 ay n2 ky d.2.2 (some ⟨P.drew.heap.size, 0, none⟩) ) := ST9_0_3_4_.out.appy hA
          have SK9_0_3_4_7_ : Hid (V9_0_3_4_7_.cell? ⟨w.heap.size, 1, none⟩ = some (.slice a1 4 c1) ∧ V9_0_3_4_7_.cell? ⟨w.heap.size, 2, none⟩ = some (.slice a2 n2 c2)) := ⟨Frame.held_cell ST9_0_3_4_7_.out.below KP.out.2.1, Frame.held_cell ST9_0_3_4_7_.out.below KP.out.2.2⟩
          clear hA
          refine hK.out _ _ ?_ (fun hHeld => ?_)
          · exact SK9_0_3_4_7_.out
          clear hK K
          (try show wpAnyH _ _ _ _ _ _ _ (Act.put _ (some 13) _) _); (try simp only [Act.put, List.setIfInBounds_toArray, List.set_cons_zero, List.set_cons_succ])
          refine wpAnyH_take (i := 8) (v := (.agg #[.slice none 0 0, .slice ax 4 kx, .slice ay n2 ky])) rfl (by kernel_rfl) (by kernel_rfl) (by kernel_rfl) (fun _ _ _ h => h) (Or.inl ⟨by rfl, ?_⟩) (by assumption) ?_
          · intro w hSw; (try dsimp only at hSw); go_simp
          (try show wpAnyH _ _ _ _ _ _ _ (Act.put _ (some 14) _) _); (try simp only [Act.put, List.setIfInBounds_toArray, List.set_cons_zero, List.set_cons_succ])
          refine wpAnyH_ready (rs := [10]) (by kernel_rfl) (by simp) ?_
          refine AllReadyH.cons rfl (fun K hK => ?_) AllReadyH.nil
          have NB : P.heap.size ≠ w.heap.size := by have h : w.heap.size + 2 ≤ P.heap.size := (ST9_0_3_4_7_.out.bx _ rfl).1; omega
          have BX : Box V9_0_3_4_7_ (P.heap.size) NV NV NV := (ST9_0_3_4_7_.out.bx _ rfl).2
          obtain ⟨e0, e1, e2, e3, e4, e5⟩ := BX
          have SKF : Hid ((((V9_0_3_4_7_.setCell ⟨P.heap.size, 0, none⟩ (.slice none 0 0)).setCell ⟨P.heap.size, 1, none⟩ (.slice ax 4 kx)).setCell ⟨P.heap.size, 2, none⟩ (.slice ay n2 ky)).cell? ⟨w.heap.size, 1, none⟩ = some (.slice a1 4 c1) ∧ (((V9_0_3_4_7_.setCell ⟨P.heap.size, 0, none⟩ (.slice none 0 0)).setCell ⟨P.heap.size, 1, none⟩ (.slice ax 4 kx)).setCell ⟨P.heap.size, 2, none⟩ (.slice ay n2 ky)).cell? ⟨w.heap.size, 2, none⟩ = some (.slice a2 n2 c2)) := ⟨set_cell NB (set_cell NB (set_cell NB SK9_0_3_4_7_.out.1)), set_cell NB (set_cell NB (set_cell NB SK9_0_3_4_7_.out.2))⟩
          go_simp
          clear e0 e1 e2 e3 e4 e5 NB
          refine hK.out _ _ ?_ (fun hHeld => ?_)
          · exact SKF.out
          clear hK K
          (try simp only [Act.put, List.setIfInBounds_toArray, List.set_cons_zero, List.set_cons_succ])
          refine wpAnyH_done (by kernel_rfl) ?_ _
          have FF : New2 P (((V9_0_3_4_7_.setCell ⟨P.heap.size, 0, none⟩ (.slice none 0 0)).setCell ⟨P.heap.size, 1, none⟩ (.slice ax 4 kx)).setCell ⟨P.heap.size, 2, none⟩ (.slice ay n2 ky)) (w.heap.size + 2) ax 4 kx d.2.1 ay n2 ky d.2.2 (P.heap.size) := ST9_0_3_4_7_.out.fin
          generalize hW : (((V9_0_3_4_7_.setCell ⟨P.heap.size, 0, none⟩ (.slice none 0 0)).setCell ⟨P.heap.size, 1, none⟩ (.slice ax 4 kx)).setCell ⟨P.heap.size, 2, none⟩ (.slice ay n2 ky)) = WW at FF ⊢
          generalize P.heap.size = bb at FF ⊢
          generalize V9_.heap.size = xb
          generalize V9_0_3_.heap.size = yb
          exact HL.out WW ax kx ay ky bb xb yb FF
        · refine step_empty _ (by rfl) (by rfl) ?_
          intro V9_0_4_ hO hB hS
          have ST9_0_4_ : Hid (St P V9_0_4_ (w.heap.size + 2) (some ⟨V9_.heap.size, 0, none⟩) 0 0 [] (some ⟨V9_0_.heap.size, 0, none⟩) 0 0 [] (some ⟨P.drew.heap.size, 0, none⟩) ) := ST9_0_.out.newy hO hB
          have SK9_0_4_ : Hid (V9_0_4_.cell? ⟨w.heap.size, 1, none⟩ = some (.slice a1 4 c1) ∧ V9_0_4_.cell? ⟨w.heap.size, 2, none⟩ = some (.slice a2 n2 c2)) := ⟨Frame.held_cell ST9_0_4_.out.below KP.out.2.1, Frame.held_cell ST9_0_4_.out.below KP.out.2.2⟩
          clear hO hB hS
          refine hK.out _ _ ?_ (fun hHeld => ?_)
          · exact SK9_0_4_.out
          clear hK K
          (try show wpAnyH _ _ _ _ _ _ _ (Act.put _ (some 10) _) _); (try simp only [Act.put, List.setIfInBounds_toArray, List.set_cons_zero, List.set_cons_succ])
          refine wpAnyH_ready (rs := [3]) (by kernel_rfl) (by simp) ?_
          refine AllReadyH.cons rfl (fun K hK => ?_) AllReadyH.nil
          refine step_int _ (by rfl) _ _ (by rfl) (w.heap.size + 2) (V9_.heap.size) a1 4 c1 d.2.1 (by rfl) (by rfl) (by exact ST9_0_4_.out.ox) (by exact IsRow.below R1.out ST9_0_4_.out.below) (by omega) ?_
          intro ax kx V9_0_4_3_ hA
          have ST9_0_4_3_ : Hid (St P V9_0_4_3_ (w.heap.size + 2) ax 4 kx d.2.1 (some ⟨V9_0_.heap.size, 0, none⟩) 0 0 [] (some ⟨P.drew.heap.size, 0, none⟩) ) := ST9_0_4_.out.appx hA
          have SK9_0_4_3_ : Hid (V9_0_4_3_.cell? ⟨w.heap.size, 1, none⟩ = some (.slice a1 4 c1) ∧ V9_0_4_3_.cell? ⟨w.heap.size, 2, none⟩ = some (.slice a2 n2 c2)) := ⟨Frame.held_cell ST9_0_4_3_.out.below KP.out.2.1, Frame.held_cell ST9_0_4_3_.out.below KP.out.2.2⟩
          clear hA
          refine hK.out _ _ ?_ (fun hHeld => ?_)
          · exact SK9_0_4_3_.out
          clear hK K
          (try show wpAnyH _ _ _ _ _ _ _ (Act.put _ (some 9) _) _); (try simp only [Act.put, List.setIfInBounds_toArray, List.set_cons_zero, List.set_cons_succ])
          refine wpAnyH_ready (rs := [7]) (by kernel_rfl) (by simp) ?_
          refine AllReadyH.cons rfl (fun K hK => ?_) AllReadyH.nil
          refine step_int _ (by rfl) _ _ (by rfl) (w.heap.size + 2) (V9_0_.heap.size) a2 n2 c2 d.2.2 (by rfl) (by rfl) (by exact ST9_0_4_3_.out.oy) (by exact IsRow.below R2.out ST9_0_4_3_.out.below) (by omega) ?_
          intro ay ky V9_0_4_3_7_ hA
          have ST9_0_4_3_7_ : Hid (St P V9_0_4_3_7_ (w.heap.size + 2) ax 4 kx d.2.1 ay n2 ky d.2.2 (some ⟨P.drew.heap.size, 0, none⟩) ) := ST9_0_4_3_.out.appy hA
          have SK9_0_4_3_7_ : Hid (V9_0_4_3_7_.cell? ⟨w.heap.size, 1, none⟩ = some (.slice a1 4 c1) ∧ V9_0_4_3_7_.cell? ⟨w.heap.size, 2, none⟩ = some (.slice a2 n2 c2)) := ⟨Frame.held_cell ST9_0_4_3_7_.out.below KP.out.2.1, Frame.held_cell ST9_0_4_3_7_.out.below KP.out.2.2⟩
          clear hA
          refine hK.out _ _ ?_ (fun hHeld => ?_)
          · exact SK9_0_4_3_7_.out
          clear hK K
          (try show wpAnyH _ _ _ _ _ _ _ (Act.put _ (some 13) _) _); (try simp only [Act.put, List.setIfInBounds_toArray, List.set_cons_zero, List.set_cons_succ])
          refine wpAnyH_take (i := 8) (v := (.agg #[.slice none 0 0, .slice ax 4 kx, .slice ay n2 ky])) rfl (by kernel_rfl) (by kernel_rfl) (by kernel_rfl) (fun _ _ _ h => h) (Or.inl ⟨by rfl, ?_⟩) (by assumption) ?_
          · intro w hSw; (try dsimp only at hSw); go_simp
          (try show wpAnyH _ _ _ _ _ _ _ (Act.put _ (some 14) _) _); (try simp only [Act.put, List.setIfInBounds_toArray, List.set_cons_zero, List.set_cons_succ])
          refine wpAnyH_ready (rs := [10]) (by kernel_rfl) (by simp) ?_
          refine AllReadyH.cons rfl (fun K hK => ?_) AllReadyH.nil
          have NB : P.heap.size ≠ w.heap.size := by have h : w.heap.size + 2 ≤ P.heap.size := (ST9_0_4_3_7_.out.bx _ rfl).1; omega
          have BX : Box V9_0_4_3_7_ (P.heap.size) NV NV NV := (ST9_0_4_3_7_.out.bx _ rfl).2
          obtain ⟨e0, e1, e2, e3, e4, e5⟩ := BX
          have SKF : Hid ((((V9_0_4_3_7_.setCell ⟨P.heap.size, 0, none⟩ (.slice none 0 0)).setCell ⟨P.heap.size, 1, none⟩ (.slice ax 4 kx)).setCell ⟨P.heap.size, 2, none⟩ (.slice ay n2 ky)).cell? ⟨w.heap.size, 1, none⟩ = some (.slice a1 4 c1) ∧ (((V9_0_4_3_7_.setCell ⟨P.heap.size, 0, none⟩ (.slice none 0 0)).setCell ⟨P.heap.size, 1, none⟩ (.slice ax 4 kx)).setCell ⟨P.heap.size, 2, none⟩ (.slice ay n2 ky)).cell? ⟨w.heap.size, 2, none⟩ = some (.slice a2 n2 c2)) := ⟨set_cell NB (set_cell NB (set_cell NB SK9_0_4_3_7_.out.1)), set_cell NB (set_cell NB (set_cell NB SK9_0_4_3_7_.out.2))⟩
          go_simp
          clear e0 e1 e2 e3 e4 e5 NB
          refine hK.out _ _ ?_ (fun hHeld => ?_)
          · exact SKF.out
          clear hK K
          (try simp only [Act.put, List.setIfInBounds_toArray, List.set_cons_zero, List.set_cons_succ])
          refine wpAnyH_done (by kernel_rfl) ?_ _
          have FF : New2 P (((V9_0_4_3_7_.setCell ⟨P.heap.size, 0, none⟩ (.slice none 0 0)).setCell ⟨P.heap.size, 1, none⟩ (.slice ax 4 kx)).setCell ⟨P.heap.size, 2, none⟩ (.slice ay n2 ky)) (w.heap.size + 2) ax 4 kx d.2.1 ay n2 ky d.2.2 (P.heap.size) := ST9_0_4_3_7_.out.fin
          generalize hW : (((V9_0_4_3_7_.setCell ⟨P.heap.size, 0, none⟩ (.slice none 0 0)).setCell ⟨P.heap.size, 1, none⟩ (.slice ax 4 kx)).setCell ⟨P.heap.size, 2, none⟩ (.slice ay n2 ky)) = WW at FF ⊢
          generalize P.heap.size = bb at FF ⊢
          generalize V9_.heap.size = xb
          generalize V9_0_.heap.size = yb
          exact HL.out WW ax kx ay ky bb xb yb FF
      · refine step_empty _ (by rfl) (by rfl) ?_
        intro V9_4_ hO hB hS
        have ST9_4_ : Hid (St P V9_4_ (w.heap.size + 2) none 0 0 [] (some ⟨V9_.heap.size, 0, none⟩) 0 0 [] (some ⟨P.drew.heap.size, 0, none⟩) ) := ST9_.out.newy hO hB
        have SK9_4_ : Hid (V9_4_.cell? ⟨w.heap.size, 1, none⟩ = some (.slice a1 4 c1) ∧ V9_4_.cell? ⟨w.heap.size, 2, none⟩ = some (.slice a2 n2 c2)) := ⟨Frame.held_cell ST9_4_.out.below KP.out.2.1, Frame.held_cell ST9_4_.out.below KP.out.2.2⟩
        clear hO hB hS
        refine hK.out _ _ ?_ (fun hHeld => ?_)
        · exact SK9_4_.out
        clear hK K
        (try show wpAnyH _ _ _ _ _ _ _ (Act.put _ (some 10) _) _); (try simp only [Act.put, List.setIfInBounds_toArray, List.set_cons_zero, List.set_cons_succ])
        refine wpAnyH_ready (rs := [0]) (by kernel_rfl) (by simp) ?_
        refine AllReadyH.cons rfl (fun K hK => ?_) AllReadyH.nil
        refine step_empty _ (by rfl) (by rfl) ?_
        intro V9_4_0_ hO hB hS
        have ST9_4_0_ : Hid (St P V9_4_0_ (w.heap.size + 2) (some ⟨V9_4_.heap.size, 0, none⟩) 0 0 [] (some ⟨V9_.heap.size, 0, none⟩) 0 0 [] (some ⟨P.drew.heap.size, 0, none⟩) ) := ST9_4_.out.newx hO hB
        have SK9_4_0_ : Hid (V9_4_0_.cell? ⟨w.heap.size, 1, none⟩ = some (.slice a1 4 c1) ∧ V9_4_0_.cell? ⟨w.heap.size, 2, none⟩ = some (.slice a2 n2 c2)) := ⟨Frame.held_cell ST9_4_0_.out.below KP.out.2.1, Frame.held_cell ST9_4_0_.out.below KP.out.2.2⟩
        clear hO hB hS
        refine hK.out _ _ ?_ (fun hHeld => ?_)
        · exact SK9_4_0_.out
        clear hK K
        (try show wpAnyH _ _ _ _ _ _ _ (Act.put _ (some 6) _) _); (try simp only [Act.put, List.setIfInBounds_toArray, List.set_cons_zero, List.set_cons_succ])
        refine wpAnyH_ready (rs := [3]) (by kernel_rfl) (by simp) ?_
        refine AllReadyH.cons rfl (fun K hK => ?_) AllReadyH.nil
        refine step_int _ (by rfl) _ _ (by rfl) (w.heap.size + 2) (V9_4_.heap.size) a1 4 c1 d.2.1 (by rfl) (by rfl) (by exact ST9_4_0_.out.ox) (by exact IsRow.below R1.out ST9_4_0_.out.below) (by omega) ?_
        intro ax kx V9_4_0_3_ hA
        have ST9_4_0_3_ : Hid (St P V9_4_0_3_ (w.heap.size + 2) ax 4 kx d.2.1 (some ⟨V9_.heap.size, 0, none⟩) 0 0 [] (some ⟨P.drew.heap.size, 0, none⟩) ) := ST9_4_0_.out.appx hA
        have SK9_4_0_3_ : Hid (V9_4_0_3_.cell? ⟨w.heap.size, 1, none⟩ = some (.slice a1 4 c1) ∧ V9_4_0_3_.cell? ⟨w.heap.size, 2, none⟩ = some (.slice a2 n2 c2)) := ⟨Frame.held_cell ST9_4_0_3_.out.below KP.out.2.1, Frame.held_cell ST9_4_0_3_.out.below KP.out.2.2⟩
        clear hA
        refine hK.out _ _ ?_ (fun hHeld => ?_)
        · exact SK9_4_0_3_.out
        clear hK K
        (try show wpAnyH _ _ _ _ _ _ _ (Act.put _ (some 9) _) _); (try simp only [Act.put, List.setIfInBounds_toArray, List.set_cons_zero, List.set_cons_succ])
        refine wpAnyH_ready (rs := [7]) (by kernel_rfl) (by simp) ?_
        refine AllReadyH.cons rfl (fun K hK => ?_) AllReadyH.nil
        refine step_int _ (by rfl) _ _ (by rfl) (w.heap.size + 2) (V9_.heap.size) a2 n2 c2 d.2.2 (by rfl) (by rfl) (by exact ST9_4_0_3_.out.oy) (by exact IsRow.below R2.out ST9_4_0_3_.out.below) (by omega) ?_
        intro ay ky V9_4_0_3_7_ hA
        have ST9_4_0_3_7_ : Hid (St P V9_4_0_3_7_ (w.heap.size + 2) ax 4 kx d.2.1 ay n2 ky d.2.2 (some ⟨P.drew.heap.size, 0, none⟩) ) := ST9_4_0_3_.out.appy hA
        have SK9_4_0_3_7_ : Hid (V9_4_0_3_7_.cell? ⟨w.heap.size, 1, none⟩ = some (.slice a1 4 c1) ∧ V9_4_0_3_7_.cell? ⟨w.heap.size, 2, none⟩ = some (.slice a2 n2 c2)) := ⟨Frame.held_cell ST9_4_0_3_7_.out.below KP.out.2.1, Frame.held_cell ST9_4_0_3_7_.out.below KP.out.2.2⟩
        clear hA
        refine hK.out _ _ ?_ (fun hHeld => ?_)
        · exact SK9_4_0_3_7_.out
        clear hK K
        (try show wpAnyH _ _ _ _ _ _ _ (Act.put _ (some 13) _) _); (try simp only [Act.put, List.setIfInBounds_toArray, List.set_cons_zero, List.set_cons_succ])
        refine wpAnyH_take (i := 8) (v := (.agg #[.slice none 0 0, .slice ax 4 kx, .slice ay n2 ky])) rfl (by kernel_rfl) (by kernel_rfl) (by kernel_rfl) (fun _ _ _ h => h) (Or.inl ⟨by rfl, ?_⟩) (by assumption) ?_
        · intro w hSw; (try dsimp only at hSw); go_simp
        (try show wpAnyH _ _ _ _ _ _ _ (Act.put _ (some 14) _) _); (try simp only [Act.put, List.setIfInBounds_toArray, List.set_cons_zero, List.set_cons_succ])
        refine wpAnyH_ready (rs := [10]) (by kernel_rfl) (by simp) ?_
        refine AllReadyH.cons rfl (fun K hK => ?_) AllReadyH.nil
        have NB : P.heap.size ≠ w.heap.size := by have h : w.heap.size + 2 ≤ P.heap.size := (ST9_4_0_3_7_.out.bx _ rfl).1; omega
        have BX : Box V9_4_0_3_7_ (P.heap.size) NV NV NV := (ST9_4_0_3_7_.out.bx _ rfl).2
        obtain ⟨e0, e1, e2, e3, e4, e5⟩ := BX
        have SKF : Hid ((((V9_4_0_3_7_.setCell ⟨P.heap.size, 0, none⟩ (.slice none 0 0)).setCell ⟨P.heap.size, 1, none⟩ (.slice ax 4 kx)).setCell ⟨P.heap.size, 2, none⟩ (.slice ay n2 ky)).cell? ⟨w.heap.size, 1, none⟩ = some (.slice a1 4 c1) ∧ (((V9_4_0_3_7_.setCell ⟨P.heap.size, 0, none⟩ (.slice none 0 0)).setCell ⟨P.heap.size, 1, none⟩ (.slice ax 4 kx)).setCell ⟨P.heap.size, 2, none⟩ (.slice ay n2 ky)).cell? ⟨w.heap.size, 2, none⟩ = some (.slice a2 n2 c2)) := ⟨set_cell NB (set_cell NB (set_cell NB SK9_4_0_3_7_.out.1)), set_cell NB (set_cell NB (set_cell NB SK9_4_0_3_7_.out.2))⟩
        go_simp
        clear e0 e1 e2 e3 e4 e5 NB
        refine hK.out _ _ ?_ (fun hHeld => ?_)
        · exact SKF.out
        clear hK K
        (try simp only [Act.put, List.setIfInBounds_toArray, List.set_cons_zero, List.set_cons_succ])
        refine wpAnyH_done (by kernel_rfl) ?_ _
        have FF : New2 P (((V9_4_0_3_7_.setCell ⟨P.heap.size, 0, none⟩ (.slice none 0 0)).setCell ⟨P.heap.size, 1, none⟩ (.slice ax 4 kx)).setCell ⟨P.heap.size, 2, none⟩ (.slice ay n2 ky)) (w.heap.size + 2) ax 4 kx d.2.1 ay n2 ky d.2.2 (P.heap.size) := ST9_4_0_3_7_.out.fin
        generalize hW : (((V9_4_0_3_7_.setCell ⟨P.heap.size, 0, none⟩ (.slice none 0 0)).setCell ⟨P.heap.size, 1, none⟩ (.slice ax 4 kx)).setCell ⟨P.heap.size, 2, none⟩ (.slice ay n2 ky)) = WW at FF ⊢
        generalize P.heap.size = bb at FF ⊢
        generalize V9_4_.heap.size = xb
        generalize V9_.heap.size = yb
        exact HL.out WW ax kx ay ky bb xb yb FF
  intro W ax kx ay ky bb xb yb hN
  have M0 : Hid (Mid P W (w.heap.size + 2) none 0 0 [] ax kx d.2.1 ay n2 ky d.2.2 bb) := Mid.start hN
  have p0 := Frame.held_cell hN.below KP.out.1
  clear hN
  go_wp2_with fail
  clear p0
  go_loopw [18] (fun i wr => ∃ (k k0 : Nat) (a : Option Addr) (xs : List LV), k ≤ 4 ∧ i = .int .i64 k ∧ xs.length = k ∧ lplain xs = d.1.take k ∧ Mid P wr (w.heap.size + 2) a k k0 xs ax kx d.2.1 ay n2 ky d.2.2 bb) (fun i _ => 4 - (intOf i).toNat)
  case atStart => exact ⟨0, 0, none, [], by omega, rfl, rfl, rfl, M0.out⟩
  case round =>
    obtain ⟨k, k0, a, xs, hk, rfl, hxl, hpl, hm⟩ := hrel
    have HM : Hid (Mid P wr (w.heap.size + 2) a k k0 xs ax kx d.2.1 ay n2 ky d.2.2 bb) := hm
    have HNw : Hid (Below w.heap.size w wr) := Frame.next BP.out hm.below BP.out.size
    have HX : Hid (xs.length = k) := hxl
    have HP : Hid (lplain xs = d.1.take k) := hpl
    have hsz : w.heap.size + 2 ≤ wr.heap.size := by have := hm.below.size; rw [HZ.out] at this; exact this
    have e0 := hm.bx.c0
    have f0 := hm.bx.f0
    clear hm hxl hpl
    by_cases hlt : k < 4
    · obtain ⟨b, off, ra, rn, rc, ea, hb, hc, hr, hn⟩ := (row_at (lIs_below HS.out.1 HNw.out)).2 k hlt
      cases ea
      have hrn : rn ≤ 100 := by have := HR4.out k hlt; rwa [hr.len] at this
      have HRW : Hid (IsRow .i64 wr ra rn rc (d.1.getD k [])) := hr
      have HTS : Hid (d.1.take (k + 1) = d.1.take k ++ [d.1.getD k []]) := by
        show _ = _
        have hkl : k < d.1.length := by rw [L0.out]; exact hlt
        rw [List.take_succ_eq_append_getElem hkl]; simp [List.getD, hkl]
      generalize d.1.getD k [] = zs at HRW HTS
      have hkI : (k : Int) < 4 := by omega
      clear hn hr e0 f0
      have hlp := HM.out.below
      have F6 : Hid (∀ p : Option Addr, (∀ x, p = some x → x.block < wr.heap.size) → Far (some ⟨wr.heap.size, 0, none⟩) p) := fun p hp x y hx hy => by
        cases hx
        have h1 := hp y hy
        show wr.heap.size ≠ _
        omega
      clear hlp
      go_wp2_with fail
      clear hc
      have B0 : Hid (Below wr.heap.size wr wr.drew) := (Below.refl _ _).drew
      refine wp_region_held_drew (S := fun w' => True) (by kernel_rfl) ?_ (fun hHeld => ?_)
      · exact trivial
      refine wpAnyH_take (i := 0) (v := (.pointer (some ⟨bb, 0, none⟩))) rfl (by kernel_rfl) (by kernel_rfl) (by kernel_rfl) (fun _ _ _ h => h) (Or.inl ⟨by rfl, ?_⟩) (by assumption) ?_
      · intro w hSw; (try dsimp only at hSw); go_simp
      (try show wpAnyH _ _ _ _ _ _ _ (Act.put _ (some 22) _) _); (try simp only [Act.put, List.setIfInBounds_toArray, List.set_cons_zero, List.set_cons_succ])
      refine wpAnyH_take (i := 3) (v := (.slice ra rn rc)) rfl (by kernel_rfl) (by kernel_rfl) (by kernel_rfl) (fun _ _ _ h => h) (Or.inl ⟨by rfl, ?_⟩) (by assumption) ?_
      · intro w hSw; (try dsimp only at hSw); go_simp
      (try show wpAnyH _ _ _ _ _ _ _ (Act.put _ (some 25) _) _); (try simp only [Act.put, List.setIfInBounds_toArray, List.set_cons_zero, List.set_cons_succ])
      refine wpAnyH_ready (rs := [1, 2]) (by kernel_rfl) (by simp) ?_
      refine (AllReadyH.cons rfl (fun K hK => ?_) (AllReadyH.cons rfl (fun K hK => ?_) AllReadyH.nil))
      · have e0 := (HM.out.next B0.out).bx.c0
        go_simp
        clear e0
        refine hK.out _ _ ?_ (fun hHeld => ?_)
        · exact trivial
        clear hK K
        (try show wpAnyH _ _ _ _ _ _ _ (Act.put _ (some 23) _) _); (try simp only [Act.put, List.setIfInBounds_toArray, List.set_cons_zero, List.set_cons_succ])
        refine wpAnyH_ready (rs := [2]) (by kernel_rfl) (by simp) ?_
        refine AllReadyH.cons rfl (fun K hK => ?_) AllReadyH.nil
        refine step_empty _ (by rfl) (by rfl) ?_
        intro V2 hO hB hS
        have B2 : Hid (Below wr.heap.size wr V2) := Frame.next B0.out hB B0.out.size
        have E2 : Hid (V2.ownsRow wr.heap.size 3 1 (.slice (some ⟨wr.heap.size, 0, none⟩) 0 0) 0 []) := hO
        clear hO hB hS
        refine hK.out _ _ ?_ (fun hHeld => ?_)
        · exact trivial
        clear hK K
        (try show wpAnyH _ _ _ _ _ _ _ (Act.put _ (some 24) _) _); (try simp only [Act.put, List.setIfInBounds_toArray, List.set_cons_zero, List.set_cons_succ])
        refine wpAnyH_ready (rs := [4]) (by kernel_rfl) (by simp) ?_
        refine AllReadyH.cons rfl (fun K hK => ?_) AllReadyH.nil
        refine step_int _ (by rfl) _ _ (by rfl) wr.heap.size wr.heap.size ra rn rc zs (by rfl) (by rfl) (by exact E2.out) (by exact IsRow.below HRW.out B2.out) (by omega) ?_
        intro a5 c5 V4 hA
        have B4 : Hid (Below wr.heap.size wr V4) := below_touch B2.out hA.only (fun x hx => by cases hx; exact Nat.le_refl _) B2.out.size
        have R4 : Hid (V4.ownsRow wr.heap.size 3 1 (.slice a5 rn c5) rn (ints .i64 zs)) := hA.own
        clear hA
        refine hK.out _ _ ?_ (fun hHeld => ?_)
        · exact trivial
        clear hK K
        (try show wpAnyH _ _ _ _ _ _ _ (Act.put _ (some 26) _) _); (try simp only [Act.put, List.setIfInBounds_toArray, List.set_cons_zero, List.set_cons_succ])
        refine wpAnyH_ready (rs := [5]) (by kernel_rfl) (by simp) ?_
        refine AllReadyH.cons rfl (fun K hK => ?_) AllReadyH.nil
        refine step_one _ (by rfl) _ (by rfl) a5 rn c5 (by rfl) ?_
        intro V5 hN hB hS
        have B5 : Hid (Below wr.heap.size wr V5) := Frame.next B4.out hB B4.out.size
        have N5 : Hid (∀ i u, ([.slice a5 rn c5] : List Value)[i]? = some u → V5.cell? ((⟨V4.heap.size, 0, none⟩ : Addr).add i) = some u) := hN
        have R5 : Hid (V5.ownsRow wr.heap.size 3 1 (.slice a5 rn c5) rn (ints .i64 zs)) := own_below R4.out hB
        clear hN hB hS
        refine hK.out _ _ ?_ (fun hHeld => ?_)
        · exact trivial
        clear hK K
        (try show wpAnyH _ _ _ _ _ _ _ (Act.put _ (some 27) _) _); (try simp only [Act.put, List.setIfInBounds_toArray, List.set_cons_zero, List.set_cons_succ])
        refine wpAnyH_ready (rs := [6]) (by kernel_rfl) (by simp) ?_
        refine AllReadyH.cons rfl (fun K hK => ?_) AllReadyH.nil
        refine step_append_lies _ (by rfl) _ _ 23 (by rfl) (w.heap.size + 2) 24 i1 (.slice none 0 0) 1 24 Try.underlying23 hj hy0 hy1 hy2 rfl (by decide) (.slice a k k0) k (lcells xs) (by rfl) (HM.out.next B5.out).rows.outer ⟨V4.heap.size, 0, none⟩ 1 1 [.slice a5 rn c5] (by rfl) (by rfl) N5.out (by simp [Value.oneCell']) (by decide) (by unfold maxLen; omega) (by omega) (Nat.le_trans hsz B5.out.size) _ rfl (fun g cap V6 ho7 hg7 hl7 hlt7 => ?_)
        have LC : Hid (lcells (xs ++ [⟨a5, rn, c5, zs⟩]) = lcells xs ++ [.slice a5 rn c5]) := by show _ = _; rw [lcells_append]; rfl
        have F5 : Hid (∀ p : Option Addr, (∀ x, p = some x → x.block < wr.heap.size) → Far a5 p) := fun p hp x y hx hy => by have h1 := hp y hy; have h2 := (own_block R4.out x hx).1; omega
        have M7 : Hid (Mid P (V6.setCell ⟨bb, 0, none⟩ (.slice (some ⟨g, 0, none⟩) (k + 1) cap)) (w.heap.size + 2) (some ⟨g, 0, none⟩) (k + 1) cap (xs ++ [⟨a5, rn, c5, zs⟩]) ax kx d.2.1 ay n2 ky d.2.2 bb) :=
          Mid.push (r := ⟨a5, rn, c5, zs⟩) (HM.out.next B5.out) (Nat.le_of_eq HZ.out) (own_base R5.out hsz) HRW.out.wf (fun s hs => Far.symm (F5.out s.a (fun x hx => (HM.out.rows.lt s hs x hx).2))) (F5.out ax (fun x hx => (own_block HM.out.nums x hx).2)) (F5.out ay (fun x hx => (own_block HM.out.over x hx).2)) (F5.out _ (fun x hx => by cases hx; exact Frame.cell_lt HM.out.bx.c0)) (by rw [LC.out]; exact ho7) hg7 hl7
        have BX7 : Hid (Box V6 bb (.slice a k k0) (.slice ax 4 kx) (.slice ay n2 ky)) := (HM.out.next B5.out).bx.touch (only_grown hg7) (fun u hu => HM.out.f0b u _ hu rfl)
        clear ho7 hg7 hl7 hlt7
        refine hK.out _ _ ?_ (fun hHeld => ?_)
        · exact trivial
        clear hK K
        (try show wpAnyH _ _ _ _ _ _ _ (Act.put _ (some 28) _) _); (try simp only [Act.put, List.setIfInBounds_toArray, List.set_cons_zero, List.set_cons_succ])
        refine wpAnyH_take (i := 7) (v := (.pointer (some ⟨bb, 0, none⟩))) rfl (by kernel_rfl) (by kernel_rfl) (by kernel_rfl) (fun _ _ _ h => h) (Or.inl ⟨by rfl, ?_⟩) (by assumption) ?_
        · intro w hSw; (try dsimp only at hSw); go_simp
        (try show wpAnyH _ _ _ _ _ _ _ (Act.put _ (some 29) _) _); (try simp only [Act.put, List.setIfInBounds_toArray, List.set_cons_zero, List.set_cons_succ])
        refine wpAnyH_ready (rs := [8]) (by kernel_rfl) (by simp) ?_
        refine AllReadyH.cons rfl (fun K hK => ?_) AllReadyH.nil
        have e0 := BX7.out.c0
        have f0 := BX7.out.f0
        go_simp
        clear e0 f0
        refine hK.out _ _ ?_ (fun hHeld => ?_)
        · exact trivial
        clear hK K
        (try simp only [Act.put, List.setIfInBounds_toArray, List.set_cons_zero, List.set_cons_succ])
        refine wpAnyH_done (by kernel_rfl) ?_ _
        go_wp2
        go_roundw
        case rel =>
          refine ⟨k + 1, cap, some ⟨g, 0, none⟩, xs ++ [⟨a5, rn, c5, zs⟩], by omega, by go_num, by rw [List.length_append, HX.out]; rfl, ?_, M7.out⟩
          rw [HTS.out]
          have h := HP.out
          simp only [lplain, List.map_append] at *
          rw [h]
          rfl
        case measure => simp [intOf]; omega
      · refine step_empty _ (by rfl) (by rfl) ?_
        intro V2 hO hB hS
        have B2 : Hid (Below wr.heap.size wr V2) := Frame.next B0.out hB B0.out.size
        have E2 : Hid (V2.ownsRow wr.heap.size 3 1 (.slice (some ⟨wr.heap.size, 0, none⟩) 0 0) 0 []) := hO
        clear hO hB hS
        refine hK.out _ _ ?_ (fun hHeld => ?_)
        · exact trivial
        clear hK K
        (try show wpAnyH _ _ _ _ _ _ _ (Act.put _ (some 24) _) _); (try simp only [Act.put, List.setIfInBounds_toArray, List.set_cons_zero, List.set_cons_succ])
        refine wpAnyH_ready (rs := [1, 4]) (by kernel_rfl) (by simp) ?_
        refine (AllReadyH.cons rfl (fun K hK => ?_) (AllReadyH.cons rfl (fun K hK => ?_) AllReadyH.nil))
        · have e0 := (HM.out.next B2.out).bx.c0
          go_simp
          clear e0
          refine hK.out _ _ ?_ (fun hHeld => ?_)
          · exact trivial
          clear hK K
          (try show wpAnyH _ _ _ _ _ _ _ (Act.put _ (some 23) _) _); (try simp only [Act.put, List.setIfInBounds_toArray, List.set_cons_zero, List.set_cons_succ])
          refine wpAnyH_ready (rs := [4]) (by kernel_rfl) (by simp) ?_
          refine AllReadyH.cons rfl (fun K hK => ?_) AllReadyH.nil
          refine step_int _ (by rfl) _ _ (by rfl) wr.heap.size wr.heap.size ra rn rc zs (by rfl) (by rfl) (by exact E2.out) (by exact IsRow.below HRW.out B2.out) (by omega) ?_
          intro a5 c5 V4 hA
          have B4 : Hid (Below wr.heap.size wr V4) := below_touch B2.out hA.only (fun x hx => by cases hx; exact Nat.le_refl _) B2.out.size
          have R4 : Hid (V4.ownsRow wr.heap.size 3 1 (.slice a5 rn c5) rn (ints .i64 zs)) := hA.own
          clear hA
          refine hK.out _ _ ?_ (fun hHeld => ?_)
          · exact trivial
          clear hK K
          (try show wpAnyH _ _ _ _ _ _ _ (Act.put _ (some 26) _) _); (try simp only [Act.put, List.setIfInBounds_toArray, List.set_cons_zero, List.set_cons_succ])
          refine wpAnyH_ready (rs := [5]) (by kernel_rfl) (by simp) ?_
          refine AllReadyH.cons rfl (fun K hK => ?_) AllReadyH.nil
          refine step_one _ (by rfl) _ (by rfl) a5 rn c5 (by rfl) ?_
          intro V5 hN hB hS
          have B5 : Hid (Below wr.heap.size wr V5) := Frame.next B4.out hB B4.out.size
          have N5 : Hid (∀ i u, ([.slice a5 rn c5] : List Value)[i]? = some u → V5.cell? ((⟨V4.heap.size, 0, none⟩ : Addr).add i) = some u) := hN
          have R5 : Hid (V5.ownsRow wr.heap.size 3 1 (.slice a5 rn c5) rn (ints .i64 zs)) := own_below R4.out hB
          clear hN hB hS
          refine hK.out _ _ ?_ (fun hHeld => ?_)
          · exact trivial
          clear hK K
          (try show wpAnyH _ _ _ _ _ _ _ (Act.put _ (some 27) _) _); (try simp only [Act.put, List.setIfInBounds_toArray, List.set_cons_zero, List.set_cons_succ])
          refine wpAnyH_ready (rs := [6]) (by kernel_rfl) (by simp) ?_
          refine AllReadyH.cons rfl (fun K hK => ?_) AllReadyH.nil
          refine step_append_lies _ (by rfl) _ _ 23 (by rfl) (w.heap.size + 2) 24 i1 (.slice none 0 0) 1 24 Try.underlying23 hj hy0 hy1 hy2 rfl (by decide) (.slice a k k0) k (lcells xs) (by rfl) (HM.out.next B5.out).rows.outer ⟨V4.heap.size, 0, none⟩ 1 1 [.slice a5 rn c5] (by rfl) (by rfl) N5.out (by simp [Value.oneCell']) (by decide) (by unfold maxLen; omega) (by omega) (Nat.le_trans hsz B5.out.size) _ rfl (fun g cap V6 ho7 hg7 hl7 hlt7 => ?_)
          have LC : Hid (lcells (xs ++ [⟨a5, rn, c5, zs⟩]) = lcells xs ++ [.slice a5 rn c5]) := by show _ = _; rw [lcells_append]; rfl
          have F5 : Hid (∀ p : Option Addr, (∀ x, p = some x → x.block < wr.heap.size) → Far a5 p) := fun p hp x y hx hy => by have h1 := hp y hy; have h2 := (own_block R4.out x hx).1; omega
          have M7 : Hid (Mid P (V6.setCell ⟨bb, 0, none⟩ (.slice (some ⟨g, 0, none⟩) (k + 1) cap)) (w.heap.size + 2) (some ⟨g, 0, none⟩) (k + 1) cap (xs ++ [⟨a5, rn, c5, zs⟩]) ax kx d.2.1 ay n2 ky d.2.2 bb) :=
            Mid.push (r := ⟨a5, rn, c5, zs⟩) (HM.out.next B5.out) (Nat.le_of_eq HZ.out) (own_base R5.out hsz) HRW.out.wf (fun s hs => Far.symm (F5.out s.a (fun x hx => (HM.out.rows.lt s hs x hx).2))) (F5.out ax (fun x hx => (own_block HM.out.nums x hx).2)) (F5.out ay (fun x hx => (own_block HM.out.over x hx).2)) (F5.out _ (fun x hx => by cases hx; exact Frame.cell_lt HM.out.bx.c0)) (by rw [LC.out]; exact ho7) hg7 hl7
          have BX7 : Hid (Box V6 bb (.slice a k k0) (.slice ax 4 kx) (.slice ay n2 ky)) := (HM.out.next B5.out).bx.touch (only_grown hg7) (fun u hu => HM.out.f0b u _ hu rfl)
          clear ho7 hg7 hl7 hlt7
          refine hK.out _ _ ?_ (fun hHeld => ?_)
          · exact trivial
          clear hK K
          (try show wpAnyH _ _ _ _ _ _ _ (Act.put _ (some 28) _) _); (try simp only [Act.put, List.setIfInBounds_toArray, List.set_cons_zero, List.set_cons_succ])
          refine wpAnyH_take (i := 7) (v := (.pointer (some ⟨bb, 0, none⟩))) rfl (by kernel_rfl) (by kernel_rfl) (by kernel_rfl) (fun _ _ _ h => h) (Or.inl ⟨by rfl, ?_⟩) (by assumption) ?_
          · intro w hSw; (try dsimp only at hSw); go_simp
          (try show wpAnyH _ _ _ _ _ _ _ (Act.put _ (some 29) _) _); (try simp only [Act.put, List.setIfInBounds_toArray, List.set_cons_zero, List.set_cons_succ])
          refine wpAnyH_ready (rs := [8]) (by kernel_rfl) (by simp) ?_
          refine AllReadyH.cons rfl (fun K hK => ?_) AllReadyH.nil
          have e0 := BX7.out.c0
          have f0 := BX7.out.f0
          go_simp
          clear e0 f0
          refine hK.out _ _ ?_ (fun hHeld => ?_)
          · exact trivial
          clear hK K
          (try simp only [Act.put, List.setIfInBounds_toArray, List.set_cons_zero, List.set_cons_succ])
          refine wpAnyH_done (by kernel_rfl) ?_ _
          go_wp2
          go_roundw
          case rel =>
            refine ⟨k + 1, cap, some ⟨g, 0, none⟩, xs ++ [⟨a5, rn, c5, zs⟩], by omega, by go_num, by rw [List.length_append, HX.out]; rfl, ?_, M7.out⟩
            rw [HTS.out]
            have h := HP.out
            simp only [lplain, List.map_append] at *
            rw [h]
            rfl
          case measure => simp [intOf]; omega
        · refine step_int _ (by rfl) _ _ (by rfl) wr.heap.size wr.heap.size ra rn rc zs (by rfl) (by rfl) (by exact E2.out) (by exact IsRow.below HRW.out B2.out) (by omega) ?_
          intro a5 c5 V4 hA
          have B4 : Hid (Below wr.heap.size wr V4) := below_touch B2.out hA.only (fun x hx => by cases hx; exact Nat.le_refl _) B2.out.size
          have R4 : Hid (V4.ownsRow wr.heap.size 3 1 (.slice a5 rn c5) rn (ints .i64 zs)) := hA.own
          clear hA
          refine hK.out _ _ ?_ (fun hHeld => ?_)
          · exact trivial
          clear hK K
          (try show wpAnyH _ _ _ _ _ _ _ (Act.put _ (some 26) _) _); (try simp only [Act.put, List.setIfInBounds_toArray, List.set_cons_zero, List.set_cons_succ])
          refine wpAnyH_ready (rs := [1, 5]) (by kernel_rfl) (by simp) ?_
          refine (AllReadyH.cons rfl (fun K hK => ?_) (AllReadyH.cons rfl (fun K hK => ?_) AllReadyH.nil))
          · have e0 := (HM.out.next B4.out).bx.c0
            go_simp
            clear e0
            refine hK.out _ _ ?_ (fun hHeld => ?_)
            · exact trivial
            clear hK K
            (try show wpAnyH _ _ _ _ _ _ _ (Act.put _ (some 23) _) _); (try simp only [Act.put, List.setIfInBounds_toArray, List.set_cons_zero, List.set_cons_succ])
            refine wpAnyH_ready (rs := [5]) (by kernel_rfl) (by simp) ?_
            refine AllReadyH.cons rfl (fun K hK => ?_) AllReadyH.nil
            refine step_one _ (by rfl) _ (by rfl) a5 rn c5 (by rfl) ?_
            intro V5 hN hB hS
            have B5 : Hid (Below wr.heap.size wr V5) := Frame.next B4.out hB B4.out.size
            have N5 : Hid (∀ i u, ([.slice a5 rn c5] : List Value)[i]? = some u → V5.cell? ((⟨V4.heap.size, 0, none⟩ : Addr).add i) = some u) := hN
            have R5 : Hid (V5.ownsRow wr.heap.size 3 1 (.slice a5 rn c5) rn (ints .i64 zs)) := own_below R4.out hB
            clear hN hB hS
            refine hK.out _ _ ?_ (fun hHeld => ?_)
            · exact trivial
            clear hK K
            (try show wpAnyH _ _ _ _ _ _ _ (Act.put _ (some 27) _) _); (try simp only [Act.put, List.setIfInBounds_toArray, List.set_cons_zero, List.set_cons_succ])
            refine wpAnyH_ready (rs := [6]) (by kernel_rfl) (by simp) ?_
            refine AllReadyH.cons rfl (fun K hK => ?_) AllReadyH.nil
            refine step_append_lies _ (by rfl) _ _ 23 (by rfl) (w.heap.size + 2) 24 i1 (.slice none 0 0) 1 24 Try.underlying23 hj hy0 hy1 hy2 rfl (by decide) (.slice a k k0) k (lcells xs) (by rfl) (HM.out.next B5.out).rows.outer ⟨V4.heap.size, 0, none⟩ 1 1 [.slice a5 rn c5] (by rfl) (by rfl) N5.out (by simp [Value.oneCell']) (by decide) (by unfold maxLen; omega) (by omega) (Nat.le_trans hsz B5.out.size) _ rfl (fun g cap V6 ho7 hg7 hl7 hlt7 => ?_)
            have LC : Hid (lcells (xs ++ [⟨a5, rn, c5, zs⟩]) = lcells xs ++ [.slice a5 rn c5]) := by show _ = _; rw [lcells_append]; rfl
            have F5 : Hid (∀ p : Option Addr, (∀ x, p = some x → x.block < wr.heap.size) → Far a5 p) := fun p hp x y hx hy => by have h1 := hp y hy; have h2 := (own_block R4.out x hx).1; omega
            have M7 : Hid (Mid P (V6.setCell ⟨bb, 0, none⟩ (.slice (some ⟨g, 0, none⟩) (k + 1) cap)) (w.heap.size + 2) (some ⟨g, 0, none⟩) (k + 1) cap (xs ++ [⟨a5, rn, c5, zs⟩]) ax kx d.2.1 ay n2 ky d.2.2 bb) :=
              Mid.push (r := ⟨a5, rn, c5, zs⟩) (HM.out.next B5.out) (Nat.le_of_eq HZ.out) (own_base R5.out hsz) HRW.out.wf (fun s hs => Far.symm (F5.out s.a (fun x hx => (HM.out.rows.lt s hs x hx).2))) (F5.out ax (fun x hx => (own_block HM.out.nums x hx).2)) (F5.out ay (fun x hx => (own_block HM.out.over x hx).2)) (F5.out _ (fun x hx => by cases hx; exact Frame.cell_lt HM.out.bx.c0)) (by rw [LC.out]; exact ho7) hg7 hl7
            have BX7 : Hid (Box V6 bb (.slice a k k0) (.slice ax 4 kx) (.slice ay n2 ky)) := (HM.out.next B5.out).bx.touch (only_grown hg7) (fun u hu => HM.out.f0b u _ hu rfl)
            clear ho7 hg7 hl7 hlt7
            refine hK.out _ _ ?_ (fun hHeld => ?_)
            · exact trivial
            clear hK K
            (try show wpAnyH _ _ _ _ _ _ _ (Act.put _ (some 28) _) _); (try simp only [Act.put, List.setIfInBounds_toArray, List.set_cons_zero, List.set_cons_succ])
            refine wpAnyH_take (i := 7) (v := (.pointer (some ⟨bb, 0, none⟩))) rfl (by kernel_rfl) (by kernel_rfl) (by kernel_rfl) (fun _ _ _ h => h) (Or.inl ⟨by rfl, ?_⟩) (by assumption) ?_
            · intro w hSw; (try dsimp only at hSw); go_simp
            (try show wpAnyH _ _ _ _ _ _ _ (Act.put _ (some 29) _) _); (try simp only [Act.put, List.setIfInBounds_toArray, List.set_cons_zero, List.set_cons_succ])
            refine wpAnyH_ready (rs := [8]) (by kernel_rfl) (by simp) ?_
            refine AllReadyH.cons rfl (fun K hK => ?_) AllReadyH.nil
            have e0 := BX7.out.c0
            have f0 := BX7.out.f0
            go_simp
            clear e0 f0
            refine hK.out _ _ ?_ (fun hHeld => ?_)
            · exact trivial
            clear hK K
            (try simp only [Act.put, List.setIfInBounds_toArray, List.set_cons_zero, List.set_cons_succ])
            refine wpAnyH_done (by kernel_rfl) ?_ _
            go_wp2
            go_roundw
            case rel =>
              refine ⟨k + 1, cap, some ⟨g, 0, none⟩, xs ++ [⟨a5, rn, c5, zs⟩], by omega, by go_num, by rw [List.length_append, HX.out]; rfl, ?_, M7.out⟩
              rw [HTS.out]
              have h := HP.out
              simp only [lplain, List.map_append] at *
              rw [h]
              rfl
            case measure => simp [intOf]; omega
          · refine step_one _ (by rfl) _ (by rfl) a5 rn c5 (by rfl) ?_
            intro V5 hN hB hS
            have B5 : Hid (Below wr.heap.size wr V5) := Frame.next B4.out hB B4.out.size
            have N5 : Hid (∀ i u, ([.slice a5 rn c5] : List Value)[i]? = some u → V5.cell? ((⟨V4.heap.size, 0, none⟩ : Addr).add i) = some u) := hN
            have R5 : Hid (V5.ownsRow wr.heap.size 3 1 (.slice a5 rn c5) rn (ints .i64 zs)) := own_below R4.out hB
            clear hN hB hS
            refine hK.out _ _ ?_ (fun hHeld => ?_)
            · exact trivial
            clear hK K
            (try show wpAnyH _ _ _ _ _ _ _ (Act.put _ (some 27) _) _); (try simp only [Act.put, List.setIfInBounds_toArray, List.set_cons_zero, List.set_cons_succ])
            refine wpAnyH_ready (rs := [1]) (by kernel_rfl) (by simp) ?_
            refine AllReadyH.cons rfl (fun K hK => ?_) AllReadyH.nil
            have e0 := (HM.out.next B5.out).bx.c0
            go_simp
            clear e0
            refine hK.out _ _ ?_ (fun hHeld => ?_)
            · exact trivial
            clear hK K
            (try show wpAnyH _ _ _ _ _ _ _ (Act.put _ (some 23) _) _); (try simp only [Act.put, List.setIfInBounds_toArray, List.set_cons_zero, List.set_cons_succ])
            refine wpAnyH_ready (rs := [6]) (by kernel_rfl) (by simp) ?_
            refine AllReadyH.cons rfl (fun K hK => ?_) AllReadyH.nil
            refine step_append_lies _ (by rfl) _ _ 23 (by rfl) (w.heap.size + 2) 24 i1 (.slice none 0 0) 1 24 Try.underlying23 hj hy0 hy1 hy2 rfl (by decide) (.slice a k k0) k (lcells xs) (by rfl) (HM.out.next B5.out).rows.outer ⟨V4.heap.size, 0, none⟩ 1 1 [.slice a5 rn c5] (by rfl) (by rfl) N5.out (by simp [Value.oneCell']) (by decide) (by unfold maxLen; omega) (by omega) (Nat.le_trans hsz B5.out.size) _ rfl (fun g cap V6 ho7 hg7 hl7 hlt7 => ?_)
            have LC : Hid (lcells (xs ++ [⟨a5, rn, c5, zs⟩]) = lcells xs ++ [.slice a5 rn c5]) := by show _ = _; rw [lcells_append]; rfl
            have F5 : Hid (∀ p : Option Addr, (∀ x, p = some x → x.block < wr.heap.size) → Far a5 p) := fun p hp x y hx hy => by have h1 := hp y hy; have h2 := (own_block R4.out x hx).1; omega
            have M7 : Hid (Mid P (V6.setCell ⟨bb, 0, none⟩ (.slice (some ⟨g, 0, none⟩) (k + 1) cap)) (w.heap.size + 2) (some ⟨g, 0, none⟩) (k + 1) cap (xs ++ [⟨a5, rn, c5, zs⟩]) ax kx d.2.1 ay n2 ky d.2.2 bb) :=
              Mid.push (r := ⟨a5, rn, c5, zs⟩) (HM.out.next B5.out) (Nat.le_of_eq HZ.out) (own_base R5.out hsz) HRW.out.wf (fun s hs => Far.symm (F5.out s.a (fun x hx => (HM.out.rows.lt s hs x hx).2))) (F5.out ax (fun x hx => (own_block HM.out.nums x hx).2)) (F5.out ay (fun x hx => (own_block HM.out.over x hx).2)) (F5.out _ (fun x hx => by cases hx; exact Frame.cell_lt HM.out.bx.c0)) (by rw [LC.out]; exact ho7) hg7 hl7
            have BX7 : Hid (Box V6 bb (.slice a k k0) (.slice ax 4 kx) (.slice ay n2 ky)) := (HM.out.next B5.out).bx.touch (only_grown hg7) (fun u hu => HM.out.f0b u _ hu rfl)
            clear ho7 hg7 hl7 hlt7
            refine hK.out _ _ ?_ (fun hHeld => ?_)
            · exact trivial
            clear hK K
            (try show wpAnyH _ _ _ _ _ _ _ (Act.put _ (some 28) _) _); (try simp only [Act.put, List.setIfInBounds_toArray, List.set_cons_zero, List.set_cons_succ])
            refine wpAnyH_take (i := 7) (v := (.pointer (some ⟨bb, 0, none⟩))) rfl (by kernel_rfl) (by kernel_rfl) (by kernel_rfl) (fun _ _ _ h => h) (Or.inl ⟨by rfl, ?_⟩) (by assumption) ?_
            · intro w hSw; (try dsimp only at hSw); go_simp
            (try show wpAnyH _ _ _ _ _ _ _ (Act.put _ (some 29) _) _); (try simp only [Act.put, List.setIfInBounds_toArray, List.set_cons_zero, List.set_cons_succ])
            refine wpAnyH_ready (rs := [8]) (by kernel_rfl) (by simp) ?_
            refine AllReadyH.cons rfl (fun K hK => ?_) AllReadyH.nil
            have e0 := BX7.out.c0
            have f0 := BX7.out.f0
            go_simp
            clear e0 f0
            refine hK.out _ _ ?_ (fun hHeld => ?_)
            · exact trivial
            clear hK K
            (try simp only [Act.put, List.setIfInBounds_toArray, List.set_cons_zero, List.set_cons_succ])
            refine wpAnyH_done (by kernel_rfl) ?_ _
            go_wp2
            go_roundw
            case rel =>
              refine ⟨k + 1, cap, some ⟨g, 0, none⟩, xs ++ [⟨a5, rn, c5, zs⟩], by omega, by go_num, by rw [List.length_append, HX.out]; rfl, ?_, M7.out⟩
              rw [HTS.out]
              have h := HP.out
              simp only [lplain, List.map_append] at *
              rw [h]
              rfl
            case measure => simp [intOf]; omega
    · obtain rfl : k = 4 := by omega
      have HPF : Hid (lplain xs = d.1) := by
        have := HP.out
        rwa [List.take_of_length_le (by rw [L0.out]; omega)] at this
      obtain ⟨g0, ea⟩ := own_some HM.out.rows.outer (by omega)
      obtain ⟨g1, eb⟩ := own_some HM.out.nums (by omega)
      subst ea eb
      have OK : Hid (OwnK (w.heap.size + 2) wr g0 k0 xs g1 kx d.2.1 ay n2 ky d.2.2) :=
        ⟨HM.out.rows, HM.out.nums, HM.out.over, R1.out.wf, R2.out.wf, HM.out.f01 _ _ rfl rfl, HM.out.fr1, HM.out.f02, HM.out.fr2, HM.out.f12⟩
      have OF : Hid (OffK (w.heap.size + 1) g0 xs g1 ay) := OK.out.off (Or.inl (by omega))
      obtain ⟨q0, q1, q2, _, _, _⟩ := HM.out.bx
      have KE : Hid (wr.cell? ⟨w.heap.size + 1, 0, none⟩ = some (.slice none 0 0) ∧ wr.cell? ⟨w.heap.size + 1, 1, none⟩ = some (.slice none 0 0) ∧ wr.cell? ⟨w.heap.size + 1, 2, none⟩ = some (.slice none 0 0) ∧ wr.frozen? ⟨w.heap.size + 1, 0, none⟩ = false ∧ wr.frozen? ⟨w.heap.size + 1, 1, none⟩ = false ∧ wr.frozen? ⟨w.heap.size + 1, 2, none⟩ = false) := ⟨Frame.held_cell HM.out.below KR.out.1, Frame.held_cell HM.out.below KR.out.2.1, Frame.held_cell HM.out.below KR.out.2.2.1, (HM.out.below.frozen (Frame.cell_lt KR.out.1)).trans KR.out.2.2.2.1, (HM.out.below.frozen (Frame.cell_lt KR.out.2.1)).trans KR.out.2.2.2.2.1, (HM.out.below.frozen (Frame.cell_lt KR.out.2.2.1)).trans KR.out.2.2.2.2.2⟩
      obtain ⟨r0, r1, r2, z0, z1, z2⟩ := KE.out
      clear e0 f0
      go_wp2
      refine bodyPost_ret (v := .agg #[.slice (some ⟨g0, 0, none⟩) 4 k0, .slice (some ⟨g1, 0, none⟩) 4 kx, .slice ay n2 ky]) (by simp [results, Try.results69, go_sem, r0, r1, r2]) rfl ?_
      exact ⟨_, _, _, _, _, _, _, rfl, HPF.out, ((OK.out.setOff OF.out _ _).setOff OF.out _ _).setOff OF.out _ _, ((HNw.out.setCell (by show w.heap.size ≤ w.heap.size + 1; omega) _).setCell (by show w.heap.size ≤ w.heap.size + 1; omega) _).setCell (by show w.heap.size ≤ w.heap.size + 1; omega) _⟩


end Go.Proofs.Ytkondmnkmbdncaa.Lkk
