/-
  Contract of the model's AskLock.
-/
import Derived.Test.YtkondmnkmbdncaaLkl
import Derived.Test.YtkondmnkmbdncaaLkn
namespace Go.Proofs.Ytkondmnkmbdncaa.Lkm
open Go.RowKit
open Go.Proofs.Ytkondmnkmbdncaa.Frame Go.Proofs.Ytkondmnkmbdncaa.Mem Go.Proofs.Ytkondmnkmbdncaa.Kep Go.Proofs.Ytkondmnkmbdncaa.Lls Go.Proofs.Ytkondmnkmbdncaa.Knl Go.Proofs.Ytkondmnkmbdncaa.Mis Go.Proofs.Ytkondmnkmbdncaa.Kpi Go.Proofs.Ytkondmnkmbdncaa.Lkp Go.Proofs.Ytkondmnkmbdncaa.Lka Go.Proofs.Ytkondmnkmbdncaa.Lkb Go.Proofs.Ytkondmnkmbdncaa.Lkg Go.Proofs.Ytkondmnkmbdncaa.Lkh Go.Proofs.Ytkondmnkmbdncaa.Lki Go.Proofs.Ytkondmnkmbdncaa.Lkj Go.Proofs.Ytkondmnkmbdncaa.Lkl Go.Proofs.Ytkondmnkmbdncaa.Lks
open Go.Proofs.Ytkondmnkmbdncaa.SLocks (D SIs SOwn)

theorem put_len (n : Int) (l : List Int) : (Rel.putN n l).length ≤ l.length + 1 := by
  induction l with
  | nil => simp [Rel.putN]
  | cons x l ih =>
    rw [Rel.putN]
    split
    · simp only [List.length_cons]; omega
    · split <;> simp
theorem step_small {d : D} {a : Ak} (h : goodK d = true) : ∀ k, k < 4 → ((stepD d a).1.getD k []).length ≤ 5 := fun k hk => by
  have h4 : ∀ j, (d.1.getD j []).length ≤ 4 := fun j => by
    by_cases hj : j < 4
    · exact rise_len (Lkg.good_row h hj)
    · have := (good_parts h).1
      simp [List.getD, show ¬ j < d.1.length by omega]
  obtain ⟨who, item, wri, fin⟩ := a
  have e0 := (good_parts h).1
  cases fin
  · cases wri
    · show ((d.1.set item.toNat (Rel.putN who (d.1.getD item.toNat []))).getD k []).length ≤ 5
      by_cases e : k = item.toNat
      · subst e
        rw [getD_set_same _ _ _ _ (by omega)]
        have h1 := h4 item.toNat
        have h2 := put_len who (d.1.getD item.toNat [])
        omega
      · rw [getD_set_other _ _ _ _ _ e]
        have := h4 k
        omega
    · show (d.1.getD k []).length ≤ 5
      have := h4 k
      omega
  · show ((d.1.map (dropL who)).getD k []).length ≤ 5
    have e : (d.1.map (dropL who)).getD k [] = dropL who (d.1.getD k []) := by simp [List.getD, show k < d.1.length by omega]
    rw [e]
    have h1 := dropL_len who (d.1.getD k [])
    have h2 := h4 k
    omega

set_option maxRecDepth 8000 in
set_option maxHeartbeats 3200000 in
theorem spec_AskLock (u0 u1 u2 : Value) (d : D) (who item : Int) (wri fin : Bool) (w : World) (h : SIs w u0 u1 u2 d) :
    Calls Try.prog 16 #[.agg #[u0, u1, u2], .agg #[.int .i64 who, .int .i64 item, .bool wri, .bool fin]] w fun e w' => ∃ x0 m0 y0 x1 m1 y1 x2 m2 y2, e = .returned (.tuple #[.agg #[.slice x0 m0 y0, .slice x1 m1 y1, .slice x2 m2 y2], .bool (askG d (who, item, wri, fin))]) ∧ SOwn w' w.heap.size w'.heap.size (.slice x0 m0 y0) (.slice x1 m1 y1) (.slice x2 m2 y2) (askV d (who, item, wri, fin)) ∧ Below w.heap.size w w' := by
  obtain ⟨a0, n0, c0, e0⟩ := Krl.lIs_slice h.1; subst e0
  obtain ⟨a1, n1, c1, e1⟩ := Krl.iIs_slice h.2.1; subst e1
  obtain ⟨a2, n2, c2, e2⟩ := Krl.iIs_slice h.2.2; subst e2
  have HS : Hid (SIs w (.slice a0 n0 c0) (.slice a1 n1 c1) (.slice a2 n2 c2) d) := h
  have BP : Hid (Below w.heap.size w (((w.alloc (.cells #[.slice a0 n0 c0, .slice a1 n1 c1, .slice a2 n2 c2] 26)).alloc (.cells #[.int .i64 who, .int .i64 item, .bool wri, .bool fin] 28)).alloc (.cells #[.slice none 0 0, .slice none 0 0, .slice none 0 0] 26))) := (((Below.refl _ _).alloc (Nat.le_refl _) _).alloc (by simp) _).alloc (by simp; omega) _
  have HZ : Hid ((((w.alloc (.cells #[.slice a0 n0 c0, .slice a1 n1 c1, .slice a2 n2 c2] 26)).alloc (.cells #[.int .i64 who, .int .i64 item, .bool wri, .bool fin] 28)).alloc (.cells #[.slice none 0 0, .slice none 0 0, .slice none 0 0] 26)).heap.size = w.heap.size + 3) := by show _ = _; simp
  have FP : Hid (Fs none w.heap.size who item wri fin (.slice a0 n0 c0) (.slice a1 n1 c1) (.slice a2 n2 c2) (((w.alloc (.cells #[.slice a0 n0 c0, .slice a1 n1 c1, .slice a2 n2 c2] 26)).alloc (.cells #[.int .i64 who, .int .i64 item, .bool wri, .bool fin] 28)).alloc (.cells #[.slice none 0 0, .slice none 0 0, .slice none 0 0] 26))) := by
    refine ⟨⟨?_, ?_, ?_, ?_, ?_, ?_⟩, ⟨?_, ?_, ?_, ?_⟩, ⟨?_, ?_, ?_, ?_, ?_, ?_⟩, fun b e => by cases e⟩ <;> go_simp
  have HGG : Hid (askG d (who, item, wri, fin) = (goodK d && askN d (who, item, wri, fin))) := rfl
  have HNO : Hid (askG d (who, item, wri, fin) = false → askV d (who, item, wri, fin) = ([], [], [])) := fun e => by unfold askV; rw [if_neg (by rw [e]; exact Bool.false_ne_true)]
  have HYES : Hid (askG d (who, item, wri, fin) = true → askV d (who, item, wri, fin) = stepD d (who, item, wri, fin)) := fun e => by unfold askV; rw [if_pos e]; rfl
  clear h
  go_enter Try.func16, Try.ntmps16
  go_wp2_with fail
  generalize (((w.alloc (.cells #[.slice a0 n0 c0, .slice a1 n1 c1, .slice a2 n2 c2] 26)).alloc (.cells #[.int .i64 who, .int .i64 item, .bool wri, .bool fin] 28)).alloc (.cells #[.slice none 0 0, .slice none 0 0, .slice none 0 0] 26)) = P at BP HZ FP ⊢
  refine (Lkn.spec_GoodLocks (.slice a0 n0 c0) (.slice a1 n1 c1) (.slice a2 n2 c2) d _ (SLocks.sIs_below HS.out BP.out)).mono ?_
  rintro e w1 ⟨rfl, hb1⟩
  have F1 : Hid (Fs none w.heap.size who item wri fin (.slice a0 n0 c0) (.slice a1 n1 c1) (.slice a2 n2 c2) w1) := FP.out.next hb1
  have B1 : Hid (Below w.heap.size w w1) := Frame.next BP.out hb1 BP.out.size
  have HZ1 : Hid (w.heap.size + 3 ≤ w1.heap.size) := by have h1 := hb1.size; have h2 := HZ.out; show _ ≤ _; omega
  clear hb1
  rcases Bool.eq_false_or_eq_true (goodK d) with hg | hg
  rotate_left
  · have F : Hid (askG d (who, item, wri, fin) = false) := by show _ = _; rw [HGG.out, hg]; rfl
    rw [hg]
    clear hg HGG
    obtain ⟨⟨p0, p1, p2, pf0, pf1, pf2⟩, ⟨q0, q1, q2, q3⟩, ⟨r0, r1, r2, rf0, rf1, rf2⟩, _⟩ := F1.out
    go_wp2
    refine bodyPost_ret (v := .tuple #[.agg #[.slice none 0 0, .slice none 0 0, .slice none 0 0], .bool false]) (by simp [results, Try.results16, go_sem, r0, r1, r2]) rfl ?_
    exact ⟨_, _, _, _, _, _, _, _, _, by rw [F.out], by rw [HNO.out F.out]; exact Lki.sOwn_zero _ _ _, ((B1.out.setCell (by show w.heap.size ≤ w.heap.size + 1 + 1; omega) _).setCell (by show w.heap.size ≤ w.heap.size + 1 + 1; omega) _).setCell (by show w.heap.size ≤ w.heap.size + 1 + 1; omega) _⟩
  have HG : Hid (goodK d = true) := hg
  have HGN : Hid (askG d (who, item, wri, fin) = askN d (who, item, wri, fin)) := by show _ = _; rw [HGG.out, hg]; rfl
  have h0 := (good_parts hg).1
  have h1 := (good_parts hg).2.1
  have h2 := once_len (good_parts hg).2.2.1
  rw [(row_at HS.out.1).1] at h0
  rw [(num_at HS.out.2.1).1.len] at h1
  rw [(num_at HS.out.2.2).1.len] at h2
  subst h0 h1
  have HR : Hid (∀ k, k < 4 → (d.1.getD k []).length ≤ 100) := fun k hk => by have := rise_len (Lkg.good_row HG.out hk); omega
  rw [hg]
  clear hg HGG
  have D0 : Hid (Below w1.heap.size w1 w1.drew) := (Below.refl _ _).drew
  obtain ⟨⟨p0, p1, p2, pf0, pf1, pf2⟩, ⟨q0, q1, q2, q3⟩, ⟨r0, r1, r2, rf0, rf1, rf2⟩, _⟩ := F1.out
  go_wp2_with fail
  clear p0 p1 p2 pf0 pf1 pf2 q0 q1 q2 q3 r0 r1 r2 rf0 rf1 rf2
  refine wp_region_held_drew (S := fun w' => w'.cell? ⟨w.heap.size, 0, none⟩ = some (.slice a0 4 c0) ∧ w'.cell? ⟨w.heap.size, 1, none⟩ = some (.slice a1 4 c1) ∧ w'.cell? ⟨w.heap.size, 2, none⟩ = some (.slice a2 n2 c2) ∧ w'.cell? ⟨w.heap.size + 1, 0, none⟩ = some (.int .i64 who) ∧ w'.cell? ⟨w.heap.size + 1, 1, none⟩ = some (.int .i64 item) ∧ w'.cell? ⟨w.heap.size + 1, 2, none⟩ = some (.bool wri) ∧ w'.cell? ⟨w.heap.size + 1, 3, none⟩ = some (.bool fin)) (by kernel_rfl) ?_ (fun hHeld => ?_)
  · exact ⟨(F1.out.next D0.out).p.c0, (F1.out.next D0.out).p.c1, (F1.out.next D0.out).p.c2, (F1.out.next D0.out).a.c0, (F1.out.next D0.out).a.c1, (F1.out.next D0.out).a.c2, (F1.out.next D0.out).a.c3⟩
  refine wpAnyH_take (i := 0) (v := (.agg #[.slice a0 4 c0, .slice a1 4 c1, .slice a2 n2 c2])) rfl (by kernel_rfl) (by kernel_rfl) (by kernel_rfl) (fun _ _ _ h => h) (Or.inl ⟨by rfl, ?_⟩) (by assumption) ?_
  · intro w hSw; (try dsimp only at hSw); go_simp
  (try show wpAnyH _ _ _ _ _ _ _ (Act.put _ (some 13) _) _); (try simp only [Act.put, List.setIfInBounds_toArray, List.set_cons_zero, List.set_cons_succ])
  refine wpAnyH_take (i := 2) (v := (.agg #[.int .i64 who, .int .i64 item, .bool wri, .bool fin])) rfl (by kernel_rfl) (by kernel_rfl) (by kernel_rfl) (fun _ _ _ h => h) (Or.inl ⟨by rfl, ?_⟩) (by assumption) ?_
  · intro w hSw; (try dsimp only at hSw); go_simp
  (try show wpAnyH _ _ _ _ _ _ _ (Act.put _ (some 15) _) _); (try simp only [Act.put, List.setIfInBounds_toArray, List.set_cons_zero, List.set_cons_succ])
  refine wpAnyH_ready (rs := [1, 7]) (by kernel_rfl) (by simp) ?_
  refine (AllReadyH.cons rfl (fun K hK => ?_) (AllReadyH.cons rfl (fun K hK => ?_) AllReadyH.nil))
  · go_simp
    go_at_call 69
    refine (Lkk.spec_Own a0 a1 a2 c0 c1 n2 c2 d _ (SLocks.sIs_below (SLocks.sIs_below HS.out B1.out) D0.out) HR.out (by omega)).mono ?_
    rintro e u1 ⟨g0, k0, rs, g1, k1, b2, k2, rfl, hpl, hok, hb⟩
    have HPL : Hid (lplain rs = d.1) := hpl
    have D1 : Hid (Below w1.heap.size w1 u1) := Frame.next D0.out hb D0.out.size
    have OK1 : Hid (OwnK w1.heap.size u1 g0 k0 rs g1 k1 d.2.1 b2 n2 k2 d.2.2) := hok.base (Nat.le_trans D0.out.size (Nat.le_add_right _ _))
    clear hpl hok hb
    go_wp2_with fail
    refine hK.out _ _ ?_ (fun hHeld => ?_)
    · exact ⟨(F1.out.next D1.out).p.c0, (F1.out.next D1.out).p.c1, (F1.out.next D1.out).p.c2, (F1.out.next D1.out).a.c0, (F1.out.next D1.out).a.c1, (F1.out.next D1.out).a.c2, (F1.out.next D1.out).a.c3⟩
    clear hK K
    (try show wpAnyH _ _ _ _ _ _ _ (Act.put _ (some 14) _) _); (try simp only [Act.put, List.setIfInBounds_toArray, List.set_cons_zero, List.set_cons_succ])
    refine wpAnyH_ready (rs := [3, 7]) (by kernel_rfl) (by simp) ?_
    refine (AllReadyH.cons rfl (fun K hK => ?_) (AllReadyH.cons rfl (fun K hK => ?_) AllReadyH.nil))
    · go_simp
      go_at_call 68
      refine (Lkl.spec_Step none w1.heap.size g0 k0 g1 k1 n2 k2 b2 rs who item wri fin d _ OK1.out HPL.out HG.out (fun b e => by cases e)).mono ?_
      intro e t13 hst
      obtain ⟨xp, xq, xr, yp, yq, yr, zp, zq, zr, rfl, hyes, hb, hbx⟩ := hst.one
      have D13 : Hid (Below w1.heap.size w1 t13) := D1.out.trans hb
      have YS13 : Hid (askN d (who, item, wri, fin) = true → ∃ rs' a' n' k', (Value.slice xp xq xr = .slice (some ⟨g0, 0, none⟩) 4 k0 ∧ Value.slice yp yq yr = .slice (some ⟨g1, 0, none⟩) 4 k1 ∧ Value.slice zp zq zr = .slice a' n' k') ∧ lplain rs' = (stepD d (who, item, wri, fin)).1 ∧ OwnK w1.heap.size t13 g0 k0 rs' g1 k1 (stepD d (who, item, wri, fin)).2.1 a' n' k' (stepD d (who, item, wri, fin)).2.2 ∧ n' ≤ 5 ∧ (false = true → OffK (0) g0 rs' g1 a')) := fun e => by
        obtain ⟨rs', a', n', k', q0, q1, q2, q3, q4⟩ := hyes e
        exact ⟨rs', a', n', k', q0, q1, q2, q3, fun h => absurd h (by decide)⟩
      clear hst hyes hb hbx
      go_wp2_with fail
      refine hK.out _ _ ?_ (fun hHeld => ?_)
      · exact ⟨(F1.out.next D13.out).p.c0, (F1.out.next D13.out).p.c1, (F1.out.next D13.out).p.c2, (F1.out.next D13.out).a.c0, (F1.out.next D13.out).a.c1, (F1.out.next D13.out).a.c2, (F1.out.next D13.out).a.c3⟩
      clear hK K
      (try show wpAnyH _ _ _ _ _ _ _ (Act.put _ (some 16) _) _); (try simp only [Act.put, List.setIfInBounds_toArray, List.set_cons_zero, List.set_cons_succ])
      refine wpAnyH_take (i := 4) (v := (.tuple #[.agg #[.slice xp xq xr, .slice yp yq yr, .slice zp zq zr], .bool (askN d (who, item, wri, fin))])) rfl (by kernel_rfl) (by kernel_rfl) (by kernel_rfl) (fun _ _ _ h => h) (Or.inl ⟨by rfl, ?_⟩) (by assumption) ?_
      · intro w hSw; (try dsimp only at hSw); go_simp
      (try show wpAnyH _ _ _ _ _ _ _ (Act.put _ (some 12) _) _); (try simp only [Act.put, List.setIfInBounds_toArray, List.set_cons_zero, List.set_cons_succ])
      refine wpAnyH_take (i := 5) (v := (.agg #[.slice xp xq xr, .slice yp yq yr, .slice zp zq zr])) rfl (by kernel_rfl) (by kernel_rfl) (by kernel_rfl) (fun _ _ _ h => h) (Or.inl ⟨by rfl, ?_⟩) (by assumption) ?_
      · intro w hSw; (try dsimp only at hSw); go_simp
      (try show wpAnyH _ _ _ _ _ _ _ (Act.put _ (some 17) _) _); (try simp only [Act.put, List.setIfInBounds_toArray, List.set_cons_zero, List.set_cons_succ])
      refine wpAnyH_take (i := 6) (v := (.bool (askN d (who, item, wri, fin)))) rfl (by kernel_rfl) (by kernel_rfl) (by kernel_rfl) (fun _ _ _ h => h) (Or.inl ⟨by rfl, ?_⟩) (by assumption) ?_
      · intro w hSw; (try dsimp only at hSw); go_simp
      (try show wpAnyH _ _ _ _ _ _ _ (Act.put _ (some 18) _) _); (try simp only [Act.put, List.setIfInBounds_toArray, List.set_cons_zero, List.set_cons_succ])
      refine wpAnyH_ready (rs := [7]) (by kernel_rfl) (by simp) ?_
      refine AllReadyH.cons rfl (fun K hK => ?_) AllReadyH.nil
      refine step_box _ (by rfl) (by rfl) ?_
      intro v137 hX hB hS
      have D137 : Hid (Below w1.heap.size w1 v137) := Frame.next D13.out hB D13.out.size
      have BX137 : Hid (Box v137 (t13.heap.size) NV NV NV) := hX
      have YS137 : Hid (askN d (who, item, wri, fin) = true → ∃ rs' a' n' k', (Value.slice xp xq xr = .slice (some ⟨g0, 0, none⟩) 4 k0 ∧ Value.slice yp yq yr = .slice (some ⟨g1, 0, none⟩) 4 k1 ∧ Value.slice zp zq zr = .slice a' n' k') ∧ lplain rs' = (stepD d (who, item, wri, fin)).1 ∧ OwnK w1.heap.size v137 g0 k0 rs' g1 k1 (stepD d (who, item, wri, fin)).2.1 a' n' k' (stepD d (who, item, wri, fin)).2.2 ∧ n' ≤ 5 ∧ (true = true → OffK (t13.heap.size) g0 rs' g1 a')) := fun e => by
        obtain ⟨rs', a', n', k', q0, q1, q2, q3, _⟩ := YS13.out e
        exact ⟨rs', a', n', k', q0, q1, q2.below hB, q3, fun _ => q2.off (Or.inr (Nat.le_refl _))⟩
      clear hX hB hS
      refine hK.out _ _ ?_ (fun hHeld => ?_)
      · exact ⟨(F1.out.next D137.out).p.c0, (F1.out.next D137.out).p.c1, (F1.out.next D137.out).p.c2, (F1.out.next D137.out).a.c0, (F1.out.next D137.out).a.c1, (F1.out.next D137.out).a.c2, (F1.out.next D137.out).a.c3⟩
      clear hK K
      (try show wpAnyH _ _ _ _ _ _ _ (Act.put _ (some 6) _) _); (try simp only [Act.put, List.setIfInBounds_toArray, List.set_cons_zero, List.set_cons_succ])
      refine wpAnyH_ready (rs := [8]) (by kernel_rfl) (by simp) ?_
      refine AllReadyH.cons rfl (fun K hK => ?_) AllReadyH.nil
      have BX := BX137.out
      have LB : Hid (w1.heap.size ≤ t13.heap.size) := D13.out.size
      have BF : Hid (Box (((v137.setCell ⟨t13.heap.size, 0, none⟩ (.slice xp xq xr)).setCell ⟨t13.heap.size, 1, none⟩ (.slice yp yq yr)).setCell ⟨t13.heap.size, 2, none⟩ (.slice zp zq zr)) (t13.heap.size) (.slice xp xq xr) (.slice yp yq yr) (.slice zp zq zr)) := BX.set
      have DF : Hid (Below w1.heap.size w1 (((v137.setCell ⟨t13.heap.size, 0, none⟩ (.slice xp xq xr)).setCell ⟨t13.heap.size, 1, none⟩ (.slice yp yq yr)).setCell ⟨t13.heap.size, 2, none⟩ (.slice zp zq zr))) := ((D137.out.setCell LB.out _).setCell LB.out _).setCell LB.out _
      obtain ⟨e0, e1, e2, e3, e4, e5⟩ := BX
      go_simp
      clear e0 e1 e2 e3 e4 e5
      refine hK.out _ _ ?_ (fun hHeld => ?_)
      · exact ⟨(F1.out.next DF.out).p.c0, (F1.out.next DF.out).p.c1, (F1.out.next DF.out).p.c2, (F1.out.next DF.out).a.c0, (F1.out.next DF.out).a.c1, (F1.out.next DF.out).a.c2, (F1.out.next DF.out).a.c3⟩
      clear hK K
      (try simp only [Act.put, List.setIfInBounds_toArray, List.set_cons_zero, List.set_cons_succ])
      refine wpAnyH_take (i := 9) (v := (.bool (askN d (who, item, wri, fin)))) rfl (by kernel_rfl) (by kernel_rfl) (by kernel_rfl) (fun _ _ _ h => h) (Or.inl ⟨by rfl, ?_⟩) (by assumption) ?_
      · intro w hSw; (try dsimp only at hSw); go_simp
      (try show wpAnyH _ _ _ _ _ _ _ (Act.put _ (some 7) _) _); (try simp only [Act.put, List.setIfInBounds_toArray, List.set_cons_zero, List.set_cons_succ])
      refine wpAnyH_done (by kernel_rfl) ?_ _
      rcases Bool.eq_false_or_eq_true (askN d (who, item, wri, fin)) with hn | hn
      rotate_left
      · have F : Hid (askG d (who, item, wri, fin) = false) := HGN.out.trans hn
        rw [hn]
        obtain ⟨⟨p0, p1, p2, pf0, pf1, pf2⟩, ⟨q0, q1, q2, q3⟩, ⟨r0, r1, r2, rf0, rf1, rf2⟩, _⟩ := F1.out.next DF.out
        go_wp2
        refine bodyPost_ret (v := .tuple #[.agg #[.slice none 0 0, .slice none 0 0, .slice none 0 0], .bool false]) (by simp [results, Try.results16, go_sem, r0, r1, r2]) rfl ?_
        exact ⟨_, _, _, _, _, _, _, _, _, by rw [F.out], by rw [HNO.out F.out]; exact Lki.sOwn_zero _ _ _, (((Frame.next B1.out DF.out B1.out.size).setCell (by show w.heap.size ≤ w.heap.size + 1 + 1; omega) _).setCell (by show w.heap.size ≤ w.heap.size + 1 + 1; omega) _).setCell (by show w.heap.size ≤ w.heap.size + 1 + 1; omega) _⟩
      have F : Hid (askG d (who, item, wri, fin) = true) := HGN.out.trans hn
      obtain ⟨rs', a', n', k', ⟨hx, hy, hz⟩, hp', hk', hn5, hoff⟩ := YS137.out hn
      cases hx
      cases hy
      cases hz
      have OF' : Hid (OffK (t13.heap.size) g0 rs' g1 zp) := hoff (by first | rfl | trivial)
      have OKF : Hid (OwnK w1.heap.size (((v137.setCell ⟨t13.heap.size, 0, none⟩ (.slice (some ⟨g0, 0, none⟩) 4 k0)).setCell ⟨t13.heap.size, 1, none⟩ (.slice (some ⟨g1, 0, none⟩) 4 k1)).setCell ⟨t13.heap.size, 2, none⟩ (.slice zp zq zr)) g0 k0 rs' g1 k1 (stepD d (who, item, wri, fin)).2.1 zp zq zr (stepD d (who, item, wri, fin)).2.2) := ((hk'.setOff OF'.out _ _).setOff OF'.out _ _).setOff OF'.out _ _
      have HP' : Hid (lplain rs' = (stepD d (who, item, wri, fin)).1) := hp'
      have HSF := SLocks.sOwn_is (OKF.out.sown (total_small hp' OKF.out.len (OwnLs.vlen OKF.out.rows) (fun j hj => by have := step_small (a := (who, item, wri, fin)) HG.out j hj; omega)) (by omega) (Nat.le_refl _))
      rw [hp'] at HSF
      have HSFH : Hid _ := HSF
      rw [hn]
      clear hn hp' hk' hoff HSF
      generalize hW : (((v137.setCell ⟨t13.heap.size, 0, none⟩ (.slice (some ⟨g0, 0, none⟩) 4 k0)).setCell ⟨t13.heap.size, 1, none⟩ (.slice (some ⟨g1, 0, none⟩) 4 k1)).setCell ⟨t13.heap.size, 2, none⟩ (.slice zp zq zr)) = WW at DF BF OKF HSFH ⊢
      clear hW
      have HZW : Hid (w1.heap.size ≤ WW.heap.size) := DF.out.size
      obtain ⟨s0, s1, s2, _, _, _⟩ := BF.out
      go_wp2_with fail
      refine (Lkk.spec_Own (some ⟨g0, 0, none⟩) (some ⟨g1, 0, none⟩) zp k0 k1 zq zr (stepD d (who, item, wri, fin)) _ HSFH.out (fun j hj => by have := step_small (a := (who, item, wri, fin)) HG.out j hj; omega) (by omega)).mono ?_
      rintro e w9 ⟨h0, l0, rs9, h1, l1, b9, l2, rfl, hp9, hk9, hb9⟩
      have B9 : Hid (Below w.heap.size w w9) := Frame.next (Frame.next B1.out DF.out B1.out.size) hb9 (Nat.le_trans B1.out.size HZW.out)
      have FW : Hid (Fs none w.heap.size who item wri fin (.slice a0 4 c0) (.slice a1 4 c1) (.slice a2 n2 c2) w9) := (F1.out.next DF.out).next hb9
      have hz9 : w.heap.size + 3 ≤ WW.heap.size + 2 := by have h1 := HZ1.out; have h2 := HZW.out; omega
      have O9 := hk9.sown (lo' := w.heap.size + 3) (total_small hp9 hk9.len (OwnLs.vlen hk9.rows) (fun j hj => by have := step_small (a := (who, item, wri, fin)) HG.out j hj; omega)) (by omega) hz9
      rw [hp9] at O9
      have O9H : Hid _ := O9
      clear hp9 hk9 hb9 O9 s0 s1 s2
      obtain ⟨⟨p0, p1, p2, pf0, pf1, pf2⟩, ⟨q0, q1, q2, q3⟩, ⟨r0, r1, r2, rf0, rf1, rf2⟩, _⟩ := FW.out
      go_wp2
      refine bodyPost_ret (v := .tuple #[.agg #[.slice (some ⟨h0, 0, none⟩) 4 l0, .slice (some ⟨h1, 0, none⟩) 4 l1, .slice b9 zq l2], .bool true]) (by simp [results, Try.results16, go_sem, r0, r1, r2]) rfl ?_
      exact ⟨_, _, _, _, _, _, _, _, _, by rw [F.out], by rw [HYES.out F.out]; exact SLocks.sOwn_wide (SLocks.sOwn_set (SLocks.sOwn_set (SLocks.sOwn_set O9H.out _ _ (by omega)) _ _ (by omega)) _ _ (by omega)) (by omega) (by simp), ((B9.out.setCell (by show w.heap.size ≤ w.heap.size + 1 + 1; omega) _).setCell (by show w.heap.size ≤ w.heap.size + 1 + 1; omega) _).setCell (by show w.heap.size ≤ w.heap.size + 1 + 1; omega) _⟩
    · refine step_box _ (by rfl) (by rfl) ?_
      intro v17 hX hB hS
      have D17 : Hid (Below w1.heap.size w1 v17) := Frame.next D1.out hB D1.out.size
      have BX17 : Hid (Box v17 (u1.heap.size) NV NV NV) := hX
      have OK17 : Hid (OwnK w1.heap.size v17 g0 k0 rs g1 k1 d.2.1 b2 n2 k2 d.2.2) := OK1.out.below hB
      have OF17 : Hid (OffK (u1.heap.size) g0 rs g1 b2) := OK1.out.off (Or.inr (Nat.le_refl _))
      clear hX hB hS
      refine hK.out _ _ ?_ (fun hHeld => ?_)
      · exact ⟨(F1.out.next D17.out).p.c0, (F1.out.next D17.out).p.c1, (F1.out.next D17.out).p.c2, (F1.out.next D17.out).a.c0, (F1.out.next D17.out).a.c1, (F1.out.next D17.out).a.c2, (F1.out.next D17.out).a.c3⟩
      clear hK K
      (try show wpAnyH _ _ _ _ _ _ _ (Act.put _ (some 6) _) _); (try simp only [Act.put, List.setIfInBounds_toArray, List.set_cons_zero, List.set_cons_succ])
      refine wpAnyH_ready (rs := [3]) (by kernel_rfl) (by simp) ?_
      refine AllReadyH.cons rfl (fun K hK => ?_) AllReadyH.nil
      go_simp
      go_at_call 68
      refine (Lkl.spec_Step (some (u1.heap.size)) w1.heap.size g0 k0 g1 k1 n2 k2 b2 rs who item wri fin d _ OK17.out HPL.out HG.out (fun b e => by cases e; exact ⟨OF17.out, BX17.out⟩)).mono ?_
      intro e t173 hst
      obtain ⟨xp, xq, xr, yp, yq, yr, zp, zq, zr, rfl, hyes, hb, hbx⟩ := hst.one
      have D173 : Hid (Below w1.heap.size w1 t173) := D17.out.trans hb
      have BX173 : Hid (Box t173 (u1.heap.size) NV NV NV) := hbx _ rfl
      have YS173 : Hid (askN d (who, item, wri, fin) = true → ∃ rs' a' n' k', (Value.slice xp xq xr = .slice (some ⟨g0, 0, none⟩) 4 k0 ∧ Value.slice yp yq yr = .slice (some ⟨g1, 0, none⟩) 4 k1 ∧ Value.slice zp zq zr = .slice a' n' k') ∧ lplain rs' = (stepD d (who, item, wri, fin)).1 ∧ OwnK w1.heap.size t173 g0 k0 rs' g1 k1 (stepD d (who, item, wri, fin)).2.1 a' n' k' (stepD d (who, item, wri, fin)).2.2 ∧ n' ≤ 5 ∧ (true = true → OffK (u1.heap.size) g0 rs' g1 a')) := fun e => by
        obtain ⟨rs', a', n', k', q0, q1, q2, q3, q4⟩ := hyes e
        exact ⟨rs', a', n', k', q0, q1, q2, q3, fun _ => q4 _ rfl⟩
      clear hst hyes hb hbx
      go_wp2_with fail
      refine hK.out _ _ ?_ (fun hHeld => ?_)
      · exact ⟨(F1.out.next D173.out).p.c0, (F1.out.next D173.out).p.c1, (F1.out.next D173.out).p.c2, (F1.out.next D173.out).a.c0, (F1.out.next D173.out).a.c1, (F1.out.next D173.out).a.c2, (F1.out.next D173.out).a.c3⟩
      clear hK K
      (try show wpAnyH _ _ _ _ _ _ _ (Act.put _ (some 16) _) _); (try simp only [Act.put, List.setIfInBounds_toArray, List.set_cons_zero, List.set_cons_succ])
      refine wpAnyH_take (i := 4) (v := (.tuple #[.agg #[.slice xp xq xr, .slice yp yq yr, .slice zp zq zr], .bool (askN d (who, item, wri, fin))])) rfl (by kernel_rfl) (by kernel_rfl) (by kernel_rfl) (fun _ _ _ h => h) (Or.inl ⟨by rfl, ?_⟩) (by assumption) ?_
      · intro w hSw; (try dsimp only at hSw); go_simp
      (try show wpAnyH _ _ _ _ _ _ _ (Act.put _ (some 12) _) _); (try simp only [Act.put, List.setIfInBounds_toArray, List.set_cons_zero, List.set_cons_succ])
      refine wpAnyH_take (i := 5) (v := (.agg #[.slice xp xq xr, .slice yp yq yr, .slice zp zq zr])) rfl (by kernel_rfl) (by kernel_rfl) (by kernel_rfl) (fun _ _ _ h => h) (Or.inl ⟨by rfl, ?_⟩) (by assumption) ?_
      · intro w hSw; (try dsimp only at hSw); go_simp
      (try show wpAnyH _ _ _ _ _ _ _ (Act.put _ (some 17) _) _); (try simp only [Act.put, List.setIfInBounds_toArray, List.set_cons_zero, List.set_cons_succ])
      refine wpAnyH_take (i := 6) (v := (.bool (askN d (who, item, wri, fin)))) rfl (by kernel_rfl) (by kernel_rfl) (by kernel_rfl) (fun _ _ _ h => h) (Or.inl ⟨by rfl, ?_⟩) (by assumption) ?_
      · intro w hSw; (try dsimp only at hSw); go_simp
      (try show wpAnyH _ _ _ _ _ _ _ (Act.put _ (some 18) _) _); (try simp only [Act.put, List.setIfInBounds_toArray, List.set_cons_zero, List.set_cons_succ])
      refine wpAnyH_ready (rs := [8]) (by kernel_rfl) (by simp) ?_
      refine AllReadyH.cons rfl (fun K hK => ?_) AllReadyH.nil
      have BX := BX173.out
      have LB : Hid (w1.heap.size ≤ u1.heap.size) := D1.out.size
      have BF : Hid (Box (((t173.setCell ⟨u1.heap.size, 0, none⟩ (.slice xp xq xr)).setCell ⟨u1.heap.size, 1, none⟩ (.slice yp yq yr)).setCell ⟨u1.heap.size, 2, none⟩ (.slice zp zq zr)) (u1.heap.size) (.slice xp xq xr) (.slice yp yq yr) (.slice zp zq zr)) := BX.set
      have DF : Hid (Below w1.heap.size w1 (((t173.setCell ⟨u1.heap.size, 0, none⟩ (.slice xp xq xr)).setCell ⟨u1.heap.size, 1, none⟩ (.slice yp yq yr)).setCell ⟨u1.heap.size, 2, none⟩ (.slice zp zq zr))) := ((D173.out.setCell LB.out _).setCell LB.out _).setCell LB.out _
      obtain ⟨e0, e1, e2, e3, e4, e5⟩ := BX
      go_simp
      clear e0 e1 e2 e3 e4 e5
      refine hK.out _ _ ?_ (fun hHeld => ?_)
      · exact ⟨(F1.out.next DF.out).p.c0, (F1.out.next DF.out).p.c1, (F1.out.next DF.out).p.c2, (F1.out.next DF.out).a.c0, (F1.out.next DF.out).a.c1, (F1.out.next DF.out).a.c2, (F1.out.next DF.out).a.c3⟩
      clear hK K
      (try simp only [Act.put, List.setIfInBounds_toArray, List.set_cons_zero, List.set_cons_succ])
      refine wpAnyH_take (i := 9) (v := (.bool (askN d (who, item, wri, fin)))) rfl (by kernel_rfl) (by kernel_rfl) (by kernel_rfl) (fun _ _ _ h => h) (Or.inl ⟨by rfl, ?_⟩) (by assumption) ?_
      · intro w hSw; (try dsimp only at hSw); go_simp
      (try show wpAnyH _ _ _ _ _ _ _ (Act.put _ (some 7) _) _); (try simp only [Act.put, List.setIfInBounds_toArray, List.set_cons_zero, List.set_cons_succ])
      refine wpAnyH_done (by kernel_rfl) ?_ _
      rcases Bool.eq_false_or_eq_true (askN d (who, item, wri, fin)) with hn | hn
      rotate_left
      · have F : Hid (askG d (who, item, wri, fin) = false) := HGN.out.trans hn
        rw [hn]
        obtain ⟨⟨p0, p1, p2, pf0, pf1, pf2⟩, ⟨q0, q1, q2, q3⟩, ⟨r0, r1, r2, rf0, rf1, rf2⟩, _⟩ := F1.out.next DF.out
        go_wp2
        refine bodyPost_ret (v := .tuple #[.agg #[.slice none 0 0, .slice none 0 0, .slice none 0 0], .bool false]) (by simp [results, Try.results16, go_sem, r0, r1, r2]) rfl ?_
        exact ⟨_, _, _, _, _, _, _, _, _, by rw [F.out], by rw [HNO.out F.out]; exact Lki.sOwn_zero _ _ _, (((Frame.next B1.out DF.out B1.out.size).setCell (by show w.heap.size ≤ w.heap.size + 1 + 1; omega) _).setCell (by show w.heap.size ≤ w.heap.size + 1 + 1; omega) _).setCell (by show w.heap.size ≤ w.heap.size + 1 + 1; omega) _⟩
      have F : Hid (askG d (who, item, wri, fin) = true) := HGN.out.trans hn
      obtain ⟨rs', a', n', k', ⟨hx, hy, hz⟩, hp', hk', hn5, hoff⟩ := YS173.out hn
      cases hx
      cases hy
      cases hz
      have OF' : Hid (OffK (u1.heap.size) g0 rs' g1 zp) := hoff (by first | rfl | trivial)
      have OKF : Hid (OwnK w1.heap.size (((t173.setCell ⟨u1.heap.size, 0, none⟩ (.slice (some ⟨g0, 0, none⟩) 4 k0)).setCell ⟨u1.heap.size, 1, none⟩ (.slice (some ⟨g1, 0, none⟩) 4 k1)).setCell ⟨u1.heap.size, 2, none⟩ (.slice zp zq zr)) g0 k0 rs' g1 k1 (stepD d (who, item, wri, fin)).2.1 zp zq zr (stepD d (who, item, wri, fin)).2.2) := ((hk'.setOff OF'.out _ _).setOff OF'.out _ _).setOff OF'.out _ _
      have HP' : Hid (lplain rs' = (stepD d (who, item, wri, fin)).1) := hp'
      have HSF := SLocks.sOwn_is (OKF.out.sown (total_small hp' OKF.out.len (OwnLs.vlen OKF.out.rows) (fun j hj => by have := step_small (a := (who, item, wri, fin)) HG.out j hj; omega)) (by omega) (Nat.le_refl _))
      rw [hp'] at HSF
      have HSFH : Hid _ := HSF
      rw [hn]
      clear hn hp' hk' hoff HSF
      generalize hW : (((t173.setCell ⟨u1.heap.size, 0, none⟩ (.slice (some ⟨g0, 0, none⟩) 4 k0)).setCell ⟨u1.heap.size, 1, none⟩ (.slice (some ⟨g1, 0, none⟩) 4 k1)).setCell ⟨u1.heap.size, 2, none⟩ (.slice zp zq zr)) = WW at DF BF OKF HSFH ⊢
      clear hW
      have HZW : Hid (w1.heap.size ≤ WW.heap.size) := DF.out.size
      obtain ⟨s0, s1, s2, _, _, _⟩ := BF.out
      go_wp2_with fail
      refine (Lkk.spec_Own (some ⟨g0, 0, none⟩) (some ⟨g1, 0, none⟩) zp k0 k1 zq zr (stepD d (who, item, wri, fin)) _ HSFH.out (fun j hj => by have := step_small (a := (who, item, wri, fin)) HG.out j hj; omega) (by omega)).mono ?_
      rintro e w9 ⟨h0, l0, rs9, h1, l1, b9, l2, rfl, hp9, hk9, hb9⟩
      have B9 : Hid (Below w.heap.size w w9) := Frame.next (Frame.next B1.out DF.out B1.out.size) hb9 (Nat.le_trans B1.out.size HZW.out)
      have FW : Hid (Fs none w.heap.size who item wri fin (.slice a0 4 c0) (.slice a1 4 c1) (.slice a2 n2 c2) w9) := (F1.out.next DF.out).next hb9
      have hz9 : w.heap.size + 3 ≤ WW.heap.size + 2 := by have h1 := HZ1.out; have h2 := HZW.out; omega
      have O9 := hk9.sown (lo' := w.heap.size + 3) (total_small hp9 hk9.len (OwnLs.vlen hk9.rows) (fun j hj => by have := step_small (a := (who, item, wri, fin)) HG.out j hj; omega)) (by omega) hz9
      rw [hp9] at O9
      have O9H : Hid _ := O9
      clear hp9 hk9 hb9 O9 s0 s1 s2
      obtain ⟨⟨p0, p1, p2, pf0, pf1, pf2⟩, ⟨q0, q1, q2, q3⟩, ⟨r0, r1, r2, rf0, rf1, rf2⟩, _⟩ := FW.out
      go_wp2
      refine bodyPost_ret (v := .tuple #[.agg #[.slice (some ⟨h0, 0, none⟩) 4 l0, .slice (some ⟨h1, 0, none⟩) 4 l1, .slice b9 zq l2], .bool true]) (by simp [results, Try.results16, go_sem, r0, r1, r2]) rfl ?_
      exact ⟨_, _, _, _, _, _, _, _, _, by rw [F.out], by rw [HYES.out F.out]; exact SLocks.sOwn_wide (SLocks.sOwn_set (SLocks.sOwn_set (SLocks.sOwn_set O9H.out _ _ (by omega)) _ _ (by omega)) _ _ (by omega)) (by omega) (by simp), ((B9.out.setCell (by show w.heap.size ≤ w.heap.size + 1 + 1; omega) _).setCell (by show w.heap.size ≤ w.heap.size + 1 + 1; omega) _).setCell (by show w.heap.size ≤ w.heap.size + 1 + 1; omega) _⟩
  · refine step_box _ (by rfl) (by rfl) ?_
    intro v7 hX hB hS
    have D7 : Hid (Below w1.heap.size w1 v7) := Frame.next D0.out hB D0.out.size
    have BX7 : Hid (Box v7 (w1.heap.size) NV NV NV) := hX
    clear hX hB hS
    refine hK.out _ _ ?_ (fun hHeld => ?_)
    · exact ⟨(F1.out.next D7.out).p.c0, (F1.out.next D7.out).p.c1, (F1.out.next D7.out).p.c2, (F1.out.next D7.out).a.c0, (F1.out.next D7.out).a.c1, (F1.out.next D7.out).a.c2, (F1.out.next D7.out).a.c3⟩
    clear hK K
    (try show wpAnyH _ _ _ _ _ _ _ (Act.put _ (some 6) _) _); (try simp only [Act.put, List.setIfInBounds_toArray, List.set_cons_zero, List.set_cons_succ])
    refine wpAnyH_ready (rs := [1]) (by kernel_rfl) (by simp) ?_
    refine AllReadyH.cons rfl (fun K hK => ?_) AllReadyH.nil
    go_simp
    go_at_call 69
    refine (Lkk.spec_Own a0 a1 a2 c0 c1 n2 c2 d _ (SLocks.sIs_below (SLocks.sIs_below HS.out B1.out) D7.out) HR.out (by omega)).mono ?_
    rintro e u71 ⟨g0, k0, rs, g1, k1, b2, k2, rfl, hpl, hok, hb⟩
    have HPL : Hid (lplain rs = d.1) := hpl
    have D71 : Hid (Below w1.heap.size w1 u71) := Frame.next D7.out hb D7.out.size
    have OK71 : Hid (OwnK w1.heap.size u71 g0 k0 rs g1 k1 d.2.1 b2 n2 k2 d.2.2) := hok.base (Nat.le_trans D7.out.size (Nat.le_add_right _ _))
    have BX71 : Hid (Box u71 (w1.heap.size) NV NV NV) := BX7.out.below hb
    have OF71 : Hid (OffK (w1.heap.size) g0 rs g1 b2) := hok.off (Or.inl (by have h := Frame.cell_lt BX7.out.c0; simp only at h; omega))
    clear hpl hok hb
    go_wp2_with fail
    refine hK.out _ _ ?_ (fun hHeld => ?_)
    · exact ⟨(F1.out.next D71.out).p.c0, (F1.out.next D71.out).p.c1, (F1.out.next D71.out).p.c2, (F1.out.next D71.out).a.c0, (F1.out.next D71.out).a.c1, (F1.out.next D71.out).a.c2, (F1.out.next D71.out).a.c3⟩
    clear hK K
    (try show wpAnyH _ _ _ _ _ _ _ (Act.put _ (some 14) _) _); (try simp only [Act.put, List.setIfInBounds_toArray, List.set_cons_zero, List.set_cons_succ])
    refine wpAnyH_ready (rs := [3]) (by kernel_rfl) (by simp) ?_
    refine AllReadyH.cons rfl (fun K hK => ?_) AllReadyH.nil
    go_simp
    go_at_call 68
    refine (Lkl.spec_Step (some (w1.heap.size)) w1.heap.size g0 k0 g1 k1 n2 k2 b2 rs who item wri fin d _ OK71.out HPL.out HG.out (fun b e => by cases e; exact ⟨OF71.out, BX71.out⟩)).mono ?_
    intro e t713 hst
    obtain ⟨xp, xq, xr, yp, yq, yr, zp, zq, zr, rfl, hyes, hb, hbx⟩ := hst.one
    have D713 : Hid (Below w1.heap.size w1 t713) := D71.out.trans hb
    have BX713 : Hid (Box t713 (w1.heap.size) NV NV NV) := hbx _ rfl
    have YS713 : Hid (askN d (who, item, wri, fin) = true → ∃ rs' a' n' k', (Value.slice xp xq xr = .slice (some ⟨g0, 0, none⟩) 4 k0 ∧ Value.slice yp yq yr = .slice (some ⟨g1, 0, none⟩) 4 k1 ∧ Value.slice zp zq zr = .slice a' n' k') ∧ lplain rs' = (stepD d (who, item, wri, fin)).1 ∧ OwnK w1.heap.size t713 g0 k0 rs' g1 k1 (stepD d (who, item, wri, fin)).2.1 a' n' k' (stepD d (who, item, wri, fin)).2.2 ∧ n' ≤ 5 ∧ (true = true → OffK (w1.heap.size) g0 rs' g1 a')) := fun e => by
      obtain ⟨rs', a', n', k', q0, q1, q2, q3, q4⟩ := hyes e
      exact ⟨rs', a', n', k', q0, q1, q2, q3, fun _ => q4 _ rfl⟩
    clear hst hyes hb hbx
    go_wp2_with fail
    refine hK.out _ _ ?_ (fun hHeld => ?_)
    · exact ⟨(F1.out.next D713.out).p.c0, (F1.out.next D713.out).p.c1, (F1.out.next D713.out).p.c2, (F1.out.next D713.out).a.c0, (F1.out.next D713.out).a.c1, (F1.out.next D713.out).a.c2, (F1.out.next D713.out).a.c3⟩
    clear hK K
    (try show wpAnyH _ _ _ _ _ _ _ (Act.put _ (some 16) _) _); (try simp only [Act.put, List.setIfInBounds_toArray, List.set_cons_zero, List.set_cons_succ])
    refine wpAnyH_take (i := 4) (v := (.tuple #[.agg #[.slice xp xq xr, .slice yp yq yr, .slice zp zq zr], .bool (askN d (who, item, wri, fin))])) rfl (by kernel_rfl) (by kernel_rfl) (by kernel_rfl) (fun _ _ _ h => h) (Or.inl ⟨by rfl, ?_⟩) (by assumption) ?_
    · intro w hSw; (try dsimp only at hSw); go_simp
    (try show wpAnyH _ _ _ _ _ _ _ (Act.put _ (some 12) _) _); (try simp only [Act.put, List.setIfInBounds_toArray, List.set_cons_zero, List.set_cons_succ])
    refine wpAnyH_take (i := 5) (v := (.agg #[.slice xp xq xr, .slice yp yq yr, .slice zp zq zr])) rfl (by kernel_rfl) (by kernel_rfl) (by kernel_rfl) (fun _ _ _ h => h) (Or.inl ⟨by rfl, ?_⟩) (by assumption) ?_
    · intro w hSw; (try dsimp only at hSw); go_simp
    (try show wpAnyH _ _ _ _ _ _ _ (Act.put _ (some 17) _) _); (try simp only [Act.put, List.setIfInBounds_toArray, List.set_cons_zero, List.set_cons_succ])
    refine wpAnyH_take (i := 6) (v := (.bool (askN d (who, item, wri, fin)))) rfl (by kernel_rfl) (by kernel_rfl) (by kernel_rfl) (fun _ _ _ h => h) (Or.inl ⟨by rfl, ?_⟩) (by assumption) ?_
    · intro w hSw; (try dsimp only at hSw); go_simp
    (try show wpAnyH _ _ _ _ _ _ _ (Act.put _ (some 18) _) _); (try simp only [Act.put, List.setIfInBounds_toArray, List.set_cons_zero, List.set_cons_succ])
    refine wpAnyH_ready (rs := [8]) (by kernel_rfl) (by simp) ?_
    refine AllReadyH.cons rfl (fun K hK => ?_) AllReadyH.nil
    have BX := BX713.out
    have LB : Hid (w1.heap.size ≤ w1.heap.size) := D0.out.size
    have BF : Hid (Box (((t713.setCell ⟨w1.heap.size, 0, none⟩ (.slice xp xq xr)).setCell ⟨w1.heap.size, 1, none⟩ (.slice yp yq yr)).setCell ⟨w1.heap.size, 2, none⟩ (.slice zp zq zr)) (w1.heap.size) (.slice xp xq xr) (.slice yp yq yr) (.slice zp zq zr)) := BX.set
    have DF : Hid (Below w1.heap.size w1 (((t713.setCell ⟨w1.heap.size, 0, none⟩ (.slice xp xq xr)).setCell ⟨w1.heap.size, 1, none⟩ (.slice yp yq yr)).setCell ⟨w1.heap.size, 2, none⟩ (.slice zp zq zr))) := ((D713.out.setCell LB.out _).setCell LB.out _).setCell LB.out _
    obtain ⟨e0, e1, e2, e3, e4, e5⟩ := BX
    go_simp
    clear e0 e1 e2 e3 e4 e5
    refine hK.out _ _ ?_ (fun hHeld => ?_)
    · exact ⟨(F1.out.next DF.out).p.c0, (F1.out.next DF.out).p.c1, (F1.out.next DF.out).p.c2, (F1.out.next DF.out).a.c0, (F1.out.next DF.out).a.c1, (F1.out.next DF.out).a.c2, (F1.out.next DF.out).a.c3⟩
    clear hK K
    (try simp only [Act.put, List.setIfInBounds_toArray, List.set_cons_zero, List.set_cons_succ])
    refine wpAnyH_take (i := 9) (v := (.bool (askN d (who, item, wri, fin)))) rfl (by kernel_rfl) (by kernel_rfl) (by kernel_rfl) (fun _ _ _ h => h) (Or.inl ⟨by rfl, ?_⟩) (by assumption) ?_
    · intro w hSw; (try dsimp only at hSw); go_simp
    (try show wpAnyH _ _ _ _ _ _ _ (Act.put _ (some 7) _) _); (try simp only [Act.put, List.setIfInBounds_toArray, List.set_cons_zero, List.set_cons_succ])
    refine wpAnyH_done (by kernel_rfl) ?_ _
    rcases Bool.eq_false_or_eq_true (askN d (who, item, wri, fin)) with hn | hn
    rotate_left
    · have F : Hid (askG d (who, item, wri, fin) = false) := HGN.out.trans hn
      rw [hn]
      obtain ⟨⟨p0, p1, p2, pf0, pf1, pf2⟩, ⟨q0, q1, q2, q3⟩, ⟨r0, r1, r2, rf0, rf1, rf2⟩, _⟩ := F1.out.next DF.out
      go_wp2
      refine bodyPost_ret (v := .tuple #[.agg #[.slice none 0 0, .slice none 0 0, .slice none 0 0], .bool false]) (by simp [results, Try.results16, go_sem, r0, r1, r2]) rfl ?_
      exact ⟨_, _, _, _, _, _, _, _, _, by rw [F.out], by rw [HNO.out F.out]; exact Lki.sOwn_zero _ _ _, (((Frame.next B1.out DF.out B1.out.size).setCell (by show w.heap.size ≤ w.heap.size + 1 + 1; omega) _).setCell (by show w.heap.size ≤ w.heap.size + 1 + 1; omega) _).setCell (by show w.heap.size ≤ w.heap.size + 1 + 1; omega) _⟩
    have F : Hid (askG d (who, item, wri, fin) = true) := HGN.out.trans hn
    obtain ⟨rs', a', n', k', ⟨hx, hy, hz⟩, hp', hk', hn5, hoff⟩ := YS713.out hn
    cases hx
    cases hy
    cases hz
    have OF' : Hid (OffK (w1.heap.size) g0 rs' g1 zp) := hoff (by first | rfl | trivial)
    have OKF : Hid (OwnK w1.heap.size (((t713.setCell ⟨w1.heap.size, 0, none⟩ (.slice (some ⟨g0, 0, none⟩) 4 k0)).setCell ⟨w1.heap.size, 1, none⟩ (.slice (some ⟨g1, 0, none⟩) 4 k1)).setCell ⟨w1.heap.size, 2, none⟩ (.slice zp zq zr)) g0 k0 rs' g1 k1 (stepD d (who, item, wri, fin)).2.1 zp zq zr (stepD d (who, item, wri, fin)).2.2) := ((hk'.setOff OF'.out _ _).setOff OF'.out _ _).setOff OF'.out _ _
    have HP' : Hid (lplain rs' = (stepD d (who, item, wri, fin)).1) := hp'
    have HSF := SLocks.sOwn_is (OKF.out.sown (total_small hp' OKF.out.len (OwnLs.vlen OKF.out.rows) (fun j hj => by have := step_small (a := (who, item, wri, fin)) HG.out j hj; omega)) (by omega) (Nat.le_refl _))
    rw [hp'] at HSF
    have HSFH : Hid _ := HSF
    rw [hn]
    clear hn hp' hk' hoff HSF
    generalize hW : (((t713.setCell ⟨w1.heap.size, 0, none⟩ (.slice (some ⟨g0, 0, none⟩) 4 k0)).setCell ⟨w1.heap.size, 1, none⟩ (.slice (some ⟨g1, 0, none⟩) 4 k1)).setCell ⟨w1.heap.size, 2, none⟩ (.slice zp zq zr)) = WW at DF BF OKF HSFH ⊢
    clear hW
    have HZW : Hid (w1.heap.size ≤ WW.heap.size) := DF.out.size
    obtain ⟨s0, s1, s2, _, _, _⟩ := BF.out
    go_wp2_with fail
    refine (Lkk.spec_Own (some ⟨g0, 0, none⟩) (some ⟨g1, 0, none⟩) zp k0 k1 zq zr (stepD d (who, item, wri, fin)) _ HSFH.out (fun j hj => by have := step_small (a := (who, item, wri, fin)) HG.out j hj; omega) (by omega)).mono ?_
    rintro e w9 ⟨h0, l0, rs9, h1, l1, b9, l2, rfl, hp9, hk9, hb9⟩
    have B9 : Hid (Below w.heap.size w w9) := Frame.next (Frame.next B1.out DF.out B1.out.size) hb9 (Nat.le_trans B1.out.size HZW.out)
    have FW : Hid (Fs none w.heap.size who item wri fin (.slice a0 4 c0) (.slice a1 4 c1) (.slice a2 n2 c2) w9) := (F1.out.next DF.out).next hb9
    have hz9 : w.heap.size + 3 ≤ WW.heap.size + 2 := by have h1 := HZ1.out; have h2 := HZW.out; omega
    have O9 := hk9.sown (lo' := w.heap.size + 3) (total_small hp9 hk9.len (OwnLs.vlen hk9.rows) (fun j hj => by have := step_small (a := (who, item, wri, fin)) HG.out j hj; omega)) (by omega) hz9
    rw [hp9] at O9
    have O9H : Hid _ := O9
    clear hp9 hk9 hb9 O9 s0 s1 s2
    obtain ⟨⟨p0, p1, p2, pf0, pf1, pf2⟩, ⟨q0, q1, q2, q3⟩, ⟨r0, r1, r2, rf0, rf1, rf2⟩, _⟩ := FW.out
    go_wp2
    refine bodyPost_ret (v := .tuple #[.agg #[.slice (some ⟨h0, 0, none⟩) 4 l0, .slice (some ⟨h1, 0, none⟩) 4 l1, .slice b9 zq l2], .bool true]) (by simp [results, Try.results16, go_sem, r0, r1, r2]) rfl ?_
    exact ⟨_, _, _, _, _, _, _, _, _, by rw [F.out], by rw [HYES.out F.out]; exact SLocks.sOwn_wide (SLocks.sOwn_set (SLocks.sOwn_set (SLocks.sOwn_set O9H.out _ _ (by omega)) _ _ (by omega)) _ _ (by omega)) (by omega) (by simp), ((B9.out.setCell (by show w.heap.size ≤ w.heap.size + 1 + 1; omega) _).setCell (by show w.heap.size ≤ w.heap.size + 1 + 1; omega) _).setCell (by show w.heap.size ≤ w.heap.size + 1 + 1; omega) _⟩


end Go.Proofs.Ytkondmnkmbdncaa.Lkm
