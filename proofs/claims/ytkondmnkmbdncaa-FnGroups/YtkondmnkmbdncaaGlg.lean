/-
  Contracts of groups in their order, in the model: l9Groups, GroupsOf.
-/
import Derived.Test.YtkondmnkmbdncaaGlf
import Derived.Test.YtkondmnkmbdncaaGle
namespace Go.Proofs.Ytkondmnkmbdncaa.Glg
open Go.RowKit
open Go.Proofs.Ytkondmnkmbdncaa.Frame Go.Proofs.Ytkondmnkmbdncaa.Mem Go.Proofs.Ytkondmnkmbdncaa.Ints Go.Proofs.Ytkondmnkmbdncaa.Kep Go.Proofs.Ytkondmnkmbdncaa.Lls Go.Proofs.Ytkondmnkmbdncaa.Mis Go.Proofs.Ytkondmnkmbdncaa.Gpu Go.Proofs.Ytkondmnkmbdncaa.Gpb Go.Proofs.Ytkondmnkmbdncaa.Gpv
open Go.Proofs.Ytkondmnkmbdncaa.Glb (own_row em_bool)
open Go.Proofs.Ytkondmnkmbdncaa.Glc (own_some lenOf)
open Go.Proofs.Ytkondmnkmbdncaa.Glf (ls_push ownLs_base lOwn_nil)
open Go.Proofs.Ytkondmnkmbdncaa.Sc (own_far own_kept intNe only_grown)
open Go.Proofs.Ytkondmnkmbdncaa.Knl hiding Ll
open Go.Proofs.Ytkondmnkmbdncaa.Rel

def putAll (ds g : List Int) : List Int := g.foldl (fun acc z => putN z acc) ds
theorem putAll_step (ds g : List Int) (t : Nat) (h : t < g.length) : putAll ds (g.take (t + 1)) = putN (g.getD t 0) (putAll ds (g.take t)) := by
  unfold putAll
  rw [take_succ_getD h, List.foldl_append]
  rfl
theorem mem_putAll {ds g : List Int} {z : Int} : z ∈ putAll ds g ↔ z ∈ ds ∨ z ∈ g := by
  unfold putAll
  induction g generalizing ds with
  | nil => simp
  | cons x g ih =>
    rw [List.foldl_cons, ih, mem_putN, List.mem_cons]
    constructor
    · rintro ((h | h) | h)
      · exact .inr (.inl h)
      · exact .inl h
      · exact .inr (.inr h)
    · rintro (h | h | h)
      · exact .inl (.inr h)
      · exact .inl (.inl h)
      · exact .inr h
theorem up_putAll {ds g : List Int} (h : UpN ds) : UpN (putAll ds g) := by
  unfold putAll
  induction g generalizing ds with
  | nil => exact h
  | cons x g ih => exact ih (up_putN h)
theorem more_done {ds ds' : List Int} {k : Int} (hu : UpN ds) (hu' : UpN ds') (hs : ∀ z ∈ ds, z ∈ ds') (hk : k ∈ ds') (hn : k ∉ ds) : ds.length < ds'.length := by
  have e : ds = ds'.filter fun z => decide (z ∈ ds) := upN_told hu (up_filter hu' _) fun s => by
    rw [List.mem_filter, decide_eq_true_eq]
    exact ⟨fun h => ⟨hs s h, h⟩, fun h => h.2⟩
  have : (ds'.filter fun z => decide (z ∈ ds)).length < ds'.length := List.length_filter_lt_length_iff_exists.2 ⟨k, hk, by simpa using hn⟩
  rw [← e] at this
  exact this
theorem shape_of {w : World} {base : Nat} {e : TypeId} {a : Option Addr} {n c : Nat} {xs : List Value} (h : w.ownsRow base e 1 (.slice a n c) n xs) : (n = 0 ∧ a = none ∧ c = 0) ∨ ∃ g, a = some ⟨g, 0, none⟩ := by
  rcases h.2 with ⟨hv, _⟩ | ⟨g, cap, cur, hv, _⟩
  · simp only [Value.slice.injEq] at hv
    exact .inl ⟨hv.2.1, hv.1, hv.2.2⟩
  · simp only [Value.slice.injEq] at hv
    exact .inr ⟨g, hv.1⟩

/-- What stands in memory at the loop's head: the groups so far and those that are done. -/
structure Mt (w wr : World) (ga : Option Addr) (gn gc : Nat) (rs : List LV) (da : Option Addr) (dn dc : Nat) (ds : List Int) : Prop where
  ls : OwnLs wr w.heap.size ga gn gc rs
  row : wr.ownsRow w.heap.size 3 1 (.slice da dn dc) dn (ints .i64 ds)
  bel : Below w.heap.size w wr
theorem Mt.below {w wr wr' : World} {ga : Option Addr} {gn gc : Nat} {rs : List LV} {da : Option Addr} {dn dc : Nat} {ds : List Int} (h : Mt w wr ga gn gc rs da dn dc ds) (hb : Below wr.heap.size wr wr') : Mt w wr' ga gn gc rs da dn dc ds :=
  ⟨h.ls.below hb, own_below h.row hb, Frame.next h.bel hb h.bel.size⟩
theorem Mt.len {w wr : World} {ga : Option Addr} {gn gc : Nat} {rs : List LV} {da : Option Addr} {dn dc : Nat} {ds : List Int} (h : Mt w wr ga gn gc rs da dn dc ds) : ds.length = dn := by have := h.row.1; rw [ints_length] at this; omega
/-- A group behind the others. -/
theorem Mt.push {w W W' : World} {ga a' : Option Addr} {gn gc c' q : Nat} {rs : List LV} {da : Option Addr} {dn dc : Nat} {ds : List Int} {r : LV} (h : Mt w W ga gn gc rs da dn dc ds) (hr : W.ownsRow q 3 1 (.slice r.a r.n r.c) r.n (ints .i64 r.zs)) (hq : w.heap.size ≤ q) (hf : ∀ s ∈ rs, Far s.a r.a) (hw : ∀ z ∈ r.zs, (Lit.int .i64 z).wf = true)
    (hg : W.grownBy W' (Value.slice ga gn gc).ownBlock) (ho : W'.ownsRow w.heap.size 24 1 (.slice a' (gn + 1) c') (gn + 1) (lcells rs ++ [.slice r.a r.n r.c])) : Mt w W' a' (gn + 1) c' (rs ++ [r]) da dn dc ds :=
  ⟨ls_push h.ls (own_base hr hq) hw hf hg (by rw [lcells_append]; exact ho), own_kept h.row h.ls.outer intNe hg, below_app h.bel h.ls.outer hg h.bel.size (Nat.le_refl _)⟩
/-- One more is done. -/
theorem Mt.put {w W W' : World} {ga : Option Addr} {gn gc : Nat} {rs : List LV} {da a' : Option Addr} {dn dc m c' : Nat} {ds ds' : List Int} (h : Mt w W ga gn gc rs da dn dc ds) (hb : Below W.heap.size W W')
    (hp : (a' = da ∧ m = dn ∧ c' = dc ∧ W' = W ∧ ds' = ds) ∨ (W'.ownsRow W.heap.size 3 1 (.slice a' m c') m (ints .i64 ds') ∧ m ≤ dn + 1)) : Mt w W' ga gn gc rs a' m c' ds' := by
  rcases hp with ⟨rfl, rfl, rfl, rfl, rfl⟩ | ⟨ho, _⟩
  · exact h
  · exact ⟨h.ls.below hb, own_base ho h.bel.size, Frame.next h.bel hb h.bel.size⟩

set_option maxRecDepth 8000 in
set_option maxHeartbeats 6400000 in
theorem l9Groups (la : Option Addr) (ln lc : Nat) (rs : List LV) (w : World) (hl : IsLs w la ln lc rs) (hg : GoodP (lplain rs)) :
    Calls Try.prog 84 #[.slice la ln lc] w fun e w' => ∃ a' m c', e = .returned (.slice a' m c') ∧ (∃ rs', OwnLs w' w.heap.size a' m c' rs' ∧ lplain rs' = groupsN (lplain rs)) ∧ Below w.heap.size w w' := by
  obtain ⟨i0, hi, hz0, hz1, hz2⟩ := info_parts infoL
  have hlen : (lplain rs).length = ln := by simp [lplain, hl.len]
  have HL : Hid ((lplain rs).length = ln) := hlen
  have HI : Hid (IsLs w la ln lc rs) := hl
  have HG : Hid (GoodP (lplain rs)) := hg
  have hn12 : ln ≤ 12 := by have := hg.few; omega
  have M0 : Hid (Mt w w none 0 0 [] none 0 0 []) := ⟨⟨World.ownsRow_nil _ _ _ _, fun r hr => (by cases hr), fun r hr => (by cases hr), List.Pairwise.nil, fun r hr => (by cases hr)⟩, World.ownsRow_nil _ _ _ _, Below.refl _ _⟩
  have S0 : Hid (Gs (lplain rs) (lplain []) (Gpv.leftOf (lplain rs).length [])) := by
    have h := gs_start hg
    have e : Gpv.leftOf (lplain rs).length [] = numN (lplain rs).length := by unfold Gpv.leftOf; rw [List.filter_eq_self]; intro z _; rfl
    show Gs _ _ _
    rw [e]
    exact h
  clear hl hg hlen
  go_enter Try.func84, Try.ntmps84
  go_wp2_with fail
  go_loopw [3, 4] (fun v3 v4 wr => ∃ (ga : Option Addr) (gn gc : Nat) (grs : List LV) (da : Option Addr) (dn dc : Nat) (ds : List Int), v3 = .slice ga gn gc ∧ v4 = .slice da dn dc ∧ Mt w wr ga gn gc grs da dn dc ds ∧ UpN ds ∧ (∀ z ∈ ds, 0 ≤ z ∧ z < (ln : Int)) ∧ Gs (lplain rs) (lplain grs) (Gpv.leftOf (lplain rs).length ds)) (fun _ v4 _ => 13 - lenOf v4)
  case atStart => exact ⟨none, 0, 0, [], none, 0, 0, [], rfl, rfl, M0.out, List.Pairwise.nil, fun z hz => (by cases hz), S0.out⟩
  case round =>
    obtain ⟨ga, gn, gc, grs, da, dn, dc, ds, rfl, rfl, hmt, hud, hmd, hgs⟩ := hrel
    have HM : Hid (Mt w wr ga gn gc grs da dn dc ds) := hmt
    have HU : Hid (UpN ds) := hud
    have HD : Hid (∀ z ∈ ds, 0 ≤ z ∧ z < (ln : Int)) := hmd
    have HS : Hid (Gs (lplain rs) (lplain grs) (Gpv.leftOf (lplain rs).length ds)) := hgs
    have hdl : ds.length = dn := hmt.len
    have hd12 : dn ≤ ln := by have := up_few hud hmd; omega
    have hgn : gn ≤ 12 := by
      have h1 := gs_few hgs
      have h2 := hmt.ls.len
      have h3 : (lplain grs).length = grs.length := by simp [lplain]
      have := HL.out
      omega
    clear hmt hud hmd hgs M0 S0
    by_cases hlt0 : dn < ln
    · have HNE : Hid (Gpv.leftOf (lplain rs).length ds ≠ []) := by rw [HL.out]; exact left_some HU.out HD.out (by omega)
      have hltI : (dn : Int) < (ln : Int) := by omega
      go_wp2_with fail
      rename World => wo
      go_loopw [3, 4, 19] (fun v3 v4 i wr => ∃ k : Nat, k ≤ ln ∧ i = .int .i64 k ∧ v3 = .slice ga gn gc ∧ v4 = .slice da dn dc ∧ (∀ j : Nat, j < k → (j : Int) ∉ ds → readyB (lplain rs) (Gpv.leftOf (lplain rs).length ds) (j : Int) = false) ∧ Mt w wr ga gn gc grs da dn dc ds) (fun _ _ i _ => ln - (intOf i).toNat)
      case atStart => exact ⟨0, Nat.zero_le _, rfl, rfl, rfl, fun j hj => absurd hj (by omega), HM.out⟩
      case round =>
        obtain ⟨k, hk, rfl, rfl, rfl, hall, hmt⟩ := hrel
        rename World => wo1
        have HA : Hid (∀ j : Nat, j < k → (j : Int) ∉ ds → readyB (lplain rs) (Gpv.leftOf (lplain rs).length ds) (j : Int) = false) := hall
        have HM1 : Hid (Mt w wo1 ga gn gc grs da dn dc ds) := hmt
        clear hall hmt
        by_cases hlt : k < ln
        · have RD : Hid (IsRow .i64 wo1 da dn dc ds) := own_row HM1.out.row (fun z hz => numN_wf 12 (by omega) z (mem_numN.2 (by have := HD.out z hz; omega)))
          have HKR : Hid (0 ≤ (k : Int) ∧ (k : Int) < ((lplain rs).length : Int)) := by rw [HL.out]; show _ ∧ _; omega
          go_wp2_with fail
          refine (Ihl.l1Has _ _ _ ds (k : Int) _ RD.out).mono ?_
          rintro e w' ⟨rfl, hw'⟩; have hw'' := hw'.symm; clear hw'; subst hw''
          by_cases hin : (k : Int) ∈ ds
          · have F : Hid (∀ j : Nat, j < k + 1 → (j : Int) ∉ ds → readyB (lplain rs) (Gpv.leftOf (lplain rs).length ds) (j : Int) = false) := fun j hj hnj => by
              by_cases e : j = k
              · subst e; exact absurd hin hnj
              · exact HA.out j (by omega) hnj
            rw [decide_eq_true hin]
            clear hin
            go_wp2
            go_roundw
            case rel => exact ⟨k + 1, by omega, by go_num, rfl, rfl, F.out, HM1.out⟩
            case measure => simp [intOf]; omega
          · have HNI : Hid ((k : Int) ∉ ds) := hin
            rw [decide_eq_false hin]
            clear hin
            go_wp2_with fail
            refine (Gle.l9Group la ln lc rs k _ (IsLs.below HI.out HM1.out.bel) HG.out hlt).mono ?_
            rintro e w2 ⟨a2, m2, c2, rfl, hm2, ho2, hb2⟩
            have HM2 : Hid (Mt w w2 ga gn gc grs da dn dc ds) := HM1.out.below hb2
            have G2 : Hid (w2.ownsRow wo1.heap.size 3 1 (.slice a2 m2 c2) m2 (ints .i64 (groupN (lplain rs) (k : Int)))) := ho2
            have FAR2 : Hid (∀ s ∈ grs, Far s.a a2) := fun s hs x y hx hy => by
              have h1 := (HM1.out.ls.lt s hs x hx).2
              have h2 := (own_block ho2 y hy).1
              omega
            have LO : Hid (w.heap.size ≤ wo1.heap.size) := HM1.out.bel.size
            clear ho2 hb2
            go_wp2_with fail
            refine (Glc.l9Reach la ln lc rs k _ (IsLs.below HI.out HM2.out.bel) HG.out hlt).mono ?_
            rintro e w3 ⟨a3, m3, c3, rfl, hm3, ho3, hb3⟩
            have HM3 : Hid (Mt w w3 ga gn gc grs da dn dc ds) := HM2.out.below hb3
            have G3 : Hid (w3.ownsRow wo1.heap.size 3 1 (.slice a2 m2 c2) m2 (ints .i64 (groupN (lplain rs) (k : Int)))) := own_below G2.out hb3
            have RG : Hid (IsRow .i64 w3 a2 m2 c2 (groupN (lplain rs) (k : Int))) := own_row G3.out (group_wf (by have := HG.out.few; omega))
            have RR : Hid (IsRow .i64 w3 a3 m3 c3 (reachN (lplain rs) (k : Int))) := own_row ho3 (reach_wf (by have := HG.out.few; omega))
            have RD3 : Hid (IsRow .i64 w3 da dn dc ds) := own_row HM3.out.row RD.out.wf
            have HRL : Hid ((reachN (lplain rs) (k : Int)).length = m3) := RR.out.len
            clear ho3 hb3 G2 HM2
            go_wp2_with fail
            rename World => wi
            go_loopw [7, 32] (fun v7 i wr => ∃ t : Nat, t ≤ m3 ∧ i = .int .i64 t ∧ v7 = .bool (((reachN (lplain rs) (k : Int)).take t).all (fun x => decide (x ∈ ds) || decide (x ∈ groupN (lplain rs) (k : Int)))) ∧ wr = wi) (fun _ i _ => m3 - (intOf i).toNat)
            case atStart => exact ⟨0, Nat.zero_le _, rfl, rfl, rfl⟩
            case round =>
              obtain ⟨t, ht, rfl, rfl, hww⟩ := hrel
              have hww2 := hww.symm
              clear hww
              subst hww2
              by_cases hlt3 : t < m3
              · obtain ⟨b3, o3, rfl, hl3, hc3⟩ := RR.out.cells (by omega)
                have p3 := hc3 t hlt3
                have htl : t < (reachN (lplain rs) (k : Int)).length := by rw [HRL.out]; exact hlt3
                have HAL : Hid (((reachN (lplain rs) (k : Int)).take (t + 1)).all (fun x => decide (x ∈ ds) || decide (x ∈ groupN (lplain rs) (k : Int))) = (((reachN (lplain rs) (k : Int)).take t).all (fun x => decide (x ∈ ds) || decide (x ∈ groupN (lplain rs) (k : Int))) && (decide ((reachN (lplain rs) (k : Int)).getD t 0 ∈ ds) || decide ((reachN (lplain rs) (k : Int)).getD t 0 ∈ groupN (lplain rs) (k : Int))))) := by
                  show _ = _
                  rw [take_succ_getD htl, List.all_append]
                  simp
                generalize (reachN (lplain rs) (k : Int)).getD t 0 = z at p3 HAL
                have ht0 : (0 : Int) ≤ (t : Int) := by omega
                have htm : (t : Int) < (m3 : Int) := by omega
                clear hc3 hl3 htl
                generalize ((reachN (lplain rs) (k : Int)).take t).all (fun x => decide (x ∈ ds) || decide (x ∈ groupN (lplain rs) (k : Int))) = bb at HAL ⊢
                cases bb
                · have F : Hid (((reachN (lplain rs) (k : Int)).take (t + 1)).all (fun x => decide (x ∈ ds) || decide (x ∈ groupN (lplain rs) (k : Int))) = false) := by show _ = _; rw [HAL.out]; rfl
                  clear HAL
                  go_wp2_with fail
                  go_roundw
                  case rel => exact ⟨t + 1, by omega, by go_num, by rw [F.out], by first | trivial | rfl⟩
                  case measure => simp [intOf]; omega
                · have F : Hid (((reachN (lplain rs) (k : Int)).take (t + 1)).all (fun x => decide (x ∈ ds) || decide (x ∈ groupN (lplain rs) (k : Int))) = (decide (z ∈ ds) || decide (z ∈ groupN (lplain rs) (k : Int)))) := by show _ = _; rw [HAL.out, Bool.true_and]
                  clear HAL
                  go_wp2_with fail
                  refine (Ihl.l1Has _ _ _ ds z _ RD3.out).mono ?_
                  rintro e w' ⟨rfl, hw'⟩; have hw'' := hw'.symm; clear hw'; subst hw''
                  rcases em_bool (decide (z ∈ ds)) with hv | hv
                  · have F2 : Hid (((reachN (lplain rs) (k : Int)).take (t + 1)).all (fun x => decide (x ∈ ds) || decide (x ∈ groupN (lplain rs) (k : Int))) = decide (z ∈ groupN (lplain rs) (k : Int))) := by show _ = _; rw [F.out, hv, Bool.false_or]
                    rw [hv]
                    clear hv F
                    go_wp2_with fail
                    refine (Ihl.l1Has _ _ _ _ z _ RG.out).mono ?_
                    rintro e w' ⟨rfl, hw'⟩; have hw'' := hw'.symm; clear hw'; subst hw''
                    rw [← F2.out]
                    go_wp2_with fail
                    go_roundw
                    case rel => exact ⟨t + 1, by omega, by go_num, rfl, by first | trivial | rfl⟩
                    case measure => simp [intOf]; omega
                  · have F2 : Hid (((reachN (lplain rs) (k : Int)).take (t + 1)).all (fun x => decide (x ∈ ds) || decide (x ∈ groupN (lplain rs) (k : Int))) = true) := by show _ = _; rw [F.out, hv, Bool.true_or]
                    rw [hv]
                    clear hv F
                    go_wp2_with fail
                    go_roundw
                    case rel => exact ⟨t + 1, by omega, by go_num, by rw [F2.out], by first | trivial | rfl⟩
                    case measure => simp [intOf]; omega
              · have F : Hid (((reachN (lplain rs) (k : Int)).take t).all (fun x => decide (x ∈ ds) || decide (x ∈ groupN (lplain rs) (k : Int))) = readyB (lplain rs) (Gpv.leftOf (lplain rs).length ds) (k : Int)) := by
                  show _ = _
                  rw [List.take_of_length_le (by rw [HRL.out]; omega)]
                  exact ready_as HG.out HKR.out
                rw [F.out]
                rcases em_bool (readyB (lplain rs) (Gpv.leftOf (lplain rs).length ds) (k : Int)) with hv | hv
                · have F2 : Hid (∀ j : Nat, j < k + 1 → (j : Int) ∉ ds → readyB (lplain rs) (Gpv.leftOf (lplain rs).length ds) (j : Int) = false) := fun j hj hnj => by
                    by_cases e : j = k
                    · subst e; exact hv
                    · exact HA.out j (by omega) hnj
                  rw [hv]
                  clear hv F
                  go_wp2
                  go_roundw
                  case rel => exact ⟨k + 1, by omega, by go_num, rfl, rfl, F2.out, HM3.out⟩
                  case measure => simp [intOf]; omega
                · have FND : Hid ((Gpv.leftOf (lplain rs).length ds).find? (readyB (lplain rs) (Gpv.leftOf (lplain rs).length ds)) = some (k : Int)) := by
                    have h := HKR.out
                    exact find_left (by omega) HNI.out hv HA.out
                  rw [hv]
                  clear hv F
                  have HM4 : Hid (Mt w (wi.alloc (.cells #[.slice a2 m2 c2] 24)) ga gn gc grs da dn dc ds) := HM3.out.below ((Below.refl _ _).alloc (Nat.le_refl _) _)
                  have G4 : Hid ((wi.alloc (.cells #[.slice a2 m2 c2] 24)).ownsRow wo1.heap.size 3 1 (.slice a2 m2 c2) m2 (ints .i64 (groupN (lplain rs) (k : Int)))) := own_below G3.out ((Below.refl _ _).alloc (Nat.le_refl _) _)
                  have NEW4 : Hid (0 < 1 → ∃ ad, (some ⟨wi.heap.size, 0, none⟩ : Option Addr) = some ad ∧ ∀ j u, ([.slice a2 m2 c2] : List Value)[j]? = some u → (wi.alloc (.cells #[.slice a2 m2 c2] 24)).cell? (ad.add j) = some u) := news_one wi _ _
                  have B4 : Hid (w.heap.size ≤ (wi.alloc (.cells #[.slice a2 m2 c2] 24)).heap.size) := HM4.out.bel.size
                  go_wp2_with (at_builtin; refine App.wpList_append_all _ rfl _ _ 23 rfl w.heap.size 24 i0 (.slice none 0 0) 1 24 Try.underlying23 hi hz0 hz1 hz2 rfl (by decide) _ gn _ rfl HM4.out.ls.outer _ 1 _ [.slice a2 m2 c2] rfl rfl NEW4.out (by simp [Value.oneCell']) (by unfold maxLen; omega) (by omega) B4.out ?_)
                  intro a5 c5 w5 hown5 hgrow5
                  have HM5 : Hid (Mt w w5 a5 (gn + 1) c5 (grs ++ [⟨a2, m2, c2, groupN (lplain rs) (k : Int)⟩]) da dn dc ds) := HM4.out.push (r := ⟨a2, m2, c2, groupN (lplain rs) (k : Int)⟩) G4.out LO.out FAR2.out (group_wf (by have := HG.out.few; omega)) hgrow5 hown5
                  have HGL : Hid ((groupN (lplain rs) (k : Int)).length = m2) := RG.out.len
                  clear hown5 hgrow5 HM4 G4 NEW4 RG RR RD3 RD HM3 G3
                  go_wp2_with fail
                  rename World => w9
                  go_loopw [4, 55] (fun v4 i wr => ∃ (t : Nat) (da' : Option Addr) (dn' dc' : Nat), t ≤ m2 ∧ i = .int .i64 t ∧ v4 = .slice da' dn' dc' ∧ Mt w wr a5 (gn + 1) c5 (grs ++ [⟨a2, m2, c2, groupN (lplain rs) (k : Int)⟩]) da' dn' dc' (putAll ds ((groupN (lplain rs) (k : Int)).take t))) (fun _ i _ => m2 - (intOf i).toNat)
                  case atStart => exact ⟨0, da, dn, dc, Nat.zero_le _, rfl, rfl, HM5.out⟩
                  case round =>
                    obtain ⟨q, da', dn', dc', hq, rfl, rfl, hm6⟩ := hrel
                    have HM6 : Hid (Mt w wr a5 (gn + 1) c5 (grs ++ [⟨a2, m2, c2, groupN (lplain rs) (k : Int)⟩]) da' dn' dc' (putAll ds ((groupN (lplain rs) (k : Int)).take q))) := hm6
                    have hin6 : ∀ z ∈ putAll ds ((groupN (lplain rs) (k : Int)).take q), 0 ≤ z ∧ z < (ln : Int) := fun z hz => by
                      rcases mem_putAll.1 hz with h | h
                      · exact HD.out z h
                      · have := (mem_group.1 (List.mem_of_mem_take h)).1; rw [HL.out] at this; exact this
                    have hdn6 : dn' ≤ 12 := by have h1 := up_few (up_putAll HU.out) hin6; have h2 := hm6.len; omega
                    have WF6 : Hid (∀ z ∈ putAll ds ((groupN (lplain rs) (k : Int)).take q), (Lit.int .i64 z).wf = true) := fun z hz => numN_wf 12 (by omega) z (mem_numN.2 (by have := hin6 z hz; omega))
                    clear hm6 hin6
                    by_cases hlt6 : q < m2
                    · have hrow := HM6.out.ls.isLs.rows ⟨a2, m2, c2, groupN (lplain rs) (k : Int)⟩ (by simp)
                      simp only at hrow
                      obtain ⟨b6, o6, rfl, hl6, hc6⟩ := hrow.cells (by omega)
                      have p6 := hc6 q hlt6
                      have hgz : q < (groupN (lplain rs) (k : Int)).length := by rw [HGL.out]; exact hlt6
                      have HST : Hid (putAll ds ((groupN (lplain rs) (k : Int)).take (q + 1)) = putN ((groupN (lplain rs) (k : Int)).getD q 0) (putAll ds ((groupN (lplain rs) (k : Int)).take q))) := putAll_step _ _ _ hgz
                      have hzw := group_wf (xs := lplain rs) (by have := HG.out.few; omega) _ (getD_mem hgz)
                      generalize (groupN (lplain rs) (k : Int)).getD q 0 = z at p6 HST hzw
                      have HZW : Hid ((Lit.int .i64 z).wf = true) := hzw
                      have hq0 : (0 : Int) ≤ (q : Int) := by omega
                      have hqm : (q : Int) < (m2 : Int) := by omega
                      clear hc6 hl6 hgz hrow hzw
                      go_wp2_with fail
                      refine (Spo.spec_l1Put da' dn' dc' _ z _ (own_row HM6.out.row WF6.out) (shape_of HM6.out.row) (by omega) HZW.out).mono ?_
                      rintro e w7 ⟨a7, m7, c7, rfl, hput, hb7⟩
                      have HM7 : Hid (Mt w w7 a5 (gn + 1) c5 (grs ++ [⟨some ⟨b6, o6, none⟩, m2, c2, groupN (lplain rs) (k : Int)⟩]) a7 m7 c7 (putAll ds ((groupN (lplain rs) (k : Int)).take (q + 1)))) := by
                        show Mt _ _ _ _ _ _ _ _ _ _
                        rw [HST.out]
                        exact HM6.out.put hb7 hput
                      clear hput hb7 p6 HST
                      go_wp2_with fail
                      go_roundw
                      case rel => exact ⟨q + 1, a7, m7, c7, by omega, by go_num, rfl, HM7.out⟩
                      case measure => simp [intOf]; omega
                    · obtain rfl : q = m2 := by omega
                      have HK : Hid ((groupN (lplain rs) (k : Int)).take q = groupN (lplain rs) (k : Int)) := List.take_of_length_le (by rw [HGL.out]; omega)
                      have HM8 : Hid (Mt w wr a5 (gn + 1) c5 (grs ++ [⟨a2, q, c2, groupN (lplain rs) (k : Int)⟩]) da' dn' dc' (putAll ds (groupN (lplain rs) (k : Int)))) := by have h := HM6.out; rwa [HK.out] at h
                      have HIN8 : Hid (∀ z ∈ putAll ds (groupN (lplain rs) (k : Int)), 0 ≤ z ∧ z < (ln : Int)) := fun z hz => by
                        rcases mem_putAll.1 hz with h | h
                        · exact HD.out z h
                        · have := (mem_group.1 h).1; rw [HL.out] at this; exact this
                      have HU8 : Hid (UpN (putAll ds (groupN (lplain rs) (k : Int)))) := up_putAll HU.out
                      have HS8 : Hid (Gs (lplain rs) (lplain (grs ++ [⟨a2, q, c2, groupN (lplain rs) (k : Int)⟩])) (Gpv.leftOf (lplain rs).length (putAll ds (groupN (lplain rs) (k : Int))))) := by
                        have h := gs_step HS.out FND.out
                        rw [gs_group HS.out (List.mem_of_find?_eq_some FND.out)] at h
                        have e : lplain (grs ++ [⟨a2, q, c2, groupN (lplain rs) (k : Int)⟩]) = lplain grs ++ [groupN (lplain rs) (k : Int)] := by simp [lplain]
                        show Gs _ _ _
                        rw [e, left_less (fun z => mem_putAll)]
                        exact h
                      have HLT8 : Hid (dn < dn') := by
                        have h1 := more_done HU.out HU8.out (fun z hz => mem_putAll.2 (.inl hz)) (mem_putAll.2 (.inr (mem_group.2 ⟨HKR.out, .refl, .refl⟩))) HNI.out
                        have h2 := HM8.out.len
                        show dn < dn'
                        omega
                      have hd8 : dn' ≤ 12 := hdn6
                      clear HM6 WF6
                      go_wp2
                      go_roundw
                      case rel => exact ⟨a5, gn + 1, c5, _, da', dn', dc', _, rfl, rfl, HM8.out, HU8.out, HIN8.out, HS8.out⟩
                      case measure => simp only [lenOf]; have := HLT8.out; omega
        · exfalso
          obtain ⟨r, hr1, hr2⟩ := ready_one (lplain rs) HNE.out
          obtain ⟨h1, h2⟩ := Gpv.mem_left.1 hr1
          have := HA.out r.toNat (by have := HL.out; omega) (by rw [show (r.toNat : Int) = r by omega]; exact h2)
          rw [show (r.toNat : Int) = r by omega, hr2] at this
          cases this
    · have hln : Gpv.leftOf (lplain rs).length ds = [] := by rw [HL.out]; exact left_nil HU.out HD.out (by omega)
      have F : Hid (lplain grs = groupsN (lplain rs)) := gs_end (by rw [← hln]; exact HS.out)
      have hltI : ¬ (dn : Int) < (ln : Int) := by omega
      clear hln
      go_wp2
      go_ret
      exact ⟨_, _, _, rfl, ⟨grs, HM.out.ls, F.out⟩, HM.out.bel⟩

set_option maxRecDepth 8000 in
set_option maxHeartbeats 1600000 in
theorem spec_GroupsOf (v : Value) (xs : Ll) (w : World) (h : LIs w v xs) :
    Calls Try.prog 29 #[v] w fun e w' => ∃ u, e = .returned (.tuple #[u, .bool (goodG xs)]) ∧ LOwn w' w.heap.size w'.heap.size u (groupsV xs) ∧ Below w.heap.size w w' := by
  obtain ⟨a, n, c, rs, rfl, hr, rfl, ht⟩ := h
  have H : Hid (LIs w (.slice a n c) (lplain rs)) := ⟨a, n, c, rs, rfl, hr, rfl, ht⟩
  have HI : Hid (IsLs w a n c rs) := hr
  clear hr ht
  rcases em_bool (goodG (lplain rs)) with hg | hg
  · have HG : Hid (goodG (lplain rs) = false) := hg
    clear hg
    go_enter Try.func29, Try.ntmps29
    go_wp2_with fail
    refine (Gla.spec_GoodLinks _ _ _ H.out).mono ?_
    rintro e w' ⟨rfl, hw'⟩; have hw'' := hw'.symm; clear hw'; subst hw''
    rw [HG.out]
    go_wp2
    go_ret2
    refine ⟨_, by rw [HG.out]; rfl, ?_, Below.refl _ _⟩
    unfold groupsV
    rw [HG.out]
    exact lOwn_nil _ _ _
  · have HG : Hid (goodG (lplain rs) = true) := hg
    have GP : Hid (GoodP (lplain rs)) := good_iff.1 hg
    clear hg
    go_enter Try.func29, Try.ntmps29
    go_wp2_with fail
    refine (Gla.spec_GoodLinks _ _ _ H.out).mono ?_
    rintro e w' ⟨rfl, hw'⟩; have hw'' := hw'.symm; clear hw'; subst hw''
    rw [HG.out]
    go_wp2_with fail
    refine (l9Groups a n c rs _ HI.out GP.out).mono ?_
    rintro e w2 ⟨a', m, c', rfl, ⟨rs', ho, hp⟩, hb⟩
    have B2 : Hid (Below w.heap.size w w2) := hb
    have O2 : Hid (LOwn w2 w.heap.size w2.heap.size (.slice a' m c') (groupsV (lplain rs))) := by
      show LOwn _ _ _ _ _
      unfold groupsV
      rw [HG.out]
      have h := lOwn_of ho (by rw [hp]; have := groups_total GP.out; unfold ltotal; omega)
      rwa [hp] at h
    clear ho hb hp
    go_wp2
    go_ret2
    exact ⟨_, by rw [HG.out]; rfl, O2.out, B2.out⟩


end Go.Proofs.Ytkondmnkmbdncaa.Glg
