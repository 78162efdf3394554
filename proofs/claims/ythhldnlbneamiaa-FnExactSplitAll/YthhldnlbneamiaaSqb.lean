/-
  Contract of the program's SplitAll.
-/
import Derived.Test.YthhldnlbneamiaaSqa
import Derived.Test.YthhldnlbneamiaaLse
import Derived.Test.YthhldnlbneamiaaScg
import Derived.Test.YthhldnlbneamiaaSps
namespace Go.Proofs.Ythhldnlbneamiaa.Sqb
open Go.RowKit
open Go.Proofs.Ythhldnlbneamiaa.Ssc Go.Proofs.Ythhldnlbneamiaa.Frame Go.Proofs.Ythhldnlbneamiaa.Mem Go.Proofs.Ythhldnlbneamiaa.Ints Go.Proofs.Ythhldnlbneamiaa.Kep Go.Proofs.Ythhldnlbneamiaa.Lls Go.Proofs.Ythhldnlbneamiaa.Mis Go.Proofs.Ythhldnlbneamiaa.Dls Go.Proofs.Ythhldnlbneamiaa.Dlt Go.Proofs.Ythhldnlbneamiaa.Dlk Go.Proofs.Ythhldnlbneamiaa.Csa Go.Proofs.Ythhldnlbneamiaa.Csb Go.Proofs.Ythhldnlbneamiaa.Csc Go.Proofs.Ythhldnlbneamiaa.Csd Go.Proofs.Ythhldnlbneamiaa.Csf Go.Proofs.Ythhldnlbneamiaa.Spx Go.Proofs.Ythhldnlbneamiaa.Spy Go.Proofs.Ythhldnlbneamiaa.Bpu Go.Proofs.Ythhldnlbneamiaa.Bsp Go.Proofs.Ythhldnlbneamiaa.Bsq Go.Proofs.Ythhldnlbneamiaa.Lsd Go.Proofs.Ythhldnlbneamiaa.Spr Go.Proofs.Ythhldnlbneamiaa.Sqh Go.Proofs.Ythhldnlbneamiaa.Sqa Go.Proofs.Ythhldnlbneamiaa.Knl
open Go.Proofs.Ythhldnlbneamiaa.Rel hiding Ll
open Go.Proofs.Ythhldnlbneamiaa.Cpu hiding Dp

theorem own_first (w : World) (base : Nat) (v : Value) (e : TypeId) (h : base ≤ w.heap.size) (_hv : v.oneCell' = true) : (w.alloc (.cells #[v] e)).ownsRow base e 1 (.slice (some ⟨w.heap.size, 0, none⟩) 1 1) 1 [v] :=
  ⟨by simp, .inr ⟨w.heap.size, 1, #[v], rfl, h, heap_alloc_new w _, Nat.le_refl _, by simp [maxLen], by simp, by simp⟩⟩
theorem ls_first {w : World} {base : Nat} {a : Option Addr} {n c : Nat} {p : List Int} (h : w.ownsRow base 3 1 (.slice a n c) n (ints .i64 p)) (hw : ∀ z ∈ p, (Lit.int .i64 z).wf = true) (hb : base ≤ w.heap.size) : OwnLs (w.alloc (.cells #[.slice a n c] 24)) base (some ⟨w.heap.size, 0, none⟩) 1 1 [⟨a, n, c, p⟩] := by
  have ab : Below w.heap.size w (w.alloc (.cells #[.slice a n c] 24)) := (Below.refl _ _).alloc (Nat.le_refl _) _
  refine ⟨own_first w base _ _ hb rfl, fun r hr => ?_, fun r hr => ?_, List.pairwise_singleton _ _, fun r hr => ?_⟩
  · rw [List.mem_singleton.1 hr]; exact own_below h ab
  · rw [List.mem_singleton.1 hr]; exact hw
  · rw [List.mem_singleton.1 hr]
    intro x y hx hy
    cases hx
    have := (own_block h y hy).2
    show w.heap.size ≠ y.block
    omega

theorem runs_later {ds : List Dp} {l r : Pl} {k : Nat} (hk : k ≤ l.length) (h0 : ∀ i, i < k → isBad ds (l.getD i []) = false) (h : Runs ds l 0 r) : ∀ j, j ≤ k → Runs ds l j r
  | 0, _ => h
  | j + 1, hj => by
    have h1 := runs_later hk h0 h j (by omega)
    cases h1 with
    | fin h2 => omega
    | skip _ _ h3 => exact h3
    | split _ h2 _ => rw [h0 j (by omega)] at h2; cases h2
theorem step_get {ds : List Dp} {l : Pl} {k i : Nat} (hk : k ≤ l.length) (hi : i < k) : (stepL ds l k).getD i [] = l.getD i [] := by
  unfold stepL
  have hl : i < (l.take k).length := by rw [List.length_take]; omega
  simp [List.getD, List.getElem?_append_left hl, hi]
theorem runs_step {ds : List Dp} {l r : Pl} {k : Nat} (hk : k ≤ l.length) (h0 : ∀ i, i < k → isBad ds (l.getD i []) = false) (h : Runs ds (stepL ds l k) 0 r) : Runs ds (stepL ds l k) k r :=
  runs_later (by unfold stepL; simp; omega) (fun i hi => by rw [step_get hk hi]; exact h0 i hi) h k (Nat.le_refl _)
theorem own_step {W w5 : World} {base m c n' c' k : Nat} {a a' : Option Addr} {rs : List LV} (HO : OwnLs W base a m c rs) (hb : Below W.heap.size W w5) (r1 r2 : LV)
    (ho : w5.ownsRow base 24 1 (.slice a' n' c') n' (lcells (rs.take k ++ [r1, r2] ++ rs.drop (k + 1)))) (h1 : w5.ownsRow base 3 1 (.slice r1.a r1.n r1.c) r1.n (ints .i64 r1.zs)) (h2 : w5.ownsRow base 3 1 (.slice r2.a r2.n r2.c) r2.n (ints .i64 r2.zs))
    (wf1 : ∀ z ∈ r1.zs, (Lit.int .i64 z).wf = true) (wf2 : ∀ z ∈ r2.zs, (Lit.int .i64 z).wf = true) (f1 : ∀ x, r1.a = some x → W.heap.size ≤ x.block) (f2 : ∀ x, r2.a = some x → W.heap.size ≤ x.block) (f12 : Far r1.a r2.a) :
    OwnLs w5 base a' n' c' (rs.take k ++ [r1, r2] ++ rs.drop (k + 1)) := by
  have hin : ∀ r ∈ rs.take k ++ [r1, r2] ++ rs.drop (k + 1), w5.ownsRow base 3 1 (.slice r.a r.n r.c) r.n (ints .i64 r.zs) ∧ ∀ z ∈ r.zs, (Lit.int .i64 z).wf = true := by
    intro r hr
    rcases List.mem_append.1 hr with hr | hr
    · rcases List.mem_append.1 hr with hr | hr
      · have hr := List.mem_of_mem_take hr
        exact ⟨own_below (HO.inner r hr) hb, HO.wf r hr⟩
      · simp only [List.mem_cons, List.not_mem_nil, or_false] at hr
        rcases hr with rfl | rfl
        · exact ⟨h1, wf1⟩
        · exact ⟨h2, wf2⟩
    · have hr := List.mem_of_mem_drop hr
      exact ⟨own_below (HO.inner r hr) hb, HO.wf r hr⟩
  have old : ∀ r ∈ rs, ∀ s : LV, (∀ x, s.a = some x → W.heap.size ≤ x.block) → Far r.a s.a ∧ Far s.a r.a := fun r hr s hs => by
    have hlt := HO.lt r hr
    exact ⟨fun x y hx hy e => by have := (hlt x hx).2; have := hs y hy; omega, fun x y hx hy e => by have := (hlt y hy).2; have := hs x hx; omega⟩
  have hap := HO.apart
  rw [← List.take_append_drop k rs, List.pairwise_append] at hap
  have hsub : ∀ s, s ∈ rs.drop (k + 1) → s ∈ rs.drop k := fun s hs => by
    rw [← List.drop_drop] at hs
    exact List.mem_of_mem_drop hs
  refine ⟨ho, fun r hr => (hin r hr).1, fun r hr => (hin r hr).2, ?_, fun r hr => Sc.own_far ho (hin r hr).1 (fun e => Sc.intNe e.symm)⟩
  rw [List.pairwise_append, List.pairwise_append]
  refine ⟨⟨hap.1, by simp [f12], fun r hr s hs => ?_⟩, ?_, fun r hr s hs => ?_⟩
  · simp only [List.mem_cons, List.not_mem_nil, or_false] at hs
    have hr := List.mem_of_mem_take hr
    rcases hs with rfl | rfl
    · exact (old r hr s f1).1
    · exact (old r hr s f2).1
  · have := hap.2.1
    rw [show rs.drop (k + 1) = (rs.drop k).drop 1 by rw [List.drop_drop]]
    exact this.drop
  · rcases List.mem_append.1 hr with hr | hr
    · exact hap.2.2 r hr s (hsub s hs)
    · simp only [List.mem_cons, List.not_mem_nil, or_false] at hr
      have hs := List.mem_of_mem_drop hs
      rcases hr with rfl | rfl
      · exact (old s hs r f1).2
      · exact (old s hs r f2).2

set_option maxRecDepth 100000 in
set_option maxHeartbeats 12800000 in
theorem impl_SplitAll (cols : Int) (v : Value) (ds : List Dp) (w : World) (h : DIs w v ds) :
    Calls Try.prog 31 #[.int .i64 cols, v] w fun e w' => ∃ u, e = .returned (.tuple #[u, .bool (goodD cols ds)]) ∧ LOwn w' w.heap.size w'.heap.size u (partsV cols ds) ∧ Below w.heap.size w w' := by
  obtain ⟨i1, hj, hy0, hy1, hy2⟩ := info_parts infoL
  have HD : Hid (DIs w v ds) := h
  clear h
  go_enter Try.func31, Try.ntmps31
  go_wp2_with fail
  refine Scg.wp_scope_again 0 (fun A W => ∃ (m : Nat) (a' : Option Addr) (c' : Nat) (rs : List LV) (u2 u3 u7 u8 u9 u10 u11 u12 u13 u14 u15 u16 u17 u18 u19 u20 u21 u22 u23 u24 u25 u26 u27 u28 u29 u30 u31 u32 u33 u34 u35 u36 u37 u38 u39 u40 u41 u42 u43 u44 u45 u46 u47 u48 u49 u50 u51 u52 u53 u54 u55 u56 u57 u58 u59 : Value), A = { tmps := #[.int .i64 cols, v, u2, u3, .slice none 0 0, .bool false, .slice a' m c', u7, u8, u9, u10, u11, u12, u13, u14, u15, u16, u17, u18, u19, u20, u21, u22, u23, u24, u25, u26, u27, u28, u29, u30, u31, u32, u33, u34, u35, u36, u37, u38, u39, u40, u41, u42, u43, u44, u45, u46, u47, u48, u49, u50, u51, u52, u53, u54, u55, u56, u57, u58, u59], defers := [] } ∧ goodD cols ds = true ∧ OwnLs W w.heap.size a' m c' rs ∧ (∀ p ∈ lplain rs, GoodP cols.toNat p) ∧ mu (lplain rs) ≤ 729 ∧ (∀ r, Runs ds (lplain rs) 0 r → Runs ds [allC cols.toNat] 0 r) ∧ Below w.heap.size w W) (fun A W => muW W (A.tmps.getD 6 undef)) rfl ?_ ?_
  · rintro A W ⟨m, a', c', rs, u2, u3, u7, u8, u9, u10, u11, u12, u13, u14, u15, u16, u17, u18, u19, u20, u21, u22, u23, u24, u25, u26, u27, u28, u29, u30, u31, u32, u33, u34, u35, u36, u37, u38, u39, u40, u41, u42, u43, u44, u45, u46, u47, u48, u49, u50, u51, u52, u53, u54, u55, u56, u57, u58, u59, rfl, hG, ho, hgp, hmu, hrun, hnx⟩
    have hc := cols_of hG
    obtain ⟨c, hcc⟩ : ∃ c : Nat, cols = (c : Int) := ⟨cols.toNat, by omega⟩
    have hc6 : c ≤ 6 := by have := hc.2.2.1; omega
    have hc1 : 1 ≤ c := by have := hc.2.1; omega
    have HC : Hid (Cols ds) := hc.1
    subst hcc
    rw [Int.toNat_natCast] at hgp hrun
    have EV : Hid (partsV (c : Int) ds = endOf ds [allC c]) := by show _ = _; unfold partsV; rw [hG, Int.toNat_natCast]; rfl
    have GT : Hid (goodD (c : Int) ds = true) := hG
    have HO : Hid (OwnLs W w.heap.size a' m c' rs) := ho
    have HI : Hid (IsLs W a' m c' rs) := ho.isLs
    have HP : Hid (∀ p ∈ lplain rs, GoodP c p) := hgp
    have HR : Hid (∀ r, Runs ds (lplain rs) 0 r → Runs ds [allC c] 0 r) := hrun
    have HX : Hid (Below w.heap.size w W) := hnx
    have HL : Hid ((lplain rs).length = m) := by show _ = _; rw [show (lplain rs).length = rs.length by simp [lplain]]; exact ho.isLs.len
    have hm729 : m ≤ 729 := by rw [← HL.out]; exact Nat.le_trans (mu_len _) hmu
    have HMU : Hid (mu (lplain rs) ≤ 729) := hmu
    have hfit := ho.isLs.fits
    have hmax := ho.isLs.max
    clear hG hc ho hgp hmu hrun hnx
    go_wp2_with fail
    go_loopw [6, 24] (fun s i wr => ∃ k : Nat, k ≤ m ∧ s = .slice a' m c' ∧ i = .int .i64 k ∧ (∀ j, j < k → isBad ds ((lplain rs).getD j []) = false) ∧ Below W.heap.size W wr) (fun _ i _ => m - (intOf i).toNat)
    case atStart => exact ⟨0, Nat.zero_le _, rfl, rfl, (fun j hj => absurd hj (Nat.not_lt_zero _)), Below.refl _ _⟩
    case round =>
      obtain ⟨k, hk, rfl, rfl, hnb, hnx⟩ := hrel
      have HN : Hid (Below W.heap.size W wr) := hnx
      have HNB : Hid (∀ j, j < k → isBad ds ((lplain rs).getD j []) = false) := hnb
      clear hnx hnb
      by_cases hlt : k < m
      · have hltI : (k : Int) < (m : Int) := by omega
        have hle1 : (k : Int) ≤ (c' : Int) := by omega
        obtain ⟨k1, hk1⟩ : ∃ k1, k1 = k + 1 := ⟨_, rfl⟩
        have HK1 : Hid (k1 = k + 1) := hk1
        have hw1 : IntKind.i64.wrap ((k : Int) + 1) = (k1 : Int) := by simp [IntKind.wrap, IntKind.bits, IntKind.signed]; omega
        have hle2 : (k1 : Int) ≤ (m : Int) := by omega
        have hle4 : (k1 : Int) ≤ (c' : Int) := by omega
        have hle3 : (m : Int) ≤ (c' : Int) := by omega
        have hk1m : k1 ≤ m := by omega
        have HM0 : Hid (muW W (.slice a' m c') = mu (lplain rs)) := muW_is HI.out (by omega)
        obtain ⟨b, off, pa, pn, pc, p, rfl, p0', hrow, hpk, hrk⟩ := part_at HI.out hlt
        have HPK : Hid ((lplain rs).getD k [] = p) := hpk
        have p0 := Frame.held_cell HN.out p0'
        have HRW : Hid (IsRow .i64 wr pa pn pc p) := IsRow.below hrow HN.out
        have HPM : Hid (p ∈ lplain rs) := by
          rw [← hpk]
          rw [List.getD, List.getElem?_eq_getElem (by rw [HL.out]; exact hlt)]
          exact List.getElem_mem _
        have hp6 : pn ≤ 6 := by
          rw [← hrow.len]
          exact up_length (HP.out p HPM.out).1 (fun z hz => by have := (HP.out p HPM.out).2 z hz; omega)
        have CL : closG (c : Int) ds p = true := by unfold closG; rw [GT.out, Sps.rise_good (HP.out p HPM.out)]; rfl
        have BG : Hid (badG (c : Int) ds p = isBad ds p) := (Bsr.bad_yes CL).2
        have BV : Hid (badV (c : Int) ds p = dOf ds p) := (Bsr.bad_yes CL).1
        clear hk1 hrow hpk hrk p0' CL
        go_wp2_with fail
        refine (Bsr.impl_BadIn (c : Int) v (.slice pa pn pc) ds p _ (dIs_below HD.out (Ivb.bw_call HX.out HN.out)) ⟨_, _, _, rfl, HRW.out, by omega⟩).mono ?_
        rintro e w3 ⟨ua, un, uc, ta, tn, tc, rfl, ho3, hb3⟩
        rw [BV.out] at ho3
        rw [BG.out]
        have X3 : Hid (Below wr.heap.size wr w3) := hb3
        have E3 : Hid (EIs w3 (.slice ua un uc) (.slice ta tn tc) (dOf ds p)) := eOwn_is ho3
        clear ho3 hb3
        rcases Bsr.em_bool (isBad ds p) with hv | hv
        · rw [hv]
          have HV : Hid (isBad ds ((lplain rs).getD k []) = false) := by show _ = _; rw [HPK.out]; exact hv
          clear hv p0
          go_wp2
          have BV : Below wr.heap.size wr (w3.alloc (.cells #[.slice ua un uc, .slice ta tn tc] 26)) := X3.out.alloc X3.out.size _
          refine ⟨⟨k1, hk1m, rfl, rfl, ?_, Frame.next HN.out BV HN.out.size⟩, ?_⟩
          · intro j hj
            rw [HK1.out] at hj
            rcases Nat.lt_succ_iff_lt_or_eq.1 hj with h | h
            · exact HNB.out j h
            · rw [h]; exact HV.out
          · have := HK1.out
            simp [intOf]
            omega
        · rw [hv]
          have HBD : Hid (isBad ds p = true) := hv
          clear hv
          have SG : Hid (splG (c : Int) p (dOf ds p) = true) := Sps.spl_bad (HP.out p HPM.out) hc1 hc6 HBD.out
          have V3 : Hid (Below w3.heap.size w3 (w3.alloc (.cells #[.slice ua un uc, .slice ta tn tc] 26))) := (Below.refl _ _).alloc (Nat.le_refl _) _
          have XV : Hid (Below wr.heap.size wr (w3.alloc (.cells #[.slice ua un uc, .slice ta tn tc] 26))) := Frame.next X3.out V3.out X3.out.size
          go_wp2_with fail
          refine (Lse.impl_SplitBy (c : Int) (.slice pa pn pc) (.slice ua un uc) (.slice ta tn tc) p (dOf ds p) _ ⟨_, _, _, rfl, IsRow.below HRW.out XV.out, by omega⟩ (eIs_below E3.out V3.out)).mono ?_
          rintro e w4 ⟨u1, u2, m4, rfl, hm1, hm2, ho1, ho2, hb4⟩
          rw [(Lsd.split_yes SG.out).1] at ho1
          rw [(Lsd.split_yes SG.out).2] at ho2
          obtain ⟨a1, n1, q1, rfl, own1, wf1, hn1, bl1⟩ := ho1
          obtain ⟨a2, n2, q2, rfl, own2, wf2, hn2, bl2⟩ := ho2
          rw [SG.out]
          have X4 : Hid (Below wr.heap.size wr w4) := Frame.next XV.out hb4 XV.out.size
          have NW4 : Hid (Below W.heap.size W w4) := Frame.next HN.out X4.out HN.out.size
          have ZW : Hid (W.heap.size ≤ wr.heap.size ∧ wr.heap.size ≤ m4) := ⟨HN.out.size, Nat.le_trans XV.out.size hm1⟩
          have OW1 : Hid (w4.ownsRow w.heap.size 3 1 (.slice a1 n1 q1) n1 (ints .i64 (eithL (dOf ds p).1 (dOf ds p).2))) := own_base own1 (Nat.le_trans (Nat.le_trans HX.out.size HN.out.size) XV.out.size)
          have OW2 : Hid (w4.ownsRow w.heap.size 3 1 (.slice a2 n2 q2) n2 (ints .i64 (lessC p (dOf ds p).2))) := own_base own2 (Nat.le_trans (Nat.le_trans HX.out.size HN.out.size) ZW.out.2)
          have WF1 : Hid (∀ z ∈ eithL (dOf ds p).1 (dOf ds p).2, (Lit.int .i64 z).wf = true) := wf1
          have WF2 : Hid (∀ z ∈ lessC p (dOf ds p).2, (Lit.int .i64 z).wf = true) := wf2
          have BL1 : Hid (∀ x, a1 = some x → W.heap.size ≤ x.block) := fun x hx => Nat.le_trans HN.out.size (Nat.le_trans XV.out.size (bl1 x hx).1)
          have BL2 : Hid (∀ x, a2 = some x → W.heap.size ≤ x.block) := fun x hx => Nat.le_trans (Nat.le_trans ZW.out.1 ZW.out.2) (bl2 x hx).1
          have F12 : Hid (Far a1 a2) := fun x y hx hy e => by have := (bl1 x hx).2; have := (bl2 y hy).1; omega
          clear own1 own2 wf1 wf2 bl1 bl2 hm1 hm2 hb4
          obtain ⟨sa, hsa⟩ : ∃ a2, (if c' = k1 then some (⟨b, off, none⟩ : Addr) else some ⟨b, off + k1, none⟩) = a2 := ⟨_, rfl⟩
          have M1 : Hid (Below w4.heap.size w4 (w4.drew.alloc (.cells #[.slice a1 n1 q1, .slice a2 n2 q2] 24))) := (Below.refl _ _).drew.alloc (Nat.le_refl _) _
          have M2 : Hid (Below w4.heap.size w4 ((w4.drew.alloc (.cells #[.slice a1 n1 q1, .slice a2 n2 q2] 24)).alloc (.cells #[.slice (some ⟨b, off, none⟩) k c', .slice (some ⟨w4.heap.size, 0, none⟩) 2 2, .slice sa (m - k1) (c' - k1)] 31))) := M1.out.alloc M1.out.size _
          have NW5 : Hid (Below W.heap.size W ((w4.drew.alloc (.cells #[.slice a1 n1 q1, .slice a2 n2 q2] 24)).alloc (.cells #[.slice (some ⟨b, off, none⟩) k c', .slice (some ⟨w4.heap.size, 0, none⟩) 2 2, .slice sa (m - k1) (c' - k1)] 31))) := Frame.next NW4.out M2.out NW4.out.size
          have hz5 : (w4.drew.alloc (.cells #[.slice a1 n1 q1, .slice a2 n2 q2] 24)).heap.size = w4.heap.size + 1 := by show (w4.drew.alloc _).heap.size = w4.drew.heap.size + 1; simp
          have K5 : Hid (((w4.drew.alloc (.cells #[.slice a1 n1 q1, .slice a2 n2 q2] 24)).alloc (.cells #[.slice (some ⟨b, off, none⟩) k c', .slice (some ⟨w4.heap.size, 0, none⟩) 2 2, .slice sa (m - k1) (c' - k1)] 31)).cell? ⟨w4.heap.size + 1, 0, none⟩ = some (.slice (some ⟨b, off, none⟩) k c') ∧ ((w4.drew.alloc (.cells #[.slice a1 n1 q1, .slice a2 n2 q2] 24)).alloc (.cells #[.slice (some ⟨b, off, none⟩) k c', .slice (some ⟨w4.heap.size, 0, none⟩) 2 2, .slice sa (m - k1) (c' - k1)] 31)).cell? ⟨w4.heap.size + 1, 1, none⟩ = some (.slice (some ⟨w4.heap.size, 0, none⟩) 2 2) ∧ ((w4.drew.alloc (.cells #[.slice a1 n1 q1, .slice a2 n2 q2] 24)).alloc (.cells #[.slice (some ⟨b, off, none⟩) k c', .slice (some ⟨w4.heap.size, 0, none⟩) 2 2, .slice sa (m - k1) (c' - k1)] 31)).cell? ⟨w4.heap.size + 1, 2, none⟩ = some (.slice sa (m - k1) (c' - k1))) := by
            show _ ∧ _ ∧ _
            refine ⟨?_, ?_, ?_⟩ <;> rw [World.cell?_alloc_at _ _ _ _ hz5.symm] <;> rfl
          have C5 : Hid (((w4.drew.alloc (.cells #[.slice a1 n1 q1, .slice a2 n2 q2] 24)).alloc (.cells #[.slice (some ⟨b, off, none⟩) k c', .slice (some ⟨w4.heap.size, 0, none⟩) 2 2, .slice sa (m - k1) (c' - k1)] 31)).cell? ⟨w4.heap.size, 0, none⟩ = some (.slice a1 n1 q1) ∧ ((w4.drew.alloc (.cells #[.slice a1 n1 q1, .slice a2 n2 q2] 24)).alloc (.cells #[.slice (some ⟨b, off, none⟩) k c', .slice (some ⟨w4.heap.size, 0, none⟩) 2 2, .slice sa (m - k1) (c' - k1)] 31)).cell? ⟨w4.heap.size, 1, none⟩ = some (.slice a2 n2 q2)) := by
            have e0 : (w4.drew.alloc (.cells #[.slice a1 n1 q1, .slice a2 n2 q2] 24)).cell? ⟨w4.heap.size, 0, none⟩ = some (.slice a1 n1 q1) := by rw [World.cell?_alloc_at _ _ _ _ (show w4.heap.size = w4.drew.heap.size from rfl)]; rfl
            have e1 : (w4.drew.alloc (.cells #[.slice a1 n1 q1, .slice a2 n2 q2] 24)).cell? ⟨w4.heap.size, 1, none⟩ = some (.slice a2 n2 q2) := by rw [World.cell?_alloc_at _ _ _ _ (show w4.heap.size = w4.drew.heap.size from rfl)]; rfl
            exact ⟨Frame.held_cell ((Below.refl _ _).alloc (Nat.le_refl _) _) e0, Frame.held_cell ((Below.refl _ _).alloc (Nat.le_refl _) _) e1⟩
          have HPRE : Hid (IsLs ((w4.drew.alloc (.cells #[.slice a1 n1 q1, .slice a2 n2 q2] 24)).alloc (.cells #[.slice (some ⟨b, off, none⟩) k c', .slice (some ⟨w4.heap.size, 0, none⟩) 2 2, .slice sa (m - k1) (c' - k1)] 31)) (some ⟨b, off, none⟩) k c' (rs.take k)) := isL_pre (HI.out.below NW5.out) (by omega)
          have HSUF : Hid (IsLs ((w4.drew.alloc (.cells #[.slice a1 n1 q1, .slice a2 n2 q2] 24)).alloc (.cells #[.slice (some ⟨b, off, none⟩) k c', .slice (some ⟨w4.heap.size, 0, none⟩) 2 2, .slice sa (m - k1) (c' - k1)] 31)) sa (m - k1) (c' - k1) (rs.drop k1)) := isL_suf (HI.out.below NW5.out) hk1m hsa
          have r1 := isRow_own (own_below OW1.out M2.out) WF1.out
          have r2 := isRow_own (own_below OW2.out M2.out) WF2.out
          have R1 : Hid (IsRow .i64 ((w4.drew.alloc (.cells #[.slice a1 n1 q1, .slice a2 n2 q2] 24)).alloc (.cells #[.slice (some ⟨b, off, none⟩) k c', .slice (some ⟨w4.heap.size, 0, none⟩) 2 2, .slice sa (m - k1) (c' - k1)] 31)) a1 n1 q1 (eithL (dOf ds p).1 (dOf ds p).2)) := by obtain ⟨_, _, e, hr⟩ := r1; cases e; exact hr
          have R2 : Hid (IsRow .i64 ((w4.drew.alloc (.cells #[.slice a1 n1 q1, .slice a2 n2 q2] 24)).alloc (.cells #[.slice (some ⟨b, off, none⟩) k c', .slice (some ⟨w4.heap.size, 0, none⟩) 2 2, .slice sa (m - k1) (c' - k1)] 31)) a2 n2 q2 (lessC p (dOf ds p).2)) := by obtain ⟨_, _, e, hr⟩ := r2; cases e; exact hr
          have HMID : Hid (IsLs ((w4.drew.alloc (.cells #[.slice a1 n1 q1, .slice a2 n2 q2] 24)).alloc (.cells #[.slice (some ⟨b, off, none⟩) k c', .slice (some ⟨w4.heap.size, 0, none⟩) 2 2, .slice sa (m - k1) (c' - k1)] 31)) (some ⟨w4.heap.size, 0, none⟩) 2 2 [⟨a1, n1, q1, eithL (dOf ds p).1 (dOf ds p).2⟩, ⟨a2, n2, q2, lessC p (dOf ds p).2⟩]) := by
            refine ⟨rfl, Nat.le_refl _, by unfold maxLen; decide, fun r hr => ?_, fun _ => ⟨_, _, rfl, Frame.cell_lt C5.out.1, fun i hi => ?_⟩⟩
            · simp only [List.mem_cons, List.not_mem_nil, or_false] at hr
              rcases hr with rfl | rfl
              · exact R1.out
              · exact R2.out
            · match i, hi with
              | 0, _ => exact C5.out.1
              | 1, _ => exact C5.out.2
          have HOW : Hid (w4.heap.size ≤ ((w4.drew.alloc (.cells #[.slice a1 n1 q1, .slice a2 n2 q2] 24)).alloc (.cells #[.slice (some ⟨b, off, none⟩) k c', .slice (some ⟨w4.heap.size, 0, none⟩) 2 2, .slice sa (m - k1) (c' - k1)] 31)).heap.size) := M2.out.size
          have hm4 : m - k1 ≤ 1000 := by omega
          clear r1 r2 hz5
          go_wp2_with fail
          go_region_held3 (fun _ => True) (trivial) (first | (go_at_call 105; refine (Cce.concat_ls3 (w4.heap.size + 1) (some ⟨b, off, none⟩) (some ⟨w4.heap.size, 0, none⟩) sa k c' 2 2 (m - k1) (c' - k1) (rs.take k) [⟨a1, n1, q1, eithL (dOf ds p).1 (dOf ds p).2⟩, ⟨a2, n2, q2, lessC p (dOf ds p).2⟩] (rs.drop k1) _ K5.out.1 K5.out.2.1 K5.out.2.2 HPRE.out HMID.out HSUF.out (by omega) (by omega) hm4).mono ?_; rintro e w5 ⟨a5, c5, rfl, ho5, hb5⟩; have O5 : Hid (w5.ownsRow ((w4.drew.alloc (.cells #[.slice a1 n1 q1, .slice a2 n2 q2] 24)).alloc (.cells #[.slice (some ⟨b, off, none⟩) k c', .slice (some ⟨w4.heap.size, 0, none⟩) 2 2, .slice sa (m - k1) (c' - k1)] 31)).heap.size 24 1 (.slice a5 (k + 2 + (m - k1)) c5) (k + 2 + (m - k1)) (lcells (rs.take k ++ [⟨a1, n1, q1, eithL (dOf ds p).1 (dOf ds p).2⟩, ⟨a2, n2, q2, lessC p (dOf ds p).2⟩] ++ rs.drop k1))) := ho5; have N5 : Hid (Below W.heap.size W w5) := Frame.next NW5.out hb5 NW5.out.size; have Q5 : Hid (Below w4.heap.size w4 w5) := Frame.next M2.out hb5 M2.out.size; clear ho5 hb5))
          have HOK : Hid (OwnLs w5 w.heap.size a5 (k + 2 + (m - k1)) c5 (rs.take k ++ [⟨a1, n1, q1, eithL (dOf ds p).1 (dOf ds p).2⟩, ⟨a2, n2, q2, lessC p (dOf ds p).2⟩] ++ rs.drop (k + 1))) :=
            own_step HO.out N5.out ⟨a1, n1, q1, eithL (dOf ds p).1 (dOf ds p).2⟩ ⟨a2, n2, q2, lessC p (dOf ds p).2⟩ (by rw [← HK1.out]; exact own_base O5.out (Nat.le_trans (Nat.le_trans HX.out.size NW4.out.size) HOW.out)) (own_below OW1.out Q5.out) (own_below OW2.out Q5.out) WF1.out WF2.out BL1.out BL2.out F12.out
          have LP : Hid (lplain (rs.take k ++ [⟨a1, n1, q1, eithL (dOf ds p).1 (dOf ds p).2⟩, ⟨a2, n2, q2, lessC p (dOf ds p).2⟩] ++ rs.drop (k + 1)) = stepL ds (lplain rs) k) := by show _ = _; rw [lplain_step]; unfold stepL; rw [HPK.out]
          have HLT : k < (lplain rs).length := by rw [HL.out]; exact hlt
          have HB2 : isBad ds ((lplain rs).getD k []) = true := by rw [HPK.out]; exact HBD.out
          have MS := mu_step HLT HP.out hc6 HB2
          have M9 := muW_is HOK.out.isLs (by omega)
          go_wp2
          go_step3
          show 0 = 0 ∧ (_ ∧ _ < _)
          refine ⟨rfl, ⟨k + 2 + (m - k1), _, c5, _, _, _, _, _, _, _, _, _, _, _, _, _, _, _, _, _, _, _, _, _, _, _, _, _, _, _, _, _, _, _, _, _, _, _, _, _, _, _, _, _, _, _, _, _, _, _, _, _, _, _, _, _, _, _, _, rfl, GT.out, HOK.out, ?_, ?_, ?_, Frame.next HX.out N5.out HX.out.size⟩, ?_⟩
          · rw [LP.out, Int.toNat_natCast]; exact good_step HLT HP.out hc6 HB2
          · rw [LP.out]; have := HMU.out; omega
          · intro r hr
            rw [Int.toNat_natCast]
            rw [LP.out] at hr
            exact HR.out r (Runs.front (Nat.le_of_lt HLT) HNB.out (Runs.split HLT HB2 (runs_step (Nat.le_of_lt HLT) HNB.out hr)))
          · show muW w5 (.slice a5 (k + 2 + (m - k1)) c5) < muW W (.slice (some ⟨b, off, none⟩) m c')
            rw [M9, HM0.out, LP.out]
            exact MS
      · obtain rfl : k = m := by omega
        have HE : Hid (endOf ds [allC c] = lplain rs) := endOf_is (HR.out _ (Runs.front (Nat.le_of_eq HL.out.symm) HNB.out (Runs.fin (Nat.le_of_eq HL.out))))
        have NW : Hid (Below w.heap.size w wr) := Frame.next HX.out HN.out HX.out.size
        go_wp2
        simp only [Exit.jump]
        go_ret2
        refine ⟨.slice a' k c', by rw [GT.out]; rfl, ?_, NW.out⟩
        rw [EV.out, HE.out]
        exact lOwn_few (HO.out.below HN.out) rfl HP.out hc6 hm729 (Nat.le_refl _)
  · intro again
    go_wp2_with fail
    refine (Dga.impl_GoodDeps cols v ds _ HD.out).mono ?_
    rintro e w1 ⟨rfl, hb1⟩
    have B1 : Hid (Below w.heap.size w w1) := hb1
    clear hb1
    cases hG : goodD cols ds
    · have EV : Hid (partsV cols ds = []) := by show _ = _; unfold partsV; rw [hG]; rfl
      have GF : Hid (goodD cols ds = false) := hG
      clear hG
      go_wp2
      simp only [Exit.jump]
      go_ret2
      refine ⟨.slice none 0 0, by rw [GF.out]; rfl, ?_, B1.out⟩
      rw [EV.out]
      exact ⟨none, 0, 0, [], rfl, ⟨World.ownsRow_nil _ _ _ _, by simp, by simp, by simp, by simp⟩, rfl, by simp [totalL, sumL], (fun x hx => by cases hx), by simp⟩
    · have hc := cols_of hG
      obtain ⟨c, hcc⟩ : ∃ c : Nat, cols = (c : Int) := ⟨cols.toNat, by omega⟩
      have hc6 : c ≤ 6 := by have := hc.2.2.1; omega
      have hc1 : 1 ≤ c := by have := hc.2.1; omega
      have HC : Hid (Cols ds) := hc.1
      subst hcc
      have EV : Hid (partsV (c : Int) ds = endOf ds [allC c]) := by show _ = _; unfold partsV; rw [hG, Int.toNat_natCast]; rfl
      have GT : Hid (goodD (c : Int) ds = true) := hG
      clear hG hc
      go_wp2_with fail
      refine (firstColumns c _ hc1 hc6).mono ?_
      rintro e w2 ⟨rfl, hb2⟩
      have B2 : Hid (Below w.heap.size w w2) := Frame.next B1.out hb2 B1.out.size
      unfold csv
      clear hb2
      go_wp2_with fail
      refine (listOf (firstS c) _).mono ?_
      rintro e w3 ⟨u3, rfl, ho3, hb3⟩
      obtain ⟨a3, n3, c3, rfl, own3, wf3, hn3, bl3⟩ := ho3
      have B3 : Hid (Below w.heap.size w w3) := Frame.next B2.out hb3 B2.out.size
      have O3 : Hid (OwnLs (w3.alloc (.cells #[.slice a3 n3 c3] 24)) w.heap.size (some ⟨w3.heap.size, 0, none⟩) 1 1 [⟨a3, n3, c3, allC c⟩]) := ls_first (own_base own3 B2.out.size) wf3 B3.out.size
      have X3 : Hid (Below w.heap.size w (w3.alloc (.cells #[.slice a3 n3 c3] 24))) := Ivb.bw_made _ B3.out
      clear own3 wf3 bl3 hb3
      go_wp2
      go_step3
      rename_i hgo
      refine hgo _ _ (again _ _ ⟨1, _, 1, _, _, _, _, _, _, _, _, _, _, _, _, _, _, _, _, _, _, _, _, _, _, _, _, _, _, _, _, _, _, _, _, _, _, _, _, _, _, _, _, _, _, _, _, _, _, _, _, _, _, _, _, _, _, _, _, rfl, GT.out, O3.out, ?_, ?_, ?_, X3.out⟩)
      · exact fun p hp => by rw [List.mem_singleton.1 hp, Int.toNat_natCast]; exact all_good
      · exact mu_all hc6
      · exact fun r hr => by rw [Int.toNat_natCast]; exact hr


end Go.Proofs.Ythhldnlbneamiaa.Sqb
