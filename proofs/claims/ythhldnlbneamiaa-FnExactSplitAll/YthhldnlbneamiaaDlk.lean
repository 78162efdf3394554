/-
  Marks of sentences; slices of sentences and one sentence, by their place.
-/
import Derived.Test.YthhldnlbneamiaaDlt
namespace Go.Proofs.Ythhldnlbneamiaa.Dlk
open Go.RowKit
open Go.Proofs.Ythhldnlbneamiaa.Frame Go.Proofs.Ythhldnlbneamiaa.Mem Go.Proofs.Ythhldnlbneamiaa.Ints Go.Proofs.Ythhldnlbneamiaa.Kep Go.Proofs.Ythhldnlbneamiaa.Lls Go.Proofs.Ythhldnlbneamiaa.Knl Go.Proofs.Ythhldnlbneamiaa.Krl Go.Proofs.Ythhldnlbneamiaa.Dls Go.Proofs.Ythhldnlbneamiaa.Dlt

set_option maxHeartbeats 1600000 in
theorem markDepS (a : Option Addr) (n cap : Nat) (rs : List LV) (k0 : Int) (base : Nat) (w : World) (h : OwnG w base a n cap rs) (hn : n ≤ 1048576) (hr : ∀ r ∈ rs, r.n ≤ 1048576) (hk0 : 0 ≤ k0) (hk1 : k0 + sumL rs ≤ 100000000) :
    Calls Try.prog 54 #[.slice a n cap, .int .i64 k0] w fun e w' => e = .returned (.int .i64 (lnext k0 rs)) ∧ OwnG w' base a n cap (lmarks k0 rs) ∧ OnlyIn rs w w' := by
  have HL : Hid (rs.length = n * 2) := h.len
  have HRN : Hid (∀ r ∈ rs, r.n ≤ 1048576) := hr
  have HO : Hid (OwnG w base a n cap rs) := h
  have HT : Hid (∀ k, 0 ≤ sumL (rs.take k) ∧ sumL (rs.take k) ≤ sumL rs) := fun k => ⟨sumL_nonneg _, sumL_le rs k⟩
  clear h hr
  go_enter Try.func54, Try.ntmps54
  go_wp2
  go_loopw [1, 5] (fun m i wr => ∃ k : Nat, k ≤ n ∧ i = .int .i64 k ∧ m = .int .i64 (lnext k0 (rs.take (k * 2))) ∧ OwnG wr base a n cap (lmarks k0 (rs.take (k * 2)) ++ rs.drop (k * 2)) ∧ OnlyIn rs w wr) (fun _ i _ => n - (intOf i).toNat)
  case atStart => exact ⟨0, Nat.zero_le _, rfl, by simp [lnext, sumL], HO.out, OnlyIn.refl _ _⟩
  case round =>
    obtain ⟨k, hk, rfl, rfl, hown, ht⟩ := hrel
    by_cases hlt : k < n
    · have hkl : k * 2 + 1 < rs.length := by rw [HL.out]; omega
      obtain ⟨g, rfl⟩ : ∃ g, a = some ⟨g, 0, none⟩ := by
        rcases hown.outer.2 with ⟨h2, _⟩ | ⟨g, cap', cur, hv, _⟩
        · simp at h2; omega
        · simp only [Value.slice.injEq] at hv
          exact ⟨g, hv.1⟩
      have hml : (lmarks k0 (rs.take (k * 2))).length = k * 2 := by rw [lmarks_length, List.length_take]; omega
      rw [drop_two hkl] at hown
      have hrn := HRN.out _ (getD_mem_ld (show k * 2 < rs.length by omega))
      have hrm := HRN.out _ (getD_mem_ld hkl)
      have hmem := getD_mem_ld (show k * 2 < rs.length by omega)
      have hmem' := getD_mem_ld hkl
      have hts := take_two hkl
      have hb := HT.out (k * 2)
      have hb' := HT.out ((k + 1) * 2)
      have hsum : sumL (rs.take ((k + 1) * 2)) = sumL (rs.take (k * 2)) + (((rs.getD (k * 2) ld).n : Int) + ((rs.getD (k * 2 + 1) ld).n : Int)) := by rw [take_two hkl, sumL_append]; simp [sumL]
      have hK : lnext k0 (rs.take (k * 2)) = k0 + sumL (rs.take (k * 2)) := rfl
      generalize rs.getD (k * 2) ld = r at hown hrn hmem hts hsum
      generalize rs.getD (k * 2 + 1) ld = q at hown hrm hmem' hts hsum
      obtain ⟨ra, rn, rc, rzs⟩ := r
      obtain ⟨qa, qn, qc, qzs⟩ := q
      simp only at hrn hrm hsum
      have hc0 : wr.cell? ⟨g, k * 2, none⟩ = some (.slice ra rn rc) := by
        have h1 := hown.outer.cellAt (k * 2) (by omega)
        rw [lcells_get _ (k * 2) (by simp [hml])] at h1
        have e : (lmarks k0 (rs.take (k * 2)) ++ ⟨ra, rn, rc, rzs⟩ :: ⟨qa, qn, qc, qzs⟩ :: rs.drop ((k + 1) * 2)).getD (k * 2) ld = ⟨ra, rn, rc, rzs⟩ := by simp [List.getD, hml]
        rw [e] at h1
        exact h1
      have hc1 : wr.cell? ⟨g, k * 2 + 1, none⟩ = some (.slice qa qn qc) := by
        have h1 := hown.outer.cellAt (k * 2 + 1) (by omega)
        rw [lcells_get _ (k * 2 + 1) (by simp [hml])] at h1
        have e : (lmarks k0 (rs.take (k * 2)) ++ ⟨ra, rn, rc, rzs⟩ :: ⟨qa, qn, qc, qzs⟩ :: rs.drop ((k + 1) * 2)).getD (k * 2 + 1) ld = ⟨qa, qn, qc, qzs⟩ := by
          rw [List.getD, List.getElem?_append_right (by omega), hml, show k * 2 + 1 - k * 2 = 1 by omega]
          rfl
        rw [e] at h1
        exact h1
      generalize hKK : lnext k0 (rs.take (k * 2)) = K at hK ⊢
      have hKb : 0 ≤ K ∧ K + (rn : Int) + (qn : Int) ≤ 100000000 := by omega
      obtain ⟨hKb0, hKb1⟩ := hKb
      have HOW : Hid (OwnG wr base (some ⟨g, 0, none⟩) n cap (lmarks k0 (rs.take (k * 2)) ++ ⟨ra, rn, rc, rzs⟩ :: ⟨qa, qn, qc, qzs⟩ :: rs.drop ((k + 1) * 2))) := hown
      have HTR : Hid (OnlyIn rs w wr) := ht
      have HKK : Hid (lnext k0 (rs.take (k * 2)) = K) := hKK
      have HTS : Hid (rs.take ((k + 1) * 2) = rs.take (k * 2) ++ [⟨ra, rn, rc, rzs⟩, ⟨qa, qn, qc, qzs⟩]) := hts
      have HMEM : Hid ((⟨ra, rn, rc, rzs⟩ : LV) ∈ rs) := hmem
      have HMEM' : Hid ((⟨qa, qn, qc, qzs⟩ : LV) ∈ rs) := hmem'
      have HIN : Hid (wr.ownsRow base 3 1 (.slice ra rn rc) rn (ints .i64 rzs)) := hown.inner ⟨ra, rn, rc, rzs⟩ (by simp)
      have HF0 : Hid (∀ x, ra = some x → g ≠ x.block) := fun x hx => hown.apart0 ⟨ra, rn, rc, rzs⟩ (by simp) _ x rfl hx
      have hg : g < wr.heap.size := by have := (own_block hown.outer _ rfl).2; exact this
      clear ht hown hK hKK hts hkl hml hb hmem hmem' hsum hb'
      go_wp2_with fail
      refine (Ints.markIntS ra rn rc rzs _ base _ HIN.out hrn (by omega) (by omega)).mono ?_
      rintro e w1 ⟨rfl, ho1, ht1⟩
      have HSV : Hid (OwnG w1 base (some ⟨g, 0, none⟩) n cap ((lmarks k0 (rs.take (k * 2)) ++ [⟨ra, rn, rc, marks K rn⟩]) ++ ⟨qa, qn, qc, qzs⟩ :: rs.drop ((k + 1) * 2))) := by
        have h1 := OwnG.setInts (q := ⟨ra, rn, rc, rzs⟩) HOW.out ht1 ho1 (marks_wf _ _ (by omega) (by omega))
        rw [List.append_assoc]
        exact h1
      have hc2 : w1.cell? ⟨g, k * 2 + 1, none⟩ = some (.slice qa qn qc) := by rw [ht1.cell hg (fun x hx => HF0.out x hx)]; exact hc1
      have HT2 : Hid (OnlyIn rs w w1) := HTR.out.at_inner (r := ⟨ra, rn, rc, rzs⟩) ht1 HMEM.out
      have HIN2 : Hid (w1.ownsRow base 3 1 (.slice qa qn qc) qn (ints .i64 qzs)) := HSV.out.inner ⟨qa, qn, qc, qzs⟩ (by simp)
      clear ho1 ht1 hc0 hc1
      go_wp2_with fail
      refine (Ints.markIntS qa qn qc qzs _ base _ HIN2.out hrm (by omega) (by omega)).mono ?_
      rintro e w2 ⟨rfl, ho2, ht2⟩
      have HS2 : Hid (OwnG w2 base (some ⟨g, 0, none⟩) n cap ((lmarks k0 (rs.take (k * 2)) ++ [⟨ra, rn, rc, marks K rn⟩]) ++ ⟨qa, qn, qc, marks (K + (rn : Int)) qn⟩ :: rs.drop ((k + 1) * 2))) := OwnG.setInts (q := ⟨qa, qn, qc, qzs⟩) HSV.out ht2 ho2 (marks_wf _ _ (by omega) (by omega))
      have HT3 : Hid (OnlyIn rs w w2) := HT2.out.at_inner (r := ⟨qa, qn, qc, qzs⟩) ht2 HMEM'.out
      have HNX : Hid (lnext k0 (rs.take ((k + 1) * 2)) = K + (rn : Int) + (qn : Int)) := by
        show _ = _
        rw [HTS.out, lnext_append, HKK.out]
        simp [lnext, sumL]
        omega
      have HMK : Hid (lmarks k0 (rs.take ((k + 1) * 2)) ++ rs.drop ((k + 1) * 2) = (lmarks k0 (rs.take (k * 2)) ++ [⟨ra, rn, rc, marks K rn⟩]) ++ ⟨qa, qn, qc, marks (K + (rn : Int)) qn⟩ :: rs.drop ((k + 1) * 2)) := by
        show _ = _
        rw [HTS.out, lmarks_append, HKK.out]
        simp [lmarks]
      clear ho2 ht2 hc2
      go_wp2
      go_roundw
      case rel => exact ⟨k + 1, by omega, by go_num, by rw [HNX.out], by rw [HMK.out]; exact HS2.out, HT3.out⟩
      case measure => simp [intOf]; omega
    · obtain rfl : k = n := by omega
      rw [List.take_of_length_le (by rw [HL.out]; omega), List.drop_of_length_le (by rw [HL.out]; omega), List.append_nil] at hown
      have HO2 : Hid (OwnG wr base a k cap (lmarks k0 rs)) := hown
      have HTR : Hid (OnlyIn rs w wr) := ht
      have HE : Hid (lnext k0 (rs.take (k * 2)) = lnext k0 rs) := by show _ = _; rw [List.take_of_length_le (by rw [HL.out]; omega)]
      clear hown ht
      go_wp2
      go_ret
      exact ⟨Ints.ret_int HE.out, HO2.out, HTR.out⟩

/-! Kinds. -/
def DIs (w : World) (v : Value) (ds : List Dp) : Prop := ∃ a n cap rs, v = .slice a n cap ∧ IsG w a n cap rs ∧ dpl rs = ds ∧ (n : Int) + sumL rs ≤ 1048576
def DOwn (w : World) (lo hi : Nat) (v : Value) (ds : List Dp) : Prop := ∃ a n cap rs, v = .slice a n cap ∧ OwnG w lo a n cap rs ∧ dpl rs = ds ∧ (n : Int) + sumL rs ≤ 1048576 ∧ (∀ x, a = some x → lo ≤ x.block ∧ x.block < hi) ∧ ∀ r ∈ rs, ∀ x, r.a = some x → lo ≤ x.block ∧ x.block < hi
def DMarked (w : World) (lo hi : Nat) (v : Value) (k nx : Int) : Prop := ∃ a n cap rs, v = .slice a n cap ∧ OwnG w lo a n cap (lmarks k rs) ∧ (n : Int) + sumL rs ≤ 1048576 ∧ nx = lnext k rs ∧ 0 ≤ k ∧ k ≤ 50000000 ∧ (∀ x, a = some x → lo ≤ x.block ∧ x.block < hi) ∧ ∀ r ∈ lmarks k rs, ∀ x, r.a = some x → lo ≤ x.block ∧ x.block < hi

theorem small_ds {n : Nat} {rs : List LV} (h : (n : Int) + sumL rs ≤ 1048576) : n ≤ 1048576 ∧ ∀ r ∈ rs, r.n ≤ 1048576 := by
  have h0 := sumL_nonneg rs
  exact ⟨by omega, fun r hr => by have := sumL_mem hr; omega⟩
theorem sum_plain {rs : List LV} (h : ∀ r ∈ rs, r.zs.length = r.n) : sumL rs = ((lplain rs).map fun z => (z.length : Int)).sum := by
  unfold sumL lplain
  rw [List.map_map]
  congr 1
  refine List.map_congr_left (fun r hr => ?_)
  simp [h r hr]
theorem dpl_plain : ∀ (xs ys : List LV), lplain xs = lplain ys → dpl xs = dpl ys
  | [], ys, h => by
    cases ys with
    | nil => rfl
    | cons _ _ => simp [lplain] at h
  | [x], ys, h => by
    match ys, h with
    | [], h => simp [lplain] at h
    | [y], _ => rfl
    | _ :: _ :: _, h => simp [lplain] at h
  | x :: x' :: xs, ys, h => by
    match ys, h with
    | [], h => simp [lplain] at h
    | [_], h => simp [lplain] at h
    | y :: y' :: ys, h =>
      simp only [lplain, List.map_cons, List.cons.injEq] at h
      simp only [dpl]
      rw [h.1, h.2.1, dpl_plain xs ys h.2.2]

theorem dIs_below {w w' : World} {v : Value} {ds : List Dp} (h : DIs w v ds) (hb : Below w.heap.size w w') : DIs w' v ds := by
  obtain ⟨a, n, cap, rs, rfl, hr, e, ht⟩ := h
  exact ⟨a, n, cap, rs, rfl, hr.below hb, e, ht⟩
theorem dOwn_is {w : World} {lo hi : Nat} {v : Value} {ds : List Dp} (h : DOwn w lo hi v ds) : DIs w v ds := by
  obtain ⟨a, n, cap, rs, rfl, ho, e, ht, _, _⟩ := h
  exact ⟨a, n, cap, rs, rfl, ho.isG, e, ht⟩
theorem ownG_keeps {w w' : World} {lo hi lo' hi' : Nat} {a : Option Addr} {n cap : Nat} {rs : List LV} (h : OwnG w lo a n cap rs) (hb : ∀ x, a = some x → lo ≤ x.block ∧ x.block < hi) (hr : ∀ r ∈ rs, ∀ x, r.a = some x → lo ≤ x.block ∧ x.block < hi) (t : Keeps lo' hi' w w') (hd : hi ≤ lo' ∨ hi' ≤ lo) : OwnG w' lo a n cap rs :=
  ⟨own_keeps h.outer hb t hd, fun r hr' => own_keeps (h.inner r hr') (hr r hr') t hd, h.wf, h.apart, h.apart0⟩
theorem dOwn_keeps {w w' : World} {lo hi lo' hi' : Nat} {v : Value} {ds : List Dp} (h : DOwn w lo hi v ds) (t : Keeps lo' hi' w w') (hd : hi ≤ lo' ∨ hi' ≤ lo) : DOwn w' lo hi v ds := by
  obtain ⟨a, n, cap, rs, rfl, ho, e, ht, hb, hr⟩ := h
  exact ⟨a, n, cap, rs, rfl, ownG_keeps ho hb hr t hd, e, ht, hb, hr⟩
theorem dMarked_keeps {w w' : World} {lo hi lo' hi' : Nat} {v : Value} {k nx : Int} (h : DMarked w lo hi v k nx) (t : Keeps lo' hi' w w') (hd : hi ≤ lo' ∨ hi' ≤ lo) : DMarked w' lo hi v k nx := by
  obtain ⟨a, n, cap, rs, rfl, ho, ht, e, h0, h1, hb, hr⟩ := h
  exact ⟨a, n, cap, rs, rfl, ownG_keeps ho hb hr t hd, ht, e, h0, h1, hb, hr⟩
theorem dOwn_below {w w' : World} {lo hi : Nat} {v : Value} {ds : List Dp} (h : DOwn w lo hi v ds) (hb : Below w.heap.size w w') : DOwn w' lo hi v ds := dOwn_keeps (lo' := hi) (hi' := hi) h (Keeps.of_below hb) (Or.inl (Nat.le_refl _))
theorem dMarked_below {w w' : World} {lo hi : Nat} {v : Value} {k nx : Int} (h : DMarked w lo hi v k nx) (hb : Below w.heap.size w w') : DMarked w' lo hi v k nx := dMarked_keeps (lo' := hi) (hi' := hi) h (Keeps.of_below hb) (Or.inl (Nat.le_refl _))

theorem d_to (v : Value) (ds : List Dp) (w : World) (h : DIs w v ds) : Calls Try.prog 51 #[v] w fun e w' => ∃ u, e = .returned u ∧ DOwn w' w.heap.size w'.heap.size u ds ∧ Below w.heap.size w w' := by
  obtain ⟨a, n, cap, rs, rfl, hr, rfl, ht⟩ := h
  have hs := small_ds ht
  have hl : ∀ r ∈ rs, r.zs.length = r.n := fun r h => (hr.rows r h).len
  refine (Dlt.toDepS a n cap rs w hr hs.1 hs.2).mono ?_
  rintro e w' ⟨rs', rfl, ho, hp, hb⟩
  refine ⟨_, rfl, ⟨_, _, _, rs', rfl, ho, dpl_plain _ _ hp, ?_, own_block ho.outer, fun r hr x hx => own_block (ho.inner r hr) x hx⟩, hb⟩
  rw [sum_plain ho.vlen, hp, ← sum_plain hl]
  exact ht

theorem d_eq (u v : Value) (xs ys : List Dp) (w : World) (h1 : DIs w u xs) (h2 : DIs w v ys) : Calls Try.prog 53 #[u, v] w fun e w' => e = .returned (.bool (decide (xs = ys))) ∧ Below w.heap.size w w' := by
  obtain ⟨a, n, cap, rs, rfl, hr, rfl, ht⟩ := h1
  obtain ⟨b, m, cb, qs, rfl, hq, rfl, ht2⟩ := h2
  exact Dlt.eqDepS a b n m cap cb rs qs w hr hq (small_ds ht).1 (small_ds ht2).1 (small_ds ht).2 (small_ds ht2).2

theorem d_mark (v : Value) (ds : List Dp) (lo hi : Nat) (k : Int) (w : World) (h : DOwn w lo hi v ds) (hk0 : 0 ≤ k) (hk1 : k ≤ 50000000) :
    Calls Try.prog 54 #[v, .int .i64 k] w fun e w' => ∃ nx, e = .returned (.int .i64 nx) ∧ 0 ≤ nx ∧ nx ≤ k + 8000000 ∧ DMarked w' lo hi v k nx ∧ Keeps lo hi w w' := by
  obtain ⟨a, n, cap, rs, rfl, ho, rfl, ht, hb, hr⟩ := h
  have hs := small_ds ht
  refine (markDepS a n cap rs k lo w ho hs.1 hs.2 hk0 (by omega)).mono ?_
  rintro e w' ⟨rfl, ho', hk⟩
  have hn : 0 ≤ lnext k rs ∧ lnext k rs ≤ k + 8000000 := by
    have h1 := sumL_nonneg rs
    unfold lnext
    omega
  refine ⟨_, rfl, hn.1, hn.2, ⟨a, n, cap, rs, rfl, ho', ht, rfl, hk0, hk1, hb, fun r h' x hx => ?_⟩, ⟨hk.os, hk.tape, hk.output, hk.size, fun i hi' hne => hk.block i hi' (fun r h' x hx => ?_)⟩⟩
  · obtain ⟨s, hs', e⟩ := lmarks_mem h'
    exact hr s hs' x (e.trans hx)
  · have := hr r h' x hx; omega


end Go.Proofs.Ythhldnlbneamiaa.Dlk
