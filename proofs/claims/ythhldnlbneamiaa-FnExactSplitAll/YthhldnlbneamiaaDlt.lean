/-
  Slices of sentences: contracts of the laws' helpers on them; marks of one sentence.
-/
import Derived.Test.YthhldnlbneamiaaDls
namespace Go.Proofs.Ythhldnlbneamiaa.Dlt
open Go.RowKit
open Go.Proofs.Ythhldnlbneamiaa.Frame Go.Proofs.Ythhldnlbneamiaa.Mem Go.Proofs.Ythhldnlbneamiaa.Ints Go.Proofs.Ythhldnlbneamiaa.Kep Go.Proofs.Ythhldnlbneamiaa.Lls Go.Proofs.Ythhldnlbneamiaa.Knl Go.Proofs.Ythhldnlbneamiaa.Krl Go.Proofs.Ythhldnlbneamiaa.Dls

theorem take_two {rs : List LV} {k : Nat} (h : k * 2 + 1 < rs.length) : rs.take ((k + 1) * 2) = rs.take (k * 2) ++ [rs.getD (k * 2) ld, rs.getD (k * 2 + 1) ld] := by
  rw [show (k + 1) * 2 = k * 2 + 1 + 1 by omega, take_succ_ld h, take_succ_ld (by omega), List.append_assoc]
  rfl
theorem drop_two {rs : List LV} {k : Nat} (h : k * 2 + 1 < rs.length) : rs.drop (k * 2) = rs.getD (k * 2) ld :: rs.getD (k * 2 + 1) ld :: rs.drop ((k + 1) * 2) := by
  rw [drop_succ_ld (show k * 2 < rs.length by omega), drop_succ_ld h, show (k + 1) * 2 = k * 2 + 1 + 1 by omega]

set_option maxHeartbeats 800000 in
theorem szDepS (a : Option Addr) (n cap : Nat) (rs : List LV) (m : Int) (w : World) (h : IsG w a n cap rs) (h0 : 0 ≤ m) (h1 : m ≤ 1048576) :
    Calls Try.prog 50 #[.slice a n cap, .int .i64 m] w fun e w' => e = .returned (.int .i64 (left m ((n : Int) + sumL rs))) ∧ Below w.heap.size w w' := by
  have hmax := h.max
  have hfit := h.fits
  unfold maxLen at hmax
  have HL : Hid (rs.length = n * 2) := h.len
  have HR : Hid (∀ r ∈ rs, r.n ≤ maxLen) := fun r hr => Nat.le_trans (h.rows r hr).fits (h.rows r hr).max
  have HI : Hid (IsG w a n cap rs) := h
  have hnn := sumL_nonneg rs
  clear h
  by_cases hb : m < (n : Int)
  · have HE : Hid (left m ((n : Int) + sumL rs) = -1) := by show _ = _; unfold left; rw [if_pos (by omega)]
    have hz : m - (n : Int) < 0 := by omega
    clear hnn
    go_enter Try.func50, Try.ntmps50
    go_wp2
    go_ret
    exact ⟨Ints.ret_int HE.out.symm, Below.refl _ _⟩
  · have hz : ¬ m - (n : Int) < 0 := by omega
    have hn : n ≤ 1048576 := by omega
    have HNN : Hid (0 ≤ sumL rs) := hnn
    clear hnn
    go_enter Try.func50, Try.ntmps50
    go_wp2
    go_loopw [1, 5] (fun l i wr => ∃ k : Nat, k ≤ n ∧ i = .int .i64 k ∧ l = .int .i64 (m - (n : Int) - sumL (rs.take (k * 2))) ∧ 0 ≤ m - (n : Int) - sumL (rs.take (k * 2)) ∧ Below w.heap.size w wr) (fun _ i _ => n - (intOf i).toNat)
    case atStart => exact ⟨0, Nat.zero_le _, rfl, by simp [sumL], by simp [sumL]; omega, Below.refl _ _⟩
    case round =>
      obtain ⟨k, hk, rfl, rfl, hpos, hnx⟩ := hrel
      have HN : Hid (Below w.heap.size w wr) := hnx
      clear hnx
      have hsk := sumL_nonneg (rs.take (k * 2))
      by_cases hlt : k < n
      · obtain ⟨b, off, rfl, hbl, hc⟩ := HI.out.cells (by omega)
        have hkl : k * 2 + 1 < rs.length := by rw [HL.out]; omega
        have p0 : wr.cell? ⟨b, off + k * 2, none⟩ = some (.slice (rs.getD (k * 2) ld).a (rs.getD (k * 2) ld).n (rs.getD (k * 2) ld).c) := by rw [HN.out.cell (p := ⟨b, off + k * 2, none⟩) hbl]; exact (hc k hlt).1
        have p1 : wr.cell? ⟨b, off + k * 2 + 1, none⟩ = some (.slice (rs.getD (k * 2 + 1) ld).a (rs.getD (k * 2 + 1) ld).n (rs.getD (k * 2 + 1) ld).c) := by rw [HN.out.cell (p := ⟨b, off + k * 2 + 1, none⟩) hbl]; exact (hc k hlt).2
        have hs : sumL (rs.take ((k + 1) * 2)) = sumL (rs.take (k * 2)) + (((rs.getD (k * 2) ld).n : Int) + ((rs.getD (k * 2 + 1) ld).n : Int)) := by rw [take_two hkl, sumL_append]; simp [sumL]
        have hle := sumL_le rs ((k + 1) * 2)
        have hrn := HR.out _ (getD_mem_ld (show k * 2 < rs.length by omega))
        have hrm := HR.out _ (getD_mem_ld hkl)
        generalize rs.getD (k * 2) ld = r at p0 hs hrn
        generalize rs.getD (k * 2 + 1) ld = q at p1 hs hrm
        obtain ⟨ra, rn, rc, rzs⟩ := r
        obtain ⟨qa, qn, qc, qzs⟩ := q
        simp only at p0 p1 hs hrn hrm
        generalize hS : sumL (rs.take (k * 2)) = S at hpos hs hsk
        have HS1 : Hid (sumL (rs.take ((k + 1) * 2)) = S + ((rn : Int) + (qn : Int))) := hs
        have HLE : Hid (sumL (rs.take ((k + 1) * 2)) ≤ sumL rs) := hle
        have HRN : Hid (rn ≤ maxLen) := hrn
        have HRM : Hid (qn ≤ maxLen) := hrm
        clear hc hs hle hS hrn hrm
        by_cases hneg : m - (n : Int) - S < (rn : Int) + (qn : Int)
        · have HE : Hid (left (m - (n : Int) - S) ((rn : Int) + (qn : Int)) = -1) := by show _ = _; unfold left; simp [hneg]
          have HF : Hid (left m ((n : Int) + sumL rs) = -1) := by show _ = _; unfold left; rw [if_pos (by have := HS1.out; have := HLE.out; omega)]
          go_wp2_with fail
          refine (e_sz _ _ _ _ _ _ _ _ HRN.out HRM.out (by omega) (by omega)).mono ?_
          rintro e w1 ⟨rfl, hb1⟩
          rw [HE.out]
          have HN1 : Hid (Below w.heap.size w w1) := Frame.next HN.out hb1 HN.out.size
          clear hb1
          go_wp2
          go_ret
          exact ⟨Ints.ret_int HF.out.symm, HN1.out⟩
        · have HE : Hid (left (m - (n : Int) - S) ((rn : Int) + (qn : Int)) = m - (n : Int) - S - ((rn : Int) + (qn : Int))) := by show _ = _; unfold left; simp [hneg]
          have hz2 : ¬ m - (n : Int) - S - ((rn : Int) + (qn : Int)) < 0 := by omega
          go_wp2_with fail
          refine (e_sz _ _ _ _ _ _ _ _ HRN.out HRM.out (by omega) (by omega)).mono ?_
          rintro e w1 ⟨rfl, hb1⟩
          rw [HE.out]
          have HN1 : Hid (Below w.heap.size w w1) := Frame.next HN.out hb1 HN.out.size
          clear hb1
          go_wp2
          go_roundw
          case rel => exact ⟨k + 1, by omega, by go_num, by rw [HS1.out]; congr 1; omega, by rw [HS1.out]; omega, HN1.out⟩
          case measure => simp [intOf]; omega
      · obtain rfl : k = n := by omega
        have HF : Hid (m - (k : Int) - sumL (rs.take (k * 2)) = left m ((k : Int) + sumL rs)) := by
          show _ = _
          rw [List.take_of_length_le (by rw [HL.out]; omega)] at hpos ⊢
          unfold left
          rw [if_neg (by omega)]
          omega
        clear hpos hsk
        go_wp2
        go_ret
        exact ⟨Ints.ret_int HF.out, HN.out⟩

theorem eOwn_parts {w : World} {lo hi : Nat} {ua ta : Option Addr} {un uc tn tc : Nat} {d : Dp} (h : EOwn w lo hi (.slice ua un uc) (.slice ta tn tc) d) :
    w.ownsRow lo 3 1 (.slice ua un uc) un (ints .i64 d.1) ∧ w.ownsRow lo 3 1 (.slice ta tn tc) tn (ints .i64 d.2) ∧ (∀ z ∈ d.1, (Lit.int .i64 z).wf = true) ∧ (∀ z ∈ d.2, (Lit.int .i64 z).wf = true) ∧ (∀ x, ua = some x → lo ≤ x.block ∧ x.block < hi) ∧ (∀ x, ta = some x → lo ≤ x.block ∧ x.block < hi) ∧ Far ua ta := by
  obtain ⟨⟨a, n, c, e, h1, h2, _, h3⟩, ⟨a', n', c', e', h1', h2', _, h3'⟩, hf⟩ := h
  cases e
  cases e'
  exact ⟨h1, h1', h2, h2', h3, h3', hf⟩

theorem OwnG.put_two {w : World} {base g0 n cap : Nat} {xs ys : List LV} {q q' r r' : LV} (h : OwnG w base (some ⟨g0, 0, none⟩) n cap (xs ++ q :: q' :: ys)) (hq' : q'.a = none) (hr : w.ownsRow base 3 1 (.slice r.a r.n r.c) r.n (ints .i64 r.zs)) (hr' : w.ownsRow base 3 1 (.slice r'.a r'.n r'.c) r'.n (ints .i64 r'.zs))
    (hw : ∀ z ∈ r.zs, (Lit.int .i64 z).wf = true) (hw' : ∀ z ∈ r'.zs, (Lit.int .i64 z).wf = true) (hrr : Far r.a r'.a) (hfx : ∀ s ∈ xs, Far s.a r.a ∧ Far s.a r'.a) (hfy : ∀ s ∈ ys, s.a = none) (hf0 : Far (some ⟨g0, 0, none⟩) r.a) (hf0' : Far (some ⟨g0, 0, none⟩) r'.a) :
    OwnG ((w.setCell ⟨g0, xs.length, none⟩ (.slice r.a r.n r.c)).setCell ⟨g0, xs.length + 1, none⟩ (.slice r'.a r'.n r'.c)) base (some ⟨g0, 0, none⟩) n cap (xs ++ r :: r' :: ys) := by
  have h1 := OwnG.put (r := r) h hr hw (fun s hs => (hfx s hs).1) (fun s hs x y hx hy => by
    rcases List.mem_cons.1 hs with rfl | hs
    · rw [hq'] at hy; cases hy
    · rw [hfy s hs] at hy; cases hy) hf0
  have ot : OnlyAt (some ⟨g0, 0, none⟩) w (w.setCell ⟨g0, xs.length, none⟩ (.slice r.a r.n r.c)) := (OnlyAt.refl _ w).setCell (fun x hx => by cases hx; rfl) (by simp) _
  have e : xs ++ r :: q' :: ys = (xs ++ [r]) ++ q' :: ys := by simp
  rw [e] at h1
  have h2 := OwnG.put (r := r') h1 (own_touch hr' ot (fun x y hx hy => hf0'.symm x y hx hy)) hw' (fun s hs => by
    rcases List.mem_append.1 hs with hs | hs
    · exact (hfx s hs).2
    · rw [List.mem_singleton.1 hs]; exact hrr) (fun s hs x y hx hy => by rw [hfy s hs] at hy; cases hy) hf0'
  rw [List.length_append] at h2
  have e2 : (xs ++ [r]) ++ r' :: ys = xs ++ r :: r' :: ys := by simp
  rw [e2] at h2
  exact h2

set_option maxHeartbeats 1600000 in
theorem toDepS (a : Option Addr) (n cap : Nat) (rs : List LV) (w : World) (h : IsG w a n cap rs) (hn : n ≤ 1048576) (hr : ∀ r ∈ rs, r.n ≤ 1048576) :
    Calls Try.prog 51 #[.slice a n cap] w fun e w' => ∃ rs', e = .returned (.slice (some ⟨w.heap.size, 0, none⟩) n n) ∧ OwnG w' w.heap.size (some ⟨w.heap.size, 0, none⟩) n n rs' ∧ lplain rs' = lplain rs ∧ Below w.heap.size w w' := by
  obtain ⟨i0, hi, hz0, hz1, hz2⟩ := info_parts infoD
  have HI : Hid (IsG w a n cap rs) := h
  have HRN : Hid (∀ r ∈ rs, r.n ≤ 1048576) := hr
  have HL : Hid (rs.length = n * 2) := h.len
  clear h hr
  go_enter Try.func51, Try.ntmps51
  go_wp2_with (at_make; refine wpList_make_full _ rfl _ _ 23 rfl w.heap.size 26 i0 (.agg #[.slice none 0 0, .slice none 0 0]) 2 Try.underlying23 hi hz0 hz1 _ _ _ _ n rfl rfl rfl rfl ?b2 ?b3 (Nat.le_refl _) ?_)
  case b2 => rw [hz2]; omega
  case b3 => unfold maxLen; omega
  intro w0 hown0 hgrow0
  go_wp2_with fail
  go_loopw [4] (fun i wr => ∃ (k : Nat) (xs : List LV), k ≤ n ∧ i = .int .i64 k ∧ xs.length = k * 2 ∧ lplain xs = lplain (rs.take (k * 2)) ∧ OwnG wr w.heap.size (some ⟨w.heap.size, 0, none⟩) n n (xs ++ List.replicate ((n - k) * 2) ld) ∧ Below w.heap.size w wr)
    (fun i _ => n - (intOf i).toNat)
  case atStart => exact ⟨0, [], Nat.zero_le _, rfl, rfl, rfl, own_made hown0, (Below.refl _ _).grown hgrow0 (Nat.le_refl _) (fun k h => by cases h)⟩
  case round =>
    obtain ⟨k, xs, hk, rfl, hxl, hpl, hown, hnx⟩ := hrel
    have HN : Hid (Below w.heap.size w wr) := hnx
    have HX : Hid (xs.length = k * 2) := hxl
    have HP : Hid (lplain xs = lplain (rs.take (k * 2))) := hpl
    clear hnx hxl hpl
    by_cases hlt : k < n
    · obtain ⟨b, off, rfl, hbl, hc⟩ := HI.out.cells (by omega)
      have hkl : k * 2 + 1 < rs.length := by rw [HL.out]; omega
      have p0 : wr.cell? ⟨b, off + k * 2, none⟩ = some (.slice (rs.getD (k * 2) ld).a (rs.getD (k * 2) ld).n (rs.getD (k * 2) ld).c) := by rw [HN.out.cell (p := ⟨b, off + k * 2, none⟩) hbl]; exact (hc k hlt).1
      have p1 : wr.cell? ⟨b, off + k * 2 + 1, none⟩ = some (.slice (rs.getD (k * 2 + 1) ld).a (rs.getD (k * 2 + 1) ld).n (rs.getD (k * 2 + 1) ld).c) := by rw [HN.out.cell (p := ⟨b, off + k * 2 + 1, none⟩) hbl]; exact (hc k hlt).2
      have hrow := HI.out.rows _ (getD_mem_ld (show k * 2 < rs.length by omega))
      have hrow' := HI.out.rows _ (getD_mem_ld hkl)
      have hrn := HRN.out _ (getD_mem_ld (show k * 2 < rs.length by omega))
      have hrm := HRN.out _ (getD_mem_ld hkl)
      have hts := take_two hkl
      generalize rs.getD (k * 2) ld = r at p0 hrow hrn hts
      generalize rs.getD (k * 2 + 1) ld = q at p1 hrow' hrm hts
      obtain ⟨ra, rn, rc, rzs⟩ := r
      obtain ⟨qa, qn, qc, qzs⟩ := q
      simp only at p0 p1 hrow hrow' hrn hrm
      have HE : Hid (EIs wr (.slice ra rn rc) (.slice qa qn qc) (rzs, qzs)) := ⟨⟨_, _, _, rfl, IsRow.below hrow HN.out, hrn⟩, ⟨_, _, _, rfl, IsRow.below hrow' HN.out, hrm⟩⟩
      have HTS : Hid (rs.take ((k + 1) * 2) = rs.take (k * 2) ++ [⟨ra, rn, rc, rzs⟩, ⟨qa, qn, qc, qzs⟩]) := hts
      have hsplit : xs ++ List.replicate ((n - k) * 2) ld = xs ++ ld :: ld :: List.replicate ((n - (k + 1)) * 2) ld := by
        rw [show (n - k) * 2 = (n - (k + 1)) * 2 + 1 + 1 by omega, List.replicate_succ, List.replicate_succ]
      rw [hsplit] at hown
      have HO : Hid (OwnG wr w.heap.size (some ⟨w.heap.size, 0, none⟩) n n (xs ++ ld :: ld :: List.replicate ((n - (k + 1)) * 2) ld)) := hown
      clear hc hrow hrow' hts hown hsplit hkl hrn hrm
      go_wp2_with fail
      refine (e_to _ _ (rzs, qzs) _ HE.out).mono ?_
      rintro e w1 ⟨ua, un, uc, ta, tn, tc, rfl, ho1, hb1⟩
      obtain ⟨o1, o2, wf1, wf2, bl1, bl2, ff⟩ := eOwn_parts ho1
      have own1 := OwnG.below HO.out hb1
      have hs1 := hb1.size
      have hzn : (own_block own1.outer) = own_block own1.outer := rfl
      have hput := OwnG.put_two (r := ⟨ua, un, uc, rzs⟩) (r' := ⟨ta, tn, tc, qzs⟩) own1 rfl (own_base o1 HN.out.size) (own_base o2 HN.out.size) wf1 wf2 ff
        (fun s hs => ⟨fun x y hx hy => by have h1 := (OwnG.lt HO.out s (List.mem_append_left _ hs) x hx).2; have h2 := (bl1 y hy).1; omega, fun x y hx hy => by have h1 := (OwnG.lt HO.out s (List.mem_append_left _ hs) x hx).2; have h2 := (bl2 y hy).1; omega⟩)
        (fun s hs => by rw [(List.mem_replicate.1 hs).2]; rfl)
        (fun x y hx hy => by cases hx; have h1 := (own_block HO.out.outer _ rfl).2; have h2 := (bl1 y hy).1; simp at h1; show w.heap.size ≠ y.block; omega)
        (fun x y hx hy => by cases hx; have h1 := (own_block HO.out.outer _ rfl).2; have h2 := (bl2 y hy).1; simp at h1; show w.heap.size ≠ y.block; omega)
      rw [HX.out] at hput
      have HPUT : Hid (OwnG ((w1.setCell ⟨w.heap.size, k * 2, none⟩ (.slice ua un uc)).setCell ⟨w.heap.size, k * 2 + 1, none⟩ (.slice ta tn tc)) w.heap.size (some ⟨w.heap.size, 0, none⟩) n n (xs ++ ⟨ua, un, uc, rzs⟩ :: ⟨ta, tn, tc, qzs⟩ :: List.replicate ((n - (k + 1)) * 2) ld)) := hput
      have HN1 : Hid (Below w.heap.size w w1) := Frame.next HN.out hb1 HN.out.size
      have f0 := own1.outer.frozenAt (k * 2)
      have f1 := own1.outer.frozenAt (k * 2 + 1)
      have hl2 : (lcells (xs ++ ld :: ld :: List.replicate ((n - (k + 1)) * 2) ld)).length = n * 2 := by simpa using own1.outer.1
      obtain ⟨v0, hv0⟩ : ∃ o, w1.cell? ⟨w.heap.size, k * 2, none⟩ = some o := by rw [own1.outer.cellAt _ (by omega)]; exact ⟨_, List.getElem?_eq_getElem (by omega)⟩
      obtain ⟨v1, hv1⟩ : ∃ o, w1.cell? ⟨w.heap.size, k * 2 + 1, none⟩ = some o := by rw [own1.outer.cellAt _ (by omega)]; exact ⟨_, List.getElem?_eq_getElem (by omega)⟩
      clear own1 hput ho1 hb1 hl2 hzn o1 o2 wf1 wf2 bl1 bl2 ff
      go_wp2
      go_roundw
      case rel =>
        refine ⟨k + 1, xs ++ [⟨ua, un, uc, rzs⟩, ⟨ta, tn, tc, qzs⟩], by omega, by go_num, by rw [List.length_append, HX.out]; simp; omega, ?_, ?_, (HN1.out.setCell (Nat.le_refl _) _).setCell (Nat.le_refl _) _⟩
        · rw [HTS.out]
          have h := HP.out
          simp only [lplain, List.map_append] at *
          rw [h]
          rfl
        · rw [List.append_assoc]
          exact HPUT.out
      case measure => simp [intOf]; omega
    · obtain rfl : k = n := by omega
      rw [Nat.sub_self, Nat.zero_mul, List.replicate_zero, List.append_nil] at hown
      have HO : Hid (OwnG wr w.heap.size (some ⟨w.heap.size, 0, none⟩) k k xs) := hown
      have HPF : Hid (lplain xs = lplain rs) := by
        have := HP.out
        rwa [List.take_of_length_le (by rw [HL.out]; omega)] at this
      clear hown
      go_wp2
      go_ret
      exact ⟨xs, rfl, HO.out, HPF.out, HN.out⟩

theorem eq_take_dp (xs ys : List Dp) (k : Nat) (hx : k < xs.length) (hy : k < ys.length) (h : xs.take k = ys.take k) (e : xs.getD k Dls.d0 = ys.getD k Dls.d0) : xs.take (k + 1) = ys.take (k + 1) := by
  rw [dp_take_succ hx, dp_take_succ hy, h, e]

set_option maxHeartbeats 1600000 in
theorem eqDepS (a b : Option Addr) (n m ca cb : Nat) (xs ys : List LV) (w : World) (ha : IsG w a n ca xs) (hb : IsG w b m cb ys) (hn : n ≤ 1048576) (hm : m ≤ 1048576) (hx : ∀ r ∈ xs, r.n ≤ 1048576) (hy : ∀ r ∈ ys, r.n ≤ 1048576) :
    Calls Try.prog 53 #[.slice a n ca, .slice b m cb] w fun e w' => e = .returned (.bool (decide (dpl xs = dpl ys))) ∧ Below w.heap.size w w' := by
  have la := ha.len
  have lb := hb.len
  by_cases hl : n = m
  · subst hl
    have HA : Hid (IsG w a n ca xs) := ha
    have HB : Hid (IsG w b n cb ys) := hb
    have LA : Hid (xs.length = n * 2) := la
    have LB : Hid (ys.length = n * 2) := lb
    have DA : Hid ((dpl xs).length = n) := dpl_length n xs la
    have DB : Hid ((dpl ys).length = n) := dpl_length n ys lb
    have NX : Hid (∀ r ∈ xs, r.n ≤ 1048576) := hx
    have NY : Hid (∀ r ∈ ys, r.n ≤ 1048576) := hy
    clear la lb ha hb hx hy
    go_enter Try.func53, Try.ntmps53
    go_wp2
    go_loopw [5] (fun i wr => ∃ k : Nat, k ≤ n ∧ i = .int .i64 k ∧ (dpl xs).take k = (dpl ys).take k ∧ Below w.heap.size w wr) (fun i _ => n - (intOf i).toNat)
    case atStart => exact ⟨0, Nat.zero_le _, rfl, rfl, Below.refl _ _⟩
    case round =>
      obtain ⟨k, hk, rfl, heq, hnx⟩ := hrel
      have Heq : Hid ((dpl xs).take k = (dpl ys).take k) := heq
      have Hn : Hid (Below w.heap.size w wr) := hnx
      clear heq hnx
      by_cases hlt : k < n
      · obtain ⟨b1, o1, rfl, hb1, hc1⟩ := HA.out.cells (by omega)
        obtain ⟨b2, o2, rfl, hb2, hc2⟩ := HB.out.cells (by omega)
        have kx : k * 2 + 1 < xs.length := by rw [LA.out]; omega
        have ky : k * 2 + 1 < ys.length := by rw [LB.out]; omega
        have p0 : wr.cell? ⟨b1, o1 + k * 2, none⟩ = some (.slice (xs.getD (k * 2) ld).a (xs.getD (k * 2) ld).n (xs.getD (k * 2) ld).c) := by rw [Hn.out.cell (p := ⟨b1, o1 + k * 2, none⟩) hb1]; exact (hc1 k hlt).1
        have p1 : wr.cell? ⟨b1, o1 + k * 2 + 1, none⟩ = some (.slice (xs.getD (k * 2 + 1) ld).a (xs.getD (k * 2 + 1) ld).n (xs.getD (k * 2 + 1) ld).c) := by rw [Hn.out.cell (p := ⟨b1, o1 + k * 2 + 1, none⟩) hb1]; exact (hc1 k hlt).2
        have q0 : wr.cell? ⟨b2, o2 + k * 2, none⟩ = some (.slice (ys.getD (k * 2) ld).a (ys.getD (k * 2) ld).n (ys.getD (k * 2) ld).c) := by rw [Hn.out.cell (p := ⟨b2, o2 + k * 2, none⟩) hb2]; exact (hc2 k hlt).1
        have q1 : wr.cell? ⟨b2, o2 + k * 2 + 1, none⟩ = some (.slice (ys.getD (k * 2 + 1) ld).a (ys.getD (k * 2 + 1) ld).n (ys.getD (k * 2 + 1) ld).c) := by rw [Hn.out.cell (p := ⟨b2, o2 + k * 2 + 1, none⟩) hb2]; exact (hc2 k hlt).2
        have vx : EIs w (.slice (xs.getD (k * 2) ld).a (xs.getD (k * 2) ld).n (xs.getD (k * 2) ld).c) (.slice (xs.getD (k * 2 + 1) ld).a (xs.getD (k * 2 + 1) ld).n (xs.getD (k * 2 + 1) ld).c) ((xs.getD (k * 2) ld).zs, (xs.getD (k * 2 + 1) ld).zs) := ⟨⟨_, _, _, rfl, HA.out.rows _ (getD_mem_ld (by omega)), NX.out _ (getD_mem_ld (by omega))⟩, ⟨_, _, _, rfl, HA.out.rows _ (getD_mem_ld kx), NX.out _ (getD_mem_ld kx)⟩⟩
        have vy : EIs w (.slice (ys.getD (k * 2) ld).a (ys.getD (k * 2) ld).n (ys.getD (k * 2) ld).c) (.slice (ys.getD (k * 2 + 1) ld).a (ys.getD (k * 2 + 1) ld).n (ys.getD (k * 2 + 1) ld).c) ((ys.getD (k * 2) ld).zs, (ys.getD (k * 2 + 1) ld).zs) := ⟨⟨_, _, _, rfl, HB.out.rows _ (getD_mem_ld (by omega)), NY.out _ (getD_mem_ld (by omega))⟩, ⟨_, _, _, rfl, HB.out.rows _ (getD_mem_ld ky), NY.out _ (getD_mem_ld ky)⟩⟩
        have hkI : (k : Int) < (n : Int) := by omega
        have hk0 : (0 : Int) ≤ (k : Int) := by omega
        have HXY : Hid ((((xs.getD (k * 2) ld).zs, (xs.getD (k * 2 + 1) ld).zs) = ((ys.getD (k * 2) ld).zs, (ys.getD (k * 2 + 1) ld).zs) → (dpl xs).take (k + 1) = (dpl ys).take (k + 1)) ∧ (((xs.getD (k * 2) ld).zs, (xs.getD (k * 2 + 1) ld).zs) ≠ ((ys.getD (k * 2) ld).zs, (ys.getD (k * 2 + 1) ld).zs) → dpl xs ≠ dpl ys)) :=
          ⟨fun e => eq_take_dp _ _ k (by rw [DA.out]; exact hlt) (by rw [DB.out]; exact hlt) Heq.out (by rw [dpl_get k xs kx, dpl_get k ys ky]; exact e), fun e h => e (by rw [← dpl_get k xs kx, ← dpl_get k ys ky, h])⟩
        generalize xs.getD (k * 2) ld = x at p0 vx HXY
        generalize xs.getD (k * 2 + 1) ld = x' at p1 vx HXY
        generalize ys.getD (k * 2) ld = y at q0 vy HXY
        generalize ys.getD (k * 2 + 1) ld = y' at q1 vy HXY
        obtain ⟨xa, xn, xc, xv⟩ := x
        obtain ⟨xa', xn', xc', xv'⟩ := x'
        obtain ⟨ya, yn, yc, yv⟩ := y
        obtain ⟨ya', yn', yc', yv'⟩ := y'
        simp only at p0 p1 q0 q1
        have VX : Hid (EIs w (.slice xa xn xc) (.slice xa' xn' xc') (xv, xv')) := vx
        have VY : Hid (EIs w (.slice ya yn yc) (.slice ya' yn' yc') (yv, yv')) := vy
        have HF : Hid (((xv, xv') = (yv, yv') → (dpl xs).take (k + 1) = (dpl ys).take (k + 1)) ∧ ((xv, xv') ≠ (yv, yv') → dpl xs ≠ dpl ys)) := HXY.out
        clear hc1 hc2 vx vy HXY kx ky
        cases hE : decide ((xv, xv') = (yv, yv'))
        · have HE : Hid (decide ((xv, xv') = (yv, yv')) = false) := hE
          have F : Hid (decide (dpl xs = dpl ys) = false) := decide_eq_false (HF.out.2 (of_decide_eq_false hE))
          clear hE HF
          go_wp2_with fail
          go_region_held3 (fun w' => Below wr.heap.size wr w' ∧ w'.cell? ⟨b1, o1 + k * 2, none⟩ = some (.slice xa xn xc) ∧ w'.cell? ⟨b1, o1 + k * 2 + 1, none⟩ = some (.slice xa' xn' xc') ∧ w'.cell? ⟨b2, o2 + k * 2, none⟩ = some (.slice ya yn yc) ∧ w'.cell? ⟨b2, o2 + k * 2 + 1, none⟩ = some (.slice ya' yn' yc'))
            (first | exact ⟨(Below.refl _ _).drew, p0, p1, q0, q1⟩ | exact (fun kb => ⟨kb, Frame.held_cell kb p0, Frame.held_cell kb p1, Frame.held_cell kb q0, Frame.held_cell kb q1⟩) (Frame.held_next ‹Below wr.heap.size wr _ ∧ _› hb))
            (first | (go_at_call 127; refine (e_eq _ _ _ _ (xv, xv') (yv, yv') _ ?_ ?_).mono ?_; exact eIs_below VX.out (Frame.next Hn.out (And.left ‹Below wr.heap.size wr _ ∧ _›) Hn.out.size); exact eIs_below VY.out (Frame.next Hn.out (And.left ‹Below wr.heap.size wr _ ∧ _›) Hn.out.size); rintro e w1 ⟨rfl, hb⟩; rw [HE.out]))
          have Hn1 : Hid (Below w.heap.size w w1) := Frame.next Hn.out (And.left ‹Below wr.heap.size wr _ ∧ _›) Hn.out.size
          clear p0 p1 q0 q1 hb
          go_wp2
          go_ret
          exact ⟨Ints.ret_bool F.out.symm, Hn1.out⟩
        · have HE : Hid (decide ((xv, xv') = (yv, yv')) = true) := hE
          have F : Hid ((dpl xs).take (k + 1) = (dpl ys).take (k + 1)) := HF.out.1 (of_decide_eq_true hE)
          clear hE HF
          go_wp2_with fail
          go_region_held3 (fun w' => Below wr.heap.size wr w' ∧ w'.cell? ⟨b1, o1 + k * 2, none⟩ = some (.slice xa xn xc) ∧ w'.cell? ⟨b1, o1 + k * 2 + 1, none⟩ = some (.slice xa' xn' xc') ∧ w'.cell? ⟨b2, o2 + k * 2, none⟩ = some (.slice ya yn yc) ∧ w'.cell? ⟨b2, o2 + k * 2 + 1, none⟩ = some (.slice ya' yn' yc'))
            (first | exact ⟨(Below.refl _ _).drew, p0, p1, q0, q1⟩ | exact (fun kb => ⟨kb, Frame.held_cell kb p0, Frame.held_cell kb p1, Frame.held_cell kb q0, Frame.held_cell kb q1⟩) (Frame.held_next ‹Below wr.heap.size wr _ ∧ _› hb))
            (first | (go_at_call 127; refine (e_eq _ _ _ _ (xv, xv') (yv, yv') _ ?_ ?_).mono ?_; exact eIs_below VX.out (Frame.next Hn.out (And.left ‹Below wr.heap.size wr _ ∧ _›) Hn.out.size); exact eIs_below VY.out (Frame.next Hn.out (And.left ‹Below wr.heap.size wr _ ∧ _›) Hn.out.size); rintro e w1 ⟨rfl, hb⟩; rw [HE.out]))
          have Hn1 : Hid (Below w.heap.size w w1) := Frame.next Hn.out (And.left ‹Below wr.heap.size wr _ ∧ _›) Hn.out.size
          clear p0 p1 q0 q1 hb
          go_wp2
          go_roundw
          case rel => exact ⟨k + 1, by omega, by go_num, F.out, Hn1.out⟩
          case measure => simp [intOf]; omega
      · have F : Hid (decide (dpl xs = dpl ys) = true) := decide_eq_true (by
          have h := Heq.out
          rwa [List.take_of_length_le (by rw [DA.out]; omega), List.take_of_length_le (by rw [DB.out]; omega)] at h)
        go_wp2
        go_ret
        exact ⟨Ints.ret_bool F.out.symm, Hn.out⟩
  · have e : decide (dpl xs = dpl ys) = false := decide_eq_false (fun h => hl (by have h1 := dpl_length n xs la; have h2 := dpl_length m ys lb; rw [h] at h1; omega))
    rw [e]
    have hne : ((n : Int) != (m : Int)) = true := by rw [bne_iff_ne]; omega
    clear e ha hb la lb hl
    go_enter Try.func53, Try.ntmps53
    go_wp2
    go_ret
    exact ⟨rfl, Below.refl _ _⟩


end Go.Proofs.Ythhldnlbneamiaa.Dlt
