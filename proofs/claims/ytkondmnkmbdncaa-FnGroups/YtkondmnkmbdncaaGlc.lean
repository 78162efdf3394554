/-
  Contracts of what a node reaches, in the model: l9Reach, l9Node, ReachOf.
-/
import Derived.Test.YtkondmnkmbdncaaGpb
import Derived.Test.YtkondmnkmbdncaaGlb
import Derived.Test.YtkondmnkmbdncaaGlw
import Derived.Test.YtkondmnkmbdncaaSpo
import Derived.ArgAppend
namespace Go.Proofs.Ytkondmnkmbdncaa.Glc
open Go.RowKit
open Go.Proofs.Ytkondmnkmbdncaa.Frame Go.Proofs.Ytkondmnkmbdncaa.Mem Go.Proofs.Ytkondmnkmbdncaa.Ints Go.Proofs.Ytkondmnkmbdncaa.Kep Go.Proofs.Ytkondmnkmbdncaa.Lls Go.Proofs.Ytkondmnkmbdncaa.Mis Go.Proofs.Ytkondmnkmbdncaa.Gpu Go.Proofs.Ytkondmnkmbdncaa.Gpb
open Go.Proofs.Ytkondmnkmbdncaa.Glb (own_row em_bool iOwn_nil)
open Go.Proofs.Ytkondmnkmbdncaa.Knl hiding Ll
open Go.Proofs.Ytkondmnkmbdncaa.Rel

/-- A queue: its front moves on; what lies behind its end up to the capacity is its own. -/
structure Que (w : World) (lo b o n c : Nat) (zs : List Int) : Prop where
  len : zs.length = n
  fits : n ≤ c
  max : c ≤ maxLen
  low : lo ≤ b
  lt : b < w.heap.size
  cell : ∀ i, i < n → w.cell? ⟨b, o + i, none⟩ = some (.int .i64 (zs.getD i 0))
  spare : ∀ i, n ≤ i → i < c → (w.cell? ⟨b, o + i, none⟩).isSome = true ∧ w.frozen? ⟨b, o + i, none⟩ = false
theorem Que.below {w w' : World} {lo b o n c : Nat} {zs : List Int} (h : Que w lo b o n c zs) (hb : Below w.heap.size w w') : Que w' lo b o n c zs :=
  ⟨h.len, h.fits, h.max, h.low, Nat.lt_of_lt_of_le h.lt hb.size, fun i hi => by rw [hb.cell (p := ⟨b, o + i, none⟩) h.lt]; exact h.cell i hi, fun i h1 h2 => by rw [hb.cell (p := ⟨b, o + i, none⟩) h.lt, hb.frozen (p := ⟨b, o + i, none⟩) h.lt]; exact h.spare i h1 h2⟩
theorem Que.tail {w : World} {lo b o n c : Nat} {z : Int} {zs : List Int} (h : Que w lo b o (n + 1) c (z :: zs)) (o' c' : Nat) (ho : 1 < c → o' = o + 1) (hc : c' = c - 1) : Que w lo b o' n c' zs := by
  subst hc
  have hf := h.fits
  refine ⟨by have := h.len; simpa using this, by omega, by have := h.max; omega, h.low, h.lt, fun i hi => ?_, fun i h1 h2 => ?_⟩
  · rw [ho (by omega), show o + 1 + i = o + (i + 1) by omega, h.cell (i + 1) (by omega)]
    simp [List.getD]
  · rw [ho (by omega), show o + 1 + i = o + (i + 1) by omega]
    exact h.spare (i + 1) (by omega) (by omega)
theorem que_own {w : World} {base b n c : Nat} {zs : List Int} (h : w.ownsRow base 3 1 (.slice (some ⟨b, 0, none⟩) n c) n (ints .i64 zs)) : Que w base b 0 n c zs := by
  have h0 := h
  obtain ⟨h1, h2⟩ := h
  have hl : zs.length = n := by rw [ints_length] at h1; omega
  have hb := own_block h0 _ rfl
  rcases h2 with ⟨hv, _⟩ | ⟨g, cap, cur, hv, hg, hh, hnc, hcap, hsz, htake⟩
  · cases hv
  · simp only [Value.slice.injEq, Option.some.injEq, Addr.mk.injEq, and_true, true_and] at hv
    obtain ⟨rfl, rfl⟩ := hv
    refine ⟨hl, hnc, hcap, hb.1, hb.2, fun i hi => ?_, fun i h1 h2 => ?_⟩
    · rw [Nat.zero_add, h0.cellAt i (by omega)]
      exact ints_get .i64 zs i (by omega)
    · refine ⟨?_, ?_⟩
      · simp [World.cell?, hh]
        omega
      · rw [Nat.zero_add]; exact h0.frozenAt i

theorem own_some {w : World} {base : Nat} {e : TypeId} {a : Option Addr} {n c : Nat} {xs : List Value} (h : w.ownsRow base e 1 (.slice a n c) n xs) (hn : 0 < n) : ∃ g, a = some ⟨g, 0, none⟩ ∧ base ≤ g ∧ g < w.heap.size := by
  obtain ⟨g, cap, e, hg, hlt⟩ := h.form hn
  simp only [Value.slice.injEq] at e
  exact ⟨g, e.1, hg, hlt⟩

theorem one_own (w : World) (base b : Nat) {z : Int} (hb : base ≤ w.heap.size) (he : w.heap.size = b) : (w.alloc (.cells #[.int .i64 z] 3)).ownsRow base 3 1 (.slice (some ⟨b, 0, none⟩) 1 1) 1 (ints .i64 [z]) := by
  subst he
  exact ⟨by simp [ints], .inr ⟨w.heap.size, 1, #[.int .i64 z], rfl, hb, heap_alloc_new w _, Nat.le_refl _, by simp [maxLen], by simp, by simp [ints]⟩⟩

/-- What stands in memory at a head of the loop: the list and the queue, apart. -/
structure St (w wr : World) (g on oc qb qo qn qc : Nat) (zs qs : List Int) : Prop where
  own : wr.ownsRow w.heap.size 3 1 (.slice (some ⟨g, 0, none⟩) on oc) on (ints .i64 zs)
  apart : g ≠ qb
  que : Que wr w.heap.size qb qo qn qc qs
  bel : Below w.heap.size w wr
theorem St.lenz {w wr : World} {g on oc qb qo qn qc : Nat} {zs qs : List Int} (h : St w wr g on oc qb qo qn qc zs qs) : zs.length = on := by have := h.own.1; rw [ints_length] at this; omega
theorem St.room {w W : World} {g on oc qb qo qn qc : Nat} {zs qs : List Int} (h : St w W g on oc qb qo qn qc zs qs) (hr : qn + 1 ≤ qc) (z : Int) : St w (W.setCell ⟨qb, qo + qn, none⟩ (.int .i64 z)) g on oc qb qo (qn + 1) qc zs (qs ++ [z]) := by
  have ot : OnlyAt (some ⟨qb, 0, none⟩) W (W.setCell ⟨qb, qo + qn, none⟩ (.int .i64 z)) := (OnlyAt.refl _ W).setCell (fun x hx => by cases hx; rfl) (by simp) _
  have hq := h.que
  refine ⟨own_touch h.own ot (fun x y hx hy => by cases hx; cases hy; exact h.apart), h.apart, ⟨by simp [hq.len], hr, hq.max, hq.low, Nat.lt_of_lt_of_le hq.lt ot.size, fun i hi => ?_, fun i h1 h2 => ?_⟩, h.bel.setCell (p := ⟨qb, qo + qn, none⟩) hq.low _⟩
  · by_cases e : i = qn
    · subst e
      obtain ⟨o, ho⟩ := Option.isSome_iff_exists.1 (hq.spare i (by omega) (by omega)).1
      rw [World.cell?_setCell_same _ _ _ ho]
      simp [List.getD, ← hq.len]
    · rw [World.cell?_setCell_other _ _ _ _ (by simp), hq.cell i (by omega)]
      have : i < qs.length := by rw [hq.len]; omega
      simp [List.getD, List.getElem?_append_left this]
  · rw [World.cell?_setCell_other _ _ _ _ (by have : i ≠ qn := by omega
                                              simp), World.frozen?_setCell]
    exact hq.spare i (by omega) h2
theorem St.grow {w W W' : World} {g on oc qb qo qn qc : Nat} {zs qs : List Int} {v : Value} {z : Int} (h : St w W g on oc qb qo qn qc zs qs) (ho : W'.ownsRow W.heap.size 3 1 v (qn + 1) (ints .i64 qs ++ [.int .i64 z])) (hg : W.grownBy W' none) : ∃ g' c', v = .slice (some ⟨g', 0, none⟩) (qn + 1) c' ∧ St w W' g on oc g' 0 (qn + 1) c' zs (qs ++ [z]) := by
  obtain ⟨a', c', rfl⟩ := own_form ho
  obtain ⟨g', rfl, hlo, hlt⟩ := own_some ho (by omega)
  have hb : Below W.heap.size W W' := below_make (Below.refl _ _) hg (Nat.le_refl _)
  have hs := h.bel.size
  have ho' : W'.ownsRow w.heap.size 3 1 (.slice (some ⟨g', 0, none⟩) (qn + 1) c') (qn + 1) (ints .i64 (qs ++ [z])) := by
    have := own_base ho hs
    simpa [ints] using this
  have hgl := (own_block h.own _ rfl).2
  exact ⟨g', c', rfl, own_below h.own hb, by have : g < W.heap.size := hgl; omega, que_own ho', Frame.next h.bel hb hs⟩
theorem St.below {w W W' : World} {g on oc qb qo qn qc : Nat} {zs qs : List Int} (h : St w W g on oc qb qo qn qc zs qs) (hb : Below W.heap.size W W') : St w W' g on oc qb qo qn qc zs qs :=
  ⟨own_below h.own hb, h.apart, h.que.below hb, Frame.next h.bel hb h.bel.size⟩
theorem St.put {w W W' : World} {g on oc qb qo qn qc m c : Nat} {a : Option Addr} {zs qs us : List Int} (h : St w W g on oc qb qo qn qc zs qs) (ho : W'.ownsRow W.heap.size 3 1 (.slice a m c) m (ints .i64 us)) (hb : Below W.heap.size W W') (hm : 0 < us.length) : ∃ g', a = some ⟨g', 0, none⟩ ∧ m = us.length ∧ St w W' g' us.length c qb qo qn qc us qs := by
  have hl : us.length = m := by have := ho.1; rw [ints_length] at this; omega
  subst hl
  obtain ⟨g', rfl, hlo, hlt⟩ := own_some ho hm
  have := h.que.lt
  exact ⟨g', rfl, rfl, own_base ho h.bel.size, by omega, h.que.below hb, Frame.next h.bel hb h.bel.size⟩
theorem Que.olds {w : World} {lo b o n c : Nat} {zs : List Int} (h : Que w lo b o n c zs) : ∀ j u, (ints .i64 zs)[j]? = some u → w.cell? ⟨b, o + j, none⟩ = some u := fun j u hu => by
  have hj : j < zs.length := by
    by_cases hx : j < zs.length
    · exact hx
    · rw [List.getElem?_eq_none (by rw [ints_length]; omega)] at hu; cases hu
  rw [h.cell j (by rw [← h.len]; exact hj), ← hu, ints_get .i64 zs j hj]
theorem Que.room {w : World} {lo b o n c : Nat} {zs : List Int} (h : Que w lo b o n c zs) (z : Value) : n + 1 ≤ c → ∀ j, j < [z].length → (w.cell? ⟨b, o + n * 1 + j, none⟩).isSome = true ∧ w.frozen? ⟨b, o + n * 1 + j, none⟩ = false := fun hr j hj => by
  obtain rfl : j = 0 := by simpa using hj
  rw [Nat.mul_one, Nat.add_zero]
  exact h.spare n (Nat.le_refl _) (by omega)
theorem news_at (w : World) (v : Value) (t : TypeId) : ∀ j u, ([v] : List Value)[j]? = some u → (w.alloc (.cells #[v] t)).cell? ((⟨w.heap.size, 0, none⟩ : Addr).add j) = some u := by
  obtain ⟨ad, e, hn⟩ := news_one w v t (by omega)
  cases e
  exact hn
def lenOf : Value → Nat
  | .slice _ n _ => n
  | _ => 0

theorem step_row {w : World} {la : Option Addr} {ln lc : Nat} {rs : List LV} (hl : IsLs w la ln lc rs) {k : Nat} (hk : k < ln) {wr : World} (hb : Below w.heap.size w wr) : ∃ b off qa qn qc zs, la = some ⟨b, off, none⟩ ∧ wr.cell? ⟨b, off + k, none⟩ = some (.slice qa qn qc) ∧ IsRow .i64 w qa qn qc zs ∧ gRow (lplain rs) (k : Int) = zs := by
  obtain ⟨b, off, ha, hb0, hc⟩ := hl.cells (by omega)
  have hkl : k < rs.length := by rw [hl.len]; exact hk
  refine ⟨b, off, _, _, _, _, ha, by rw [hb.cell (p := ⟨b, off + k, none⟩) hb0]; exact hc k hk, hl.rows _ (getD_mem_ld hkl), ?_⟩
  unfold gRow
  rw [show ((k : Int)).toNat = k by omega]
  exact lplain_get rs k hkl

set_option maxRecDepth 8000 in
set_option maxHeartbeats 6400000 in
theorem l9Reach (la : Option Addr) (ln lc : Nat) (rs : List LV) (x : Nat) (w : World) (hl : IsLs w la ln lc rs) (hg : GoodP (lplain rs)) (hx : x < ln) :
    Calls Try.prog 98 #[.slice la ln lc, .int .i64 (x : Int)] w fun e w' => ∃ a' m c', e = .returned (.slice a' m c') ∧ m ≤ 12 ∧ w'.ownsRow w.heap.size 3 1 (.slice a' m c') m (ints .i64 (reachN (lplain rs) (x : Int))) ∧ Below w.heap.size w w' := by
  obtain ⟨i0, hi, hz0, hz1, hz2⟩ := info_parts Ints.info
  have hlen : (lplain rs).length = ln := by simp [lplain, hl.len]
  have hn12 : ln ≤ 12 := by have := hg.few; omega
  have HL : Hid ((lplain rs).length = ln) := hlen
  have HI : Hid (IsLs w la ln lc rs) := hl
  have HG : Hid (GoodP (lplain rs)) := hg
  have HX : Hid (0 ≤ (x : Int) ∧ (x : Int) < ((lplain rs).length : Int)) := by rw [hlen]; show _ ∧ _; omega
  clear hl hg hlen
  go_enter Try.func98, Try.ntmps98
  go_wp2_with fail
  have W0 : Hid (St w ((w.alloc (.cells #[.int .i64 (x : Int)] 3)).alloc (.cells #[.int .i64 (x : Int)] 3)) w.heap.size 1 1 (w.heap.size + 1) 0 1 1 [(x : Int)] [(x : Int)]) := by
    have o1 : (w.alloc (.cells #[.int .i64 (x : Int)] 3)).ownsRow w.heap.size 3 1 (.slice (some ⟨w.heap.size, 0, none⟩) 1 1) 1 (ints .i64 [(x : Int)]) := one_own w _ _ (Nat.le_refl _) rfl
    have o2 : ((w.alloc (.cells #[.int .i64 (x : Int)] 3)).alloc (.cells #[.int .i64 (x : Int)] 3)).ownsRow w.heap.size 3 1 (.slice (some ⟨w.heap.size + 1, 0, none⟩) 1 1) 1 (ints .i64 [(x : Int)]) := one_own _ _ _ (by simp) (by simp)
    exact ⟨own_below o1 ((Below.refl _ _).alloc (Nat.le_refl _) _), by omega, que_own o2, ((Below.refl _ _).alloc (Nat.le_refl _) _).alloc (by simp) _⟩
  go_loopw [5, 6] (fun vo vq wr => ∃ (g on oc qb qo qn qc : Nat) (zs qs : List Int), vo = .slice (some ⟨g, 0, none⟩) on oc ∧ vq = .slice (some ⟨qb, qo, none⟩) qn qc ∧ 2 * (13 - on) + qn ≤ 30 ∧ St w wr g on oc qb qo qn qc zs qs ∧ Bf (lplain rs) (x : Int) zs qs) (fun vo vq _ => 2 * (13 - lenOf vo) + lenOf vq)
  case atStart => exact ⟨_, _, _, _, _, _, _, _, _, rfl, rfl, by omega, W0.out, bf_start _⟩
  case round =>
    obtain ⟨g, on, oc, qb, qo, qn, qc, zs, qs, rfl, rfl, hsm, hst, hbf⟩ := hrel
    have HSM : Hid (2 * (13 - on) + qn ≤ 30) := hsm
    clear hsm
    have HS : Hid (St w wr g on oc qb qo qn qc zs qs) := hst
    have HB : Hid (Bf (lplain rs) (x : Int) zs qs) := hbf
    have hon : on ≤ 12 := by have h1 := up_few hbf.up (bf_in HG.out HX.out hbf); have := hst.lenz; have := HL.out; omega
    clear hst hbf W0
    by_cases hq : 0 < qn
    · have hqI : decide ((qn : Int) > 0) = true := decide_eq_true (by omega)
      cases qs with
      | nil => have := HS.out.que.len; simp at this; omega
      | cons k qs =>
        obtain ⟨m, rfl⟩ : ∃ m, qn = m + 1 := ⟨qn - 1, by omega⟩
        have hfit := HS.out.que.fits
        have q0 : wr.cell? ⟨qb, qo, none⟩ = some (.int .i64 k) := by have := HS.out.que.cell 0 (by omega); simpa using this
        have hkin := bf_in HG.out HX.out HB.out k (HB.out.sub k (List.mem_cons_self ..))
        obtain ⟨y, rfl⟩ : ∃ y : Nat, k = (y : Int) := ⟨k.toNat, by omega⟩
        have hyl : y < ln := by have := HL.out; omega
        obtain ⟨b, off, qa, rn, rc, ys, rfl, p0, hrow, hge⟩ := step_row HI.out hyl HS.out.bel
        have HROW : Hid (IsRow .i64 w qa rn rc ys) := hrow
        have HYL : Hid (ys.length = rn) := hrow.len
        have HE : Hid (gRow (lplain rs) (y : Int) = ys) := hge
        have hrn : rn ≤ 9223372036854775807 := by have := hrow.fits; have := hrow.max; unfold maxLen at *; omega
        have hyn : (y : Int) < (ln : Int) := by omega
        have hy0 : (0 : Int) ≤ (y : Int) := by omega
        clear hrow hge hkin hq
        go_wp2_with fail
        all_goals
          rename World => wo
          go_loopw [5, 6, 27] (fun vo vq i wr => ∃ (g on2 oc qb qo qn qc : Nat) (zs qs : List Int) (j : Nat), vo = .slice (some ⟨g, 0, none⟩) on2 oc ∧ vq = .slice (some ⟨qb, qo, none⟩) qn qc ∧ i = .int .i64 (j : Int) ∧ j ≤ rn ∧ St w wr g on2 oc qb qo qn qc zs qs ∧ Bm (lplain rs) (x : Int) (y : Int) j zs qs ∧ 2 * (13 - on2) + qn ≤ 2 * (13 - on) + m) (fun _ _ i _ => rn - (intOf i).toNat)
          case atStart => exact ⟨g, on, oc, qb, _, m, _, zs, qs, 0, rfl, rfl, rfl, Nat.zero_le _, ⟨HS.out.own, HS.out.apart, HS.out.que.tail _ _ (by omega) (by omega), HS.out.bel⟩, bm_start HB.out, Nat.le_refl _⟩
          case round =>
            obtain ⟨g2, on2, oc2, qb2, qo2, qn2, qc2, zs2, qs2, j, rfl, rfl, rfl, hj, hst, hbm, hms⟩ := hrel
            have HS2 : Hid (St w wr g2 on2 oc2 qb2 qo2 qn2 qc2 zs2 qs2) := hst
            have HM2 : Hid (Bm (lplain rs) (x : Int) (y : Int) j zs2 qs2) := hbm
            have HMS : Hid (2 * (13 - on2) + qn2 ≤ 2 * (13 - on) + m) := hms
            have hon2 : on2 ≤ 12 := by have h1 := up_few hbm.up (bm_in HG.out HX.out hbm); have := hst.lenz; have := HL.out; omega
            clear hst hbm hms
            by_cases hlt : j < rn
            · obtain ⟨b2, o2, rfl, hl2, hc2⟩ := (IsRow.below HROW.out HS2.out.bel).cells (by omega)
              have p2 := hc2 j hlt
              have HNEW : Hid ((ys.getD j 0 ∈ zs2 → Bm (lplain rs) (x : Int) (y : Int) (j + 1) zs2 qs2) ∧ Bm (lplain rs) (x : Int) (y : Int) (j + 1) (putN (ys.getD j 0) zs2) (qs2 ++ [ys.getD j 0])) :=
                ⟨fun h => bm_has HM2.out (by rw [HE.out]; exact h), by have h := bm_new HM2.out (by rw [HE.out, HYL.out]; exact hlt); rwa [HE.out] at h⟩
              have HWF : Hid ((Lit.int .i64 (ys.getD j 0)).wf = true) := HROW.out.wf _ (getD_mem (by rw [HYL.out]; exact hlt))
              generalize ys.getD j 0 = z at p2 HNEW HWF
              have hjI : (j : Int) < (rn : Int) := by omega
              have RO : Hid (IsRow .i64 wr (some ⟨g2, 0, none⟩) on2 oc2 zs2) := own_row HS2.out.own (fun u hu => numN_wf 12 (by omega) u (mem_numN.2 (by have h1 := bm_in HG.out HX.out HM2.out u hu; have := HL.out; omega)))
              clear hc2 hl2
              go_wp2_with fail
              refine (Ihl.l1Has _ _ _ zs2 z _ RO.out).mono ?_
              rintro e w' ⟨rfl, hw'⟩; have hw'' := hw'.symm; clear hw'; subst hw''
              by_cases hin : z ∈ zs2
              · have F : Hid (Bm (lplain rs) (x : Int) (y : Int) (j + 1) zs2 qs2) := HNEW.out.1 hin
                rw [decide_eq_true hin]
                clear hin HNEW
                go_wp2
                go_roundw
                case rel => exact ⟨g2, on2, oc2, qb2, qo2, qn2, qc2, zs2, qs2, j + 1, rfl, rfl, by go_num, by omega, HS2.out, F.out, HMS.out⟩
                case measure => simp [intOf]; omega
              · have F : Hid (Bm (lplain rs) (x : Int) (y : Int) (j + 1) (putN z zs2) (qs2 ++ [z])) := HNEW.out.2
                have HPL : Hid ((putN z zs2).length = on2 + 1) := by show _ = _; rw [putN_len hin, HS2.out.lenz]
                rw [decide_eq_false hin]
                clear hin HNEW
                go_wp2_with fail
                refine (Spo.spec_l1Put _ on2 oc2 zs2 z _ RO.out (Or.inr ⟨_, rfl⟩) (by omega) HWF.out).mono ?_
                rintro e w3 ⟨a3, m3, c3, rfl, hput, hb3⟩
                rcases hput with ⟨_, _, _, _, hp⟩ | ⟨ho3, _⟩
                · have h1 := HPL.out; have h2 := HS2.out.lenz; rw [hp] at h1; omega
                · obtain ⟨g3, rfl, hm3, hs3⟩ := HS2.out.put ho3 hb3 (by rw [HPL.out]; omega)
                  rw [HPL.out] at hm3 hs3
                  subst hm3
                  have S3 : Hid (St w w3 g3 (on2 + 1) c3 qb2 qo2 qn2 qc2 (putN z zs2) qs2) := hs3
                  have S4 : Hid (St w (w3.alloc (.cells #[.int .i64 z] 3)) g3 (on2 + 1) c3 qb2 qo2 qn2 qc2 (putN z zs2) qs2) := S3.out.below ((Below.refl _ _).alloc (Nat.le_refl _) _)
                  have LQ : Hid ((ints .i64 qs2).length = qn2 * 1) := by show _ = _; rw [ints_length, S4.out.que.len]; omega
                  have OLD : Hid (∀ j u, (ints .i64 qs2)[j]? = some u → (w3.alloc (.cells #[.int .i64 z] 3)).cell? ⟨qb2, qo2 + j, none⟩ = some u) := S4.out.que.olds
                  have NEW : Hid (∀ j u, ([.int .i64 z] : List Value)[j]? = some u → (w3.alloc (.cells #[.int .i64 z] 3)).cell? ((⟨w3.heap.size, 0, none⟩ : Addr).add j) = some u) := news_at w3 _ _
                  have ROOM : Hid (qn2 + 1 ≤ qc2 → ∀ j, j < ([.int .i64 z] : List Value).length → ((w3.alloc (.cells #[.int .i64 z] 3)).cell? ⟨qb2, qo2 + qn2 * 1 + j, none⟩).isSome = true ∧ (w3.alloc (.cells #[.int .i64 z] 3)).frozen? ⟨qb2, qo2 + qn2 * 1 + j, none⟩ = false) := S4.out.que.room _
                  have hqn2 : qn2 ≤ 100000 := by have := HMS.out; have := HSM.out; omega
                  clear hs3 ho3 hb3 RO
                  go_wp2_with (at_builtin; refine wpList_append_arg _ rfl _ _ 24 rfl 3 i0 (.int .i64 0) 1 8 Try.underlying24 hi hz0 hz1 hz2 rfl (by decide) qb2 qo2 qn2 qc2 (ints .i64 qs2) rfl LQ.out OLD.out ⟨w3.heap.size, 0, none⟩ 1 _ [.int .i64 z] rfl rfl NEW.out (by simp [Value.oneCell']) ROOM.out (by unfold maxLen; omega) (by omega) ?room ?grow)
                  case room =>
                    intro hr
                    have S5 : Hid (St w ((w3.alloc (.cells #[.int .i64 z] 3)).setCell ⟨qb2, qo2 + qn2, none⟩ (.int .i64 z)) g3 (on2 + 1) c3 qb2 qo2 (qn2 + 1) qc2 (putN z zs2) (qs2 ++ [z])) := S4.out.room hr z
                    show wpList _ _ _ _ _ ((w3.alloc (.cells #[.int .i64 z] 3)).setCell ⟨qb2, qo2 + qn2, none⟩ (.int .i64 z))
                    clear hr
                    go_wp2
                    go_roundw
                    case rel => exact ⟨g3, on2 + 1, c3, qb2, qo2, qn2 + 1, qc2, putN z zs2, qs2 ++ [z], j + 1, rfl, rfl, by go_num, by omega, S5.out, F.out, by have := HMS.out; omega⟩
                    case measure => simp [intOf]; omega
                  case grow =>
                    intro _ v' w5 hown hgrow
                    obtain ⟨g5, c5, rfl, hs5⟩ := S4.out.grow (v := v') (z := z) (by simpa using hown) hgrow
                    have S5 : Hid (St w w5 g3 (on2 + 1) c3 g5 0 (qn2 + 1) c5 (putN z zs2) (qs2 ++ [z])) := hs5
                    clear hown hgrow hs5
                    go_wp2
                    go_roundw
                    case rel => exact ⟨g3, on2 + 1, c3, g5, 0, qn2 + 1, c5, putN z zs2, qs2 ++ [z], j + 1, rfl, rfl, by go_num, by omega, S5.out, F.out, by have := HMS.out; omega⟩
                    case measure => simp [intOf]; omega
            · obtain rfl : j = rn := by omega
              have HB2 : Hid (Bf (lplain rs) (x : Int) zs2 qs2) := bm_end (by rw [HE.out, HYL.out]; exact HM2.out)
              go_wp2
              go_roundw
              case rel => exact ⟨g2, on2, oc2, qb2, qo2, qn2, qc2, zs2, qs2, rfl, rfl, by have := HMS.out; have := HSM.out; omega, HS2.out, HB2.out⟩
              case measure => simp only [lenOf]; have := HMS.out; omega
    · have hqI : decide (0 < qn) = false := decide_eq_false hq
      have hqJ : ¬ ((qn : Int) > 0) := by omega
      have hqs : qs = [] := List.eq_nil_of_length_eq_zero (by rw [HS.out.que.len]; omega)
      have F : Hid (zs = reachN (lplain rs) (x : Int)) := bf_end HG.out HX.out (by rw [← hqs]; exact HB.out)
      clear hqs hq
      go_wp2
      go_ret
      refine ⟨_, _, _, rfl, hon, ?_, HS.out.bel⟩
      rw [← F.out]
      exact HS.out.own

theorem l9Node (v : Value) (xs : Ll) (k : Int) (w : World) (h : LIs w v xs) :
    Calls Try.prog 96 #[v, .int .i64 k] w fun e w' => e = .returned (.bool (nodeB xs k)) ∧ w' = w := by
  obtain ⟨a, n, c, rs, rfl, hr, rfl, ht⟩ := h
  have H : Hid (LIs w (.slice a n c) (lplain rs)) := ⟨a, n, c, rs, rfl, hr, rfl, ht⟩
  have hlen : (lplain rs).length = n := by simp [lplain, hr.len]
  have HN : Hid (nodeB (lplain rs) k = (goodG (lplain rs) && Val.inB k 0 ((n : Int) - 1))) := by show _ = _; unfold nodeB; rw [hlen]
  have hn : n ≤ 9223372036854775807 := by have := hr.fits; have := hr.max; unfold maxLen at *; omega
  have hwr : IntKind.i64.wrap ((n : Int) - 1) = (n : Int) - 1 := by simp [IntKind.wrap, IntKind.bits, IntKind.signed]; omega
  clear hr ht hlen
  rcases em_bool (goodG (lplain rs)) with hg | hg
  · have F : Hid (nodeB (lplain rs) k = false) := by show _ = _; rw [HN.out, hg]; rfl
    have HG : Hid (goodG (lplain rs) = false) := hg
    clear hg HN
    go_enter Try.func96, Try.ntmps96
    go_wp2_with fail
    refine (Gla.spec_GoodLinks _ _ _ H.out).mono ?_
    rintro e w' ⟨rfl, hw'⟩; have hw'' := hw'.symm; clear hw'; subst hw''
    rw [HG.out]
    go_wp2
    go_ret
    exact ⟨ret_bool F.out.symm, rfl⟩
  · have F : Hid (nodeB (lplain rs) k = Val.inB k 0 ((n : Int) - 1)) := by show _ = _; rw [HN.out, hg]; rfl
    have HG : Hid (goodG (lplain rs) = true) := hg
    clear hg HN
    go_enter Try.func96, Try.ntmps96
    go_wp2_with fail
    refine (Gla.spec_GoodLinks _ _ _ H.out).mono ?_
    rintro e w' ⟨rfl, hw'⟩; have hw'' := hw'.symm; clear hw'; subst hw''
    rw [HG.out]
    go_wp2_with fail
    refine (Val.spec_In _ _ _ _).mono ?_
    rintro e w' ⟨rfl, hw'⟩; have hw'' := hw'.symm; clear hw'; subst hw''
    rw [← F.out]
    go_wp2
    go_ret
    exact ⟨rfl, rfl⟩

set_option maxRecDepth 8000 in
set_option maxHeartbeats 1600000 in
theorem spec_ReachOf (v : Value) (xs : Ll) (k : Int) (w : World) (h : LIs w v xs) :
    Calls Try.prog 39 #[v, .int .i64 k] w fun e w' => ∃ u, e = .returned (.tuple #[u, .bool (nodeB xs k)]) ∧ IOwn w' w.heap.size w'.heap.size u (reachV xs k) ∧ Below w.heap.size w w' := by
  obtain ⟨a, n, c, rs, rfl, hr, rfl, ht⟩ := h
  have H : Hid (LIs w (.slice a n c) (lplain rs)) := ⟨a, n, c, rs, rfl, hr, rfl, ht⟩
  have HI : Hid (IsLs w a n c rs) := hr
  have HL : Hid ((lplain rs).length = n) := by show _ = _; simp [lplain, hr.len]
  clear hr ht
  rcases em_bool (nodeB (lplain rs) k) with hg | hg
  · have F : Hid (nodeB (lplain rs) k = false) := hg
    clear hg
    go_enter Try.func39, Try.ntmps39
    go_wp2_with fail
    refine (l9Node _ _ k _ H.out).mono ?_
    rintro e w' ⟨rfl, hw'⟩; have hw'' := hw'.symm; clear hw'; subst hw''
    rw [F.out]
    go_wp2
    go_ret2
    refine ⟨_, by rw [F.out]; rfl, ?_, Below.refl _ _⟩
    unfold reachV
    rw [F.out]
    exact iOwn_nil _ _ _
  · have F : Hid (nodeB (lplain rs) k = true) := hg
    obtain ⟨GP, h0, h1⟩ := node_iff.1 hg
    obtain ⟨x, rfl⟩ : ∃ x : Nat, k = (x : Int) := ⟨k.toNat, by omega⟩
    have HG : Hid (GoodP (lplain rs)) := GP
    have hx : x < n := by have := HL.out; omega
    clear hg GP h0 h1
    go_enter Try.func39, Try.ntmps39
    go_wp2_with fail
    refine (l9Node _ _ (x : Int) _ H.out).mono ?_
    rintro e w' ⟨rfl, hw'⟩; have hw'' := hw'.symm; clear hw'; subst hw''
    rw [F.out]
    go_wp2_with fail
    refine (l9Reach a n c rs x _ HI.out HG.out hx).mono ?_
    rintro e w2 ⟨a', m, c', rfl, hm, ho, hb⟩
    have B2 : Hid (Below w.heap.size w w2) := hb
    have O2 : Hid (IOwn w2 w.heap.size w2.heap.size (.slice a' m c') (reachV (lplain rs) (x : Int))) := by
      show IOwn _ _ _ _ _
      unfold reachV
      rw [F.out]
      exact iOwn_of ho (reach_wf (by have := HG.out.few; omega)) (by omega)
    clear ho hb
    go_wp2
    go_ret2
    exact ⟨_, by rw [F.out]; rfl, O2.out, B2.out⟩


end Go.Proofs.Ytkondmnkmbdncaa.Glc
