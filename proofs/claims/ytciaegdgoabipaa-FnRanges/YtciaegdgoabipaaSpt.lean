/-
  Contracts of the model's l2Put and PutRow.
-/
import Derived.Test.YtciaegdgoabipaaItd
import Derived.Test.YtciaegdgoabipaaApp
namespace Go.Proofs.Ytciaegdgoabipaa.Spt
open Go.RowKit
open Go.Proofs.Ytciaegdgoabipaa.Frame Go.Proofs.Ytciaegdgoabipaa.Mem Go.Proofs.Ytciaegdgoabipaa.Vals Go.Proofs.Ytciaegdgoabipaa.Rws Go.Proofs.Ytciaegdgoabipaa.Val Go.Proofs.Ytciaegdgoabipaa.Tab Go.Proofs.Ytciaegdgoabipaa.Reg Go.Proofs.Ytciaegdgoabipaa.Gtab Go.Proofs.Ytciaegdgoabipaa.Cpy Go.Proofs.Ytciaegdgoabipaa.Own Go.Proofs.Ytciaegdgoabipaa.Drp Go.Proofs.Ytciaegdgoabipaa.Tel Go.Proofs.Ytciaegdgoabipaa.Find Go.Proofs.Ytciaegdgoabipaa.Shf Go.Proofs.Ytciaegdgoabipaa.Icp Go.Proofs.Ytciaegdgoabipaa.Shl Go.Proofs.Ytciaegdgoabipaa.Pur Go.Proofs.Ytciaegdgoabipaa.Itb

theorem ins_cut {r : RowV} {ds : List RowV} (k : Nat) (h1 : ∀ q ∈ ds.take k, q.key < r.key) (h2 : k < ds.length → r.key < (ds.getD k rd).key) : insR r ds = ds.take k ++ r :: ds.drop k := by
  induction ds generalizing k with
  | nil => simp [insR]
  | cons q ds ih =>
    cases k with
    | zero =>
      have := h2 (by simp)
      simp only [List.getD_cons_zero] at this
      rw [insR, if_pos this]
      rfl
    | succ k =>
      have h0 := h1 q (by simp)
      rw [insR, if_neg (by omega), ih k (fun s hs => h1 s (by simp [hs])) (fun hk => by have := h2 (by simpa using hk); simpa using this)]
      rfl

theorem rcells_one (rs : List RowV) : ∀ u ∈ rcells rs, u.oneCell' = true := by
  intro u hu
  unfold rcells at hu
  rcases List.mem_flatMap.1 hu with ⟨r, _, h⟩
  simp only [rcell, List.mem_cons, List.not_mem_nil, or_false] at h
  rcases h with rfl | rfl <;> rfl

theorem rows_news {w : World} {b off n cap : Nat} {rs : List RowV} (h : IsRows w (some ⟨b, off, none⟩) n cap rs) (hn : 0 < n) : ∀ j u, (rcells rs)[j]? = some u → w.cell? ((⟨b, off, none⟩ : Addr).add j) = some u := by
  intro j u hu
  obtain ⟨b', off', he, _, hc⟩ := h.cells hn
  cases he
  have hl : j < rs.length * 2 := by
    by_cases hx : j < rs.length * 2
    · exact hx
    · rw [List.getElem?_eq_none (by rw [rcells_length]; omega)] at hu; cases hu
  have hadd : (⟨b, off, none⟩ : Addr).add j = ⟨b, off + j, none⟩ := by unfold Addr.add; split <;> simp_all
  rw [hadd]
  have hi : j / 2 < rs.length := by omega
  have g := rcells_get rs (j / 2) hi
  have c := hc (j / 2) (by rw [← h.len]; exact hi)
  rcases Nat.mod_two_eq_zero_or_one j with h0 | h0
  · rw [show j / 2 * 2 = j by omega] at g c
    rw [g.1] at hu
    rw [c.1]; exact hu
  · rw [show j / 2 * 2 + 1 = j by omega] at g
    rw [show off + j / 2 * 2 + 1 = off + j by omega] at c
    rw [g.2] at hu
    rw [c.2]; exact hu

theorem rcells_split (ds : List RowV) (k : Nat) : rcells ds = rcells (ds.take k) ++ rcells (ds.drop k) := by rw [← rcells_append, List.take_append_drop]

theorem rcells_take_get {ds : List RowV} {k j : Nat} {u : Value} (h : (rcells (ds.take k))[j]? = some u) : (rcells ds)[j]? = some u := by
  rw [rcells_split ds k, List.getElem?_append_left]
  · exact h
  · by_cases hx : j < (rcells (ds.take k)).length
    · exact hx
    · rw [List.getElem?_eq_none (by omega)] at h; cases h

theorem rows_drop_news {w w' : World} {b off l k : Nat} {ds : List RowV} (hl : ds.length = l) (hk : k ≤ l) (hb : b < w.heap.size) (h : ∀ i u, (rcells ds)[i]? = some u → w.cell? ((⟨b, off, none⟩ : Addr).add i) = some u) (hw : Below w.heap.size w w') :
    ∀ i u, (rcells (ds.drop k))[i]? = some u → w'.cell? ((⟨b, off + k * 2, none⟩ : Addr).add i) = some u := by
  intro i u hu
  have hadd : ∀ o i, (⟨b, o, none⟩ : Addr).add i = ⟨b, o + i, none⟩ := fun o i => by unfold Addr.add; split <;> simp_all
  have h1 := h (k * 2 + i) u (by
    rw [rcells_split ds k, List.getElem?_append_right (by rw [rcells_length, List.length_take]; omega), rcells_length, List.length_take]
    rw [show k * 2 + i - min k ds.length * 2 = i by omega]
    exact hu)
  rw [hadd] at h1 ⊢
  rw [hw.cell (p := ⟨b, off + k * 2 + i, none⟩) hb, Nat.add_assoc]
  exact h1

theorem put_end {w w1 w3 w4 : World} {a3 a4 : Option Addr} {c3 c4 k m : Nat} {rs ds : List RowV} {key : Int} {ra : Option Addr} {rn rc : Nat} {vs : List (Bool × Int)}
    (hp : putK ⟨key, ra, rn, rc, vs⟩ rs = insR ⟨key, ra, rn, rc, vs⟩ ds) (hf : insR ⟨key, ra, rn, rc, vs⟩ ds = ds.take k ++ ⟨key, ra, rn, rc, vs⟩ :: ds.drop k)
    (hrows : ∀ q ∈ ds, (Lit.int .i64 q.key).wf = true ∧ IsVals w1 q.a q.n q.c q.vs) (hw : (Lit.int .i64 key).wf = true) (hr : IsVals w ra rn rc vs) (hb1 : Below w.heap.size w w1) (hb3 : Below w1.heap.size w1 w3)
    (ho3 : w3.ownsRow w1.heap.size 26 2 (.slice a3 (k + 1) c3) (k + 1) (rcells (ds.take k) ++ rcells [⟨key, ra, rn, rc, vs⟩]))
    (ho4 : w4.ownsRow w1.heap.size 26 2 (.slice a4 (k + 1 + m) c4) (k + 1 + m) (rcells (ds.take k) ++ (rcells [⟨key, ra, rn, rc, vs⟩] ++ rcells (ds.drop k)))) (hg : w3.grownBy w4 (Value.slice a3 (k + 1) c3).ownBlock) :
    IsRows w4 a4 (k + 1 + m) c4 (putK ⟨key, ra, rn, rc, vs⟩ rs) ∧ Below w.heap.size w w4 := by
  have hb4 : Below w1.heap.size w1 w4 := below_append hb3 ho3 hg hb3.size
  have hbw : Below w.heap.size w w4 := Frame.next hb1 hb4 hb1.size
  refine ⟨?_, hbw⟩
  rw [hp, hf]
  refine isRows_outer (base := w1.heap.size) ?_ (fun q hq => ?_)
  · rw [show ds.take k ++ (⟨key, ra, rn, rc, vs⟩ : RowV) :: ds.drop k = ds.take k ++ [⟨key, ra, rn, rc, vs⟩] ++ ds.drop k by simp, rcells_append, rcells_append, List.append_assoc]
    exact ho4
  · rcases List.mem_append.1 hq with h | h
    · exact ⟨(hrows q (List.mem_of_mem_take h)).1, (hrows q (List.mem_of_mem_take h)).2.below hb4⟩
    · rcases List.mem_cons.1 h with rfl | h
      · exact ⟨hw, hr.below hbw⟩
      · exact ⟨(hrows q (List.mem_of_mem_drop h)).1, (hrows q (List.mem_of_mem_drop h)).2.below hb4⟩

set_option maxRecDepth 100000 in
set_option maxHeartbeats 1000000 in
theorem spec_l2Put (a : Option Addr) (n cap : Nat) (rs : List RowV) (key : Int) (ra : Option Addr) (rn rc : Nat) (vs : List (Bool × Int)) (w : World) (h : IsRows w a n cap rs) (hn : n ≤ 1000) (hk : (Lit.int .i64 key).wf = true) (hr : IsVals w ra rn rc vs) :
    Calls Try.prog 51 #[.slice a n cap, .agg #[.int .i64 key, .slice ra rn rc]] w fun e w' => ∃ a' m c', e = .returned (.slice a' m c') ∧ IsRows w' a' m c' (putK ⟨key, ra, rn, rc, vs⟩ rs) ∧ Below w.heap.size w w' := by
  obtain ⟨i0, hi, hz0, hz1, hz2⟩ := info_parts infoR
  have HI : Hid (IsRows w a n cap rs) := h
  have HR : Hid (IsVals w ra rn rc vs) := hr
  have HW : Hid ((Lit.int .i64 key).wf = true) := hk
  have B0 : Hid (Below w.heap.size w (w.alloc (.cells #[.int .i64 key, .slice ra rn rc] 26))) := (Below.refl _ _).alloc (Nat.le_refl _) _
  have HL : Hid (rs.length = n) := h.len
  clear h hr hk
  go_enter Try.func51, Try.ntmps51
  go_wp2_with fail
  refine (spec_l2Drop a n cap rs key _ (HI.out.below B0.out) (by omega)).mono ?_
  rintro e w1 ⟨a1, c1, rfl, ho1, hr1, hb1⟩
  have HD : Hid (∀ q ∈ dropK key rs, q.key ≠ key) := fun q hq => by simpa using (List.mem_filter.1 hq).2
  have hle : (dropK key rs).length ≤ 1000 := Nat.le_trans (dropK_le _ _) (by rw [HL.out]; exact hn)
  have HPK : Hid (putK ⟨key, ra, rn, rc, vs⟩ rs = insR ⟨key, ra, rn, rc, vs⟩ (dropK key rs)) := rfl
  generalize dropK key rs = ds at ho1 hr1 HD hle HPK
  obtain ⟨l, hll⟩ : ∃ l, ds.length = l := ⟨_, rfl⟩
  have HLL : Hid (ds.length = l) := hll
  rw [hll] at ho1 hr1 hle ⊢
  have HRW : Hid (∀ q ∈ ds, (Lit.int .i64 q.key).wf = true ∧ IsVals w1 q.a q.n q.c q.vs) := hr1.rows
  have hcl := hr1.fits
  have hcm := hr1.max
  unfold maxLen at hcm
  have HI1 : Hid (IsRows w1 a1 l c1 ds) := hr1
  have HB1 : Hid (Below w.heap.size w w1) := Frame.next B0.out hb1 B0.out.size
  have hs1 : w.heap.size + 1 ≤ w1.heap.size := by simpa using hb1.size
  have C : Hid (w1.cell? ⟨w.heap.size, 0, none⟩ = some (.int .i64 key) ∧ w1.cell? ⟨w.heap.size, 1, none⟩ = some (.slice ra rn rc)) := ⟨by rw [hb1.cell (p := ⟨w.heap.size, 0, none⟩) (by simp), World.cell?_alloc_at _ _ _ _ rfl]; rfl, by rw [hb1.cell (p := ⟨w.heap.size, 1, none⟩) (by simp), World.cell?_alloc_at _ _ _ _ rfl]; rfl⟩
  clear ho1 hr1 hb1 hll
  go_wp2_with fail
  go_loopw [5] (fun i wr => ∃ k : Nat, k ≤ l ∧ i = .int .i64 k ∧ (∀ q ∈ ds.take k, q.key < key) ∧ ∃ j, wr = w1.drewN j) (fun i _ => l - (intOf i).toNat)
  case atStart => exact ⟨0, Nat.zero_le _, rfl, by simp, 0, rfl⟩
  case round =>
    obtain ⟨k, hk, rfl, hall, j, rfl⟩ := hrel
    have Hall : Hid (∀ q ∈ ds.take k, q.key < key) := hall
    clear hall
    obtain ⟨q0, q1⟩ := C.out
    by_cases hlt : k < l
    · have hkl : k < ds.length := by rw [HLL.out]; exact hlt
      obtain ⟨b, off, rfl, hbl, hc⟩ := HI1.out.cells (by omega)
      have p0 : w1.cell? ⟨b, off + k * 2, none⟩ = some (.int .i64 (ds.getD k rd).key) := (hc k hlt).1
      have HNE : Hid ((ds.getD k rd).key ≠ key) := HD.out _ (getD_mem_rd hkl)
      have HT : Hid ((ds.getD k rd).key < key → ∀ q ∈ ds.take (k + 1), q.key < key) := fun e q hq => by
        rw [take_succ_rd hkl] at hq
        rcases List.mem_append.1 hq with h | h
        · exact Hall.out q h
        · rw [List.mem_singleton.1 h]; exact e
      have HC2 : Hid (key < (ds.getD k rd).key → insR ⟨key, ra, rn, rc, vs⟩ ds = ds.take k ++ ⟨key, ra, rn, rc, vs⟩ :: ds.drop k) := fun e => ins_cut k Hall.out (fun _ => e)
      generalize (ds.getD k rd).key = qk at p0 HNE HT HC2
      have hkI : decide ((k : Int) < (l : Int)) = true := decide_eq_true (by omega)
      have hk0 : (0 : Int) ≤ (k : Int) := by omega
      have hk1 : (k : Int) < (l : Int) := by omega
      clear hc
      by_cases hq : qk < key
      · have F : Hid (∀ q ∈ ds.take (k + 1), q.key < key) := HT.out hq
        have hqd : decide (qk < key) = true := decide_eq_true hq
        clear HT HC2 hq
        go_wp2_with fail
        go_quiet (fail)
        go_wp2
        go_roundw
        case rel => exact ⟨k + 1, by omega, by go_num, F.out, _, rfl⟩
        case measure => simp [intOf]; omega
      · have F : Hid (insR ⟨key, ra, rn, rc, vs⟩ ds = ds.take k ++ ⟨key, ra, rn, rc, vs⟩ :: ds.drop k) := HC2.out (by have := HNE.out; omega)
        have hqd : decide (qk < key) = false := decide_eq_false hq
        clear HT HC2 hq HNE
        go_wp2_with fail
        go_quiet (fail)
        have HBW : Hid (Below w.heap.size w (w1.drewN (j + nq))) := below_drewN HB1.out _
        have HNW : Hid (∀ i u, (rcells ds)[i]? = some u → (w1.drewN (j + nq)).cell? ((⟨b, off, none⟩ : Addr).add i) = some u) := rows_news (HI1.out.below (below_drewN (Below.refl _ _) _)) (by omega)
        have O0 : Hid (((w1.drewN (j + nq)).alloc (.cells #[] 26)).ownsRow w1.heap.size 26 2 (.slice (some ⟨w1.heap.size, 0, none⟩) 0 0) 0 []) := own_empty (w1.drewN (j + nq)) w1.heap.size _ 2 _ rfl (Nat.le_refl _)
        have BD : Hid (Below w1.heap.size w1 ((w1.drewN (j + nq)).alloc (.cells #[] 26))) := (below_drewN (Below.refl _ _) _).alloc (Nat.le_refl _) _
        have S1 : Hid (0 < k → ∃ ad, (some ⟨b, off, none⟩ : Option Addr) = some ad ∧ ∀ i u, (rcells (ds.take k))[i]? = some u → ((w1.drewN (j + nq)).alloc (.cells #[] 26)).cell? (ad.add i) = some u) := fun _ => ⟨_, rfl, fun i u hu => news_below HNW.out hbl ((Below.refl _ _).alloc (Nat.le_refl _) _) i u (rcells_take_get hu)⟩
        have L1 : Hid ((rcells (ds.take k)).length = k * 2) := by show _ = _; rw [rcells_length, List.length_take, HLL.out]; omega
        go_wp2_with (at_builtin; refine App.wpList_append_all _ rfl _ _ 23 rfl w1.heap.size 26 i0 (.agg #[.int .i64 0, .slice none 0 0]) 2 32 Try.underlying23 hi hz0 hz1 hz2 rfl (by decide) _ _ _ rfl O0.out _ k _ (rcells (ds.take k)) rfl L1.out S1.out (rcells_one _) ?x1 ?x2 BD.out.size ?_)
        case x1 => unfold maxLen; omega
        case x2 => omega
        intro a2 c2 w2 hown2 hgrow2
        have O2 : Hid (w2.ownsRow w1.heap.size 26 2 (.slice a2 k c2) k (rcells (ds.take k))) := hown2
        have B2 : Hid (Below w1.heap.size w1 w2) := below_append BD.out O0.out hgrow2 BD.out.size
        have hs2 := B2.out.size
        have q2 : w2.cell? ⟨w.heap.size, 0, none⟩ = some (.int .i64 key) := (B2.out.cell (p := ⟨w.heap.size, 0, none⟩) (by show w.heap.size < _; omega)).trans C.out.1
        have q3 : w2.cell? ⟨w.heap.size, 1, none⟩ = some (.slice ra rn rc) := (B2.out.cell (p := ⟨w.heap.size, 1, none⟩) (by show w.heap.size < _; omega)).trans C.out.2
        have O2a : Hid ((w2.alloc (.cells #[.int .i64 key, .slice ra rn rc] 26)).ownsRow w1.heap.size 26 2 (.slice a2 k c2) k (rcells (ds.take k))) := own_below O2.out ((Below.refl _ _).alloc (Nat.le_refl _) _)
        have B2a : Hid (Below w1.heap.size w1 (w2.alloc (.cells #[.int .i64 key, .slice ra rn rc] 26))) := B2.out.alloc hs2 _
        have S2 : Hid (0 < 1 → ∃ ad, (some ⟨w2.heap.size, 0, none⟩ : Option Addr) = some ad ∧ ∀ i u, (rcells [⟨key, ra, rn, rc, vs⟩])[i]? = some u → (w2.alloc (.cells #[.int .i64 key, .slice ra rn rc] 26)).cell? (ad.add i) = some u) := fun _ => ⟨_, rfl, World.news_of_block (heap_alloc_new w2 _)⟩
        clear hown2 hgrow2
        go_wp2_with (at_builtin; refine App.wpList_append_all _ rfl _ _ 23 rfl w1.heap.size 26 i0 (.agg #[.int .i64 0, .slice none 0 0]) 2 32 Try.underlying23 hi hz0 hz1 hz2 rfl (by decide) _ _ _ rfl O2a.out _ 1 _ (rcells [⟨key, ra, rn, rc, vs⟩]) rfl rfl S2.out (rcells_one _) ?y1 ?y2 B2a.out.size ?_)
        case y1 => unfold maxLen; omega
        case y2 => omega
        intro a3 c3 w3 hown3 hgrow3
        have O3 : Hid (w3.ownsRow w1.heap.size 26 2 (.slice a3 (k + 1) c3) (k + 1) (rcells (ds.take k) ++ rcells [⟨key, ra, rn, rc, vs⟩])) := hown3
        have B3 : Hid (Below w1.heap.size w1 w3) := below_append B2a.out O2a.out hgrow3 B2a.out.size
        have S3 : Hid (0 < l - k → ∃ ad, (some ⟨b, off + k * 2, none⟩ : Option Addr) = some ad ∧ ∀ i u, (rcells (ds.drop k))[i]? = some u → w3.cell? (ad.add i) = some u) := fun _ => ⟨_, rfl, rows_drop_news HLL.out (by omega) hbl (rows_news HI1.out (by omega)) B3.out⟩
        have L3 : Hid ((rcells (ds.drop k)).length = (l - k) * 2) := by show _ = _; rw [rcells_length, List.length_drop, HLL.out]
        clear hown3 hgrow3 q2 q3
        go_wp2_with (at_builtin; refine App.wpList_append_all _ rfl _ _ 23 rfl w1.heap.size 26 i0 (.agg #[.int .i64 0, .slice none 0 0]) 2 32 Try.underlying23 hi hz0 hz1 hz2 rfl (by decide) _ _ _ rfl O3.out _ (l - k) _ (rcells (ds.drop k)) rfl L3.out S3.out (rcells_one _) ?z1 ?z2 B3.out.size ?_)
        case z1 => unfold maxLen; omega
        case z2 => omega
        intro a4 c4 w4 hown4 hgrow4
        have HF : Hid (IsRows w4 a4 (k + 1 + (l - k)) c4 (putK ⟨key, ra, rn, rc, vs⟩ rs) ∧ Below w.heap.size w w4) := put_end HPK.out F.out HRW.out HW.out HR.out HB1.out B3.out O3.out hown4 hgrow4
        clear hown4 hgrow4
        go_wp2
        go_ret
        exact ⟨_, _, _, rfl, HF.out.1, HF.out.2⟩
    · obtain rfl : k = l := by omega
      have F : Hid (insR ⟨key, ra, rn, rc, vs⟩ ds = ds.take k ++ ⟨key, ra, rn, rc, vs⟩ :: ds.drop k) := ins_cut k Hall.out (fun e => absurd e (by rw [HLL.out]; omega))
      have hkI : decide ((k : Int) < (k : Int)) = false := decide_eq_false (by omega)
      by_cases h0 : k = 0
      · subst h0
        obtain rfl : ds = [] := List.eq_nil_of_length_eq_zero HLL.out
        cases a1 with
        | none =>
          go_wp2_with fail
          go_quiet (fail)
          have O0 : Hid (((w1.drewN (j + nq)).alloc (.cells #[] 26)).ownsRow w1.heap.size 26 2 (.slice (some ⟨w1.heap.size, 0, none⟩) 0 0) 0 []) := own_empty (w1.drewN (j + nq)) w1.heap.size _ 2 _ rfl (Nat.le_refl _)
          have BD : Hid (Below w1.heap.size w1 ((w1.drewN (j + nq)).alloc (.cells #[] 26))) := (below_drewN (Below.refl _ _) _).alloc (Nat.le_refl _) _
          have q2 : ∀ o, ((w1.drewN (j + nq)).alloc o).cell? ⟨w.heap.size, 0, none⟩ = some (.int .i64 key) := fun o => alloc_cell C.out.1 o
          have q3 : ∀ o, ((w1.drewN (j + nq)).alloc o).cell? ⟨w.heap.size, 1, none⟩ = some (.slice ra rn rc) := fun o => alloc_cell C.out.2 o
          have O1 : Hid ((((w1.drewN (j + nq)).alloc (.cells #[] 26)).alloc (.cells #[.int .i64 key, .slice ra rn rc] 26)).ownsRow w1.heap.size 26 2 (.slice (some ⟨w1.heap.size, 0, none⟩) 0 0) 0 []) := own_below O0.out ((Below.refl _ _).alloc (Nat.le_refl _) _)
          have B1 : Hid (Below w1.heap.size w1 (((w1.drewN (j + nq)).alloc (.cells #[] 26)).alloc (.cells #[.int .i64 key, .slice ra rn rc] 26))) := BD.out.alloc BD.out.size _
          have S2 : Hid (0 < 1 → ∃ ad, (some ⟨w1.heap.size + 1, 0, none⟩ : Option Addr) = some ad ∧ ∀ i u, (rcells [⟨key, ra, rn, rc, vs⟩])[i]? = some u → (((w1.drewN (j + nq)).alloc (.cells #[] 26)).alloc (.cells #[.int .i64 key, .slice ra rn rc] 26)).cell? (ad.add i) = some u) := fun _ => ⟨_, rfl, by
            have := World.news_of_block (heap_alloc_new ((w1.drewN (j + nq)).alloc (.cells #[] 26)) (.cells #[.int .i64 key, .slice ra rn rc] 26))
            simpa [rcells, rcell] using this⟩
          go_wp2_with (at_builtin; refine App.wpList_append_all _ rfl _ _ 23 rfl w1.heap.size 26 i0 (.agg #[.int .i64 0, .slice none 0 0]) 2 32 Try.underlying23 hi hz0 hz1 hz2 rfl (by decide) _ _ _ rfl O1.out _ 1 _ (rcells [⟨key, ra, rn, rc, vs⟩]) rfl rfl S2.out (rcells_one _) (by unfold maxLen; omega) (by omega) B1.out.size ?_)
          intro a3 c3 w3 hown3 hgrow3
          have O3 : Hid (w3.ownsRow w1.heap.size 26 2 (.slice a3 (0 + 1) c3) (0 + 1) (rcells (([] : List RowV).take 0) ++ rcells [⟨key, ra, rn, rc, vs⟩])) := hown3
          have B3 : Hid (Below w1.heap.size w1 w3) := below_append B1.out O1.out hgrow3 B1.out.size
          clear hown3 hgrow3 q2 q3
          go_wp2_with (at_builtin; refine App.wpList_append_all _ rfl _ _ 23 rfl w1.heap.size 26 i0 (.agg #[.int .i64 0, .slice none 0 0]) 2 32 Try.underlying23 hi hz0 hz1 hz2 rfl (by decide) _ _ _ rfl O3.out _ 0 _ [] rfl rfl (fun h => absurd h (by omega)) (by simp) (by unfold maxLen; omega) (by omega) B3.out.size ?_)
          all_goals
            intro a4 c4 w4 hown4 hgrow4
            have HF : Hid (IsRows w4 a4 (0 + 1 + 0) c4 (putK ⟨key, ra, rn, rc, vs⟩ rs) ∧ Below w.heap.size w w4) := put_end HPK.out F.out HRW.out HW.out HR.out HB1.out B3.out O3.out hown4 hgrow4
            clear hown4 hgrow4
            go_wp2
            go_ret
            exact ⟨_, _, _, rfl, HF.out.1, HF.out.2⟩
        | some ad =>
          go_wp2_with fail
          go_quiet (fail)
          have O0 : Hid (((w1.drewN (j + nq)).alloc (.cells #[] 26)).ownsRow w1.heap.size 26 2 (.slice (some ⟨w1.heap.size, 0, none⟩) 0 0) 0 []) := own_empty (w1.drewN (j + nq)) w1.heap.size _ 2 _ rfl (Nat.le_refl _)
          have BD : Hid (Below w1.heap.size w1 ((w1.drewN (j + nq)).alloc (.cells #[] 26))) := (below_drewN (Below.refl _ _) _).alloc (Nat.le_refl _) _
          have q2 : ∀ o, ((w1.drewN (j + nq)).alloc o).cell? ⟨w.heap.size, 0, none⟩ = some (.int .i64 key) := fun o => alloc_cell C.out.1 o
          have q3 : ∀ o, ((w1.drewN (j + nq)).alloc o).cell? ⟨w.heap.size, 1, none⟩ = some (.slice ra rn rc) := fun o => alloc_cell C.out.2 o
          have O1 : Hid ((((w1.drewN (j + nq)).alloc (.cells #[] 26)).alloc (.cells #[.int .i64 key, .slice ra rn rc] 26)).ownsRow w1.heap.size 26 2 (.slice (some ⟨w1.heap.size, 0, none⟩) 0 0) 0 []) := own_below O0.out ((Below.refl _ _).alloc (Nat.le_refl _) _)
          have B1 : Hid (Below w1.heap.size w1 (((w1.drewN (j + nq)).alloc (.cells #[] 26)).alloc (.cells #[.int .i64 key, .slice ra rn rc] 26))) := BD.out.alloc BD.out.size _
          have S2 : Hid (0 < 1 → ∃ ad, (some ⟨w1.heap.size + 1, 0, none⟩ : Option Addr) = some ad ∧ ∀ i u, (rcells [⟨key, ra, rn, rc, vs⟩])[i]? = some u → (((w1.drewN (j + nq)).alloc (.cells #[] 26)).alloc (.cells #[.int .i64 key, .slice ra rn rc] 26)).cell? (ad.add i) = some u) := fun _ => ⟨_, rfl, by
            have := World.news_of_block (heap_alloc_new ((w1.drewN (j + nq)).alloc (.cells #[] 26)) (.cells #[.int .i64 key, .slice ra rn rc] 26))
            simpa [rcells, rcell] using this⟩
          go_wp2_with (at_builtin; refine App.wpList_append_all _ rfl _ _ 23 rfl w1.heap.size 26 i0 (.agg #[.int .i64 0, .slice none 0 0]) 2 32 Try.underlying23 hi hz0 hz1 hz2 rfl (by decide) _ _ _ rfl O1.out _ 1 _ (rcells [⟨key, ra, rn, rc, vs⟩]) rfl rfl S2.out (rcells_one _) (by unfold maxLen; omega) (by omega) B1.out.size ?_)
          intro a3 c3 w3 hown3 hgrow3
          have O3 : Hid (w3.ownsRow w1.heap.size 26 2 (.slice a3 (0 + 1) c3) (0 + 1) (rcells (([] : List RowV).take 0) ++ rcells [⟨key, ra, rn, rc, vs⟩])) := hown3
          have B3 : Hid (Below w1.heap.size w1 w3) := below_append B1.out O1.out hgrow3 B1.out.size
          clear hown3 hgrow3 q2 q3
          go_wp2_with (at_builtin; refine App.wpList_append_all _ rfl _ _ 23 rfl w1.heap.size 26 i0 (.agg #[.int .i64 0, .slice none 0 0]) 2 32 Try.underlying23 hi hz0 hz1 hz2 rfl (by decide) _ _ _ rfl O3.out _ 0 _ [] rfl rfl (fun h => absurd h (by omega)) (by simp) (by unfold maxLen; omega) (by omega) B3.out.size ?_)
          all_goals
            intro a4 c4 w4 hown4 hgrow4
            have HF : Hid (IsRows w4 a4 (0 + 1 + 0) c4 (putK ⟨key, ra, rn, rc, vs⟩ rs) ∧ Below w.heap.size w w4) := put_end HPK.out F.out HRW.out HW.out HR.out HB1.out B3.out O3.out hown4 hgrow4
            clear hown4 hgrow4
            go_wp2
            go_ret
            exact ⟨_, _, _, rfl, HF.out.1, HF.out.2⟩
      · obtain ⟨b, off, rfl, hbl, hc⟩ := HI1.out.cells (by omega)
        go_wp2_with fail
        go_quiet (fail)
        have HBW : Hid (Below w.heap.size w (w1.drewN (j + nq))) := below_drewN HB1.out _
        have O0 : Hid (((w1.drewN (j + nq)).alloc (.cells #[] 26)).ownsRow w1.heap.size 26 2 (.slice (some ⟨w1.heap.size, 0, none⟩) 0 0) 0 []) := own_empty (w1.drewN (j + nq)) w1.heap.size _ 2 _ rfl (Nat.le_refl _)
        have BD : Hid (Below w1.heap.size w1 ((w1.drewN (j + nq)).alloc (.cells #[] 26))) := (below_drewN (Below.refl _ _) _).alloc (Nat.le_refl _) _
        have S1 : Hid (0 < k → ∃ ad, (some ⟨b, off, none⟩ : Option Addr) = some ad ∧ ∀ i u, (rcells (ds.take k))[i]? = some u → ((w1.drewN (j + nq)).alloc (.cells #[] 26)).cell? (ad.add i) = some u) := fun _ => ⟨_, rfl, fun i u hu => news_below (rows_news (HI1.out.below (below_drewN (Below.refl _ _) _)) (by omega)) hbl ((Below.refl _ _).alloc (Nat.le_refl _) _) i u (rcells_take_get hu)⟩
        have L1 : Hid ((rcells (ds.take k)).length = k * 2) := by show _ = _; rw [rcells_length, List.length_take, HLL.out]; omega
        go_wp2_with (at_builtin; refine App.wpList_append_all _ rfl _ _ 23 rfl w1.heap.size 26 i0 (.agg #[.int .i64 0, .slice none 0 0]) 2 32 Try.underlying23 hi hz0 hz1 hz2 rfl (by decide) _ _ _ rfl O0.out _ k _ (rcells (ds.take k)) rfl L1.out S1.out (rcells_one _) ?x1 ?x2 BD.out.size ?_)
        case x1 => unfold maxLen; omega
        case x2 => omega
        intro a2 c2 w2 hown2 hgrow2
        have O2 : Hid (w2.ownsRow w1.heap.size 26 2 (.slice a2 k c2) k (rcells (ds.take k))) := hown2
        have B2 : Hid (Below w1.heap.size w1 w2) := below_append BD.out O0.out hgrow2 BD.out.size
        have hs2 := B2.out.size
        have q2 : w2.cell? ⟨w.heap.size, 0, none⟩ = some (.int .i64 key) := (B2.out.cell (p := ⟨w.heap.size, 0, none⟩) (by show w.heap.size < _; omega)).trans C.out.1
        have q3 : w2.cell? ⟨w.heap.size, 1, none⟩ = some (.slice ra rn rc) := (B2.out.cell (p := ⟨w.heap.size, 1, none⟩) (by show w.heap.size < _; omega)).trans C.out.2
        have O2a : Hid ((w2.alloc (.cells #[.int .i64 key, .slice ra rn rc] 26)).ownsRow w1.heap.size 26 2 (.slice a2 k c2) k (rcells (ds.take k))) := own_below O2.out ((Below.refl _ _).alloc (Nat.le_refl _) _)
        have B2a : Hid (Below w1.heap.size w1 (w2.alloc (.cells #[.int .i64 key, .slice ra rn rc] 26))) := B2.out.alloc hs2 _
        have S2 : Hid (0 < 1 → ∃ ad, (some ⟨w2.heap.size, 0, none⟩ : Option Addr) = some ad ∧ ∀ i u, (rcells [⟨key, ra, rn, rc, vs⟩])[i]? = some u → (w2.alloc (.cells #[.int .i64 key, .slice ra rn rc] 26)).cell? (ad.add i) = some u) := fun _ => ⟨_, rfl, World.news_of_block (heap_alloc_new w2 _)⟩
        clear hown2 hgrow2
        go_wp2_with (at_builtin; refine App.wpList_append_all _ rfl _ _ 23 rfl w1.heap.size 26 i0 (.agg #[.int .i64 0, .slice none 0 0]) 2 32 Try.underlying23 hi hz0 hz1 hz2 rfl (by decide) _ _ _ rfl O2a.out _ 1 _ (rcells [⟨key, ra, rn, rc, vs⟩]) rfl rfl S2.out (rcells_one _) ?y1 ?y2 B2a.out.size ?_)
        case y1 => unfold maxLen; omega
        case y2 => omega
        intro a3 c3 w3 hown3 hgrow3
        have O3 : Hid (w3.ownsRow w1.heap.size 26 2 (.slice a3 (k + 1) c3) (k + 1) (rcells (ds.take k) ++ rcells [⟨key, ra, rn, rc, vs⟩])) := hown3
        have B3 : Hid (Below w1.heap.size w1 w3) := below_append B2a.out O2a.out hgrow3 B2a.out.size
        have S3 : Hid (∀ sp : Option Addr, 0 < 0 → ∃ ad, sp = some ad ∧ ∀ i u, (rcells (ds.drop k))[i]? = some u → w3.cell? (ad.add i) = some u) := fun _ h => absurd h (by omega)
        have L3 : Hid ((rcells (ds.drop k)).length = 0 * 2) := by show _ = _; rw [rcells_length, List.length_drop, HLL.out, Nat.sub_self]
        clear hown3 hgrow3 q2 q3
        go_wp2_with (at_builtin; refine App.wpList_append_all _ rfl _ _ 23 rfl w1.heap.size 26 i0 (.agg #[.int .i64 0, .slice none 0 0]) 2 32 Try.underlying23 hi hz0 hz1 hz2 rfl (by decide) _ _ _ rfl O3.out _ 0 _ (rcells (ds.drop k)) rfl L3.out (S3.out _) (rcells_one _) (by unfold maxLen; omega) (by omega) B3.out.size ?_)
        all_goals
          intro a4 c4 w4 hown4 hgrow4
          have HF : Hid (IsRows w4 a4 (k + 1 + 0) c4 (putK ⟨key, ra, rn, rc, vs⟩ rs) ∧ Below w.heap.size w w4) := put_end HPK.out F.out HRW.out HW.out HR.out HB1.out B3.out O3.out hown4 hgrow4
          clear hown4 hgrow4
          go_wp2
          go_ret
          exact ⟨_, _, _, rfl, HF.out.1, HF.out.2⟩


end Go.Proofs.Ytciaegdgoabipaa.Spt
