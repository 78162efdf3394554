/-
  Contracts of the program's onceEach: of numbers and of tuples.
-/
import Derived.Test.YtkondmnkmbdncaaOc
namespace Go.Proofs.Ytkondmnkmbdncaa.Od
open Go.RowKit
open Go.Proofs.Ytkondmnkmbdncaa.Frame Go.Proofs.Ytkondmnkmbdncaa.Mem Go.Proofs.Ytkondmnkmbdncaa.Ints Go.Proofs.Ytkondmnkmbdncaa.Kep Go.Proofs.Ytkondmnkmbdncaa.Lls Go.Proofs.Ytkondmnkmbdncaa.Rpu Go.Proofs.Ytkondmnkmbdncaa.Krl Go.Proofs.Ytkondmnkmbdncaa.Oa Go.Proofs.Ytkondmnkmbdncaa.Osr Go.Proofs.Ytkondmnkmbdncaa.Mis Go.Proofs.Ytkondmnkmbdncaa.Oc Go.Proofs.Ytkondmnkmbdncaa.Rel

/-- What has been put by so far: in order, each once, the members of the part that was read. -/
def OnceN (os ys : List Int) : Prop := UpN os ∧ ∀ s, s ∈ os ↔ s ∈ ys
theorem asc_get {ys : List Int} (h : Asc ys) {i j : Nat} (hij : i ≤ j) (hj : j < ys.length) : ys.getD i 0 ≤ ys.getD j 0 := by
  by_cases e : i = j
  · subst e; exact Int.le_refl _
  · have := (List.pairwise_iff_getElem.1 h) i j (by omega) hj (by omega)
    simpa [List.getD, hj, show i < ys.length by omega] using this
theorem once_add {os ys : List Int} {k : Nat} (hk : k < ys.length) (ha : Asc ys) (h : OnceN os (ys.take k)) (hn : k = 0 ∨ ys.getD (k - 1) 0 ≠ ys.getD k 0) : OnceN (os ++ [ys.getD k 0]) (ys.take (k + 1)) := by
  have e : ys.take (k + 1) = ys.take k ++ [ys.getD k 0] := take_succ_getD hk
  refine ⟨?_, fun s => by rw [e, List.mem_append, List.mem_append, h.2 s]⟩
  unfold UpN
  rw [List.pairwise_append]
  refine ⟨h.1, List.pairwise_singleton _ _, fun a hm b hb => ?_⟩
  obtain rfl := List.mem_singleton.1 hb
  have hm' := (h.2 a).1 hm
  obtain ⟨i, hi, rfl⟩ := List.getElem_of_mem hm'
  have hik : i < k := by simp at hi; omega
  have h1 := asc_get ha (i := i) (j := k - 1) (by omega) (by omega)
  have h2 := asc_get ha (i := k - 1) (j := k) (by omega) hk
  have e1 : (ys.take k)[i] = ys.getD i 0 := by simp [List.getD, show i < ys.length by omega]
  rw [e1]
  rcases hn with h0 | h0
  · omega
  · omega
theorem once_skip {os ys : List Int} {k : Nat} (hk : k < ys.length) (h : OnceN os (ys.take k)) (h0 : 0 < k) (hn : ys.getD (k - 1) 0 = ys.getD k 0) : OnceN os (ys.take (k + 1)) := by
  have e : ys.take (k + 1) = ys.take k ++ [ys.getD k 0] := take_succ_getD hk
  refine ⟨h.1, fun s => ?_⟩
  rw [h.2 s, e, List.mem_append]
  constructor
  · exact .inl
  · rintro (hs | hs)
    · exact hs
    · rw [List.mem_singleton.1 hs, ← hn]
      have : (ys.take k).getD (k - 1) 0 = ys.getD (k - 1) 0 := by simp [List.getD, show k - 1 < k by omega]
      rw [← this]
      exact getD_mem (by simp; omega)

set_option maxRecDepth 4000 in
set_option maxHeartbeats 1600000 in
theorem once_int (a : Option Addr) (n ca : Nat) (zs : List Int) (w : World) (h : IsRow .i64 w a n ca zs) (hn : n ≤ 100000) :
    Calls Try.prog 118 #[.slice a n ca, .func (.func 119) #[] #[]] w fun e w' => ∃ a' m c' os, e = .returned (.slice a' m c') ∧ m ≤ n ∧ w'.ownsRow w.heap.size 3 1 (.slice a' m c') m (ints .i64 os) ∧ OnceN os zs ∧ (∀ z ∈ os, (Lit.int .i64 z).wf = true) ∧ Below w.heap.size w w' := by
  obtain ⟨i0, hi, hz0, hz1, hz2⟩ := info_parts Ints.info
  have HR : Hid (IsRow .i64 w a n ca zs) := h
  have HL : Hid (zs.length = n) := h.len
  clear h
  go_enter Try.func118, Try.ntmps118
  go_wp2_with (at_make; refine wpList_make_full _ rfl _ _ 24 rfl w.heap.size 3 i0 (.int .i64 0) 1 Try.underlying24 hi hz0 hz1 _ _ _ _ n rfl rfl rfl rfl ?b2 ?b3 (Nat.le_refl _) ?_)
  case b2 => rw [hz2]; omega
  case b3 => unfold maxLen; omega
  intro w0 hown0 hgrow0
  have B0 : Hid (Below w.heap.size w w0) := below_make (Below.refl _ _) hgrow0 (Nat.le_refl _)
  have O0 : Hid (w0.ownsRow w.heap.size 3 1 (.slice (some ⟨w.heap.size, 0, none⟩) n n) n (madeCells #[Value.int .i64 0] n).toList) := hown0
  have S0 : Hid (0 < n → ∃ ad, a = some ad ∧ ∀ j v, (ints .i64 zs)[j]? = some v → w0.cell? (ad.add j) = some v) := news_row (IsRow.below HR.out B0.out)
  have L0 : Hid ((ints .i64 zs).length = n * 1) := by show _ = _; rw [ints_length, HL.out, Nat.mul_one]
  clear hown0 hgrow0
  go_wp2_with (refine Cop.wpList_copy_all _ rfl (.tmp 12) (.tmp 13) 24 24 rfl 3 1 Try.underlying24 sizeI w.heap.size _ _ n n ca rfl rfl _ (ints .i64 zs) O0.out L0.out S0.out (one_int zs) ?_)
  intro w1 hown1 hgrow1
  have B1 : Hid (Below w.heap.size w w1) := below_app B0.out O0.out hgrow1 B0.out.size (Nat.le_refl _)
  have O1 : Hid (w1.ownsRow w.heap.size 3 1 (.slice (some ⟨w.heap.size, 0, none⟩) n n) n (ints .i64 zs)) := hown1
  clear hown1 hgrow1
  go_wp2_with fail
  refine (sort_ints w.heap.size n n zs w.heap.size _ O1.out (by omega)).mono ?_
  rintro e w2 ⟨ys, rfl, hperm, hasc, hown2, honly2⟩
  have B2 : Hid (Below w.heap.size w w2) := below_touch B1.out honly2 (fun x hx => by cases hx; exact Nat.le_refl _) B1.out.size
  have YL : Hid (ys.length = n) := by show _ = _; rw [hperm.length_eq]; exact HL.out
  have YW : Hid (∀ z ∈ ys, (Lit.int .i64 z).wf = true) := fun z hz => HR.out.wf z (hperm.mem_iff.1 hz)
  have YA : Hid (Asc ys) := hasc
  have YM : Hid (∀ s, s ∈ ys ↔ s ∈ zs) := fun s => hperm.mem_iff
  have Y2 : Hid (IsRow .i64 w2 (some ⟨w.heap.size, 0, none⟩) n n ys) := by
    obtain ⟨a', c', e, hr⟩ := isRow_own hown2 (fun z hz => HR.out.wf z (hperm.mem_iff.1 hz))
    cases e
    exact hr
  have hs2 : w.heap.size < w2.heap.size := (own_block hown2 _ rfl).2
  clear hown2 honly2 hperm hasc
  go_wp2_with (at_make; refine wpList_make_own _ rfl _ _ 24 rfl w2.heap.size 3 i0 (.int .i64 0) 1 Try.underlying24 hi hz0 hz1 _ _ _ n rfl rfl rfl ?d2 ?d3 (Nat.le_refl _) ?_)
  case d2 => rw [hz2]; omega
  case d3 => unfold maxLen; omega
  intro w3 hown3 hgrow3
  have B3 : Hid (Below w2.heap.size w2 w3) := below_make (Below.refl _ _) hgrow3 (Nat.le_refl _)
  have O3 : Hid (w3.ownsRow w2.heap.size 3 1 (.slice (some ⟨w2.heap.size, 0, none⟩) 0 n) 0 []) := hown3
  clear hown3 hgrow3
  go_wp2_with fail
  go_loopw [6, 23] (fun v i wr => ∃ (k m : Nat) (a' : Option Addr) (c' : Nat) (os : List Int), k ≤ n ∧ m ≤ k ∧ i = .int .i64 k ∧ v = .slice a' m c' ∧ wr.ownsRow w2.heap.size 3 1 (.slice a' m c') m (ints .i64 os) ∧ OnceN os (ys.take k) ∧ Below w2.heap.size w2 wr) (fun _ i _ => n - (intOf i).toNat)
  case atStart => exact ⟨0, 0, _, _, [], Nat.zero_le _, Nat.le_refl _, rfl, rfl, O3.out, ⟨by simp [UpN], by simp⟩, B3.out⟩
  case round =>
    obtain ⟨k, m, a', c', os, hk, hmk, rfl, rfl, ho, honce, hnx⟩ := hrel
    have HO : Hid (wr.ownsRow w2.heap.size 3 1 (.slice a' m c') m (ints .i64 os)) := ho
    have HN : Hid (Below w2.heap.size w2 wr) := hnx
    have HON : Hid (OnceN os (ys.take k)) := honce
    have hsr := hnx.size
    clear ho honce
    by_cases hlt : k < n
    · obtain ⟨b, off, hbe, hbl, hc⟩ := Y2.out.cells (by omega)
      cases hbe
      have hkl : k < ys.length := by rw [YL.out]; exact hlt
      have hck : wr.cell? ⟨w.heap.size, 0 + k, none⟩ = some (.int .i64 (ys.getD k 0)) := by rw [hnx.cell (p := ⟨w.heap.size, 0 + k, none⟩) hbl]; exact hc k hlt
      rw [Nat.zero_add] at hck
      have HADD : Hid (k = 0 ∨ ys.getD (k - 1) 0 ≠ ys.getD k 0 → OnceN (os ++ [ys.getD k 0]) (ys.take (k + 1))) := fun hh => once_add hkl YA.out HON.out hh
      have HSKIP : Hid (0 < k → ys.getD (k - 1) 0 = ys.getD k 0 → OnceN os (ys.take (k + 1))) := fun h0 hh => once_skip hkl HON.out h0 hh
      have hcp : 0 < k → wr.cell? ⟨w.heap.size, k - 1, none⟩ = some (.int .i64 (ys.getD (k - 1) 0)) := fun h0 => by
        have := hc (k - 1) (by omega)
        rw [Nat.zero_add] at this
        rw [hnx.cell (p := ⟨w.heap.size, k - 1, none⟩) hbl]; exact this
      generalize ys.getD k 0 = x at hck HADD HSKIP
      generalize ys.getD (k - 1) 0 = y at hcp HADD HSKIP
      have HO2 : Hid ((wr.alloc (.cells #[.int .i64 x] 3)).ownsRow w2.heap.size 3 1 (.slice a' m c') m (ints .i64 os)) := own_below HO.out ((Below.refl _ _).alloc (Nat.le_refl _) _)
      have HN2 : Hid (Below w2.heap.size w2 (wr.alloc (.cells #[.int .i64 x] 3))) := HN.out.alloc hsr _
      have S2 : Hid (0 < 1 → ∃ ad, (some ⟨wr.heap.size, 0, none⟩ : Option Addr) = some ad ∧ ∀ j u, ([.int .i64 x] : List Value)[j]? = some u → (wr.alloc (.cells #[.int .i64 x] 3)).cell? (ad.add j) = some u) := news_one wr _ _
      clear hc hnx hkl
      by_cases h0 : k = 0
      · have F : Hid (OnceN (os ++ [x]) (ys.take (k + 1))) := HADD.out (Or.inl h0)
        have hk0 : ((k : Int) == 0) = true := by rw [beq_iff_eq]; omega
        clear HADD HSKIP hcp h0
        go_wp2_with (at_builtin; refine App.wpList_append_all _ rfl _ _ 24 rfl w2.heap.size 3 i0 (.int .i64 0) 1 8 Try.underlying24 hi hz0 hz1 hz2 rfl (by decide) _ _ _ rfl HO2.out _ 1 _ [.int .i64 x] rfl rfl S2.out (by simp [Value.oneCell']) (by unfold maxLen; omega) (by omega) HN2.out.size ?_)
        intro a4 c4 w4 hown4 hgrow4
        have O4 : Hid (w4.ownsRow w2.heap.size 3 1 (.slice a4 (m + 1) c4) (m + 1) (ints .i64 (os ++ [x]))) := by show World.ownsRow _ _ _ _ _ _ _; simpa [ints] using hown4
        have N4 : Hid (Below w2.heap.size w2 w4) := below_app HN2.out HO2.out hgrow4 HN2.out.size (Nat.le_refl _)
        clear hown4 hgrow4
        go_wp2
        go_roundw
        case rel => exact ⟨k + 1, m + 1, a4, c4, os ++ [x], by omega, by omega, by go_num, rfl, O4.out, F.out, N4.out⟩
        case measure => simp [intOf]; omega
      · obtain ⟨p, hp⟩ : ∃ p, p = k - 1 := ⟨_, rfl⟩
        have hpc := hcp (by omega)
        rw [← hp] at hpc
        have hk0 : ((k : Int) == 0) = false := by rw [beq_eq_false_iff_ne]; omega
        have hwr : IntKind.i64.wrap ((k : Int) - 1) = (p : Int) := by simp [IntKind.wrap, IntKind.bits, IntKind.signed]; omega
        have hpn : (p : Int) < (n : Int) := by omega
        have hcz := cmpI_zero (x := y) (y := x)
        by_cases hv : y = x
        · have F : Hid (OnceN os (ys.take (k + 1))) := HSKIP.out (by omega) hv
          have e0 : cmpI y x = 0 := hcz.2 hv
          clear HADD HSKIP hcp h0 hp hcz hv HO2 HN2 S2
          go_wp2_with fail
          refine (byNumber _ _ _).mono ?_
          rintro e w' ⟨rfl, rfl⟩
          rw [e0]
          go_wp2_with fail
          go_roundw
          case rel => exact ⟨k + 1, m, a', c', os, by omega, by omega, by go_num, rfl, HO.out, F.out, HN.out⟩
          case measure => simp [intOf]; omega
        · have F : Hid (OnceN (os ++ [x]) (ys.take (k + 1))) := HADD.out (Or.inr hv)
          have e0 : (cmpI y x != 0) = true := by rw [bne_iff_ne]; exact fun hh => hv (hcz.1 hh)
          clear HADD HSKIP hcp h0 hp hcz hv
          go_wp2_with fail
          refine (byNumber _ _ _).mono ?_
          rintro e w' ⟨rfl, rfl⟩
          go_wp2_with (at_builtin; refine App.wpList_append_all _ rfl _ _ 24 rfl w2.heap.size 3 i0 (.int .i64 0) 1 8 Try.underlying24 hi hz0 hz1 hz2 rfl (by decide) _ _ _ rfl HO2.out _ 1 _ [.int .i64 x] rfl rfl S2.out (by simp [Value.oneCell']) (by unfold maxLen; omega) (by omega) HN2.out.size ?_)
          intro a4 c4 w4 hown4 hgrow4
          have O4 : Hid (w4.ownsRow w2.heap.size 3 1 (.slice a4 (m + 1) c4) (m + 1) (ints .i64 (os ++ [x]))) := by show World.ownsRow _ _ _ _ _ _ _; simpa [ints] using hown4
          have N4 : Hid (Below w2.heap.size w2 w4) := below_app HN2.out HO2.out hgrow4 HN2.out.size (Nat.le_refl _)
          clear hown4 hgrow4
          go_wp2
          go_roundw
          case rel => exact ⟨k + 1, m + 1, a4, c4, os ++ [x], by omega, by omega, by go_num, rfl, O4.out, F.out, N4.out⟩
          case measure => simp [intOf]; omega
    · have F : Hid (OnceN os zs) := by
        have hh := HON.out
        rw [List.take_of_length_le (by rw [YL.out]; omega)] at hh
        exact ⟨hh.1, fun s => by rw [hh.2 s, YM.out s]⟩
      have FW : Hid (∀ z ∈ os, (Lit.int .i64 z).wf = true) := fun z hz => YW.out z ((YM.out z).2 ((F.out.2 z).1 hz))
      clear hnx
      go_wp2
      go_ret
      exact ⟨_, _, _, os, rfl, by omega, own_base HO.out (by omega), F.out, FW.out, Frame.next B2.out HN.out B2.out.size⟩

/-- The same for tuples: of those that were read, in their order. -/
def OnceL (os qs : List LV) : Prop := os.Sublist qs ∧ Strict (lplain os) ∧ ∀ s, s ∈ lplain os ↔ s ∈ lplain qs
theorem ascL_get {ts : Rel.Ll} (h : AscL ts) {i j : Nat} (hij : i ≤ j) (hj : j < ts.length) : ¬ cmpL (ts.getD j []) (ts.getD i []) < 0 := by
  by_cases e : i = j
  · subst e; rw [cmpL_self]; decide
  · have := (List.pairwise_iff_getElem.1 h) i j (by omega) hj (by omega)
    simpa [List.getD, hj, show i < ts.length by omega] using this
theorem lplain_append (xs ys : List LV) : lplain (xs ++ ys) = lplain xs ++ lplain ys := by simp [lplain]
theorem lplain_take (xs : List LV) (k : Nat) : lplain (xs.take k) = (lplain xs).take k := by simp [lplain, List.map_take]
theorem onceL_add {os qs : List LV} {k : Nat} (hk : k < qs.length) (ha : AscL (lplain qs)) (h : OnceL os (qs.take k)) (hn : k = 0 ∨ (qs.getD (k - 1) ld).zs ≠ (qs.getD k ld).zs) : OnceL (os ++ [qs.getD k ld]) (qs.take (k + 1)) := by
  have e : qs.take (k + 1) = qs.take k ++ [qs.getD k ld] := take_succ_ld hk
  refine ⟨?_, ?_, fun s => by rw [e, lplain_append, lplain_append, List.mem_append, List.mem_append, h.2.2 s]⟩
  · rw [e]
    exact List.Sublist.append h.1 (List.Sublist.refl _)
  · unfold Strict
    rw [lplain_append, List.pairwise_append]
    refine ⟨h.2.1, List.pairwise_singleton _ _, fun a hm b hb => ?_⟩
    have hb' : b = (qs.getD k ld).zs := by simpa [lplain] using hb
    subst hb'
    have hm' := (h.2.2 a).1 hm
    rw [lplain_take] at hm'
    obtain ⟨i, hi', rfl⟩ := List.getElem_of_mem hm'
    have hik : i < k := by simp at hi'; omega
    have hl : (lplain qs).length = qs.length := Oa.lplain_length qs
    have h1 := ascL_get ha (i := i) (j := k - 1) (by omega) (by omega)
    have h2 := ascL_get ha (i := k - 1) (j := k) (by omega) (by omega)
    rw [lplain_get qs (k - 1) (by omega)] at h1 h2
    rw [lplain_get qs k hk] at h2
    have e1 : ((lplain qs).take k)[i] = (lplain qs).getD i [] := by simp [List.getD, show i < (lplain qs).length by omega]
    rw [e1]
    generalize (lplain qs).getD i [] = A at h1
    generalize (qs.getD (k - 1) ld).zs = B at *
    generalize (qs.getD k ld).zs = C at *
    rcases hn with h0 | h0
    · omega
    · have t1 := cmpL_turn A B
      have t2 := cmpL_turn B C
      have hBC : cmpL B C < 0 := by
        rcases cmpL_three B C with h | h | h
        · omega
        · exact absurd (cmpL_zero h) h0
        · omega
      by_cases hAB : cmpL A B = 0
      · rw [cmpL_zero hAB]; exact hBC
      · have hAB' : cmpL A B < 0 := by
          rcases cmpL_three A B with h | h | h <;> omega
        exact cmpL_trans hAB' hBC
theorem onceL_skip {os qs : List LV} {k : Nat} (hk : k < qs.length) (h : OnceL os (qs.take k)) (h0 : 0 < k) (hn : (qs.getD (k - 1) ld).zs = (qs.getD k ld).zs) : OnceL os (qs.take (k + 1)) := by
  have e : qs.take (k + 1) = qs.take k ++ [qs.getD k ld] := take_succ_ld hk
  refine ⟨?_, h.2.1, fun s => ?_⟩
  · rw [e]
    exact h.1.trans (List.sublist_append_left _ _)
  · rw [h.2.2 s, e, lplain_append, List.mem_append]
    constructor
    · exact .inl
    · rintro (hs | hs)
      · exact hs
      · have hs' : s = (qs.getD k ld).zs := by simpa [lplain] using hs
        rw [hs', ← hn]
        have hm : qs.getD (k - 1) ld ∈ qs.take k := by
          have : (qs.take k).getD (k - 1) ld = qs.getD (k - 1) ld := by simp [List.getD, show k - 1 < k by omega]
          rw [← this]
          exact getD_mem_ld (by simp; omega)
        exact List.mem_map_of_mem hm


end Go.Proofs.Ytkondmnkmbdncaa.Od
