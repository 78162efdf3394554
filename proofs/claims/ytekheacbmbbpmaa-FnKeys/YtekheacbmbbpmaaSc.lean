/-
  Contracts of the model's l3Pick, l3Add, l1Put.
-/
import Derived.Test.YtekheacbmbbpmaaSa
import Derived.Test.YtekheacbmbbpmaaMis
import Derived.Test.YtekheacbmbbpmaaTold
namespace Go.Proofs.Ytekheacbmbbpmaa.Sc
open Go.RowKit
open Go.Proofs.Ytekheacbmbbpmaa.Frame Go.Proofs.Ytekheacbmbbpmaa.Mem Go.Proofs.Ytekheacbmbbpmaa.Ints Go.Proofs.Ytekheacbmbbpmaa.Kep Go.Proofs.Ytekheacbmbbpmaa.Lls Go.Proofs.Ytekheacbmbbpmaa.Rpu Go.Proofs.Ytekheacbmbbpmaa.Krl Go.Proofs.Ytekheacbmbbpmaa.Sa Go.Proofs.Ytekheacbmbbpmaa.Mis Go.Proofs.Ytekheacbmbbpmaa.Told Go.Proofs.Ytekheacbmbbpmaa.Rel

theorem own_far {w : World} {b1 b2 s1 s2 : Nat} {e1 e2 : TypeId} {a a' : Option Addr} {n c n' c' : Nat} {xs ys : List Value} (h1 : w.ownsRow b1 e1 s1 (.slice a n c) n xs) (h2 : w.ownsRow b2 e2 s2 (.slice a' n' c') n' ys) (he : e1 ≠ e2) : Far a a' := by
  intro x y hx hy e
  rcases h1.2 with ⟨h, _⟩ | ⟨g, cap, cur, hv, _, hh, _⟩
  · simp only [Value.slice.injEq] at h
    rw [h.1] at hx
    cases hx
  · rcases h2.2 with ⟨h, _⟩ | ⟨g', cap', cur', hv', _, hh', _⟩
    · simp only [Value.slice.injEq] at h
      rw [h.1] at hy
      cases hy
    · simp only [Value.slice.injEq] at hv hv'
      rw [hv.1] at hx
      rw [hv'.1] at hy
      cases hx
      cases hy
      simp only at e
      subst e
      rw [hh] at hh'
      simp only [Option.some.injEq, Obj.cells.injEq] at hh'
      exact he hh'.2.1
theorem only_grown {w w' : World} {a : Option Addr} {n c : Nat} (hg : w.grownBy w' (Value.slice a n c).ownBlock) : OnlyAt a w w' := by
  refine ⟨hg.os, hg.tape, hg.output, hg.size, fun k hk hne => hg.block k hk (fun e => ?_)⟩
  cases a with
  | none => simp [Value.ownBlock] at e
  | some x => exact hne x rfl (by simpa [Value.ownBlock] using e)
theorem own_kept {w w' : World} {b1 b2 s1 s2 : Nat} {e1 e2 : TypeId} {a a' : Option Addr} {n c n' c' : Nat} {xs ys : List Value} (h1 : w.ownsRow b1 e1 s1 (.slice a n c) n xs) (h2 : w.ownsRow b2 e2 s2 (.slice a' n' c') n' ys) (he : e1 ≠ e2) (hg : w.grownBy w' (Value.slice a' n' c').ownBlock) : w'.ownsRow b1 e1 s1 (.slice a n c) n xs :=
  own_touch h1 (only_grown hg) (own_far h1 h2 he)
theorem intNe : (3 : TypeId) ≠ 34 := by decide
theorem ownR_kept {w w' : World} {base b2 : Nat} {x : LV} {a' : Option Addr} {n' c' : Nat} {ys : List Value} (h : OwnR w base x) (h2 : w.ownsRow b2 34 1 (.slice a' n' c') n' ys) (hg : w.grownBy w' (Value.slice a' n' c').ownBlock) : OwnR w' base x := ⟨own_kept h.1 h2 intNe hg, h.2⟩

set_option maxRecDepth 4000 in
set_option maxHeartbeats 800000 in
theorem spec_l3Pick (a t b : Option Addr) (nn nc tn tc m wc : Nat) (ns ts ws : List Int) (w : World) (hN : IsRow .i64 w a nn nc ns) (hT : IsRow .i64 w t tn tc ts) (hW : IsRow .i64 w b m wc ws) (hm : m ≤ 100000) (hl : tn = nn) (hsub : ∀ z ∈ ws, z ∈ ns) :
    Calls Try.prog 68 #[.slice a nn nc, .slice t tn tc, .slice b m wc] w fun e w' => ∃ a' c', e = .returned (.slice a' m c') ∧ w'.ownsRow w.heap.size 3 1 (.slice a' m c') m (ints .i64 (pick ns ts ws)) ∧ (∀ z ∈ pick ns ts ws, (Lit.int .i64 z).wf = true) ∧ Below w.heap.size w w' := by
  obtain ⟨i0, hi, hz0, hz1, hz2⟩ := info_parts Ints.info
  have hmaxn : tn ≤ 9223372036854775807 := by have := hT.fits; have := hT.max; unfold maxLen at *; omega
  have HNL : Hid (ns.length = nn) := hN.len
  have HWL : Hid (ws.length = m) := hW.len
  have HN : Hid (IsRow .i64 w a nn nc ns) := hN
  have HT : Hid (IsRow .i64 w t tn tc ts) := hT
  have HW : Hid (IsRow .i64 w b m wc ws) := hW
  have HSUB : Hid (∀ z ∈ ws, z ∈ ns) := hsub
  have HTN : Hid (tn = nn) := hl
  have HWF : Hid (∀ z ∈ pick ns ts ws, (Lit.int .i64 z).wf = true) := fun z hz => by
    obtain ⟨y, hy, rfl⟩ := List.mem_map.1 hz
    refine HT.out.wf _ (getD_mem ?_)
    rw [HT.out.len, HTN.out, ← HNL.out]
    exact (idx_at (HSUB.out y hy)).1
  clear hN hT hW hsub hl
  go_enter Try.func68, Try.ntmps68
  go_wp2_with fail
  go_loopw [7, 12] (fun o i wr => ∃ (k : Nat) (a' : Option Addr) (c' : Nat), k ≤ m ∧ i = .int .i64 k ∧ o = .slice a' k c' ∧ wr.ownsRow w.heap.size 3 1 (.slice a' k c') k (ints .i64 (pick ns ts (ws.take k))) ∧ Below w.heap.size w wr) (fun _ i _ => m - (intOf i).toNat)
  case atStart => exact ⟨0, none, 0, Nat.zero_le _, rfl, rfl, World.ownsRow_nil _ _ _ _, Below.refl _ _⟩
  case round =>
    obtain ⟨k, a', c', hk, rfl, rfl, ho, hnx⟩ := hrel
    have HO : Hid (wr.ownsRow w.heap.size 3 1 (.slice a' k c') k (ints .i64 (pick ns ts (ws.take k)))) := ho
    have HNX : Hid (Below w.heap.size w wr) := hnx
    have hsr := hnx.size
    clear ho
    by_cases hlt : k < m
    · obtain ⟨c, off, rfl, hbl, hc⟩ := HW.out.cells (by omega)
      have hkl : k < ws.length := by rw [HWL.out]; exact hlt
      have p0 : wr.cell? ⟨c, off + k, none⟩ = some (.int .i64 (ws.getD k 0)) := by rw [hnx.cell (p := ⟨c, off + k, none⟩) hbl]; exact hc k hlt
      have hin := HSUB.out _ (getD_mem hkl)
      have hts := take_succ_getD hkl
      generalize ws.getD k 0 = z at p0 hin hts
      obtain ⟨h1, h2, _⟩ := idx_at hin
      obtain ⟨q, hq⟩ : ∃ q : Nat, q = (Lib.idxOf ns z).toNat := ⟨_, rfl⟩
      have hqn : q < tn := by rw [hq, HTN.out, ← HNL.out]; exact h1
      obtain ⟨d, od, rfl, hdl, hd⟩ := HT.out.cells (by omega)
      have p1 : wr.cell? ⟨d, od + q, none⟩ = some (.int .i64 (ts.getD q 0)) := by rw [hnx.cell (p := ⟨d, od + q, none⟩) hdl]; exact hd q hqn
      have HE : Hid (ints .i64 (pick ns ts (ws.take (k + 1))) = ints .i64 (pick ns ts (ws.take k)) ++ [.int .i64 (ts.getD q 0)]) := by
        show _ = _
        rw [hts, hq]
        simp [pick, ints]
      have HI : Hid (Lib.idxOf ns z = (q : Int)) := by show _ = _; rw [hq]; exact h2
      generalize ts.getD q 0 = x at p1 HE
      have HO2 : Hid ((wr.alloc (.cells #[.int .i64 x] 3)).ownsRow w.heap.size 3 1 (.slice a' k c') k (ints .i64 (pick ns ts (ws.take k)))) := own_below HO.out ((Below.refl _ _).alloc (Nat.le_refl _) _)
      have HN2 : Hid (Below w.heap.size w (wr.alloc (.cells #[.int .i64 x] 3))) := HNX.out.alloc hsr _
      have S2 : Hid (0 < 1 → ∃ ad, (some ⟨wr.heap.size, 0, none⟩ : Option Addr) = some ad ∧ ∀ j u, ([.int .i64 x] : List Value)[j]? = some u → (wr.alloc (.cells #[.int .i64 x] 3)).cell? (ad.add j) = some u) := news_one wr _ _
      have hqI : (q : Int) < (tn : Int) := by omega
      clear hc hd hkl hin hts h1 h2 hq hnx
      go_wp2_with fail
      refine (spec_l3At _ _ _ ns z _ (IsRow.below HN.out HNX.out)).mono ?_
      rintro e w' ⟨rfl, rfl⟩
      rw [HI.out]
      go_wp2_with (at_builtin; refine App.wpList_append_all _ rfl _ _ 34 rfl w.heap.size 3 i0 (.int .i64 0) 1 8 Try.underlying34 hi hz0 hz1 hz2 rfl (by decide) _ _ _ rfl HO2.out _ 1 _ [.int .i64 x] rfl rfl S2.out (by simp [Value.oneCell']) (by unfold maxLen; omega) (by omega) HN2.out.size ?_)
      intro a3 c3 w3 hown3 hgrow3
      have O3 : Hid (w3.ownsRow w.heap.size 3 1 (.slice a3 (k + 1) c3) (k + 1) (ints .i64 (pick ns ts (ws.take (k + 1))))) := by show World.ownsRow _ _ _ _ _ _ _; rw [HE.out]; exact hown3
      have HN3 : Hid (Below w.heap.size w w3) := below_app HN2.out HO2.out hgrow3 HN2.out.size (Nat.le_refl _)
      clear hown3 hgrow3
      go_wp2
      go_roundw
      case rel => exact ⟨k + 1, a3, c3, by omega, by go_num, rfl, O3.out, HN3.out⟩
      case measure => simp [intOf]; omega
    · obtain rfl : k = m := by omega
      have HO2 : Hid (wr.ownsRow w.heap.size 3 1 (.slice a' k c') k (ints .i64 (pick ns ts ws))) := by have := HO.out; rwa [List.take_of_length_le (by rw [HWL.out]; omega)] at this
      clear hnx
      go_wp2
      go_ret
      exact ⟨_, _, rfl, HO2.out, HWF.out, HNX.out⟩

theorem add_end {w W w2 w4 w5 : World} {base n cap k nk tn : Nat} {a a3 a4 a5 : Option Addr} {c3 c4 c5 : Nat} {rs : List LV} {ts : List Int} (hin : insL ts (lplain rs) = (lplain rs).take k ++ ts :: (lplain rs).drop k) (ho : OwnLs w base a n cap rs) (hb : base ≤ w.heap.size) (hl : ∀ r ∈ rs, r.zs.length = tn) (htl : ts.length = tn) (htw : ∀ z ∈ ts, (Lit.int .i64 z).wf = true)
    (bW : Below w.heap.size w W) (b4 : Below W.heap.size W w4) (o4 : w4.ownsRow W.heap.size 34 1 (.slice a4 (k + 1) c4) (k + 1) (lcells (rs.take k) ++ [.slice a3 tn c3])) (r4 : w4.ownsRow w2.heap.size 3 1 (.slice a3 tn c3) tn (ints .i64 ts)) (hs2 : W.heap.size ≤ w2.heap.size)
    (o5 : w5.ownsRow W.heap.size 34 1 (.slice a5 (k + 1 + nk) c5) (k + 1 + nk) (lcells (rs.take k) ++ .slice a3 tn c3 :: lcells (rs.drop k))) (g5 : w4.grownBy w5 (Value.slice a4 (k + 1) c4).ownBlock) :
    ∃ rs', OwnLs w5 base a5 (k + 1 + nk) c5 rs' ∧ lplain rs' = insL ts (lplain rs) ∧ (∀ r ∈ rs', r.zs.length = tn) ∧ Below w.heap.size w w5 := by
  have b5 : Below W.heap.size W w5 := below_app b4 o4 g5 b4.size (Nat.le_refl _)
  have bw : Below w.heap.size w w5 := Frame.next bW b5 bW.size
  have r5 : w5.ownsRow w2.heap.size 3 1 (.slice a3 tn c3) tn (ints .i64 ts) := own_kept r4 o4 intNe g5
  have hmem : ∀ r ∈ rs.take k ++ ⟨a3, tn, c3, ts⟩ :: rs.drop k, r = ⟨a3, tn, c3, ts⟩ ∨ r ∈ rs := fun r hr => by
    rcases List.mem_append.1 hr with h | h
    · exact .inr (List.mem_of_mem_take h)
    · rcases List.mem_cons.1 h with h | h
      · exact .inl h
      · exact .inr (List.mem_of_mem_drop h)
  have hsW := bW.size
  have hold : ∀ r ∈ rs, ∀ x, r.a = some x → x.block < w.heap.size := fun r hr x hx => (own_block (ho.inner r hr) x hx).2
  have hnew : ∀ x, a3 = some x → w2.heap.size ≤ x.block := fun x hx => (own_block r5 x hx).1
  have hinner : ∀ r ∈ rs, w5.ownsRow base 3 1 (.slice r.a r.n r.c) r.n (ints .i64 r.zs) := fun r hr => own_below (ho.inner r hr) bw
  refine ⟨rs.take k ++ ⟨a3, tn, c3, ts⟩ :: rs.drop k, ⟨?_, fun r hr => ?_, fun r hr => ?_, ?_, fun r hr => ?_⟩, ?_, fun r hr => ?_, bw⟩
  · have e : lcells (rs.take k ++ ⟨a3, tn, c3, ts⟩ :: rs.drop k) = lcells (rs.take k) ++ .slice a3 tn c3 :: lcells (rs.drop k) := by simp [lcells, lcell]
    rw [e]
    exact own_base o5 (by omega)
  · rcases hmem r hr with rfl | h
    · exact own_base r5 (by omega)
    · exact hinner r h
  · rcases hmem r hr with rfl | h
    · exact htw
    · exact ho.wf r h
  · have hp := ho.apart
    have hsplit : rs = rs.take k ++ rs.drop k := (List.take_append_drop k rs).symm
    rw [hsplit, List.pairwise_append] at hp
    obtain ⟨p1, p2, p3⟩ := hp
    have far1 : ∀ r ∈ rs, Far r.a a3 := fun r hr x y hx hy => by have := hold r hr x hx; have := hnew y hy; omega
    rw [List.pairwise_append, List.pairwise_cons]
    refine ⟨p1, ⟨fun s hs => (far1 s (List.mem_of_mem_drop hs)).symm, p2⟩, fun r hr s hs => ?_⟩
    rcases List.mem_cons.1 hs with rfl | hs
    · exact far1 r (List.mem_of_mem_take hr)
    · exact p3 r hr s hs
  · rcases hmem r hr with rfl | h
    · exact own_far o5 r5 (Ne.symm intNe)
    · exact own_far o5 (hinner r h) (Ne.symm intNe)
  · rw [hin]
    simp [lplain, List.map_take, List.map_drop]
  · rcases hmem r hr with rfl | h
    · exact htl
    · exact hl r h

set_option maxRecDepth 4000 in
set_option maxHeartbeats 3200000 in
theorem spec_l3Add (a ta : Option Addr) (n cap tn tc : Nat) (rs : List LV) (ts : List Int) (base : Nat) (w : World) (h : OwnLs w base a n cap rs) (hb : base ≤ w.heap.size) (h0 : n = 0 → a = none) (ht : IsRow .i64 w ta tn tc ts) (hn : n ≤ 100000) (htn : tn ≤ 100000) (hl : ∀ r ∈ rs, r.zs.length = tn) :
    Calls Try.prog 72 #[.slice a n cap, .slice ta tn tc] w fun e w' => ∃ a' n' c' rs', e = .returned (.slice a' n' c') ∧ OwnLs w' base a' n' c' rs' ∧ lplain rs' = insL ts (lplain rs) ∧ 0 < n' ∧ n' ≤ n + 1 ∧ (∀ r ∈ rs', r.zs.length = tn) ∧ Below w.heap.size w w' := by
  obtain ⟨i0, hi, hz0, hz1, hz2⟩ := info_parts infoL
  obtain ⟨j0, hj, jz0, jz1, jz2⟩ := info_parts Ints.info
  have HO : Hid (OwnLs w base a n cap rs) := h
  have HI : Hid (IsLs w a n cap rs) := h.isLs
  have HL : Hid (rs.length = n) := h.len
  have HLP : Hid ((lplain rs).length = n) := by show _ = _; simp [lplain, h.len]
  have HB : Hid (base ≤ w.heap.size) := hb
  have HT : Hid (IsRow .i64 w ta tn tc ts) := ht
  have HTL : Hid (ts.length = tn) := ht.len
  have HTW : Hid (∀ z ∈ ts, (Lit.int .i64 z).wf = true) := ht.wf
  have HLN : Hid (∀ r ∈ rs, r.zs.length = tn) := hl
  have hcn := h.isLs.fits
  have hcm := h.isLs.max
  unfold maxLen at hcm
  by_cases hz : n = 0
  · have ha := h0 hz
    subst hz
    subst ha
    have hrs : rs = [] := List.eq_nil_of_length_eq_zero HL.out
    have hc0 : cap = 0 := by
      rcases h.outer.2 with ⟨hv, _⟩ | ⟨g, c, cur, hv, _⟩
      · simp only [Value.slice.injEq] at hv; exact hv.2.2
      · simp only [Value.slice.injEq] at hv; cases hv.1
    subst hc0
    have HIN : Hid (insL ts (lplain rs) = (lplain rs).take 0 ++ ts :: (lplain rs).drop 0) := by show _ = _; rw [hrs]; rfl
    clear h h0 ht hl hb hrs
    go_enter Try.func72, Try.ntmps72
    go_wp2
    refine wp_loop_rounds 1 ?_
    rw [rounds_succ]
    have BW : Hid (Below w.heap.size w w) := Below.refl _ _
    have O1 : Hid ((w.alloc (.cells #[] 34)).ownsRow w.heap.size 34 1 (.slice (some ⟨w.heap.size, 0, none⟩) 0 0) 0 []) := own_zero w _ _ _ _ rfl (Nat.le_refl _)
    have B1 : Hid (Below w.heap.size w (w.alloc (.cells #[] 34))) := (Below.refl _ _).alloc (Nat.le_refl _) _
    have O2 : Hid ((w.alloc (.cells #[] 34)).ownsRow w.heap.size 34 1 (.slice (some ⟨w.heap.size, 0, none⟩) 0 0) 0 (lcells (rs.take 0))) := O1.out
    have B2 : Hid (Below w.heap.size w (w.alloc (.cells #[] 34))) := B1.out
    have hs2 := B2.out.size
    have hz2s : (w.alloc (.cells #[] 34)).heap.size = w.heap.size + 1 := by simp
    have T2 : Hid (IsRow .i64 (w.alloc (.cells #[] 34)) ta tn tc ts) := IsRow.below HT.out (Frame.next BW.out B2.out BW.out.size)
    have R2 : Hid (((w.alloc (.cells #[] 34)).alloc (.cells #[] 3)).ownsRow (w.alloc (.cells #[] 34)).heap.size 3 1 (.slice (some ⟨w.heap.size + 1, 0, none⟩) 0 0) 0 []) := own_zero (w.alloc (.cells #[] 34)) _ _ _ _ hz2s.symm (Nat.le_refl _)
    have B2a : Hid (Below (w.alloc (.cells #[] 34)).heap.size (w.alloc (.cells #[] 34)) ((w.alloc (.cells #[] 34)).alloc (.cells #[] 3))) := (Below.refl _ _).alloc (Nat.le_refl _) _
    have S2 : Hid (0 < tn → ∃ ad, ta = some ad ∧ ∀ j u, (ints .i64 ts)[j]? = some u → ((w.alloc (.cells #[] 34)).alloc (.cells #[] 3)).cell? (ad.add j) = some u) := news_row (IsRow.below T2.out B2a.out)
    have L2 : Hid ((ints .i64 ts).length = tn * 1) := by show _ = _; rw [ints_length, HTL.out, Nat.mul_one]
    go_wp2_with (at_builtin; refine App.wpList_append_all _ rfl _ _ 34 rfl (w.alloc (.cells #[] 34)).heap.size 3 j0 (.int .i64 0) 1 8 Try.underlying34 hj jz0 jz1 jz2 rfl (by decide) _ _ _ rfl R2.out _ tn _ (ints .i64 ts) rfl L2.out S2.out (one_int ts) (by unfold maxLen; omega) (by omega) B2a.out.size ?_)
    intro a3 c3 w3 hown3 hgrow3
    have R3 : Hid (w3.ownsRow (w.alloc (.cells #[] 34)).heap.size 3 1 (.slice a3 tn c3) tn (ints .i64 ts)) := by show World.ownsRow _ _ _ _ _ _ _; simpa using hown3
    have B3 : Hid (Below (w.alloc (.cells #[] 34)).heap.size (w.alloc (.cells #[] 34)) w3) := below_app B2a.out R2.out hgrow3 B2a.out.size (Nat.le_refl _)
    have O3 : Hid (w3.ownsRow w.heap.size 34 1 (.slice (some ⟨w.heap.size, 0, none⟩) 0 0) 0 (lcells (rs.take 0))) := own_below O2.out B3.out
    have O3a : Hid ((w3.alloc (.cells #[.slice a3 tn c3] 34)).ownsRow w.heap.size 34 1 (.slice (some ⟨w.heap.size, 0, none⟩) 0 0) 0 (lcells (rs.take 0))) := own_below O3.out ((Below.refl _ _).alloc (Nat.le_refl _) _)
    have B3w : Hid (Below w.heap.size w w3) := Frame.next B2.out B3.out hs2
    have B3a : Hid (Below w.heap.size w (w3.alloc (.cells #[.slice a3 tn c3] 34))) := B3w.out.alloc B3w.out.size _
    have R3a : Hid ((w3.alloc (.cells #[.slice a3 tn c3] 34)).ownsRow (w.alloc (.cells #[] 34)).heap.size 3 1 (.slice a3 tn c3) tn (ints .i64 ts)) := own_below R3.out ((Below.refl _ _).alloc (Nat.le_refl _) _)
    have S3 : Hid (0 < 1 → ∃ ad, (some ⟨w3.heap.size, 0, none⟩ : Option Addr) = some ad ∧ ∀ j u, ([.slice a3 tn c3] : List Value)[j]? = some u → (w3.alloc (.cells #[.slice a3 tn c3] 34)).cell? (ad.add j) = some u) := news_one w3 _ _
    clear hown3 hgrow3
    go_wp2_with (at_builtin; refine App.wpList_append_all _ rfl _ _ 26 rfl w.heap.size 34 i0 (.slice none 0 0) 1 24 Try.underlying26 hi hz0 hz1 hz2 rfl (by decide) _ _ _ rfl O3a.out _ 1 _ [.slice a3 tn c3] rfl rfl S3.out (by simp [Value.oneCell']) (by unfold maxLen; omega) (by omega) B3a.out.size ?_)
    intro a4 c4 w4 hown4 hgrow4
    have O4 : Hid (w4.ownsRow w.heap.size 34 1 (.slice a4 (0 + 1) c4) (0 + 1) (lcells (rs.take 0) ++ [.slice a3 tn c3])) := hown4
    have R4 : Hid (w4.ownsRow (w.alloc (.cells #[] 34)).heap.size 3 1 (.slice a3 tn c3) tn (ints .i64 ts)) := own_kept R3a.out O3a.out intNe hgrow4
    have B4 : Hid (Below w.heap.size w w4) := below_app B3a.out O3a.out hgrow4 B3a.out.size (Nat.le_refl _)
    have S4 : Hid (True) := trivial
    have L4 : Hid ((lcells (rs.drop 0)).length = (0) * 1) := by show _ = _; rw [lcells_length, List.length_drop, HL.out, Nat.sub_self]
    clear hown4 hgrow4
    go_wp2_with (at_builtin; refine App.wpList_append_all _ rfl _ _ 26 rfl w.heap.size 34 i0 (.slice none 0 0) 1 24 Try.underlying26 hi hz0 hz1 hz2 rfl (by decide) _ _ _ rfl O4.out _ (0) _ (lcells (rs.drop 0)) rfl L4.out (fun h => absurd h (by omega)) (one_ls _) (by unfold maxLen; omega) (by omega) B4.out.size ?_)
    all_goals
      intro a5 c5 w5 hown5 hgrow5
      have FIN : Hid (∃ rs', OwnLs w5 base a5 (0 + 1 + (0)) c5 rs' ∧ lplain rs' = insL ts (lplain rs) ∧ (∀ r ∈ rs', r.zs.length = tn) ∧ Below w.heap.size w w5) := add_end HIN.out HO.out HB.out HLN.out HTL.out HTW.out BW.out B4.out O4.out R4.out hs2 hown5 hgrow5
      clear hown5 hgrow5
      go_wp2
      go_ret
      obtain ⟨rs', f1, f2, f3, f4⟩ := FIN.out
      exact ⟨_, _, _, rs', rfl, f1, f2, by omega, by omega, f3, f4⟩
  · obtain ⟨g, rfl⟩ : ∃ g, a = some ⟨g, 0, none⟩ := by
      rcases h.outer.2 with ⟨h2, _⟩ | ⟨g, cap', cur, hv, _⟩
      · simp at h2; omega
      · simp only [Value.slice.injEq] at hv
        exact ⟨g, hv.1⟩
    clear h h0 ht hl hb
    go_enter Try.func72, Try.ntmps72
    go_wp2
    go_loopw [5] (fun i wr => ∃ k : Nat, k ≤ n ∧ i = .int .i64 k ∧ (∀ j, j < k → lessL ((lplain rs).getD j []) ts = true) ∧ Below w.heap.size w wr) (fun i _ => n - (intOf i).toNat)
    case atStart => exact ⟨0, Nat.zero_le _, rfl, fun j hj => absurd hj (by omega), Below.refl _ _⟩
    case round =>
      obtain ⟨k, hk, rfl, hall, hnx⟩ := hrel
      have Hall : Hid (∀ j, j < k → lessL ((lplain rs).getD j []) ts = true) := hall
      have HNX : Hid (Below w.heap.size w wr) := hnx
      clear hall
      by_cases hlt : k < n
      · obtain ⟨b, off, hbe, hbl, hc⟩ := HI.out.cells (by omega)
        cases hbe
        have hkl : k < rs.length := by rw [HL.out]; exact hlt
        have p0 : w.cell? ⟨g, 0 + k, none⟩ = some (.slice (rs.getD k ld).a (rs.getD k ld).n (rs.getD k ld).c) := hc k hlt
        rw [Nat.zero_add] at p0
        have hrow := HI.out.rows _ (getD_mem_ld hkl)
        have hln := HLN.out _ (getD_mem_ld hkl)
        have hxe := lplain_get rs k hkl
        generalize rs.getD k ld = x at p0 hrow hln hxe
        obtain ⟨xa, xn, xc, xs⟩ := x
        simp only at p0 hrow hln hxe
        have P0 : Hid (w.cell? ⟨g, k, none⟩ = some (.slice xa xn xc)) := p0
        have HX : Hid (IsRow .i64 w xa xn xc xs) := hrow
        have HXN : Hid (xn = tn) := by show _ = _; rw [← hrow.len]; exact hln
        have HXE : Hid ((lplain rs).getD k [] = xs) := hxe
        have q0 : wr.cell? ⟨g, k, none⟩ = some (.slice xa xn xc) := Frame.held_cell hnx p0
        have hkI : decide ((k : Int) < (n : Int)) = true := decide_eq_true (by omega)
        have hk0 : (0 : Int) ≤ (k : Int) := by omega
        have hk1 : (k : Int) < (n : Int) := by omega
        clear hc hkl hrow hln hxe p0 hnx
        cases hv : lessL xs ts
        · have HV : Hid (lessL xs ts = false) := hv
          clear hv
          by_cases he : xs = ts
          · have F : Hid (insL ts (lplain rs) = lplain rs) := by
              show _ = _
              rw [insL_at ts (lplain rs) k (by rw [HLP.out]; omega) Hall.out (fun _ => by rw [HXE.out]; exact HV.out), if_pos ⟨by rw [HLP.out]; exact hlt, by rw [HXE.out]; exact he⟩]
            have HE : Hid (decide (xs = ts) = true) := decide_eq_true he
            clear he
            go_wp2_with fail
            refine (spec_l3Less _ _ _ _ _ _ xs ts _ (IsRow.below HX.out HNX.out) (IsRow.below HT.out HNX.out) HXN.out).mono ?_
            rintro e w1 ⟨rfl, hb1⟩
            rw [HV.out]
            have N1 : Hid (Below w.heap.size w w1) := Frame.next HNX.out hb1 HNX.out.size
            have q1 : w1.cell? ⟨g, k, none⟩ = some (.slice xa xn xc) := Frame.held_cell N1.out P0.out
            clear hb1 q0
            go_wp2_with fail
            refine (spec_l1Same _ _ _ _ _ _ xs ts _ (IsRow.below HX.out N1.out) (IsRow.below HT.out N1.out)).mono ?_
            rintro e w2 ⟨rfl, hb2⟩
            rw [HE.out]
            have N2 : Hid (Below w.heap.size w w2) := Frame.next N1.out hb2 N1.out.size
            clear hb2 q1
            go_wp2
            go_ret
            exact ⟨_, _, _, rs, rfl, HO.out.below N2.out, F.out.symm, by omega, by omega, HLN.out, N2.out⟩
          · have HIN : Hid (insL ts (lplain rs) = (lplain rs).take k ++ ts :: (lplain rs).drop k) := by
              show _ = _
              rw [insL_at ts (lplain rs) k (by rw [HLP.out]; omega) Hall.out (fun _ => by rw [HXE.out]; exact HV.out), if_neg (fun hh => he (by rw [← HXE.out]; exact hh.2))]
            have HE : Hid (decide (xs = ts) = false) := decide_eq_false he
            clear he
            go_wp2_with fail
            refine (spec_l3Less _ _ _ _ _ _ xs ts _ (IsRow.below HX.out HNX.out) (IsRow.below HT.out HNX.out) HXN.out).mono ?_
            rintro e w1 ⟨rfl, hb1⟩
            rw [HV.out]
            have N1 : Hid (Below w.heap.size w w1) := Frame.next HNX.out hb1 HNX.out.size
            have q1 : w1.cell? ⟨g, k, none⟩ = some (.slice xa xn xc) := Frame.held_cell N1.out P0.out
            clear hb1 q0
            go_wp2_with fail
            refine (spec_l1Same _ _ _ _ _ _ xs ts _ (IsRow.below HX.out N1.out) (IsRow.below HT.out N1.out)).mono ?_
            rintro e wv ⟨rfl, hb2⟩
            rw [HE.out]
            have N2 : Hid (Below w.heap.size w wv) := Frame.next N1.out hb2 N1.out.size
            clear hb2 q1 P0
            have BW : Hid (Below w.heap.size w wv) := N2.out
            have O1 : Hid ((wv.alloc (.cells #[] 34)).ownsRow wv.heap.size 34 1 (.slice (some ⟨wv.heap.size, 0, none⟩) 0 0) 0 []) := own_zero wv _ _ _ _ rfl (Nat.le_refl _)
            have B1 : Hid (Below wv.heap.size wv (wv.alloc (.cells #[] 34))) := (Below.refl _ _).alloc (Nat.le_refl _) _
            have S1 : Hid (0 < k → ∃ ad, (some ⟨g, 0, none⟩ : Option Addr) = some ad ∧ ∀ j u, (lcells (rs.take k))[j]? = some u → (wv.alloc (.cells #[] 34)).cell? (ad.add j) = some u) := news_ls (isLs_pre (HI.out.below (Frame.next BW.out B1.out BW.out.size)) (by omega))
            have L1 : Hid ((lcells (rs.take k)).length = k * 1) := by show _ = _; rw [lcells_length, List.length_take, HL.out]; omega
            go_wp2_with (at_builtin; refine App.wpList_append_all _ rfl _ _ 26 rfl wv.heap.size 34 i0 (.slice none 0 0) 1 24 Try.underlying26 hi hz0 hz1 hz2 rfl (by decide) _ _ _ rfl O1.out _ k _ (lcells (rs.take k)) rfl L1.out S1.out (one_ls _) (by unfold maxLen; omega) (by omega) B1.out.size ?_)
            intro a2 c2 w2 hown2 hgrow2
            have O2 : Hid (w2.ownsRow wv.heap.size 34 1 (.slice a2 k c2) k (lcells (rs.take k))) := by show World.ownsRow _ _ _ _ _ _ _; simpa using hown2
            have B2 : Hid (Below wv.heap.size wv w2) := below_app B1.out O1.out hgrow2 B1.out.size (Nat.le_refl _)
            have hs2 := B2.out.size
            have hz2s : w2.heap.size = w2.heap.size := rfl
            have T2 : Hid (IsRow .i64 w2 ta tn tc ts) := IsRow.below HT.out (Frame.next BW.out B2.out BW.out.size)
            have R2 : Hid ((w2.alloc (.cells #[] 3)).ownsRow w2.heap.size 3 1 (.slice (some ⟨w2.heap.size, 0, none⟩) 0 0) 0 []) := own_zero w2 _ _ _ _ hz2s.symm (Nat.le_refl _)
            have B2a : Hid (Below w2.heap.size w2 (w2.alloc (.cells #[] 3))) := (Below.refl _ _).alloc (Nat.le_refl _) _
            have S2 : Hid (0 < tn → ∃ ad, ta = some ad ∧ ∀ j u, (ints .i64 ts)[j]? = some u → (w2.alloc (.cells #[] 3)).cell? (ad.add j) = some u) := news_row (IsRow.below T2.out B2a.out)
            have L2 : Hid ((ints .i64 ts).length = tn * 1) := by show _ = _; rw [ints_length, HTL.out, Nat.mul_one]
            clear hown2 hgrow2
            go_wp2_with (at_builtin; refine App.wpList_append_all _ rfl _ _ 34 rfl w2.heap.size 3 j0 (.int .i64 0) 1 8 Try.underlying34 hj jz0 jz1 jz2 rfl (by decide) _ _ _ rfl R2.out _ tn _ (ints .i64 ts) rfl L2.out S2.out (one_int ts) (by unfold maxLen; omega) (by omega) B2a.out.size ?_)
            intro a3 c3 w3 hown3 hgrow3
            have R3 : Hid (w3.ownsRow w2.heap.size 3 1 (.slice a3 tn c3) tn (ints .i64 ts)) := by show World.ownsRow _ _ _ _ _ _ _; simpa using hown3
            have B3 : Hid (Below w2.heap.size w2 w3) := below_app B2a.out R2.out hgrow3 B2a.out.size (Nat.le_refl _)
            have O3 : Hid (w3.ownsRow wv.heap.size 34 1 (.slice a2 k c2) k (lcells (rs.take k))) := own_below O2.out B3.out
            have O3a : Hid ((w3.alloc (.cells #[.slice a3 tn c3] 34)).ownsRow wv.heap.size 34 1 (.slice a2 k c2) k (lcells (rs.take k))) := own_below O3.out ((Below.refl _ _).alloc (Nat.le_refl _) _)
            have B3w : Hid (Below wv.heap.size wv w3) := Frame.next B2.out B3.out hs2
            have B3a : Hid (Below wv.heap.size wv (w3.alloc (.cells #[.slice a3 tn c3] 34))) := B3w.out.alloc B3w.out.size _
            have R3a : Hid ((w3.alloc (.cells #[.slice a3 tn c3] 34)).ownsRow w2.heap.size 3 1 (.slice a3 tn c3) tn (ints .i64 ts)) := own_below R3.out ((Below.refl _ _).alloc (Nat.le_refl _) _)
            have S3 : Hid (0 < 1 → ∃ ad, (some ⟨w3.heap.size, 0, none⟩ : Option Addr) = some ad ∧ ∀ j u, ([.slice a3 tn c3] : List Value)[j]? = some u → (w3.alloc (.cells #[.slice a3 tn c3] 34)).cell? (ad.add j) = some u) := news_one w3 _ _
            clear hown3 hgrow3
            go_wp2_with (at_builtin; refine App.wpList_append_all _ rfl _ _ 26 rfl wv.heap.size 34 i0 (.slice none 0 0) 1 24 Try.underlying26 hi hz0 hz1 hz2 rfl (by decide) _ _ _ rfl O3a.out _ 1 _ [.slice a3 tn c3] rfl rfl S3.out (by simp [Value.oneCell']) (by unfold maxLen; omega) (by omega) B3a.out.size ?_)
            intro a4 c4 w4 hown4 hgrow4
            have O4 : Hid (w4.ownsRow wv.heap.size 34 1 (.slice a4 (k + 1) c4) (k + 1) (lcells (rs.take k) ++ [.slice a3 tn c3])) := hown4
            have R4 : Hid (w4.ownsRow w2.heap.size 3 1 (.slice a3 tn c3) tn (ints .i64 ts)) := own_kept R3a.out O3a.out intNe hgrow4
            have B4 : Hid (Below wv.heap.size wv w4) := below_app B3a.out O3a.out hgrow4 B3a.out.size (Nat.le_refl _)
            have S4 : Hid (0 < n - k → ∃ ad, (some ⟨g, k, none⟩ : Option Addr) = some ad ∧ ∀ j u, (lcells (rs.drop k))[j]? = some u → w4.cell? (ad.add j) = some u) := by have := news_ls (isLs_suf (HI.out.below (Frame.next BW.out B4.out BW.out.size)) (k := k) (by omega)); rwa [Nat.zero_add] at this
            have L4 : Hid ((lcells (rs.drop k)).length = (n - k) * 1) := by show _ = _; rw [lcells_length, List.length_drop, HL.out, Nat.mul_one]
            clear hown4 hgrow4
            go_wp2_with (at_builtin; refine App.wpList_append_all _ rfl _ _ 26 rfl wv.heap.size 34 i0 (.slice none 0 0) 1 24 Try.underlying26 hi hz0 hz1 hz2 rfl (by decide) _ _ _ rfl O4.out _ (n - k) _ (lcells (rs.drop k)) rfl L4.out (S4.out) (one_ls _) (by unfold maxLen; omega) (by omega) B4.out.size ?_)
            all_goals
              intro a5 c5 w5 hown5 hgrow5
              have FIN : Hid (∃ rs', OwnLs w5 base a5 (k + 1 + (n - k)) c5 rs' ∧ lplain rs' = insL ts (lplain rs) ∧ (∀ r ∈ rs', r.zs.length = tn) ∧ Below w.heap.size w w5) := add_end HIN.out HO.out HB.out HLN.out HTL.out HTW.out BW.out B4.out O4.out R4.out hs2 hown5 hgrow5
              clear hown5 hgrow5
              go_wp2
              go_ret
              obtain ⟨rs', f1, f2, f3, f4⟩ := FIN.out
              exact ⟨_, _, _, rs', rfl, f1, f2, by omega, by omega, f3, f4⟩
        · have F : Hid (∀ j, j < k + 1 → lessL ((lplain rs).getD j []) ts = true) := fun j hj => by
            by_cases e : j = k
            · rw [e, HXE.out]; exact hv
            · exact Hall.out j (by omega)
          have HV : Hid (lessL xs ts = true) := hv
          clear hv
          go_wp2_with fail
          refine (spec_l3Less _ _ _ _ _ _ xs ts _ (IsRow.below HX.out HNX.out) (IsRow.below HT.out HNX.out) HXN.out).mono ?_
          rintro e w1 ⟨rfl, hb1⟩
          rw [HV.out]
          have N1 : Hid (Below w.heap.size w w1) := Frame.next HNX.out hb1 HNX.out.size
          clear hb1 q0
          go_wp2
          go_roundw
          case rel => exact ⟨k + 1, by omega, by go_num, F.out, N1.out⟩
          case measure => simp [intOf]; omega
      · obtain rfl : k = n := by omega
        have HIN : Hid (insL ts (lplain rs) = (lplain rs).take k ++ ts :: (lplain rs).drop k) := by
          show _ = _
          rw [insL_at ts (lplain rs) k (by rw [HLP.out]; omega) Hall.out (fun hh => absurd hh (by rw [HLP.out]; omega)), if_neg (fun hh => absurd hh.1 (by rw [HLP.out]; omega))]
        have hkI : decide ((k : Int) < (k : Int)) = false := decide_eq_false (by omega)
        clear hnx hlt
        have BW : Hid (Below w.heap.size w wr) := HNX.out
        have O1 : Hid ((wr.alloc (.cells #[] 34)).ownsRow wr.heap.size 34 1 (.slice (some ⟨wr.heap.size, 0, none⟩) 0 0) 0 []) := own_zero wr _ _ _ _ rfl (Nat.le_refl _)
        have B1 : Hid (Below wr.heap.size wr (wr.alloc (.cells #[] 34))) := (Below.refl _ _).alloc (Nat.le_refl _) _
        have S1 : Hid (0 < k → ∃ ad, (some ⟨g, 0, none⟩ : Option Addr) = some ad ∧ ∀ j u, (lcells (rs.take k))[j]? = some u → (wr.alloc (.cells #[] 34)).cell? (ad.add j) = some u) := news_ls (isLs_pre (HI.out.below (Frame.next BW.out B1.out BW.out.size)) (by omega))
        have L1 : Hid ((lcells (rs.take k)).length = k * 1) := by show _ = _; rw [lcells_length, List.length_take, HL.out]; omega
        go_wp2_with (at_builtin; refine App.wpList_append_all _ rfl _ _ 26 rfl wr.heap.size 34 i0 (.slice none 0 0) 1 24 Try.underlying26 hi hz0 hz1 hz2 rfl (by decide) _ _ _ rfl O1.out _ k _ (lcells (rs.take k)) rfl L1.out S1.out (one_ls _) (by unfold maxLen; omega) (by omega) B1.out.size ?_)
        intro a2 c2 w2 hown2 hgrow2
        have O2 : Hid (w2.ownsRow wr.heap.size 34 1 (.slice a2 k c2) k (lcells (rs.take k))) := by show World.ownsRow _ _ _ _ _ _ _; simpa using hown2
        have B2 : Hid (Below wr.heap.size wr w2) := below_app B1.out O1.out hgrow2 B1.out.size (Nat.le_refl _)
        have hs2 := B2.out.size
        have hz2s : w2.heap.size = w2.heap.size := rfl
        have T2 : Hid (IsRow .i64 w2 ta tn tc ts) := IsRow.below HT.out (Frame.next BW.out B2.out BW.out.size)
        have R2 : Hid ((w2.alloc (.cells #[] 3)).ownsRow w2.heap.size 3 1 (.slice (some ⟨w2.heap.size, 0, none⟩) 0 0) 0 []) := own_zero w2 _ _ _ _ hz2s.symm (Nat.le_refl _)
        have B2a : Hid (Below w2.heap.size w2 (w2.alloc (.cells #[] 3))) := (Below.refl _ _).alloc (Nat.le_refl _) _
        have S2 : Hid (0 < tn → ∃ ad, ta = some ad ∧ ∀ j u, (ints .i64 ts)[j]? = some u → (w2.alloc (.cells #[] 3)).cell? (ad.add j) = some u) := news_row (IsRow.below T2.out B2a.out)
        have L2 : Hid ((ints .i64 ts).length = tn * 1) := by show _ = _; rw [ints_length, HTL.out, Nat.mul_one]
        clear hown2 hgrow2
        go_wp2_with (at_builtin; refine App.wpList_append_all _ rfl _ _ 34 rfl w2.heap.size 3 j0 (.int .i64 0) 1 8 Try.underlying34 hj jz0 jz1 jz2 rfl (by decide) _ _ _ rfl R2.out _ tn _ (ints .i64 ts) rfl L2.out S2.out (one_int ts) (by unfold maxLen; omega) (by omega) B2a.out.size ?_)
        intro a3 c3 w3 hown3 hgrow3
        have R3 : Hid (w3.ownsRow w2.heap.size 3 1 (.slice a3 tn c3) tn (ints .i64 ts)) := by show World.ownsRow _ _ _ _ _ _ _; simpa using hown3
        have B3 : Hid (Below w2.heap.size w2 w3) := below_app B2a.out R2.out hgrow3 B2a.out.size (Nat.le_refl _)
        have O3 : Hid (w3.ownsRow wr.heap.size 34 1 (.slice a2 k c2) k (lcells (rs.take k))) := own_below O2.out B3.out
        have O3a : Hid ((w3.alloc (.cells #[.slice a3 tn c3] 34)).ownsRow wr.heap.size 34 1 (.slice a2 k c2) k (lcells (rs.take k))) := own_below O3.out ((Below.refl _ _).alloc (Nat.le_refl _) _)
        have B3w : Hid (Below wr.heap.size wr w3) := Frame.next B2.out B3.out hs2
        have B3a : Hid (Below wr.heap.size wr (w3.alloc (.cells #[.slice a3 tn c3] 34))) := B3w.out.alloc B3w.out.size _
        have R3a : Hid ((w3.alloc (.cells #[.slice a3 tn c3] 34)).ownsRow w2.heap.size 3 1 (.slice a3 tn c3) tn (ints .i64 ts)) := own_below R3.out ((Below.refl _ _).alloc (Nat.le_refl _) _)
        have S3 : Hid (0 < 1 → ∃ ad, (some ⟨w3.heap.size, 0, none⟩ : Option Addr) = some ad ∧ ∀ j u, ([.slice a3 tn c3] : List Value)[j]? = some u → (w3.alloc (.cells #[.slice a3 tn c3] 34)).cell? (ad.add j) = some u) := news_one w3 _ _
        clear hown3 hgrow3
        go_wp2_with (at_builtin; refine App.wpList_append_all _ rfl _ _ 26 rfl wr.heap.size 34 i0 (.slice none 0 0) 1 24 Try.underlying26 hi hz0 hz1 hz2 rfl (by decide) _ _ _ rfl O3a.out _ 1 _ [.slice a3 tn c3] rfl rfl S3.out (by simp [Value.oneCell']) (by unfold maxLen; omega) (by omega) B3a.out.size ?_)
        intro a4 c4 w4 hown4 hgrow4
        have O4 : Hid (w4.ownsRow wr.heap.size 34 1 (.slice a4 (k + 1) c4) (k + 1) (lcells (rs.take k) ++ [.slice a3 tn c3])) := hown4
        have R4 : Hid (w4.ownsRow w2.heap.size 3 1 (.slice a3 tn c3) tn (ints .i64 ts)) := own_kept R3a.out O3a.out intNe hgrow4
        have B4 : Hid (Below wr.heap.size wr w4) := below_app B3a.out O3a.out hgrow4 B3a.out.size (Nat.le_refl _)
        have S4 : Hid (True) := trivial
        have L4 : Hid ((lcells (rs.drop k)).length = (0) * 1) := by show _ = _; rw [lcells_length, List.length_drop, HL.out, Nat.sub_self]
        clear hown4 hgrow4
        go_wp2_with (at_builtin; refine App.wpList_append_all _ rfl _ _ 26 rfl wr.heap.size 34 i0 (.slice none 0 0) 1 24 Try.underlying26 hi hz0 hz1 hz2 rfl (by decide) _ _ _ rfl O4.out _ (0) _ (lcells (rs.drop k)) rfl L4.out (fun h => absurd h (by omega)) (one_ls _) (by unfold maxLen; omega) (by omega) B4.out.size ?_)
        all_goals
          intro a5 c5 w5 hown5 hgrow5
          have FIN : Hid (∃ rs', OwnLs w5 base a5 (k + 1 + (0)) c5 rs' ∧ lplain rs' = insL ts (lplain rs) ∧ (∀ r ∈ rs', r.zs.length = tn) ∧ Below w.heap.size w w5) := add_end HIN.out HO.out HB.out HLN.out HTL.out HTW.out BW.out B4.out O4.out R4.out hs2 hown5 hgrow5
          clear hown5 hgrow5
          go_wp2
          go_ret
          obtain ⟨rs', f1, f2, f3, f4⟩ := FIN.out
          exact ⟨_, _, _, rs', rfl, f1, f2, by omega, by omega, f3, f4⟩


end Go.Proofs.Ytekheacbmbbpmaa.Sc
