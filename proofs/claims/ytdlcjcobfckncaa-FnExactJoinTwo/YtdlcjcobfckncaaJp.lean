/-
  Contract of the model's JoinTwo.
-/
import Derived.Test.YtdlcjcobfckncaaJo
import Derived.Test.YtdlcjcobfckncaaSip
import Derived.Test.YtdlcjcobfckncaaSd
namespace Go.Proofs.Ytdlcjcobfckncaa.Jp
open Go.RowKit
open Go.Proofs.Ytdlcjcobfckncaa.Frame Go.Proofs.Ytdlcjcobfckncaa.Mem Go.Proofs.Ytdlcjcobfckncaa.Ints Go.Proofs.Ytdlcjcobfckncaa.Kep Go.Proofs.Ytdlcjcobfckncaa.Lls Go.Proofs.Ytdlcjcobfckncaa.Rpu Go.Proofs.Ytdlcjcobfckncaa.Krl Go.Proofs.Ytdlcjcobfckncaa.Oa Go.Proofs.Ytdlcjcobfckncaa.Ob Go.Proofs.Ytdlcjcobfckncaa.Oe Go.Proofs.Ytdlcjcobfckncaa.Og Go.Proofs.Ytdlcjcobfckncaa.Mis Go.Proofs.Ytdlcjcobfckncaa.Told Go.Proofs.Ytdlcjcobfckncaa.Rel Go.Proofs.Ytdlcjcobfckncaa.Oc Go.Proofs.Ytdlcjcobfckncaa.Od Go.Proofs.Ytdlcjcobfckncaa.Req Go.Proofs.Ytdlcjcobfckncaa.Sc Go.Proofs.Ytdlcjcobfckncaa.Sa Go.Proofs.Ytdlcjcobfckncaa.Sd Go.Proofs.Ytdlcjcobfckncaa.Jo

theorem row_touch {k : IntKind} {w w' : World} {a a' : Option Addr} {n cap : Nat} {zs : List Int} (h : IsRow k w a n cap zs) (t : OnlyAt a' w w') (hne : 0 < n → ∀ x y, a = some x → a' = some y → x.block ≠ y.block) : IsRow k w' a n cap zs := by
  by_cases h0 : 0 < n
  · exact isRow_touch h t (hne h0)
  · exact ⟨h.len, h.fits, h.max, h.wf, fun hh => absurd hh h0⟩
theorem row_lt {k : IntKind} {w : World} {a : Option Addr} {n cap : Nat} {zs : List Int} (h : IsRow k w a n cap zs) (h0 : 0 < n) : ∀ x, a = some x → x.block < w.heap.size := by
  intro x hx
  obtain ⟨b, off, rfl, hb, _⟩ := h.cells h0
  cases hx
  exact hb
theorem own_at {w : World} {base : Nat} {e : TypeId} {a : Option Addr} {n c : Nat} {xs : List Value} (h : w.ownsRow base e 1 (.slice a n c) n xs) : (n = 0 ∧ a = none ∧ c = 0) ∨ ∃ g, a = some ⟨g, 0, none⟩ := by
  rcases h.2 with ⟨hv, hx⟩ | ⟨g, cap, cur, hv, _⟩
  · simp only [Value.slice.injEq] at hv
    exact Or.inl ⟨hv.2.1, hv.1, hv.2.2⟩
  · simp only [Value.slice.injEq] at hv
    exact Or.inr ⟨g, hv.1⟩
def nmL (a b : Rl) (k : Nat) : List Int := (b.1.take k).foldl (fun acc n => putN n acc) a.1
theorem nmL_succ {a b : Rl} {k : Nat} (h : k < b.1.length) : nmL a b (k + 1) = putN (b.1.getD k 0) (nmL a b k) := by
  unfold nmL
  rw [take_succ_getD h, List.foldl_append]
  rfl
def btL (a b : Rl) (k : Nat) : List Int := (b.1.take k).filter fun n => decide (0 ≤ Lib.idxOf a.1 n)
theorem btL_succ {a b : Rl} {k : Nat} (h : k < b.1.length) : btL a b (k + 1) = btL a b k ++ (if 0 ≤ Lib.idxOf a.1 (b.1.getD k 0) then [b.1.getD k 0] else []) := by
  unfold btL
  rw [take_succ_getD h, List.filter_append, List.filter_cons]
  simp

theorem tellL_snoc (l : Rel.Ll) (t : List Int) : tellL (l ++ [t]) = insL t (tellL l) := by unfold tellL; rw [List.foldl_append]; rfl
theorem joinRow_snoc (a b : Rl) (x : List Int) (ys : Rel.Ll) (y : List Int) : joinRow a b x (ys ++ [y]) = joinRow a b x ys ++ (if meetB a b x y then [joinT a b x y] else []) := by
  unfold joinRow
  rw [List.filter_append, List.map_append]
  congr 1
  by_cases h : meetB a b x y = true
  · simp [h]
  · simp [h]
def jUp (a b : Rl) (k : Nat) : Rel.Ll := (a.2.take k).flatMap fun x => joinRow a b x b.2
theorem jUp_succ {a b : Rl} {k : Nat} (h : k < a.2.length) : jUp a b (k + 1) = jUp a b k ++ joinRow a b (a.2.getD k []) b.2 := by
  unfold jUp
  rw [take_succ_l h, List.flatMap_append]
  simp
def tupF (a b : Rl) (x y : List Int) (n : Int) : Int := if 0 ≤ Lib.idxOf a.1 n then x.getD (Lib.idxOf a.1 n).toNat 0 else y.getD (Lib.idxOf b.1 n).toNat 0
def tupTo (a b : Rl) (x y : List Int) (j : Nat) : List Int := ((joinN a b).take j).map (tupF a b x y)
theorem tupTo_succ {a b : Rl} {x y : List Int} {j : Nat} (h : j < (joinN a b).length) : tupTo a b x y (j + 1) = tupTo a b x y j ++ [tupF a b x y ((joinN a b).getD j 0)] := by
  unfold tupTo
  rw [take_succ_getD h, List.map_append]
  rfl
theorem tupTo_all {a b : Rl} {x y : List Int} {n : Nat} (h : (joinN a b).length = n) : tupTo a b x y n = joinT a b x y := by
  unfold tupTo joinT
  rw [List.take_of_length_le (by omega)]
  rfl
theorem joinT_wf {a b : Rl} {x y : List Int} (hx : ∀ z ∈ x, (Lit.int .i64 z).wf = true) (hy : ∀ z ∈ y, (Lit.int .i64 z).wf = true) : ∀ z ∈ joinT a b x y, (Lit.int .i64 z).wf = true := by
  intro z hz
  unfold joinT at hz
  simp only [List.mem_map] at hz
  obtain ⟨n, _, rfl⟩ := hz
  have g : ∀ (l : List Int) (i : Nat), (∀ z ∈ l, (Lit.int .i64 z).wf = true) → (Lit.int .i64 (l.getD i 0)).wf = true := fun l i hl => by
    by_cases hi : i < l.length
    · exact hl _ (getD_mem hi)
    · have e : l.getD i 0 = 0 := by
        unfold List.getD
        rw [List.getElem?_eq_none (Nat.le_of_not_lt hi)]
        rfl
      rw [e]
      rfl
  split
  · exact g _ _ hx
  · exact g _ _ hy

set_option maxRecDepth 8000 in
set_option maxHeartbeats 12800000 in
theorem spec_JoinTwo (u t v s : Value) (a b : Rl) (w : World) (h1 : QIs w u t a) (h2 : QIs w v s b) : Calls Try.prog 8 #[.agg #[u, t], .agg #[v, s]] w (RTold (joinV a b) (joinG a b) w) := by
  obtain ⟨i0, hi, hz0, hz1, hz2⟩ := info_parts Jn.infoI
  have H1 : Hid (QIs w u t a) := h1
  have H2 : Hid (QIs w v s b) := h2
  obtain ⟨⟨ua, un, uc, rfl, hu, hun⟩, ta, tn, tc, rs, rfl, ht, hrs, htt⟩ := h1
  obtain ⟨⟨va, vn, vc, rfl, hv, hvn⟩, sa, sn, sc, qs, rfl, hs, hqs, hss⟩ := h2
  have HU : Hid (IsRow .i64 w ua un uc a.1) := hu
  have HV : Hid (IsRow .i64 w va vn vc b.1) := hv
  have HT : Hid (IsLs w ta tn tc rs) := ht
  have HS : Hid (IsLs w sa sn sc qs) := hs
  have HRS : Hid (lplain rs = a.2) := hrs
  have HQS : Hid (lplain qs = b.2) := hqs
  have HTL : Hid (rs.length = tn) := ht.len
  have HSL : Hid (qs.length = sn) := hs.len
  have HUL : Hid (a.1.length = un) := hu.len
  have HVL : Hid (b.1.length = vn) := hv.len
  have B2 : Hid (Below w.heap.size w (((w.alloc (.cells #[.slice ua un uc, .slice ta tn tc] 27)).alloc (.cells #[.slice va vn vc, .slice sa sn sc] 27)).alloc (.cells #[.slice none 0 0, .slice none 0 0] 27))) := (((Below.refl _ _).alloc (Nat.le_refl _) _).alloc (by simp) _).alloc (by simp; omega) _
  clear hu ht hrs htt hv hs hqs hss
  cases hga : goodR a.1 a.2
  · have HG : Hid (goodR a.1 a.2 = false) := hga
    have F : Hid (joinV a b = ([], []) ∧ joinG a b = false) := join_no (by unfold joinB; rw [hga]; rfl)
    clear hga
    go_enter Try.func8, Try.ntmps8
    go_wp2_with fail
    refine (Sb.spec_GoodRelation _ _ a _ (qIs_below H1.out B2.out)).mono ?_
    rintro e w1 ⟨rfl, hb1⟩
    rw [HG.out]
    obtain ⟨⟨d0, d1, d2, d3⟩, ⟨c0, c1, f0, f1, hs1⟩, b1⟩ := Oj.start3 hb1
    have B1 : Hid (Below w.heap.size w w1) := b1
    clear hb1 b1
    go_wp2
    refine bodyPost_ret (v := .tuple #[.agg #[.slice none 0 0, .slice none 0 0], .bool false]) (by simp [results, Try.results8, go_sem, c0, c1]) rfl ?_
    rw [F.out.1, F.out.2]
    exact told_none (by omega) B1.out
  have HGA : Hid (goodR a.1 a.2 = true) := hga
  cases hgb : goodR b.1 b.2
  · have HGB : Hid (goodR b.1 b.2 = false) := hgb
    have F : Hid (joinV a b = ([], []) ∧ joinG a b = false) := join_no (by unfold joinB; rw [hgb, Bool.and_false])
    clear hga hgb
    go_enter Try.func8, Try.ntmps8
    go_wp2_with fail
    refine (Sb.spec_GoodRelation _ _ a _ (qIs_below H1.out B2.out)).mono ?_
    rintro e w1 ⟨rfl, hb1⟩
    rw [HGA.out]
    obtain ⟨⟨d0, d1, d2, d3⟩, ⟨c0, c1, f0, f1, hs1⟩, b1⟩ := Oj.start3 hb1
    have B1 : Hid (Below w.heap.size w w1) := b1
    have C1 : Hid (w1.cell? ⟨w.heap.size + 1 + 1, 0, none⟩ = some (.slice none 0 0) ∧ w1.cell? ⟨w.heap.size + 1 + 1, 1, none⟩ = some (.slice none 0 0) ∧ w1.frozen? ⟨w.heap.size + 1 + 1, 0, none⟩ = false ∧ w1.frozen? ⟨w.heap.size + 1 + 1, 1, none⟩ = false ∧ w.heap.size + 1 + 1 + 1 ≤ w1.heap.size) := ⟨c0, c1, f0, f1, hs1⟩
    clear hb1 b1 c0 c1 f0 f1 d0 d1
    go_wp2_with fail
    refine (Sb.spec_GoodRelation _ _ b _ (qIs_below H2.out B1.out)).mono ?_
    rintro e w2 ⟨rfl, hb2⟩
    rw [HGB.out]
    obtain ⟨c0, c1, f0, f1, hs2⟩ := told_cells C1.out hb2
    have B3 : Hid (Below w.heap.size w w2) := Frame.next B1.out hb2 B1.out.size
    clear hb2 d2 d3
    go_wp2
    refine bodyPost_ret (v := .tuple #[.agg #[.slice none 0 0, .slice none 0 0], .bool false]) (by simp [results, Try.results8, go_sem, c0, c1]) rfl ?_
    rw [F.out.1, F.out.2]
    exact told_none (by omega) B3.out
  have HGB : Hid (goodR b.1 b.2 = true) := hgb
  have GA : Hid (Rel.Good a.1 a.2) := good_iff.1 hga
  have GB : Hid (Rel.Good b.1 b.2) := good_iff.1 hgb
  have F : Hid (joinV a b = tellV (joinN a b) (joinL a b) ∧ joinG a b = tellG (joinN a b) (joinL a b)) := join_yes (by unfold joinB; rw [hga, hgb]; rfl)
  have hmost : tn ≤ 60 := by
    have h1 := GA.out.most
    rw [← HRS.out, Oa.lplain_length, HTL.out] at h1
    exact h1
  have hmostb : sn ≤ 60 := by
    have h1 := GB.out.most
    rw [← HQS.out, Oa.lplain_length, HSL.out] at h1
    exact h1
  have hfew : un ≤ 6 := by have := GA.out.few; rw [HUL.out] at this; exact this
  have hfewb : vn ≤ 6 := by have := GB.out.few; rw [HVL.out] at this; exact this
  clear hga hgb
  go_enter Try.func8, Try.ntmps8
  go_wp2_with fail
  refine (Sb.spec_GoodRelation _ _ a _ (qIs_below H1.out B2.out)).mono ?_
  rintro e w1 ⟨rfl, hb1⟩
  rw [HGA.out]
  obtain ⟨⟨d0, d1, d2, d3⟩, ⟨c0, c1, f0, f1, hs1⟩, b1⟩ := Oj.start3 hb1
  have B1 : Hid (Below w.heap.size w w1) := b1
  have C1 : Hid (w1.cell? ⟨w.heap.size + 1 + 1, 0, none⟩ = some (.slice none 0 0) ∧ w1.cell? ⟨w.heap.size + 1 + 1, 1, none⟩ = some (.slice none 0 0) ∧ w1.frozen? ⟨w.heap.size + 1 + 1, 0, none⟩ = false ∧ w1.frozen? ⟨w.heap.size + 1 + 1, 1, none⟩ = false ∧ w.heap.size + 1 + 1 + 1 ≤ w1.heap.size) := ⟨c0, c1, f0, f1, hs1⟩
  have D1 : Hid (w1.cell? ⟨w.heap.size, 0, none⟩ = some (.slice ua un uc) ∧ w1.cell? ⟨w.heap.size, 1, none⟩ = some (.slice ta tn tc) ∧ w1.cell? ⟨w.heap.size + 1, 0, none⟩ = some (.slice va vn vc) ∧ w1.cell? ⟨w.heap.size + 1, 1, none⟩ = some (.slice sa sn sc)) := ⟨d0, d1, d2, d3⟩
  clear hb1 b1 c0 c1 f0 f1 d0 d1
  go_wp2_with fail
  refine (Sb.spec_GoodRelation _ _ b _ (qIs_below H2.out B1.out)).mono ?_
  rintro e w2 ⟨rfl, hb2⟩
  rw [HGB.out]
  have C2 : Hid (w2.cell? ⟨w.heap.size + 1 + 1, 0, none⟩ = some (.slice none 0 0) ∧ w2.cell? ⟨w.heap.size + 1 + 1, 1, none⟩ = some (.slice none 0 0) ∧ w2.frozen? ⟨w.heap.size + 1 + 1, 0, none⟩ = false ∧ w2.frozen? ⟨w.heap.size + 1 + 1, 1, none⟩ = false ∧ w.heap.size + 1 + 1 + 1 ≤ w2.heap.size) := told_cells C1.out hb2
  have D2 : Hid (w2.cell? ⟨w.heap.size, 0, none⟩ = some (.slice ua un uc) ∧ w2.cell? ⟨w.heap.size, 1, none⟩ = some (.slice ta tn tc) ∧ w2.cell? ⟨w.heap.size + 1, 0, none⟩ = some (.slice va vn vc) ∧ w2.cell? ⟨w.heap.size + 1, 1, none⟩ = some (.slice sa sn sc)) := ⟨Frame.held_cell hb2 D1.out.1, Frame.held_cell hb2 D1.out.2.1, Frame.held_cell hb2 D1.out.2.2.1, Frame.held_cell hb2 D1.out.2.2.2⟩
  have B3 : Hid (Below w.heap.size w w2) := Frame.next B1.out hb2 B1.out.size
  clear hb2 d2 d3
  have BE : Hid (Below w2.heap.size w2 (w2.alloc (.cells #[] 3))) := (Below.refl _ _).alloc (Nat.le_refl _) _
  have O0 : Hid ((w2.alloc (.cells #[] 3)).ownsRow w2.heap.size 3 1 (.slice (some ⟨w2.heap.size, 0, none⟩) 0 0) 0 []) := own_zero w2 w2.heap.size _ 1 _ rfl (Nat.le_refl _)
  have BZ : Hid (Below w.heap.size w (w2.alloc (.cells #[] 3))) := Frame.next B3.out BE.out B3.out.size
  have N0 : Hid (0 < un → ∃ ad, ua = some ad ∧ ∀ j u, (ints .i64 a.1)[j]? = some u → (w2.alloc (.cells #[] 3)).cell? (ad.add j) = some u) := news_row (IsRow.below HU.out BZ.out)
  have LU : Hid ((ints .i64 a.1).length = un * 1) := by show _ = _; rw [ints_length, HUL.out]; omega
  have e0 : (w2.alloc (.cells #[] 3)).cell? ⟨w.heap.size, 0, none⟩ = some (.slice ua un uc) := Frame.held_cell BE.out D2.out.1
  go_wp2_with (at_builtin; refine App.wpList_append_all _ rfl _ _ 22 rfl w2.heap.size 3 i0 (.int .i64 0) 1 8 Try.underlying22 hi hz0 hz1 hz2 rfl (by decide) _ _ _ rfl O0.out _ un _ (ints .i64 a.1) rfl LU.out N0.out (one_int _) (by unfold maxLen; omega) (by omega) BE.out.size ?_)
  intro a3 c3 w3 hown3 hgrow3
  have hown3' : w3.ownsRow w2.heap.size 3 1 (.slice a3 un c3) un (ints .i64 a.1) := hown3
  have AT3 : Hid ((un = 0 ∧ a3 = none ∧ c3 = 0) ∨ ∃ g, a3 = some ⟨g, 0, none⟩) := own_at hown3'
  have R3 : Hid (IsRow .i64 w3 a3 un c3 a.1) := Ol.own_row hown3' HU.out.wf
  have W3 : Hid (Below w2.heap.size w2 w3) := below_app BE.out O0.out hgrow3 BE.out.size (Nat.le_refl _)
  have e1 : w3.cell? ⟨w.heap.size + 1, 0, none⟩ = some (.slice va vn vc) := Frame.held_cell W3.out D2.out.2.2.1
  clear hown3 hgrow3 hown3' e0
  go_wp2_with fail
  clear e1
  go_loopw [6, 7, 35] (fun nv bv i wr => ∃ (k nm nc bm bc : Nat) (na ba : Option Addr), k ≤ vn ∧ nm ≤ un + k ∧ bm ≤ k ∧ i = .int .i64 k ∧ nv = .slice na nm nc ∧ bv = .slice ba bm bc ∧ IsRow .i64 wr na nm nc (nmL a b k) ∧ ((nm = 0 ∧ na = none ∧ nc = 0) ∨ ∃ g, na = some ⟨g, 0, none⟩) ∧ wr.ownsRow w2.heap.size 3 1 (.slice ba bm bc) bm (ints .i64 (btL a b k)) ∧ (0 < nm → ∀ x y, na = some x → ba = some y → x.block ≠ y.block) ∧ Below w2.heap.size w2 wr) (fun _ _ i _ => vn - (intOf i).toNat)
  case atStart => exact ⟨0, un, c3, 0, 0, a3, none, Nat.zero_le _, by omega, Nat.le_refl _, rfl, rfl, rfl, R3.out, AT3.out, World.ownsRow_nil _ _ _ _, fun _ x y _ hy => absurd hy (by simp), W3.out⟩
  case round =>
    obtain ⟨k, nm, nc, bm, bc, na, ba, hk, hnm, hbm, rfl, rfl, rfl, hN, hat, ho, hsep, hbw⟩ := hrel
    have HN : Hid (IsRow .i64 wr na nm nc (nmL a b k)) := hN
    have HAT : Hid ((nm = 0 ∧ na = none ∧ nc = 0) ∨ ∃ g, na = some ⟨g, 0, none⟩) := hat
    have HO : Hid (wr.ownsRow w2.heap.size 3 1 (.slice ba bm bc) bm (ints .i64 (btL a b k))) := ho
    have HSEP : Hid (0 < nm → ∀ x y, na = some x → ba = some y → x.block ≠ y.block) := hsep
    have HW : Hid (Below w2.heap.size w2 wr) := hbw
    clear hN hat ho hsep
    by_cases hlt : k < vn
    · obtain ⟨vb, vo, rfl, hvb, hvcell⟩ := HV.out.cells (by omega)
      have hkl : k < b.1.length := by rw [HVL.out]; exact hlt
      have p0 : wr.cell? ⟨vb, vo + k, none⟩ = some (.int .i64 (b.1.getD k 0)) := by rw [(Frame.next B3.out hbw B3.out.size).cell (p := ⟨vb, vo + k, none⟩) hvb]; exact hvcell k hlt
      have hwz : (Lit.int .i64 (b.1.getD k 0)).wf = true := HV.out.wf _ (getD_mem hkl)
      have HNX : Hid (nmL a b (k + 1) = putN (b.1.getD k 0) (nmL a b k)) := nmL_succ hkl
      have HBX : Hid (btL a b (k + 1) = btL a b k ++ (if 0 ≤ Lib.idxOf a.1 (b.1.getD k 0) then [b.1.getD k 0] else [])) := btL_succ hkl
      generalize b.1.getD k 0 = z at p0 hwz HNX HBX
      have HWZ : Hid ((Lit.int .i64 z).wf = true) := hwz
      have q0 : wr.cell? ⟨w.heap.size, 0, none⟩ = some (.slice ua un uc) := Frame.held_cell hbw D2.out.1
      have BWR : Hid (Below w.heap.size w wr) := Frame.next B3.out hbw B3.out.size
      clear hvcell hkl hvb hbw hwz
      go_wp2_with fail
      refine (spec_l3At _ _ _ a.1 z _ (IsRow.below HU.out BWR.out)).mono ?_
      rintro e w' ⟨rfl, hw'⟩; have hw'' := hw'.symm; clear hw'; subst hw''
      clear p0 q0
      by_cases hix : 0 ≤ Lib.idxOf a.1 z
      · have FB : Hid (btL a b (k + 1) = btL a b k ++ [z]) := by show _ = _; rw [HBX.out, if_pos hix]
        have BA : Hid (Below wr.heap.size wr (wr.alloc (.cells #[.int .i64 z] 3))) := (Below.refl _ _).alloc (Nat.le_refl _) _
        have HO1 : Hid ((wr.alloc (.cells #[.int .i64 z] 3)).ownsRow w2.heap.size 3 1 (.slice ba bm bc) bm (ints .i64 (btL a b k))) := own_below HO.out BA.out
        have HN1 : Hid (IsRow .i64 (wr.alloc (.cells #[.int .i64 z] 3)) na nm nc (nmL a b k)) := IsRow.below HN.out BA.out
        have HW1 : Hid (Below w2.heap.size w2 (wr.alloc (.cells #[.int .i64 z] 3))) := Frame.next HW.out BA.out HW.out.size
        have S1 : Hid (∀ j u, ([.int .i64 z] : List Value)[j]? = some u → (wr.alloc (.cells #[.int .i64 z] 3)).cell? ((⟨wr.heap.size, 0, none⟩ : Addr).add j) = some u) := by
          obtain ⟨ad, e, h⟩ := news_one wr (.int .i64 z) 3 (by omega)
          cases e
          exact h
        clear HBX
        go_wp2_with (at_builtin; refine wpList_append_lies _ rfl _ _ 22 rfl w2.heap.size 3 i0 (.int .i64 0) 1 8 Try.underlying22 hi hz0 hz1 hz2 rfl (by decide) _ _ _ rfl HO1.out _ 1 _ [.int .i64 z] rfl rfl S1.out (by simp [Value.oneCell']) (by omega) (by unfold maxLen; omega) (by omega) HW1.out.size (wr.heap.size + 1) (by simp) ?_)
        intro g4 c4 w4 hown4 hgrow4 hor4 hlt4
        have R4 : Hid (IsRow .i64 w4 na nm nc (nmL a b k)) := row_touch HN1.out (only_grown hgrow4) HSEP.out
        have O4 : Hid (w4.ownsRow w2.heap.size 3 1 (.slice (some ⟨g4, 0, none⟩) (bm + 1) c4) (bm + 1) (ints .i64 (btL a b (k + 1)))) := by show World.ownsRow _ _ _ _ _ _ _; rw [FB.out]; unfold ints at *; rw [List.map_append]; exact hown4
        have SEP4 : Hid (0 < nm → ∀ x, na = some x → x.block ≠ g4) := fun h0 x hx => by
          rcases hor4 with h4 | h4
          · cases ba with
            | none => simp [Value.ownBlock] at h4
            | some y =>
              have : y.block = g4 := by simpa [Value.ownBlock] using h4
              rw [← this]
              exact HSEP.out h0 x y hx rfl
          · have := row_lt HN.out h0 x hx
            omega
        have W4 : Hid (Below w2.heap.size w2 w4) := below_app HW1.out HO1.out hgrow4 HW1.out.size (Nat.le_refl _)
        have HLT4 : Hid (g4 < w4.heap.size) := hlt4
        clear hown4 hgrow4 hor4 hlt4
        go_wp2_with fail
        refine (Sip.spec_l1Put _ _ _ (nmL a b k) z _ R4.out HAT.out (by omega) HWZ.out).mono ?_
        rintro e w5 ⟨a5, m5, c5, rfl, hr5, ⟨g5, hg5, hor5⟩, hm5, hb5⟩
        have R5 : Hid (IsRow .i64 w5 a5 m5 c5 (nmL a b (k + 1))) := by show IsRow _ _ _ _ _ _; rw [HNX.out]; exact hr5
        have O5 : Hid (w5.ownsRow w2.heap.size 3 1 (.slice (some ⟨g4, 0, none⟩) (bm + 1) c4) (bm + 1) (ints .i64 (btL a b (k + 1)))) := own_below O4.out hb5
        have SEP5 : Hid (0 < m5 → ∀ x y, a5 = some x → (some ⟨g4, 0, none⟩ : Option Addr) = some y → x.block ≠ y.block) := fun _ x y hx hy => by
          cases hy
          rw [hg5] at hx
          cases hx
          rcases hor5 with ⟨h0, hna⟩ | h5
          · exact SEP4.out h0 _ hna
          · have := HLT4.out
            show g5 ≠ g4
            omega
        have W5 : Hid (Below w2.heap.size w2 w5) := Frame.next W4.out hb5 W4.out.size
        have AT5 : Hid ((m5 = 0 ∧ a5 = none ∧ c5 = 0) ∨ ∃ g, a5 = some ⟨g, 0, none⟩) := Or.inr ⟨g5, hg5⟩
        clear hr5 hg5 hor5 hb5
        go_wp2_with fail
        go_roundw
        case rel => exact ⟨k + 1, m5, c5, bm + 1, c4, a5, _, by omega, by omega, by omega, by go_num, rfl, rfl, R5.out, AT5.out, O5.out, SEP5.out, W5.out⟩
        case measure => simp [intOf]; omega
      · have FB : Hid (btL a b (k + 1) = btL a b k) := by show _ = _; rw [HBX.out, if_neg hix, List.append_nil]
        clear HBX
        go_wp2_with fail
        refine (Sip.spec_l1Put _ _ _ (nmL a b k) z _ HN.out HAT.out (by omega) HWZ.out).mono ?_
        rintro e w5 ⟨a5, m5, c5, rfl, hr5, ⟨g5, hg5, hor5⟩, hm5, hb5⟩
        have R5 : Hid (IsRow .i64 w5 a5 m5 c5 (nmL a b (k + 1))) := by show IsRow _ _ _ _ _ _; rw [HNX.out]; exact hr5
        have O5 : Hid (w5.ownsRow w2.heap.size 3 1 (.slice ba bm bc) bm (ints .i64 (btL a b (k + 1)))) := by show World.ownsRow _ _ _ _ _ _ _; rw [FB.out]; exact own_below HO.out hb5
        have SEP5 : Hid (0 < m5 → ∀ x y, a5 = some x → ba = some y → x.block ≠ y.block) := fun _ x y hx hy => by
          rw [hg5] at hx
          cases hx
          rcases hor5 with ⟨h0, hna⟩ | h5
          · exact HSEP.out h0 _ y hna hy
          · have := (own_block HO.out y hy).2
            show g5 ≠ y.block
            omega
        have W5 : Hid (Below w2.heap.size w2 w5) := Frame.next HW.out hb5 HW.out.size
        have AT5 : Hid ((m5 = 0 ∧ a5 = none ∧ c5 = 0) ∨ ∃ g, a5 = some ⟨g, 0, none⟩) := Or.inr ⟨g5, hg5⟩
        clear hr5 hg5 hor5 hb5
        go_wp2_with fail
        go_roundw
        case rel => exact ⟨k + 1, m5, c5, bm, bc, a5, ba, by omega, by omega, by omega, by go_num, rfl, rfl, R5.out, AT5.out, O5.out, SEP5.out, W5.out⟩
        case measure => simp [intOf]; omega
    · obtain rfl : k = vn := by omega
      have RN : Hid (IsRow .i64 wr na nm nc (joinN a b)) := by
        have h := HN.out
        unfold nmL at h
        rw [List.take_of_length_le (by rw [HVL.out]; exact Nat.le_refl _)] at h
        exact h
      have RB : Hid (IsRow .i64 wr ba bm bc (bothN a b)) := by
        have h := HO.out
        unfold btL at h
        rw [List.take_of_length_le (by rw [HVL.out]; exact Nat.le_refl _)] at h
        exact Ol.own_row h (fun z hz => HV.out.wf z (List.mem_filter.1 hz).1)
      have HNL : Hid ((joinN a b).length = nm) := RN.out.len
      have BWR : Hid (Below w.heap.size w wr) := Frame.next B3.out hbw B3.out.size
      have CW : Hid (wr.cell? ⟨w.heap.size + 1 + 1, 0, none⟩ = some (.slice none 0 0) ∧ wr.cell? ⟨w.heap.size + 1 + 1, 1, none⟩ = some (.slice none 0 0) ∧ wr.frozen? ⟨w.heap.size + 1 + 1, 0, none⟩ = false ∧ wr.frozen? ⟨w.heap.size + 1 + 1, 1, none⟩ = false ∧ w.heap.size + 1 + 1 + 1 ≤ wr.heap.size) := told_cells C2.out hbw
      have DW : Hid (wr.cell? ⟨w.heap.size, 0, none⟩ = some (.slice ua un uc) ∧ wr.cell? ⟨w.heap.size, 1, none⟩ = some (.slice ta tn tc) ∧ wr.cell? ⟨w.heap.size + 1, 0, none⟩ = some (.slice va k vc) ∧ wr.cell? ⟨w.heap.size + 1, 1, none⟩ = some (.slice sa sn sc)) := ⟨Frame.held_cell hbw D2.out.1, Frame.held_cell hbw D2.out.2.1, Frame.held_cell hbw D2.out.2.2.1, Frame.held_cell hbw D2.out.2.2.2⟩
      have HSA : Hid (∀ z ∈ bothN a b, z ∈ a.1) := fun z hz => (idx_nonneg _ _).1 (of_decide_eq_true (List.mem_filter.1 hz).2)
      have HSB : Hid (∀ z ∈ bothN a b, z ∈ b.1) := fun z hz => (List.mem_filter.1 hz).1
      have hnm12 : nm ≤ 12 := by omega
      have hbm6 : bm ≤ 6 := by omega
      have q1 := DW.out.2.1
      clear hbw hnm hbm HN HAT HO HSEP HW hlt
      go_wp2_with fail
      clear q1
      rename World => wo
      go_loopw [10, 55] (fun lv i wr => ∃ (i1 n1 c1 : Nat) (a1 : Option Addr) (ls : List LV), i1 ≤ tn ∧ n1 ≤ i1 * 60 ∧ i = .int .i64 i1 ∧ lv = .slice a1 n1 c1 ∧ OwnLs wr wo.heap.size a1 n1 c1 ls ∧ (n1 = 0 → a1 = none) ∧ (∀ r ∈ ls, r.zs.length = nm) ∧ lplain ls = tellL (jUp a b i1) ∧ Below wo.heap.size wo wr) (fun _ i _ => tn - (intOf i).toNat)
      case atStart => exact ⟨0, 0, 0, none, [], Nat.zero_le _, Nat.le_refl _, rfl, rfl, ⟨World.ownsRow_nil _ _ _ _, fun r hr => absurd hr (by simp), fun r hr => absurd hr (by simp), List.Pairwise.nil, fun r hr => absurd hr (by simp)⟩, fun _ => rfl, fun r hr => absurd hr (by simp), rfl, Below.refl _ _⟩
      case round =>
        obtain ⟨i1, n1, c1, a1, ls, hi1, hn1, rfl, rfl, hol, hnil, hlen, hpl, hbw⟩ := hrel
        have HOL : Hid (OwnLs wr wo.heap.size a1 n1 c1 ls) := hol
        have HNIL : Hid (n1 = 0 → a1 = none) := hnil
        have HLN : Hid (∀ r ∈ ls, r.zs.length = nm) := hlen
        have HPL : Hid (lplain ls = tellL (jUp a b i1)) := hpl
        have HBW : Hid (Below wo.heap.size wo wr) := hbw
        clear hol hnil hlen hpl
        by_cases hlt : i1 < tn
        · obtain ⟨tb, to, rfl, htb, htc⟩ := HT.out.cells (by omega)
          have hkl : i1 < rs.length := by rw [HTL.out]; exact hlt
          have BW2 := Frame.next BWR.out hbw BWR.out.size
          have p0 : wr.cell? ⟨tb, to + i1, none⟩ = some (.slice (rs.getD i1 ld).a (rs.getD i1 ld).n (rs.getD i1 ld).c) := by rw [BW2.cell (p := ⟨tb, to + i1, none⟩) htb]; exact htc i1 hlt
          have rx := HT.out.rows _ (getD_mem_ld hkl)
          have lx : (rs.getD i1 ld).zs.length = un := by
            have h1 := GA.out.wide (rs.getD i1 ld).zs (by rw [← HRS.out]; exact List.mem_map_of_mem (getD_mem_ld hkl))
            rw [h1, HUL.out]
          have HUP : Hid (jUp a b (i1 + 1) = jUp a b i1 ++ joinRow a b (rs.getD i1 ld).zs b.2) := by
            show _ = _
            rw [jUp_succ (by rw [← HRS.out, Oa.lplain_length]; exact hkl), ← HRS.out, lplain_get rs i1 hkl]
          generalize rs.getD i1 ld = x at p0 rx lx HUP
          obtain ⟨xa, xn, xc, xs⟩ := x
          simp only at p0 rx lx
          have HUP' : Hid (jUp a b (i1 + 1) = jUp a b i1 ++ joinRow a b xs b.2) := HUP.out
          have hxn : xn = un := by rw [← rx.len]; exact lx
          have RX : Hid (IsRow .i64 w xa xn xc xs) := rx
          have HXN : Hid (xn = un) := hxn
          have q1 : wr.cell? ⟨w.heap.size + 1, 1, none⟩ = some (.slice sa sn sc) := Frame.held_cell hbw DW.out.2.2.2
          have hxn6 : xn ≤ 6 := by omega
          clear htc hkl rx lx HUP hbw hxn BW2 htb
          go_wp2_with fail
          clear p0 q1
          rename World => wp
          go_loopw [10, 62] (fun lv j wr => ∃ (l n1 c1 : Nat) (a1 : Option Addr) (ls : List LV), l ≤ sn ∧ n1 ≤ i1 * 60 + l ∧ j = .int .i64 l ∧ lv = .slice a1 n1 c1 ∧ OwnLs wr wo.heap.size a1 n1 c1 ls ∧ (n1 = 0 → a1 = none) ∧ (∀ r ∈ ls, r.zs.length = nm) ∧ lplain ls = tellL (jUp a b i1 ++ joinRow a b xs (b.2.take l)) ∧ Below wo.heap.size wo wr) (fun _ j _ => sn - (intOf j).toNat)
          case atStart => exact ⟨0, n1, c1, a1, ls, Nat.zero_le _, by omega, rfl, rfl, HOL.out, HNIL.out, HLN.out, by rw [HPL.out, List.take_zero]; exact congrArg tellL (List.append_nil _).symm, HBW.out⟩
          case round =>
            clear HOL HNIL HLN HPL HBW hn1
            obtain ⟨l, n1, c1, a1, ls, hl, hn1, rfl, rfl, hol, hnil, hlen, hpl, hbw⟩ := hrel
            have HOL : Hid (OwnLs wr wo.heap.size a1 n1 c1 ls) := hol
            have HNIL : Hid (n1 = 0 → a1 = none) := hnil
            have HLN : Hid (∀ r ∈ ls, r.zs.length = nm) := hlen
            have HPL : Hid (lplain ls = tellL (jUp a b i1 ++ joinRow a b xs (b.2.take l))) := hpl
            have HBW : Hid (Below wo.heap.size wo wr) := hbw
            clear hol hnil hlen hpl
            by_cases hlt2 : l < sn
            · obtain ⟨sb, so, rfl, hsb, hsc⟩ := HS.out.cells (by omega)
              have hll : l < qs.length := by rw [HSL.out]; exact hlt2
              have BW2 : Hid (Below w.heap.size w wr) := Frame.next BWR.out hbw BWR.out.size
              have p0 : wr.cell? ⟨sb, so + l, none⟩ = some (.slice (qs.getD l ld).a (qs.getD l ld).n (qs.getD l ld).c) := by rw [BW2.out.cell (p := ⟨sb, so + l, none⟩) hsb]; exact hsc l hlt2
              have ry := HS.out.rows _ (getD_mem_ld hll)
              have ly : (qs.getD l ld).zs.length = k := by
                have h1 := GB.out.wide (qs.getD l ld).zs (by rw [← HQS.out]; exact List.mem_map_of_mem (getD_mem_ld hll))
                rw [h1, HVL.out]
              have HRW : Hid (joinRow a b xs (b.2.take (l + 1)) = joinRow a b xs (b.2.take l) ++ (if meetB a b xs (qs.getD l ld).zs then [joinT a b xs (qs.getD l ld).zs] else [])) := by
                show _ = _
                rw [take_succ_l (by rw [← HQS.out, Oa.lplain_length]; exact hll), joinRow_snoc, ← HQS.out, lplain_get qs l hll]
              generalize qs.getD l ld = y at p0 ry ly HRW
              obtain ⟨ya, yn, yc, ys⟩ := y
              simp only at p0 ry ly
              have HRW' : Hid (joinRow a b xs (b.2.take (l + 1)) = joinRow a b xs (b.2.take l) ++ (if meetB a b xs ys then [joinT a b xs ys] else [])) := HRW.out
              have hyn : yn = k := by rw [← ry.len]; exact ly
              have HYN : Hid (yn = k) := hyn
              have RY : Hid (IsRow .i64 w ya yn yc ys) := ry
              have RN' : Hid (IsRow .i64 wr na nm nc (joinN a b)) := IsRow.below RN.out hbw
              have RB' : Hid (IsRow .i64 wr.drew ba bm bc (bothN a b)) := IsRow.below (IsRow.below RB.out hbw) ((Below.refl _ _).drew)
              have S0 : Hid (wr.drew.cell? ⟨w.heap.size, 0, none⟩ = some (.slice ua un uc) ∧ wr.drew.cell? ⟨w.heap.size + 1, 0, none⟩ = some (.slice va k vc)) := ⟨Frame.held_cell hbw DW.out.1, Frame.held_cell hbw DW.out.2.2.1⟩
              have BD : Hid (Below wr.heap.size wr wr.drew) := (Below.refl _ _).drew
              have hyn6 : yn ≤ 6 := by omega
              clear hsc hll ry ly HRW hbw hyn hsb
              go_wp2_with fail
              clear p0
              go_region_held3 (fun W => W.cell? ⟨w.heap.size, 0, none⟩ = some (.slice ua un uc) ∧ W.cell? ⟨w.heap.size + 1, 0, none⟩ = some (.slice va k vc)) (first | with_reducible exact S3.out | with_reducible exact S2.out | with_reducible exact S1.out | with_reducible exact S0.out) (first | (go_at_call_has 33 uc; refine (spec_l3Pick _ _ _ _ _ _ _ _ _ a.1 xs (bothN a b) _ (IsRow.below HU.out (Frame.next BW2.out BD.out BW2.out.size)) (IsRow.below RX.out (Frame.next BW2.out BD.out BW2.out.size)) RB'.out (by omega) HXN.out HSA.out).mono ?_; rintro e w4 ⟨a4, c4, rfl, ho4, hw4, hb4⟩; have S1 : Hid (w4.cell? ⟨w.heap.size, 0, none⟩ = some (.slice ua un uc) ∧ w4.cell? ⟨w.heap.size + 1, 0, none⟩ = some (.slice va k vc)) := ⟨Frame.held_cell hb4 S0.out.1, Frame.held_cell hb4 S0.out.2⟩; have R4 : Hid (IsRow .i64 w4 a4 bm c4 (pick a.1 xs (bothN a b))) := Ol.own_row ho4 hw4; have W4 : Hid (Below wr.heap.size wr w4) := Frame.next BD.out hb4 BD.out.size; have RB4 : Hid (IsRow .i64 w4 ba bm bc (bothN a b)) := IsRow.below RB'.out hb4; clear ho4 hw4 hb4) | (go_at_call_has 33 vc; refine (spec_l3Pick _ _ _ _ _ _ _ _ _ b.1 ys (bothN a b) _ (IsRow.below HV.out (Frame.next BW2.out W4.out BW2.out.size)) (IsRow.below RY.out (Frame.next BW2.out W4.out BW2.out.size)) RB4.out (by omega) HYN.out HSB.out).mono ?_; rintro e w5 ⟨a5, c5, rfl, ho5, hw5, hb5⟩; have S2 : Hid (w5.cell? ⟨w.heap.size, 0, none⟩ = some (.slice ua un uc) ∧ w5.cell? ⟨w.heap.size + 1, 0, none⟩ = some (.slice va k vc)) := ⟨Frame.held_cell hb5 S1.out.1, Frame.held_cell hb5 S1.out.2⟩; have R5 : Hid (IsRow .i64 w5 a5 bm c5 (pick b.1 ys (bothN a b))) := Ol.own_row ho5 hw5; have R4' : Hid (IsRow .i64 w5 a4 bm c4 (pick a.1 xs (bothN a b))) := IsRow.below R4.out hb5; have W5 : Hid (Below wr.heap.size wr w5) := Frame.next W4.out hb5 W4.out.size; clear ho5 hw5 hb5) | (go_at_call 32; refine (spec_l1Same _ _ _ _ _ _ _ _ _ R4'.out R5.out).mono ?_; rintro e w6 ⟨rfl, hb6⟩; have S3 : Hid (w6.cell? ⟨w.heap.size, 0, none⟩ = some (.slice ua un uc) ∧ w6.cell? ⟨w.heap.size + 1, 0, none⟩ = some (.slice va k vc)) := ⟨Frame.held_cell hb6 S2.out.1, Frame.held_cell hb6 S2.out.2⟩; have W6 : Hid (Below wr.heap.size wr w6) := Frame.next W5.out hb6 W5.out.size; clear hb6))
              have J6 : Hid (OwnLs w6 wo.heap.size a1 n1 c1 ls) := HOL.out.below W6.out
              have B6 : Hid (Below wo.heap.size wo w6) := Frame.next HBW.out W6.out HBW.out.size
              have RN6 : Hid (IsRow .i64 w6 na nm nc (joinN a b)) := IsRow.below RN'.out W6.out
              have BW6 : Hid (Below w.heap.size w w6) := Frame.next BW2.out W6.out BW2.out.size
              rw [show decide (pick a.1 xs (bothN a b) = pick b.1 ys (bothN a b)) = meetB a b xs ys from rfl]
              clear S0 S1 S2 S3 R4 R4' R5 RB4 RB' W4 W5 BD HOL HBW RN'
              cases hm : meetB a b xs ys
              · have FR : Hid (joinRow a b xs (b.2.take (l + 1)) = joinRow a b xs (b.2.take l)) := by show _ = _; rw [HRW'.out, hm]; exact List.append_nil _
                clear hm HRW'
                go_wp2_with fail
                go_roundw
                case rel => exact ⟨l + 1, n1, c1, a1, ls, by omega, by omega, by go_num, rfl, J6.out, HNIL.out, HLN.out, by rw [FR.out]; exact HPL.out, B6.out⟩
                case measure => simp [intOf]; omega
              · have FR : Hid (joinRow a b xs (b.2.take (l + 1)) = joinRow a b xs (b.2.take l) ++ [joinT a b xs ys]) := by show _ = _; rw [HRW'.out, hm]; rfl
                clear hm HRW'
                go_wp2_with fail
                go_loopw [15, 80] (fun tv j wr => ∃ (q tc' : Nat) (ta' : Option Addr), q ≤ nm ∧ j = .int .i64 q ∧ tv = .slice ta' q tc' ∧ wr.ownsRow w6.heap.size 3 1 (.slice ta' q tc') q (ints .i64 (tupTo a b xs ys q)) ∧ Below w6.heap.size w6 wr) (fun _ j _ => nm - (intOf j).toNat)
                case atStart => exact ⟨0, 0, none, Nat.zero_le _, rfl, rfl, World.ownsRow_nil _ _ _ _, Below.refl _ _⟩
                case round =>
                  rename World => wq
                  obtain ⟨q, tc', ta', hq, rfl, rfl, ho, hbq⟩ := hrel
                  have HO : Hid (wq.ownsRow w6.heap.size 3 1 (.slice ta' q tc') q (ints .i64 (tupTo a b xs ys q))) := ho
                  have HBQ : Hid (Below w6.heap.size w6 wq) := hbq
                  clear ho
                  by_cases hlt3 : q < nm
                  · obtain ⟨nb, no, rfl, hnb, hnc⟩ := RN6.out.cells (by omega)
                    have hql : q < (joinN a b).length := by rw [HNL.out]; exact hlt3
                    have p0 : wq.cell? ⟨nb, no + q, none⟩ = some (.int .i64 ((joinN a b).getD q 0)) := by rw [hbq.cell (p := ⟨nb, no + q, none⟩) hnb]; exact hnc q hlt3
                    have HTS : Hid (tupTo a b xs ys (q + 1) = tupTo a b xs ys q ++ [tupF a b xs ys ((joinN a b).getD q 0)]) := tupTo_succ hql
                    have hmem := (mem_joinN GA.out.upN _).1 (getD_mem hql)
                    have BWQ : Hid (Below w.heap.size w wq) := Frame.next BW6.out hbq BW6.out.size
                    have D6a : wq.cell? ⟨w.heap.size, 0, none⟩ = some (.slice ua un uc) := Frame.held_cell hbq (Frame.held_cell B6.out DW.out.1)
                    have D6b : wq.cell? ⟨w.heap.size + 1, 0, none⟩ = some (.slice va k vc) := Frame.held_cell hbq (Frame.held_cell B6.out DW.out.2.2.1)
                    have D6 : Hid (wq.cell? ⟨w.heap.size + 1, 0, none⟩ = some (.slice va k vc)) := D6b
                    generalize (joinN a b).getD q 0 = z at p0 HTS hmem
                    have HMEM : Hid (z ∈ a.1 ∨ z ∈ b.1) := hmem
                    clear hnc hql hnb hbq hmem D6b
                    go_wp2_with fail
                    refine (spec_l3At _ _ _ a.1 z _ (IsRow.below HU.out BWQ.out)).mono ?_
                    rintro e w' ⟨rfl, hw'⟩; have hw'' := hw'.symm; clear hw'; subst hw''
                    clear p0 D6a
                    by_cases hix : 0 ≤ Lib.idxOf a.1 z
                    · have hin := (idx_at ((idx_nonneg _ _).1 hix)).1
                      have hie := (idx_at ((idx_nonneg _ _).1 hix)).2.1
                      have FT : Hid (tupTo a b xs ys (q + 1) = tupTo a b xs ys q ++ [xs.getD (Lib.idxOf a.1 z).toNat 0]) := by show _ = _; rw [HTS.out]; unfold tupF; rw [if_pos hix]
                      rw [HUL.out] at hin
                      rw [hie]
                      generalize (Lib.idxOf a.1 z).toNat = ix at hin FT
                      obtain ⟨xb, xo, rfl, hxb, hxc⟩ := RX.out.cells (by have := HXN.out; omega)
                      have x0 : wq.cell? ⟨xb, xo + ix, none⟩ = some (.int .i64 (xs.getD ix 0)) := by rw [BWQ.out.cell (p := ⟨xb, xo + ix, none⟩) hxb]; exact hxc ix (by have := HXN.out; omega)
                      have hix0 : (0 : Int) ≤ (ix : Int) := by omega
                      have hix1 : (ix : Int) < (xn : Int) := by have := HXN.out; omega
                      generalize xs.getD ix 0 = t at x0 FT
                      have BA : Hid (Below wq.heap.size wq (wq.alloc (.cells #[.int .i64 t] 3))) := (Below.refl _ _).alloc (Nat.le_refl _) _
                      have HO1 : Hid ((wq.alloc (.cells #[.int .i64 t] 3)).ownsRow w6.heap.size 3 1 (.slice ta' q tc') q (ints .i64 (tupTo a b xs ys q))) := own_below HO.out BA.out
                      have HB1 : Hid (Below w6.heap.size w6 (wq.alloc (.cells #[.int .i64 t] 3))) := Frame.next HBQ.out BA.out HBQ.out.size
                      have S1 : Hid (0 < 1 → ∃ ad, (some ⟨wq.heap.size, 0, none⟩ : Option Addr) = some ad ∧ ∀ j u, ([.int .i64 t] : List Value)[j]? = some u → (wq.alloc (.cells #[.int .i64 t] 3)).cell? (ad.add j) = some u) := news_one wq _ _
                      clear hxb hxc hin hie hix HTS
                      go_wp2_with (at_builtin; refine App.wpList_append_all _ rfl _ _ 22 rfl w6.heap.size 3 i0 (.int .i64 0) 1 8 Try.underlying22 hi hz0 hz1 hz2 rfl (by decide) _ _ _ rfl HO1.out _ 1 _ [.int .i64 t] rfl rfl S1.out (by simp [Value.oneCell']) (by unfold maxLen; omega) (by omega) HB1.out.size ?_)
                      intro a7 c7 w7 hown7 hgrow7
                      have O7 : Hid (w7.ownsRow w6.heap.size 3 1 (.slice a7 (q + 1) c7) (q + 1) (ints .i64 (tupTo a b xs ys (q + 1)))) := by show World.ownsRow _ _ _ _ _ _ _; rw [FT.out]; unfold ints at *; rw [List.map_append]; exact hown7
                      have B7 : Hid (Below w6.heap.size w6 w7) := below_app HB1.out HO1.out hgrow7 HB1.out.size (Nat.le_refl _)
                      clear hown7 hgrow7 x0
                      go_wp2
                      go_roundw
                      case rel =>
                        refine ⟨_, _, _, _, _, _, _, _, _, _, _, _, _, _, _, _, _, _, _, _, _, _, _, _, _, _, _, _, _, _, _, ?_, rfl⟩
                        exact ⟨q + 1, c7, a7, by omega, by go_num, rfl, O7.out, B7.out⟩
                      case measure => simp [intOf]; omega
                    · have hzb : z ∈ b.1 := HMEM.out.resolve_left fun h => hix ((idx_nonneg _ _).2 h)
                      have hin := (idx_at hzb).1
                      have hie := (idx_at hzb).2.1
                      have FT : Hid (tupTo a b xs ys (q + 1) = tupTo a b xs ys q ++ [ys.getD (Lib.idxOf b.1 z).toNat 0]) := by show _ = _; rw [HTS.out]; unfold tupF; rw [if_neg hix]
                      have HIE : Hid (Lib.idxOf b.1 z = (((Lib.idxOf b.1 z).toNat : Nat) : Int)) := hie
                      rw [HVL.out] at hin
                      have d0 := D6.out
                      clear hie hzb HTS
                      go_wp2_with fail
                      refine (spec_l3At _ _ _ b.1 z _ (IsRow.below HV.out BWQ.out)).mono ?_
                      rintro e w' ⟨rfl, hw'⟩; have hw'' := hw'.symm; clear hw'; subst hw''
                      rw [HIE.out]
                      clear d0
                      generalize (Lib.idxOf b.1 z).toNat = ix at hin FT HIE
                      obtain ⟨yb, yo, rfl, hyb, hyc⟩ := RY.out.cells (by have := HYN.out; omega)
                      have y0 : wq.cell? ⟨yb, yo + ix, none⟩ = some (.int .i64 (ys.getD ix 0)) := by rw [BWQ.out.cell (p := ⟨yb, yo + ix, none⟩) hyb]; exact hyc ix (by have := HYN.out; omega)
                      have hix0 : (0 : Int) ≤ (ix : Int) := by omega
                      have hix1 : (ix : Int) < (yn : Int) := by have := HYN.out; omega
                      generalize ys.getD ix 0 = t at y0 FT
                      have BA : Hid (Below wq.heap.size wq (wq.alloc (.cells #[.int .i64 t] 3))) := (Below.refl _ _).alloc (Nat.le_refl _) _
                      have HO1 : Hid ((wq.alloc (.cells #[.int .i64 t] 3)).ownsRow w6.heap.size 3 1 (.slice ta' q tc') q (ints .i64 (tupTo a b xs ys q))) := own_below HO.out BA.out
                      have HB1 : Hid (Below w6.heap.size w6 (wq.alloc (.cells #[.int .i64 t] 3))) := Frame.next HBQ.out BA.out HBQ.out.size
                      have S1 : Hid (0 < 1 → ∃ ad, (some ⟨wq.heap.size, 0, none⟩ : Option Addr) = some ad ∧ ∀ j u, ([.int .i64 t] : List Value)[j]? = some u → (wq.alloc (.cells #[.int .i64 t] 3)).cell? (ad.add j) = some u) := news_one wq _ _
                      clear hyb hyc hin
                      go_wp2_with (at_builtin; refine App.wpList_append_all _ rfl _ _ 22 rfl w6.heap.size 3 i0 (.int .i64 0) 1 8 Try.underlying22 hi hz0 hz1 hz2 rfl (by decide) _ _ _ rfl HO1.out _ 1 _ [.int .i64 t] rfl rfl S1.out (by simp [Value.oneCell']) (by unfold maxLen; omega) (by omega) HB1.out.size ?_)
                      intro a7 c7 w7 hown7 hgrow7
                      have O7 : Hid (w7.ownsRow w6.heap.size 3 1 (.slice a7 (q + 1) c7) (q + 1) (ints .i64 (tupTo a b xs ys (q + 1)))) := by show World.ownsRow _ _ _ _ _ _ _; rw [FT.out]; unfold ints at *; rw [List.map_append]; exact hown7
                      have B7 : Hid (Below w6.heap.size w6 w7) := below_app HB1.out HO1.out hgrow7 HB1.out.size (Nat.le_refl _)
                      clear hown7 hgrow7 y0
                      go_wp2
                      go_roundw
                      case rel =>
                        refine ⟨_, _, _, _, _, _, _, _, _, _, _, _, _, _, _, _, _, _, _, _, _, _, _, _, _, _, _, _, _, _, _, ?_, rfl⟩
                        exact ⟨q + 1, c7, a7, by omega, by go_num, rfl, O7.out, B7.out⟩
                      case measure => simp [intOf]; omega
                  · obtain rfl : q = nm := by omega
                    have RT : Hid (IsRow .i64 wq ta' q tc' (joinT a b xs ys)) := by
                      have h := HO.out
                      rw [tupTo_all HNL.out] at h
                      exact Ol.own_row h (joinT_wf RX.out.wf RY.out.wf)
                    have J7 : Hid (OwnLs wq wo.heap.size a1 n1 c1 ls) := J6.out.below HBQ.out
                    have B7 : Hid (Below wo.heap.size wo wq) := Frame.next B6.out HBQ.out B6.out.size
                    clear hbq
                    go_wp2_with fail
                    refine (spec_l3Add _ _ _ _ _ _ ls (joinT a b xs ys) wo.heap.size _ J7.out B7.out.size HNIL.out RT.out (by omega) (by omega) HLN.out).mono ?_
                    rintro e w8 ⟨a8, n8, c8, ls8, rfl, ho8, hp8, h08, hn8, hl8, hb8⟩
                    have J8 : Hid (OwnLs w8 wo.heap.size a8 n8 c8 ls8) := ho8
                    have P8 : Hid (lplain ls8 = tellL (jUp a b i1 ++ joinRow a b xs (b.2.take (l + 1)))) := by show _ = _; rw [FR.out, ← List.append_assoc, tellL_snoc, ← HPL.out]; exact hp8
                    have L8 : Hid (∀ r ∈ ls8, r.zs.length = q) := hl8
                    have B8 : Hid (Below wo.heap.size wo w8) := Frame.next B7.out hb8 B7.out.size
                    clear ho8 hp8 hl8 hb8
                    go_wp2_with fail
                    go_roundw
                    case rel => exact ⟨l + 1, n8, c8, a8, ls8, by omega, by omega, by go_num, rfl, J8.out, fun h => absurd h (by omega), L8.out, P8.out, B8.out⟩
                    case measure => simp [intOf]; omega
            · obtain rfl : l = sn := by omega
              have FE : Hid (lplain ls = tellL (jUp a b (i1 + 1))) := by
                show _ = _
                rw [HUP'.out, HPL.out, List.take_of_length_le (by rw [← HQS.out, Oa.lplain_length, HSL.out]; exact Nat.le_refl _)]
              clear hbw
              go_wp2_with fail
              go_roundw
              case rel => exact ⟨i1 + 1, n1, c1, a1, ls, by omega, by omega, by go_num, rfl, HOL.out, HNIL.out, HLN.out, FE.out, HBW.out⟩
              case measure => simp [intOf]; omega
        · obtain rfl : i1 = tn := by omega
          have FE : Hid (lplain ls = tellL (joinL a b)) := by
            show _ = _
            rw [HPL.out]
            unfold jUp joinL
            rw [List.take_of_length_le (by rw [← HRS.out, Oa.lplain_length, HTL.out]; exact Nat.le_refl _)]
          have FT : Hid (tellV (joinN a b) (lplain ls) = tellV (joinN a b) (joinL a b) ∧ tellG (joinN a b) (lplain ls) = tellG (joinN a b) (joinL a b)) := by
            unfold tellV tellG
            rw [FE.out, tell_twice (joinL_length (a := a) (b := b))]
            exact ⟨rfl, rfl⟩
          have CQ : Hid (wr.cell? ⟨w.heap.size + 1 + 1, 0, none⟩ = some (.slice none 0 0) ∧ wr.cell? ⟨w.heap.size + 1 + 1, 1, none⟩ = some (.slice none 0 0) ∧ wr.frozen? ⟨w.heap.size + 1 + 1, 0, none⟩ = false ∧ wr.frozen? ⟨w.heap.size + 1 + 1, 1, none⟩ = false ∧ w.heap.size + 1 + 1 + 1 ≤ wr.heap.size) := told_cells CW.out hbw
          have B9 : Hid (Below w.heap.size w wr) := Frame.next BWR.out hbw BWR.out.size
          have RN9 : Hid (IsRow .i64 wr na nm nc (joinN a b)) := IsRow.below RN.out hbw
          have LS9 : Hid (IsLs wr a1 n1 c1 ls) := HOL.out.isLs
          have hn36 : n1 ≤ 3600 := by omega
          have hsm : n1 * (nm + 1) ≤ 1048576 := by
            have h1 : n1 * (nm + 1) ≤ 3600 * 13 := Nat.mul_le_mul (by omega) (by omega)
            omega
          clear hbw
          go_wp2_with fail
          refine (spec_l3Tell _ _ _ _ _ _ nm (joinN a b) ls _ RN9.out LS9.out (by omega) (by omega) (by omega) HLN.out hsm).mono ?_
          rintro e w9 ⟨pa, pn, pc, xa, xn, xc, rfl, hq9, hb9⟩
          rw [FT.out.1] at hq9
          rw [FT.out.2]
          obtain ⟨c0, c1', f0, f1, hs9⟩ := told_cells CQ.out hb9
          have Q9 : Hid (QOwn w9 wr.heap.size w9.heap.size (.slice pa pn pc) (.slice xa xn xc) (tellV (joinN a b) (joinL a b))) := hq9
          have BB : Hid (Below w.heap.size w w9) := Frame.next B9.out hb9 B9.out.size
          clear hq9 hb9
          go_wp2
          refine bodyPost_ret (v := .tuple #[.agg #[.slice pa pn pc, .slice xa xn xc], .bool (tellG (joinN a b) (joinL a b))]) (by simp [results, Try.results8, go_sem, c0, c1']) rfl ?_
          rw [F.out.1, F.out.2]
          exact told_end (by omega) (by have := B9.out.size; omega) CQ.out.2.2.2.2 Q9.out BB.out


end Go.Proofs.Ytdlcjcobfckncaa.Jp
