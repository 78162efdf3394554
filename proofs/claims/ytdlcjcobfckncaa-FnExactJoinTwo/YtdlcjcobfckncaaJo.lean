/-
  Contract of the program's JoinTwo.
-/
import Derived.Test.YtdlcjcobfckncaaJn
import Derived.Test.YtdlcjcobfckncaaOj
import Derived.Test.YtdlcjcobfckncaaOl
import Derived.Test.YtdlcjcobfckncaaSc
import Derived.Test.YtdlcjcobfckncaaReq
import Derived.Sort.AtCall
namespace Go.Proofs.Ytdlcjcobfckncaa.Jo
open Go.RowKit
open Go.Proofs.Ytdlcjcobfckncaa.Frame Go.Proofs.Ytdlcjcobfckncaa.Mem Go.Proofs.Ytdlcjcobfckncaa.Ints Go.Proofs.Ytdlcjcobfckncaa.Kep Go.Proofs.Ytdlcjcobfckncaa.Lls Go.Proofs.Ytdlcjcobfckncaa.Rpu Go.Proofs.Ytdlcjcobfckncaa.Krl Go.Proofs.Ytdlcjcobfckncaa.Oa Go.Proofs.Ytdlcjcobfckncaa.Ob Go.Proofs.Ytdlcjcobfckncaa.Oe Go.Proofs.Ytdlcjcobfckncaa.Og Go.Proofs.Ytdlcjcobfckncaa.Mis Go.Proofs.Ytdlcjcobfckncaa.Told Go.Proofs.Ytdlcjcobfckncaa.Rel Go.Proofs.Ytdlcjcobfckncaa.Oc Go.Proofs.Ytdlcjcobfckncaa.Od Go.Proofs.Ytdlcjcobfckncaa.Req Go.Proofs.Ytdlcjcobfckncaa.Sc

/-- The pairs while they are made: their row, its tuples, all made behind V. -/
structure JP (V W : World) (a' : Option Addr) (m c' : Nat) (ps : List LV) : Prop where
  own : W.ownsRow V.heap.size 22 1 (.slice a' m c') m (lcells ps)
  rows : ∀ x ∈ ps, OwnR W V.heap.size x
  below : Below V.heap.size V W
theorem JP.call {V W W' : World} {a' : Option Addr} {m c' : Nat} {ps : List LV} (h : JP V W a' m c' ps) (hb : Below W.heap.size W W') : JP V W' a' m c' ps :=
  ⟨own_below h.own hb, fun x hx => ownR_below (h.rows x hx) hb, Frame.next h.below hb h.below.size⟩
theorem JP.more {V W W' : World} {a' a4 : Option Addr} {m c' c4 : Nat} {ps : List LV} {x : LV} (h : JP V W a' m c' ps) (hx : OwnR W V.heap.size x) (ho : W'.ownsRow V.heap.size 22 1 (.slice a4 (m + 1) c4) (m + 1) (lcells ps ++ [.slice x.a x.n x.c])) (hg : W.grownBy W' (Value.slice a' m c').ownBlock) : JP V W' a4 (m + 1) c4 (ps ++ [x]) := by
  refine ⟨by rw [lcells_append]; exact ho, fun y hy => ?_, below_app h.below h.own hg h.below.size (Nat.le_refl _)⟩
  rcases List.mem_append.1 hy with hy | hy
  · exact ownR_kept (h.rows y hy) h.own hg
  · rw [List.mem_singleton.1 hy]; exact ownR_kept hx h.own hg
theorem JP.ls {V W : World} {a' : Option Addr} {m c' : Nat} {ps : List LV} (h : JP V W a' m c' ps) : IsLs W a' m c' ps := isLs_outer h.own fun x hx => ownR_is (h.rows x hx)

theorem pairRow_snoc (a b : Rl) (x : List Int) (ys : Rel.Ll) (y : List Int) : pairRow a b x (ys ++ [y]) = pairRow a b x ys ++ (if meetC a b x y then [x ++ y] else []) := by
  unfold pairRow
  rw [List.filter_append, List.map_append]
  congr 1
  by_cases h : meetC a b x y = true
  · simp [h]
  · simp [h]
theorem take_succ_l {ts : Rel.Ll} {k : Nat} (h : k < ts.length) : ts.take (k + 1) = ts.take k ++ [ts.getD k []] := by
  rw [List.take_succ_eq_append_getElem h]
  simp [List.getD, h]
def upTo (a b : Rl) (k : Nat) : Rel.Ll := (a.2.take k).flatMap fun x => pairRow a b x b.2
theorem upTo_succ {a b : Rl} {k : Nat} (h : k < a.2.length) : upTo a b (k + 1) = upTo a b k ++ pairRow a b (a.2.getD k []) b.2 := by
  unfold upTo
  rw [take_succ_l h, List.flatMap_append]
  simp
theorem pick_wf {ns xs some : List Int} (h : ∀ z ∈ xs, (Lit.int .i64 z).wf = true) : ∀ z ∈ pick ns xs some, (Lit.int .i64 z).wf = true := by
  intro z hz
  rw [← picked_is] at hz
  simp only [List.mem_map] at hz
  obtain ⟨p, _, rfl⟩ := hz
  by_cases hp : p.toNat < xs.length
  · exact h _ (getD_mem hp)
  · have e : xs.getD p.toNat 0 = 0 := by
      unfold List.getD
      rw [List.getElem?_eq_none (Nat.le_of_not_lt hp)]
      rfl
    rw [e]
    rfl
theorem join_no {a b : Rl} (h : joinB a b = false) : joinV a b = ([], []) ∧ joinG a b = false := by
  unfold joinV joinG
  rw [h]
  exact ⟨rfl, rfl⟩
theorem join_yes {a b : Rl} (h : joinB a b = true) : joinV a b = tellV (joinN a b) (joinL a b) ∧ joinG a b = tellG (joinN a b) (joinL a b) := by
  unfold joinV joinG
  rw [h]
  exact ⟨rfl, rfl⟩
theorem pair_long {a b : Rl} {l : Nat} (hx : ∀ x ∈ a.2, x.length = a.1.length) (hy : ∀ y ∈ b.2, y.length = b.1.length) (hl : l = a.1.length + b.1.length) : ∀ t ∈ pairsL a b, t.length = l := by
  intro t ht
  unfold pairsL pairRow at ht
  simp only [List.mem_flatMap, List.mem_map, List.mem_filter] at ht
  obtain ⟨x, hx', y, ⟨hy', _⟩, rfl⟩ := ht
  rw [List.length_append, hx x hx', hy y hy', hl]

set_option maxRecDepth 8000 in
set_option maxHeartbeats 12800000 in
theorem impl_JoinTwo (u t v s : Value) (a b : Rl) (w : World) (h1 : QIs w u t a) (h2 : QIs w v s b) : Calls Try.prog 10 #[.agg #[u, t], .agg #[v, s]] w (RTold (joinV a b) (joinG a b) w) := by
  obtain ⟨i0, hi, hz0, hz1, hz2⟩ := info_parts infoL
  have H1 : Hid (QIs w u t a) := h1
  have H2 : Hid (QIs w v s b) := h2
  obtain ⟨⟨ua, un, uc, rfl, hu, hun⟩, ta, tn, tc, rs, rfl, ht, hrs, htt⟩ := h1
  obtain ⟨⟨va, vn, vc, rfl, hv, hvn⟩, sa, sn, sc, qs, rfl, hs, hqs, hss⟩ := h2
  have HU : Hid (IsRow .i64 w ua un uc a.1) := hu
  have HV : Hid (IsRow .i64 w va vn vc b.1) := hv
  have HT : Hid (IsLs w ta tn tc rs) := ht
  have HS : Hid (IsLs w sa sn sc qs) := hs
  have HRS : Hid (lplain rs = a.2) := hrs
  have HQS : Hid (lplain qs = b.2) := hqs
  have HTL : Hid (rs.length = tn) := ht.len
  have HSL : Hid (qs.length = sn) := hs.len
  have HUL : Hid (a.1.length = un) := hu.len
  have HVL : Hid (b.1.length = vn) := hv.len
  have B2 : Hid (Below w.heap.size w (((w.alloc (.cells #[.slice ua un uc, .slice ta tn tc] 27)).alloc (.cells #[.slice va vn vc, .slice sa sn sc] 27)).alloc (.cells #[.slice none 0 0, .slice none 0 0] 27))) := (((Below.refl _ _).alloc (Nat.le_refl _) _).alloc (by simp) _).alloc (by simp; omega) _
  clear hu ht hrs htt hv hs hqs hss
  cases hga : goodR a.1 a.2
  · have HG : Hid (goodR a.1 a.2 = false) := hga
    have F : Hid (joinV a b = ([], []) ∧ joinG a b = false) := join_no (by unfold joinB; rw [hga]; rfl)
    clear hga
    go_enter Try.func10, Try.ntmps10
    go_wp2_with fail
    refine (impl_GoodRelation _ _ a _ (qIs_below H1.out B2.out)).mono ?_
    rintro e w1 ⟨rfl, hb1⟩
    rw [HG.out]
    obtain ⟨⟨d0, d1, d2, d3⟩, ⟨c0, c1, f0, f1, hs1⟩, b1⟩ := Oj.start3 hb1
    have B1 : Hid (Below w.heap.size w w1) := b1
    clear hb1 b1
    go_wp2
    refine bodyPost_ret (v := .tuple #[.agg #[.slice none 0 0, .slice none 0 0], .bool false]) (by simp [results, Try.results10, go_sem, c0, c1]) rfl ?_
    rw [F.out.1, F.out.2]
    exact told_none (by omega) B1.out
  have HGA : Hid (goodR a.1 a.2 = true) := hga
  cases hgb : goodR b.1 b.2
  · have HGB : Hid (goodR b.1 b.2 = false) := hgb
    have F : Hid (joinV a b = ([], []) ∧ joinG a b = false) := join_no (by unfold joinB; rw [hgb, Bool.and_false])
    clear hga hgb
    go_enter Try.func10, Try.ntmps10
    go_wp2_with fail
    refine (impl_GoodRelation _ _ a _ (qIs_below H1.out B2.out)).mono ?_
    rintro e w1 ⟨rfl, hb1⟩
    rw [HGA.out]
    obtain ⟨⟨d0, d1, d2, d3⟩, ⟨c0, c1, f0, f1, hs1⟩, b1⟩ := Oj.start3 hb1
    have B1 : Hid (Below w.heap.size w w1) := b1
    have C1 : Hid (w1.cell? ⟨w.heap.size + 1 + 1, 0, none⟩ = some (.slice none 0 0) ∧ w1.cell? ⟨w.heap.size + 1 + 1, 1, none⟩ = some (.slice none 0 0) ∧ w1.frozen? ⟨w.heap.size + 1 + 1, 0, none⟩ = false ∧ w1.frozen? ⟨w.heap.size + 1 + 1, 1, none⟩ = false ∧ w.heap.size + 1 + 1 + 1 ≤ w1.heap.size) := ⟨c0, c1, f0, f1, hs1⟩
    clear hb1 b1 c0 c1 f0 f1 d0 d1
    go_wp2_with fail
    refine (impl_GoodRelation _ _ b _ (qIs_below H2.out B1.out)).mono ?_
    rintro e w2 ⟨rfl, hb2⟩
    rw [HGB.out]
    obtain ⟨c0, c1, f0, f1, hs2⟩ := told_cells C1.out hb2
    have B3 : Hid (Below w.heap.size w w2) := Frame.next B1.out hb2 B1.out.size
    clear hb2 d2 d3
    go_wp2
    refine bodyPost_ret (v := .tuple #[.agg #[.slice none 0 0, .slice none 0 0], .bool false]) (by simp [results, Try.results10, go_sem, c0, c1]) rfl ?_
    rw [F.out.1, F.out.2]
    exact told_none (by omega) B3.out
  have HGB : Hid (goodR b.1 b.2 = true) := hgb
  have GA : Hid (Rel.Good a.1 a.2) := good_iff.1 hga
  have GB : Hid (Rel.Good b.1 b.2) := good_iff.1 hgb
  have F : Hid (joinV a b = tellV (joinN a b) (joinL a b) ∧ joinG a b = tellG (joinN a b) (joinL a b)) := join_yes (by unfold joinB; rw [hga, hgb]; rfl)
  have hmost : tn ≤ 60 := by
    have h1 := GA.out.most
    rw [← HRS.out, Oa.lplain_length, HTL.out] at h1
    exact h1
  have hmostb : sn ≤ 60 := by
    have h1 := GB.out.most
    rw [← HQS.out, Oa.lplain_length, HSL.out] at h1
    exact h1
  have hfew : un ≤ 6 := by have := GA.out.few; rw [HUL.out] at this; exact this
  have hfewb : vn ≤ 6 := by have := GB.out.few; rw [HVL.out] at this; exact this
  have HPA : Hid (∀ p ∈ (commonN a b).map (fun z => Lib.idxOf a.1 z), 0 ≤ p ∧ p < (un : Int)) := by rw [← HUL.out]; exact places_in fun z hz => (List.mem_filter.1 hz).1
  have HPB : Hid (∀ p ∈ (commonN a b).map (fun z => Lib.idxOf b.1 z), 0 ≤ p ∧ p < (vn : Int)) := by rw [← HVL.out]; exact places_in fun z hz => of_decide_eq_true (List.mem_filter.1 hz).2
  clear hga hgb
  go_enter Try.func10, Try.ntmps10
  go_wp2_with fail
  refine (impl_GoodRelation _ _ a _ (qIs_below H1.out B2.out)).mono ?_
  rintro e w1 ⟨rfl, hb1⟩
  rw [HGA.out]
  obtain ⟨⟨d0, d1, d2, d3⟩, ⟨c0, c1, f0, f1, hs1⟩, b1⟩ := Oj.start3 hb1
  have B1 : Hid (Below w.heap.size w w1) := b1
  have C1 : Hid (w1.cell? ⟨w.heap.size + 1 + 1, 0, none⟩ = some (.slice none 0 0) ∧ w1.cell? ⟨w.heap.size + 1 + 1, 1, none⟩ = some (.slice none 0 0) ∧ w1.frozen? ⟨w.heap.size + 1 + 1, 0, none⟩ = false ∧ w1.frozen? ⟨w.heap.size + 1 + 1, 1, none⟩ = false ∧ w.heap.size + 1 + 1 + 1 ≤ w1.heap.size) := ⟨c0, c1, f0, f1, hs1⟩
  have D1 : Hid (w1.cell? ⟨w.heap.size, 0, none⟩ = some (.slice ua un uc) ∧ w1.cell? ⟨w.heap.size, 1, none⟩ = some (.slice ta tn tc) ∧ w1.cell? ⟨w.heap.size + 1, 0, none⟩ = some (.slice va vn vc) ∧ w1.cell? ⟨w.heap.size + 1, 1, none⟩ = some (.slice sa sn sc)) := ⟨d0, d1, d2, d3⟩
  clear hb1 b1 c0 c1 f0 f1 d0 d1
  go_wp2_with fail
  refine (impl_GoodRelation _ _ b _ (qIs_below H2.out B1.out)).mono ?_
  rintro e w2 ⟨rfl, hb2⟩
  rw [HGB.out]
  have C2 : Hid (w2.cell? ⟨w.heap.size + 1 + 1, 0, none⟩ = some (.slice none 0 0) ∧ w2.cell? ⟨w.heap.size + 1 + 1, 1, none⟩ = some (.slice none 0 0) ∧ w2.frozen? ⟨w.heap.size + 1 + 1, 0, none⟩ = false ∧ w2.frozen? ⟨w.heap.size + 1 + 1, 1, none⟩ = false ∧ w.heap.size + 1 + 1 + 1 ≤ w2.heap.size) := told_cells C1.out hb2
  have D2 : Hid (w2.cell? ⟨w.heap.size, 0, none⟩ = some (.slice ua un uc) ∧ w2.cell? ⟨w.heap.size, 1, none⟩ = some (.slice ta tn tc) ∧ w2.cell? ⟨w.heap.size + 1, 0, none⟩ = some (.slice va vn vc) ∧ w2.cell? ⟨w.heap.size + 1, 1, none⟩ = some (.slice sa sn sc)) := ⟨Frame.held_cell hb2 D1.out.1, Frame.held_cell hb2 D1.out.2.1, Frame.held_cell hb2 D1.out.2.2.1, Frame.held_cell hb2 D1.out.2.2.2⟩
  have B3 : Hid (Below w.heap.size w w2) := Frame.next B1.out hb2 B1.out.size
  clear hb2 d2 d3
  have HCL : Hid (∀ x ∈ a.1, ∀ w3, Below w2.heap.size w2 w3 → Calls Try.prog 40 (#[.int .i64 x] ++ #[.pointer (some ⟨w.heap.size + 1, 0, none⟩)]) w3 fun e w4 => e = .returned (.bool (decide (x ∈ b.1))) ∧ Below w3.heap.size w3 w4) := fun x _ w3 hb3 =>
    Jn.join_closure x (w.heap.size + 1) vn vc va b.1 w3 (Frame.held_cell hb3 D2.out.2.2.1) (IsRow.below HV.out (Frame.next B3.out hb3 B3.out.size)) hvn GB.out.upN
  have e1 := D2.out.1
  go_wp2_with fail
  refine (Jn.kept_int _ _ _ a.1 40 _ (fun x => decide (x ∈ b.1)) _ (IsRow.below HU.out B3.out) (by omega) (Jn.enters Try.func40 (by kernel_rfl) rfl) HCL.out).mono ?_
  rintro e w3 ⟨a3, m3, c3, rfl, hm3, ho3, hb3⟩
  have B4 : Hid (Below w.heap.size w w3) := Frame.next B3.out hb3 B3.out.size
  have hwfc : ∀ z ∈ commonN a b, (Lit.int .i64 z).wf = true := fun z hz => HU.out.wf z (List.mem_filter.1 hz).1
  have RC3 : Hid (IsRow .i64 w3 a3 m3 c3 (commonN a b)) := Ol.own_row ho3 hwfc
  have C3 : Hid (w3.cell? ⟨w.heap.size + 1 + 1, 0, none⟩ = some (.slice none 0 0) ∧ w3.cell? ⟨w.heap.size + 1 + 1, 1, none⟩ = some (.slice none 0 0) ∧ w3.frozen? ⟨w.heap.size + 1 + 1, 0, none⟩ = false ∧ w3.frozen? ⟨w.heap.size + 1 + 1, 1, none⟩ = false ∧ w.heap.size + 1 + 1 + 1 ≤ w3.heap.size) := told_cells C2.out hb3
  have D3 : Hid (w3.cell? ⟨w.heap.size, 0, none⟩ = some (.slice ua un uc) ∧ w3.cell? ⟨w.heap.size, 1, none⟩ = some (.slice ta tn tc) ∧ w3.cell? ⟨w.heap.size + 1, 0, none⟩ = some (.slice va vn vc) ∧ w3.cell? ⟨w.heap.size + 1, 1, none⟩ = some (.slice sa sn sc)) := ⟨Frame.held_cell hb3 D2.out.1, Frame.held_cell hb3 D2.out.2.1, Frame.held_cell hb3 D2.out.2.2.1, Frame.held_cell hb3 D2.out.2.2.2⟩
  clear ho3 hb3 e1 HCL hwfc
  have BD : Hid (Below w3.heap.size w3 w3.drew) := (Below.refl _ _).drew
  have S0 : Hid (w3.drew.cell? ⟨w.heap.size, 0, none⟩ = some (.slice ua un uc) ∧ w3.drew.cell? ⟨w.heap.size + 1, 0, none⟩ = some (.slice va vn vc)) := ⟨D3.out.1, D3.out.2.2.1⟩
  go_wp2_with fail
  go_region_held3 (fun W => W.cell? ⟨w.heap.size, 0, none⟩ = some (.slice ua un uc) ∧ W.cell? ⟨w.heap.size + 1, 0, none⟩ = some (.slice va vn vc)) (first | with_reducible exact S2.out | with_reducible exact S1.out | with_reducible exact S0.out) (first | (go_at_call_has 43 uc; refine (impl_placesOf _ _ _ _ _ _ a.1 (commonN a b) _ (IsRow.below HU.out (Frame.next B4.out BD.out B4.out.size)) (IsRow.below RC3.out BD.out) (by omega)).mono ?_; rintro e w4 ⟨rfl, ho4, hb4⟩; have S1 : Hid (w4.cell? ⟨w.heap.size, 0, none⟩ = some (.slice ua un uc) ∧ w4.cell? ⟨w.heap.size + 1, 0, none⟩ = some (.slice va vn vc)) := ⟨Frame.held_cell hb4 S0.out.1, Frame.held_cell hb4 S0.out.2⟩; have O4 : Hid (w4.ownsRow w3.heap.size 3 1 (.slice (some ⟨w3.heap.size, 0, none⟩) m3 m3) m3 (ints .i64 ((commonN a b).map fun z => Lib.idxOf a.1 z))) := ho4; have W4 : Hid (Below w3.heap.size w3 w4) := Frame.next BD.out hb4 BD.out.size; clear ho4 hb4) | (go_at_call_has 43 vc; refine (impl_placesOf _ _ _ _ _ _ b.1 (commonN a b) _ (IsRow.below HV.out (Frame.next B4.out W4.out B4.out.size)) (IsRow.below RC3.out W4.out) (by omega)).mono ?_; rintro e w5 ⟨rfl, ho5, hb5⟩; have S2 : Hid (w5.cell? ⟨w.heap.size, 0, none⟩ = some (.slice ua un uc) ∧ w5.cell? ⟨w.heap.size + 1, 0, none⟩ = some (.slice va vn vc)) := ⟨Frame.held_cell hb5 S1.out.1, Frame.held_cell hb5 S1.out.2⟩; have O5 : Hid (w5.ownsRow w4.heap.size 3 1 (.slice (some ⟨w4.heap.size, 0, none⟩) m3 m3) m3 (ints .i64 ((commonN a b).map fun z => Lib.idxOf b.1 z))) := ho5; have O4' : Hid (w5.ownsRow w3.heap.size 3 1 (.slice (some ⟨w3.heap.size, 0, none⟩) m3 m3) m3 (ints .i64 ((commonN a b).map fun z => Lib.idxOf a.1 z))) := own_below O4.out hb5; have W5 : Hid (Below w3.heap.size w3 w5) := Frame.next W4.out hb5 W4.out.size; clear ho5 hb5))
  have RA : Hid (IsRow .i64 w5 (some ⟨w3.heap.size, 0, none⟩) m3 m3 ((commonN a b).map fun z => Lib.idxOf a.1 z)) := Ol.own_row O4'.out (fun p hp => by have := HPA.out p hp; exact int_wf p (by omega) (by omega))
  have RB : Hid (IsRow .i64 w5 (some ⟨w4.heap.size, 0, none⟩) m3 m3 ((commonN a b).map fun z => Lib.idxOf b.1 z)) := Ol.own_row O5.out (fun p hp => by have := HPB.out p hp; exact int_wf p (by omega) (by omega))
  have B5 : Hid (Below w.heap.size w w5) := Frame.next B4.out W5.out B4.out.size
  have C5 : Hid (w5.cell? ⟨w.heap.size + 1 + 1, 0, none⟩ = some (.slice none 0 0) ∧ w5.cell? ⟨w.heap.size + 1 + 1, 1, none⟩ = some (.slice none 0 0) ∧ w5.frozen? ⟨w.heap.size + 1 + 1, 0, none⟩ = false ∧ w5.frozen? ⟨w.heap.size + 1 + 1, 1, none⟩ = false ∧ w.heap.size + 1 + 1 + 1 ≤ w5.heap.size) := told_cells C3.out W5.out
  have D5 : Hid (w5.cell? ⟨w.heap.size, 0, none⟩ = some (.slice ua un uc) ∧ w5.cell? ⟨w.heap.size, 1, none⟩ = some (.slice ta tn tc) ∧ w5.cell? ⟨w.heap.size + 1, 0, none⟩ = some (.slice va vn vc) ∧ w5.cell? ⟨w.heap.size + 1, 1, none⟩ = some (.slice sa sn sc)) := ⟨Frame.held_cell W5.out D3.out.1, Frame.held_cell W5.out D3.out.2.1, Frame.held_cell W5.out D3.out.2.2.1, Frame.held_cell W5.out D3.out.2.2.2⟩
  have BE : Hid (Below w5.heap.size w5 (w5.alloc (.cells #[] 22))) := (Below.refl _ _).alloc (Nat.le_refl _) _
  have J0 : Hid (JP w5 (w5.alloc (.cells #[] 22)) (some ⟨w5.heap.size, 0, none⟩) 0 0 []) := ⟨own_zero w5 w5.heap.size _ 1 _ rfl (Nat.le_refl _), fun x hx => absurd hx (by simp), BE.out⟩
  have e1 : (w5.alloc (.cells #[] 22)).cell? ⟨w.heap.size, 1, none⟩ = some (.slice ta tn tc) := Frame.held_cell BE.out D5.out.2.1
  clear O4 O4' O5 S0 S1 S2 W4 W5 BD RC3 C3 D3 C1 C2 D1 D2
  go_wp2_with fail
  clear e1
  go_loopw [9, 40] (fun v i wr => ∃ (k m : Nat) (a' : Option Addr) (c' : Nat) (ps : List LV), k ≤ tn ∧ m ≤ k * 60 ∧ i = .int .i64 k ∧ v = .slice a' m c' ∧ JP w5 wr a' m c' ps ∧ lplain ps = upTo a b k) (fun _ i _ => tn - (intOf i).toNat)
  case atStart => exact ⟨0, 0, _, _, [], Nat.zero_le _, Nat.le_refl _, rfl, rfl, J0.out, rfl⟩
  case round =>
    obtain ⟨k, m, a', c', ps, hk, hmk, rfl, rfl, hj, hpl⟩ := hrel
    have HJ : Hid (JP w5 wr a' m c' ps) := hj
    have HP : Hid (lplain ps = upTo a b k) := hpl
    have hbw := hj.below
    clear hj hpl
    by_cases hlt : k < tn
    · obtain ⟨tb, to, rfl, htb, htc⟩ := HT.out.cells (by omega)
      have hkl : k < rs.length := by rw [HTL.out]; exact hlt
      have p0 : wr.cell? ⟨tb, to + k, none⟩ = some (.slice (rs.getD k ld).a (rs.getD k ld).n (rs.getD k ld).c) := by rw [(Frame.next B5.out hbw B5.out.size).cell (p := ⟨tb, to + k, none⟩) htb]; exact htc k hlt
      have rx := HT.out.rows _ (getD_mem_ld hkl)
      have lx : (rs.getD k ld).zs.length = un := by
        have h1 := GA.out.wide (rs.getD k ld).zs (by rw [← HRS.out]; exact List.mem_map_of_mem (getD_mem_ld hkl))
        rw [h1, HUL.out]
      have HUP : Hid (upTo a b (k + 1) = upTo a b k ++ pairRow a b (rs.getD k ld).zs b.2) := by
        show _ = _
        rw [upTo_succ (by rw [← HRS.out, Oa.lplain_length]; exact hkl), ← HRS.out, lplain_get rs k hkl]
      generalize rs.getD k ld = x at p0 rx lx HUP
      obtain ⟨xa, xn, xc, xs⟩ := x
      simp only at p0 rx lx
      have HUP' : Hid (upTo a b (k + 1) = upTo a b k ++ pairRow a b xs b.2) := HUP.out
      have hxn : xn = un := by rw [← rx.len]; exact lx
      have RX : Hid (IsRow .i64 w xa xn xc xs) := rx
      have HXN : Hid (xn = un) := hxn
      have q1 : wr.cell? ⟨w.heap.size + 1, 1, none⟩ = some (.slice sa sn sc) := Frame.held_cell hbw D5.out.2.2.2
      have hxn6 : xn ≤ 6 := by omega
      clear htc hkl rx lx HUP hbw hxn
      go_wp2_with fail
      clear p0 q1
      rename World => wo
      go_loopw [9, 47] (fun v j wr => ∃ (l m : Nat) (a' : Option Addr) (c' : Nat) (ps : List LV), l ≤ sn ∧ m ≤ k * 60 + l ∧ j = .int .i64 l ∧ v = .slice a' m c' ∧ JP w5 wr a' m c' ps ∧ lplain ps = upTo a b k ++ pairRow a b xs (b.2.take l)) (fun _ j _ => sn - (intOf j).toNat)
      case atStart => exact ⟨0, m, a', c', ps, Nat.zero_le _, by omega, rfl, rfl, HJ.out, by rw [HP.out, List.take_zero]; exact (List.append_nil _).symm⟩
      case round =>
        clear HJ HP hmk
        obtain ⟨l, m, a', c', ps, hl, hml, rfl, rfl, hj, hpl⟩ := hrel
        have HJ : Hid (JP w5 wr a' m c' ps) := hj
        have HP : Hid (lplain ps = upTo a b k ++ pairRow a b xs (b.2.take l)) := hpl
        have hbw := hj.below
        clear hj hpl
        by_cases hlt2 : l < sn
        · obtain ⟨sb, so, rfl, hsb, hsc⟩ := HS.out.cells (by omega)
          have hll : l < qs.length := by rw [HSL.out]; exact hlt2
          have p0 : wr.cell? ⟨sb, so + l, none⟩ = some (.slice (qs.getD l ld).a (qs.getD l ld).n (qs.getD l ld).c) := by rw [(Frame.next B5.out hbw B5.out.size).cell (p := ⟨sb, so + l, none⟩) hsb]; exact hsc l hlt2
          have ry := HS.out.rows _ (getD_mem_ld hll)
          have ly : (qs.getD l ld).zs.length = vn := by
            have h1 := GB.out.wide (qs.getD l ld).zs (by rw [← HQS.out]; exact List.mem_map_of_mem (getD_mem_ld hll))
            rw [h1, HVL.out]
          have HRW : Hid (pairRow a b xs (b.2.take (l + 1)) = pairRow a b xs (b.2.take l) ++ (if meetC a b xs (qs.getD l ld).zs then [xs ++ (qs.getD l ld).zs] else [])) := by
            show _ = _
            rw [take_succ_l (by rw [← HQS.out, Oa.lplain_length]; exact hll), pairRow_snoc, ← HQS.out, lplain_get qs l hll]
          generalize qs.getD l ld = y at p0 ry ly HRW
          obtain ⟨ya, yn, yc, ys⟩ := y
          simp only at p0 ry ly
          have HRW' : Hid (pairRow a b xs (b.2.take (l + 1)) = pairRow a b xs (b.2.take l) ++ (if meetC a b xs ys then [xs ++ ys] else [])) := HRW.out
          have hyn : yn = vn := by rw [← ry.len]; exact ly
          have RY : Hid (IsRow .i64 w ya yn yc ys) := ry
          have BWR : Hid (Below w.heap.size w wr) := Frame.next B5.out hbw B5.out.size
          have HPX : Hid (∀ p ∈ (commonN a b).map (fun z => Lib.idxOf a.1 z), 0 ≤ p ∧ p < (xn : Int)) := by rw [HXN.out]; exact HPA.out
          have HPY : Hid (∀ p ∈ (commonN a b).map (fun z => Lib.idxOf b.1 z), 0 ≤ p ∧ p < (yn : Int)) := by rw [hyn]; exact HPB.out
          have hyn6 : yn ≤ 6 := by omega
          have RA' : Hid (IsRow .i64 wr (some ⟨w3.heap.size, 0, none⟩) m3 m3 ((commonN a b).map fun z => Lib.idxOf a.1 z)) := IsRow.below RA.out hbw
          have RB' : Hid (IsRow .i64 wr (some ⟨w4.heap.size, 0, none⟩) m3 m3 ((commonN a b).map fun z => Lib.idxOf b.1 z)) := IsRow.below RB.out hbw
          clear hsc hll ry ly HRW hbw hyn hsb
          go_wp2_with fail
          refine (impl_pickedAt _ _ _ _ _ _ xs ((commonN a b).map fun z => Lib.idxOf a.1 z) _ (IsRow.below RX.out BWR.out) RA'.out (by omega) HPX.out).mono ?_
          rintro e w6 ⟨rfl, ho6, hb6⟩
          rw [picked_is] at ho6
          have O6 : Hid (w6.ownsRow wr.heap.size 3 1 (.slice (some ⟨wr.heap.size, 0, none⟩) m3 m3) m3 (ints .i64 (pick a.1 xs (commonN a b)))) := ho6
          have B6 : Hid (Below wr.heap.size wr w6) := hb6
          clear ho6 hb6 p0
          go_wp2_with fail
          refine (impl_pickedAt _ _ _ _ _ _ ys ((commonN a b).map fun z => Lib.idxOf b.1 z) _ (IsRow.below RY.out (Frame.next BWR.out B6.out BWR.out.size)) (IsRow.below RB'.out B6.out) (by omega) HPY.out).mono ?_
          rintro e w7 ⟨rfl, ho7, hb7⟩
          rw [picked_is] at ho7
          have wx : ∀ z ∈ pick a.1 xs (commonN a b), (Lit.int .i64 z).wf = true := pick_wf RX.out.wf
          have wy : ∀ z ∈ pick b.1 ys (commonN a b), (Lit.int .i64 z).wf = true := pick_wf RY.out.wf
          have R6 : Hid (IsRow .i64 w7 (some ⟨wr.heap.size, 0, none⟩) m3 m3 (pick a.1 xs (commonN a b))) := Ol.own_row (own_below O6.out hb7) wx
          have R7 : Hid (IsRow .i64 w7 (some ⟨w6.heap.size, 0, none⟩) m3 m3 (pick b.1 ys (commonN a b))) := Ol.own_row ho7 wy
          have B7 : Hid (Below wr.heap.size wr w7) := Frame.next B6.out hb7 B6.out.size
          clear ho7 hb7 wx wy O6
          go_wp2_with fail
          refine (Jn.equal_int _ _ _ _ _ _ _ _ _ R6.out R7.out).mono ?_
          rintro e w8 ⟨rfl, hb8⟩
          rw [show decide (pick a.1 xs (commonN a b) = pick b.1 ys (commonN a b)) = meetC a b xs ys from rfl]
          have B8 : Hid (Below wr.heap.size wr w8) := Frame.next B7.out hb8 B7.out.size
          have J8 : Hid (JP w5 w8 a' m c' ps) := HJ.out.call B8.out
          clear hb8 R6 R7
          cases hm : meetC a b xs ys
          · have FR : Hid (pairRow a b xs (b.2.take (l + 1)) = pairRow a b xs (b.2.take l)) := by show _ = _; rw [HRW'.out, hm]; exact List.append_nil _
            clear hm HRW'
            go_wp2_with fail
            go_roundw
            case rel => exact ⟨l + 1, m, a', c', ps, by omega, by omega, by go_num, rfl, J8.out, by rw [FR.out]; exact HP.out⟩
            case measure => simp [intOf]; omega
          · have FR : Hid (pairRow a b xs (b.2.take (l + 1)) = pairRow a b xs (b.2.take l) ++ [xs ++ ys]) := by show _ = _; rw [HRW'.out, hm]; rfl
            have BA : Hid (Below w8.heap.size w8 (w8.alloc (.cells #[.slice xa xn xc, .slice ya yn yc] 22))) := (Below.refl _ _).alloc (Nat.le_refl _) _
            have k0 : (w8.alloc (.cells #[.slice xa xn xc, .slice ya yn yc] 22)).cell? ⟨w8.heap.size, 0, none⟩ = some (.slice xa xn xc) := by go_simp
            have k1 : (w8.alloc (.cells #[.slice xa xn xc, .slice ya yn yc] 22)).cell? ⟨w8.heap.size, 1, none⟩ = some (.slice ya yn yc) := by go_simp
            have K01 : Hid ((w8.alloc (.cells #[.slice xa xn xc, .slice ya yn yc] 22)).cell? ⟨w8.heap.size, 0, none⟩ = some (.slice xa xn xc) ∧ (w8.alloc (.cells #[.slice xa xn xc, .slice ya yn yc] 22)).cell? ⟨w8.heap.size, 1, none⟩ = some (.slice ya yn yc)) := ⟨k0, k1⟩
            have BZ : Hid (Below w.heap.size w (w8.alloc (.cells #[.slice xa xn xc, .slice ya yn yc] 22))) := Frame.next (Frame.next BWR.out B8.out BWR.out.size) BA.out (Frame.next BWR.out B8.out BWR.out.size).size
            have hz8 : w5.heap.size ≤ (w8.alloc (.cells #[.slice xa xn xc, .slice ya yn yc] 22)).heap.size := Nat.le_trans J8.out.below.size BA.out.size
            have HZ8 : Hid (w5.heap.size ≤ (w8.alloc (.cells #[.slice xa xn xc, .slice ya yn yc] 22)).heap.size) := hz8
            clear hm HRW' k0 k1 hz8
            go_wp2_with fail
            refine (Jn.concat_int w8.heap.size xa ya xn xc yn yc xs ys _ K01.out.1 K01.out.2 (IsRow.below RX.out BZ.out) (IsRow.below RY.out BZ.out) (by omega) (by omega)).mono ?_
            rintro e w9 ⟨a9, c9, rfl, ho9, hb9⟩
            have wxy : ∀ z ∈ xs ++ ys, (Lit.int .i64 z).wf = true := fun z hz => (List.mem_append.1 hz).elim (RX.out.wf z) (RY.out.wf z)
            have BB : Below w9.heap.size w9 (w9.alloc (.cells #[.slice a9 (xn + yn) c9] 22)) := (Below.refl _ _).alloc (Nat.le_refl _) _
            have J9 : Hid (JP w5 (w9.alloc (.cells #[.slice a9 (xn + yn) c9] 22)) a' m c' ps) := ((J8.out.call BA.out).call hb9).call BB
            have R9 : Hid (OwnR (w9.alloc (.cells #[.slice a9 (xn + yn) c9] 22)) w5.heap.size ⟨a9, xn + yn, c9, xs ++ ys⟩) := ⟨own_base (own_below ho9 BB) HZ8.out, wxy⟩
            have N9 : Hid (0 < 1 → ∃ ad, (some ⟨w9.heap.size, 0, none⟩ : Option Addr) = some ad ∧ ∀ j u, ([.slice a9 (xn + yn) c9] : List Value)[j]? = some u → (w9.alloc (.cells #[.slice a9 (xn + yn) c9] 22)).cell? (ad.add j) = some u) := news_one w9 _ _
            clear ho9 hb9 BB wxy
            go_wp2_with (at_builtin; refine App.wpList_append_all _ rfl _ _ 23 rfl w5.heap.size 22 i0 (.slice none 0 0) 1 24 Try.underlying23 hi hz0 hz1 hz2 rfl (by decide) _ _ _ rfl J9.out.own _ 1 _ [.slice a9 (xn + yn) c9] rfl rfl N9.out (by simp [Value.oneCell']) (by unfold maxLen; omega) (by omega) J9.out.below.size ?_)
            intro a4 c4 w10 hown hgrow
            have JM : Hid (JP w5 w10 a4 (m + 1) c4 (ps ++ [⟨a9, xn + yn, c9, xs ++ ys⟩])) := JP.more J9.out R9.out hown hgrow
            clear hown hgrow
            go_wp2
            go_roundw
            case rel => exact ⟨l + 1, m + 1, a4, c4, _, by omega, by omega, by go_num, rfl, JM.out, by rw [FR.out, lplain_append, HP.out, List.append_assoc]; rfl⟩
            case measure => simp [intOf]; omega
        · obtain rfl : l = sn := by omega
          have FE : Hid (lplain ps = upTo a b (k + 1)) := by
            show _ = _
            rw [HUP'.out, HP.out, List.take_of_length_le (by rw [← HQS.out, Oa.lplain_length, HSL.out]; exact Nat.le_refl _)]
          clear hbw
          go_wp2_with fail
          go_roundw
          case rel => exact ⟨k + 1, m, a', c', ps, by omega, by omega, by go_num, rfl, HJ.out, FE.out⟩
          case measure => simp [intOf]; omega
    · obtain rfl : k = tn := by omega
      have FP : Hid (lplain ps = pairsL a b) := by
        show _ = _
        rw [HP.out]
        unfold upTo pairsL
        rw [List.take_of_length_le (by rw [← HRS.out, Oa.lplain_length, HTL.out]; exact Nat.le_refl _)]
      have FM : Hid ((lplain ps).map (fun t => pick (a.1 ++ b.1) t (joinN a b)) = joinL a b) := by
        show _ = _
        rw [FP.out]
        exact pairs_map GA.out.upN GA.out.wide
      have FL : Hid (∀ r ∈ ps, r.zs.length = un + vn) := fun r hr => by
        have h1 : r.zs ∈ pairsL a b := by rw [← FP.out]; exact List.mem_map_of_mem hr
        exact pair_long GA.out.wide GB.out.wide (by rw [HUL.out, HVL.out]) _ h1
      have BWR : Hid (Below w.heap.size w wr) := Frame.next B5.out hbw B5.out.size
      have CR : Hid (wr.cell? ⟨w.heap.size + 1 + 1, 0, none⟩ = some (.slice none 0 0) ∧ wr.cell? ⟨w.heap.size + 1 + 1, 1, none⟩ = some (.slice none 0 0) ∧ wr.frozen? ⟨w.heap.size + 1 + 1, 0, none⟩ = false ∧ wr.frozen? ⟨w.heap.size + 1 + 1, 1, none⟩ = false ∧ w.heap.size + 1 + 1 + 1 ≤ wr.heap.size) := told_cells C5.out hbw
      have q0 : wr.cell? ⟨w.heap.size, 0, none⟩ = some (.slice ua un uc) := Frame.held_cell hbw D5.out.1
      have q1 : wr.cell? ⟨w.heap.size + 1, 0, none⟩ = some (.slice va vn vc) := Frame.held_cell hbw D5.out.2.2.1
      have BA : Hid (Below wr.heap.size wr (wr.alloc (.cells #[.slice ua un uc, .slice va vn vc] 22))) := (Below.refl _ _).alloc (Nat.le_refl _) _
      have k0 : (wr.alloc (.cells #[.slice ua un uc, .slice va vn vc] 22)).cell? ⟨wr.heap.size, 0, none⟩ = some (.slice ua un uc) := by go_simp
      have k1 : (wr.alloc (.cells #[.slice ua un uc, .slice va vn vc] 22)).cell? ⟨wr.heap.size, 1, none⟩ = some (.slice va vn vc) := by go_simp
      have K01 : Hid ((wr.alloc (.cells #[.slice ua un uc, .slice va vn vc] 22)).cell? ⟨wr.heap.size, 0, none⟩ = some (.slice ua un uc) ∧ (wr.alloc (.cells #[.slice ua un uc, .slice va vn vc] 22)).cell? ⟨wr.heap.size, 1, none⟩ = some (.slice va vn vc)) := ⟨k0, k1⟩
      have BZ : Hid (Below w.heap.size w (wr.alloc (.cells #[.slice ua un uc, .slice va vn vc] 22))) := Frame.next BWR.out BA.out BWR.out.size
      have HMK : Hid (m ≤ k * 60) := hmk
      have hm36 : m ≤ 3600 := by omega
      clear hbw k0 k1 hmk
      go_wp2_with fail
      refine (Jn.concat_int wr.heap.size ua va un uc vn vc a.1 b.1 _ K01.out.1 K01.out.2 (IsRow.below HU.out BZ.out) (IsRow.below HV.out BZ.out) (by omega) (by omega)).mono ?_
      rintro e w6 ⟨a6, c6, rfl, ho6, hb6⟩
      have wab : ∀ z ∈ a.1 ++ b.1, (Lit.int .i64 z).wf = true := fun z hz => (List.mem_append.1 hz).elim (HU.out.wf z) (HV.out.wf z)
      have R6 : Hid (IsRow .i64 w6 a6 (un + vn) c6 (a.1 ++ b.1)) := Ol.own_row ho6 wab
      have W6 : Hid (Below wr.heap.size wr w6) := Frame.next BA.out hb6 BA.out.size
      clear ho6 hb6 wab q0 q1
      go_wp2_with fail
      refine (once_int _ _ _ (a.1 ++ b.1) _ R6.out (by omega)).mono ?_
      rintro e w7 ⟨a7, m7, c7, os, rfl, hm7, ho7, hon, hwf7, hb7⟩
      obtain rfl : os = joinN a b := once_joined GA.out.upN hon.1 hon.2
      have R7 : Hid (IsRow .i64 w7 a7 m7 c7 (joinN a b)) := Ol.own_row ho7 hwf7
      have W7 : Hid (Below wr.heap.size wr w7) := Frame.next W6.out hb7 W6.out.size
      have R6' : Hid (IsRow .i64 w7 a6 (un + vn) c6 (a.1 ++ b.1)) := IsRow.below R6.out hb7
      have L7 : Hid (IsLs w7 a' m c' ps) := (HJ.out.call W7.out).ls
      have C7 : Hid (w7.cell? ⟨w.heap.size + 1 + 1, 0, none⟩ = some (.slice none 0 0) ∧ w7.cell? ⟨w.heap.size + 1 + 1, 1, none⟩ = some (.slice none 0 0) ∧ w7.frozen? ⟨w.heap.size + 1 + 1, 0, none⟩ = false ∧ w7.frozen? ⟨w.heap.size + 1 + 1, 1, none⟩ = false ∧ w.heap.size + 1 + 1 + 1 ≤ w7.heap.size) := told_cells CR.out W7.out
      have B7 : Hid (Below w.heap.size w w7) := Frame.next BWR.out W7.out BWR.out.size
      have HSUB : Hid (∀ z ∈ joinN a b, z ∈ a.1 ++ b.1) := fun z hz => (hon.2 z).1 hz
      have hsm : m * (m7 + 1) ≤ 1048576 := by
        have h1 : m * (m7 + 1) ≤ 3600 * 13 := Nat.mul_le_mul (by omega) (by omega)
        omega
      clear ho7 hon hwf7 hb7 R6
      go_wp2_with fail
      refine (impl_underNames _ _ _ _ _ _ _ _ _ (a.1 ++ b.1) (joinN a b) ps _ R6'.out L7.out R7.out (by omega) (by omega) hsm FL.out HSUB.out).mono ?_
      rintro e w8 ⟨pa, pn, pc, xa, xn, xc, rfl, hq8, hb8⟩
      rw [FM.out] at hq8 ⊢
      obtain ⟨c0, c1, f0, f1, hs8⟩ := told_cells C7.out hb8
      have Q8 : Hid (QOwn w8 w7.heap.size w8.heap.size (.slice pa pn pc) (.slice xa xn xc) (tellV (joinN a b) (joinL a b))) := hq8
      have B8 : Hid (Below w.heap.size w w8) := Frame.next B7.out hb8 B7.out.size
      clear hq8 hb8
      go_wp2
      refine bodyPost_ret (v := .tuple #[.agg #[.slice pa pn pc, .slice xa xn xc], .bool (tellG (joinN a b) (joinL a b))]) (by simp [results, Try.results10, go_sem, c0, c1]) rfl ?_
      rw [F.out.1, F.out.2]
      exact told_end (by omega) (by have := B7.out.size; omega) C7.out.2.2.2.2 Q8.out B8.out


end Go.Proofs.Ytdlcjcobfckncaa.Jo
