/-
  The sum of a list of values: contracts of the program.
-/
import Derived.Test.YtdlcjcobfckncaaDoorSgf
import Derived.Deep.RegionWith
namespace Go.Proofs.YtdlcjcobfckncaaDoor.Sgh
open Go.RowKit
open Go.Proofs.YtdlcjcobfckncaaDoor.Frame Go.Proofs.YtdlcjcobfckncaaDoor.Mem Go.Proofs.YtdlcjcobfckncaaDoor.Val Go.Proofs.YtdlcjcobfckncaaDoor.Vals Go.Proofs.YtdlcjcobfckncaaDoor.Sma Go.Proofs.YtdlcjcobfckncaaDoor.Flt Go.Proofs.YtdlcjcobfckncaaDoor.Sga Go.Proofs.YtdlcjcobfckncaaDoor.Sgb Go.Proofs.YtdlcjcobfckncaaDoor.Sgd Go.Proofs.YtdlcjcobfckncaaDoor.Sge Go.Proofs.YtdlcjcobfckncaaDoor.Sgf

theorem sumL_snoc (l : List (Bool × Int)) (v : Bool × Int) : sumL (l ++ [v]) = tog (sumL l) (oneS v) := by unfold sumL; rw [List.foldl_append]; rfl
theorem knL_snoc (l : List (Bool × Int)) (v : Bool × Int) : knL (l ++ [v]) = knL l + kn v := by unfold knL; rw [List.foldl_append]; rfl
theorem take_ind {P : List (Bool × Int) → Prop} (h0 : P []) (h1 : ∀ l v, P l → P (l ++ [v])) (l : List (Bool × Int)) : P l := by
  have h : ∀ k, k ≤ l.length → P (l.take k) := fun k => by
    induction k with
    | zero => intro _; rw [List.take_zero]; exact h0
    | succ k ih =>
      intro hk
      rw [take_succ_vd (by omega)]
      exact h1 _ _ (ih (by omega))
  have := h l.length (Nat.le_refl _)
  rwa [List.take_of_length_le (Nat.le_refl _)] at this
theorem sumL_r (l : List (Bool × Int)) : (sumL l).r = (l.length : Int) := by
  refine take_ind (P := fun l => (sumL l).r = (l.length : Int)) rfl (fun l v ih => ?_) l
  rw [sumL_snoc, List.length_append]
  show (sumL l).r + 1 = _
  rw [ih]
  simp
theorem sumL_k (l : List (Bool × Int)) : (sumL l).k = (knL l : Int) := by
  refine take_ind (P := fun l => (sumL l).k = (knL l : Int)) rfl (fun l v ih => ?_) l
  rw [sumL_snoc, knL_snoc]
  show (sumL l).k + (kn v : Int) = _
  rw [ih]
  simp
theorem knL_le (l : List (Bool × Int)) : knL l ≤ l.length := by
  refine take_ind (P := fun l => knL l ≤ l.length) (Nat.le_refl _) (fun l v ih => ?_) l
  rw [knL_snoc, List.length_append]
  have : kn v ≤ 1 := by unfold kn; split <;> omega
  simp only [List.length_singleton]
  omega
/-- One value more. -/
theorem more (l : List (Bool × Int)) (vb : Bool) (vn : Int) (hl : l.length ≤ 100000) (W : World) (hW : Cmp.CmpTab W) : Calls Tryd.prog 58 #[.agg #[.int .i64 (sumL l).r, .int .i64 (sumL l).k, .int .i64 (sumL l).t, .bool (sumL l).lb, .int .i64 (sumL l).l, .bool (sumL l).hb, .int .i64 (sumL l).h], .agg #[.int .i64 1, .int .i64 (kn (vb, vn) : Int), .int .i64 vn, .bool vb, .int .i64 vn, .bool vb, .int .i64 vn]] W fun e w' => e = .returned (.agg #[.int .i64 (sumL (l ++ [(vb, vn)])).r, .int .i64 (sumL (l ++ [(vb, vn)])).k, .int .i64 (sumL (l ++ [(vb, vn)])).t, .bool (sumL (l ++ [(vb, vn)])).lb, .int .i64 (sumL (l ++ [(vb, vn)])).l, .bool (sumL (l ++ [(vb, vn)])).hb, .int .i64 (sumL (l ++ [(vb, vn)])).h]) ∧ Below W.heap.size W w' := by
  have hk := knL_le l
  have hv : kn (vb, vn) ≤ 1 := by unfold kn; split <;> omega
  have h := together l.length (knL l) 1 (kn (vb, vn)) (sumL l).t vn (sumL l).lb (sumL l).l (sumL l).hb (sumL l).h vb vn vb vn W hW (by omega) (by omega)
  rw [Int.natCast_add, Int.natCast_add, ← sumL_r, ← sumL_k] at h
  rw [sumL_snoc]
  exact h
theorem mkC {D W : World} {s s0 : Sm} {b : Nat} (h : Below D.heap.size D W) (hb : At W b s0) (hd : D.heap.size ≤ b) : Mk7 D s (((((((W.setCell ⟨b, 0, none⟩ (.int .i64 s.r)).setCell ⟨b, 1, none⟩ (.int .i64 s.k)).setCell ⟨b, 2, none⟩ (.int .i64 s.t)).setCell ⟨b, 3, none⟩ (.bool s.lb)).setCell ⟨b, 4, none⟩ (.int .i64 s.l)).setCell ⟨b, 5, none⟩ (.bool s.hb)).setCell ⟨b, 6, none⟩ (.int .i64 s.h)) b := by
  obtain ⟨c0, c1, c2, c3, c4, c5, c6⟩ := hb
  refine ⟨((((((h.setCell hd _).setCell hd _).setCell hd _).setCell hd _).setCell hd _).setCell hd _).setCell hd _, ?_, ?_, ?_, ?_, ?_, ?_, ?_⟩
  · exact (aside (by decide) (aside (by decide) (aside (by decide) (aside (by decide) (aside (by decide) (aside (by decide) (same c0)))))))
  · exact (aside (by decide) (aside (by decide) (aside (by decide) (aside (by decide) (aside (by decide) (same (aside (by decide) c1)))))))
  · exact (aside (by decide) (aside (by decide) (aside (by decide) (aside (by decide) (same (aside (by decide) (aside (by decide) c2)))))))
  · exact (aside (by decide) (aside (by decide) (aside (by decide) (same (aside (by decide) (aside (by decide) (aside (by decide) c3)))))))
  · exact (aside (by decide) (aside (by decide) (same (aside (by decide) (aside (by decide) (aside (by decide) (aside (by decide) c4)))))))
  · exact (aside (by decide) (same (aside (by decide) (aside (by decide) (aside (by decide) (aside (by decide) (aside (by decide) c5)))))))
  · exact (same (aside (by decide) (aside (by decide) (aside (by decide) (aside (by decide) (aside (by decide) (aside (by decide) c6)))))))
theorem fro7 {W : World} {c b : Nat} {v0 v1 v2 v3 v4 v5 v6 : Value} (h : ∀ i, W.frozen? ⟨b, i, none⟩ = false) : ∀ i, (((((((W.setCell ⟨c, 0, none⟩ v0).setCell ⟨c, 1, none⟩ v1).setCell ⟨c, 2, none⟩ v2).setCell ⟨c, 3, none⟩ v3).setCell ⟨c, 4, none⟩ v4).setCell ⟨c, 5, none⟩ v5).setCell ⟨c, 6, none⟩ v6).frozen? ⟨b, i, none⟩ = false := fun i => by
  rw [World.frozen?_setCell, World.frozen?_setCell, World.frozen?_setCell, World.frozen?_setCell, World.frozen?_setCell, World.frozen?_setCell, World.frozen?_setCell]
  exact h i
theorem At.far {W : World} {c b : Nat} {s : Sm} {v0 v1 v2 v3 v4 v5 v6 : Value} (hne : b ≠ c) (h : At W b s) : At (((((((W.setCell ⟨c, 0, none⟩ v0).setCell ⟨c, 1, none⟩ v1).setCell ⟨c, 2, none⟩ v2).setCell ⟨c, 3, none⟩ v3).setCell ⟨c, 4, none⟩ v4).setCell ⟨c, 5, none⟩ v5).setCell ⟨c, 6, none⟩ v6) b s :=
  ⟨far7 hne h.1, far7 hne h.2.1, far7 hne h.2.2.1, far7 hne h.2.2.2.1, far7 hne h.2.2.2.2.1, far7 hne h.2.2.2.2.2.1, far7 hne h.2.2.2.2.2.2⟩
/-- A sum in a box that may be written. -/
structure Own7 (W : World) (b : Nat) (s : Sm) : Prop where
  c : At W b s
  f : ∀ i, W.frozen? ⟨b, i, none⟩ = false
theorem Own7.call {X W : World} {b : Nat} {s : Sm} (h : Own7 X b s) (hb : Below X.heap.size X W) : Own7 W b s := ⟨h.c.call hb, fun i => (hb.frozen (p := ⟨b, i, none⟩) h.c.lt).trans (h.f i)⟩
theorem Own7.new (Y : World) (s : Sm) : Own7 (Y.alloc (.cells #[.int .i64 s.r, .int .i64 s.k, .int .i64 s.t, .bool s.lb, .int .i64 s.l, .bool s.hb, .int .i64 s.h] 28)) Y.heap.size s := by
  refine ⟨At.new Y s _, fun i => ?_⟩
  go_simp

set_option maxRecDepth 8000 in
set_option maxHeartbeats 6400000 in
theorem summed (a : Option Addr) (n ca : Nat) (vs : List (Bool × Int)) (w : World) (h : IsVals w a n ca vs) (hn : n ≤ 100000) (hT : Cmp.CmpTab w) : Calls Tryd.prog 54 #[.slice a n ca] w fun e w' => e = .returned (.agg #[.int .i64 (sumL vs).r, .int .i64 (sumL vs).k, .int .i64 (sumL vs).t, .bool (sumL vs).lb, .int .i64 (sumL vs).l, .bool (sumL vs).hb, .int .i64 (sumL vs).h]) ∧ Below w.heap.size w w' := by
  have HI : Hid (IsVals w a n ca vs) := h
  have HL : Hid (vs.length = n) := h.len
  have HT : Hid (Cmp.CmpTab w) := hT
  clear h hT
  have SW0 : Hid (∀ w : World, Calls Tryd.prog 114 #[.complex .f64 0 0, .int .i64 0, .agg #[.bool true, .int .i64 0], .agg #[.bool true, .int .i64 0]] w fun e w' => e = .returned (.agg #[.int .i64 0, .int .i64 0, .int .i64 0, .bool true, .int .i64 0, .bool true, .int .i64 0]) ∧ Below w.heap.size w w') := fun w => by
    have h := sumWith 0 0 0 true 0 true 0 w (by decide) (by decide)
    rw [fb_zero] at h
    exact h
  have BW : Hid (Below w.heap.size w (w.alloc (.cells #[.int .i64 0, .int .i64 0, .int .i64 0, .bool false, .int .i64 0, .bool false, .int .i64 0] 28))) := (Below.refl _ _).alloc (Nat.le_refl _) _
  have R0 : Hid (Own7 (w.alloc (.cells #[.int .i64 0, .int .i64 0, .int .i64 0, .bool false, .int .i64 0, .bool false, .int .i64 0] 28)) w.heap.size zeroS) := Own7.new w zeroS
  go_enter Tryd.func54, Tryd.ntmps54
  go_wp2_with fail
  refine (SW0.out _).mono ?_
  rintro e w1 ⟨rfl, hb1⟩
  have ba : Below w1.heap.size w1 (w1.alloc (.cells #[.int .i64 0, .int .i64 0, .int .i64 0, .bool true, .int .i64 0, .bool true, .int .i64 0] 28)) := (Below.refl _ _).alloc (Nat.le_refl _) _
  have R1 : Hid (Own7 (w1.alloc (.cells #[.int .i64 0, .int .i64 0, .int .i64 0, .bool true, .int .i64 0, .bool true, .int .i64 0] 28)) w.heap.size zeroS) := (R0.out.call hb1).call ba
  have S1 : Hid (Own7 (w1.alloc (.cells #[.int .i64 0, .int .i64 0, .int .i64 0, .bool true, .int .i64 0, .bool true, .int .i64 0] 28)) w1.heap.size noneS) := Own7.new w1 noneS
  have B1 : Hid (Below w.heap.size w (w1.alloc (.cells #[.int .i64 0, .int .i64 0, .int .i64 0, .bool true, .int .i64 0, .bool true, .int .i64 0] 28))) := Frame.next (Frame.next BW.out hb1 BW.out.size) ba (Frame.next BW.out hb1 BW.out.size).size
  have hwc : w.heap.size < w1.heap.size := (R0.out.call hb1).c.lt
  clear hb1 ba
  go_wp2_with fail
  go_loopw [11] (fun i wr => ∃ k : Nat, k ≤ n ∧ i = .int .i64 k ∧ Own7 wr w1.heap.size (sumL (vs.take k)) ∧ Own7 wr w.heap.size zeroS ∧ Below w.heap.size w wr) (fun i _ => n - (intOf i).toNat)
  case atStart => exact ⟨0, Nat.zero_le _, rfl, S1.out, R1.out, B1.out⟩
  case round =>
    obtain ⟨k, hk, rfl, hS, hR, hB⟩ := hrel
    have HR : Hid (Own7 wr w.heap.size zeroS) := hR
    have HB : Hid (Below w.heap.size w wr) := hB
    by_cases hlt : k < n
    · obtain ⟨b, off, rfl, hbl, hc⟩ := HI.out.cells (by omega)
      have hkl : k < vs.length := by rw [HL.out]; exact hlt
      have h0 : wr.cell? ⟨b, off + k * 2, none⟩ = some (.bool (vs.getD k vd).1) := by rw [hB.cell (p := ⟨b, off + k * 2, none⟩) hbl]; exact (hc k hlt).1
      have h1 : wr.cell? ⟨b, off + k * 2 + 1, none⟩ = some (.int .i64 (vs.getD k vd).2) := by rw [hB.cell (p := ⟨b, off + k * 2 + 1, none⟩) hbl]; exact (hc k hlt).2
      have HX : Hid (sumL (vs.take (k + 1)) = sumL (vs.take k ++ [vs.getD k vd])) := by show _ = _; rw [take_succ_vd hkl]
      have hlen : (vs.take k).length ≤ 100000 := by rw [List.length_take]; omega
      generalize vs.getD k vd = x at h0 h1 HX
      obtain ⟨vb, vn⟩ := x
      simp only at h0 h1
      have CT := more (vs.take k) vb vn hlen
      rw [← HX.out] at CT
      have HO : Hid (Own7 wr w1.heap.size (sumL (vs.take k))) := hS
      clear hc hkl hbl HX hS hR hlen
      generalize hTT : sumL (vs.take (k + 1)) = T at CT
      have HTT : Hid (sumL (vs.take (k + 1)) = T) := hTT
      clear hTT
      generalize sumL (vs.take k) = S at CT HO
      have CT' : Hid (∀ W : World, Cmp.CmpTab W → Calls Tryd.prog 58 #[.agg #[.int .i64 S.r, .int .i64 S.k, .int .i64 S.t, .bool S.lb, .int .i64 S.l, .bool S.hb, .int .i64 S.h], .agg #[.int .i64 1, .int .i64 (kn (vb, vn) : Int), .int .i64 vn, .bool vb, .int .i64 vn, .bool vb, .int .i64 vn]] W fun e w' => e = .returned (.agg #[.int .i64 T.r, .int .i64 T.k, .int .i64 T.t, .bool T.lb, .int .i64 T.l, .bool T.hb, .int .i64 T.h]) ∧ Below W.heap.size W w') := CT
      have hcr : w1.heap.size < wr.heap.size := HO.out.c.lt
      have bv : Below wr.heap.size wr (wr.alloc (.cells #[.bool vb, .int .i64 vn] 26)).drew := ((Below.refl _ _).alloc (Nat.le_refl _) _).drew
      have HO' : Hid (Own7 (wr.alloc (.cells #[.bool vb, .int .i64 vn] 26)).drew w1.heap.size S) := HO.out.call bv
      have HR' : Hid (Own7 (wr.alloc (.cells #[.bool vb, .int .i64 vn] 26)).drew w.heap.size zeroS) := HR.out.call bv
      have HB' : Hid (Below w.heap.size w (wr.alloc (.cells #[.bool vb, .int .i64 vn] 26)).drew) := Frame.next HB.out bv HB.out.size
      have V0 : Hid ((wr.alloc (.cells #[.bool vb, .int .i64 vn] 26)).drew.cell? ⟨wr.heap.size, 0, none⟩ = some (.bool vb) ∧ (wr.alloc (.cells #[.bool vb, .int .i64 vn] 26)).drew.cell? ⟨wr.heap.size, 1, none⟩ = some (.int .i64 vn)) := by
        refine ⟨?_, ?_⟩ <;> go_simp
      have hne : wr.heap.size ≠ w1.heap.size := Nat.ne_of_gt hcr
      clear CT bv hB
      go_wp2_with fail
      obtain ⟨e0, e1, e2, e3, e4, e5, e6⟩ := HO'.out.c

      obtain ⟨v0, v1⟩ := V0.out
      go_region_with (first | (go_at_call 115; refine (sumOfOne vb vn _).mono ?_; rintro e w2 ⟨rfl, hb2⟩; have O2 : Hid (Own7 w2 w1.heap.size S) := HO'.out.call hb2; have R2 : Hid (Own7 w2 w.heap.size zeroS) := HR'.out.call hb2; have B2 : Hid (Below w.heap.size w w2) := Frame.next HB'.out hb2 HB'.out.size; clear hb2; obtain ⟨a0, a1, a2, a3, a4, a5, a6⟩ := O2.out.c) | (go_at_call 58; refine (CT'.out _ (HT.out.below B2.out)).mono ?_; rintro e w3 ⟨rfl, hb3⟩; have O3 : Hid (Own7 w3 w1.heap.size S) := O2.out.call hb3; have R3 : Hid (Own7 w3 w.heap.size zeroS) := R2.out.call hb3; have B3 : Hid (Below w.heap.size w w3) := Frame.next B2.out hb3 B2.out.size; clear hb3; obtain ⟨c0, c1, c2, c3, c4, c5, c6⟩ := O3.out.c; have g := O3.out.f))
      all_goals (go_wp2_with fail; go_roundw)
      all_goals first | (case rel => exact ⟨k + 1, by omega, by go_num, by rw [HTT.out]; exact ⟨(mkC B3.out O3.out.c (Nat.le_of_lt hwc)).2, fro7 O3.out.f⟩, ⟨At.far (Nat.ne_of_lt hwc) R3.out.c, fro7 R3.out.f⟩, (mkC (s := T) B3.out O3.out.c (Nat.le_of_lt hwc)).1⟩) | (case measure => simp [intOf]; omega) | skip
    · have F : Hid (Own7 wr w1.heap.size (sumL vs)) := by have := hS; rwa [List.take_of_length_le (by rw [HL.out]; omega)] at this
      obtain ⟨c0, c1, c2, c3, c4, c5, c6⟩ := F.out.c
      obtain ⟨d0, d1, d2, d3, d4, d5, d6⟩ := HR.out.c
      have g := HR.out.f
      clear hS hR hB
      go_wp2
      refine bodyPost_ret (v := .agg #[.int .i64 (sumL vs).r, .int .i64 (sumL vs).k, .int .i64 (sumL vs).t, .bool (sumL vs).lb, .int .i64 (sumL vs).l, .bool (sumL vs).hb, .int .i64 (sumL vs).h]) (by simp [results, Tryd.results54, go_sem, d0, d1, d2, d3, d4, d5, d6]) rfl ?_
      have hr := Nat.le_refl w.heap.size
      exact ⟨rfl, ((((((HB.out.setCell hr _).setCell hr _).setCell hr _).setCell hr _).setCell hr _).setCell hr _).setCell hr _⟩


end Go.Proofs.YtdlcjcobfckncaaDoor.Sgh
