/-
  Contract of the model's l8Step.
-/
import Derived.Test.YtkondmnkmbdncaaLkk
import Derived.Test.YtkondmnkmbdncaaLkd
import Derived.Test.YtkondmnkmbdncaaLke
import Derived.Test.YtkondmnkmbdncaaSpo
namespace Go.Proofs.Ytkondmnkmbdncaa.Lkl
open Go.RowKit
open Go.Proofs.Ytkondmnkmbdncaa.Frame Go.Proofs.Ytkondmnkmbdncaa.Mem Go.Proofs.Ytkondmnkmbdncaa.Kep Go.Proofs.Ytkondmnkmbdncaa.Lls Go.Proofs.Ytkondmnkmbdncaa.Knl Go.Proofs.Ytkondmnkmbdncaa.Mis Go.Proofs.Ytkondmnkmbdncaa.Kpi Go.Proofs.Ytkondmnkmbdncaa.Lkp Go.Proofs.Ytkondmnkmbdncaa.Lka Go.Proofs.Ytkondmnkmbdncaa.Lkb Go.Proofs.Ytkondmnkmbdncaa.Lkg Go.Proofs.Ytkondmnkmbdncaa.Lkh Go.Proofs.Ytkondmnkmbdncaa.Lki Go.Proofs.Ytkondmnkmbdncaa.Lkj Go.Proofs.Ytkondmnkmbdncaa.Lks
open Go.Proofs.Ytkondmnkmbdncaa.SLocks (D SIs SOwn)

structure Ak4 (W : World) (b : Nat) (who item : Int) (wri fin : Bool) : Prop where
  c0 : W.cell? ⟨b, 0, none⟩ = some (.int .i64 who)
  c1 : W.cell? ⟨b, 1, none⟩ = some (.int .i64 item)
  c2 : W.cell? ⟨b, 2, none⟩ = some (.bool wri)
  c3 : W.cell? ⟨b, 3, none⟩ = some (.bool fin)
/-- What l8Step holds in boxes. -/
structure Fs (ob : Option Nat) (N : Nat) (who item : Int) (wri fin : Bool) (x y z : Value) (W : World) : Prop where
  p : Box W N x y z
  a : Ak4 W (N + 1) who item wri fin
  r : Box W (N + 1 + 1) NV NV NV
  o : ∀ b, ob = some b → Box W b NV NV NV
section
variable {ob : Option Nat} {N : Nat} {who item : Int} {wri fin : Bool} {x y z : Value} {W W' : World}
theorem Fs.next (h : Fs ob N who item wri fin x y z W) (hb : Below W.heap.size W W') : Fs ob N who item wri fin x y z W' :=
  ⟨h.p.below hb, ⟨Frame.held_cell hb h.a.c0, Frame.held_cell hb h.a.c1, Frame.held_cell hb h.a.c2, Frame.held_cell hb h.a.c3⟩, h.r.below hb, fun b e => (h.o b e).below hb⟩
theorem Fs.touch {o : Option Addr} (h : Fs ob N who item wri fin x y z W) (t : OnlyAt o W W') (f : ∀ u, o = some u → u.block < N ∨ N + 1 + 1 < u.block) (f3 : ∀ b, ob = some b → ∀ u, o = some u → u.block ≠ b) : Fs ob N who item wri fin x y z W' := by
  have f0 : ∀ u, o = some u → u.block ≠ N := fun u hu => by have := f u hu; omega
  have f1 : ∀ u, o = some u → u.block ≠ N + 1 := fun u hu => by have := f u hu; omega
  have f2 : ∀ u, o = some u → u.block ≠ N + 1 + 1 := fun u hu => by have := f u hu; omega
  exact ⟨h.p.touch t f0, ⟨only_cell t f1 h.a.c0, only_cell t f1 h.a.c1, only_cell t f1 h.a.c2, only_cell t f1 h.a.c3⟩, h.r.touch t f2, fun b e => (h.o b e).touch t (f3 b e)⟩
theorem Fs.set (h : Fs ob N who item wri fin x y z W) (g k : Nat) (v : Value) (f : g < N ∨ N + 1 + 1 < g) (f3 : ∀ b, ob = some b → g ≠ b) : Fs ob N who item wri fin x y z (W.setCell ⟨g, k, none⟩ v) :=
  h.touch (only_set W g k v) (fun u hu => by cases hu; exact f) (fun b e u hu => by cases hu; exact f3 b e)
theorem Fs.lt (h : Fs ob N who item wri fin x y z W) : N + 1 + 1 < W.heap.size := Frame.cell_lt h.r.c0
theorem Box.set2 {V : World} {b : Nat} {z' : Value} (h : Box V b x y z) : Box (V.setCell ⟨b, 2, none⟩ z') b x y z' := by
  have d : ∀ (W : World) (o o' : Nat) (v : Value), o ≠ o' → (W.setCell ⟨b, o, none⟩ v).cell? ⟨b, o', none⟩ = W.cell? ⟨b, o', none⟩ := fun W o o' v e => World.cell?_setCell_other _ _ _ _ (by intro h; cases h; exact e rfl)
  refine ⟨(d _ _ _ _ (by omega)).trans h.c0, (d _ _ _ _ (by omega)).trans h.c1, World.cell?_setCell_same' _ _ _ (by rw [h.c2]; rfl), ?_, ?_, ?_⟩
  · simp only [World.frozen?_setCell]; exact h.f0
  · simp only [World.frozen?_setCell]; exact h.f1
  · simp only [World.frozen?_setCell]; exact h.f2
theorem Fs.push {z' : Value} (h : Fs ob N who item wri fin x y z W) (f3 : ∀ b, ob = some b → N ≠ b) : Fs ob N who item wri fin x y z' (W.setCell ⟨N, 2, none⟩ z') := by
  have t := only_set W N 2 z'
  have f1 : ∀ u, (some ⟨N, 2, none⟩ : Option Addr) = some u → u.block ≠ N + 1 := fun u hu => by cases hu; show N ≠ _; omega
  have f2 : ∀ u, (some ⟨N, 2, none⟩ : Option Addr) = some u → u.block ≠ N + 1 + 1 := fun u hu => by cases hu; show N ≠ _; omega
  exact ⟨Box.set2 h.p, ⟨only_cell t f1 h.a.c0, only_cell t f1 h.a.c1, only_cell t f1 h.a.c2, only_cell t f1 h.a.c3⟩, h.r.touch t f2, fun b e => (h.o b e).touch t (fun u hu => by cases hu; exact f3 b e)⟩
theorem box_far {b g k : Nat} {v : Value} (h : Box W b x y z) (hne : g ≠ b) : Box (W.setCell ⟨g, k, none⟩ v) b x y z := h.touch (only_set W g k v) (fun u hu => by cases hu; exact hne)
theorem box_far3 {b g : Nat} {v0 v1 v2 : Value} (h : Box W b x y z) (hne : g ≠ b) : Box (((W.setCell ⟨g, 0, none⟩ v0).setCell ⟨g, 1, none⟩ v1).setCell ⟨g, 2, none⟩ v2) b x y z := box_far (box_far (box_far h hne) hne) hne
end
def askN (d : D) (a : Ak) : Bool := askB d a && (a.2.2.2 || decide (waitN d a = []))
def stepD (d : D) (a : Ak) : D := bif a.2.2.2 then outD d a.1 else withD d a.1 a.2.1.toNat a.2.2.1
/-- What l8Step answers. -/
def StepR (ob : Option Nat) (lo g0 c0 g1 c1 : Nat) (d : D) (a : Ak) (w : World) (e : Ending) (w' : World) : Prop :=
  ((askN d a = false ∧ ∃ xp xq xr yp yq yr zp zq zr, e = .returned (.tuple #[.agg #[.slice xp xq xr, .slice yp yq yr, .slice zp zq zr], .bool false])) ∨
   (askN d a = true ∧ ∃ rs a' n' k', e = .returned (.tuple #[.agg #[.slice (some ⟨g0, 0, none⟩) 4 c0, .slice (some ⟨g1, 0, none⟩) 4 c1, .slice a' n' k'], .bool true]) ∧ lplain rs = (stepD d a).1 ∧ OwnK lo w' g0 c0 rs g1 c1 (stepD d a).2.1 a' n' k' (stepD d a).2.2 ∧ n' ≤ 5 ∧ ∀ b, ob = some b → OffK b g0 rs g1 a')) ∧ Below lo w w' ∧ ∀ b, ob = some b → Box w' b NV NV NV

theorem StepR.one {ob : Option Nat} {lo g0 c0 g1 c1 : Nat} {d : D} {a : Ak} {w w' : World} {e : Ending} (h : StepR ob lo g0 c0 g1 c1 d a w e w') : ∃ xp xq xr yp yq yr zp zq zr, e = .returned (.tuple #[.agg #[.slice xp xq xr, .slice yp yq yr, .slice zp zq zr], .bool (askN d a)]) ∧
    (askN d a = true → ∃ rs a' n' k', (Value.slice xp xq xr = .slice (some ⟨g0, 0, none⟩) 4 c0 ∧ Value.slice yp yq yr = .slice (some ⟨g1, 0, none⟩) 4 c1 ∧ Value.slice zp zq zr = .slice a' n' k') ∧ lplain rs = (stepD d a).1 ∧ OwnK lo w' g0 c0 rs g1 c1 (stepD d a).2.1 a' n' k' (stepD d a).2.2 ∧ n' ≤ 5 ∧ ∀ b, ob = some b → OffK b g0 rs g1 a') ∧ Below lo w w' ∧ ∀ b, ob = some b → Box w' b NV NV NV := by
  obtain ⟨h1, h2, h3⟩ := h
  rcases h1 with ⟨hn, xp, xq, xr, yp, yq, yr, zp, zq, zr, rfl⟩ | ⟨hy, rs, a', n', k', rfl, q1, q2, q3, q4⟩
  · exact ⟨xp, xq, xr, yp, yq, yr, zp, zq, zr, by rw [hn], (fun e => by rw [hn] at e; cases e), h2, h3⟩
  · exact ⟨_, _, _, _, _, _, _, _, _, by rw [hy], fun _ => ⟨rs, a', n', k', ⟨rfl, rfl, rfl⟩, q1, q2, q3, q4⟩, h2, h3⟩
theorem row_shape {W : World} {lo : Nat} {e : TypeId} {a : Option Addr} {n c : Nat} {xs : List Value} (h : W.ownsRow lo e 1 (.slice a n c) n xs) : (n = 0 ∧ a = none ∧ c = 0) ∨ ∃ g, a = some ⟨g, 0, none⟩ := by
  rcases h.2 with ⟨h0, h1⟩ | ⟨g, cap, cur, hv, _⟩
  · left
    simp at h0 h1
    exact ⟨by omega, by simp_all, by simp_all⟩
  · right
    cases hv
    exact ⟨g, rfl⟩
theorem set_getD_self {α : Type} (l : List α) (k : Nat) (e : α) : l.set k (l.getD k e) = l := by
  by_cases h : k < l.length
  · simp [List.getD, h]
  · exact List.set_eq_of_length_le (by omega)
theorem put_wf {z : Int} {zs : List Int} (hz : (Lit.int .i64 z).wf = true) (h : ∀ x ∈ zs, (Lit.int .i64 x).wf = true) : ∀ x ∈ Rel.putN z zs, (Lit.int .i64 x).wf = true := fun x hx => by
  rcases Rel.mem_putN.1 hx with e | e
  · rw [e]; exact hz
  · exact h x e

set_option maxRecDepth 8000 in
set_option maxHeartbeats 3200000 in
theorem spec_Step (ob : Option Nat) (lo g0 c0 g1 c1 n2 c2 : Nat) (a2 : Option Addr) (rs : List LV) (who item : Int) (wri fin : Bool) (d : D) (w : World) (h : OwnK lo w g0 c0 rs g1 c1 d.2.1 a2 n2 c2 d.2.2) (hpl : lplain rs = d.1) (hg : goodK d = true) (hob : ∀ b, ob = some b → OffK b g0 rs g1 a2 ∧ Box w b NV NV NV) :
    Calls Try.prog 68 #[.agg #[.slice (some ⟨g0, 0, none⟩) 4 c0, .slice (some ⟨g1, 0, none⟩) 4 c1, .slice a2 n2 c2], .agg #[.int .i64 who, .int .i64 item, .bool wri, .bool fin]] w (StepR ob lo g0 c0 g1 c1 d (who, item, wri, fin) w) := by
  obtain ⟨i0, hi, hz0, hz1, hz2⟩ := info_parts Ints.info
  have HOK : Hid (OwnK lo w g0 c0 rs g1 c1 d.2.1 a2 n2 c2 d.2.2) := h
  have HPL : Hid (lplain rs = d.1) := hpl
  have HOB : Hid (∀ b, ob = some b → OffK b g0 rs g1 a2) := fun b e => (hob b e).1
  have HOL : Hid (∀ b, ob = some b → b < w.heap.size) := fun b e => Frame.cell_lt (hob b e).2.c0
  have HO0 : Hid (∀ b, ob = some b → g0 ≠ b) := fun b e => (hob b e).1.o0.symm
  have HO1 : Hid (∀ b, ob = some b → g1 ≠ b) := fun b e => (hob b e).1.o1.symm
  have HO2 : Hid (∀ b, ob = some b → ∀ u, a2 = some u → u.block ≠ b) := fun b e => (hob b e).1.o2
  have HOX : Hid (∀ b, ob = some b → w.heap.size ≠ b) := fun b e => by have := Frame.cell_lt (hob b e).2.c0; simp only at this; omega
  have HOR : Hid (∀ b, ob = some b → w.heap.size + 1 + 1 ≠ b) := fun b e => by have := Frame.cell_lt (hob b e).2.c0; simp only at this; omega
  have HG : Hid (goodK d = true) := hg
  have hlo : lo ≤ w.heap.size := by have := h.lt0; omega
  have h24 : n2 ≤ 4 := by have := once_len (good_parts hg).2.2.1; rwa [h.olen] at this
  have HR4 : Hid (∀ k, k < 4 → (d.1.getD k []).length ≤ 4) := fun k hk => rise_len (Lkg.good_row HG.out hk)
  have HT0 : Hid (totalL rs ≤ 1048576) := total_small hpl h.len (OwnLs.vlen h.rows) (fun j hj => by have := HR4.out j hj; omega)
  have HS : Hid (SIs w (.slice (some ⟨g0, 0, none⟩) 4 c0) (.slice (some ⟨g1, 0, none⟩) 4 c1) (.slice a2 n2 c2) d) := by
    have z := SLocks.sOwn_is (h.sown HT0.out (by omega) (Nat.le_refl _))
    rw [hpl] at z
    exact z
  have BP : Hid (Below w.heap.size w (((w.alloc (.cells #[.slice (some ⟨g0, 0, none⟩) 4 c0, .slice (some ⟨g1, 0, none⟩) 4 c1, .slice a2 n2 c2] 26)).alloc (.cells #[.int .i64 who, .int .i64 item, .bool wri, .bool fin] 28)).alloc (.cells #[.slice none 0 0, .slice none 0 0, .slice none 0 0] 26))) := (((Below.refl _ _).alloc (Nat.le_refl _) _).alloc (by simp) _).alloc (by simp; omega) _
  have HZ : Hid ((((w.alloc (.cells #[.slice (some ⟨g0, 0, none⟩) 4 c0, .slice (some ⟨g1, 0, none⟩) 4 c1, .slice a2 n2 c2] 26)).alloc (.cells #[.int .i64 who, .int .i64 item, .bool wri, .bool fin] 28)).alloc (.cells #[.slice none 0 0, .slice none 0 0, .slice none 0 0] 26)).heap.size = w.heap.size + 3) := by show _ = _; simp
  have FP : Hid (Fs ob w.heap.size who item wri fin (.slice (some ⟨g0, 0, none⟩) 4 c0) (.slice (some ⟨g1, 0, none⟩) 4 c1) (.slice a2 n2 c2) (((w.alloc (.cells #[.slice (some ⟨g0, 0, none⟩) 4 c0, .slice (some ⟨g1, 0, none⟩) 4 c1, .slice a2 n2 c2] 26)).alloc (.cells #[.int .i64 who, .int .i64 item, .bool wri, .bool fin] 28)).alloc (.cells #[.slice none 0 0, .slice none 0 0, .slice none 0 0] 26))) := by
    refine ⟨⟨?_, ?_, ?_, ?_, ?_, ?_⟩, ⟨?_, ?_, ?_, ?_⟩, ⟨?_, ?_, ?_, ?_, ?_, ?_⟩, fun b e => (hob b e).2.below BP.out⟩ <;> go_simp
  have HGI : Hid (0 ≤ g0 ∧ g0 < w.heap.size ∧ g1 < w.heap.size) := ⟨Nat.zero_le _, h.lt0.2, h.lt1.2⟩
  clear h hpl hg hob
  go_enter Try.func68, Try.ntmps68
  go_wp2_with fail
  generalize (((w.alloc (.cells #[.slice (some ⟨g0, 0, none⟩) 4 c0, .slice (some ⟨g1, 0, none⟩) 4 c1, .slice a2 n2 c2] 26)).alloc (.cells #[.int .i64 who, .int .i64 item, .bool wri, .bool fin] 28)).alloc (.cells #[.slice none 0 0, .slice none 0 0, .slice none 0 0] 26)) = P at BP HZ FP ⊢
  refine (Lkd.spec_ask (some ⟨g0, 0, none⟩) (some ⟨g1, 0, none⟩) a2 4 c0 4 c1 n2 c2 who item wri fin d _ (iIs_below HS.out.2.2 BP.out)).mono ?_
  rintro e w1 ⟨rfl, hb1⟩
  have F1 : Hid (Fs ob w.heap.size who item wri fin (.slice (some ⟨g0, 0, none⟩) 4 c0) (.slice (some ⟨g1, 0, none⟩) 4 c1) (.slice a2 n2 c2) w1) := FP.out.next hb1
  have B1 : Hid (Below w.heap.size w w1) := Frame.next BP.out hb1 BP.out.size
  have L1 : Hid (OwnK lo w1 g0 c0 rs g1 c1 d.2.1 a2 n2 c2 d.2.2) := HOK.out.below B1.out
  clear hb1
  obtain ⟨⟨p0, p1, p2, pf0, pf1, pf2⟩, ⟨q0, q1, q2, q3⟩, ⟨r0, r1, r2, rf0, rf1, rf2⟩⟩ := F1.out
  rcases Bool.eq_false_or_eq_true (askB d (who, item, wri, fin)) with hg | hg
  rotate_left
  · have F : Hid (askN d (who, item, wri, fin) = false) := by show _ = _; unfold askN; rw [hg]; rfl
    rw [hg]
    clear hg
    go_wp2
    refine bodyPost_ret (v := .tuple #[.agg #[.slice (some ⟨g0, 0, none⟩) 4 c0, .slice (some ⟨g1, 0, none⟩) 4 c1, .slice a2 n2 c2], .bool false]) (by simp [results, Try.results68, go_sem, r0, r1, r2]) rfl ?_
    exact ⟨Or.inl ⟨F.out, _, _, _, _, _, _, _, _, _, rfl⟩, (((B1.out.setCell (by show w.heap.size ≤ w.heap.size + 1 + 1; omega) _).setCell (by show w.heap.size ≤ w.heap.size + 1 + 1; omega) _).setCell (by show w.heap.size ≤ w.heap.size + 1 + 1; omega) _).mono hlo, fun b e => box_far3 (F1.out.o b e) (HOR.out b e)⟩
  have HN1 : Hid (askN d (who, item, wri, fin) = (fin || decide (waitN d (who, item, wri, fin) = []))) := by show _ = _; unfold askN; rw [hg]; rfl
  have hwho := inB_iff.1 (Bool.and_eq_true_iff.1 hg).1
  have hww : (Lit.int .i64 who).wf = true := int_wf who (by omega) (by omega)
  have HIT : Hid (fin = false → Val.inB item 0 3 = true) := fun e => by
    have := (Bool.and_eq_true_iff.1 (Bool.and_eq_true_iff.1 hg).2).2
    subst e
    exact this
  rw [hg]
  clear hg
  cases fin
  rotate_left
  · have F : Hid (askN d (who, item, wri, true) = true) := HN1.out
    have PT0 : Hid (Part who d 0 (lplain rs) d.2.1) := by show Part _ _ _ _ _; rw [HPL.out]; exact part0 (good_parts HG.out).1 (good_parts HG.out).2.1
    have OFR0 : Hid (OffK (w.heap.size + 1 + 1) g0 rs g1 a2) := HOK.out.off (Or.inr (by omega))
    have OFN0 : Hid (OffK w.heap.size g0 rs g1 a2) := HOK.out.off (Or.inr (by omega))
    have HOKW : Hid (lo ≤ g0) := HOK.out.lt0.1
    have BL1 : Hid (Below lo w w1) := B1.out.mono hlo
    go_wp2_with fail
    clear p0 p1 p2 pf0 pf1 pf2 q0 q1 q2 q3 r0 r1 r2 rf0 rf1 rf2
    go_loopw [33] (fun i wr => ∃ (k : Nat) (qs : List LV) (ws : List Int), k ≤ 4 ∧ i = .int .i64 k ∧ OwnK lo wr g0 c0 qs g1 c1 ws a2 n2 c2 d.2.2 ∧ Part who d k (lplain qs) ws ∧ Fs ob w.heap.size who item wri true (.slice (some ⟨g0, 0, none⟩) 4 c0) (.slice (some ⟨g1, 0, none⟩) 4 c1) (.slice a2 n2 c2) wr ∧ OffK (w.heap.size + 1 + 1) g0 qs g1 a2 ∧ OffK w.heap.size g0 qs g1 a2 ∧ (∀ b, ob = some b → OffK b g0 qs g1 a2) ∧ Below lo w wr) (fun i _ => 4 - (intOf i).toNat)
    case atStart => exact ⟨0, rs, d.2.1, by omega, rfl, L1.out, PT0.out, F1.out, OFR0.out, OFN0.out, HOB.out, BL1.out⟩
    case round =>
      obtain ⟨k, qs, ws, hk, rfl, hown, hpt, hfs, hofr, hofn, hofo, hnx⟩ := hrel
      have OK : Hid (OwnK lo wr g0 c0 qs g1 c1 ws a2 n2 c2 d.2.2) := hown
      have PT : Hid (Part who d k (lplain qs) ws) := hpt
      have FR : Hid (Fs ob w.heap.size who item wri true (.slice (some ⟨g0, 0, none⟩) 4 c0) (.slice (some ⟨g1, 0, none⟩) 4 c1) (.slice a2 n2 c2) wr) := hfs
      have HN : Hid (Below lo w wr) := hnx
      have OFR : Hid (OffK (w.heap.size + 1 + 1) g0 qs g1 a2) := hofr
      have OFN : Hid (OffK w.heap.size g0 qs g1 a2) := hofn
      have OFO : Hid (∀ b, ob = some b → OffK b g0 qs g1 a2) := hofo
      clear hown hpt hnx hfs hofr hofn hofo
      by_cases hlt : k < 4
      · have hkI : (k : Int) < 4 := by omega
        have HQL : Hid (qs.length = 4) := OK.out.len
        have HM : Hid (qs.getD k ld ∈ qs) := getD_mem_ld (by rw [HQL.out]; exact hlt)
        have bD : Below wr.heap.size wr wr.drew := (Below.refl _ _).drew
        have LRD : Hid (OwnK lo wr.drew g0 c0 qs g1 c1 ws a2 n2 c2 d.2.2) := OK.out.below bD
        have FRD : Hid (Fs ob w.heap.size who item wri true (.slice (some ⟨g0, 0, none⟩) 4 c0) (.slice (some ⟨g1, 0, none⟩) 4 c1) (.slice a2 n2 c2) wr.drew) := FR.out.next bD
        have BRD : Hid (Below lo w wr.drew) := HN.out.drew
        have HSLD : Hid (wr.drew.cell? ⟨g0, k, none⟩ = some (.slice (qs.getD k ld).a (qs.getD k ld).n (qs.getD k ld).c)) := slot_at LRD.out hlt
        have RD : Hid (IsRow .i64 wr.drew (qs.getD k ld).a (qs.getD k ld).n (qs.getD k ld).c (qs.getD k ld).zs) := own_row (LRD.out.rows.inner _ HM.out) (LRD.out.rows.wf _ HM.out)
        have HZQ : Hid ((qs.getD k ld).zs = (lplain qs).getD k []) := lplain_at rfl (by rw [HQL.out]; exact hlt)
        have HQN : Hid ((qs.getD k ld).n ≤ 4) := by
          have h1 := RD.out.len
          rw [HZQ.out, PT.out.xk k hlt (Nat.le_refl _)] at h1
          have := HR4.out k hlt
          show _ ≤ _
          omega
        have HSET : Hid (∀ (r : LV) (W' : World), Below wr.drew.heap.size wr.drew W' → W'.ownsRow wr.drew.heap.size 3 1 (.slice r.a r.n r.c) r.n (ints .i64 r.zs) → (∀ z ∈ r.zs, (Lit.int .i64 z).wf = true) → OwnK lo (W'.setCell ⟨g0, k, none⟩ (.slice r.a r.n r.c)) g0 c0 (qs.set k r) g1 c1 ws a2 n2 c2 d.2.2) := fun r W' hb hr hw => (LRD.out.below hb).setNew hlt hr hw (by have h1 := BRD.out.size; omega) LRD.out.lt
        generalize qs.getD k ld = q at HSLD RD HZQ HQN HSET
        obtain ⟨qa, qn, qc, qz⟩ := q
        have hqn : qn ≤ 4 := HQN.out
        clear bD
        go_wp2_with fail
        refine wp_region_held_drew (S := fun w' => w'.cell? ⟨w.heap.size, 0, none⟩ = some (.slice (some ⟨g0, 0, none⟩) 4 c0) ∧ w'.cell? ⟨w.heap.size + 1, 0, none⟩ = some (.int .i64 who)) (by kernel_rfl) ?_ (fun hHeld => ?_)
        · exact ⟨FRD.out.p.c0, FRD.out.a.c0⟩
        refine wpAnyH_take (i := 0) (v := (.pointer (some ⟨w.heap.size, 0, none⟩))) rfl (by kernel_rfl) (by kernel_rfl) (by kernel_rfl) (fun _ _ _ h => h) (Or.inl ⟨by rfl, ?_⟩) (by assumption) ?_
        · intro w hSw; (try dsimp only at hSw); go_simp
        (try show wpAnyH _ _ _ _ _ _ _ (Act.put _ (some 36) _) _); (try simp only [Act.put, List.setIfInBounds_toArray, List.set_cons_zero, List.set_cons_succ])
        refine wpAnyH_take (i := 1) (v := (.slice (some ⟨g0, 0, none⟩) 4 c0)) rfl (by kernel_rfl) (by kernel_rfl) (by kernel_rfl) (fun _ _ _ h => h) (Or.inl ⟨by rfl, ?_⟩) (by assumption) ?_
        · intro w hSw; (try dsimp only at hSw); go_simp
        (try show wpAnyH _ _ _ _ _ _ _ (Act.put _ (some 37) _) _); (try simp only [Act.put, List.setIfInBounds_toArray, List.set_cons_zero, List.set_cons_succ])
        refine wpAnyH_take (i := 2) (v := (.int .i64 (k : Int))) rfl (by kernel_rfl) (by kernel_rfl) (by kernel_rfl) (fun _ _ _ h => h) (Or.inl ⟨by rfl, ?_⟩) (by assumption) ?_
        · intro w hSw; (try dsimp only at hSw); go_simp
        (try show wpAnyH _ _ _ _ _ _ _ (Act.put _ (some 38) _) _); (try simp only [Act.put, List.setIfInBounds_toArray, List.set_cons_zero, List.set_cons_succ])
        refine wpAnyH_take (i := 3) (v := (.pointer (some ⟨w.heap.size, 0, none⟩))) rfl (by kernel_rfl) (by kernel_rfl) (by kernel_rfl) (fun _ _ _ h => h) (Or.inl ⟨by rfl, ?_⟩) (by assumption) ?_
        · intro w hSw; (try dsimp only at hSw); go_simp
        (try show wpAnyH _ _ _ _ _ _ _ (Act.put _ (some 39) _) _); (try simp only [Act.put, List.setIfInBounds_toArray, List.set_cons_zero, List.set_cons_succ])
        refine wpAnyH_take (i := 4) (v := (.slice (some ⟨g0, 0, none⟩) 4 c0)) rfl (by kernel_rfl) (by kernel_rfl) (by kernel_rfl) (fun _ _ _ h => h) (Or.inl ⟨by rfl, ?_⟩) (by assumption) ?_
        · intro w hSw; (try dsimp only at hSw); go_simp
        (try show wpAnyH _ _ _ _ _ _ _ (Act.put _ (some 40) _) _); (try simp only [Act.put, List.setIfInBounds_toArray, List.set_cons_zero, List.set_cons_succ])
        refine wpAnyH_take (i := 5) (v := (.int .i64 (k : Int))) rfl (by kernel_rfl) (by kernel_rfl) (by kernel_rfl) (fun _ _ _ h => h) (Or.inl ⟨by rfl, ?_⟩) (by assumption) ?_
        · intro w hSw; (try dsimp only at hSw); go_simp
        (try show wpAnyH _ _ _ _ _ _ _ (Act.put _ (some 41) _) _); (try simp only [Act.put, List.setIfInBounds_toArray, List.set_cons_zero, List.set_cons_succ])
        refine wpAnyH_take (i := 6) (v := (.pointer (some ⟨g0, k, none⟩))) rfl (by kernel_rfl) (by kernel_rfl) (by kernel_rfl) (fun _ _ _ h => h) (Or.inl ⟨by rfl, ?_⟩) (by assumption) ?_
        · intro w hSw; (try dsimp only at hSw); go_simp
        (try show wpAnyH _ _ _ _ _ _ _ (Act.put _ (some 42) _) _); (try simp only [Act.put, List.setIfInBounds_toArray, List.set_cons_zero, List.set_cons_succ])
        refine wpAnyH_take (i := 8) (v := (.pointer (some ⟨w.heap.size + 1, 0, none⟩))) rfl (by kernel_rfl) (by kernel_rfl) (by kernel_rfl) (fun _ _ _ h => h) (Or.inl ⟨by rfl, ?_⟩) (by assumption) ?_
        · intro w hSw; (try dsimp only at hSw); go_simp
        (try show wpAnyH _ _ _ _ _ _ _ (Act.put _ (some 44) _) _); (try simp only [Act.put, List.setIfInBounds_toArray, List.set_cons_zero, List.set_cons_succ])
        refine wpAnyH_take (i := 9) (v := (.int .i64 who)) rfl (by kernel_rfl) (by kernel_rfl) (by kernel_rfl) (fun _ _ _ h => h) (Or.inl ⟨by rfl, ?_⟩) (by assumption) ?_
        · intro w hSw; (try dsimp only at hSw); go_simp
        (try show wpAnyH _ _ _ _ _ _ _ (Act.put _ (some 45) _) _); (try simp only [Act.put, List.setIfInBounds_toArray, List.set_cons_zero, List.set_cons_succ])
        refine wpAnyH_ready (rs := [7]) (by kernel_rfl) (by simp) ?_
        refine AllReadyH.cons rfl (fun K hK => ?_) AllReadyH.nil
        have hsl := HSLD.out
        (try simp only at hsl)
        go_simp
        clear hsl
        refine hK.out _ _ ?_ (fun hHeld => ?_)
        · exact ⟨FRD.out.p.c0, FRD.out.a.c0⟩
        clear hK K
        (try show wpAnyH _ _ _ _ _ _ _ (Act.put _ (some 43) _) _); (try simp only [Act.put, List.setIfInBounds_toArray, List.set_cons_zero, List.set_cons_succ])
        refine wpAnyH_ready (rs := [10]) (by kernel_rfl) (by simp) ?_
        refine AllReadyH.cons rfl (fun K hK => ?_) AllReadyH.nil
        go_simp
        go_at_call 121
        refine (spec_Drop qa qn qc qz who _ RD.out (by omega)).mono ?_
        rintro e w2 ⟨a4, m4, c4, rfl, hm, ho2, hb2⟩
        have OS : Hid (OwnK lo (w2.setCell ⟨g0, k, none⟩ (.slice a4 m4 c4)) g0 c0 (qs.set k ⟨a4, m4, c4, dropL who qz⟩) g1 c1 ws a2 n2 c2 d.2.2) := HSET.out ⟨a4, m4, c4, dropL who qz⟩ w2 hb2 ho2 (fun z hz => RD.out.wf z (List.mem_filter.1 hz).1)
        have F2 : Hid (Fs ob w.heap.size who item wri true (.slice (some ⟨g0, 0, none⟩) 4 c0) (.slice (some ⟨g1, 0, none⟩) 4 c1) (.slice a2 n2 c2) w2) := FRD.out.next hb2
        have F3 : Hid (Fs ob w.heap.size who item wri true (.slice (some ⟨g0, 0, none⟩) 4 c0) (.slice (some ⟨g1, 0, none⟩) 4 c1) (.slice a2 n2 c2) (w2.setCell ⟨g0, k, none⟩ (.slice a4 m4 c4))) := F2.out.set g0 k _ (Or.inl HGI.out.2.1) HO0.out
        have OFN3 : Hid (OffK w.heap.size g0 (qs.set k ⟨a4, m4, c4, dropL who qz⟩) g1 a2) := OffK.setR OFN.out k _ (fun x hx => by have h := (own_block ho2 x hx).1; have h2 := FRD.out.lt; omega)
        have OFR3 : Hid (OffK (w.heap.size + 1 + 1) g0 (qs.set k ⟨a4, m4, c4, dropL who qz⟩) g1 a2) := OffK.setR OFR.out k _ (fun x hx => by have h := (own_block ho2 x hx).1; have h2 := FRD.out.lt; omega)
        have OFO3 : Hid (∀ b, ob = some b → OffK b g0 (qs.set k ⟨a4, m4, c4, dropL who qz⟩) g1 a2) := fun b e => OffK.setR (OFO.out b e) k _ (fun x hx => by have h := (own_block ho2 x hx).1; have h2 := FRD.out.lt; have h3 := HOL.out b e; omega)
        have B3 : Hid (Below lo w (w2.setCell ⟨g0, k, none⟩ (.slice a4 m4 c4))) := (Frame.next BRD.out hb2 (Nat.le_trans hlo BRD.out.size)).setCell HOKW.out _
        have HSL4 : Hid (w2.cell? ⟨g0, k, none⟩ = some (.slice qa qn qc)) := Frame.held_cell hb2 HSLD.out
        have HFZ4 : Hid (w2.frozen? ⟨g0, k, none⟩ = false) := (hb2.frozen (Frame.cell_lt HSLD.out)).trans (LRD.out.rows.outer.frozenAt k)
        clear hm ho2 hb2
        go_wp2_with fail
        refine hK.out _ _ ?_ (fun hHeld => ?_)
        · exact ⟨F2.out.p.c0, F2.out.a.c0⟩
        clear hK K
        (try show wpAnyH _ _ _ _ _ _ _ (Act.put _ (some 46) _) _); (try simp only [Act.put, List.setIfInBounds_toArray, List.set_cons_zero, List.set_cons_succ])
        refine wpAnyH_take (i := 11) (v := (.pointer (some ⟨g0, k, none⟩))) rfl (by kernel_rfl) (by kernel_rfl) (by kernel_rfl) (fun _ _ _ h => h) (Or.inl ⟨by rfl, ?_⟩) (by assumption) ?_
        · intro w hSw; (try dsimp only at hSw); go_simp
        (try show wpAnyH _ _ _ _ _ _ _ (Act.put _ (some 47) _) _); (try simp only [Act.put, List.setIfInBounds_toArray, List.set_cons_zero, List.set_cons_succ])
        refine wpAnyH_ready (rs := [12]) (by kernel_rfl) (by simp) ?_
        refine AllReadyH.cons rfl (fun K hK => ?_) AllReadyH.nil
        have hs4 := HSL4.out
        have hf4 := HFZ4.out
        go_simp
        clear hs4 hf4
        refine hK.out _ _ ?_ (fun hHeld => ?_)
        · exact ⟨F3.out.p.c0, F3.out.a.c0⟩
        clear hK K
        (try simp only [Act.put, List.setIfInBounds_toArray, List.set_cons_zero, List.set_cons_succ])
        refine wpAnyH_done (by kernel_rfl) ?_ _
        have HNX : Hid (Part who d (k + 1) (lplain (qs.set k ⟨a4, m4, c4, dropL who qz⟩)) (ws.set k (offN who (ws.getD k 0)))) := by
          show Part _ _ _ _ _
          have h := PT.out.next hlt
          rw [lplain_set]
          rw [← show qz = (lplain qs).getD k [] from HZQ.out] at h
          exact h
        have hnum := num_slot OS.out hlt
        have HWL : Hid (ws.length = 4) := OS.out.wlen
        have HOY : Hid (ws.getD k 0 = who → ws.set k (offN who (ws.getD k 0)) = ws.set k (-1)) := off_yes
        have HON : Hid (ws.getD k 0 ≠ who → ws.set k (offN who (ws.getD k 0)) = ws) := fun e => off_same (by rw [HWL.out]; exact hlt) e
        generalize hxx : ws.getD k 0 = x at hnum HOY HON HNX
        clear hxx
        obtain ⟨⟨p0, p1, p2, pf0, pf1, pf2⟩, ⟨q0, q1, q2, q3⟩, ⟨r0, r1, r2, rf0, rf1, rf2⟩⟩ := F3.out
        have fnum := OS.out.nums.frozenAt k
        by_cases hx : x = who
        · have hxb : (x == who) = true := by rw [beq_iff_eq]; exact hx
          have E : Hid (ws.set k (offN who x) = ws.set k (-1)) := HOY.out hx
          go_wp2_with fail
          go_quiet (fail)
          have bQ : Below (w2.setCell ⟨g0, k, none⟩ (.slice a4 m4 c4)).heap.size (w2.setCell ⟨g0, k, none⟩ (.slice a4 m4 c4)) ((w2.setCell ⟨g0, k, none⟩ (.slice a4 m4 c4)).drewN nq) := below_drewN (Below.refl _ _) nq
          have FQ : Hid (Fs ob w.heap.size who item wri true (.slice (some ⟨g0, 0, none⟩) 4 c0) (.slice (some ⟨g1, 0, none⟩) 4 c1) (.slice a2 n2 c2) ((w2.setCell ⟨g0, k, none⟩ (.slice a4 m4 c4)).drewN nq)) := F3.out.next bQ
          have OQ : Hid (OwnK lo (((w2.setCell ⟨g0, k, none⟩ (.slice a4 m4 c4)).drewN nq).setCell ⟨g1, k, none⟩ (.int .i64 (-1))) g0 c0 (qs.set k ⟨a4, m4, c4, dropL who qz⟩) g1 c1 (ws.set k (-1)) a2 n2 c2 d.2.2) := (OS.out.below bQ).setNum (int_wf _ (by omega) (by omega))
          have NQ : Hid (Below lo w (((w2.setCell ⟨g0, k, none⟩ (.slice a4 m4 c4)).drewN nq).setCell ⟨g1, k, none⟩ (.int .i64 (-1)))) := (below_drewN B3.out nq).setCell HOK.out.lt1.1 _
          have FQ2 : Hid (Fs ob w.heap.size who item wri true (.slice (some ⟨g0, 0, none⟩) 4 c0) (.slice (some ⟨g1, 0, none⟩) 4 c1) (.slice a2 n2 c2) (((w2.setCell ⟨g0, k, none⟩ (.slice a4 m4 c4)).drewN nq).setCell ⟨g1, k, none⟩ (.int .i64 (-1)))) := FQ.out.set g1 k _ (Or.inl HGI.out.2.2) HO1.out
          rw [E.out] at HNX
          clear bQ
          go_wp2
          go_roundw
          case rel => exact ⟨k + 1, _, _, by omega, by go_num, OQ.out, HNX.out, FQ2.out, OFR3.out, OFN3.out, OFO3.out, NQ.out⟩
          case measure => simp [intOf]; omega
        · have hxb : (x == who) = false := by rw [beq_eq_false_iff_ne]; exact hx
          have E : Hid (ws.set k (offN who x) = ws) := HON.out hx
          go_wp2_with fail
          go_quiet (fail)
          have bQ : Below (w2.setCell ⟨g0, k, none⟩ (.slice a4 m4 c4)).heap.size (w2.setCell ⟨g0, k, none⟩ (.slice a4 m4 c4)) ((w2.setCell ⟨g0, k, none⟩ (.slice a4 m4 c4)).drewN nq) := below_drewN (Below.refl _ _) nq
          have FQ : Hid (Fs ob w.heap.size who item wri true (.slice (some ⟨g0, 0, none⟩) 4 c0) (.slice (some ⟨g1, 0, none⟩) 4 c1) (.slice a2 n2 c2) ((w2.setCell ⟨g0, k, none⟩ (.slice a4 m4 c4)).drewN nq)) := F3.out.next bQ
          have OQ : Hid (OwnK lo ((w2.setCell ⟨g0, k, none⟩ (.slice a4 m4 c4)).drewN nq) g0 c0 (qs.set k ⟨a4, m4, c4, dropL who qz⟩) g1 c1 ws a2 n2 c2 d.2.2) := OS.out.below bQ
          have NQ : Hid (Below lo w ((w2.setCell ⟨g0, k, none⟩ (.slice a4 m4 c4)).drewN nq)) := below_drewN B3.out nq
          have FQ2 : Hid (Fs ob w.heap.size who item wri true (.slice (some ⟨g0, 0, none⟩) 4 c0) (.slice (some ⟨g1, 0, none⟩) 4 c1) (.slice a2 n2 c2) ((w2.setCell ⟨g0, k, none⟩ (.slice a4 m4 c4)).drewN nq)) := FQ.out
          rw [E.out] at HNX
          clear bQ
          go_wp2
          go_roundw
          case rel => exact ⟨k + 1, _, _, by omega, by go_num, OQ.out, HNX.out, FQ2.out, OFR3.out, OFN3.out, OFO3.out, NQ.out⟩
          case measure => simp [intOf]; omega
      · obtain rfl : k = 4 := by omega
        have HD := PT.out.done (good_parts HG.out).1 (good_parts HG.out).2.1
        have HX1 : Hid (lplain qs = d.1.map (dropL who)) := HD.1
        have HX2 : Hid (ws = d.2.1.map (offN who)) := HD.2
        have bA : Below wr.heap.size wr (wr.alloc (.cells #[.int .i64 who] 3)) := (Below.refl _ _).alloc (Nat.le_refl _) _
        have OA : Hid (OwnK lo (wr.alloc (.cells #[.int .i64 who] 3)) g0 c0 qs g1 c1 ws a2 n2 c2 d.2.2) := OK.out.below bA
        have FA : Hid (Fs ob w.heap.size who item wri true (.slice (some ⟨g0, 0, none⟩) 4 c0) (.slice (some ⟨g1, 0, none⟩) 4 c1) (.slice a2 n2 c2) (wr.alloc (.cells #[.int .i64 who] 3))) := FR.out.next bA
        have NA : Hid (Below lo w (wr.alloc (.cells #[.int .i64 who] 3))) := HN.out.alloc (Nat.le_trans hlo HN.out.size) _
        have SA : Hid (∀ j u, ([.int .i64 who] : List Value)[j]? = some u → (wr.alloc (.cells #[.int .i64 who] 3)).cell? ((⟨wr.heap.size, 0, none⟩ : Addr).add j) = some u) := fun j u hu => by
          obtain ⟨ad, e, h⟩ := news_one wr (.int .i64 who) 3 (by omega)
          cases e
          exact h j u hu
        have hbs : lo ≤ (wr.alloc (.cells #[.int .i64 who] 3)).heap.size := by have := OA.out.lt0; omega
        obtain ⟨⟨p0, p1, p2, pf0, pf1, pf2⟩, ⟨q0, q1, q2, q3⟩, ⟨r0, r1, r2, rf0, rf1, rf2⟩⟩ := FR.out
        clear bA HD
        go_wp2_with (at_builtin; refine wpList_append_lies _ rfl _ _ 24 rfl lo 3 i0 (.int .i64 0) 1 8 Try.underlying24 hi hz0 hz1 hz2 rfl (by decide) _ n2 (ints .i64 d.2.2) rfl OA.out.over ⟨wr.heap.size, 0, none⟩ 1 1 [.int .i64 who] rfl rfl SA.out (by simp [Value.oneCell']) (by omega) (by unfold maxLen; omega) (by omega) hbs _ rfl ?_)
        intro g cap' w4 hown4 hgrow4 hat4 hlt4
        have T4 : Hid (OnlyAt a2 (wr.alloc (.cells #[.int .i64 who] 3)) w4) := only_grown hgrow4
        have HAT : Hid ((∃ y, a2 = some y ∧ y.block = g) ∨ (wr.alloc (.cells #[.int .i64 who] 3)).heap.size ≤ g) := by
          rcases hat4 with h | h
          · left
            simp only [Value.ownBlock] at h
            cases hb2 : a2 with
            | none => rw [hb2] at h; simp at h
            | some y => rw [hb2] at h; simp at h; exact ⟨y, rfl, h⟩
          · right
            have hsA : (wr.alloc (.cells #[.int .i64 who] 3)).heap.size = wr.heap.size + 1 := by simp
            omega
        have O4 : Hid (OwnK lo w4 g0 c0 qs g1 c1 ws (some ⟨g, 0, none⟩) (n2 + 1) cap' (d.2.2 ++ [who])) := OA.out.push (by simpa [ints] using hown4) hgrow4 hww (fun x hx => by cases hx; exact HAT.out)
        have F4 : Hid (Fs ob w.heap.size who item wri true (.slice (some ⟨g0, 0, none⟩) 4 c0) (.slice (some ⟨g1, 0, none⟩) 4 c1) (.slice a2 n2 c2) w4) := FA.out.touch T4.out (fun u hu => Or.inl (by have h1 := HOK.out.lt2 u hu; exact h1.2)) HO2.out
        have HGN : Hid (g ≠ w.heap.size ∧ g ≠ w.heap.size + 1 + 1) := by
          rcases HAT.out with ⟨y, h1, h2⟩ | h
          · have := (HOK.out.lt2 y h1).2
            exact ⟨by omega, by omega⟩
          · have := FA.out.lt
            exact ⟨by omega, by omega⟩
        have OFN4 : Hid (OffK w.heap.size g0 qs g1 (some ⟨g, 0, none⟩)) := ⟨OFN.out.o0, OFN.out.orr, OFN.out.o1, fun x hx => by cases hx; exact HGN.out.1⟩
        have OFR4 : Hid (OffK (w.heap.size + 1 + 1) g0 qs g1 (some ⟨g, 0, none⟩)) := ⟨OFR.out.o0, OFR.out.orr, OFR.out.o1, fun x hx => by cases hx; exact HGN.out.2⟩
        have OFO4 : Hid (∀ b, ob = some b → OffK b g0 qs g1 (some ⟨g, 0, none⟩)) := fun b e => ⟨(OFO.out b e).o0, (OFO.out b e).orr, (OFO.out b e).o1, fun x hx => by
          cases hx
          show g ≠ b
          rcases HAT.out with ⟨y, h1, h2⟩ | h
          · have := (OFO.out b e).o2 y h1
            omega
          · have h1 := FA.out.lt
            have h2 := HOL.out b e
            omega⟩
        have N4 : Hid (Below lo w w4) := below_touch NA.out T4.out (fun x hx => (OA.out.lt2 x hx).1) hbs
        have O5 : Hid (OwnK lo (w4.setCell ⟨w.heap.size, 2, none⟩ (.slice (some ⟨g, 0, none⟩) (n2 + 1) cap')) g0 c0 qs g1 c1 ws (some ⟨g, 0, none⟩) (n2 + 1) cap' (d.2.2 ++ [who])) := O4.out.setOff OFN4.out 2 _
        have F5 : Hid (Fs ob w.heap.size who item wri true (.slice (some ⟨g0, 0, none⟩) 4 c0) (.slice (some ⟨g1, 0, none⟩) 4 c1) (.slice (some ⟨g, 0, none⟩) (n2 + 1) cap') (w4.setCell ⟨w.heap.size, 2, none⟩ (.slice (some ⟨g, 0, none⟩) (n2 + 1) cap'))) := F4.out.push HOX.out
        have N5 : Hid (Below lo w (w4.setCell ⟨w.heap.size, 2, none⟩ (.slice (some ⟨g, 0, none⟩) (n2 + 1) cap'))) := N4.out.setCell hlo _
        clear hown4 hgrow4 hat4 hlt4 p0 p1 p2 pf0 pf1 pf2 q0 q1 q2 q3 r0 r1 r2 rf0 rf1 rf2
        have p2 := F4.out.p.c2
        have pf2 := F4.out.p.f2
        obtain ⟨⟨s0, s1, s2, sf0, sf1, sf2⟩, ⟨t0, t1, t2, t3⟩, ⟨u0, u1, u2, uf0, uf1, uf2⟩⟩ := F5.out
        go_wp2
        refine bodyPost_ret (v := .tuple #[.agg #[.slice (some ⟨g0, 0, none⟩) 4 c0, .slice (some ⟨g1, 0, none⟩) 4 c1, .slice (some ⟨g, 0, none⟩) (n2 + 1) cap'], .bool true]) (by simp [results, Try.results68, go_sem, u0, u1, u2]) rfl ?_
        exact ⟨Or.inr ⟨F.out, qs, _, _, _, rfl, HX1.out, by show OwnK lo _ g0 c0 qs g1 c1 (d.2.1.map (offN who)) _ _ _ (d.2.2 ++ [who]); rw [← HX2.out]; exact ((O5.out.setOff OFR4.out _ _).setOff OFR4.out _ _).setOff OFR4.out _ _, by omega, OFO4.out⟩, ((N5.out.setCell (by show lo ≤ w.heap.size + 1 + 1; omega) _).setCell (by show lo ≤ w.heap.size + 1 + 1; omega) _).setCell (by show lo ≤ w.heap.size + 1 + 1; omega) _, fun b e => box_far3 (F5.out.o b e) (HOR.out b e)⟩
  have hi3 := inB_iff.1 (HIT.out rfl)
  obtain ⟨it, rfl⟩ : ∃ it : Nat, item = (it : Int) := ⟨item.toNat, by omega⟩
  have hit : it < 4 := by omega
  have HTN : Hid ((it : Int).toNat = it) := Int.toNat_natCast it
  clear hi3
  go_wp2_with fail
  refine (Lke.spec_waits (some ⟨g0, 0, none⟩) (some ⟨g1, 0, none⟩) a2 c0 c1 n2 c2 who it wri false d _ (lIs_below HS.out.1 B1.out) (iIs_below HS.out.2.1 B1.out) hit).mono ?_
  rintro e w2 ⟨a', m, c', rfl, hm, ho, hb2⟩
  have HM : Hid (decide (waitN d (who, (it : Int), wri, false) = []) = decide (m = 0)) := by
    show _ = _
    have hl := ho.1
    rw [ints_length] at hl
    rw [decide_eq_decide]
    constructor
    · intro e; rw [e] at hl; simp at hl; omega
    · intro e; exact List.eq_nil_of_length_eq_zero (by omega)
  have F2 : Hid (Fs ob w.heap.size who (it : Int) wri false (.slice (some ⟨g0, 0, none⟩) 4 c0) (.slice (some ⟨g1, 0, none⟩) 4 c1) (.slice a2 n2 c2) w2) := F1.out.next hb2
  have B2 : Hid (Below w.heap.size w w2) := Frame.next B1.out hb2 B1.out.size
  have L2 : Hid (OwnK lo w2 g0 c0 rs g1 c1 d.2.1 a2 n2 c2 d.2.2) := L1.out.below hb2
  clear hb2 ho
  clear p0 p1 p2 pf0 pf1 pf2 q0 q1 q2 q3 r0 r1 r2 rf0 rf1 rf2
  obtain ⟨⟨p0, p1, p2, pf0, pf1, pf2⟩, ⟨q0, q1, q2, q3⟩, ⟨r0, r1, r2, rf0, rf1, rf2⟩⟩ := F2.out
  by_cases hm0 : m = 0
  rotate_left
  · have hmI : (m : Int) > 0 := by omega
    have F : Hid (askN d (who, (it : Int), wri, false) = false) := by show _ = _; rw [HN1.out, HM.out, decide_eq_false hm0]; rfl
    go_wp2
    refine bodyPost_ret (v := .tuple #[.agg #[.slice (some ⟨g0, 0, none⟩) 4 c0, .slice (some ⟨g1, 0, none⟩) 4 c1, .slice a2 n2 c2], .bool false]) (by simp [results, Try.results68, go_sem, r0, r1, r2]) rfl ?_
    exact ⟨Or.inl ⟨F.out, _, _, _, _, _, _, _, _, _, rfl⟩, (((B2.out.setCell (by show w.heap.size ≤ w.heap.size + 1 + 1; omega) _).setCell (by show w.heap.size ≤ w.heap.size + 1 + 1; omega) _).setCell (by show w.heap.size ≤ w.heap.size + 1 + 1; omega) _).mono hlo, fun b e => box_far3 (F2.out.o b e) (HOR.out b e)⟩
  subst hm0
  have F : Hid (askN d (who, (it : Int), wri, false) = true) := by show _ = _; rw [HN1.out, HM.out]; rfl
  have LT2 := F2.out.lt
  cases wri
  · have HM4 : Hid (rs.getD it ld ∈ rs) := getD_mem_ld (by rw [L2.out.len]; exact hit)
    have HSD : Hid (stepD d (who, (it : Int), false, false) = (d.1.set it (Rel.putN who (d.1.getD it [])), d.2.1, d.2.2)) := by show withD d who (it : Int).toNat false = _; rw [HTN.out]; rfl
    have HQL : Hid (rs.length = 4) := L2.out.len
    have HSLD : Hid (w2.drew.cell? ⟨g0, it, none⟩ = some (.slice (rs.getD it ld).a (rs.getD it ld).n (rs.getD it ld).c)) := by show _ = _; rw [World.cell?_drew]; exact slot_at L2.out hit
    have BD2 : Hid (Below lo w w2.drew) := (B2.out.mono hlo).drew
    have L2D : Hid (OwnK lo w2.drew g0 c0 rs g1 c1 d.2.1 a2 n2 c2 d.2.2) := L2.out.below ((Below.refl _ _).drew)
    have RD : Hid (IsRow .i64 w2.drew (rs.getD it ld).a (rs.getD it ld).n (rs.getD it ld).c (rs.getD it ld).zs) := own_row (L2D.out.rows.inner _ HM4.out) (L2D.out.rows.wf _ HM4.out)
    have SH : Hid (((rs.getD it ld).n = 0 ∧ (rs.getD it ld).a = none ∧ (rs.getD it ld).c = 0) ∨ ∃ g, (rs.getD it ld).a = some ⟨g, 0, none⟩) := row_shape (L2D.out.rows.inner _ HM4.out)
    have HZQ : Hid ((rs.getD it ld).zs = d.1.getD it []) := lplain_at HPL.out (by rw [HQL.out]; exact hit)
    have HQN : Hid ((rs.getD it ld).n ≤ 4) := by
      have h1 := RD.out.len
      rw [HZQ.out] at h1
      have := HR4.out it hit
      show _ ≤ _
      omega
    have SAME : Hid (∀ W', w2.drew = W' → OwnK lo (W'.setCell ⟨g0, it, none⟩ (.slice (rs.getD it ld).a (rs.getD it ld).n (rs.getD it ld).c)) g0 c0 rs g1 c1 d.2.1 a2 n2 c2 d.2.2) := fun W' e => by subst e; exact L2D.out.setSame hit
    have HSET : Hid (∀ (r : LV) (W' : World), Below w2.drew.heap.size w2.drew W' → W'.ownsRow w2.drew.heap.size 3 1 (.slice r.a r.n r.c) r.n (ints .i64 r.zs) → (∀ z ∈ r.zs, (Lit.int .i64 z).wf = true) → OwnK lo (W'.setCell ⟨g0, it, none⟩ (.slice r.a r.n r.c)) g0 c0 (rs.set it r) g1 c1 d.2.1 a2 n2 c2 d.2.2) := fun r W' hb hr hw => (L2D.out.below hb).setNew hit hr hw (by have := BD2.out.size; omega) L2D.out.lt
    generalize rs.getD it ld = q at HSLD RD SH HZQ HQN SAME HSET
    obtain ⟨qa, qn, qc, qz⟩ := q
    have hqn : qn ≤ 4 := HQN.out
    have F2D : Hid (Fs ob w.heap.size who (it : Int) false false (.slice (some ⟨g0, 0, none⟩) 4 c0) (.slice (some ⟨g1, 0, none⟩) 4 c1) (.slice a2 n2 c2) (w2.drew)) := F2.out.next ((Below.refl _ _).drew)
    have HOKW : Hid (lo ≤ g0) := HOK.out.lt0.1
    have OFR : Hid (OffK (w.heap.size + 1 + 1) g0 rs g1 a2) := HOK.out.off (Or.inr (by omega))
    have hitI : (it : Int) < 4 := by omega
    go_wp2_with fail
    clear p0 p1 p2 pf0 pf1 pf2 q0 q1 q2 q3 r0 r1 r2 rf0 rf1 rf2
    refine wp_region_held_drew (S := fun w' => w'.cell? ⟨w.heap.size, 0, none⟩ = some (.slice (some ⟨g0, 0, none⟩) 4 c0) ∧ w'.cell? ⟨w.heap.size + 1, 0, none⟩ = some (.int .i64 who) ∧ w'.cell? ⟨w.heap.size + 1, 1, none⟩ = some (.int .i64 (it : Int))) (by kernel_rfl) ?_ (fun hHeld => ?_)
    · exact ⟨F2D.out.p.c0, F2D.out.a.c0, F2D.out.a.c1⟩
    refine wpAnyH_take (i := 0) (v := (.pointer (some ⟨w.heap.size, 0, none⟩))) rfl (by kernel_rfl) (by kernel_rfl) (by kernel_rfl) (fun _ _ _ h => h) (Or.inl ⟨by rfl, ?_⟩) (by assumption) ?_
    · intro w hSw; (try dsimp only at hSw); go_simp
    (try show wpAnyH _ _ _ _ _ _ _ (Act.put _ (some 7) _) _); (try simp only [Act.put, List.setIfInBounds_toArray, List.set_cons_zero, List.set_cons_succ])
    refine wpAnyH_take (i := 1) (v := (.slice (some ⟨g0, 0, none⟩) 4 c0)) rfl (by kernel_rfl) (by kernel_rfl) (by kernel_rfl) (fun _ _ _ h => h) (Or.inl ⟨by rfl, ?_⟩) (by assumption) ?_
    · intro w hSw; (try dsimp only at hSw); go_simp
    (try show wpAnyH _ _ _ _ _ _ _ (Act.put _ (some 8) _) _); (try simp only [Act.put, List.setIfInBounds_toArray, List.set_cons_zero, List.set_cons_succ])
    refine wpAnyH_take (i := 2) (v := (.pointer (some ⟨w.heap.size + 1, 1, none⟩))) rfl (by kernel_rfl) (by kernel_rfl) (by kernel_rfl) (fun _ _ _ h => h) (Or.inl ⟨by rfl, ?_⟩) (by assumption) ?_
    · intro w hSw; (try dsimp only at hSw); go_simp
    (try show wpAnyH _ _ _ _ _ _ _ (Act.put _ (some 9) _) _); (try simp only [Act.put, List.setIfInBounds_toArray, List.set_cons_zero, List.set_cons_succ])
    refine wpAnyH_take (i := 3) (v := (.int .i64 (it : Int))) rfl (by kernel_rfl) (by kernel_rfl) (by kernel_rfl) (fun _ _ _ h => h) (Or.inl ⟨by rfl, ?_⟩) (by assumption) ?_
    · intro w hSw; (try dsimp only at hSw); go_simp
    (try show wpAnyH _ _ _ _ _ _ _ (Act.put _ (some 10) _) _); (try simp only [Act.put, List.setIfInBounds_toArray, List.set_cons_zero, List.set_cons_succ])
    refine wpAnyH_take (i := 4) (v := (.pointer (some ⟨w.heap.size, 0, none⟩))) rfl (by kernel_rfl) (by kernel_rfl) (by kernel_rfl) (fun _ _ _ h => h) (Or.inl ⟨by rfl, ?_⟩) (by assumption) ?_
    · intro w hSw; (try dsimp only at hSw); go_simp
    (try show wpAnyH _ _ _ _ _ _ _ (Act.put _ (some 11) _) _); (try simp only [Act.put, List.setIfInBounds_toArray, List.set_cons_zero, List.set_cons_succ])
    refine wpAnyH_take (i := 5) (v := (.slice (some ⟨g0, 0, none⟩) 4 c0)) rfl (by kernel_rfl) (by kernel_rfl) (by kernel_rfl) (fun _ _ _ h => h) (Or.inl ⟨by rfl, ?_⟩) (by assumption) ?_
    · intro w hSw; (try dsimp only at hSw); go_simp
    (try show wpAnyH _ _ _ _ _ _ _ (Act.put _ (some 12) _) _); (try simp only [Act.put, List.setIfInBounds_toArray, List.set_cons_zero, List.set_cons_succ])
    refine wpAnyH_take (i := 6) (v := (.pointer (some ⟨w.heap.size + 1, 1, none⟩))) rfl (by kernel_rfl) (by kernel_rfl) (by kernel_rfl) (fun _ _ _ h => h) (Or.inl ⟨by rfl, ?_⟩) (by assumption) ?_
    · intro w hSw; (try dsimp only at hSw); go_simp
    (try show wpAnyH _ _ _ _ _ _ _ (Act.put _ (some 13) _) _); (try simp only [Act.put, List.setIfInBounds_toArray, List.set_cons_zero, List.set_cons_succ])
    refine wpAnyH_take (i := 7) (v := (.int .i64 (it : Int))) rfl (by kernel_rfl) (by kernel_rfl) (by kernel_rfl) (fun _ _ _ h => h) (Or.inl ⟨by rfl, ?_⟩) (by assumption) ?_
    · intro w hSw; (try dsimp only at hSw); go_simp
    (try show wpAnyH _ _ _ _ _ _ _ (Act.put _ (some 14) _) _); (try simp only [Act.put, List.setIfInBounds_toArray, List.set_cons_zero, List.set_cons_succ])
    refine wpAnyH_take (i := 8) (v := (.pointer (some ⟨g0, it, none⟩))) rfl (by kernel_rfl) (by kernel_rfl) (by kernel_rfl) (fun _ _ _ h => h) (Or.inl ⟨by rfl, ?_⟩) (by assumption) ?_
    · intro w hSw; (try dsimp only at hSw); go_simp
    (try show wpAnyH _ _ _ _ _ _ _ (Act.put _ (some 15) _) _); (try simp only [Act.put, List.setIfInBounds_toArray, List.set_cons_zero, List.set_cons_succ])
    refine wpAnyH_take (i := 10) (v := (.pointer (some ⟨w.heap.size + 1, 0, none⟩))) rfl (by kernel_rfl) (by kernel_rfl) (by kernel_rfl) (fun _ _ _ h => h) (Or.inl ⟨by rfl, ?_⟩) (by assumption) ?_
    · intro w hSw; (try dsimp only at hSw); go_simp
    (try show wpAnyH _ _ _ _ _ _ _ (Act.put _ (some 17) _) _); (try simp only [Act.put, List.setIfInBounds_toArray, List.set_cons_zero, List.set_cons_succ])
    refine wpAnyH_take (i := 11) (v := (.int .i64 who)) rfl (by kernel_rfl) (by kernel_rfl) (by kernel_rfl) (fun _ _ _ h => h) (Or.inl ⟨by rfl, ?_⟩) (by assumption) ?_
    · intro w hSw; (try dsimp only at hSw); go_simp
    (try show wpAnyH _ _ _ _ _ _ _ (Act.put _ (some 18) _) _); (try simp only [Act.put, List.setIfInBounds_toArray, List.set_cons_zero, List.set_cons_succ])
    refine wpAnyH_ready (rs := [9]) (by kernel_rfl) (by simp) ?_
    refine AllReadyH.cons rfl (fun K hK => ?_) AllReadyH.nil
    have hsl := HSLD.out
    (try simp only at hsl)
    go_simp
    clear hsl
    refine hK.out _ _ ?_ (fun hHeld => ?_)
    · exact ⟨F2D.out.p.c0, F2D.out.a.c0, F2D.out.a.c1⟩
    clear hK K
    (try show wpAnyH _ _ _ _ _ _ _ (Act.put _ (some 16) _) _); (try simp only [Act.put, List.setIfInBounds_toArray, List.set_cons_zero, List.set_cons_succ])
    refine wpAnyH_ready (rs := [12]) (by kernel_rfl) (by simp) ?_
    refine AllReadyH.cons rfl (fun K hK => ?_) AllReadyH.nil
    go_simp
    go_at_call 102
    refine (Spo.spec_l1Put qa qn qc qz who _ RD.out SH.out (by omega) hww).mono ?_
    rintro e w4 ⟨a4, m4, c4, rfl, hput, hb4⟩
    have LP : Hid (∃ rs', lplain rs' = d.1.set it (Rel.putN who qz) ∧ OwnK lo (w4.setCell ⟨g0, it, none⟩ (.slice a4 m4 c4)) g0 c0 rs' g1 c1 d.2.1 a2 n2 c2 d.2.2 ∧ OffK (w.heap.size + 1 + 1) g0 rs' g1 a2 ∧ ∀ b, ob = some b → OffK b g0 rs' g1 a2) := by
      show ∃ _, _
      rcases hput with ⟨rfl, rfl, rfl, hw, he⟩ | ⟨ho, _⟩
      · refine ⟨rs, ?_, SAME.out w4 hw.symm, OFR.out, HOB.out⟩
        rw [he, HPL.out, show qz = d.1.getD it [] from HZQ.out]
        exact (set_getD_self _ _ _).symm
      · refine ⟨rs.set it ⟨a4, m4, c4, Rel.putN who qz⟩, by rw [lplain_set, HPL.out], HSET.out ⟨a4, m4, c4, Rel.putN who qz⟩ w4 hb4 ho (put_wf hww RD.out.wf), OffK.setR OFR.out it _ (fun x hx => by have h := (own_block ho x hx).1; have h2 := F2D.out.lt; omega), fun b e => OffK.setR (HOB.out b e) it _ (fun x hx => by have h := (own_block ho x hx).1; have h2 := F2D.out.lt; have h3 := HOL.out b e; omega)⟩
    have F4 : Hid (Fs ob w.heap.size who (it : Int) false false (.slice (some ⟨g0, 0, none⟩) 4 c0) (.slice (some ⟨g1, 0, none⟩) 4 c1) (.slice a2 n2 c2) w4) := F2D.out.next hb4
    have F5 : Hid (Fs ob w.heap.size who (it : Int) false false (.slice (some ⟨g0, 0, none⟩) 4 c0) (.slice (some ⟨g1, 0, none⟩) 4 c1) (.slice a2 n2 c2) (w4.setCell ⟨g0, it, none⟩ (.slice a4 m4 c4))) := F4.out.set g0 it _ (Or.inl HGI.out.2.1) HO0.out
    have B4 : Hid (Below lo w w4) := Frame.next BD2.out hb4 (Nat.le_trans hlo BD2.out.size)
    have HSL4 : Hid (w4.cell? ⟨g0, it, none⟩ = some (.slice qa qn qc)) := Frame.held_cell hb4 HSLD.out
    have HFZ4 : Hid (w4.frozen? ⟨g0, it, none⟩ = false) := (hb4.frozen (Frame.cell_lt HSLD.out)).trans (L2D.out.rows.outer.frozenAt it)
    clear hput hb4
    go_wp2_with fail
    refine hK.out _ _ ?_ (fun hHeld => ?_)
    · exact ⟨F4.out.p.c0, F4.out.a.c0, F4.out.a.c1⟩
    clear hK K
    (try show wpAnyH _ _ _ _ _ _ _ (Act.put _ (some 19) _) _); (try simp only [Act.put, List.setIfInBounds_toArray, List.set_cons_zero, List.set_cons_succ])
    refine wpAnyH_take (i := 13) (v := (.pointer (some ⟨g0, it, none⟩))) rfl (by kernel_rfl) (by kernel_rfl) (by kernel_rfl) (fun _ _ _ h => h) (Or.inl ⟨by rfl, ?_⟩) (by assumption) ?_
    · intro w hSw; (try dsimp only at hSw); go_simp
    (try show wpAnyH _ _ _ _ _ _ _ (Act.put _ (some 20) _) _); (try simp only [Act.put, List.setIfInBounds_toArray, List.set_cons_zero, List.set_cons_succ])
    refine wpAnyH_ready (rs := [14]) (by kernel_rfl) (by simp) ?_
    refine AllReadyH.cons rfl (fun K hK => ?_) AllReadyH.nil
    have hs4 := HSL4.out
    have hf4 := HFZ4.out
    go_simp
    clear hs4 hf4
    refine hK.out _ _ ?_ (fun hHeld => ?_)
    · exact ⟨F5.out.p.c0, F5.out.a.c0, F5.out.a.c1⟩
    clear hK K
    (try simp only [Act.put, List.setIfInBounds_toArray, List.set_cons_zero, List.set_cons_succ])
    refine wpAnyH_done (by kernel_rfl) ?_ _
    obtain ⟨rs', hpl', L5, OF5, OB5⟩ := LP.out
    have L5H : Hid (OwnK lo (w4.setCell ⟨g0, it, none⟩ (.slice a4 m4 c4)) g0 c0 rs' g1 c1 d.2.1 a2 n2 c2 d.2.2) := L5
    have OFR5 : Hid (OffK (w.heap.size + 1 + 1) g0 rs' g1 a2) := OF5
    have OB5H : Hid (∀ b, ob = some b → OffK b g0 rs' g1 a2) := OB5
    clear L5 OF5 OB5
    have B5 : Hid (Below lo w (w4.setCell ⟨g0, it, none⟩ (.slice a4 m4 c4))) := B4.out.setCell HOKW.out _
    obtain ⟨⟨s0, s1, s2, sf0, sf1, sf2⟩, ⟨t0, t1, t2, t3⟩, ⟨u0, u1, u2, uf0, uf1, uf2⟩⟩ := F5.out
    go_wp2
    refine bodyPost_ret (v := .tuple #[.agg #[.slice (some ⟨g0, 0, none⟩) 4 c0, .slice (some ⟨g1, 0, none⟩) 4 c1, .slice a2 n2 c2], .bool true]) (by simp [results, Try.results68, go_sem, u0, u1, u2]) rfl ?_
    exact ⟨Or.inr ⟨F.out, rs', a2, n2, c2, rfl, by rw [HSD.out, hpl', show qz = d.1.getD it [] from HZQ.out], by rw [HSD.out]; exact ((L5H.out.setOff OFR5.out _ _).setOff OFR5.out _ _).setOff OFR5.out _ _, by omega, OB5H.out⟩, ((B5.out.setCell (by show lo ≤ w.heap.size + 1 + 1; omega) _).setCell (by show lo ≤ w.heap.size + 1 + 1; omega) _).setCell (by show lo ≤ w.heap.size + 1 + 1; omega) _, fun b e => box_far3 (F5.out.o b e) (HOR.out b e)⟩
  · have hnum := num_slot L2.out hit
    have fnum := L2.out.nums.frozenAt it
    have HSD : Hid (stepD d (who, (it : Int), true, false) = (d.1, d.2.1.set it who, d.2.2)) := by show withD d who (it : Int).toNat true = _; rw [HTN.out]; rfl
    have L3 : Hid (OwnK lo (w2.setCell ⟨g1, it, none⟩ (.int .i64 who)) g0 c0 rs g1 c1 (d.2.1.set it who) a2 n2 c2 d.2.2) := L2.out.setNum hww
    have F3 : Hid (Fs ob w.heap.size who (it : Int) true false (.slice (some ⟨g0, 0, none⟩) 4 c0) (.slice (some ⟨g1, 0, none⟩) 4 c1) (.slice a2 n2 c2) (w2.setCell ⟨g1, it, none⟩ (.int .i64 who))) := F2.out.set g1 it _ (Or.inl HGI.out.2.2) HO1.out
    have B3 : Hid (Below lo w (w2.setCell ⟨g1, it, none⟩ (.int .i64 who))) := (B2.out.mono hlo).setCell HOK.out.lt1.1 _
    have OFR : Hid (OffK (w.heap.size + 1 + 1) g0 rs g1 a2) := HOK.out.off (Or.inr (by omega))
    have hitI : (it : Int) < 4 := by omega
    obtain ⟨⟨s0, s1, s2, sf0, sf1, sf2⟩, ⟨t0, t1, t2, t3⟩, ⟨u0, u1, u2, uf0, uf1, uf2⟩⟩ := F3.out
    go_wp2
    refine bodyPost_ret (v := .tuple #[.agg #[.slice (some ⟨g0, 0, none⟩) 4 c0, .slice (some ⟨g1, 0, none⟩) 4 c1, .slice a2 n2 c2], .bool true]) (by simp [results, Try.results68, go_sem, u0, u1, u2]) rfl ?_
    exact ⟨Or.inr ⟨F.out, rs, a2, n2, c2, rfl, by rw [HSD.out]; exact HPL.out, by rw [HSD.out]; exact ((L3.out.setOff OFR.out _ _).setOff OFR.out _ _).setOff OFR.out _ _, by omega, HOB.out⟩, ((B3.out.setCell (by show lo ≤ w.heap.size + 1 + 1; omega) _).setCell (by show lo ≤ w.heap.size + 1 + 1; omega) _).setCell (by show lo ≤ w.heap.size + 1 + 1; omega) _, fun b e => box_far3 (F3.out.o b e) (HOR.out b e)⟩


end Go.Proofs.Ytkondmnkmbdncaa.Lkl
