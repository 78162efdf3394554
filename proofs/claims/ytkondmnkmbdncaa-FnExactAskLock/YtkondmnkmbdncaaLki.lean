/-
  Contracts of the program's locksWithout and AskLock.
-/
import Derived.Test.YtkondmnkmbdncaaLkg
import Derived.Test.YtkondmnkmbdncaaLkh
namespace Go.Proofs.Ytkondmnkmbdncaa.Lki
open Go.RowKit
open Go.Proofs.Ytkondmnkmbdncaa.Frame Go.Proofs.Ytkondmnkmbdncaa.Mem Go.Proofs.Ytkondmnkmbdncaa.Kep Go.Proofs.Ytkondmnkmbdncaa.Lls Go.Proofs.Ytkondmnkmbdncaa.Knl Go.Proofs.Ytkondmnkmbdncaa.Mis Go.Proofs.Ytkondmnkmbdncaa.Kpi Go.Proofs.Ytkondmnkmbdncaa.Lkp Go.Proofs.Ytkondmnkmbdncaa.Lka Go.Proofs.Ytkondmnkmbdncaa.Lkb Go.Proofs.Ytkondmnkmbdncaa.Lkg Go.Proofs.Ytkondmnkmbdncaa.Lkh Go.Proofs.Ytkondmnkmbdncaa.Lks
open Go.Proofs.Ytkondmnkmbdncaa.SLocks (D SIs SOwn)

theorem OffK.setR {b g0 g1 : Nat} {rs : List LV} {a2 : Option Addr} (h : OffK b g0 rs g1 a2) (k : Nat) (r : LV) (hr : ∀ x, r.a = some x → x.block ≠ b) : OffK b g0 (rs.set k r) g1 a2 :=
  ⟨h.o0, fun s hs => (List.mem_or_eq_of_mem_set hs).elim (h.orr s) (fun e => e ▸ hr), h.o1, h.o2⟩

theorem not_closure (x who : Int) (b : Nat) (w : World) (h : w.cell? ⟨b, 0, none⟩ = some (.int .i64 who)) :
    Calls Try.prog 114 #[.int .i64 x, .pointer (some ⟨b, 0, none⟩)] w fun e w' => e = .returned (.bool (notB who x)) ∧ Below w.heap.size w w' := by
  go_enter Try.func114, Try.ntmps114
  go_wp2
  go_ret
  exact ⟨rfl, Below.refl _ _⟩

set_option maxRecDepth 8000 in
set_option maxHeartbeats 3200000 in
theorem without (a0 a1 a2 : Option Addr) (c0 c1 n2 c2 : Nat) (who : Int) (d : D) (w : World) (h : SIs w (.slice a0 4 c0) (.slice a1 4 c1) (.slice a2 n2 c2) d) (hg : goodK d = true) (hwho : 0 ≤ who ∧ who ≤ 3) :
    Calls Try.prog 64 #[.agg #[.slice a0 4 c0, .slice a1 4 c1, .slice a2 n2 c2], .int .i64 who] w fun e w' => ∃ x0 m0 y0 x1 m1 y1 x2 m2 y2, e = .returned (.agg #[.slice x0 m0 y0, .slice x1 m1 y1, .slice x2 m2 y2]) ∧ SOwn w' w.heap.size w'.heap.size (.slice x0 m0 y0) (.slice x1 m1 y1) (.slice x2 m2 y2) (outD d who) ∧ Below w.heap.size w w' := by
  obtain ⟨i0, hi, hz0, hz1, hz2⟩ := info_parts Ints.info
  have HS : Hid (SIs w (.slice a0 4 c0) (.slice a1 4 c1) (.slice a2 n2 c2) d) := h
  have HG : Hid (goodK d = true) := hg
  have h24 : n2 ≤ 4 := by have := once_len (good_parts hg).2.2.1; rwa [(num_at h.2.2).1.len] at this
  have BP : Hid (Below w.heap.size w (((w.alloc (.cells #[.slice a0 4 c0, .slice a1 4 c1, .slice a2 n2 c2] 26)).alloc (.cells #[.int .i64 who] 3)).alloc (.cells #[.slice none 0 0, .slice none 0 0, .slice none 0 0] 26))) := (((Below.refl _ _).alloc (Nat.le_refl _) _).alloc (by simp) _).alloc (by simp; omega) _
  have HZ : Hid ((((w.alloc (.cells #[.slice a0 4 c0, .slice a1 4 c1, .slice a2 n2 c2] 26)).alloc (.cells #[.int .i64 who] 3)).alloc (.cells #[.slice none 0 0, .slice none 0 0, .slice none 0 0] 26)).heap.size = w.heap.size + 3) := by show _ = _; simp
  have KQ : Hid ((((w.alloc (.cells #[.slice a0 4 c0, .slice a1 4 c1, .slice a2 n2 c2] 26)).alloc (.cells #[.int .i64 who] 3)).alloc (.cells #[.slice none 0 0, .slice none 0 0, .slice none 0 0] 26)).cell? ⟨w.heap.size + 1, 0, none⟩ = some (.int .i64 who) ∧ (((w.alloc (.cells #[.slice a0 4 c0, .slice a1 4 c1, .slice a2 n2 c2] 26)).alloc (.cells #[.int .i64 who] 3)).alloc (.cells #[.slice none 0 0, .slice none 0 0, .slice none 0 0] 26)).cell? ⟨w.heap.size + 1 + 1, 0, none⟩ = some (.slice none 0 0) ∧ (((w.alloc (.cells #[.slice a0 4 c0, .slice a1 4 c1, .slice a2 n2 c2] 26)).alloc (.cells #[.int .i64 who] 3)).alloc (.cells #[.slice none 0 0, .slice none 0 0, .slice none 0 0] 26)).cell? ⟨w.heap.size + 1 + 1, 1, none⟩ = some (.slice none 0 0) ∧ (((w.alloc (.cells #[.slice a0 4 c0, .slice a1 4 c1, .slice a2 n2 c2] 26)).alloc (.cells #[.int .i64 who] 3)).alloc (.cells #[.slice none 0 0, .slice none 0 0, .slice none 0 0] 26)).cell? ⟨w.heap.size + 1 + 1, 2, none⟩ = some (.slice none 0 0) ∧ (((w.alloc (.cells #[.slice a0 4 c0, .slice a1 4 c1, .slice a2 n2 c2] 26)).alloc (.cells #[.int .i64 who] 3)).alloc (.cells #[.slice none 0 0, .slice none 0 0, .slice none 0 0] 26)).frozen? ⟨w.heap.size + 1 + 1, 0, none⟩ = false ∧ (((w.alloc (.cells #[.slice a0 4 c0, .slice a1 4 c1, .slice a2 n2 c2] 26)).alloc (.cells #[.int .i64 who] 3)).alloc (.cells #[.slice none 0 0, .slice none 0 0, .slice none 0 0] 26)).frozen? ⟨w.heap.size + 1 + 1, 1, none⟩ = false ∧ (((w.alloc (.cells #[.slice a0 4 c0, .slice a1 4 c1, .slice a2 n2 c2] 26)).alloc (.cells #[.int .i64 who] 3)).alloc (.cells #[.slice none 0 0, .slice none 0 0, .slice none 0 0] 26)).frozen? ⟨w.heap.size + 1 + 1, 2, none⟩ = false) := by show _ ∧ _; refine ⟨?_, ?_, ?_, ?_, ?_, ?_, ?_⟩ <;> go_simp
  have hww : (Lit.int .i64 who).wf = true := int_wf who (by omega) (by omega)
  have HR4 : Hid (∀ k, k < 4 → (d.1.getD k []).length ≤ 4) := fun k hk => rise_len (Lkg.good_row HG.out hk)
  have HEN : Hid (Enters Try.prog 114) := enters Try.func114 (by kernel_rfl) rfl
  clear h hg
  go_enter Try.func64, Try.ntmps64
  go_wp2_with fail
  refine (copied a0 a1 a2 c0 c1 n2 c2 d _ (SLocks.sIs_below HS.out BP.out) HG.out).mono ?_
  rintro e w1 ⟨g0, rs, g1, k1, b2, k2, rfl, hpl, hok, hoff2, hb1⟩
  rw [HZ.out] at hok
  have OK1 : Hid (OwnK (w.heap.size + 3 + 2) w1 g0 4 rs g1 k1 d.2.1 b2 n2 k2 d.2.2) := hok
  have K1 : Hid (w1.cell? ⟨w.heap.size + 1, 0, none⟩ = some (.int .i64 who) ∧ w1.cell? ⟨w.heap.size + 1 + 1, 0, none⟩ = some (.slice none 0 0) ∧ w1.cell? ⟨w.heap.size + 1 + 1, 1, none⟩ = some (.slice none 0 0) ∧ w1.cell? ⟨w.heap.size + 1 + 1, 2, none⟩ = some (.slice none 0 0) ∧ w1.frozen? ⟨w.heap.size + 1 + 1, 0, none⟩ = false ∧ w1.frozen? ⟨w.heap.size + 1 + 1, 1, none⟩ = false ∧ w1.frozen? ⟨w.heap.size + 1 + 1, 2, none⟩ = false) := ⟨Frame.held_cell hb1 (KQ.out.1), Frame.held_cell hb1 (KQ.out.2.1), Frame.held_cell hb1 (KQ.out.2.2.1), Frame.held_cell hb1 (KQ.out.2.2.2.1), (hb1.frozen (Frame.cell_lt (KQ.out.2.1))).trans (KQ.out.2.2.2.2.1), (hb1.frozen (Frame.cell_lt (KQ.out.2.2.1))).trans (KQ.out.2.2.2.2.2.1), (hb1.frozen (Frame.cell_lt (KQ.out.2.2.2.1))).trans (KQ.out.2.2.2.2.2.2)⟩
  have hs1 : w.heap.size + 3 ≤ w1.heap.size := by have := hb1.size; rw [HZ.out] at this; exact this
  have B1 : Hid (Below w.heap.size w w1) := Frame.next BP.out hb1 BP.out.size
  have bV : Below w1.heap.size w1 (w1.alloc (.cells #[.slice (some ⟨g0, 0, none⟩) 4 4, .slice (some ⟨g1, 0, none⟩) 4 k1, .slice b2 n2 k2] 26)) := (Below.refl _ _).alloc (Nat.le_refl _) _
  have OKV : Hid (OwnK (w.heap.size + 3 + 2) (w1.alloc (.cells #[.slice (some ⟨g0, 0, none⟩) 4 4, .slice (some ⟨g1, 0, none⟩) 4 k1, .slice b2 n2 k2] 26)) g0 4 rs g1 k1 d.2.1 b2 n2 k2 d.2.2) := hok.below bV
  have O01 : Hid (w.heap.size + 3 + 2 ≤ g0 ∧ g0 < w1.heap.size ∧ w.heap.size + 3 + 2 ≤ g1 ∧ g1 < w1.heap.size) := ⟨hok.lt0.1, hok.lt0.2, hok.lt1.1, hok.lt1.2⟩
  have OX2 : Hid (∀ x, b2 = some x → x.block < w1.heap.size) := fun x hx => (hok.lt2 x hx).2
  have KV : Hid ((w1.alloc (.cells #[.slice (some ⟨g0, 0, none⟩) 4 4, .slice (some ⟨g1, 0, none⟩) 4 k1, .slice b2 n2 k2] 26)).cell? ⟨w.heap.size + 1, 0, none⟩ = some (.int .i64 who) ∧ (w1.alloc (.cells #[.slice (some ⟨g0, 0, none⟩) 4 4, .slice (some ⟨g1, 0, none⟩) 4 k1, .slice b2 n2 k2] 26)).cell? ⟨w.heap.size + 1 + 1, 0, none⟩ = some (.slice none 0 0) ∧ (w1.alloc (.cells #[.slice (some ⟨g0, 0, none⟩) 4 4, .slice (some ⟨g1, 0, none⟩) 4 k1, .slice b2 n2 k2] 26)).cell? ⟨w.heap.size + 1 + 1, 1, none⟩ = some (.slice none 0 0) ∧ (w1.alloc (.cells #[.slice (some ⟨g0, 0, none⟩) 4 4, .slice (some ⟨g1, 0, none⟩) 4 k1, .slice b2 n2 k2] 26)).cell? ⟨w.heap.size + 1 + 1, 2, none⟩ = some (.slice none 0 0) ∧ (w1.alloc (.cells #[.slice (some ⟨g0, 0, none⟩) 4 4, .slice (some ⟨g1, 0, none⟩) 4 k1, .slice b2 n2 k2] 26)).cell? ⟨w1.heap.size, 0, none⟩ = some (.slice (some ⟨g0, 0, none⟩) 4 4) ∧ (w1.alloc (.cells #[.slice (some ⟨g0, 0, none⟩) 4 4, .slice (some ⟨g1, 0, none⟩) 4 k1, .slice b2 n2 k2] 26)).cell? ⟨w1.heap.size, 1, none⟩ = some (.slice (some ⟨g1, 0, none⟩) 4 k1) ∧ (w1.alloc (.cells #[.slice (some ⟨g0, 0, none⟩) 4 4, .slice (some ⟨g1, 0, none⟩) 4 k1, .slice b2 n2 k2] 26)).cell? ⟨w1.heap.size, 2, none⟩ = some (.slice b2 n2 k2) ∧ (w1.alloc (.cells #[.slice (some ⟨g0, 0, none⟩) 4 4, .slice (some ⟨g1, 0, none⟩) 4 k1, .slice b2 n2 k2] 26)).frozen? ⟨w.heap.size + 1 + 1, 0, none⟩ = false ∧ (w1.alloc (.cells #[.slice (some ⟨g0, 0, none⟩) 4 4, .slice (some ⟨g1, 0, none⟩) 4 k1, .slice b2 n2 k2] 26)).frozen? ⟨w.heap.size + 1 + 1, 1, none⟩ = false ∧ (w1.alloc (.cells #[.slice (some ⟨g0, 0, none⟩) 4 4, .slice (some ⟨g1, 0, none⟩) 4 k1, .slice b2 n2 k2] 26)).frozen? ⟨w.heap.size + 1 + 1, 2, none⟩ = false ∧ (w1.alloc (.cells #[.slice (some ⟨g0, 0, none⟩) 4 4, .slice (some ⟨g1, 0, none⟩) 4 k1, .slice b2 n2 k2] 26)).frozen? ⟨w1.heap.size, 2, none⟩ = false) := by
    have z : (w1.alloc (.cells #[.slice (some ⟨g0, 0, none⟩) 4 4, .slice (some ⟨g1, 0, none⟩) 4 k1, .slice b2 n2 k2] 26)).cell? ⟨w.heap.size + 1, 0, none⟩ = some (.int .i64 who) ∧ (w1.alloc (.cells #[.slice (some ⟨g0, 0, none⟩) 4 4, .slice (some ⟨g1, 0, none⟩) 4 k1, .slice b2 n2 k2] 26)).cell? ⟨w.heap.size + 1 + 1, 0, none⟩ = some (.slice none 0 0) ∧ (w1.alloc (.cells #[.slice (some ⟨g0, 0, none⟩) 4 4, .slice (some ⟨g1, 0, none⟩) 4 k1, .slice b2 n2 k2] 26)).cell? ⟨w.heap.size + 1 + 1, 1, none⟩ = some (.slice none 0 0) ∧ (w1.alloc (.cells #[.slice (some ⟨g0, 0, none⟩) 4 4, .slice (some ⟨g1, 0, none⟩) 4 k1, .slice b2 n2 k2] 26)).cell? ⟨w.heap.size + 1 + 1, 2, none⟩ = some (.slice none 0 0) ∧ (w1.alloc (.cells #[.slice (some ⟨g0, 0, none⟩) 4 4, .slice (some ⟨g1, 0, none⟩) 4 k1, .slice b2 n2 k2] 26)).frozen? ⟨w.heap.size + 1 + 1, 0, none⟩ = false ∧ (w1.alloc (.cells #[.slice (some ⟨g0, 0, none⟩) 4 4, .slice (some ⟨g1, 0, none⟩) 4 k1, .slice b2 n2 k2] 26)).frozen? ⟨w.heap.size + 1 + 1, 1, none⟩ = false ∧ (w1.alloc (.cells #[.slice (some ⟨g0, 0, none⟩) 4 4, .slice (some ⟨g1, 0, none⟩) 4 k1, .slice b2 n2 k2] 26)).frozen? ⟨w.heap.size + 1 + 1, 2, none⟩ = false := ⟨Frame.held_cell bV (K1.out.1), Frame.held_cell bV (K1.out.2.1), Frame.held_cell bV (K1.out.2.2.1), Frame.held_cell bV (K1.out.2.2.2.1), (bV.frozen (Frame.cell_lt (K1.out.2.1))).trans (K1.out.2.2.2.2.1), (bV.frozen (Frame.cell_lt (K1.out.2.2.1))).trans (K1.out.2.2.2.2.2.1), (bV.frozen (Frame.cell_lt (K1.out.2.2.2.1))).trans (K1.out.2.2.2.2.2.2)⟩
    have y0 : (w1.alloc (.cells #[.slice (some ⟨g0, 0, none⟩) 4 4, .slice (some ⟨g1, 0, none⟩) 4 k1, .slice b2 n2 k2] 26)).cell? ⟨w1.heap.size, 0, none⟩ = some (.slice (some ⟨g0, 0, none⟩) 4 4) := by rw [World.cell?_alloc_at _ _ _ _ rfl]; rfl
    have y1 : (w1.alloc (.cells #[.slice (some ⟨g0, 0, none⟩) 4 4, .slice (some ⟨g1, 0, none⟩) 4 k1, .slice b2 n2 k2] 26)).cell? ⟨w1.heap.size, 1, none⟩ = some (.slice (some ⟨g1, 0, none⟩) 4 k1) := by rw [World.cell?_alloc_at _ _ _ _ rfl]; rfl
    have y2 : (w1.alloc (.cells #[.slice (some ⟨g0, 0, none⟩) 4 4, .slice (some ⟨g1, 0, none⟩) 4 k1, .slice b2 n2 k2] 26)).cell? ⟨w1.heap.size, 2, none⟩ = some (.slice b2 n2 k2) := by rw [World.cell?_alloc_at _ _ _ _ rfl]; rfl
    have y3 : (w1.alloc (.cells #[.slice (some ⟨g0, 0, none⟩) 4 4, .slice (some ⟨g1, 0, none⟩) 4 k1, .slice b2 n2 k2] 26)).frozen? ⟨w1.heap.size, 2, none⟩ = false := World.frozen?_alloc_at _ _ _ _ rfl
    exact ⟨z.1, z.2.1, z.2.2.1, z.2.2.2.1, y0, y1, y2, z.2.2.2.2.1, z.2.2.2.2.2.1, z.2.2.2.2.2.2, y3⟩
  have BV : Hid (Below w.heap.size w (w1.alloc (.cells #[.slice (some ⟨g0, 0, none⟩) 4 4, .slice (some ⟨g1, 0, none⟩) 4 k1, .slice b2 n2 k2] 26))) := B1.out.alloc B1.out.size _
  have HSZV : Hid ((w1.alloc (.cells #[.slice (some ⟨g0, 0, none⟩) 4 4, .slice (some ⟨g1, 0, none⟩) 4 k1, .slice b2 n2 k2] 26)).heap.size = w1.heap.size + 1) := by show _ = _; simp
  have PT0 : Hid (Part who d 0 (lplain rs) d.2.1) := by show Part _ _ _ _ _; rw [hpl]; exact part0 (good_parts HG.out).1 (good_parts HG.out).2.1
  have OFB0 : Hid (OffK w1.heap.size g0 rs g1 b2) := hok.off (Or.inr (Nat.le_refl _))
  clear hpl hok hb1 bV
  obtain ⟨p0, p1, p2, p3, p4, p5, p6, p7, p8, p9, p10⟩ := KV.out
  go_wp2_with fail
  clear p0 p1 p2 p3 p4 p5 p6 p7 p8 p9 p10
  go_loopw [13] (fun i wr => ∃ (k : Nat) (qs : List LV) (ws : List Int), k ≤ 4 ∧ i = .int .i64 k ∧ OwnK (w.heap.size + 3 + 2) wr g0 4 qs g1 k1 ws b2 n2 k2 d.2.2 ∧ Part who d k (lplain qs) ws ∧ OffK w1.heap.size g0 qs g1 b2 ∧ (w1.heap.size + 1 ≤ wr.heap.size ∧ (wr.cell? ⟨w.heap.size + 1, 0, none⟩ = some (.int .i64 who) ∧ wr.cell? ⟨w.heap.size + 1 + 1, 0, none⟩ = some (.slice none 0 0) ∧ wr.cell? ⟨w.heap.size + 1 + 1, 1, none⟩ = some (.slice none 0 0) ∧ wr.cell? ⟨w.heap.size + 1 + 1, 2, none⟩ = some (.slice none 0 0) ∧ wr.cell? ⟨w1.heap.size, 0, none⟩ = some (.slice (some ⟨g0, 0, none⟩) 4 4) ∧ wr.cell? ⟨w1.heap.size, 1, none⟩ = some (.slice (some ⟨g1, 0, none⟩) 4 k1) ∧ wr.cell? ⟨w1.heap.size, 2, none⟩ = some (.slice b2 n2 k2) ∧ wr.frozen? ⟨w.heap.size + 1 + 1, 0, none⟩ = false ∧ wr.frozen? ⟨w.heap.size + 1 + 1, 1, none⟩ = false ∧ wr.frozen? ⟨w.heap.size + 1 + 1, 2, none⟩ = false ∧ wr.frozen? ⟨w1.heap.size, 2, none⟩ = false)) ∧ Below w.heap.size w wr) (fun i _ => 4 - (intOf i).toNat)
  case atStart => exact ⟨0, rs, d.2.1, by omega, rfl, OKV.out, PT0.out, OFB0.out, ⟨Nat.le_of_eq HSZV.out.symm, KV.out⟩, BV.out⟩
  case round =>
    obtain ⟨k, qs, ws, hk, rfl, hown, hpt, hoff, ⟨hsz, hfs⟩, hnx⟩ := hrel
    have OK : Hid (OwnK (w.heap.size + 3 + 2) wr g0 4 qs g1 k1 ws b2 n2 k2 d.2.2) := hown
    have PT : Hid (Part who d k (lplain qs) ws) := hpt
    have KS : Hid (wr.cell? ⟨w.heap.size + 1, 0, none⟩ = some (.int .i64 who) ∧ wr.cell? ⟨w.heap.size + 1 + 1, 0, none⟩ = some (.slice none 0 0) ∧ wr.cell? ⟨w.heap.size + 1 + 1, 1, none⟩ = some (.slice none 0 0) ∧ wr.cell? ⟨w.heap.size + 1 + 1, 2, none⟩ = some (.slice none 0 0) ∧ wr.cell? ⟨w1.heap.size, 0, none⟩ = some (.slice (some ⟨g0, 0, none⟩) 4 4) ∧ wr.cell? ⟨w1.heap.size, 1, none⟩ = some (.slice (some ⟨g1, 0, none⟩) 4 k1) ∧ wr.cell? ⟨w1.heap.size, 2, none⟩ = some (.slice b2 n2 k2) ∧ wr.frozen? ⟨w.heap.size + 1 + 1, 0, none⟩ = false ∧ wr.frozen? ⟨w.heap.size + 1 + 1, 1, none⟩ = false ∧ wr.frozen? ⟨w.heap.size + 1 + 1, 2, none⟩ = false ∧ wr.frozen? ⟨w1.heap.size, 2, none⟩ = false) := hfs
    have HN : Hid (Below w.heap.size w wr) := hnx
    have OFF : Hid (OffK w1.heap.size g0 qs g1 b2) := hoff
    clear hown hpt hnx hfs hoff
    by_cases hlt : k < 4
    · have hkI : (k : Int) < 4 := by omega
      have HQL : Hid (qs.length = 4) := OK.out.len
      have HM : Hid (qs.getD k ld ∈ qs) := getD_mem_ld (by rw [HQL.out]; exact hlt)
      have hsl : wr.cell? ⟨g0, k, none⟩ = some (.slice (qs.getD k ld).a (qs.getD k ld).n (qs.getD k ld).c) := slot_at OK.out hlt
      have HQR : Hid (IsRow .i64 wr (qs.getD k ld).a (qs.getD k ld).n (qs.getD k ld).c (qs.getD k ld).zs) := own_row (OK.out.rows.inner _ HM.out) (OK.out.rows.wf _ HM.out)
      have HZQ : Hid ((qs.getD k ld).zs = (lplain qs).getD k []) := lplain_at rfl (by rw [HQL.out]; exact hlt)
      have HQN : Hid ((qs.getD k ld).n ≤ 4) := by
        have h1 := HQR.out.len
        rw [HZQ.out, PT.out.xk k hlt (Nat.le_refl _)] at h1
        have := HR4.out k hlt
        show _ ≤ _
        omega
      have HSET : Hid (∀ (B : Nat) (r : LV) (W' : World), Below wr.heap.size wr W' → W'.ownsRow B 3 1 (.slice r.a r.n r.c) r.n (ints .i64 r.zs) → (∀ z ∈ r.zs, (Lit.int .i64 z).wf = true) → wr.heap.size ≤ B → OwnK (w.heap.size + 3 + 2) (W'.setCell ⟨g0, k, none⟩ (.slice r.a r.n r.c)) g0 4 (qs.set k r) g1 k1 ws b2 n2 k2 d.2.2) := fun B r W' hb hr hw hB => (OK.out.below hb).setNew hlt hr hw (by have := OK.out.lt0; omega) ⟨by have := OK.out.lt.1; omega, by have := OK.out.lt.2.1; omega, fun x hx => by have := OK.out.lt.2.2.1 x hx; omega, fun s hs x hx => by have := OK.out.lt.2.2.2 s hs x hx; omega⟩
      have HSL : Hid (wr.cell? ⟨g0, k, none⟩ = some (.slice (qs.getD k ld).a (qs.getD k ld).n (qs.getD k ld).c)) := slot_at OK.out hlt
      generalize qs.getD k ld = q at HZQ hsl HQR HQN HSL
      obtain ⟨qa, qn, qc, qz⟩ := q
      simp only at hsl
      have hqn : qn ≤ 4 := HQN.out
      obtain ⟨p0, p1, p2, p3, p4, p5, p6, p7, p8, p9, p10⟩ := KS.out
      have KD : Hid (wr.drew.cell? ⟨w1.heap.size, 0, none⟩ = some (.slice (some ⟨g0, 0, none⟩) 4 4)) := by show _ = _; rw [World.cell?_drew]; exact p4
      have bD : Below wr.heap.size wr wr.drew := (Below.refl _ _).drew
      have RD : Hid (IsRow .i64 wr.drew qa qn qc qz) := IsRow.below HQR.out bD
      have HWC : Hid (wr.drew.cell? ⟨w.heap.size + 1, 0, none⟩ = some (.int .i64 who)) := by show _ = _; rw [World.cell?_drew]; exact p0
      clear bD
      go_wp2_with fail
      clear p0 p1 p2 p3 p4 p5 p6 p7 p8 p9 p10 hsl
      go_region_held3 (fun w' => w'.cell? ⟨w1.heap.size, 0, none⟩ = some (.slice (some ⟨g0, 0, none⟩) 4 4)) (first | exact KD.out | with_reducible exact K2.out | with_reducible exact K3.out)
        ((go_at_call 91; refine (kept_int qa qn qc qz 114 #[.pointer (some ⟨w.heap.size + 1, 0, none⟩)] (notB who) _ RD.out (by omega) HEN.out (fun x _ W2 hW2 => not_closure x who (w.heap.size + 1) W2 (Frame.held_cell hW2 HWC.out))).mono ?_; rintro e w2 ⟨a', m, c', rfl, hm, ho2, hb2⟩; have BW2 : Hid (Below wr.heap.size wr w2) := Frame.next ((Below.refl _ _).drew) hb2 (Nat.le_refl _); have OS : Hid (OwnK (w.heap.size + 3 + 2) (w2.setCell ⟨g0, k, none⟩ (.slice a' m c')) g0 4 (qs.set k ⟨a', m, c', dropL who qz⟩) g1 k1 ws b2 n2 k2 d.2.2) := HSET.out wr.heap.size ⟨a', m, c', dropL who qz⟩ w2 BW2.out ho2 (fun z hz => HQR.out.wf z (List.mem_filter.1 hz).1) (Nat.le_refl _); have OFS : Hid (OffK w1.heap.size g0 (qs.set k ⟨a', m, c', dropL who qz⟩) g1 b2) := OffK.setR OFF.out k _ (fun x hx => by have h := own_block ho2 x hx; have hz : wr.drew.heap.size = wr.heap.size := rfl; omega); have KS2 : Hid (w2.cell? ⟨w.heap.size + 1, 0, none⟩ = some (.int .i64 who) ∧ w2.cell? ⟨w.heap.size + 1 + 1, 0, none⟩ = some (.slice none 0 0) ∧ w2.cell? ⟨w.heap.size + 1 + 1, 1, none⟩ = some (.slice none 0 0) ∧ w2.cell? ⟨w.heap.size + 1 + 1, 2, none⟩ = some (.slice none 0 0) ∧ w2.cell? ⟨w1.heap.size, 0, none⟩ = some (.slice (some ⟨g0, 0, none⟩) 4 4) ∧ w2.cell? ⟨w1.heap.size, 1, none⟩ = some (.slice (some ⟨g1, 0, none⟩) 4 k1) ∧ w2.cell? ⟨w1.heap.size, 2, none⟩ = some (.slice b2 n2 k2) ∧ w2.frozen? ⟨w.heap.size + 1 + 1, 0, none⟩ = false ∧ w2.frozen? ⟨w.heap.size + 1 + 1, 1, none⟩ = false ∧ w2.frozen? ⟨w.heap.size + 1 + 1, 2, none⟩ = false ∧ w2.frozen? ⟨w1.heap.size, 2, none⟩ = false) := ⟨Frame.held_cell BW2.out (KS.out.1), Frame.held_cell BW2.out (KS.out.2.1), Frame.held_cell BW2.out (KS.out.2.2.1), Frame.held_cell BW2.out (KS.out.2.2.2.1), Frame.held_cell BW2.out (KS.out.2.2.2.2.1), Frame.held_cell BW2.out (KS.out.2.2.2.2.2.1), Frame.held_cell BW2.out (KS.out.2.2.2.2.2.2.1), (BW2.out.frozen (Frame.cell_lt (KS.out.2.1))).trans (KS.out.2.2.2.2.2.2.2.1), (BW2.out.frozen (Frame.cell_lt (KS.out.2.2.1))).trans (KS.out.2.2.2.2.2.2.2.2.1), (BW2.out.frozen (Frame.cell_lt (KS.out.2.2.2.1))).trans (KS.out.2.2.2.2.2.2.2.2.2.1), (BW2.out.frozen (Frame.cell_lt (KS.out.2.2.2.2.2.2.1))).trans (KS.out.2.2.2.2.2.2.2.2.2.2)⟩; have KS3 : Hid ((w2.setCell ⟨g0, k, none⟩ (.slice a' m c')).cell? ⟨w.heap.size + 1, 0, none⟩ = some (.int .i64 who) ∧ (w2.setCell ⟨g0, k, none⟩ (.slice a' m c')).cell? ⟨w.heap.size + 1 + 1, 0, none⟩ = some (.slice none 0 0) ∧ (w2.setCell ⟨g0, k, none⟩ (.slice a' m c')).cell? ⟨w.heap.size + 1 + 1, 1, none⟩ = some (.slice none 0 0) ∧ (w2.setCell ⟨g0, k, none⟩ (.slice a' m c')).cell? ⟨w.heap.size + 1 + 1, 2, none⟩ = some (.slice none 0 0) ∧ (w2.setCell ⟨g0, k, none⟩ (.slice a' m c')).cell? ⟨w1.heap.size, 0, none⟩ = some (.slice (some ⟨g0, 0, none⟩) 4 4) ∧ (w2.setCell ⟨g0, k, none⟩ (.slice a' m c')).cell? ⟨w1.heap.size, 1, none⟩ = some (.slice (some ⟨g1, 0, none⟩) 4 k1) ∧ (w2.setCell ⟨g0, k, none⟩ (.slice a' m c')).cell? ⟨w1.heap.size, 2, none⟩ = some (.slice b2 n2 k2) ∧ (w2.setCell ⟨g0, k, none⟩ (.slice a' m c')).frozen? ⟨w.heap.size + 1 + 1, 0, none⟩ = false ∧ (w2.setCell ⟨g0, k, none⟩ (.slice a' m c')).frozen? ⟨w.heap.size + 1 + 1, 1, none⟩ = false ∧ (w2.setCell ⟨g0, k, none⟩ (.slice a' m c')).frozen? ⟨w.heap.size + 1 + 1, 2, none⟩ = false ∧ (w2.setCell ⟨g0, k, none⟩ (.slice a' m c')).frozen? ⟨w1.heap.size, 2, none⟩ = false) := ⟨set_cell (by have := O01.out; omega) (KS2.out.1), set_cell (by have := O01.out; omega) (KS2.out.2.1), set_cell (by have := O01.out; omega) (KS2.out.2.2.1), set_cell (by have := O01.out; omega) (KS2.out.2.2.2.1), set_cell (fun e => OFF.out.o0 e.symm) (KS2.out.2.2.2.2.1), set_cell (fun e => OFF.out.o0 e.symm) (KS2.out.2.2.2.2.2.1), set_cell (fun e => OFF.out.o0 e.symm) (KS2.out.2.2.2.2.2.2.1), set_frozen (KS2.out.2.2.2.2.2.2.2.1), set_frozen (KS2.out.2.2.2.2.2.2.2.2.1), set_frozen (KS2.out.2.2.2.2.2.2.2.2.2.1), set_frozen (KS2.out.2.2.2.2.2.2.2.2.2.2)⟩; have K2 : Hid (w2.cell? ⟨w1.heap.size, 0, none⟩ = some (.slice (some ⟨g0, 0, none⟩) 4 4)) := KS2.out.2.2.2.2.1; have K3 : Hid ((w2.setCell ⟨g0, k, none⟩ (.slice a' m c')).cell? ⟨w1.heap.size, 0, none⟩ = some (.slice (some ⟨g0, 0, none⟩) 4 4)) := KS3.out.2.2.2.2.1; have ro := own_below OK.out.rows.outer BW2.out; have f5 := ro.frozenAt k; have hsl5 : w2.cell? ⟨g0, k, none⟩ = some (.slice qa qn qc) := Frame.held_cell BW2.out HSL.out; have N3 : Hid (Below w.heap.size w (w2.setCell ⟨g0, k, none⟩ (.slice a' m c'))) := (Frame.next HN.out BW2.out HN.out.size).setCell (by have := O01.out; show w.heap.size ≤ g0; omega) _; have Z3 : Hid (w1.heap.size + 1 ≤ (w2.setCell ⟨g0, k, none⟩ (.slice a' m c')).heap.size) := (by have := BW2.out.size; show _ ≤ _; simp; omega); clear ho2 hb2 ro hm))
      clear f5 hsl5
      have HNX : Hid (Part who d (k + 1) (lplain (qs.set k ⟨a', m, c', dropL who qz⟩)) (ws.set k (offN who (ws.getD k 0)))) := by
        show Part _ _ _ _ _
        have h := PT.out.next hlt
        rw [lplain_set]
        rw [← show qz = (lplain qs).getD k [] from HZQ.out] at h
        exact h
      have hnum := num_slot OS.out hlt
      have HWL : Hid (ws.length = 4) := OS.out.wlen
      have HOY : Hid (ws.getD k 0 = who → ws.set k (offN who (ws.getD k 0)) = ws.set k (-1)) := off_yes
      have HON : Hid (ws.getD k 0 ≠ who → ws.set k (offN who (ws.getD k 0)) = ws) := fun e => off_same (by rw [HWL.out]; exact hlt) e
      generalize hxx : ws.getD k 0 = x at hnum HOY HON HNX
      clear hxx
      obtain ⟨p0, p1, p2, p3, p4, p5, p6, p7, p8, p9, p10⟩ := KS3.out
      have fnum := OS.out.nums.frozenAt k
      have BN : Hid (Below w.heap.size w (w2.setCell ⟨g0, k, none⟩ (.slice a' m c'))) := N3.out
      by_cases hx : x = who
      · have hxb : (x == who) = true := by rw [beq_iff_eq]; exact hx
        have E : Hid (ws.set k (offN who x) = ws.set k (-1)) := HOY.out hx
        go_wp2_with fail
        go_quiet (fail)
        have bQ : Below (w2.setCell ⟨g0, k, none⟩ (.slice a' m c')).heap.size (w2.setCell ⟨g0, k, none⟩ (.slice a' m c')) ((w2.setCell ⟨g0, k, none⟩ (.slice a' m c')).drewN nq) := below_drewN (Below.refl _ _) nq
        have OQ : Hid (OwnK (w.heap.size + 3 + 2) (((w2.setCell ⟨g0, k, none⟩ (.slice a' m c')).drewN nq).setCell ⟨g1, k, none⟩ (.int .i64 (-1))) g0 4 (qs.set k ⟨a', m, c', dropL who qz⟩) g1 k1 (ws.set k (-1)) b2 n2 k2 d.2.2) := (OS.out.below bQ).setNum (int_wf _ (by omega) (by omega))
        have KQ5 : Hid (((w2.setCell ⟨g0, k, none⟩ (.slice a' m c')).drewN nq).cell? ⟨w.heap.size + 1, 0, none⟩ = some (.int .i64 who) ∧ ((w2.setCell ⟨g0, k, none⟩ (.slice a' m c')).drewN nq).cell? ⟨w.heap.size + 1 + 1, 0, none⟩ = some (.slice none 0 0) ∧ ((w2.setCell ⟨g0, k, none⟩ (.slice a' m c')).drewN nq).cell? ⟨w.heap.size + 1 + 1, 1, none⟩ = some (.slice none 0 0) ∧ ((w2.setCell ⟨g0, k, none⟩ (.slice a' m c')).drewN nq).cell? ⟨w.heap.size + 1 + 1, 2, none⟩ = some (.slice none 0 0) ∧ ((w2.setCell ⟨g0, k, none⟩ (.slice a' m c')).drewN nq).cell? ⟨w1.heap.size, 0, none⟩ = some (.slice (some ⟨g0, 0, none⟩) 4 4) ∧ ((w2.setCell ⟨g0, k, none⟩ (.slice a' m c')).drewN nq).cell? ⟨w1.heap.size, 1, none⟩ = some (.slice (some ⟨g1, 0, none⟩) 4 k1) ∧ ((w2.setCell ⟨g0, k, none⟩ (.slice a' m c')).drewN nq).cell? ⟨w1.heap.size, 2, none⟩ = some (.slice b2 n2 k2) ∧ ((w2.setCell ⟨g0, k, none⟩ (.slice a' m c')).drewN nq).frozen? ⟨w.heap.size + 1 + 1, 0, none⟩ = false ∧ ((w2.setCell ⟨g0, k, none⟩ (.slice a' m c')).drewN nq).frozen? ⟨w.heap.size + 1 + 1, 1, none⟩ = false ∧ ((w2.setCell ⟨g0, k, none⟩ (.slice a' m c')).drewN nq).frozen? ⟨w.heap.size + 1 + 1, 2, none⟩ = false ∧ ((w2.setCell ⟨g0, k, none⟩ (.slice a' m c')).drewN nq).frozen? ⟨w1.heap.size, 2, none⟩ = false) := ⟨Frame.held_cell bQ (KS3.out.1), Frame.held_cell bQ (KS3.out.2.1), Frame.held_cell bQ (KS3.out.2.2.1), Frame.held_cell bQ (KS3.out.2.2.2.1), Frame.held_cell bQ (KS3.out.2.2.2.2.1), Frame.held_cell bQ (KS3.out.2.2.2.2.2.1), Frame.held_cell bQ (KS3.out.2.2.2.2.2.2.1), (bQ.frozen (Frame.cell_lt (KS3.out.2.1))).trans (KS3.out.2.2.2.2.2.2.2.1), (bQ.frozen (Frame.cell_lt (KS3.out.2.2.1))).trans (KS3.out.2.2.2.2.2.2.2.2.1), (bQ.frozen (Frame.cell_lt (KS3.out.2.2.2.1))).trans (KS3.out.2.2.2.2.2.2.2.2.2.1), (bQ.frozen (Frame.cell_lt (KS3.out.2.2.2.2.2.2.1))).trans (KS3.out.2.2.2.2.2.2.2.2.2.2)⟩
        have KQ6 : Hid ((((w2.setCell ⟨g0, k, none⟩ (.slice a' m c')).drewN nq).setCell ⟨g1, k, none⟩ (.int .i64 (-1))).cell? ⟨w.heap.size + 1, 0, none⟩ = some (.int .i64 who) ∧ (((w2.setCell ⟨g0, k, none⟩ (.slice a' m c')).drewN nq).setCell ⟨g1, k, none⟩ (.int .i64 (-1))).cell? ⟨w.heap.size + 1 + 1, 0, none⟩ = some (.slice none 0 0) ∧ (((w2.setCell ⟨g0, k, none⟩ (.slice a' m c')).drewN nq).setCell ⟨g1, k, none⟩ (.int .i64 (-1))).cell? ⟨w.heap.size + 1 + 1, 1, none⟩ = some (.slice none 0 0) ∧ (((w2.setCell ⟨g0, k, none⟩ (.slice a' m c')).drewN nq).setCell ⟨g1, k, none⟩ (.int .i64 (-1))).cell? ⟨w.heap.size + 1 + 1, 2, none⟩ = some (.slice none 0 0) ∧ (((w2.setCell ⟨g0, k, none⟩ (.slice a' m c')).drewN nq).setCell ⟨g1, k, none⟩ (.int .i64 (-1))).cell? ⟨w1.heap.size, 0, none⟩ = some (.slice (some ⟨g0, 0, none⟩) 4 4) ∧ (((w2.setCell ⟨g0, k, none⟩ (.slice a' m c')).drewN nq).setCell ⟨g1, k, none⟩ (.int .i64 (-1))).cell? ⟨w1.heap.size, 1, none⟩ = some (.slice (some ⟨g1, 0, none⟩) 4 k1) ∧ (((w2.setCell ⟨g0, k, none⟩ (.slice a' m c')).drewN nq).setCell ⟨g1, k, none⟩ (.int .i64 (-1))).cell? ⟨w1.heap.size, 2, none⟩ = some (.slice b2 n2 k2) ∧ (((w2.setCell ⟨g0, k, none⟩ (.slice a' m c')).drewN nq).setCell ⟨g1, k, none⟩ (.int .i64 (-1))).frozen? ⟨w.heap.size + 1 + 1, 0, none⟩ = false ∧ (((w2.setCell ⟨g0, k, none⟩ (.slice a' m c')).drewN nq).setCell ⟨g1, k, none⟩ (.int .i64 (-1))).frozen? ⟨w.heap.size + 1 + 1, 1, none⟩ = false ∧ (((w2.setCell ⟨g0, k, none⟩ (.slice a' m c')).drewN nq).setCell ⟨g1, k, none⟩ (.int .i64 (-1))).frozen? ⟨w.heap.size + 1 + 1, 2, none⟩ = false ∧ (((w2.setCell ⟨g0, k, none⟩ (.slice a' m c')).drewN nq).setCell ⟨g1, k, none⟩ (.int .i64 (-1))).frozen? ⟨w1.heap.size, 2, none⟩ = false) := ⟨set_cell (by have := O01.out; omega) (KQ5.out.1), set_cell (by have := O01.out; omega) (KQ5.out.2.1), set_cell (by have := O01.out; omega) (KQ5.out.2.2.1), set_cell (by have := O01.out; omega) (KQ5.out.2.2.2.1), set_cell (fun e => OFF.out.o1 e.symm) (KQ5.out.2.2.2.2.1), set_cell (fun e => OFF.out.o1 e.symm) (KQ5.out.2.2.2.2.2.1), set_cell (fun e => OFF.out.o1 e.symm) (KQ5.out.2.2.2.2.2.2.1), set_frozen (KQ5.out.2.2.2.2.2.2.2.1), set_frozen (KQ5.out.2.2.2.2.2.2.2.2.1), set_frozen (KQ5.out.2.2.2.2.2.2.2.2.2.1), set_frozen (KQ5.out.2.2.2.2.2.2.2.2.2.2)⟩
        have NQ : Hid (Below w.heap.size w (((w2.setCell ⟨g0, k, none⟩ (.slice a' m c')).drewN nq).setCell ⟨g1, k, none⟩ (.int .i64 (-1)))) := (below_drewN BN.out nq).setCell (by have := O01.out; show w.heap.size ≤ g1; omega) _
        have ZQ : Hid (w1.heap.size + 1 ≤ (((w2.setCell ⟨g0, k, none⟩ (.slice a' m c')).drewN nq).setCell ⟨g1, k, none⟩ (.int .i64 (-1))).heap.size) := by have := Z3.out; show _ ≤ _; simpa using this
        rw [E.out] at HNX
        clear bQ
        go_wp2
        go_roundw
        case rel => exact ⟨k + 1, _, _, by omega, by go_num, OQ.out, HNX.out, OFS.out, ⟨ZQ.out, KQ6.out⟩, NQ.out⟩
        case measure => simp [intOf]; omega
      · have hxb : (x == who) = false := by rw [beq_eq_false_iff_ne]; exact hx
        have E : Hid (ws.set k (offN who x) = ws) := HON.out hx
        go_wp2_with fail
        go_quiet (fail)
        have bQ : Below (w2.setCell ⟨g0, k, none⟩ (.slice a' m c')).heap.size (w2.setCell ⟨g0, k, none⟩ (.slice a' m c')) ((w2.setCell ⟨g0, k, none⟩ (.slice a' m c')).drewN nq) := below_drewN (Below.refl _ _) nq
        have OQ : Hid (OwnK (w.heap.size + 3 + 2) ((w2.setCell ⟨g0, k, none⟩ (.slice a' m c')).drewN nq) g0 4 (qs.set k ⟨a', m, c', dropL who qz⟩) g1 k1 ws b2 n2 k2 d.2.2) := OS.out.below bQ
        have KQ5 : Hid (((w2.setCell ⟨g0, k, none⟩ (.slice a' m c')).drewN nq).cell? ⟨w.heap.size + 1, 0, none⟩ = some (.int .i64 who) ∧ ((w2.setCell ⟨g0, k, none⟩ (.slice a' m c')).drewN nq).cell? ⟨w.heap.size + 1 + 1, 0, none⟩ = some (.slice none 0 0) ∧ ((w2.setCell ⟨g0, k, none⟩ (.slice a' m c')).drewN nq).cell? ⟨w.heap.size + 1 + 1, 1, none⟩ = some (.slice none 0 0) ∧ ((w2.setCell ⟨g0, k, none⟩ (.slice a' m c')).drewN nq).cell? ⟨w.heap.size + 1 + 1, 2, none⟩ = some (.slice none 0 0) ∧ ((w2.setCell ⟨g0, k, none⟩ (.slice a' m c')).drewN nq).cell? ⟨w1.heap.size, 0, none⟩ = some (.slice (some ⟨g0, 0, none⟩) 4 4) ∧ ((w2.setCell ⟨g0, k, none⟩ (.slice a' m c')).drewN nq).cell? ⟨w1.heap.size, 1, none⟩ = some (.slice (some ⟨g1, 0, none⟩) 4 k1) ∧ ((w2.setCell ⟨g0, k, none⟩ (.slice a' m c')).drewN nq).cell? ⟨w1.heap.size, 2, none⟩ = some (.slice b2 n2 k2) ∧ ((w2.setCell ⟨g0, k, none⟩ (.slice a' m c')).drewN nq).frozen? ⟨w.heap.size + 1 + 1, 0, none⟩ = false ∧ ((w2.setCell ⟨g0, k, none⟩ (.slice a' m c')).drewN nq).frozen? ⟨w.heap.size + 1 + 1, 1, none⟩ = false ∧ ((w2.setCell ⟨g0, k, none⟩ (.slice a' m c')).drewN nq).frozen? ⟨w.heap.size + 1 + 1, 2, none⟩ = false ∧ ((w2.setCell ⟨g0, k, none⟩ (.slice a' m c')).drewN nq).frozen? ⟨w1.heap.size, 2, none⟩ = false) := ⟨Frame.held_cell bQ (KS3.out.1), Frame.held_cell bQ (KS3.out.2.1), Frame.held_cell bQ (KS3.out.2.2.1), Frame.held_cell bQ (KS3.out.2.2.2.1), Frame.held_cell bQ (KS3.out.2.2.2.2.1), Frame.held_cell bQ (KS3.out.2.2.2.2.2.1), Frame.held_cell bQ (KS3.out.2.2.2.2.2.2.1), (bQ.frozen (Frame.cell_lt (KS3.out.2.1))).trans (KS3.out.2.2.2.2.2.2.2.1), (bQ.frozen (Frame.cell_lt (KS3.out.2.2.1))).trans (KS3.out.2.2.2.2.2.2.2.2.1), (bQ.frozen (Frame.cell_lt (KS3.out.2.2.2.1))).trans (KS3.out.2.2.2.2.2.2.2.2.2.1), (bQ.frozen (Frame.cell_lt (KS3.out.2.2.2.2.2.2.1))).trans (KS3.out.2.2.2.2.2.2.2.2.2.2)⟩
        have NQ : Hid (Below w.heap.size w ((w2.setCell ⟨g0, k, none⟩ (.slice a' m c')).drewN nq)) := below_drewN BN.out nq
        have ZQ : Hid (w1.heap.size + 1 ≤ ((w2.setCell ⟨g0, k, none⟩ (.slice a' m c')).drewN nq).heap.size) := Z3.out
        rw [E.out] at HNX
        clear bQ
        go_wp2
        go_roundw
        case rel => exact ⟨k + 1, _, _, by omega, by go_num, OQ.out, HNX.out, OFS.out, ⟨ZQ.out, KQ5.out⟩, NQ.out⟩
        case measure => simp [intOf]; omega
    · obtain rfl : k = 4 := by omega
      have HD := PT.out.done (good_parts HG.out).1 (good_parts HG.out).2.1
      have HX1 : Hid (lplain qs = d.1.map (dropL who)) := HD.1
      have HX2 : Hid (ws = d.2.1.map (offN who)) := HD.2
      have bA : Below wr.heap.size wr (wr.alloc (.cells #[.int .i64 who] 3)) := (Below.refl _ _).alloc (Nat.le_refl _) _
      have OA : Hid (OwnK (w.heap.size + 3 + 2) (wr.alloc (.cells #[.int .i64 who] 3)) g0 4 qs g1 k1 ws b2 n2 k2 d.2.2) := OK.out.below bA
      have KA : Hid ((wr.alloc (.cells #[.int .i64 who] 3)).cell? ⟨w.heap.size + 1, 0, none⟩ = some (.int .i64 who) ∧ (wr.alloc (.cells #[.int .i64 who] 3)).cell? ⟨w.heap.size + 1 + 1, 0, none⟩ = some (.slice none 0 0) ∧ (wr.alloc (.cells #[.int .i64 who] 3)).cell? ⟨w.heap.size + 1 + 1, 1, none⟩ = some (.slice none 0 0) ∧ (wr.alloc (.cells #[.int .i64 who] 3)).cell? ⟨w.heap.size + 1 + 1, 2, none⟩ = some (.slice none 0 0) ∧ (wr.alloc (.cells #[.int .i64 who] 3)).cell? ⟨w1.heap.size, 0, none⟩ = some (.slice (some ⟨g0, 0, none⟩) 4 4) ∧ (wr.alloc (.cells #[.int .i64 who] 3)).cell? ⟨w1.heap.size, 1, none⟩ = some (.slice (some ⟨g1, 0, none⟩) 4 k1) ∧ (wr.alloc (.cells #[.int .i64 who] 3)).cell? ⟨w1.heap.size, 2, none⟩ = some (.slice b2 n2 k2) ∧ (wr.alloc (.cells #[.int .i64 who] 3)).frozen? ⟨w.heap.size + 1 + 1, 0, none⟩ = false ∧ (wr.alloc (.cells #[.int .i64 who] 3)).frozen? ⟨w.heap.size + 1 + 1, 1, none⟩ = false ∧ (wr.alloc (.cells #[.int .i64 who] 3)).frozen? ⟨w.heap.size + 1 + 1, 2, none⟩ = false ∧ (wr.alloc (.cells #[.int .i64 who] 3)).frozen? ⟨w1.heap.size, 2, none⟩ = false) := ⟨Frame.held_cell bA (KS.out.1), Frame.held_cell bA (KS.out.2.1), Frame.held_cell bA (KS.out.2.2.1), Frame.held_cell bA (KS.out.2.2.2.1), Frame.held_cell bA (KS.out.2.2.2.2.1), Frame.held_cell bA (KS.out.2.2.2.2.2.1), Frame.held_cell bA (KS.out.2.2.2.2.2.2.1), (bA.frozen (Frame.cell_lt (KS.out.2.1))).trans (KS.out.2.2.2.2.2.2.2.1), (bA.frozen (Frame.cell_lt (KS.out.2.2.1))).trans (KS.out.2.2.2.2.2.2.2.2.1), (bA.frozen (Frame.cell_lt (KS.out.2.2.2.1))).trans (KS.out.2.2.2.2.2.2.2.2.2.1), (bA.frozen (Frame.cell_lt (KS.out.2.2.2.2.2.2.1))).trans (KS.out.2.2.2.2.2.2.2.2.2.2)⟩
      have NA : Hid (Below w.heap.size w (wr.alloc (.cells #[.int .i64 who] 3))) := HN.out.alloc HN.out.size _
      have SA : Hid (∀ j u, ([.int .i64 who] : List Value)[j]? = some u → (wr.alloc (.cells #[.int .i64 who] 3)).cell? ((⟨wr.heap.size, 0, none⟩ : Addr).add j) = some u) := fun j u hu => by
        obtain ⟨ad, e, h⟩ := news_one wr (.int .i64 who) 3 (by omega)
        cases e
        exact h j u hu
      have hbs : w.heap.size + 3 + 2 ≤ (wr.alloc (.cells #[.int .i64 who] 3)).heap.size := by have := OA.out.lt0; omega
      have OFR : Hid (OffK (w.heap.size + 1 + 1) g0 qs g1 b2) := OK.out.off (Or.inl (by omega))
      have OFW : Hid (OffK (w.heap.size + 1) g0 qs g1 b2) := OK.out.off (Or.inl (by omega))
      obtain ⟨p0, p1, p2, p3, p4, p5, p6, p7, p8, p9, p10⟩ := KS.out
      clear bA HD
      go_wp2_with (at_builtin; refine wpList_append_lies _ rfl _ _ 24 rfl (w.heap.size + 3 + 2) 3 i0 (.int .i64 0) 1 8 Try.underlying24 hi hz0 hz1 hz2 rfl (by decide) _ n2 (ints .i64 d.2.2) rfl OA.out.over ⟨wr.heap.size, 0, none⟩ 1 1 [.int .i64 who] rfl rfl SA.out (by simp [Value.oneCell']) (by omega) (by unfold maxLen; omega) (by omega) hbs _ rfl ?_)
      intro g cap' w4 hown4 hgrow4 hat4 hlt4
      have T4 : Hid (OnlyAt b2 (wr.alloc (.cells #[.int .i64 who] 3)) w4) := Sc.only_grown hgrow4
      have O4 : Hid (OwnK (w.heap.size + 3 + 2) w4 g0 4 qs g1 k1 ws (some ⟨g, 0, none⟩) (n2 + 1) cap' (d.2.2 ++ [who])) := OA.out.push (by simpa [ints] using hown4) hgrow4 hww (fun x hx => by
        cases hx
        rcases hat4 with h | h
        · left
          simp only [Value.ownBlock] at h
          cases hb2 : b2 with
          | none => rw [hb2] at h; simp at h
          | some y => rw [hb2] at h; simp at h; exact ⟨y, rfl, h⟩
        · right
          have hsA : (wr.alloc (.cells #[.int .i64 who] 3)).heap.size = wr.heap.size + 1 := by simp
          show (wr.alloc (.cells #[.int .i64 who] 3)).heap.size ≤ g
          omega)
      have K4 : Hid (w4.cell? ⟨w.heap.size + 1, 0, none⟩ = some (.int .i64 who) ∧ w4.cell? ⟨w.heap.size + 1 + 1, 0, none⟩ = some (.slice none 0 0) ∧ w4.cell? ⟨w.heap.size + 1 + 1, 1, none⟩ = some (.slice none 0 0) ∧ w4.cell? ⟨w.heap.size + 1 + 1, 2, none⟩ = some (.slice none 0 0) ∧ w4.cell? ⟨w1.heap.size, 0, none⟩ = some (.slice (some ⟨g0, 0, none⟩) 4 4) ∧ w4.cell? ⟨w1.heap.size, 1, none⟩ = some (.slice (some ⟨g1, 0, none⟩) 4 k1) ∧ w4.cell? ⟨w1.heap.size, 2, none⟩ = some (.slice b2 n2 k2) ∧ w4.frozen? ⟨w.heap.size + 1 + 1, 0, none⟩ = false ∧ w4.frozen? ⟨w.heap.size + 1 + 1, 1, none⟩ = false ∧ w4.frozen? ⟨w.heap.size + 1 + 1, 2, none⟩ = false ∧ w4.frozen? ⟨w1.heap.size, 2, none⟩ = false) := ⟨only_cell T4.out (OFW.out.o2) (KA.out.1), only_cell T4.out (OFR.out.o2) (KA.out.2.1), only_cell T4.out (OFR.out.o2) (KA.out.2.2.1), only_cell T4.out (OFR.out.o2) (KA.out.2.2.2.1), only_cell T4.out (OFF.out.o2) (KA.out.2.2.2.2.1), only_cell T4.out (OFF.out.o2) (KA.out.2.2.2.2.2.1), only_cell T4.out (OFF.out.o2) (KA.out.2.2.2.2.2.2.1), only_frozen T4.out (OFR.out.o2) (KA.out.2.1) (KA.out.2.2.2.2.2.2.2.1), only_frozen T4.out (OFR.out.o2) (KA.out.2.2.1) (KA.out.2.2.2.2.2.2.2.2.1), only_frozen T4.out (OFR.out.o2) (KA.out.2.2.2.1) (KA.out.2.2.2.2.2.2.2.2.2.1), only_frozen T4.out (OFF.out.o2) (KA.out.2.2.2.2.2.2.1) (KA.out.2.2.2.2.2.2.2.2.2.2)⟩
      have OFB : Hid (OffK w1.heap.size g0 qs g1 (some ⟨g, 0, none⟩)) := ⟨OFF.out.o0, OFF.out.orr, OFF.out.o1, fun x hx => by
        cases hx
        rcases hat4 with h | h
        · simp only [Value.ownBlock] at h
          cases hb2 : b2 with
          | none => rw [hb2] at h; simp at h
          | some y => rw [hb2] at h; simp at h; have := OFF.out.o2 y hb2; show g ≠ _; omega
        · show g ≠ _
          have hsA : (wr.alloc (.cells #[.int .i64 who] 3)).heap.size = wr.heap.size + 1 := by simp
          omega⟩
      have N4 : Hid (Below w.heap.size w w4) := below_touch NA.out T4.out (fun x hx => by have := OA.out.lt2 x hx; omega) NA.out.size
      have OFR4 : Hid (OffK (w.heap.size + 1 + 1) g0 qs g1 (some ⟨g, 0, none⟩)) := O4.out.off (Or.inl (by omega))
      clear hown4 hgrow4 hat4 hlt4 p0 p1 p2 p3 p4 p5 p6 p7 p8 p9 p10
      obtain ⟨p0, p1, p2, p3, p4, p5, p6, p7, p8, p9, p10⟩ := K4.out
      have ng3 : w1.heap.size ≠ w.heap.size + 1 + 1 := by omega
      have HT : Hid (totalL qs ≤ 1048576) := total_small HX1.out O4.out.len (OwnLs.vlen O4.out.rows) (fun j hj => by
        have h1 := HR4.out j hj
        have h0 := (good_parts HG.out).1
        have e : (d.1.map (dropL who)).getD j [] = dropL who (d.1.getD j []) := by simp [List.getD, show j < d.1.length by omega]
        rw [e]
        have := dropL_len who (d.1.getD j [])
        omega)
      go_wp2
      refine bodyPost_ret (v := .agg #[.slice (some ⟨g0, 0, none⟩) 4 4, .slice (some ⟨g1, 0, none⟩) 4 k1, .slice (some ⟨g, 0, none⟩) (n2 + 1) cap']) (by simp [results, Try.results64, go_sem, p1, p2, p3]) rfl ?_
      refine ⟨_, _, _, _, _, _, _, _, _, rfl, ?_, ((((N4.out.setCell (by show w.heap.size ≤ w1.heap.size; omega) _).setCell (by show w.heap.size ≤ w.heap.size + 1 + 1; omega) _).setCell (by show w.heap.size ≤ w.heap.size + 1 + 1; omega) _).setCell (by show w.heap.size ≤ w.heap.size + 1 + 1; omega) _)⟩
      have hs := OwnK.sown ((((O4.out.setOff OFB.out 2 (.slice (some ⟨g, 0, none⟩) (n2 + 1) cap')).setOff OFR4.out 0 (.slice (some ⟨g0, 0, none⟩) 4 4)).setOff OFR4.out 1 (.slice (some ⟨g1, 0, none⟩) 4 k1)).setOff OFR4.out 2 (.slice (some ⟨g, 0, none⟩) (n2 + 1) cap')) (lo' := w.heap.size) HT.out (by omega) (by omega)
      rw [HX1.out, HX2.out] at hs
      exact hs

def askG (d : D) (a : Ak) : Bool := goodK d && (askB d a && (a.2.2.2 || decide (waitN d a = [])))
def askV (d : D) (a : Ak) : D := if askG d a then (bif a.2.2.2 then outD d a.1 else withD d a.1 a.2.1.toNat a.2.2.1) else ([], [], [])
theorem sOwn_zero (w : World) (lo hi : Nat) : SOwn w lo hi (.slice none 0 0) (.slice none 0 0) (.slice none 0 0) ([], [], []) := by
  refine ⟨fun _ => False, fun _ => False, fun _ => False, ⟨fun _ h => h.elim, fun _ h => h.elim, fun _ h => h.elim⟩, ⟨[], ⟨none, 0, 0, rfl, ⟨World.ownsRow_nil _ _ _ _, by simp, by simp, List.Pairwise.nil, by simp⟩, by decide, (fun x hx => by cases hx), by simp⟩, rfl, (fun x hx => by cases hx), by simp⟩, ⟨⟨none, 0, 0, rfl, World.ownsRow_nil _ _ _ _, by simp, by omega, (fun x hx => by cases hx)⟩, (fun x hx => by cases hx)⟩, ⟨⟨none, 0, 0, rfl, World.ownsRow_nil _ _ _ _, by simp, by omega, (fun x hx => by cases hx)⟩, (fun x hx => by cases hx)⟩⟩

set_option maxRecDepth 8000 in
set_option maxHeartbeats 3200000 in
theorem impl_AskLock (u0 u1 u2 : Value) (d : D) (who item : Int) (wri fin : Bool) (w : World) (h : SIs w u0 u1 u2 d) :
    Calls Try.prog 15 #[.agg #[u0, u1, u2], .agg #[.int .i64 who, .int .i64 item, .bool wri, .bool fin]] w fun e w' => ∃ x0 m0 y0 x1 m1 y1 x2 m2 y2, e = .returned (.tuple #[.agg #[.slice x0 m0 y0, .slice x1 m1 y1, .slice x2 m2 y2], .bool (askG d (who, item, wri, fin))]) ∧ SOwn w' w.heap.size w'.heap.size (.slice x0 m0 y0) (.slice x1 m1 y1) (.slice x2 m2 y2) (askV d (who, item, wri, fin)) ∧ Below w.heap.size w w' := by
  obtain ⟨a0, n0, c0, e0⟩ := Krl.lIs_slice h.1; subst e0
  obtain ⟨a1, n1, c1, e1⟩ := Krl.iIs_slice h.2.1; subst e1
  obtain ⟨a2, n2, c2, e2⟩ := Krl.iIs_slice h.2.2; subst e2
  have HS : Hid (SIs w (.slice a0 n0 c0) (.slice a1 n1 c1) (.slice a2 n2 c2) d) := h
  have BP : Hid (Below w.heap.size w (((w.alloc (.cells #[.slice a0 n0 c0, .slice a1 n1 c1, .slice a2 n2 c2] 26)).alloc (.cells #[.int .i64 who, .int .i64 item, .bool wri, .bool fin] 28)).alloc (.cells #[.slice none 0 0, .slice none 0 0, .slice none 0 0] 26))) := (((Below.refl _ _).alloc (Nat.le_refl _) _).alloc (by simp) _).alloc (by simp; omega) _
  have HZ : Hid ((((w.alloc (.cells #[.slice a0 n0 c0, .slice a1 n1 c1, .slice a2 n2 c2] 26)).alloc (.cells #[.int .i64 who, .int .i64 item, .bool wri, .bool fin] 28)).alloc (.cells #[.slice none 0 0, .slice none 0 0, .slice none 0 0] 26)).heap.size = w.heap.size + 3) := by show _ = _; simp
  have KQ : Hid ((((w.alloc (.cells #[.slice a0 n0 c0, .slice a1 n1 c1, .slice a2 n2 c2] 26)).alloc (.cells #[.int .i64 who, .int .i64 item, .bool wri, .bool fin] 28)).alloc (.cells #[.slice none 0 0, .slice none 0 0, .slice none 0 0] 26)).cell? ⟨w.heap.size, 0, none⟩ = some (.slice a0 n0 c0) ∧ (((w.alloc (.cells #[.slice a0 n0 c0, .slice a1 n1 c1, .slice a2 n2 c2] 26)).alloc (.cells #[.int .i64 who, .int .i64 item, .bool wri, .bool fin] 28)).alloc (.cells #[.slice none 0 0, .slice none 0 0, .slice none 0 0] 26)).cell? ⟨w.heap.size, 1, none⟩ = some (.slice a1 n1 c1) ∧ (((w.alloc (.cells #[.slice a0 n0 c0, .slice a1 n1 c1, .slice a2 n2 c2] 26)).alloc (.cells #[.int .i64 who, .int .i64 item, .bool wri, .bool fin] 28)).alloc (.cells #[.slice none 0 0, .slice none 0 0, .slice none 0 0] 26)).cell? ⟨w.heap.size, 2, none⟩ = some (.slice a2 n2 c2) ∧ (((w.alloc (.cells #[.slice a0 n0 c0, .slice a1 n1 c1, .slice a2 n2 c2] 26)).alloc (.cells #[.int .i64 who, .int .i64 item, .bool wri, .bool fin] 28)).alloc (.cells #[.slice none 0 0, .slice none 0 0, .slice none 0 0] 26)).cell? ⟨w.heap.size + 1, 0, none⟩ = some (.int .i64 who) ∧ (((w.alloc (.cells #[.slice a0 n0 c0, .slice a1 n1 c1, .slice a2 n2 c2] 26)).alloc (.cells #[.int .i64 who, .int .i64 item, .bool wri, .bool fin] 28)).alloc (.cells #[.slice none 0 0, .slice none 0 0, .slice none 0 0] 26)).cell? ⟨w.heap.size + 1, 1, none⟩ = some (.int .i64 item) ∧ (((w.alloc (.cells #[.slice a0 n0 c0, .slice a1 n1 c1, .slice a2 n2 c2] 26)).alloc (.cells #[.int .i64 who, .int .i64 item, .bool wri, .bool fin] 28)).alloc (.cells #[.slice none 0 0, .slice none 0 0, .slice none 0 0] 26)).cell? ⟨w.heap.size + 1, 2, none⟩ = some (.bool wri) ∧ (((w.alloc (.cells #[.slice a0 n0 c0, .slice a1 n1 c1, .slice a2 n2 c2] 26)).alloc (.cells #[.int .i64 who, .int .i64 item, .bool wri, .bool fin] 28)).alloc (.cells #[.slice none 0 0, .slice none 0 0, .slice none 0 0] 26)).cell? ⟨w.heap.size + 1, 3, none⟩ = some (.bool fin) ∧ (((w.alloc (.cells #[.slice a0 n0 c0, .slice a1 n1 c1, .slice a2 n2 c2] 26)).alloc (.cells #[.int .i64 who, .int .i64 item, .bool wri, .bool fin] 28)).alloc (.cells #[.slice none 0 0, .slice none 0 0, .slice none 0 0] 26)).cell? ⟨w.heap.size + 1 + 1, 0, none⟩ = some (.slice none 0 0) ∧ (((w.alloc (.cells #[.slice a0 n0 c0, .slice a1 n1 c1, .slice a2 n2 c2] 26)).alloc (.cells #[.int .i64 who, .int .i64 item, .bool wri, .bool fin] 28)).alloc (.cells #[.slice none 0 0, .slice none 0 0, .slice none 0 0] 26)).cell? ⟨w.heap.size + 1 + 1, 1, none⟩ = some (.slice none 0 0) ∧ (((w.alloc (.cells #[.slice a0 n0 c0, .slice a1 n1 c1, .slice a2 n2 c2] 26)).alloc (.cells #[.int .i64 who, .int .i64 item, .bool wri, .bool fin] 28)).alloc (.cells #[.slice none 0 0, .slice none 0 0, .slice none 0 0] 26)).cell? ⟨w.heap.size + 1 + 1, 2, none⟩ = some (.slice none 0 0) ∧ (((w.alloc (.cells #[.slice a0 n0 c0, .slice a1 n1 c1, .slice a2 n2 c2] 26)).alloc (.cells #[.int .i64 who, .int .i64 item, .bool wri, .bool fin] 28)).alloc (.cells #[.slice none 0 0, .slice none 0 0, .slice none 0 0] 26)).frozen? ⟨w.heap.size + 1 + 1, 0, none⟩ = false ∧ (((w.alloc (.cells #[.slice a0 n0 c0, .slice a1 n1 c1, .slice a2 n2 c2] 26)).alloc (.cells #[.int .i64 who, .int .i64 item, .bool wri, .bool fin] 28)).alloc (.cells #[.slice none 0 0, .slice none 0 0, .slice none 0 0] 26)).frozen? ⟨w.heap.size + 1 + 1, 1, none⟩ = false ∧ (((w.alloc (.cells #[.slice a0 n0 c0, .slice a1 n1 c1, .slice a2 n2 c2] 26)).alloc (.cells #[.int .i64 who, .int .i64 item, .bool wri, .bool fin] 28)).alloc (.cells #[.slice none 0 0, .slice none 0 0, .slice none 0 0] 26)).frozen? ⟨w.heap.size + 1 + 1, 2, none⟩ = false) := by show _ ∧ _; refine ⟨?_, ?_, ?_, ?_, ?_, ?_, ?_, ?_, ?_, ?_, ?_, ?_, ?_⟩ <;> go_simp
  have HGG : Hid (askG d (who, item, wri, fin) = (goodK d && (askB d (who, item, wri, fin) && (fin || decide (waitN d (who, item, wri, fin) = []))))) := rfl
  have HNO : Hid (askG d (who, item, wri, fin) = false → askV d (who, item, wri, fin) = ([], [], [])) := fun e => by unfold askV; rw [if_neg (by rw [e]; exact Bool.false_ne_true)]
  have HYES : Hid (askG d (who, item, wri, fin) = true → askV d (who, item, wri, fin) = (bif fin then outD d who else withD d who item.toNat wri)) := fun e => by unfold askV; rw [if_pos e]
  clear h
  go_enter Try.func15, Try.ntmps15
  go_wp2_with fail
  refine (Lkb.impl_Good a0 a1 a2 n0 c0 n1 c1 n2 c2 d _ (SLocks.sIs_below HS.out BP.out)).mono ?_
  rintro e w1 ⟨rfl, hb1⟩
  have B1 : Hid (Below w.heap.size w w1) := Frame.next BP.out hb1 BP.out.size
  have K1 : Hid (w1.cell? ⟨w.heap.size, 0, none⟩ = some (.slice a0 n0 c0) ∧ w1.cell? ⟨w.heap.size, 1, none⟩ = some (.slice a1 n1 c1) ∧ w1.cell? ⟨w.heap.size, 2, none⟩ = some (.slice a2 n2 c2) ∧ w1.cell? ⟨w.heap.size + 1, 0, none⟩ = some (.int .i64 who) ∧ w1.cell? ⟨w.heap.size + 1, 1, none⟩ = some (.int .i64 item) ∧ w1.cell? ⟨w.heap.size + 1, 2, none⟩ = some (.bool wri) ∧ w1.cell? ⟨w.heap.size + 1, 3, none⟩ = some (.bool fin) ∧ w1.cell? ⟨w.heap.size + 1 + 1, 0, none⟩ = some (.slice none 0 0) ∧ w1.cell? ⟨w.heap.size + 1 + 1, 1, none⟩ = some (.slice none 0 0) ∧ w1.cell? ⟨w.heap.size + 1 + 1, 2, none⟩ = some (.slice none 0 0) ∧ w1.frozen? ⟨w.heap.size + 1 + 1, 0, none⟩ = false ∧ w1.frozen? ⟨w.heap.size + 1 + 1, 1, none⟩ = false ∧ w1.frozen? ⟨w.heap.size + 1 + 1, 2, none⟩ = false) := ⟨Frame.held_cell hb1 (KQ.out.1), Frame.held_cell hb1 (KQ.out.2.1), Frame.held_cell hb1 (KQ.out.2.2.1), Frame.held_cell hb1 (KQ.out.2.2.2.1), Frame.held_cell hb1 (KQ.out.2.2.2.2.1), Frame.held_cell hb1 (KQ.out.2.2.2.2.2.1), Frame.held_cell hb1 (KQ.out.2.2.2.2.2.2.1), Frame.held_cell hb1 (KQ.out.2.2.2.2.2.2.2.1), Frame.held_cell hb1 (KQ.out.2.2.2.2.2.2.2.2.1), Frame.held_cell hb1 (KQ.out.2.2.2.2.2.2.2.2.2.1), (hb1.frozen (Frame.cell_lt (KQ.out.2.2.2.2.2.2.2.1))).trans (KQ.out.2.2.2.2.2.2.2.2.2.2.1), (hb1.frozen (Frame.cell_lt (KQ.out.2.2.2.2.2.2.2.2.1))).trans (KQ.out.2.2.2.2.2.2.2.2.2.2.2.1), (hb1.frozen (Frame.cell_lt (KQ.out.2.2.2.2.2.2.2.2.2.1))).trans (KQ.out.2.2.2.2.2.2.2.2.2.2.2.2)⟩
  have HZ1 : Hid ((((w.alloc (.cells #[.slice a0 n0 c0, .slice a1 n1 c1, .slice a2 n2 c2] 26)).alloc (.cells #[.int .i64 who, .int .i64 item, .bool wri, .bool fin] 28)).alloc (.cells #[.slice none 0 0, .slice none 0 0, .slice none 0 0] 26)).heap.size ≤ w1.heap.size) := hb1.size
  clear hb1
  obtain ⟨q0, q1, q2, q3, q4, q5, q6, q7, q8, q9, z0, z1, z2⟩ := K1.out
  rcases Bool.eq_false_or_eq_true (goodK d) with hg | hg
  rotate_left
  · have F : Hid (askG d (who, item, wri, fin) = false) := by show _ = _; rw [HGG.out, hg]; rfl
    rw [hg]
    clear hg
    go_wp2
    refine bodyPost_ret (v := .tuple #[(.agg #[.slice none 0 0, .slice none 0 0, .slice none 0 0]), .bool false]) (by simp [results, Try.results15, go_sem, q7, q8, q9]) rfl ?_
    exact ⟨_, _, _, _, _, _, _, _, _, by rw [F.out], by rw [HNO.out F.out]; exact sOwn_zero _ _ _, ((B1.out.setCell (by show w.heap.size ≤ w.heap.size + 1 + 1; omega) _).setCell (by show w.heap.size ≤ w.heap.size + 1 + 1; omega) _).setCell (by show w.heap.size ≤ w.heap.size + 1 + 1; omega) _⟩
  have HG1 : Hid (askG d (who, item, wri, fin) = (askB d (who, item, wri, fin) && (fin || decide (waitN d (who, item, wri, fin) = [])))) := by show _ = _; rw [HGG.out, hg]; rfl
  have HG : Hid (goodK d = true) := hg
  obtain ⟨g0, g1, _⟩ := good_parts hg
  have h40 : n0 = 4 := (row_at HS.out.1).1.symm.trans g0
  have h41 : n1 = 4 := (num_at HS.out.2.1).1.len.symm.trans g1
  subst h40 h41
  rw [hg]
  clear hg g0 g1
  go_wp2_with fail
  refine (Lkd.impl_ask a0 a1 a2 4 c0 4 c1 n2 c2 who item wri fin d _ (iIs_below HS.out.2.2 B1.out)).mono ?_
  rintro e w2 ⟨rfl, hb2⟩
  have B2 : Hid (Below w.heap.size w w2) := Frame.next B1.out hb2 B1.out.size
  have K2 : Hid (w2.cell? ⟨w.heap.size, 0, none⟩ = some (.slice a0 4 c0) ∧ w2.cell? ⟨w.heap.size, 1, none⟩ = some (.slice a1 4 c1) ∧ w2.cell? ⟨w.heap.size, 2, none⟩ = some (.slice a2 n2 c2) ∧ w2.cell? ⟨w.heap.size + 1, 0, none⟩ = some (.int .i64 who) ∧ w2.cell? ⟨w.heap.size + 1, 1, none⟩ = some (.int .i64 item) ∧ w2.cell? ⟨w.heap.size + 1, 2, none⟩ = some (.bool wri) ∧ w2.cell? ⟨w.heap.size + 1, 3, none⟩ = some (.bool fin) ∧ w2.cell? ⟨w.heap.size + 1 + 1, 0, none⟩ = some (.slice none 0 0) ∧ w2.cell? ⟨w.heap.size + 1 + 1, 1, none⟩ = some (.slice none 0 0) ∧ w2.cell? ⟨w.heap.size + 1 + 1, 2, none⟩ = some (.slice none 0 0) ∧ w2.frozen? ⟨w.heap.size + 1 + 1, 0, none⟩ = false ∧ w2.frozen? ⟨w.heap.size + 1 + 1, 1, none⟩ = false ∧ w2.frozen? ⟨w.heap.size + 1 + 1, 2, none⟩ = false) := ⟨Frame.held_cell hb2 (K1.out.1), Frame.held_cell hb2 (K1.out.2.1), Frame.held_cell hb2 (K1.out.2.2.1), Frame.held_cell hb2 (K1.out.2.2.2.1), Frame.held_cell hb2 (K1.out.2.2.2.2.1), Frame.held_cell hb2 (K1.out.2.2.2.2.2.1), Frame.held_cell hb2 (K1.out.2.2.2.2.2.2.1), Frame.held_cell hb2 (K1.out.2.2.2.2.2.2.2.1), Frame.held_cell hb2 (K1.out.2.2.2.2.2.2.2.2.1), Frame.held_cell hb2 (K1.out.2.2.2.2.2.2.2.2.2.1), (hb2.frozen (Frame.cell_lt (K1.out.2.2.2.2.2.2.2.1))).trans (K1.out.2.2.2.2.2.2.2.2.2.2.1), (hb2.frozen (Frame.cell_lt (K1.out.2.2.2.2.2.2.2.2.1))).trans (K1.out.2.2.2.2.2.2.2.2.2.2.2.1), (hb2.frozen (Frame.cell_lt (K1.out.2.2.2.2.2.2.2.2.2.1))).trans (K1.out.2.2.2.2.2.2.2.2.2.2.2.2)⟩
  clear q0 q1 q2 q3 q4 q5 q6 q7 q8 q9 z0 z1 z2
  have HZ2 : Hid (w1.heap.size ≤ w2.heap.size) := hb2.size
  clear hb2
  obtain ⟨q0, q1, q2, q3, q4, q5, q6, q7, q8, q9, z0, z1, z2⟩ := K2.out
  rcases Bool.eq_false_or_eq_true (askB d (who, item, wri, fin)) with hg | hg
  rotate_left
  · have F : Hid (askG d (who, item, wri, fin) = false) := by show _ = _; rw [HG1.out, hg]; rfl
    rw [hg]
    clear hg
    go_wp2
    refine bodyPost_ret (v := .tuple #[(.agg #[.slice none 0 0, .slice none 0 0, .slice none 0 0]), .bool false]) (by simp [results, Try.results15, go_sem, q7, q8, q9]) rfl ?_
    exact ⟨_, _, _, _, _, _, _, _, _, by rw [F.out], by rw [HNO.out F.out]; exact sOwn_zero _ _ _, ((B2.out.setCell (by show w.heap.size ≤ w.heap.size + 1 + 1; omega) _).setCell (by show w.heap.size ≤ w.heap.size + 1 + 1; omega) _).setCell (by show w.heap.size ≤ w.heap.size + 1 + 1; omega) _⟩
  have HG2 : Hid (askG d (who, item, wri, fin) = (fin || decide (waitN d (who, item, wri, fin) = []))) := by show _ = _; rw [HG1.out, hg]; rfl
  have hwho := inB_iff.1 (Bool.and_eq_true_iff.1 hg).1
  have HIT : Hid (fin = false → Val.inB item 0 3 = true) := fun e => by
    have := (Bool.and_eq_true_iff.1 (Bool.and_eq_true_iff.1 hg).2).2
    subst e
    exact this
  rw [hg]
  clear hg HG1 HGG
  cases fin
  rotate_left
  · have F : Hid (askG d (who, item, wri, true) = true) := HG2.out
    go_wp2_with fail
    refine (without a0 a1 a2 c0 c1 n2 c2 who d _ (SLocks.sIs_below HS.out B2.out) HG.out hwho).mono ?_
    rintro e w3 ⟨x0, m0, y0, x1, m1, y1, x2, m2, y2, rfl, ho, hb3⟩
    have O3 : Hid (SOwn w3 (w.heap.size + 3) w3.heap.size (.slice x0 m0 y0) (.slice x1 m1 y1) (.slice x2 m2 y2) (outD d who)) := SLocks.sOwn_wide ho (by have := B2.out; have hz := HZ.out; have := (Nat.le_trans (Nat.le_of_eq HZ.out.symm) (Nat.le_trans HZ1.out HZ2.out)); omega) (Nat.le_refl _)
    have B3 : Hid (Below w.heap.size w w3) := Frame.next B2.out hb3 B2.out.size
    have K3 : Hid (w3.cell? ⟨w.heap.size + 1 + 1, 0, none⟩ = some (.slice none 0 0) ∧ w3.cell? ⟨w.heap.size + 1 + 1, 1, none⟩ = some (.slice none 0 0) ∧ w3.cell? ⟨w.heap.size + 1 + 1, 2, none⟩ = some (.slice none 0 0) ∧ w3.frozen? ⟨w.heap.size + 1 + 1, 0, none⟩ = false ∧ w3.frozen? ⟨w.heap.size + 1 + 1, 1, none⟩ = false ∧ w3.frozen? ⟨w.heap.size + 1 + 1, 2, none⟩ = false) := ⟨Frame.held_cell hb3 (K2.out.2.2.2.2.2.2.2.1), Frame.held_cell hb3 (K2.out.2.2.2.2.2.2.2.2.1), Frame.held_cell hb3 (K2.out.2.2.2.2.2.2.2.2.2.1), (hb3.frozen (Frame.cell_lt (K2.out.2.2.2.2.2.2.2.1))).trans (K2.out.2.2.2.2.2.2.2.2.2.2.1), (hb3.frozen (Frame.cell_lt (K2.out.2.2.2.2.2.2.2.2.1))).trans (K2.out.2.2.2.2.2.2.2.2.2.2.2.1), (hb3.frozen (Frame.cell_lt (K2.out.2.2.2.2.2.2.2.2.2.1))).trans (K2.out.2.2.2.2.2.2.2.2.2.2.2.2)⟩
    clear ho hb3
    clear q0 q1 q2 q3 q4 q5 q6 q7 q8 q9 z0 z1 z2
    obtain ⟨r0, r1, r2, z0, z1, z2⟩ := K3.out
    go_wp2
    refine bodyPost_ret (v := .tuple #[.agg #[.slice x0 m0 y0, .slice x1 m1 y1, .slice x2 m2 y2], .bool true]) (by simp [results, Try.results15, go_sem, r0, r1, r2]) rfl ?_
    exact ⟨_, _, _, _, _, _, _, _, _, by rw [F.out], by rw [HYES.out F.out]; exact SLocks.sOwn_wide (SLocks.sOwn_set (SLocks.sOwn_set (SLocks.sOwn_set O3.out _ _ (by omega)) _ _ (by omega)) _ _ (by omega)) (by omega) (by simp), ((B3.out.setCell (by show w.heap.size ≤ w.heap.size + 1 + 1; omega) _).setCell (by show w.heap.size ≤ w.heap.size + 1 + 1; omega) _).setCell (by show w.heap.size ≤ w.heap.size + 1 + 1; omega) _⟩
  have hi3 := inB_iff.1 (HIT.out rfl)
  obtain ⟨it, rfl⟩ : ∃ it : Nat, item = (it : Int) := ⟨item.toNat, by omega⟩
  have hit : it < 4 := by omega
  have HTN : Hid ((it : Int).toNat = it) := Int.toNat_natCast it
  clear hi3
  go_wp2_with fail
  refine (Lkd.keepers a0 a1 a2 c0 c1 n2 c2 who it wri false d _ (lIs_below HS.out.1 B2.out) (iIs_below HS.out.2.1 B2.out) hit).mono ?_
  rintro e w3 ⟨a', m, c', rfl, hm, ho, hb3⟩
  have HM : Hid (decide (waitN d (who, (it : Int), wri, false) = []) = decide (m = 0)) := by
    show _ = _
    have hl := ho.1
    rw [ints_length] at hl
    rw [decide_eq_decide]
    constructor
    · intro e; rw [e] at hl; simp at hl; omega
    · intro e; exact List.eq_nil_of_length_eq_zero (by omega)
  have B3 : Hid (Below w.heap.size w w3) := Frame.next B2.out hb3 B2.out.size
  have K3 : Hid (w3.cell? ⟨w.heap.size, 0, none⟩ = some (.slice a0 4 c0) ∧ w3.cell? ⟨w.heap.size, 1, none⟩ = some (.slice a1 4 c1) ∧ w3.cell? ⟨w.heap.size, 2, none⟩ = some (.slice a2 n2 c2) ∧ w3.cell? ⟨w.heap.size + 1, 0, none⟩ = some (.int .i64 who) ∧ w3.cell? ⟨w.heap.size + 1, 1, none⟩ = some (.int .i64 (it : Int)) ∧ w3.cell? ⟨w.heap.size + 1, 2, none⟩ = some (.bool wri) ∧ w3.cell? ⟨w.heap.size + 1, 3, none⟩ = some (.bool false) ∧ w3.cell? ⟨w.heap.size + 1 + 1, 0, none⟩ = some (.slice none 0 0) ∧ w3.cell? ⟨w.heap.size + 1 + 1, 1, none⟩ = some (.slice none 0 0) ∧ w3.cell? ⟨w.heap.size + 1 + 1, 2, none⟩ = some (.slice none 0 0) ∧ w3.frozen? ⟨w.heap.size + 1 + 1, 0, none⟩ = false ∧ w3.frozen? ⟨w.heap.size + 1 + 1, 1, none⟩ = false ∧ w3.frozen? ⟨w.heap.size + 1 + 1, 2, none⟩ = false) := ⟨Frame.held_cell hb3 (K2.out.1), Frame.held_cell hb3 (K2.out.2.1), Frame.held_cell hb3 (K2.out.2.2.1), Frame.held_cell hb3 (K2.out.2.2.2.1), Frame.held_cell hb3 (K2.out.2.2.2.2.1), Frame.held_cell hb3 (K2.out.2.2.2.2.2.1), Frame.held_cell hb3 (K2.out.2.2.2.2.2.2.1), Frame.held_cell hb3 (K2.out.2.2.2.2.2.2.2.1), Frame.held_cell hb3 (K2.out.2.2.2.2.2.2.2.2.1), Frame.held_cell hb3 (K2.out.2.2.2.2.2.2.2.2.2.1), (hb3.frozen (Frame.cell_lt (K2.out.2.2.2.2.2.2.2.1))).trans (K2.out.2.2.2.2.2.2.2.2.2.2.1), (hb3.frozen (Frame.cell_lt (K2.out.2.2.2.2.2.2.2.2.1))).trans (K2.out.2.2.2.2.2.2.2.2.2.2.2.1), (hb3.frozen (Frame.cell_lt (K2.out.2.2.2.2.2.2.2.2.2.1))).trans (K2.out.2.2.2.2.2.2.2.2.2.2.2.2)⟩
  have HZ3 : Hid (w.heap.size + 3 ≤ w3.heap.size) := by have h1 := hb3.size; have h2 := (Nat.le_trans (Nat.le_of_eq HZ.out.symm) (Nat.le_trans HZ1.out HZ2.out)); show _ ≤ _; omega
  clear hb3 ho
  clear q0 q1 q2 q3 q4 q5 q6 q7 q8 q9 z0 z1 z2
  obtain ⟨q0, q1, q2, q3, q4, q5, q6, q7, q8, q9, z0, z1, z2⟩ := K3.out
  by_cases hm0 : m = 0
  rotate_left
  · have hmI : (m : Int) > 0 := by omega
    have F : Hid (askG d (who, (it : Int), wri, false) = false) := by show _ = _; rw [HG2.out, HM.out, decide_eq_false hm0]; rfl
    go_wp2
    refine bodyPost_ret (v := .tuple #[(.agg #[.slice none 0 0, .slice none 0 0, .slice none 0 0]), .bool false]) (by simp [results, Try.results15, go_sem, q7, q8, q9]) rfl ?_
    exact ⟨_, _, _, _, _, _, _, _, _, by rw [F.out], by rw [HNO.out F.out]; exact sOwn_zero _ _ _, ((B3.out.setCell (by show w.heap.size ≤ w.heap.size + 1 + 1; omega) _).setCell (by show w.heap.size ≤ w.heap.size + 1 + 1; omega) _).setCell (by show w.heap.size ≤ w.heap.size + 1 + 1; omega) _⟩
  subst hm0
  have F : Hid (askG d (who, (it : Int), wri, false) = true) := by show _ = _; rw [HG2.out, HM.out]; rfl
  go_wp2_with fail
  refine (with_ a0 a1 a2 c0 c1 n2 c2 who it wri false d _ (SLocks.sIs_below HS.out B3.out) HG.out hit hwho).mono ?_
  rintro e w4 ⟨x0, m0, y0, x1, m1, y1, x2, m2, y2, rfl, ho, hb4⟩
  have O4 : Hid (SOwn w4 (w.heap.size + 3) w4.heap.size (.slice x0 m0 y0) (.slice x1 m1 y1) (.slice x2 m2 y2) (withD d who it wri)) := SLocks.sOwn_wide ho HZ3.out (Nat.le_refl _)
  have B4 : Hid (Below w.heap.size w w4) := Frame.next B3.out hb4 B3.out.size
  have K4 : Hid (w4.cell? ⟨w.heap.size + 1 + 1, 0, none⟩ = some (.slice none 0 0) ∧ w4.cell? ⟨w.heap.size + 1 + 1, 1, none⟩ = some (.slice none 0 0) ∧ w4.cell? ⟨w.heap.size + 1 + 1, 2, none⟩ = some (.slice none 0 0) ∧ w4.frozen? ⟨w.heap.size + 1 + 1, 0, none⟩ = false ∧ w4.frozen? ⟨w.heap.size + 1 + 1, 1, none⟩ = false ∧ w4.frozen? ⟨w.heap.size + 1 + 1, 2, none⟩ = false) := ⟨Frame.held_cell hb4 (K3.out.2.2.2.2.2.2.2.1), Frame.held_cell hb4 (K3.out.2.2.2.2.2.2.2.2.1), Frame.held_cell hb4 (K3.out.2.2.2.2.2.2.2.2.2.1), (hb4.frozen (Frame.cell_lt (K3.out.2.2.2.2.2.2.2.1))).trans (K3.out.2.2.2.2.2.2.2.2.2.2.1), (hb4.frozen (Frame.cell_lt (K3.out.2.2.2.2.2.2.2.2.1))).trans (K3.out.2.2.2.2.2.2.2.2.2.2.2.1), (hb4.frozen (Frame.cell_lt (K3.out.2.2.2.2.2.2.2.2.2.1))).trans (K3.out.2.2.2.2.2.2.2.2.2.2.2.2)⟩
  clear ho hb4
  clear q0 q1 q2 q3 q4 q5 q6 q7 q8 q9 z0 z1 z2
  obtain ⟨r0, r1, r2, z0, z1, z2⟩ := K4.out
  go_wp2
  refine bodyPost_ret (v := .tuple #[.agg #[.slice x0 m0 y0, .slice x1 m1 y1, .slice x2 m2 y2], .bool true]) (by simp [results, Try.results15, go_sem, r0, r1, r2]) rfl ?_
  exact ⟨_, _, _, _, _, _, _, _, _, by rw [F.out], by rw [HYES.out F.out, HTN.out]; exact SLocks.sOwn_wide (SLocks.sOwn_set (SLocks.sOwn_set (SLocks.sOwn_set O4.out _ _ (by omega)) _ _ (by omega)) _ _ (by omega)) (by omega) (by simp), ((B4.out.setCell (by show w.heap.size ≤ w.heap.size + 1 + 1; omega) _).setCell (by show w.heap.size ≤ w.heap.size + 1 + 1; omega) _).setCell (by show w.heap.size ≤ w.heap.size + 1 + 1; omega) _⟩


end Go.Proofs.Ytkondmnkmbdncaa.Lki
