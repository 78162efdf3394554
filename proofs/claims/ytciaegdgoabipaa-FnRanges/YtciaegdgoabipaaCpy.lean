/-
  Contract of the model's l2Copy: a row and its columns anew.
-/
import Derived.Test.YtciaegdgoabipaaTab
import Derived.Test.YtciaegdgoabipaaReg
import Derived.Deep.AppendLies
import Derived.Deep.RegionHeld3
namespace Go.Proofs.Ytciaegdgoabipaa.Cpy
open Go.RowKit
open Go.Proofs.Ytciaegdgoabipaa.Frame Go.Proofs.Ytciaegdgoabipaa.Mem Go.Proofs.Ytciaegdgoabipaa.Vals Go.Proofs.Ytciaegdgoabipaa.Rws Go.Proofs.Ytciaegdgoabipaa.Val Go.Proofs.Ytciaegdgoabipaa.Tab Go.Proofs.Ytciaegdgoabipaa.Reg

theorem own_empty (w : World) (base : Nat) (e : TypeId) (size H : Nat) (hH : w.heap.size = H) (hb : base ≤ H) : (w.alloc (.cells #[] e)).ownsRow base e size (.slice (some ⟨H, 0, none⟩) 0 0) 0 [] := by
  subst hH
  exact ⟨by simp, Or.inr ⟨w.heap.size, 0, #[], rfl, hb, heap_alloc_new w _, Nat.le_refl _, by unfold maxLen; omega, by simp, by simp⟩⟩

theorem below_grown {B : Nat} {a w w' : World} {row : Option Nat} (h : Below B a w) (hg : w.grownBy w' row) (hB : B ≤ w.heap.size) (hr : ∀ g, row = some g → B ≤ g) : Below B a w' :=
  h.trans ⟨hg.os, hg.tape, hg.output, hg.size, fun k hk => hg.block k (by omega) (fun e => by have := hr k e.symm; omega)⟩

theorem vcells_one (vs : List (Bool × Int)) : ∀ u ∈ vcells vs, u.oneCell' = true := by
  intro u hu
  unfold vcells at hu
  rcases List.mem_flatMap.1 hu with ⟨v, _, h⟩
  simp only [List.mem_cons, List.not_mem_nil, or_false] at h
  rcases h with rfl | rfl <;> rfl

theorem vals_news {w : World} {b off n cap : Nat} {vs : List (Bool × Int)} (h : IsVals w (some ⟨b, off, none⟩) n cap vs) (hn : 0 < n) : ∀ j u, (vcells vs)[j]? = some u → w.cell? ((⟨b, off, none⟩ : Addr).add j) = some u := by
  intro j u hu
  obtain ⟨b', off', he, _, hc⟩ := h.cells hn
  cases he
  have hl : j < vs.length * 2 := by
    by_cases hx : j < vs.length * 2
    · exact hx
    · rw [List.getElem?_eq_none (by rw [vcells_length]; omega)] at hu; cases hu
  have hadd : (⟨b, off, none⟩ : Addr).add j = ⟨b, off + j, none⟩ := by unfold Addr.add; split <;> simp_all
  rw [hadd]
  have hi : j / 2 < vs.length := by omega
  have g := vcells_get vs (j / 2) hi
  have c := hc (j / 2) (by rw [← h.len]; exact hi)
  rcases Nat.mod_two_eq_zero_or_one j with h0 | h0
  · rw [show j / 2 * 2 = j by omega] at g c
    rw [g.1] at hu
    rw [c.1]; exact hu
  · rw [show j / 2 * 2 + 1 = j by omega] at g
    rw [show off + j / 2 * 2 + 1 = off + j by omega] at c
    rw [g.2] at hu
    rw [c.2]; exact hu

theorem news_below {w w' : World} {b off : Nat} {cs : List Value} (h : ∀ j u, cs[j]? = some u → w.cell? ((⟨b, off, none⟩ : Addr).add j) = some u) (hb : b < w.heap.size) (hw : Below w.heap.size w w') : ∀ j u, cs[j]? = some u → w'.cell? ((⟨b, off, none⟩ : Addr).add j) = some u := by
  intro j u hu
  have hadd : (⟨b, off, none⟩ : Addr).add j = ⟨b, off + j, none⟩ := by unfold Addr.add; split <;> simp_all
  have := h j u hu
  rw [hadd] at this ⊢
  rw [hw.cell (p := ⟨b, off + j, none⟩) hb]
  exact this

set_option maxHeartbeats 800000 in
theorem spec_l2Copy (key : Int) (a : Option Addr) (n cap : Nat) (vs : List (Bool × Int)) (w : World) (h : IsVals w a n cap vs) (hn : n ≤ 1048576) :
    Calls Try.prog 56 #[.agg #[.int .i64 key, .slice a n cap]] w fun e w' => ∃ a' c', e = .returned (.agg #[.int .i64 key, .slice a' n c']) ∧ w'.ownsRow w.heap.size 45 2 (.slice a' n c') n (vcells vs) ∧ Below w.heap.size w w' := by
  obtain ⟨i0, hi, hz0, hz1, hz2⟩ := info_parts infoV
  have HL : Hid (vs.length = n) := h.len
  have HV : Hid (IsVals w a n cap vs) := h
  clear h
  by_cases h0 : n = 0
  · subst h0
    obtain rfl : vs = [] := List.eq_nil_of_length_eq_zero HL.out
    cases a with
    | none =>
      go_enter Try.func56, Try.ntmps56
      go_wp2_with fail
      go_region_held3 (fun w' => w'.cell? ⟨w.heap.size, 0, none⟩ = some (.int .i64 key) ∧ w'.cell? ⟨w.heap.size, 1, none⟩ = some (.slice none 0 cap)) (go_keep) (fail)
      go_wp2
      refine bodyPost_ret (v := .agg #[.int .i64 key, .slice (some ⟨w.heap.size + 1 + 1, 0, none⟩) 0 0]) (by simp [results, Try.results56, go_sem]) rfl ?_
      exact ⟨_, _, rfl, (own_empty ((w.alloc _).alloc _) w.heap.size _ 2 _ (by simp) (by omega)).drew, ((((Below.refl _ _).alloc (Nat.le_refl _) _).alloc (by simp) _).alloc (by simp; omega) _).drew⟩
    | some ad =>
      go_enter Try.func56, Try.ntmps56
      go_wp2_with fail
      go_region_held3 (fun w' => w'.cell? ⟨w.heap.size, 0, none⟩ = some (.int .i64 key) ∧ w'.cell? ⟨w.heap.size, 1, none⟩ = some (.slice (some ad) 0 cap)) (go_keep) (fail)
      go_wp2
      refine bodyPost_ret (v := .agg #[.int .i64 key, .slice (some ⟨w.heap.size + 1 + 1, 0, none⟩) 0 0]) (by simp [results, Try.results56, go_sem]) rfl ?_
      exact ⟨_, _, rfl, (own_empty ((w.alloc _).alloc _) w.heap.size _ 2 _ (by simp) (by omega)).drew, ((((Below.refl _ _).alloc (Nat.le_refl _) _).alloc (by simp) _).alloc (by simp; omega) _).drew⟩
  · obtain ⟨b, off, rfl, hbl, hc⟩ := HV.out.cells (by omega)
    go_enter Try.func56, Try.ntmps56
    have hlen : (vcells vs).length = n * 2 := by rw [vcells_length, HL.out]
    have HNW : Hid (∀ j u, (vcells vs)[j]? = some u → w.cell? ((⟨b, off, none⟩ : Addr).add j) = some u) := vals_news HV.out (by omega)
    have BW : Hid (Below w.heap.size w (((w.alloc (.cells #[.int .i64 key, .slice (some ⟨b, off, none⟩) n cap] 26)).alloc (.cells #[.int .i64 0, .slice none 0 0] 26)).alloc (.cells #[] 45)).drew) := ((((Below.refl _ _).alloc (Nat.le_refl _) _).alloc (by simp) _).alloc (by simp; omega) _).drew
    have OW : Hid ((((w.alloc (.cells #[.int .i64 key, .slice (some ⟨b, off, none⟩) n cap] 26)).alloc (.cells #[.int .i64 0, .slice none 0 0] 26)).alloc (.cells #[] 45)).drew.ownsRow w.heap.size 45 2 (.slice (some ⟨w.heap.size + 2, 0, none⟩) 0 0) 0 []) := (own_empty ((w.alloc _).alloc _) w.heap.size _ 2 _ (by simp) (by omega)).drew
    have SW : Hid ((((w.alloc (.cells #[.int .i64 key, .slice (some ⟨b, off, none⟩) n cap] 26)).alloc (.cells #[.int .i64 0, .slice none 0 0] 26)).alloc (.cells #[] 45)).drew.heap.size = w.heap.size + 3) := by show _ = _; simp
    have C0 : Hid ((((w.alloc (.cells #[.int .i64 key, .slice (some ⟨b, off, none⟩) n cap] 26)).alloc (.cells #[.int .i64 0, .slice none 0 0] 26)).alloc (.cells #[] 45)).drew.cell? ⟨w.heap.size, 0, none⟩ = some (.int .i64 key)) := by show _ = _; simp only [World.cell?_drew]; go_simp
    have C1 : Hid ((((w.alloc (.cells #[.int .i64 key, .slice (some ⟨b, off, none⟩) n cap] 26)).alloc (.cells #[.int .i64 0, .slice none 0 0] 26)).alloc (.cells #[] 45)).drew.cell? ⟨w.heap.size, 1, none⟩ = some (.slice (some ⟨b, off, none⟩) n cap)) := by show _ = _; simp only [World.cell?_drew]; go_simp
    have C2 : Hid ((((w.alloc (.cells #[.int .i64 key, .slice (some ⟨b, off, none⟩) n cap] 26)).alloc (.cells #[.int .i64 0, .slice none 0 0] 26)).alloc (.cells #[] 45)).drew.cell? ⟨w.heap.size + 1, 0, none⟩ = some (.int .i64 0)) := by show _ = _; simp only [World.cell?_drew]; go_simp
    have C3 : Hid ((((w.alloc (.cells #[.int .i64 key, .slice (some ⟨b, off, none⟩) n cap] 26)).alloc (.cells #[.int .i64 0, .slice none 0 0] 26)).alloc (.cells #[] 45)).drew.cell? ⟨w.heap.size + 1, 1, none⟩ = some (.slice none 0 0)) := by show _ = _; simp only [World.cell?_drew]; go_simp
    have C4 : Hid ((((w.alloc (.cells #[.int .i64 key, .slice (some ⟨b, off, none⟩) n cap] 26)).alloc (.cells #[.int .i64 0, .slice none 0 0] 26)).alloc (.cells #[] 45)).drew.frozen? ⟨w.heap.size + 1, 0, none⟩ = false) := by show _ = _; simp only [World.frozen?_drew]; go_simp
    have C5 : Hid ((((w.alloc (.cells #[.int .i64 key, .slice (some ⟨b, off, none⟩) n cap] 26)).alloc (.cells #[.int .i64 0, .slice none 0 0] 26)).alloc (.cells #[] 45)).drew.frozen? ⟨w.heap.size + 1, 1, none⟩ = false) := by show _ = _; simp only [World.frozen?_drew]; go_simp
    go_wp2_with fail
    go_region_held3 (fun w' => w'.cell? ⟨w.heap.size, 0, none⟩ = some (.int .i64 key) ∧ w'.cell? ⟨w.heap.size, 1, none⟩ = some (.slice (some ⟨b, off, none⟩) n cap)) (first | go_keep | exact ⟨k0, k1⟩)
      ((refine step_append_lies _ (by rfl) _ _ _ (by rfl) w.heap.size 45 i0 (.agg #[.bool false, .int .i64 0]) 2 16 Try.underlying24 hi hz0 hz1 hz2 rfl (by decide) (.slice (some ⟨w.heap.size + 2, 0, none⟩) 0 0) 0 [] (by rfl) OW.out ⟨b, off, none⟩ n cap (vcells vs) (by rfl) hlen (news_below HNW.out hbl BW.out) (vcells_one vs) (by omega) (by unfold maxLen; omega) (by omega) BW.out.size (w.heap.size + 3) SW.out ?_; intro g cap' w1 hown1 hgrow hat hlt; have HB2 : Hid (Below (w.heap.size + 2) _ w1) := below_grown (B := w.heap.size + 2) (Below.refl _ _) hgrow (by rw [SW.out]; omega) (fun g hg => by simp only [Value.ownBlock, Option.some.injEq] at hg; omega); have k0 : w1.cell? ⟨w.heap.size, 0, none⟩ = some (.int .i64 key) := (HB2.out.cell (p := ⟨w.heap.size, 0, none⟩) (by show w.heap.size < _; omega)).trans C0.out; have k1 : w1.cell? ⟨w.heap.size, 1, none⟩ = some (.slice (some ⟨b, off, none⟩) n cap) := (HB2.out.cell (p := ⟨w.heap.size, 1, none⟩) (by show w.heap.size < _; omega)).trans C1.out; have k2 : w1.cell? ⟨w.heap.size + 1, 0, none⟩ = some (.int .i64 0) := (HB2.out.cell (p := ⟨w.heap.size + 1, 0, none⟩) (by show w.heap.size + 1 < _; omega)).trans C2.out; have k3 : w1.cell? ⟨w.heap.size + 1, 1, none⟩ = some (.slice none 0 0) := (HB2.out.cell (p := ⟨w.heap.size + 1, 1, none⟩) (by show w.heap.size + 1 < _; omega)).trans C3.out; have k4 : w1.frozen? ⟨w.heap.size + 1, 0, none⟩ = false := (HB2.out.frozen (p := ⟨w.heap.size + 1, 0, none⟩) (by show w.heap.size + 1 < _; omega)).trans C4.out; have k5 : w1.frozen? ⟨w.heap.size + 1, 1, none⟩ = false := (HB2.out.frozen (p := ⟨w.heap.size + 1, 1, none⟩) (by show w.heap.size + 1 < _; omega)).trans C5.out))
    have HG : Hid (Below w.heap.size w w1) := below_grown BW.out hgrow BW.out.size (fun g hg => by simp only [Value.ownBlock, Option.some.injEq] at hg; omega)
    have HO : Hid (w1.ownsRow w.heap.size 45 2 (.slice (some ⟨g, 0, none⟩) n cap') n (vcells vs)) := by have := hown1; rw [Nat.zero_add, List.nil_append] at this; exact this
    have hg1 : g ≠ w.heap.size + 1 := by
      rcases hat with h | h
      · simp only [Value.ownBlock, Option.some.injEq] at h; omega
      · omega
    clear hown1 hgrow hat
    go_wp2
    have hg2 : (Value.slice (some ⟨g, 0, none⟩) n cap').ownBlock ≠ some (w.heap.size + 1) := by simp only [Value.ownBlock, ne_eq, Option.some.injEq]; exact hg1
    refine bodyPost_ret (v := .agg #[.int .i64 key, .slice (some ⟨g, 0, none⟩) n cap']) (by simp [results, Try.results56, go_sem, k2, k3]) rfl ?_
    exact ⟨_, _, rfl, ownsRow_setCell_other (ownsRow_setCell_other HO.out hg2 _) hg2 _, (HG.out.setCell (by show w.heap.size ≤ w.heap.size + 1; omega) _).setCell (by show w.heap.size ≤ w.heap.size + 1; omega) _⟩

end Go.Proofs.Ytciaegdgoabipaa.Cpy
