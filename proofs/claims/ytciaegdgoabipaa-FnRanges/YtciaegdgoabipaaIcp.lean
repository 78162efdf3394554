/-
  Contract of the program's copyOfRow.
-/
import Derived.Test.YtciaegdgoabipaaCpy
import Derived.Test.YtciaegdgoabipaaCop
namespace Go.Proofs.Ytciaegdgoabipaa.Icp
open Go.RowKit
open Go.Proofs.Ytciaegdgoabipaa.Frame Go.Proofs.Ytciaegdgoabipaa.Mem Go.Proofs.Ytciaegdgoabipaa.Vals Go.Proofs.Ytciaegdgoabipaa.Rws Go.Proofs.Ytciaegdgoabipaa.Val Go.Proofs.Ytciaegdgoabipaa.Tab Go.Proofs.Ytciaegdgoabipaa.Reg Go.Proofs.Ytciaegdgoabipaa.Cpy

theorem sizeV : (Try.prog.info? 45).map (·.size) = some 2 := by kernel_rfl

theorem own_ne {w : World} {base : Nat} {e : TypeId} {size : Nat} {v : Value} {n : Nat} {xs : List Value} (h : w.ownsRow base e size v n xs) {g : Nat} (hg : g < base) : ∀ k, v.ownBlock = some k → some k ≠ some g := by
  intro k hk e'
  cases e'
  have := (h.lt _ hk).1
  omega

theorem cell_grown {w w' : World} {row : Option Nat} (hg : w.grownBy w' row) {b o : Nat} (hb : b < w.heap.size) (hne : some b ≠ row) : w'.cell? ⟨b, o, none⟩ = w.cell? ⟨b, o, none⟩ := World.cell?_of_block (w := w) (hg.block b hb hne)
theorem frozen_grown {w w' : World} {row : Option Nat} (hg : w.grownBy w' row) {b o : Nat} (hb : b < w.heap.size) (hne : some b ≠ row) : w'.frozen? ⟨b, o, none⟩ = w.frozen? ⟨b, o, none⟩ := by
  have := hg.block b hb hne
  simp [World.frozen?, this]

set_option maxRecDepth 4000 in
set_option maxHeartbeats 800000 in
theorem impl_copyOfRow (key : Int) (a : Option Addr) (n cap : Nat) (vs : List (Bool × Int)) (w : World) (h : IsVals w a n cap vs) (hn : n ≤ 1048576) :
    Calls Try.prog 47 #[.agg #[.int .i64 key, .slice a n cap]] w fun e w' => ∃ g, e = .returned (.agg #[.int .i64 key, .slice (some ⟨g, 0, none⟩) n n]) ∧ w'.ownsRow w.heap.size 45 2 (.slice (some ⟨g, 0, none⟩) n n) n (vcells vs) ∧ Below w.heap.size w w' := by
  obtain ⟨i0, hi, hz0, hz1, hz2⟩ := info_parts infoV
  have HV : Hid (IsVals w a n cap vs) := h
  have HL : Hid ((vcells vs).length = n * 2) := by show _ = _; rw [vcells_length, h.len]
  clear h
  have BW : Hid (Below w.heap.size w ((w.alloc (.cells #[.int .i64 key, .slice a n cap] 26)).alloc (.cells #[.int .i64 0, .slice none 0 0] 26))) := ((Below.refl _ _).alloc (Nat.le_refl _) _).alloc (by simp) _
  go_enter Try.func47, Try.ntmps47
  go_wp2_with (at_make; refine wpList_make_full _ rfl _ _ 24 rfl (w.heap.size + 2) 45 i0 (.agg #[.bool false, .int .i64 0]) 2 Try.underlying24 hi hz0 hz1 _ _ _ _ n rfl rfl rfl rfl ?b2 ?b3 ?b4 ?_)
  case b2 => rw [hz2]; omega
  case b3 => unfold maxLen; omega
  case b4 => simp
  intro w0 hown0 hgrow0
  have s0 : w.heap.size + 3 ≤ w0.heap.size := by have := (own_block hown0 _ rfl).2; simp at this; omega
  have B0 : Hid (Below w.heap.size w w0) := below_grown BW.out hgrow0 BW.out.size (fun g hg => by cases hg)
  have c0 : w0.cell? ⟨w.heap.size, 0, none⟩ = some (.int .i64 key) := by rw [cell_grown hgrow0 (by simp; omega) (by simp)]; go_simp
  have c1 : w0.cell? ⟨w.heap.size, 1, none⟩ = some (.slice a n cap) := by rw [cell_grown hgrow0 (by simp; omega) (by simp)]; go_simp
  have d0 : w0.cell? ⟨w.heap.size + 1, 0, none⟩ = some (.int .i64 0) := by rw [cell_grown hgrow0 (by simp) (by simp)]; go_simp
  have d1 : w0.cell? ⟨w.heap.size + 1, 1, none⟩ = some (.slice none 0 0) := by rw [cell_grown hgrow0 (by simp) (by simp)]; go_simp
  have f0 : w0.frozen? ⟨w.heap.size + 1, 0, none⟩ = false := by rw [frozen_grown hgrow0 (by simp) (by simp)]; go_simp
  have f1 : w0.frozen? ⟨w.heap.size + 1, 1, none⟩ = false := by rw [frozen_grown hgrow0 (by simp) (by simp)]; go_simp
  have D : Hid (w0.cell? ⟨w.heap.size, 0, none⟩ = some (.int .i64 key) ∧ w0.cell? ⟨w.heap.size + 1, 0, none⟩ = some (.int .i64 0) ∧ w0.cell? ⟨w.heap.size + 1, 1, none⟩ = some (.slice none 0 0) ∧ w0.frozen? ⟨w.heap.size + 1, 0, none⟩ = false ∧ w0.frozen? ⟨w.heap.size + 1, 1, none⟩ = false) := ⟨c0, d0, d1, f0, f1⟩
  have O0 : Hid (w0.ownsRow (w.heap.size + 2) 45 2 (.slice (some ⟨w.heap.size + 1 + 1, 0, none⟩) n n) n (madeCells #[Value.bool false, Value.int .i64 0] (n * 2)).toList) := hown0
  have hsz : ((w.alloc (.cells #[.int .i64 key, .slice a n cap] 26)).alloc (.cells #[.int .i64 0, .slice none 0 0] 26)).heap.size = w.heap.size + 2 := by simp
  have HSRC : Hid (0 < n → ∃ ad, a = some ad ∧ ∀ j v, (vcells vs)[j]? = some v → w0.cell? (ad.add j) = some v) := fun h0 => by
    obtain ⟨b, off, rfl, hbl, _⟩ := HV.out.cells h0
    exact ⟨_, rfl, news_below (vals_news HV.out h0) hbl B0.out⟩
  clear hown0 hgrow0 c0 d0 d1 f0 f1
  go_wp2_with (refine Cop.wpList_copy_all _ rfl (.tmp 8) (.tmp 10) 24 24 rfl 45 2 Try.underlying24 sizeV (w.heap.size + 2) _ _ n n cap rfl rfl _ (vcells vs) O0.out HL.out HSRC.out (vcells_one vs) ?_)
  intro w1 hown1 hgrow1
  have hlt : ∀ g, g < w.heap.size + 2 → some g ≠ (Value.slice (some ⟨w.heap.size + 1 + 1, 0, none⟩) n n).ownBlock := fun g hg => by simp only [Value.ownBlock, ne_eq, Option.some.injEq]; omega
  have B1 : Hid (Below w.heap.size w w1) := below_grown B0.out hgrow1 B0.out.size (fun g hg => by simp only [Value.ownBlock, Option.some.injEq] at hg; omega)
  have c0 : w1.cell? ⟨w.heap.size, 0, none⟩ = some (.int .i64 key) := by rw [cell_grown hgrow1 (by omega) (hlt _ (by omega))]; exact D.out.1
  have d0 : w1.cell? ⟨w.heap.size + 1, 0, none⟩ = some (.int .i64 0) := by rw [cell_grown hgrow1 (by omega) (hlt _ (by omega))]; exact D.out.2.1
  have d1 : w1.cell? ⟨w.heap.size + 1, 1, none⟩ = some (.slice none 0 0) := by rw [cell_grown hgrow1 (by omega) (hlt _ (by omega))]; exact D.out.2.2.1
  have f0 : w1.frozen? ⟨w.heap.size + 1, 0, none⟩ = false := by rw [frozen_grown hgrow1 (by omega) (hlt _ (by omega))]; exact D.out.2.2.2.1
  have f1 : w1.frozen? ⟨w.heap.size + 1, 1, none⟩ = false := by rw [frozen_grown hgrow1 (by omega) (hlt _ (by omega))]; exact D.out.2.2.2.2
  have O1 : Hid (w1.ownsRow w.heap.size 45 2 (.slice (some ⟨w.heap.size + 1 + 1, 0, none⟩) n n) n (vcells vs)) := own_base hown1 (by omega)
  clear hown1 hgrow1 c1 hlt hsz
  go_wp2
  have hg2 : (Value.slice (some ⟨w.heap.size + 1 + 1, 0, none⟩) n n).ownBlock ≠ some (w.heap.size + 1) := by simp only [Value.ownBlock, ne_eq, Option.some.injEq]; omega
  refine bodyPost_ret (v := .agg #[.int .i64 key, .slice (some ⟨w.heap.size + 1 + 1, 0, none⟩) n n]) (by simp [results, Try.results47, go_sem, d0, d1]) rfl ?_
  exact ⟨_, rfl, ownsRow_setCell_other (ownsRow_setCell_other O1.out hg2 _) hg2 _, (B1.out.setCell (by show w.heap.size ≤ w.heap.size + 1; omega) _).setCell (by show w.heap.size ≤ w.heap.size + 1; omega) _⟩


end Go.Proofs.Ytciaegdgoabipaa.Icp
