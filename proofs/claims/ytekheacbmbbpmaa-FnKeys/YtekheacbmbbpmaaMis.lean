/-
  Small steps that walks over lists share: what append is told of its source; what stays behind it. It speaks of no program.
-/
import Derived.Test.YtekheacbmbbpmaaKrl
import Derived.Test.YtekheacbmbbpmaaApp
import Derived.Test.YtekheacbmbbpmaaCop
namespace Go.Proofs.Ytekheacbmbbpmaa.Mis
open Go.RowKit
open Go.Proofs.Ytekheacbmbbpmaa.Frame Go.Proofs.Ytekheacbmbbpmaa.Mem Go.Proofs.Ytekheacbmbbpmaa.Lls

theorem below_app {B base : Nat} {w0 w w' : World} {e : TypeId} {size : Nat} {v : Value} {n : Nat} {xs : List Value} (h : Below B w0 w) (ho : w.ownsRow base e size v n xs) (hg : w.grownBy w' v.ownBlock) (hB : B ≤ w.heap.size) (hb : B ≤ base) : Below B w0 w' :=
  h.grown hg hB (fun g hg' => by
    obtain ⟨a1, c1, rfl⟩ := own_form ho
    simp only [Value.ownBlock] at hg'
    rcases a1 with _ | x
    · simp at hg'
    · have := own_block ho x rfl
      simp at hg'
      omega)
theorem below_make {B : Nat} {w0 w w' : World} (h : Below B w0 w) (hg : w.grownBy w' none) (hB : B ≤ w.heap.size) : Below B w0 w' := h.grown hg hB (fun g hg' => by cases hg')

theorem add_at (b off j : Nat) : (⟨b, off, none⟩ : Addr).add j = ⟨b, off + j, none⟩ := by unfold Addr.add; split <;> simp_all
theorem news_row {w : World} {a : Option Addr} {n c : Nat} {zs : List Int} (h : IsRow .i64 w a n c zs) : 0 < n → ∃ ad, a = some ad ∧ ∀ j u, (ints .i64 zs)[j]? = some u → w.cell? (ad.add j) = some u := fun h0 => by
  obtain ⟨b, off, ha, _, hc⟩ := h.cells h0
  refine ⟨_, ha, fun j u hu => ?_⟩
  have hj : j < zs.length := by
    by_cases hx : j < zs.length
    · exact hx
    · rw [List.getElem?_eq_none (by rw [ints_length]; omega)] at hu; cases hu
  rw [ints_get .i64 zs j hj] at hu
  rw [add_at, hc j (by rw [← h.len]; exact hj)]
  exact hu
theorem news_ls {w : World} {a : Option Addr} {n c : Nat} {rs : List LV} (h : IsLs w a n c rs) : 0 < n → ∃ ad, a = some ad ∧ ∀ j u, (lcells rs)[j]? = some u → w.cell? (ad.add j) = some u := fun h0 => by
  obtain ⟨b, off, ha, _, hc⟩ := h.cells h0
  refine ⟨_, ha, fun j u hu => ?_⟩
  have hj : j < rs.length := by
    by_cases hx : j < rs.length
    · exact hx
    · rw [List.getElem?_eq_none (by rw [lcells_length]; omega)] at hu; cases hu
  rw [lcells_get rs j hj] at hu
  rw [add_at, hc j (by rw [← h.len]; exact hj)]
  exact hu
theorem news_one (w : World) (v : Value) (t : TypeId) : 0 < 1 → ∃ ad, (some ⟨w.heap.size, 0, none⟩ : Option Addr) = some ad ∧ ∀ j u, ([v] : List Value)[j]? = some u → (w.alloc (.cells #[v] t)).cell? (ad.add j) = some u := fun _ => ⟨_, rfl, fun j u hu => by
  match j, hu with
  | 0, hu =>
    simp only [List.getElem?_cons_zero, Option.some.injEq] at hu
    subst hu
    rw [add_at, World.cell?_alloc_at _ _ _ _ rfl]
    rfl
  | j + 1, hu => simp at hu⟩
theorem one_int (zs : List Int) : ∀ u ∈ ints .i64 zs, u.oneCell' = true := by
  intro u hu
  unfold ints at hu
  obtain ⟨z, _, rfl⟩ := List.mem_map.1 hu
  rfl
theorem one_ls (rs : List LV) : ∀ u ∈ lcells rs, u.oneCell' = true := by
  intro u hu
  unfold lcells at hu
  obtain ⟨z, _, rfl⟩ := List.mem_map.1 hu
  rfl
theorem isRow_pre {w : World} {a : Option Addr} {n c k : Nat} {zs : List Int} (h : IsRow .i64 w a n c zs) (hk : k ≤ n) : IsRow .i64 w a k c (zs.take k) := by
  refine ⟨by rw [List.length_take, h.len]; omega, Nat.le_trans hk h.fits, h.max, fun z hz => h.wf z (List.mem_of_mem_take hz), fun h0 => ?_⟩
  obtain ⟨b, off, ha, hb, hc⟩ := h.cells (by omega)
  refine ⟨b, off, ha, hb, fun i hi => ?_⟩
  rw [hc i (by omega)]
  simp [List.getD, hi]
theorem isRow_suf {w : World} {b off n c k : Nat} {zs : List Int} (h : IsRow .i64 w (some ⟨b, off, none⟩) n c zs) (hk : k ≤ n) : IsRow .i64 w (some ⟨b, off + k, none⟩) (n - k) (c - k) (zs.drop k) := by
  have := h.fits
  have := h.max
  refine ⟨by rw [List.length_drop, h.len], by omega, by omega, fun z hz => h.wf z (List.mem_of_mem_drop hz), fun h0 => ?_⟩
  obtain ⟨b', off', ha, hb, hc⟩ := h.cells (by omega)
  cases ha
  refine ⟨b, off + k, rfl, hb, fun i hi => ?_⟩
  rw [Nat.add_assoc, hc (k + i) (by omega)]
  simp [List.getD, List.getElem?_drop]
theorem isLs_pre {w : World} {a : Option Addr} {n c k : Nat} {rs : List LV} (h : IsLs w a n c rs) (hk : k ≤ n) : IsLs w a k c (rs.take k) := by
  refine ⟨by rw [List.length_take, h.len]; omega, Nat.le_trans hk h.fits, h.max, fun r hr => h.rows r (List.mem_of_mem_take hr), fun h0 => ?_⟩
  obtain ⟨b, off, ha, hb, hc⟩ := h.cells (by omega)
  refine ⟨b, off, ha, hb, fun i hi => ?_⟩
  have e : (rs.take k).getD i ld = rs.getD i ld := by simp [List.getD, hi]
  rw [hc i (by omega), e]
theorem isLs_suf {w : World} {b off n c k : Nat} {rs : List LV} (h : IsLs w (some ⟨b, off, none⟩) n c rs) (hk : k ≤ n) : IsLs w (some ⟨b, off + k, none⟩) (n - k) (c - k) (rs.drop k) := by
  have := h.fits
  have := h.max
  refine ⟨by rw [List.length_drop, h.len], by omega, by omega, fun r hr => h.rows r (List.mem_of_mem_drop hr), fun h0 => ?_⟩
  obtain ⟨b', off', ha, hb, hc⟩ := h.cells (by omega)
  cases ha
  refine ⟨b, off + k, rfl, hb, fun i hi => ?_⟩
  have e : (rs.drop k).getD i ld = rs.getD (k + i) ld := by simp [List.getD, List.getElem?_drop]
  rw [Nat.add_assoc, hc (k + i) (by omega), e]
theorem own_zero (w : World) (base : Nat) (e : TypeId) (size : Nat) (b : Nat) (hb : b = w.heap.size) (h : base ≤ w.heap.size) : (w.alloc (.cells #[] e)).ownsRow base e size (.slice (some ⟨b, 0, none⟩) 0 0) 0 [] := by
  subst hb
  exact ⟨by simp, .inr ⟨w.heap.size, 0, #[], rfl, h, heap_alloc_new w _, Nat.le_refl _, by simp [maxLen], by simp, by simp⟩⟩


end Go.Proofs.Ytekheacbmbbpmaa.Mis
