/-
  Contract of the model's FindRow.
-/
import Derived.Test.YtciaegdgoabipaaGtab
import Derived.Test.YtciaegdgoabipaaCpy
namespace Go.Proofs.Ytciaegdgoabipaa.Find
open Go.RowKit
open Go.Proofs.Ytciaegdgoabipaa.Frame Go.Proofs.Ytciaegdgoabipaa.Mem Go.Proofs.Ytciaegdgoabipaa.Vals Go.Proofs.Ytciaegdgoabipaa.Rws Go.Proofs.Ytciaegdgoabipaa.Val Go.Proofs.Ytciaegdgoabipaa.Tab Go.Proofs.Ytciaegdgoabipaa.Reg Go.Proofs.Ytciaegdgoabipaa.Gtab Go.Proofs.Ytciaegdgoabipaa.Cpy

theorem find_some (key : Int) (rs : List RowV) (h : 0 ≤ find key rs) : ∃ k, k < rs.length ∧ find key rs = (k : Int) := by
  have aux : ∀ (rs : List RowV) (i : Nat), findTo key rs i = -1 ∨ ∃ k, k < rs.length ∧ findTo key rs i = ((i + k : Nat) : Int) := by
    intro rs
    induction rs with
    | nil => intro i; exact Or.inl rfl
    | cons r rs ih =>
      intro i
      by_cases e : r.key = key
      · exact Or.inr ⟨0, by simp, by rw [findTo, if_pos e]; rfl⟩
      · rcases ih (i + 1) with h | ⟨k, hk, h⟩
        · exact Or.inl (by rw [findTo, if_neg e, h])
        · exact Or.inr ⟨k + 1, by simp; omega, by rw [findTo, if_neg e, h]; congr 1; omega⟩
  rcases aux rs 0 with h' | ⟨k, hk, h'⟩
  · rw [find, h'] at h; omega
  · exact ⟨k, hk, by rw [find, h', Nat.zero_add]⟩

/-- Is a key found, and where: what FindRow tells. -/
def foundB (key : Int) (rs : List RowV) : Bool := goodT rs && decide (0 ≤ find key rs)

def foundR (key : Int) (rs : List RowV) : RowV := rs.getD (find key rs).toNat rd

set_option maxHeartbeats 800000 in
theorem spec_FindRow (a : Option Addr) (n cap : Nat) (rs : List RowV) (key : Int) (w : World) (h : IsRows w a n cap rs) (hn : n ≤ 1048576) (hv : ∀ r ∈ rs, r.n ≤ 1048576) :
    Calls Try.prog 20 #[.slice a n cap, .int .i64 key] w fun e w' => ((foundB key rs = false ∧ e = .returned (.tuple #[.agg #[.int .i64 0, .slice none 0 0], .bool false])) ∨ (foundB key rs = true ∧ ∃ a' c', e = .returned (.tuple #[.agg #[.int .i64 (foundR key rs).key, .slice a' (foundR key rs).n c'], .bool true]) ∧ w'.ownsRow w.heap.size 45 2 (.slice a' (foundR key rs).n c') (foundR key rs).n (vcells (foundR key rs).vs))) ∧ Below w.heap.size w w' := by
  have HI : Hid (IsRows w a n cap rs) := h
  have HV : Hid (∀ r ∈ rs, r.n ≤ 1048576) := hv
  have b0 := (Below.refl w.heap.size w).alloc (Nat.le_refl _) (.cells #[.int .i64 0, .slice none 0 0] 26)
  have B0 : Hid (Below w.heap.size w (w.alloc (.cells #[.int .i64 0, .slice none 0 0] 26))) := b0
  clear h hv b0
  go_enter Try.func20, Try.ntmps20
  go_wp2_with fail
  refine (spec_l2Find a n cap rs key _ (HI.out.below B0.out) hn).mono ?_
  rintro e w1 ⟨rfl, hb1⟩
  have B1 : Hid (Below w.heap.size w w1) := Frame.next B0.out hb1 (by simp)
  have c0 : w1.cell? ⟨w.heap.size, 0, none⟩ = some (.int .i64 0) := by rw [hb1.cell (p := ⟨w.heap.size, 0, none⟩) (by simp), World.cell?_alloc_at _ _ _ _ rfl]; rfl
  have c1 : w1.cell? ⟨w.heap.size, 1, none⟩ = some (.slice none 0 0) := by rw [hb1.cell (p := ⟨w.heap.size, 1, none⟩) (by simp), World.cell?_alloc_at _ _ _ _ rfl]; rfl
  have f0 : w1.frozen? ⟨w.heap.size, 0, none⟩ = false := by rw [hb1.frozen (p := ⟨w.heap.size, 0, none⟩) (by simp)]; exact World.frozen?_alloc_at _ _ _ _ rfl
  have f1 : w1.frozen? ⟨w.heap.size, 1, none⟩ = false := by rw [hb1.frozen (p := ⟨w.heap.size, 1, none⟩) (by simp)]; exact World.frozen?_alloc_at _ _ _ _ rfl
  have hs1 : w.heap.size + 1 ≤ w1.heap.size := by simpa using hb1.size
  have K1 : Hid (w1.cell? ⟨w.heap.size, 0, none⟩ = some (.int .i64 0) ∧ w1.cell? ⟨w.heap.size, 1, none⟩ = some (.slice none 0 0) ∧ w1.frozen? ⟨w.heap.size, 0, none⟩ = false ∧ w1.frozen? ⟨w.heap.size, 1, none⟩ = false) := ⟨c0, c1, f0, f1⟩
  clear hb1 B0 c0 c1 f0 f1
  go_wp2_with fail
  refine (spec_GoodTable a n cap rs _ (HI.out.below B1.out) hn HV.out).mono ?_
  rintro e w2 ⟨rfl, hb2⟩
  have B2 : Hid (Below w.heap.size w w2) := Frame.next B1.out hb2 (by omega)
  have c0 : w2.cell? ⟨w.heap.size, 0, none⟩ = some (.int .i64 0) := by rw [hb2.cell (p := ⟨w.heap.size, 0, none⟩) (by show w.heap.size < _; omega)]; exact K1.out.1
  have c1 : w2.cell? ⟨w.heap.size, 1, none⟩ = some (.slice none 0 0) := by rw [hb2.cell (p := ⟨w.heap.size, 1, none⟩) (by show w.heap.size < _; omega)]; exact K1.out.2.1
  have f0 : w2.frozen? ⟨w.heap.size, 0, none⟩ = false := by rw [hb2.frozen (p := ⟨w.heap.size, 0, none⟩) (by show w.heap.size < _; omega)]; exact K1.out.2.2.1
  have f1 : w2.frozen? ⟨w.heap.size, 1, none⟩ = false := by rw [hb2.frozen (p := ⟨w.heap.size, 1, none⟩) (by show w.heap.size < _; omega)]; exact K1.out.2.2.2
  have hs2 : w.heap.size + 1 ≤ w2.heap.size := Nat.le_trans hs1 hb2.size
  clear hb2 B1 K1
  cases hg : goodT rs
  · have F : Hid (foundB key rs = false) := by show _ = _; unfold foundB; rw [hg]; rfl
    clear hg
    go_wp2
    refine bodyPost_ret (v := .tuple #[.agg #[.int .i64 0, .slice none 0 0], .bool false]) (by simp [results, Try.results20, go_sem, c0, c1]) rfl ?_
    exact ⟨Or.inl ⟨F.out, rfl⟩, (B2.out.setCell (Nat.le_refl _) _).setCell (Nat.le_refl _) _⟩
  · by_cases hf : 0 ≤ find key rs
    · obtain ⟨k, hk, hfk⟩ := find_some key rs hf
      have F : Hid (foundB key rs = true) := by show _ = _; unfold foundB; rw [hg, decide_eq_true hf]; rfl
      have HR : Hid (foundR key rs = rs.getD k rd) := by show _ = _; unfold foundR; rw [hfk]; rfl
      have hkn : k < n := by rw [← HI.out.len]; exact hk
      obtain ⟨b, off, rfl, hbl, hc⟩ := HI.out.cells (by omega)
      have p0 : w2.cell? ⟨b, off + k * 2, none⟩ = some (.int .i64 (rs.getD k rd).key) := by rw [B2.out.cell (p := ⟨b, off + k * 2, none⟩) hbl]; exact (hc k hkn).1
      have p1 : w2.cell? ⟨b, off + k * 2 + 1, none⟩ = some (.slice (rs.getD k rd).a (rs.getD k rd).n (rs.getD k rd).c) := by rw [B2.out.cell (p := ⟨b, off + k * 2 + 1, none⟩) hbl]; exact (hc k hkn).2
      have HX : Hid (IsVals w (rs.getD k rd).a (rs.getD k rd).n (rs.getD k rd).c (rs.getD k rd).vs ∧ (rs.getD k rd).n ≤ 1048576) := ⟨(HI.out.rows _ (getD_mem_rd hk)).2, HV.out _ (getD_mem_rd hk)⟩
      rw [hfk]
      generalize rs.getD k rd = r at p0 p1 HX HR
      obtain ⟨rk, ra, rn, rc, rvs⟩ := r
      simp only at p0 p1
      have hkI : (k : Int) < (n : Int) := by omega
      have C : ∀ {W : World}, Below w.heap.size w W → Calls Try.prog 56 #[.agg #[.int .i64 rk, .slice ra rn rc]] W (fun e w' => ∃ a' c', e = .returned (.agg #[.int .i64 rk, .slice a' rn c']) ∧ w'.ownsRow W.heap.size 45 2 (.slice a' rn c') rn (vcells rvs) ∧ Below W.heap.size W w') :=
        fun hb => spec_l2Copy rk ra rn rc rvs _ (HX.out.1.below hb) HX.out.2
      clear hg hf hfk hc hk HX
      go_wp2_with fail
      refine (C B2.out).mono ?_
      rintro e w3 ⟨a', c', rfl, ho3, hb3⟩
      have d0 : w3.cell? ⟨w.heap.size, 0, none⟩ = some (.int .i64 0) := by rw [hb3.cell (p := ⟨w.heap.size, 0, none⟩) (by show w.heap.size < _; omega)]; exact c0
      have d1 : w3.cell? ⟨w.heap.size, 1, none⟩ = some (.slice none 0 0) := by rw [hb3.cell (p := ⟨w.heap.size, 1, none⟩) (by show w.heap.size < _; omega)]; exact c1
      have g0 : w3.frozen? ⟨w.heap.size, 0, none⟩ = false := by rw [hb3.frozen (p := ⟨w.heap.size, 0, none⟩) (by show w.heap.size < _; omega)]; exact f0
      have g1 : w3.frozen? ⟨w.heap.size, 1, none⟩ = false := by rw [hb3.frozen (p := ⟨w.heap.size, 1, none⟩) (by show w.heap.size < _; omega)]; exact f1
      have B3 : Hid (Below w.heap.size w w3) := Frame.next B2.out hb3 (by omega)
      have O3 : Hid (w3.ownsRow (w.heap.size + 1) 45 2 (.slice a' rn c') rn (vcells rvs)) := own_base ho3 hs2
      clear ho3 hb3 c0 c1 f0 f1 p0 p1
      go_wp2
      refine bodyPost_ret (v := .tuple #[.agg #[.int .i64 rk, .slice a' rn c'], .bool true]) (by simp [results, Try.results20, go_sem, d0, d1]) rfl ?_
      refine ⟨Or.inr ⟨F.out, ?_⟩, (B3.out.setCell (Nat.le_refl _) _).setCell (Nat.le_refl _) _⟩
      rw [HR.out]
      exact ⟨a', c', rfl, own_base (ownsRow_setCell_below (ownsRow_setCell_below O3.out (by show w.heap.size < _; omega) _) (by show w.heap.size < _; omega) _) (by omega)⟩
    · have F : Hid (foundB key rs = false) := by show _ = _; unfold foundB; rw [hg, decide_eq_false hf]; rfl
      have hf2 : find key rs < 0 := by omega
      clear hg hf
      go_wp2
      refine bodyPost_ret (v := .tuple #[.agg #[.int .i64 0, .slice none 0 0], .bool false]) (by simp [results, Try.results20, go_sem, c0, c1]) rfl ?_
      exact ⟨Or.inl ⟨F.out, rfl⟩, (B2.out.setCell (Nat.le_refl _) _).setCell (Nat.le_refl _) _⟩

end Go.Proofs.Ytciaegdgoabipaa.Find
