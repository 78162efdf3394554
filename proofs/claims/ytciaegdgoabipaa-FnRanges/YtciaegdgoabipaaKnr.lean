/-
  Lists of rows, and a row, by their place: the laws' helpers on them.
-/
import Derived.Test.YtciaegdgoabipaaKep
import Derived.Test.YtciaegdgoabipaaHld
import Derived.Test.YtciaegdgoabipaaOpn
namespace Go.Proofs.Ytciaegdgoabipaa.Knr
open Go.RowKit
open Go.Proofs.Ytciaegdgoabipaa.Frame Go.Proofs.Ytciaegdgoabipaa.Mem Go.Proofs.Ytciaegdgoabipaa.Vals Go.Proofs.Ytciaegdgoabipaa.Rws Go.Proofs.Ytciaegdgoabipaa.Kep

def ptotal (xs : List (Int × List (Bool × Int))) : Int := (xs.length : Int) + (xs.map fun x => (x.2.length : Int)).sum
theorem total_plain {rs : List RowV} (h : ∀ r ∈ rs, r.vs.length = r.n) : total rs = ptotal (plain rs) := by
  unfold total ptotal sumN plain
  rw [List.length_map, List.map_map]
  congr 2
  refine List.map_congr_left (fun r hr => ?_)
  simp [h r hr]
theorem small_rows {rs : List RowV} (h : total rs ≤ 1048576) : rs.length ≤ 1048576 ∧ ∀ r ∈ rs, r.n ≤ 1048576 :=
  left_ok (m := 1048576) (by unfold left; rw [if_neg (by omega)]; omega) (Int.le_refl _)

def RIs (w : World) (v : Value) (xs : List (Int × List (Bool × Int))) : Prop := ∃ a n cap rs, v = .slice a n cap ∧ IsRows w a n cap rs ∧ plain rs = xs ∧ total rs ≤ 1048576
def ROwn (w : World) (lo hi : Nat) (v : Value) (xs : List (Int × List (Bool × Int))) : Prop := ∃ a n cap rs, v = .slice a n cap ∧ OwnRows w lo a n cap rs ∧ plain rs = xs ∧ total rs ≤ 1048576 ∧ (∀ x, a = some x → lo ≤ x.block ∧ x.block < hi) ∧ ∀ r ∈ rs, ∀ x, r.a = some x → lo ≤ x.block ∧ x.block < hi
def RMarked (w : World) (lo hi : Nat) (v : Value) (k nx : Int) : Prop := ∃ a n cap rs, v = .slice a n cap ∧ OwnRows w lo a n cap (rmarks k rs) ∧ total rs ≤ 1048576 ∧ nx = rnext k rs ∧ 0 ≤ k ∧ k ≤ 50000000 ∧ (∀ x, a = some x → lo ≤ x.block ∧ x.block < hi) ∧ ∀ r ∈ rmarks k rs, ∀ x, r.a = some x → lo ≤ x.block ∧ x.block < hi

theorem rOwn_of {w : World} {lo : Nat} {a : Option Addr} {n cap : Nat} {rs : List RowV} (h : OwnRows w lo a n cap rs) (ht : ptotal (plain rs) ≤ 1048576) : ROwn w lo w.heap.size (.slice a n cap) (plain rs) :=
  ⟨a, n, cap, rs, rfl, h, rfl, by rw [total_plain h.vlen]; exact ht, own_block h.outer, fun r hr x hx => own_block (h.inner r hr) x hx⟩
theorem rIs_below {w w' : World} {v : Value} {xs : List (Int × List (Bool × Int))} (h : RIs w v xs) (hb : Below w.heap.size w w') : RIs w' v xs := by
  obtain ⟨a, n, cap, rs, rfl, hr, e, ht⟩ := h
  exact ⟨a, n, cap, rs, rfl, hr.below hb, e, ht⟩
theorem rOwn_is {w : World} {lo hi : Nat} {v : Value} {xs : List (Int × List (Bool × Int))} (h : ROwn w lo hi v xs) : RIs w v xs := by
  obtain ⟨a, n, cap, rs, rfl, ho, e, ht, _, _⟩ := h
  exact ⟨a, n, cap, rs, rfl, ho.isRows, e, ht⟩
theorem ownRows_keeps {w w' : World} {lo hi lo' hi' : Nat} {a : Option Addr} {n cap : Nat} {rs : List RowV} (h : OwnRows w lo a n cap rs) (hb : ∀ x, a = some x → lo ≤ x.block ∧ x.block < hi) (hr : ∀ r ∈ rs, ∀ x, r.a = some x → lo ≤ x.block ∧ x.block < hi) (t : Keeps lo' hi' w w') (hd : hi ≤ lo' ∨ hi' ≤ lo) : OwnRows w' lo a n cap rs :=
  ⟨own_keeps h.outer hb t hd, fun r hr' => own_keeps (h.inner r hr') (hr r hr') t hd, h.wf, h.apart, h.apart0⟩
theorem rOwn_keeps {w w' : World} {lo hi lo' hi' : Nat} {v : Value} {xs : List (Int × List (Bool × Int))} (h : ROwn w lo hi v xs) (t : Keeps lo' hi' w w') (hd : hi ≤ lo' ∨ hi' ≤ lo) : ROwn w' lo hi v xs := by
  obtain ⟨a, n, cap, rs, rfl, ho, e, ht, hb, hr⟩ := h
  exact ⟨a, n, cap, rs, rfl, ownRows_keeps ho hb hr t hd, e, ht, hb, hr⟩
theorem rMarked_keeps {w w' : World} {lo hi lo' hi' : Nat} {v : Value} {k nx : Int} (h : RMarked w lo hi v k nx) (t : Keeps lo' hi' w w') (hd : hi ≤ lo' ∨ hi' ≤ lo) : RMarked w' lo hi v k nx := by
  obtain ⟨a, n, cap, rs, rfl, ho, ht, e, h0, h1, hb, hr⟩ := h
  exact ⟨a, n, cap, rs, rfl, ownRows_keeps ho hb hr t hd, ht, e, h0, h1, hb, hr⟩
theorem rOwn_below {w w' : World} {lo hi : Nat} {v : Value} {xs : List (Int × List (Bool × Int))} (h : ROwn w lo hi v xs) (hb : Below w.heap.size w w') : ROwn w' lo hi v xs := rOwn_keeps (lo' := hi) (hi' := hi) h (Keeps.of_below hb) (Or.inl (Nat.le_refl _))
theorem rMarked_below {w w' : World} {lo hi : Nat} {v : Value} {k nx : Int} (h : RMarked w lo hi v k nx) (hb : Below w.heap.size w w') : RMarked w' lo hi v k nx := rMarked_keeps (lo' := hi) (hi' := hi) h (Keeps.of_below hb) (Or.inl (Nat.le_refl _))

theorem r_to (v : Value) (xs : List (Int × List (Bool × Int))) (w : World) (h : RIs w v xs) : Calls Try.prog 33 #[v] w fun e w' => ∃ u, e = .returned u ∧ ROwn w' w.heap.size w'.heap.size u xs ∧ Below w.heap.size w w' := by
  obtain ⟨a, n, cap, rs, rfl, hr, rfl, ht⟩ := h
  have hs := small_rows ht
  have hl : ∀ r ∈ rs, r.vs.length = r.n := fun r h => (hr.rows r h).2.len
  refine (Rws.toRowS a n cap rs w hr (by rw [← hr.len]; exact hs.1) hs.2).mono ?_
  rintro e w' ⟨rs', rfl, ho, hp, hb⟩
  refine ⟨_, rfl, ?_, hb⟩
  rw [← hp]
  exact rOwn_of ho (by rw [hp, ← total_plain hl]; exact ht)

theorem r_eq (u v : Value) (xs ys : List (Int × List (Bool × Int))) (w : World) (h1 : RIs w u xs) (h2 : RIs w v ys) : Calls Try.prog 34 #[u, v] w fun e w' => e = .returned (.bool (decide (xs = ys))) ∧ Below w.heap.size w w' := by
  obtain ⟨a, n, cap, rs, rfl, hr, rfl, ht⟩ := h1
  obtain ⟨b, m, cb, qs, rfl, hq, rfl, ht2⟩ := h2
  exact Rws.eqRowS a b n m cap cb rs qs w hr hq (by rw [← hr.len]; exact (small_rows ht).1) (by rw [← hq.len]; exact (small_rows ht2).1) (small_rows ht).2 (small_rows ht2).2

theorem rmarks_mem {k : Int} {rs : List RowV} {r : RowV} (h : r ∈ rmarks k rs) : ∃ s ∈ rs, s.a = r.a := by
  induction rs generalizing k with
  | nil => cases h
  | cons q rs ih =>
    rcases List.mem_cons.1 h with rfl | h
    · exact ⟨q, by simp, rfl⟩
    · obtain ⟨s, hs, e⟩ := ih h
      exact ⟨s, by simp [hs], e⟩

theorem r_mark (v : Value) (xs : List (Int × List (Bool × Int))) (lo hi : Nat) (k : Int) (w : World) (h : ROwn w lo hi v xs) (hk0 : 0 ≤ k) (hk1 : k ≤ 50000000) :
    Calls Try.prog 36 #[v, .int .i64 k] w fun e w' => ∃ nx, e = .returned (.int .i64 nx) ∧ 0 ≤ nx ∧ nx ≤ k + 8000000 ∧ RMarked w' lo hi v k nx ∧ Keeps lo hi w w' := by
  obtain ⟨a, n, cap, rs, rfl, ho, rfl, ht, hb, hr⟩ := h
  have hs := small_rows ht
  refine (Rws.markRowS a n cap rs k lo w ho (by rw [← ho.len]; exact hs.1) hs.2 hk0 (by omega)).mono ?_
  rintro e w' ⟨rfl, ho', hk⟩
  have hn : 0 ≤ rnext k rs ∧ rnext k rs ≤ k + 8000000 := by
    have h1 := sumN_nonneg rs
    unfold rnext
    unfold total at ht
    omega
  refine ⟨_, rfl, hn.1, hn.2, ⟨a, n, cap, rs, rfl, ho', ht, rfl, hk0, hk1, hb, fun r h' x hx => ?_⟩, ⟨hk.os, hk.tape, hk.output, hk.size, fun i hi' hne => hk.block i hi' (fun x hx => ?_) (fun r h' x hx => ?_)⟩⟩
  · obtain ⟨s, hs', e⟩ := rmarks_mem h'
    exact hr s hs' x (e.trans hx)
  · have := hb x hx; omega
  · have := hr r h' x hx; omega

theorem r_held (v : Value) (lo hi : Nat) (k nx : Int) (w : World) (h : RMarked w lo hi v k nx) :
    Calls Try.prog 41 #[v, .int .i64 k] w fun e w' => e = .returned (.int .i64 nx) ∧ Below w.heap.size w w' := by
  obtain ⟨a, n, cap, rs, rfl, ho, ht, rfl, h0, h1, hb, hr⟩ := h
  have hs := small_rows ht
  have hl := ho.len
  rw [rmarks_length] at hl
  exact Hld.heldRowS a n cap rs k w ho.isRows (by rw [← hl]; exact hs.1) hs.2 h0 (by omega)

/-! A row by value. -/
def WIs (w : World) (a : Option Addr) (n c : Nat) (x : Int × List (Bool × Int)) : Prop := IsVals w a n c x.2 ∧ n ≤ 1048576
def WOwn (w : World) (lo hi : Nat) (a : Option Addr) (n c : Nat) (x : Int × List (Bool × Int)) : Prop := w.ownsRow lo 45 2 (.slice a n c) n (vcells x.2) ∧ (∀ v ∈ x.2, (Lit.int .i64 v.2).wf = true) ∧ n ≤ 1048576 ∧ ∀ y, a = some y → lo ≤ y.block ∧ y.block < hi
def WMarked (w : World) (lo hi : Nat) (a : Option Addr) (n c : Nat) (k nx : Int) : Prop := WOwn w lo hi a n c (0, vmarks k n) ∧ nx = k + 2 * (n : Int) ∧ 0 ≤ k ∧ k ≤ 50000000

theorem wIs_below {w w' : World} {a : Option Addr} {n c : Nat} {x : Int × List (Bool × Int)} (h : WIs w a n c x) (hb : Below w.heap.size w w') : WIs w' a n c x := ⟨h.1.below hb, h.2⟩
theorem wOwn_is {w : World} {lo hi : Nat} {a : Option Addr} {n c : Nat} {x : Int × List (Bool × Int)} (h : WOwn w lo hi a n c x) : WIs w a n c x := by
  obtain ⟨ho, hw, hn, _⟩ := h
  obtain ⟨a', c', e, hr⟩ := isVals_own ho hw
  cases e
  exact ⟨hr, hn⟩
theorem wOwn_keeps {w w' : World} {lo hi lo' hi' : Nat} {a : Option Addr} {n c : Nat} {x : Int × List (Bool × Int)} (h : WOwn w lo hi a n c x) (t : Keeps lo' hi' w w') (hd : hi ≤ lo' ∨ hi' ≤ lo) : WOwn w' lo hi a n c x :=
  ⟨own_keeps h.1 h.2.2.2 t hd, h.2.1, h.2.2.1, h.2.2.2⟩
theorem wMarked_keeps {w w' : World} {lo hi lo' hi' : Nat} {a : Option Addr} {n c : Nat} {k nx : Int} (h : WMarked w lo hi a n c k nx) (t : Keeps lo' hi' w w') (hd : hi ≤ lo' ∨ hi' ≤ lo) : WMarked w' lo hi a n c k nx :=
  ⟨wOwn_keeps h.1 t hd, h.2⟩
theorem wOwn_below {w w' : World} {lo hi : Nat} {a : Option Addr} {n c : Nat} {x : Int × List (Bool × Int)} (h : WOwn w lo hi a n c x) (hb : Below w.heap.size w w') : WOwn w' lo hi a n c x := wOwn_keeps (lo' := hi) (hi' := hi) h (Keeps.of_below hb) (Or.inl (Nat.le_refl _))
theorem wMarked_below {w w' : World} {lo hi : Nat} {a : Option Addr} {n c : Nat} {k nx : Int} (h : WMarked w lo hi a n c k nx) (hb : Below w.heap.size w w') : WMarked w' lo hi a n c k nx := wMarked_keeps (lo' := hi) (hi' := hi) h (Keeps.of_below hb) (Or.inl (Nat.le_refl _))
theorem wOwn_of {w : World} {lo : Nat} {a : Option Addr} {n c : Nat} {x : Int × List (Bool × Int)} (h : w.ownsRow lo 45 2 (.slice a n c) n (vcells x.2)) (hw : ∀ v ∈ x.2, (Lit.int .i64 v.2).wf = true) (hn : x.2.length ≤ 1048576) : WOwn w lo w.heap.size a n c x :=
  ⟨h, hw, by have := h.1; rw [vcells_length] at this; omega, own_block h⟩

theorem w_to (key : Int) (a : Option Addr) (n c : Nat) (vs : List (Bool × Int)) (w : World) (h : WIs w a n c (key, vs)) : Calls Try.prog 40 #[.agg #[.int .i64 key, .slice a n c]] w fun e w' => ∃ a' n' c', e = .returned (.agg #[.int .i64 key, .slice a' n' c']) ∧ WOwn w' w.heap.size w'.heap.size a' n' c' (key, vs) ∧ Below w.heap.size w w' := by
  refine (Rws.toRow key a n c vs w h.1 h.2).mono ?_
  rintro e w' ⟨g, rfl, _, ho, hb⟩
  exact ⟨_, _, _, rfl, wOwn_of (x := (key, vs)) ho h.1.wf (by have := h.1.len; have := h.2; simp only at *; omega), hb⟩

theorem w_eq (a b : Option Addr) (n ca m cb : Nat) (x y : Int × List (Bool × Int)) (w : World) (h1 : WIs w a n ca x) (h2 : WIs w b m cb y) : Calls Try.prog 35 #[.agg #[.int .i64 x.1, .slice a n ca], .agg #[.int .i64 y.1, .slice b m cb]] w fun e w' => e = .returned (.bool (decide (x = y))) ∧ Below w.heap.size w w' := by
  refine (Rws.eqRow x.1 y.1 a b n m ca cb x.2 y.2 w h1.1 h2.1 h1.2 h2.2).mono ?_
  rintro e w' ⟨rfl, hb⟩
  exact ⟨rfl, hb⟩

theorem w_mark (key : Int) (a : Option Addr) (n c : Nat) (x : Int × List (Bool × Int)) (lo hi : Nat) (k : Int) (w : World) (h : WOwn w lo hi a n c x) (hk0 : 0 ≤ k) (hk1 : k ≤ 50000000) :
    Calls Try.prog 37 #[.agg #[.int .i64 key, .slice a n c], .int .i64 k] w fun e w' => ∃ nx, e = .returned (.int .i64 nx) ∧ 0 ≤ nx ∧ nx ≤ k + 8000000 ∧ WMarked w' lo hi a n c k nx ∧ Keeps lo hi w w' := by
  obtain ⟨ho, hw, hn, hb⟩ := h
  refine (Rws.markRow key a n c x.2 k lo w ho hn hk0 (by omega)).mono ?_
  rintro e w' ⟨rfl, ho', ht⟩
  exact ⟨_, rfl, by omega, by omega, ⟨⟨ho', vmarks_wf k n hk0 (by omega), hn, hb⟩, rfl, hk0, hk1⟩, Keeps.of_only ht hb⟩

theorem w_held (key : Int) (a : Option Addr) (n c : Nat) (lo hi : Nat) (k nx : Int) (w : World) (h : WMarked w lo hi a n c k nx) :
    Calls Try.prog 38 #[.agg #[.int .i64 key, .slice a n c], .int .i64 k] w fun e w' => e = .returned (.int .i64 nx) ∧ Below w.heap.size w w' := by
  obtain ⟨⟨ho, hw, hn, hb⟩, rfl, hk0, hk1⟩ := h
  obtain ⟨a', c', e, hr⟩ := isVals_own ho hw
  cases e
  exact Rws.heldRow key _ _ _ k w hr hn hk0 (by omega)


end Go.Proofs.Ytciaegdgoabipaa.Knr
