/-
  Contracts of the model's l2Put and PutRow.
-/
import Derived.Test.YtciaegdgoabipabItd
import Derived.Test.YtciaegdgoabipabApp
namespace Go.Proofs.Ytciaegdgoabipab.Spt
open Go.RowKit
open Go.Proofs.Ytciaegdgoabipab.Frame Go.Proofs.Ytciaegdgoabipab.Mem Go.Proofs.Ytciaegdgoabipab.Vals Go.Proofs.Ytciaegdgoabipab.Rws Go.Proofs.Ytciaegdgoabipab.Val Go.Proofs.Ytciaegdgoabipab.Tab Go.Proofs.Ytciaegdgoabipab.Reg Go.Proofs.Ytciaegdgoabipab.Gtab Go.Proofs.Ytciaegdgoabipab.Cpy Go.Proofs.Ytciaegdgoabipab.Own Go.Proofs.Ytciaegdgoabipab.Drp Go.Proofs.Ytciaegdgoabipab.Tel Go.Proofs.Ytciaegdgoabipab.Find Go.Proofs.Ytciaegdgoabipab.Shf Go.Proofs.Ytciaegdgoabipab.Icp Go.Proofs.Ytciaegdgoabipab.Shl Go.Proofs.Ytciaegdgoabipab.Pur Go.Proofs.Ytciaegdgoabipab.Itb

theorem ins_cut {r : RowV} {ds : List RowV} (k : Nat) (h1 : ∀ q ∈ ds.take k, q.key < r.key) (h2 : k < ds.length → r.key < (ds.getD k rd).key) : insR r ds = ds.take k ++ r :: ds.drop k := by
  induction ds generalizing k with
  | nil => simp [insR]
  | cons q ds ih =>
    cases k with
    | zero =>
      have := h2 (by simp)
      simp only [List.getD_cons_zero] at this
      rw [insR, if_pos this]
      rfl
    | succ k =>
      have h0 := h1 q (by simp)
      rw [insR, if_neg (by omega), ih k (fun s hs => h1 s (by simp [hs])) (fun hk => by have := h2 (by simpa using hk); simpa using this)]
      rfl

theorem rcells_one (rs : List RowV) : ∀ u ∈ rcells rs, u.oneCell' = true := by
  intro u hu
  unfold rcells at hu
  rcases List.mem_flatMap.1 hu with ⟨r, _, h⟩
  simp only [rcell, List.mem_cons, List.not_mem_nil, or_false] at h
  rcases h with rfl | rfl <;> rfl

theorem rows_news {w : World} {b off n cap : Nat} {rs : List RowV} (h : IsRows w (some ⟨b, off, none⟩) n cap rs) (hn : 0 < n) : ∀ j u, (rcells rs)[j]? = some u → w.cell? ((⟨b, off, none⟩ : Addr).add j) = some u := by
  intro j u hu
  obtain ⟨b', off', he, _, hc⟩ := h.cells hn
  cases he
  have hl : j < rs.length * 2 := by
    by_cases hx : j < rs.length * 2
    · exact hx
    · rw [List.getElem?_eq_none (by rw [rcells_length]; omega)] at hu; cases hu
  have hadd : (⟨b, off, none⟩ : Addr).add j = ⟨b, off + j, none⟩ := by unfold Addr.add; split <;> simp_all
  rw [hadd]
  have hi : j / 2 < rs.length := by omega
  have g := rcells_get rs (j / 2) hi
  have c := hc (j / 2) (by rw [← h.len]; exact hi)
  rcases Nat.mod_two_eq_zero_or_one j with h0 | h0
  · rw [show j / 2 * 2 = j by omega] at g c
    rw [g.1] at hu
    rw [c.1]; exact hu
  · rw [show j / 2 * 2 + 1 = j by omega] at g
    rw [show off + j / 2 * 2 + 1 = off + j by omega] at c
    rw [g.2] at hu
    rw [c.2]; exact hu

theorem rcells_split (ds : List RowV) (k : Nat) : rcells ds = rcells (ds.take k) ++ rcells (ds.drop k) := by rw [← rcells_append, List.take_append_drop]

theorem rcells_take_get {ds : List RowV} {k j : Nat} {u : Value} (h : (rcells (ds.take k))[j]? = some u) : (rcells ds)[j]? = some u := by
  rw [rcells_split ds k, List.getElem?_append_left]
  · exact h
  · by_cases hx : j < (rcells (ds.take k)).length
    · exact hx
    · rw [List.getElem?_eq_none (by omega)] at h; cases h

theorem rows_drop_news {w w' : World} {b off l k : Nat} {ds : List RowV} (hl : ds.length = l) (hk : k ≤ l) (hb : b < w.heap.size) (h : ∀ i u, (rcells ds)[i]? = some u → w.cell? ((⟨b, off, none⟩ : Addr).add i) = some u) (hw : Below w.heap.size w w') :
    ∀ i u, (rcells (ds.drop k))[i]? = some u → w'.cell? ((⟨b, off + k * 2, none⟩ : Addr).add i) = some u := by
  intro i u hu
  have hadd : ∀ o i, (⟨b, o, none⟩ : Addr).add i = ⟨b, o + i, none⟩ := fun o i => by unfold Addr.add; split <;> simp_all
  have h1 := h (k * 2 + i) u (by
    rw [rcells_split ds k, List.getElem?_append_right (by rw [rcells_length, List.length_take]; omega), rcells_length, List.length_take]
    rw [show k * 2 + i - min k ds.length * 2 = i by omega]
    exact hu)
  rw [hadd] at h1 ⊢
  rw [hw.cell (p := ⟨b, off + k * 2 + i, none⟩) hb, Nat.add_assoc]
  exact h1

theorem put_end {w w1 w3 w4 : World} {a3 a4 : Option Addr} {c3 c4 k m : Nat} {rs ds : List RowV} {key : Int} {ra : Option Addr} {rn rc : Nat} {vs : List (Bool × Int)}
    (hp : putK ⟨key, ra, rn, rc, vs⟩ rs = insR ⟨key, ra, rn, rc, vs⟩ ds) (hf : insR ⟨key, ra, rn, rc, vs⟩ ds = ds.take k ++ ⟨key, ra, rn, rc, vs⟩ :: ds.drop k)
    (hrows : ∀ q ∈ ds, (Lit.int .i64 q.key).wf = true ∧ IsVals w1 q.a q.n q.c q.vs) (hw : (Lit.int .i64 key).wf = true) (hr : IsVals w ra rn rc vs) (hb1 : Below w.heap.size w w1) (hb3 : Below w1.heap.size w1 w3)
    (ho3 : w3.ownsRow w1.heap.size 50 2 (.slice a3 (k + 1) c3) (k + 1) (rcells (ds.take k) ++ rcells [⟨key, ra, rn, rc, vs⟩]))
    (ho4 : w4.ownsRow w1.heap.size 50 2 (.slice a4 (k + 1 + m) c4) (k + 1 + m) (rcells (ds.take k) ++ (rcells [⟨key, ra, rn, rc, vs⟩] ++ rcells (ds.drop k)))) (hg : w3.grownBy w4 (Value.slice a3 (k + 1) c3).ownBlock) :
    IsRows w4 a4 (k + 1 + m) c4 (putK ⟨key, ra, rn, rc, vs⟩ rs) ∧ Below w.heap.size w w4 := by
  have hb4 : Below w1.heap.size w1 w4 := below_append hb3 ho3 hg hb3.size
  have hbw : Below w.heap.size w w4 := Frame.next hb1 hb4 hb1.size
  refine ⟨?_, hbw⟩
  rw [hp, hf]
  refine isRows_outer (base := w1.heap.size) ?_ (fun q hq => ?_)
  · rw [show ds.take k ++ (⟨key, ra, rn, rc, vs⟩ : RowV) :: ds.drop k = ds.take k ++ [⟨key, ra, rn, rc, vs⟩] ++ ds.drop k by simp, rcells_append, rcells_append, List.append_assoc]
    exact ho4
  · rcases List.mem_append.1 hq with h | h
    · exact ⟨(hrows q (List.mem_of_mem_take h)).1, (hrows q (List.mem_of_mem_take h)).2.below hb4⟩
    · rcases List.mem_cons.1 h with rfl | h
      · exact ⟨hw, hr.below hbw⟩
      · exact ⟨(hrows q (List.mem_of_mem_drop h)).1, (hrows q (List.mem_of_mem_drop h)).2.below hb4⟩


end Go.Proofs.Ytciaegdgoabipab.Spt
