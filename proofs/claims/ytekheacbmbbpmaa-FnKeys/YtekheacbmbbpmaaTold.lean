/-
  What a function that tells a relation and a truth answers: in memory of its own.
-/
import Derived.Test.YtekheacbmbbpmaaKrl
import Derived.Test.YtekheacbmbbpmaaReq
namespace Go.Proofs.Ytekheacbmbbpmaa.Told
open Go.RowKit
open Go.Proofs.Ytekheacbmbbpmaa.Frame Go.Proofs.Ytekheacbmbbpmaa.Mem Go.Proofs.Ytekheacbmbbpmaa.Kep Go.Proofs.Ytekheacbmbbpmaa.Lls Go.Proofs.Ytekheacbmbbpmaa.Rpu Go.Proofs.Ytekheacbmbbpmaa.Krl Go.Proofs.Ytekheacbmbbpmaa.Rel

def RTold (V : Rl) (G : Bool) (w : World) (e : Ending) (w' : World) : Prop := ∃ ua un uc ta tn tc, e = .returned (.tuple #[.agg #[.slice ua un uc, .slice ta tn tc], .bool G]) ∧ QOwn w' w.heap.size w'.heap.size (.slice ua un uc) (.slice ta tn tc) V ∧ Below w.heap.size w w'

theorem own_none (w : World) (lo hi : Nat) : QOwn w lo hi (.slice none 0 0) (.slice none 0 0) ([], []) := by
  have hx : ∀ (p : Addr → Prop) (x : Addr), (none : Option Addr) = some x → p x := fun p x h => absurd h (by simp)
  have h1 : IOwn w lo hi (.slice none 0 0) [] := ⟨none, 0, 0, rfl, World.ownsRow_nil _ _ _ _, by simp, by omega, hx _⟩
  have h2 : LOwnR w lo hi (.slice none 0 0) [] := ⟨none, 0, 0, rfl, ⟨World.ownsRow_nil _ _ _ _, by simp, by simp, by simp, by simp⟩, by simp [totalL, sumL], hx _, by simp⟩
  exact ⟨[], h1, h2, rfl, fun x y h _ => absurd h (by simp [addrOf]), by simp⟩

theorem perm_far {xs qs : List LV} (h : qs.Perm xs) (hx : xs.Pairwise fun r s => Far r.a s.a) : qs.Pairwise fun r s => Far r.a s.a :=
  (h.pairwise_iff (fun {_ _} hh => Far.symm hh)).2 hx
theorem sum_same {m : Nat} {rs : List LV} (h : ∀ r ∈ rs, r.n = m) : sumL rs = (rs.length : Int) * (m : Int) := by
  induction rs with
  | nil => simp [sumL]
  | cons r rs ih =>
    have e := ih (fun s hs => h s (by simp [hs]))
    have e0 := h r (by simp)
    simp only [sumL, List.map_cons, List.sum_cons, List.length_cons] at *
    rw [e, e0]
    rw [show ((rs.length + 1 : Nat) : Int) = (rs.length : Int) + 1 by omega, Int.add_mul]
    omega
theorem total_same {m n : Nat} {rs : List LV} (h : ∀ r ∈ rs, r.n = m) (hl : rs.length ≤ n) (hn : n * (m + 1) ≤ 1048576) : totalL rs ≤ 1048576 := by
  unfold totalL
  rw [sum_same h]
  have h1 : rs.length * (m + 1) ≤ n * (m + 1) := Nat.mul_le_mul_right _ hl
  have h2 : rs.length * (m + 1) = rs.length * m + rs.length := by rw [Nat.mul_add, Nat.mul_one]
  have h3 : ((rs.length * m : Nat) : Int) = (rs.length : Int) * (m : Int) := by simp
  omega

theorem tellV_yes {ns : List Int} {ts : Rel.Ll} (h : goodR ns (tellL ts) = true) : tellV ns ts = (ns, tellL ts) ∧ tellG ns ts = true := by
  unfold tellV tellG
  rw [if_pos h]
  exact ⟨rfl, h⟩
theorem tellV_no {ns : List Int} {ts : Rel.Ll} (h : goodR ns (tellL ts) = false) : tellV ns ts = ([], []) ∧ tellG ns ts = false := by
  unfold tellV tellG
  rw [if_neg (by rw [h]; exact Bool.false_ne_true)]
  exact ⟨rfl, h⟩

/-- A tuple of the call's own. -/
def OwnR (w : World) (base : Nat) (x : LV) : Prop := w.ownsRow base 3 1 (.slice x.a x.n x.c) x.n (ints .i64 x.zs) ∧ ∀ z ∈ x.zs, (Lit.int .i64 z).wf = true
theorem ownR_below {w w' : World} {base : Nat} {x : LV} (h : OwnR w base x) (hb : Below w.heap.size w w') : OwnR w' base x := ⟨own_below h.1 hb, h.2⟩
theorem ownR_is {w : World} {base : Nat} {x : LV} (h : OwnR w base x) : IsRow .i64 w x.a x.n x.c x.zs := by
  obtain ⟨a, c, e, hr⟩ := isRow_own h.1 h.2
  cases e
  exact hr
theorem told_cells {w w8 : World} {b : Nat} (h : w.cell? ⟨b, 0, none⟩ = some (.slice none 0 0) ∧ w.cell? ⟨b, 1, none⟩ = some (.slice none 0 0) ∧ w.frozen? ⟨b, 0, none⟩ = false ∧ w.frozen? ⟨b, 1, none⟩ = false ∧ b + 1 ≤ w.heap.size) (hb : Below w.heap.size w w8) : w8.cell? ⟨b, 0, none⟩ = some (.slice none 0 0) ∧ w8.cell? ⟨b, 1, none⟩ = some (.slice none 0 0) ∧ w8.frozen? ⟨b, 0, none⟩ = false ∧ w8.frozen? ⟨b, 1, none⟩ = false ∧ b + 1 ≤ w8.heap.size := by
  have bc := Frame.bcell hb
  obtain ⟨c0, c1, f0, f1, hs⟩ := h
  exact ⟨by rw [bc.1 _ _ (by omega)]; exact c0, by rw [bc.1 _ _ (by omega)]; exact c1, by rw [bc.2.1 _ _ (by omega)]; exact f0, by rw [bc.2.1 _ _ (by omega)]; exact f1, by omega⟩
theorem told_end {w w8 : World} {b s pn pc sn sc : Nat} {pa sa : Option Addr} {V : Rl} {G : Bool} {v0 v1 : Value} (hb : w.heap.size ≤ b) (hs : w.heap.size ≤ s) (hbs : b + 1 ≤ s) (hq : QOwn w8 s w8.heap.size (.slice pa pn pc) (.slice sa sn sc) V) (hB : Below w.heap.size w w8) :
    RTold V G w (.returned (.tuple #[.agg #[.slice pa pn pc, .slice sa sn sc], .bool G])) ((w8.setCell ⟨b, 0, none⟩ v0).setCell ⟨b, 1, none⟩ v1) :=
  ⟨_, _, _, _, _, _, rfl, qOwn_wide (qOwn_set (qOwn_set hq _ _ (by omega)) _ _ (by omega)) hs (by simp), (hB.setCell hb _).setCell hb _⟩


end Go.Proofs.Ytekheacbmbbpmaa.Told
