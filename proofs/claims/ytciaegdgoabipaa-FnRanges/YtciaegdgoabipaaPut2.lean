/-
  What chapter 2's ranges and columns say; an append under a guard.
-/
import Derived.Test.YtciaegdgoabipaaRwl
import Derived.Test.YtciaegdgoabipaaApp
import Derived.Test.YtciaegdgoabipaaSpt
namespace Go.Proofs.Ytciaegdgoabipaa.Put2
open Go.RowKit
open Go.Proofs.Ytciaegdgoabipaa.Frame Go.Proofs.Ytciaegdgoabipaa.Mem Go.Proofs.Ytciaegdgoabipaa.Vals Go.Proofs.Ytciaegdgoabipaa.Rws Go.Proofs.Ytciaegdgoabipaa.Val Go.Proofs.Ytciaegdgoabipaa.Tab Go.Proofs.Ytciaegdgoabipaa.Gtab Go.Proofs.Ytciaegdgoabipaa.Drp Go.Proofs.Ytciaegdgoabipaa.Tel Go.Proofs.Ytciaegdgoabipaa.Find Go.Proofs.Ytciaegdgoabipaa.Shf Go.Proofs.Ytciaegdgoabipaa.Shl Go.Proofs.Ytciaegdgoabipaa.Pur Go.Proofs.Ytciaegdgoabipaa.Itb Go.Proofs.Ytciaegdgoabipaa.Itc Go.Proofs.Ytciaegdgoabipaa.Itd Go.Proofs.Ytciaegdgoabipaa.Kep Go.Proofs.Ytciaegdgoabipaa.Knr Go.Proofs.Ytciaegdgoabipaa.Tfn

/-- An operation whose guard lets it run is run as one that has none. -/
theorem unguard {P : Program} {ops : Array Oper} {Q : Exit → Act → World → Prop} {a : Act} {w : World} {rest : List Oper} {o : Oper} (hw : Region.wanted o (yielded ops a.tmps) = true) (h : wpList P ops Q ({o with guard := none} :: rest) a w) : wpList P ops Q (o :: rest) a w := by
  have h1 : Region.wanted {o with guard := none} (yielded ops a.tmps) = true := by simp [Region.wanted]
  unfold wpList at h ⊢
  rw [if_pos h1] at h
  rw [if_pos hw]
  exact h

theorem filter_two {xs : Tb} (lo mid hi : Int) (h1 : lo ≤ mid) (h2 : mid ≤ hi) (hs : xs.Pairwise fun x y => x.1 < y.1) : (xs.filter fun x => inB x.1 lo mid) ++ (xs.filter fun x => inB x.1 (mid + 1) hi) = xs.filter fun x => inB x.1 lo hi := by
  induction xs with
  | nil => rfl
  | cons x xs ih =>
    rw [List.pairwise_cons] at hs
    have ih' := ih hs.2
    simp only [List.filter_cons]
    by_cases c1 : inB x.1 lo mid = true
    · have c2 : inB x.1 (mid + 1) hi = false := by unfold inB at *; simp at *; omega
      have c3 : inB x.1 lo hi = true := by unfold inB at *; simp at *; omega
      rw [if_pos c1, if_neg (by simp [c2]), if_pos c3, ← ih']
      rfl
    · by_cases c2 : inB x.1 (mid + 1) hi = true
      · have c3 : inB x.1 lo hi = true := by unfold inB at *; simp at *; omega
        have c4 : (xs.filter fun x => inB x.1 lo mid) = [] := by
          rw [List.filter_eq_nil_iff]
          intro y hy
          have := hs.1 y hy
          unfold inB at *
          simp at *
          omega
        rw [if_neg c1, if_pos c2, if_pos c3, ← ih', c4]
        rfl
      · have c3 : ¬ inB x.1 lo hi = true := by unfold inB at *; simp at *; omega
        rw [if_neg c1, if_neg c2, if_neg c3]
        exact ih'

theorem range_two {xs : Tb} (lo mid hi : Int) (h1 : lo ≤ mid) (h2 : mid ≤ hi) (hg : pGood xs = true) : pRangeV lo mid xs ++ pRangeV (mid + 1) hi xs = pRangeV lo hi xs := by
  unfold pRangeV rangeV
  unfold pGood at hg
  rw [if_pos hg, if_pos hg, if_pos hg, plain_rangeK, plain_rangeK, plain_rangeK, plain_lift]
  refine filter_two lo mid hi h1 h2 ?_
  have h3 := (goodT_rising hg).1
  unfold Rising lift at h3
  rw [List.pairwise_map] at h3
  exact h3

theorem set_at {key col : Int} {x : Bool × Int} {rs qs : List RowV} (hB : pSetB key col x (plain rs) = true) (h : plain qs = pSetV key col x (plain rs)) :
    qs.length = rs.length ∧ 0 ≤ col ∧ col ≤ 2 ∧ ∀ i, i < rs.length → (qs.getD i rd).key = (rs.getD i rd).key ∧ (qs.getD i rd).vs = (if (rs.getD i rd).key = key then (rs.getD i rd).vs.set col.toNat x else (rs.getD i rd).vs) := by
  have hB' : setB key col x (lift (plain rs)) = true := hB
  unfold pSetV setV at h
  rw [if_pos hB'] at h
  unfold setB at hB'
  simp only [Bool.and_eq_true] at hB'
  have hc := hB'.2.1
  unfold inB at hc
  simp at hc
  have hl : qs.length = rs.length := by have := congrArg List.length h; simpa [plain, setK, lift] using this
  refine ⟨hl, by omega, by omega, fun i hi => ?_⟩
  have h1 := plain_getD qs i
  rw [h] at h1
  have h2 : (plain (setK key col.toNat x (lift (plain rs)))).getD i (0, []) = ((rs.getD i rd).key, if (rs.getD i rd).key = key then (rs.getD i rd).vs.set col.toNat x else (rs.getD i rd).vs) := by
    simp [plain, setK, lift, setR, List.getD_eq_getElem?_getD, List.getElem?_eq_getElem hi]
  rw [h2] at h1
  exact ⟨(congrArg Prod.fst h1).symm, (congrArg Prod.snd h1).symm⟩

theorem set_cells {key col k : Int} {x : Bool × Int} {ys zs : List (Bool × Int)} (h0 : 0 ≤ col) (h : zs = (if k = key then ys.set col.toNat x else ys)) :
    zs.length = ys.length ∧ ∀ c : Nat, c < zs.length → (k = key → (c : Int) = col → zs.getD c vd = x) ∧ (¬ (k = key ∧ (c : Int) = col) → zs.getD c vd = ys.getD c vd) := by
  subst h
  split
  · rename_i hk
    refine ⟨by simp, fun c hc => ⟨fun _ e => ?_, fun e => ?_⟩⟩
    · have : col.toNat = c := by omega
      rw [this]
      simp at hc
      simp [List.getD_eq_getElem?_getD, hc]
    · have : col.toNat ≠ c := fun h => e ⟨hk, by omega⟩
      simp [List.getD_eq_getElem?_getD, this]
  · rename_i hk
    exact ⟨rfl, fun c _ => ⟨fun h => absurd h hk, fun _ => rfl⟩⟩

theorem impl_Range (v : Value) (xs : Tb) (p q : Int) (g : Bool) (w : World) (h : RIs w v xs) (hg : pGood xs = g) : Calls Try.prog 22 #[v, .int .i64 p, .int .i64 q] w (Rwl.TabB (pRangeV p q xs) g w) :=
  (impl_RangeOf v xs p q w h).mono fun _ _ h => Rwl.tabB h hg

theorem spec_Range (v : Value) (xs : Tb) (p q : Int) (g : Bool) (w : World) (h : RIs w v xs) (hg : pGood xs = g) : Calls Try.prog 23 #[v, .int .i64 p, .int .i64 q] w (Rwl.TabB (pRangeV p q xs) g w) :=
  (spec_RangeOf v xs p q w h).mono fun _ _ h => Rwl.tabB h hg

theorem impl_Set (v : Value) (xs : Tb) (key col : Int) (vb : Bool) (vn : Int) (g : Bool) (w : World) (h : RIs w v xs) (hk : (Lit.int .i64 key).wf = true) (hx : (Lit.int .i64 vn).wf = true) (hg : pSetB key col (vb, vn) xs = g) : Calls Try.prog 26 #[v, .int .i64 key, .int .i64 col, .agg #[.bool vb, .int .i64 vn]] w (Rwl.TabB (pSetV key col (vb, vn) xs) g w) :=
  (impl_SetColumn v xs key col vb vn w h hk hx).mono fun _ _ h => Rwl.tabB h hg

theorem spec_Set (v : Value) (xs : Tb) (key col : Int) (vb : Bool) (vn : Int) (g : Bool) (w : World) (h : RIs w v xs) (hk : (Lit.int .i64 key).wf = true) (hx : (Lit.int .i64 vn).wf = true) (hg : pSetB key col (vb, vn) xs = g) : Calls Try.prog 27 #[v, .int .i64 key, .int .i64 col, .agg #[.bool vb, .int .i64 vn]] w (Rwl.TabB (pSetV key col (vb, vn) xs) g w) :=
  (spec_SetColumn v xs key col vb vn w h hk hx).mono fun _ _ h => Rwl.tabB h hg

/-- A list of numbers beside a truth. -/
def IntB (zs : List Int) (g : Bool) (w : World) (e : Ending) (w' : World) : Prop := ∃ u, e = .returned (.tuple #[u, .bool g]) ∧ IIs w' u zs ∧ Below w.heap.size w w'

theorem intB {zs : List Int} {g g' : Bool} {w w' : World} {e : Ending} (h : ∃ u, e = .returned (.tuple #[u, .bool g]) ∧ IOwn w' w.heap.size w'.heap.size u zs ∧ Below w.heap.size w w') (hg : g = g') : IntB zs g' w e w' := by
  obtain ⟨u, rfl, ho, hb⟩ := h
  subst hg
  exact ⟨u, rfl, iOwn_is ho, hb⟩

theorem impl_Keys (v : Value) (xs : Tb) (g : Bool) (w : World) (h : RIs w v xs) (hg : pGood xs = g) : Calls Try.prog 29 #[v] w (IntB (pKeysV xs) g w) :=
  (impl_KeysOf v xs w h).mono fun _ _ h => intB h hg

theorem spec_Keys (v : Value) (xs : Tb) (g : Bool) (w : World) (h : RIs w v xs) (hg : pGood xs = g) : Calls Try.prog 30 #[v] w (IntB (pKeysV xs) g w) :=
  (spec_KeysOf v xs w h).mono fun _ _ h => intB h hg

theorem same_ints (u v : Value) (zs : List Int) (w : World) (h1 : IIs w u zs) (h2 : IIs w v zs) : Calls Try.prog 31 #[u, v] w fun e w' => e = .returned (.bool true) ∧ Below w.heap.size w w' := by
  obtain ⟨a, n, ca, rfl, ha, hn⟩ := h1
  obtain ⟨b, m, cb, rfl, hb, hm⟩ := h2
  have h := Ints.sameInts a b n m ca cb zs zs w ha hb hn hm
  rw [decide_eq_true rfl] at h
  exact h

theorem joined {W w' : World} {a b a' : Option Addr} {n m ca cb k c' base : Nat} {rs qs : List RowV} (hA : IsRows W a n ca rs) (hB : IsRows W b m cb qs) (hw : Below W.heap.size W w') (ho : w'.ownsRow base 26 2 (.slice a' k c') k (rcells rs ++ rcells qs)) (ht : ptotal (plain rs ++ plain qs) ≤ 1048576) : RIs w' (.slice a' k c') (plain rs ++ plain qs) := by
  have hA' := hA.below hw
  have hB' := hB.below hw
  rw [← rcells_append] at ho
  have hr : ∀ r ∈ rs ++ qs, (Lit.int .i64 r.key).wf = true ∧ IsVals w' r.a r.n r.c r.vs := fun r hr => by
    rcases List.mem_append.1 hr with h | h
    · exact hA'.rows r h
    · exact hB'.rows r h
  have hI := isRows_outer ho hr
  refine ⟨a', k, c', rs ++ qs, rfl, hI, by simp [plain], ?_⟩
  rw [total_plain (fun r h => (hI.rows r h).2.len)]
  simpa [plain] using ht

theorem rows_ad {w : World} {a : Option Addr} {n cap : Nat} {rs : List RowV} (h : IsRows w a n cap rs) : 0 < n → ∃ ad, a = some ad ∧ ∀ j u, (rcells rs)[j]? = some u → w.cell? (ad.add j) = some u := fun h0 => by
  obtain ⟨b, off, rfl, _, _⟩ := h.cells h0
  exact ⟨_, rfl, Spt.rows_news h h0⟩

/-- What a value's box holds. -/
def VBox (w : World) (b : Nat) (vb : Bool) (vn : Int) : Prop := w.cell? ⟨b, 0, none⟩ = some (.bool vb) ∧ w.cell? ⟨b, 1, none⟩ = some (.int .i64 vn)
theorem VBox.below {w w' : World} {b : Nat} {vb : Bool} {vn : Int} (h : VBox w b vb vn) (hb : Below w.heap.size w w') : VBox w' b vb vn :=
  ⟨(hb.cell (p := ⟨b, 0, none⟩) (Frame.cell_lt h.1)).trans h.1, (hb.cell (p := ⟨b, 1, none⟩) (Frame.cell_lt h.2)).trans h.2⟩
theorem VBox.new (w : World) (vb : Bool) (vn : Int) (t : TypeId) : VBox (w.alloc (.cells #[.bool vb, .int .i64 vn] t)) w.heap.size vb vn := by
  refine ⟨?_, ?_⟩ <;> rw [World.cell?_alloc_at _ _ _ _ rfl] <;> rfl


end Go.Proofs.Ytciaegdgoabipaa.Put2
