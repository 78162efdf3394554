/-
  Contracts of the program's and the model's functions on tables, over what the lists read as.
-/
import Derived.Test.YtciaegdgoabipaaKnr
import Derived.Test.YtciaegdgoabipaaStc
namespace Go.Proofs.Ytciaegdgoabipaa.Tfn
open Go.RowKit
open Go.Proofs.Ytciaegdgoabipaa.Frame Go.Proofs.Ytciaegdgoabipaa.Mem Go.Proofs.Ytciaegdgoabipaa.Vals Go.Proofs.Ytciaegdgoabipaa.Rws Go.Proofs.Ytciaegdgoabipaa.Val Go.Proofs.Ytciaegdgoabipaa.Tab Go.Proofs.Ytciaegdgoabipaa.Gtab Go.Proofs.Ytciaegdgoabipaa.Drp Go.Proofs.Ytciaegdgoabipaa.Tel Go.Proofs.Ytciaegdgoabipaa.Find Go.Proofs.Ytciaegdgoabipaa.Shf Go.Proofs.Ytciaegdgoabipaa.Shl Go.Proofs.Ytciaegdgoabipaa.Pur Go.Proofs.Ytciaegdgoabipaa.Itb Go.Proofs.Ytciaegdgoabipaa.Itc Go.Proofs.Ytciaegdgoabipaa.Itd Go.Proofs.Ytciaegdgoabipaa.Kep Go.Proofs.Ytciaegdgoabipaa.Knr

abbrev Tb := List (Int × List (Bool × Int))
def lift (xs : Tb) : List RowV := xs.map fun x => ⟨x.1, none, 0, 0, x.2⟩
theorem plain_lift (xs : Tb) : plain (lift xs) = xs := by
  unfold plain lift
  rw [List.map_map]
  exact List.map_id _

theorem find_plain {qs rs : List RowV} (h : plain qs = plain rs) (key : Int) : decide (0 ≤ find key qs) = decide (0 ≤ find key rs) := by
  rw [← any_plain rfl key, any_plain h key]
theorem hasB_plain {qs rs : List RowV} (h : plain qs = plain rs) (key : Int) : hasB key qs = hasB key rs := by unfold hasB; rw [goodT_plain h, find_plain h]
theorem foundB_plain {qs rs : List RowV} (h : plain qs = plain rs) (key : Int) : foundB key qs = foundB key rs := hasB_plain h key
theorem dropV_plain {qs rs : List RowV} (h : plain qs = plain rs) (key : Int) : dropV key qs = dropV key rs := by unfold dropV; rw [hasB_plain h, tellV_plain (dropK_plain key h)]
theorem dropB_plain {qs rs : List RowV} (h : plain qs = plain rs) (key : Int) : dropB key qs = dropB key rs := by unfold dropB; rw [hasB_plain h, goodT_plain (dropK_plain key h)]
theorem putRows_plain {qs rs : List RowV} (h : plain qs = plain rs) (key : Int) (vs : List (Bool × Int)) : plain (putRows key vs qs) = plain (putRows key vs rs) := insR_plain (dropK_plain _ h) rfl rfl
theorem putB_plain {qs rs : List RowV} (h : plain qs = plain rs) (key : Int) (vs : List (Bool × Int)) : putB key vs qs = putB key vs rs := by unfold putB; rw [goodT_plain h]
theorem putV_plain {qs rs : List RowV} (h : plain qs = plain rs) (key : Int) (vs : List (Bool × Int)) : putV key vs qs = putV key vs rs := by unfold putV; rw [putB_plain h, tellV_plain (putRows_plain h key vs)]
theorem putG_plain {qs rs : List RowV} (h : plain qs = plain rs) (key : Int) (vs : List (Bool × Int)) : putG key vs qs = putG key vs rs := by unfold putG; rw [putB_plain h, goodT_plain (putRows_plain h key vs)]
theorem rangeV_plain {qs rs : List RowV} (h : plain qs = plain rs) (lo hi : Int) : rangeV lo hi qs = rangeV lo hi rs := by unfold rangeV; rw [goodT_plain h, rangeK_plain lo hi h]
theorem setB_plain {qs rs : List RowV} (h : plain qs = plain rs) (key col : Int) (x : Bool × Int) : setB key col x qs = setB key col x rs := by unfold setB; rw [hasB_plain h]
theorem setV_plain {qs rs : List RowV} (h : plain qs = plain rs) (key col : Int) (x : Bool × Int) : setV key col x qs = setV key col x rs := by unfold setV; rw [setB_plain h, setK_plain key _ x h]
theorem keysV_plain {qs rs : List RowV} (h : plain qs = plain rs) : keysV qs = keysV rs := by unfold keysV; rw [goodT_plain h, keys_plain h]
theorem rowOut_plain {qs rs : List RowV} (h : plain qs = plain rs) (key : Int) : rowOut key qs = rowOut key rs := by
  cases hb : foundB key qs
  · rw [rowOut_no hb, rowOut_no (by rw [← foundB_plain h]; exact hb)]
  · have hb' := hb
    unfold foundB at hb
    rw [Bool.and_eq_true, decide_eq_true_eq] at hb
    rcases find_is key qs with ⟨hf, _⟩ | ⟨k, hk, hf, hg⟩
    · omega
    · have h1 := rowOut_of (rs := rs) (by rw [← goodT_plain h]; exact hb.1) h (getD_mem_rd hk)
      have h2 := rowOut_of (rs := qs) hb.1 rfl (getD_mem_rd hk)
      rw [hg] at h1 h2
      rw [h1.1, h2.1]

theorem good_small {rs : List RowV} (h : goodT rs = true) : ptotal (plain rs) ≤ 1048576 := by
  obtain ⟨_, h2, h3⟩ := goodT_rising h
  have h4 : ∀ r ∈ rs, (r.vs.length : Int) = 3 := fun r hr => by
    have := h2 r hr
    unfold rB rowB at this
    simp only [Bool.and_eq_true, decide_eq_true_eq] at this
    omega
  have h5 : ∀ l : List RowV, (∀ r ∈ l, (r.vs.length : Int) = 3) → (l.map fun r => (r.vs.length : Int)).sum = 3 * (l.length : Int) := by
    intro l
    induction l with
    | nil => intro _; rfl
    | cons q l ih =>
      intro h
      simp only [List.map_cons, List.sum_cons, List.length_cons]
      rw [ih (fun r hr => h r (by simp [hr])), h q (by simp)]
      omega
  unfold ptotal plain
  rw [List.length_map, List.map_map]
  show (rs.length : Int) + (rs.map fun r => (r.vs.length : Int)).sum ≤ _
  rw [h5 rs h4]
  omega
theorem nil_small : ptotal ([] : Tb) ≤ 1048576 := by decide
theorem tellV_small (rs : List RowV) : ptotal (tellV rs) ≤ 1048576 := by
  unfold tellV
  split
  · exact good_small ‹_›
  · exact nil_small
theorem dropV_small (key : Int) (rs : List RowV) : ptotal (dropV key rs) ≤ 1048576 := by
  unfold dropV
  split
  · exact tellV_small _
  · exact nil_small
theorem putV_small (key : Int) (vs : List (Bool × Int)) (rs : List RowV) : ptotal (putV key vs rs) ≤ 1048576 := by
  unfold putV
  split
  · exact tellV_small _
  · exact nil_small
theorem rangeV_small (lo hi : Int) (rs : List RowV) : ptotal (rangeV lo hi rs) ≤ 1048576 := by
  unfold rangeV
  split
  · exact good_small (goodT_filter _ ‹_›)
  · exact nil_small
theorem setV_small (key col : Int) (x : Bool × Int) (rs : List RowV) : ptotal (setV key col x rs) ≤ 1048576 := by
  unfold setV
  split
  · rename_i h
    unfold setB hasB at h
    simp only [Bool.and_eq_true] at h
    exact good_small (goodT_setK key _ x h.1.1 h.2.2)
  · exact nil_small
theorem keysV_small (rs : List RowV) : (keysV rs).length ≤ 1048576 := by
  unfold keysV
  split
  · rw [List.length_map]
    have := (goodT_rising ‹_›).2.2
    omega
  · simp
theorem rowOut_small (key : Int) (rs : List RowV) : (rowOut key rs).2.length ≤ 1048576 := by
  cases hb : foundB key rs
  · rw [rowOut_no hb]; simp
  · have hb' := hb
    unfold foundB at hb
    rw [Bool.and_eq_true, decide_eq_true_eq] at hb
    rcases find_is key rs with ⟨hf, _⟩ | ⟨k, hk, hf, hg⟩
    · omega
    · have h2 := rowOut_of (rs := rs) hb.1 rfl (getD_mem_rd hk)
      rw [hg] at h2
      have h3 := (goodT_rising hb.1).2.1 _ (getD_mem_rd hk)
      rw [h2.1]
      unfold rB rowB at h3
      simp only [Bool.and_eq_true, decide_eq_true_eq] at h3
      have := h3.2.2
      show (rs.getD k rd).vs.length ≤ _
      omega

theorem told_own {X : Tb} {q : Bool} {w w' : World} {e : Ending} (h : Tel.Told X q w e w') (hs : ptotal X ≤ 1048576) : ∃ u, e = .returned (.tuple #[u, .bool q]) ∧ ROwn w' w.heap.size w'.heap.size u X ∧ Below w.heap.size w w' := by
  obtain ⟨a, m, c, qs, he, rfl, ho, hb⟩ := h
  exact ⟨_, he, rOwn_of ho hs, hb⟩
theorem toldI_own {zs : List Int} {q : Bool} {w w' : World} {e : Ending} (h : ToldI zs q w e w') (hw : ∀ z ∈ zs, (Lit.int .i64 z).wf = true) (hs : zs.length ≤ 1048576) : ∃ u, e = .returned (.tuple #[u, .bool q]) ∧ IOwn w' w.heap.size w'.heap.size u zs ∧ Below w.heap.size w w' := by
  obtain ⟨a, m, c, he, ho, hb⟩ := h
  exact ⟨_, he, iOwn_of ho hw (by have := ho.1; rw [ints_length] at this; omega), hb⟩
theorem toldR_own {x : Int × List (Bool × Int)} {q : Bool} {w w' : World} {e : Ending} (h : ToldR x q w e w') (hs : x.2.length ≤ 1048576) : ∃ a n c, e = .returned (.tuple #[.agg #[.int .i64 x.1, .slice a n c], .bool q]) ∧ WOwn w' w.heap.size w'.heap.size a n c x ∧ Below w.heap.size w w' := by
  obtain ⟨a, m, c, he, ho, hw, hb⟩ := h
  exact ⟨a, m, c, he, wOwn_of ho hw hs, hb⟩

def pGood (xs : Tb) : Bool := goodT (lift xs)
def pDropV (key : Int) (xs : Tb) : Tb := dropV key (lift xs)
def pDropB (key : Int) (xs : Tb) : Bool := dropB key (lift xs)
def pRangeV (lo hi : Int) (xs : Tb) : Tb := rangeV lo hi (lift xs)
def pSetV (key col : Int) (x : Bool × Int) (xs : Tb) : Tb := setV key col x (lift xs)
def pSetB (key col : Int) (x : Bool × Int) (xs : Tb) : Bool := setB key col x (lift xs)
def pPutV (x : Int × List (Bool × Int)) (xs : Tb) : Tb := putV x.1 x.2 (lift xs)
def pPutB (x : Int × List (Bool × Int)) (xs : Tb) : Bool := putG x.1 x.2 (lift xs)
def pKeysV (xs : Tb) : List Int := keysV (lift xs)
def pRowV (key : Int) (xs : Tb) : Int × List (Bool × Int) := rowOut key (lift xs)
def pRowB (key : Int) (xs : Tb) : Bool := foundB key (lift xs)
theorem lift_to {rs : List RowV} {xs : Tb} (h : plain rs = xs) : plain (lift xs) = plain rs := by rw [plain_lift, h]

theorem spec_GoodTable (v : Value) (xs : Tb) (w : World) (h : RIs w v xs) : Calls Try.prog 14 #[v] w fun e w' => e = .returned (.bool (pGood xs)) ∧ Below w.heap.size w w' := by
  obtain ⟨a, n, cap, rs, rfl, hr, rfl, ht⟩ := h
  have hs := small_rows ht
  have hn : n ≤ 1048576 := by rw [← hr.len]; exact hs.1
  unfold pGood
  rw [goodT_plain (lift_to rfl)]
  exact Gtab.spec_GoodTable a n cap rs w hr hn hs.2

theorem spec_DropRow (v : Value) (xs : Tb) (key : Int) (w : World) (h : RIs w v xs) (_hk : (Lit.int .i64 key).wf = true) : Calls Try.prog 19 #[v, .int .i64 key] w fun e w' => ∃ u, e = .returned (.tuple #[u, .bool (pDropB key xs)]) ∧ ROwn w' w.heap.size w'.heap.size u (pDropV key xs) ∧ Below w.heap.size w w' := by
  obtain ⟨a, n, cap, rs, rfl, hr, rfl, ht⟩ := h
  have hs := small_rows ht
  have hn : n ≤ 1048576 := by rw [← hr.len]; exact hs.1
  unfold pDropV pDropB
  rw [dropV_plain (lift_to rfl), dropB_plain (lift_to rfl)]
  exact (Tel.spec_DropRow a n cap rs key w hr hn hs.2).mono fun e w' hT => told_own hT (dropV_small _ _)

theorem spec_RangeOf (v : Value) (xs : Tb) (lo hi : Int) (w : World) (h : RIs w v xs) : Calls Try.prog 23 #[v, .int .i64 lo, .int .i64 hi] w fun e w' => ∃ u, e = .returned (.tuple #[u, .bool (pGood xs)]) ∧ ROwn w' w.heap.size w'.heap.size u (pRangeV lo hi xs) ∧ Below w.heap.size w w' := by
  obtain ⟨a, n, cap, rs, rfl, hr, rfl, ht⟩ := h
  have hs := small_rows ht
  have hn : n ≤ 1048576 := by rw [← hr.len]; exact hs.1
  unfold pRangeV pGood
  rw [rangeV_plain (lift_to rfl), goodT_plain (lift_to rfl)]
  exact (Stb.spec_RangeOf a n cap rs lo hi w hr hn hs.2).mono fun e w' hT => told_own hT (rangeV_small _ _ _)

theorem spec_SetColumn (v : Value) (xs : Tb) (key col : Int) (vb : Bool) (vn : Int) (w : World) (h : RIs w v xs) (_hk : (Lit.int .i64 key).wf = true) (hx : (Lit.int .i64 vn).wf = true) : Calls Try.prog 27 #[v, .int .i64 key, .int .i64 col, .agg #[.bool vb, .int .i64 vn]] w fun e w' => ∃ u, e = .returned (.tuple #[u, .bool (pSetB key col (vb, vn) xs)]) ∧ ROwn w' w.heap.size w'.heap.size u (pSetV key col (vb, vn) xs) ∧ Below w.heap.size w w' := by
  obtain ⟨a, n, cap, rs, rfl, hr, rfl, ht⟩ := h
  have hs := small_rows ht
  have hn : n ≤ 1048576 := by rw [← hr.len]; exact hs.1
  unfold pSetV pSetB
  rw [setV_plain (lift_to rfl), setB_plain (lift_to rfl)]
  exact (Stc.spec_SetColumn a n cap rs key col vb vn w hr hn hs.2 hx).mono fun e w' hT => told_own hT (setV_small _ _ _ _)

theorem spec_PutRow (v : Value) (xs : Tb) (x : Int × List (Bool × Int)) (ra : Option Addr) (rn rc : Nat) (w : World) (h : RIs w v xs) (hk : (Lit.int .i64 x.1).wf = true) (hx : WIs w ra rn rc x) : Calls Try.prog 11 #[v, .agg #[.int .i64 x.1, .slice ra rn rc]] w fun e w' => ∃ u, e = .returned (.tuple #[u, .bool (pPutB x xs)]) ∧ ROwn w' w.heap.size w'.heap.size u (pPutV x xs) ∧ Below w.heap.size w w' := by
  obtain ⟨a, n, cap, rs, rfl, hr, rfl, ht⟩ := h
  have hs := small_rows ht
  have hn : n ≤ 1048576 := by rw [← hr.len]; exact hs.1
  unfold pPutV pPutB
  rw [putV_plain (lift_to rfl), putG_plain (lift_to rfl)]
  exact (Stb.spec_PutRow a n cap rs x.1 ra rn rc x.2 w hr hn hs.2 hk hx.1 hx.2).mono fun e w' hT => told_own hT (putV_small _ _ _)

theorem spec_KeysOf (v : Value) (xs : Tb) (w : World) (h : RIs w v xs) : Calls Try.prog 30 #[v] w fun e w' => ∃ u, e = .returned (.tuple #[u, .bool (pGood xs)]) ∧ IOwn w' w.heap.size w'.heap.size u (pKeysV xs) ∧ Below w.heap.size w w' := by
  obtain ⟨a, n, cap, rs, rfl, hr, rfl, ht⟩ := h
  have hs := small_rows ht
  have hn : n ≤ 1048576 := by rw [← hr.len]; exact hs.1
  unfold pKeysV pGood
  rw [keysV_plain (lift_to rfl), goodT_plain (lift_to rfl)]
  refine (Stb.spec_KeysOf a n cap rs w hr hn hs.2).mono fun e w' hT => toldI_own hT (fun z hz => ?_) (keysV_small _)
  unfold keysV at hz
  split at hz
  · obtain ⟨r, hr', rfl⟩ := List.mem_map.1 hz
    exact (hr.rows r hr').1
  · cases hz

theorem spec_FindRow (v : Value) (xs : Tb) (key : Int) (w : World) (h : RIs w v xs) (_hk : (Lit.int .i64 key).wf = true) : Calls Try.prog 20 #[v, .int .i64 key] w fun e w' => ∃ a n c, e = .returned (.tuple #[.agg #[.int .i64 (pRowV key xs).1, .slice a n c], .bool (pRowB key xs)]) ∧ WOwn w' w.heap.size w'.heap.size a n c (pRowV key xs) ∧ Below w.heap.size w w' := by
  obtain ⟨a, n, cap, rs, rfl, hr, rfl, ht⟩ := h
  have hs := small_rows ht
  have hn : n ≤ 1048576 := by rw [← hr.len]; exact hs.1
  unfold pRowV pRowB
  rw [rowOut_plain (lift_to rfl), foundB_plain (lift_to rfl)]
  exact (Stb.spec_FindRow' a n cap rs key w hr hn hs.2).mono fun e w' hT => toldR_own hT (rowOut_small _ _)

theorem impl_GoodTable (v : Value) (xs : Tb) (w : World) (h : RIs w v xs) : Calls Try.prog 13 #[v] w fun e w' => e = .returned (.bool (pGood xs)) ∧ Below w.heap.size w w' := by
  obtain ⟨a, n, cap, rs, rfl, hr, rfl, ht⟩ := h
  have hs := small_rows ht
  have hn : n ≤ 1048576 := by rw [← hr.len]; exact hs.1
  unfold pGood
  rw [goodT_plain (lift_to rfl)]
  exact Ig.impl_GoodTable a n cap rs w hr hn hs.2

theorem impl_DropRow (v : Value) (xs : Tb) (key : Int) (w : World) (h : RIs w v xs) (hk : (Lit.int .i64 key).wf = true) : Calls Try.prog 16 #[v, .int .i64 key] w fun e w' => ∃ u, e = .returned (.tuple #[u, .bool (pDropB key xs)]) ∧ ROwn w' w.heap.size w'.heap.size u (pDropV key xs) ∧ Below w.heap.size w w' := by
  obtain ⟨a, n, cap, rs, rfl, hr, rfl, ht⟩ := h
  have hs := small_rows ht
  have hn : n ≤ 1048576 := by rw [← hr.len]; exact hs.1
  unfold pDropV pDropB
  rw [dropV_plain (lift_to rfl), dropB_plain (lift_to rfl)]
  exact (Itb.impl_DropRow a n cap rs key w hr hn hs.2 hk).mono fun e w' hT => told_own hT (dropV_small _ _)

theorem impl_RangeOf (v : Value) (xs : Tb) (lo hi : Int) (w : World) (h : RIs w v xs) : Calls Try.prog 22 #[v, .int .i64 lo, .int .i64 hi] w fun e w' => ∃ u, e = .returned (.tuple #[u, .bool (pGood xs)]) ∧ ROwn w' w.heap.size w'.heap.size u (pRangeV lo hi xs) ∧ Below w.heap.size w w' := by
  obtain ⟨a, n, cap, rs, rfl, hr, rfl, ht⟩ := h
  have hs := small_rows ht
  have hn : n ≤ 1048576 := by rw [← hr.len]; exact hs.1
  unfold pRangeV pGood
  rw [rangeV_plain (lift_to rfl), goodT_plain (lift_to rfl)]
  exact (Itc.impl_RangeOf a n cap rs lo hi w hr hn hs.2).mono fun e w' hT => told_own hT (rangeV_small _ _ _)

theorem impl_SetColumn (v : Value) (xs : Tb) (key col : Int) (vb : Bool) (vn : Int) (w : World) (h : RIs w v xs) (hk : (Lit.int .i64 key).wf = true) (hx : (Lit.int .i64 vn).wf = true) : Calls Try.prog 26 #[v, .int .i64 key, .int .i64 col, .agg #[.bool vb, .int .i64 vn]] w fun e w' => ∃ u, e = .returned (.tuple #[u, .bool (pSetB key col (vb, vn) xs)]) ∧ ROwn w' w.heap.size w'.heap.size u (pSetV key col (vb, vn) xs) ∧ Below w.heap.size w w' := by
  obtain ⟨a, n, cap, rs, rfl, hr, rfl, ht⟩ := h
  have hs := small_rows ht
  have hn : n ≤ 1048576 := by rw [← hr.len]; exact hs.1
  unfold pSetV pSetB
  rw [setV_plain (lift_to rfl), setB_plain (lift_to rfl)]
  exact (Itd.impl_SetColumn a n cap rs key col vb vn w hr hn hs.2 hk hx).mono fun e w' hT => told_own hT (setV_small _ _ _ _)

theorem impl_PutRow (v : Value) (xs : Tb) (x : Int × List (Bool × Int)) (ra : Option Addr) (rn rc : Nat) (w : World) (h : RIs w v xs) (hk : (Lit.int .i64 x.1).wf = true) (hx : WIs w ra rn rc x) : Calls Try.prog 10 #[v, .agg #[.int .i64 x.1, .slice ra rn rc]] w fun e w' => ∃ u, e = .returned (.tuple #[u, .bool (pPutB x xs)]) ∧ ROwn w' w.heap.size w'.heap.size u (pPutV x xs) ∧ Below w.heap.size w w' := by
  obtain ⟨a, n, cap, rs, rfl, hr, rfl, ht⟩ := h
  have hs := small_rows ht
  have hn : n ≤ 1048576 := by rw [← hr.len]; exact hs.1
  unfold pPutV pPutB
  rw [putV_plain (lift_to rfl), putG_plain (lift_to rfl)]
  exact (Itb.impl_PutRow a n cap rs x.1 ra rn rc x.2 w hr hn hs.2 hk hx.1 hx.2).mono fun e w' hT => told_own hT (putV_small _ _ _)

theorem impl_KeysOf (v : Value) (xs : Tb) (w : World) (h : RIs w v xs) : Calls Try.prog 29 #[v] w fun e w' => ∃ u, e = .returned (.tuple #[u, .bool (pGood xs)]) ∧ IOwn w' w.heap.size w'.heap.size u (pKeysV xs) ∧ Below w.heap.size w w' := by
  obtain ⟨a, n, cap, rs, rfl, hr, rfl, ht⟩ := h
  have hs := small_rows ht
  have hn : n ≤ 1048576 := by rw [← hr.len]; exact hs.1
  unfold pKeysV pGood
  rw [keysV_plain (lift_to rfl), goodT_plain (lift_to rfl)]
  refine (Itb.impl_KeysOf a n cap rs w hr hn hs.2).mono fun e w' hT => toldI_own hT (fun z hz => ?_) (keysV_small _)
  unfold keysV at hz
  split at hz
  · obtain ⟨r, hr', rfl⟩ := List.mem_map.1 hz
    exact (hr.rows r hr').1
  · cases hz

theorem impl_FindRow (v : Value) (xs : Tb) (key : Int) (w : World) (h : RIs w v xs) (hk : (Lit.int .i64 key).wf = true) : Calls Try.prog 15 #[v, .int .i64 key] w fun e w' => ∃ a n c, e = .returned (.tuple #[.agg #[.int .i64 (pRowV key xs).1, .slice a n c], .bool (pRowB key xs)]) ∧ WOwn w' w.heap.size w'.heap.size a n c (pRowV key xs) ∧ Below w.heap.size w w' := by
  obtain ⟨a, n, cap, rs, rfl, hr, rfl, ht⟩ := h
  have hs := small_rows ht
  have hn : n ≤ 1048576 := by rw [← hr.len]; exact hs.1
  unfold pRowV pRowB
  rw [rowOut_plain (lift_to rfl), foundB_plain (lift_to rfl)]
  exact (Itb.impl_FindRow a n cap rs key w hr hn hs.2 hk).mono fun e w' hT => toldR_own hT (rowOut_small _ _)


end Go.Proofs.Ytciaegdgoabipaa.Tfn
