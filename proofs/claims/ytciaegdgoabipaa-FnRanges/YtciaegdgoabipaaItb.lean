/-
  Contracts of the program's functions on tables.
-/
import Derived.Test.YtciaegdgoabipaaPur
namespace Go.Proofs.Ytciaegdgoabipaa.Itb
open Go.RowKit Go.Maps Go.Sort
open Go.Proofs.Ytciaegdgoabipaa.Frame Go.Proofs.Ytciaegdgoabipaa.Mem Go.Proofs.Ytciaegdgoabipaa.Vals Go.Proofs.Ytciaegdgoabipaa.Rws Go.Proofs.Ytciaegdgoabipaa.Val Go.Proofs.Ytciaegdgoabipaa.Tab Go.Proofs.Ytciaegdgoabipaa.Reg Go.Proofs.Ytciaegdgoabipaa.Gtab Go.Proofs.Ytciaegdgoabipaa.Cpy Go.Proofs.Ytciaegdgoabipaa.Own Go.Proofs.Ytciaegdgoabipaa.Drp Go.Proofs.Ytciaegdgoabipaa.Tel Go.Proofs.Ytciaegdgoabipaa.Find Go.Proofs.Ytciaegdgoabipaa.Shf Go.Proofs.Ytciaegdgoabipaa.Icp Go.Proofs.Ytciaegdgoabipaa.Ig Go.Proofs.Ytciaegdgoabipaa.Sht Go.Proofs.Ytciaegdgoabipaa.Shl Go.Proofs.Ytciaegdgoabipaa.Pur

theorem OwnShelf.dropped {w w3 : World} {base b m : Nat} {qs : List RowV} {k : Int} (h : OwnShelf w base b m qs) (hm : w3.ownsMap Try.prog 3 Rv b m ((shelf qs).del (.int .i64 k))) (hg : w.grownBy w3 (some b)) : OwnShelf w3 base b m (dropK k qs) := by
  rw [del_shelf] at hm
  exact ⟨hm, h.low, fun r hr => own_grown (h.inner r (List.mem_filter.1 hr).1) hg (ne_map h.map (h.inner r (List.mem_filter.1 hr).1)), fun r hr => h.wf r (List.mem_filter.1 hr).1, h.apart.filter _, h.rising.filter _⟩

theorem OwnShelf.put {w w3 : World} {base b m : Nat} {qs : List RowV} {r : RowV} (h : OwnShelf w base b m qs) (hr : w.ownsRow base 45 2 (.slice r.a r.n r.c) r.n (vcells r.vs)) (hwf : (Lit.int .i64 r.key).wf = true ∧ ∀ v ∈ r.vs, (Lit.int .i64 v.2).wf = true)
    (hf : ∀ q ∈ qs, Far q.a r.a) (hm : w3.ownsMap Try.prog 3 Rv b (m + 1) ((shelf qs).put (.int .i64 r.key) (.held (rowVal r)))) (hg : w.grownBy w3 (some b)) : OwnShelf w3 base b (m + 1) (insR r (dropK r.key qs)) := by
  rw [put_shelf] at hm
  have hin : ∀ q ∈ dropK r.key qs, q ∈ qs := fun q hq => (List.mem_filter.1 hq).1
  refine ⟨hm, h.low, fun q hq => ?_, fun q hq => ?_, ?_, ?_⟩
  · rcases mem_insR.1 hq with rfl | hq
    · exact own_grown hr hg (ne_map h.map hr)
    · exact own_grown (h.inner q (hin q hq)) hg (ne_map h.map (h.inner q (hin q hq)))
  · rcases mem_insR.1 hq with rfl | hq
    · exact hwf
    · exact h.wf q (hin q hq)
  · exact insR_pairwise (h.apart.filter _) (fun q hq => ⟨hf q (hin q hq), (hf q (hin q hq)).symm⟩)
  · exact insR_rising (h.rising.filter _) (fun q hq => by simpa using (List.mem_filter.1 hq).2)

theorem insR_length (r : RowV) (qs : List RowV) : (insR r qs).length = qs.length + 1 := by
  induction qs with
  | nil => rfl
  | cons q qs ih =>
    rw [insR]
    split
    · rfl
    · simp [ih]

theorem shelf_n {w w1 : World} {a : Option Addr} {n cap base b m : Nat} {rs qs : List RowV} (h : IsRows w a n cap rs) (hv : ∀ r ∈ rs, r.n ≤ 1048576) (hp : plain qs = plain rs) (ho : OwnShelf w1 base b m qs) : ∀ r ∈ qs, r.n ≤ 1048576 := fun r hr => by
  have h1 := (ho.inner r hr).1
  rw [vcells_length] at h1
  obtain ⟨s, hs, _, e2⟩ := mem_plain hp hr
  have h2 := ((h.rows s hs).2).len
  have h3 := hv s hs
  rw [e2] at h2
  omega

/-- Integers and a word are told. -/
def ToldI (zs : List Int) (q : Bool) (w : World) (e : Ending) (w' : World) : Prop :=
  ∃ a m c, e = .returned (.tuple #[.slice a m c, .bool q]) ∧ w'.ownsRow w.heap.size 3 1 (.slice a m c) m (ints .i64 zs) ∧ Below w.heap.size w w'

def keysV (rs : List RowV) : List Int := if goodT rs then rs.map (·.key) else []

set_option maxRecDepth 100000 in
set_option maxHeartbeats 400000 in
theorem impl_KeysOf (a : Option Addr) (n cap : Nat) (rs : List RowV) (w : World) (h : IsRows w a n cap rs) (hn : n ≤ 1048576) (hv : ∀ r ∈ rs, r.n ≤ 1048576) :
    Calls Try.prog 29 #[.slice a n cap] w (ToldI (keysV rs) (goodT rs) w) := by
  have HI : Hid (IsRows w a n cap rs) := h
  have HV : Hid (∀ r ∈ rs, r.n ≤ 1048576) := hv
  clear h hv
  go_enter Try.func29, Try.ntmps29
  go_wp2_with fail
  refine (impl_shelved a n cap rs w HI.out hn HV.out).mono ?_
  rintro e w1 ⟨h1, hb1⟩
  have HB1 : Hid (Below w.heap.size w w1) := hb1
  clear hb1
  rcases h1 with ⟨hg, rfl⟩ | ⟨hg, b, m, qs, rfl, hm, hp, ho⟩
  · have F : Hid (keysV rs = [] ∧ goodT rs = false) := by show _ ∧ _; unfold keysV; rw [hg]; exact ⟨rfl, rfl⟩
    clear hg
    go_wp2
    go_ret2
    rw [F.out.1, F.out.2]
    exact ⟨none, 0, 0, rfl, World.ownsRow_nil _ _ _ _, HB1.out⟩
  · have F : Hid (keysV rs = qs.map (·.key) ∧ goodT rs = true) := by show _ ∧ _; unfold keysV; rw [hg, keys_plain hp]; exact ⟨rfl, rfl⟩
    have HO : Hid (OwnShelf w1 w.heap.size b m qs) := ho
    have hl : qs.length ≤ 1000 := by rw [length_plain hp]; have := (goodT_rising hg).2.2; omega
    clear hg hp ho
    go_wp2_with fail
    refine (impl_keysOn _ b m qs w1 HO.out hl).mono ?_
    rintro e w2 ⟨a2, c2, rfl, ho2, hb2⟩
    have T : Hid (w2.ownsRow w.heap.size 3 1 (.slice a2 qs.length c2) qs.length (ints .i64 (qs.map (·.key))) ∧ Below w.heap.size w w2) := ⟨own_base ho2 HB1.out.size, Frame.next HB1.out hb2 HB1.out.size⟩
    clear ho2 hb2
    go_wp2
    go_ret2
    rw [F.out.1, F.out.2]
    exact ⟨_, _, _, rfl, T.out.1, T.out.2⟩

theorem alloc_cell {w : World} {b off : Nat} {v : Value} (h : w.cell? ⟨b, off, none⟩ = some v) (o : Obj) : (w.alloc o).cell? ⟨b, off, none⟩ = some v :=
  (((Below.refl w.heap.size w).alloc (Nat.le_refl _) o).cell (p := ⟨b, off, none⟩) (Frame.cell_lt h)).trans h
theorem alloc_frozen {w : World} {b off : Nat} {v : Value} (h : w.cell? ⟨b, off, none⟩ = some v) (f : w.frozen? ⟨b, off, none⟩ = false) (o : Obj) : (w.alloc o).frozen? ⟨b, off, none⟩ = false :=
  (((Below.refl w.heap.size w).alloc (Nat.le_refl _) o).frozen (p := ⟨b, off, none⟩) (Frame.cell_lt h)).trans f

/-- A row and a word are told. -/
def ToldR (x : Int × List (Bool × Int)) (q : Bool) (w : World) (e : Ending) (w' : World) : Prop :=
  ∃ a m c, e = .returned (.tuple #[.agg #[.int .i64 x.1, .slice a m c], .bool q]) ∧ w'.ownsRow w.heap.size 45 2 (.slice a m c) m (vcells x.2) ∧ (∀ v ∈ x.2, (Lit.int .i64 v.2).wf = true) ∧ Below w.heap.size w w'

set_option maxRecDepth 100000 in
set_option maxHeartbeats 400000 in
theorem impl_FindRow (a : Option Addr) (n cap : Nat) (rs : List RowV) (key : Int) (w : World) (h : IsRows w a n cap rs) (hn : n ≤ 1048576) (hv : ∀ r ∈ rs, r.n ≤ 1048576) (hk : (Lit.int .i64 key).wf = true) :
    Calls Try.prog 15 #[.slice a n cap, .int .i64 key] w (ToldR (rowOut key rs) (foundB key rs) w) := by
  have HI : Hid (IsRows w a n cap rs) := h
  have HV : Hid (∀ r ∈ rs, r.n ≤ 1048576) := hv
  have HK : Hid (keyOf Try.prog 3 (.int .i64 key) = some (.int .i64 key)) := key_of hk
  have B0 : Hid (Below w.heap.size w (w.alloc (.cells #[.int .i64 0, .slice none 0 0] 26))) := (Below.refl _ _).alloc (Nat.le_refl _) _
  clear h hv hk
  go_enter Try.func15, Try.ntmps15
  go_wp2_with fail
  refine (impl_shelved a n cap rs _ (HI.out.below B0.out) hn HV.out).mono ?_
  rintro e w1 ⟨h1, hb1⟩
  have HB1 : Hid (Below w.heap.size w w1) := Frame.next B0.out hb1 B0.out.size
  have hs1 : w.heap.size + 1 ≤ w1.heap.size := by simpa using hb1.size
  have c0 : w1.cell? ⟨w.heap.size, 0, none⟩ = some (.int .i64 0) := by rw [hb1.cell (p := ⟨w.heap.size, 0, none⟩) (by simp), World.cell?_alloc_at _ _ _ _ rfl]; rfl
  have c1 : w1.cell? ⟨w.heap.size, 1, none⟩ = some (.slice none 0 0) := by rw [hb1.cell (p := ⟨w.heap.size, 1, none⟩) (by simp), World.cell?_alloc_at _ _ _ _ rfl]; rfl
  have f0 : w1.frozen? ⟨w.heap.size, 0, none⟩ = false := by rw [hb1.frozen (p := ⟨w.heap.size, 0, none⟩) (by simp)]; exact World.frozen?_alloc_at _ _ _ _ rfl
  have f1 : w1.frozen? ⟨w.heap.size, 1, none⟩ = false := by rw [hb1.frozen (p := ⟨w.heap.size, 1, none⟩) (by simp)]; exact World.frozen?_alloc_at _ _ _ _ rfl
  clear hb1
  rcases h1 with ⟨hg, rfl⟩ | ⟨hg, b, m, qs, rfl, hm, hp, ho⟩
  · have F : Hid (foundB key rs = false) := by show _ = _; unfold foundB; rw [hg]; rfl
    clear hg
    go_wp2
    rw [F.out, rowOut_no F.out]
    refine bodyPost_ret (v := .tuple #[.agg #[.int .i64 0, .slice none 0 0], .bool false]) (by simp [results, Try.results15, go_sem, c0, c1]) rfl ?_
    exact ⟨none, 0, 0, rfl, World.ownsRow_nil _ _ _ _, by simp, (HB1.out.setCell (Nat.le_refl _) _).setCell (Nat.le_refl _) _⟩
  · have HO : Hid (OwnShelf w1 (w.heap.size + 1) b m qs) := by have := ho; rwa [World.size_alloc] at this
    clear ho
    have d0 := fun o => alloc_cell c0 o
    have d1 := fun o => alloc_cell c1 o
    have g0 := fun o => alloc_frozen c0 f0 o
    have g1 := fun o => alloc_frozen c1 f1 o
    have HH : Hid (has (shelf qs) (.int .i64 key) = qs.any fun r => decide (r.key = key)) := has_shelf qs key
    cases hq : qs.any fun r => decide (r.key = key)
    · have HQ : Hid (has (shelf qs) (.int .i64 key) = false) := HH.out.trans hq
      have HA : Hid ((shelf qs).atKey (.int .i64 key) (.held (.agg #[.int .i64 0, .slice none 0 0])) = .held (.agg #[.int .i64 0, .slice none 0 0])) := atKey_none (any_no hq) _
      have F : Hid (foundB key rs = false) := by show _ = _; unfold foundB; rw [hg, ← any_plain hp key, hq]; rfl
      clear hq hg hp
      go_wp2_with (at_lookup; refine wpList_lookup_held_ok _ rfl _ _ 75 rfl 3 26 law Try.underlying75 _ (zeroR _) b m (shelf qs) rfl HO.out.map _ _ rfl HK.out _ HA.out _ HQ.out ?_)
      rw [F.out, rowOut_no F.out]
      refine bodyPost_ret (v := .tuple #[.agg #[.int .i64 0, .slice none 0 0], .bool false]) (by simp [results, Try.results15, go_sem, d0, d1]) rfl ?_
      exact ⟨none, 0, 0, rfl, World.ownsRow_nil _ _ _ _, by simp, ((HB1.out.alloc (by omega) _).setCell (Nat.le_refl _) _).setCell (Nat.le_refl _) _⟩
    · obtain ⟨r, hr, rfl⟩ := any_key hq
      have HQ : Hid (has (shelf qs) (.int .i64 r.key) = true) := HH.out.trans hq
      have HA : Hid ((shelf qs).atKey (.int .i64 r.key) (.held (.agg #[.int .i64 0, .slice none 0 0])) = .held (.agg #[.int .i64 r.key, .slice r.a r.n r.c])) := atKey_shelf HO.out.rising hr _
      have F : Hid (rowOut r.key rs = (r.key, r.vs) ∧ foundB r.key rs = true) := rowOut_of hg hp hr
      have HR : Hid (w1.ownsRow (w.heap.size + 1) 45 2 (.slice r.a r.n r.c) r.n (vcells r.vs) ∧ ∀ v ∈ r.vs, (Lit.int .i64 v.2).wf = true) := ⟨HO.out.inner r hr, (HO.out.wf r hr).2⟩
      clear hq hg hp
      go_wp2_with (at_lookup; refine wpList_lookup_held_ok _ rfl _ _ 75 rfl 3 26 law Try.underlying75 _ (zeroR _) b m (shelf qs) rfl HO.out.map _ _ rfl HK.out _ HA.out _ HQ.out ?_)
      rw [F.out.1, F.out.2]
      have HR2 : Hid ((w1.alloc (.cells #[.int .i64 r.key, .slice r.a r.n r.c] 26)).ownsRow (w.heap.size + 1) 45 2 (.slice r.a r.n r.c) r.n (vcells r.vs)) := own_below HR.out.1 ((Below.refl _ _).alloc (Nat.le_refl _) _)
      have hne : (Value.slice r.a r.n r.c).ownBlock ≠ some w.heap.size := fun e => by have := (HR2.out.lt _ e).1; omega
      refine bodyPost_ret (v := .tuple #[.agg #[.int .i64 r.key, .slice r.a r.n r.c], .bool true]) (by simp [results, Try.results15, go_sem, d0, d1]) rfl ?_
      exact ⟨r.a, r.n, r.c, rfl, own_base (ownsRow_setCell_other (ownsRow_setCell_other HR2.out hne _) hne _) (by omega), HR.out.2, ((HB1.out.alloc (by omega) _).setCell (Nat.le_refl _) _).setCell (Nat.le_refl _) _⟩

set_option maxRecDepth 100000 in
set_option maxHeartbeats 400000 in
theorem impl_DropRow (a : Option Addr) (n cap : Nat) (rs : List RowV) (key : Int) (w : World) (h : IsRows w a n cap rs) (hn : n ≤ 1048576) (hv : ∀ r ∈ rs, r.n ≤ 1048576) (hk : (Lit.int .i64 key).wf = true) :
    Calls Try.prog 16 #[.slice a n cap, .int .i64 key] w (Tel.Told (dropV key rs) (dropB key rs) w) := by
  have HI : Hid (IsRows w a n cap rs) := h
  have HV : Hid (∀ r ∈ rs, r.n ≤ 1048576) := hv
  have HK : Hid (keyOf Try.prog 3 (.int .i64 key) = some (.int .i64 key)) := key_of hk
  have HW : Hid ((Lit.int .i64 key).wf = true) := hk
  clear h hv hk
  go_enter Try.func16, Try.ntmps16
  go_wp2_with fail
  refine (impl_shelved a n cap rs w HI.out hn HV.out).mono ?_
  rintro e w1 ⟨h1, hb1⟩
  have HB1 : Hid (Below w.heap.size w w1) := hb1
  clear hb1
  rcases h1 with ⟨hg, rfl⟩ | ⟨hg, b, m, qs, rfl, hm, hp, ho⟩
  · have F : Hid (dropV key rs = [] ∧ dropB key rs = false) := by show _ ∧ _; unfold dropV dropB hasB; rw [hg]; exact ⟨rfl, rfl⟩
    clear hg
    go_wp2
    go_ret2
    rw [F.out.1, F.out.2]
    exact told_no HB1.out
  · have HP : Hid (plain qs = plain rs) := hp
    have HO : Hid (OwnShelf w1 w.heap.size b m qs) := ho
    have HG : Hid (goodT rs = true) := hg
    have HA : Hid ((qs.any fun r => decide (r.key = key)) = decide (0 ≤ find key rs)) := any_plain hp key
    have HH : Hid (hasB key rs = decide (0 ≤ find key rs)) := by show _ = _; unfold hasB; rw [hg]; rfl
    have hl : qs.length ≤ 20 := by rw [length_plain hp]; exact (goodT_rising hg).2.2
    have HVQ : Hid (∀ r ∈ qs, r.n ≤ 1048576) := fun r hr => by
      have h1 := (ho.inner r hr).1
      rw [vcells_length] at h1
      obtain ⟨s, hs, _, e2⟩ := mem_plain hp hr
      have h2 := ((HI.out.rows s hs).2).len
      have h3 := HV.out s hs
      rw [e2] at h2
      omega
    clear hg hp ho
    go_wp2_with fail
    refine (impl_stands _ b m qs key w1 HO.out HW.out).mono ?_
    rintro e w2 ⟨rfl, hb2⟩
    have HB2 : Hid (Below w.heap.size w w2) := Frame.next HB1.out hb2 HB1.out.size
    have HO2 : Hid (OwnShelf w2 w.heap.size b m qs) := HO.out.below hb2
    clear hb2
    cases hq : qs.any fun r => decide (r.key = key)
    · have F : Hid (dropV key rs = [] ∧ dropB key rs = false) := by
        show _ ∧ _
        unfold dropV dropB
        rw [HH.out, ← HA.out, hq]
        exact ⟨rfl, rfl⟩
      clear hq
      go_wp2
      go_ret2
      rw [F.out.1, F.out.2]
      exact told_no HB2.out
    · have F : Hid (dropV key rs = tellV (dropK key qs) ∧ dropB key rs = goodT (dropK key qs)) := by
        show _ ∧ _
        unfold dropV dropB
        rw [HH.out, ← HA.out, hq, tellV_plain (dropK_plain key HP.out), goodT_plain (dropK_plain key HP.out)]
        exact ⟨rfl, rfl⟩
      have hle : (dropK key qs).length ≤ 1000 := Nat.le_trans (dropK_le _ _) (by omega)
      clear hq
      go_wp2_with (at_delete; refine wpList_delete_own _ rfl _ _ 75 3 rfl 26 law Try.underlying75 _ b m _ rfl HO2.out.map _ _ rfl HK.out ?_)
      intro w3 hown3 hturn3
      have HO3 : Hid (OwnShelf w3 w.heap.size b m (dropK key qs)) := OwnShelf.dropped HO2.out hown3 hturn3.grown
      have HB3 : Hid (Below w.heap.size w w3) := below_grown HB2.out hturn3.grown HB2.out.size (fun g hg => by cases hg; exact HO2.out.low)
      clear hown3 hturn3
      go_wp2_with fail
      refine (impl_tableOn _ b m (dropK key qs) w3 HO3.out hle (fun r hr => HVQ.out r (List.mem_filter.1 hr).1)).mono ?_
      intro e w4 hT
      have T := ToldB.told hT HB3.out
      rw [← F.out.1, ← F.out.2] at T
      obtain ⟨a4, m4, c4, ps, rfl, hp, ho, hb4⟩ := T
      have T2 : Hid (Tel.Told (dropV key rs) (dropB key rs) w (.returned (.tuple #[.slice a4 m4 c4, .bool (dropB key rs)])) w4) := ⟨a4, m4, c4, ps, rfl, hp, ho, hb4⟩
      clear hT hp ho hb4
      go_wp2
      go_ret2
      exact T2.out

def putB (key : Int) (vs : List (Bool × Int)) (rs : List RowV) : Bool := goodT rs && rowB key vs
def putK (r : RowV) (rs : List RowV) : List RowV := insR r (dropK r.key rs)
def putRows (key : Int) (vs : List (Bool × Int)) (rs : List RowV) : List RowV := putK ⟨key, none, 0, 0, vs⟩ rs
def putV (key : Int) (vs : List (Bool × Int)) (rs : List RowV) : List (Int × List (Bool × Int)) := if putB key vs rs then tellV (putRows key vs rs) else []
def putG (key : Int) (vs : List (Bool × Int)) (rs : List RowV) : Bool := putB key vs rs && goodT (putRows key vs rs)

theorem putK_plain {qs rs : List RowV} (h : plain qs = plain rs) (r : RowV) : plain (putK r qs) = plain (putRows r.key r.vs rs) := insR_plain (dropK_plain _ h) rfl rfl

set_option maxRecDepth 100000 in
set_option maxHeartbeats 1000000 in
theorem impl_PutRow (a : Option Addr) (n cap : Nat) (rs : List RowV) (key : Int) (ra : Option Addr) (rn rc : Nat) (vs : List (Bool × Int)) (w : World) (h : IsRows w a n cap rs) (hn : n ≤ 1048576) (hv : ∀ r ∈ rs, r.n ≤ 1048576) (hk : (Lit.int .i64 key).wf = true) (hr : IsVals w ra rn rc vs) (hrn : rn ≤ 1048576) :
    Calls Try.prog 10 #[.slice a n cap, .agg #[.int .i64 key, .slice ra rn rc]] w (Tel.Told (putV key vs rs) (putG key vs rs) w) := by
  have HI : Hid (IsRows w a n cap rs) := h
  have HV : Hid (∀ r ∈ rs, r.n ≤ 1048576) := hv
  have HK : Hid (keyOf Try.prog 3 (.int .i64 key) = some (.int .i64 key)) := key_of hk
  have HW : Hid ((Lit.int .i64 key).wf = true) := hk
  have HR : Hid (IsVals w ra rn rc vs) := hr
  have B0 : Hid (Below w.heap.size w (w.alloc (.cells #[.int .i64 key, .slice ra rn rc] 26))) := (Below.refl _ _).alloc (Nat.le_refl _) _
  clear h hv hk hr
  go_enter Try.func10, Try.ntmps10
  go_wp2_with fail
  refine (impl_shelved a n cap rs _ (HI.out.below B0.out) hn HV.out).mono ?_
  rintro e w1 ⟨h1, hb1⟩
  have HB1 : Hid (Below w.heap.size w w1) := Frame.next B0.out hb1 B0.out.size
  have hs1 : w.heap.size + 1 ≤ w1.heap.size := by simpa using hb1.size
  have c0 : w1.cell? ⟨w.heap.size, 0, none⟩ = some (.int .i64 key) := by rw [hb1.cell (p := ⟨w.heap.size, 0, none⟩) (by simp), World.cell?_alloc_at _ _ _ _ rfl]; rfl
  have c1 : w1.cell? ⟨w.heap.size, 1, none⟩ = some (.slice ra rn rc) := by rw [hb1.cell (p := ⟨w.heap.size, 1, none⟩) (by simp), World.cell?_alloc_at _ _ _ _ rfl]; rfl
  clear hb1
  rcases h1 with ⟨hg, rfl⟩ | ⟨hg, b, m, qs, rfl, hm, hp, ho⟩
  · have F : Hid (putV key vs rs = [] ∧ putG key vs rs = false) := by show _ ∧ _; unfold putV putG putB; rw [hg]; exact ⟨rfl, rfl⟩
    clear hg
    go_wp2
    go_ret2
    rw [F.out.1, F.out.2]
    exact told_no HB1.out
  · have HO : Hid (OwnShelf w1 (w.heap.size + 1) b m qs) := by have := ho; rwa [World.size_alloc] at this
    have HP : Hid (plain qs = plain rs) := hp
    have hl : qs.length ≤ 20 := by rw [length_plain hp]; exact (goodT_rising hg).2.2
    have HVQ : Hid (∀ r ∈ qs, r.n ≤ 1048576) := shelf_n HI.out HV.out hp ho
    have HPB : Hid (putB key vs rs = rowB key vs) := by show _ = _; unfold putB; rw [hg]; rfl
    have C : Hid (w1.cell? ⟨w.heap.size, 0, none⟩ = some (.int .i64 key) ∧ w1.cell? ⟨w.heap.size, 1, none⟩ = some (.slice ra rn rc)) := ⟨c0, c1⟩
    clear hg hp ho
    go_wp2_with fail
    refine (impl_isRow key ra rn rc vs w1 (HR.out.below HB1.out) hrn).mono ?_
    rintro e w2 ⟨rfl, hb2⟩
    have HB2 : Hid (Below w.heap.size w w2) := Frame.next HB1.out hb2 HB1.out.size
    have HO2 : Hid (OwnShelf w2 (w.heap.size + 1) b m qs) := HO.out.below hb2
    have C2 : Hid (w2.cell? ⟨w.heap.size, 0, none⟩ = some (.int .i64 key) ∧ w2.cell? ⟨w.heap.size, 1, none⟩ = some (.slice ra rn rc)) := ⟨((Frame.bcell hb2).1 _ _ (by omega)).trans C.out.1, ((Frame.bcell hb2).1 _ _ (by omega)).trans C.out.2⟩
    have hs2 : w.heap.size + 1 ≤ w2.heap.size := Nat.le_trans hs1 hb2.size
    clear hb2 c0 c1
    cases hq : rowB key vs
    · have F : Hid (putV key vs rs = [] ∧ putG key vs rs = false) := by show _ ∧ _; unfold putV putG; rw [HPB.out, hq]; exact ⟨rfl, rfl⟩
      clear hq
      go_wp2
      go_ret2
      rw [F.out.1, F.out.2]
      exact told_no HB2.out
    · have HPB2 : Hid (putB key vs rs = true) := HPB.out.trans hq
      clear hq
      have HIV : Hid (IsVals w2.drew ra rn rc vs) := HR.out.below HB2.out.drew
      have HOD : Hid (OwnShelf w2.drew (w.heap.size + 1) b m qs) := HO2.out.below (Below.refl _ _).drew
      obtain ⟨c0, c1⟩ := C2.out
      go_wp2_with fail
      go_region_held3 (fun w' => w'.cell? ⟨w.heap.size, 0, none⟩ = some (.int .i64 key) ∧ w'.cell? ⟨w.heap.size, 1, none⟩ = some (.slice ra rn rc))
            (first | exact C2.out | exact ⟨q0, q1⟩ | exact ⟨r0, r1⟩)
            (first | (go_at_call 47; refine (impl_copyOfRow key ra rn rc vs _ HIV.out hrn).mono ?_; rintro e w3 ⟨g, rfl, ho3, hb3⟩; have q0 : w3.cell? ⟨w.heap.size, 0, none⟩ = some (.int .i64 key) := ((Frame.bcell hb3).1 _ _ (by show w.heap.size < w2.heap.size; omega)).trans C2.out.1; have q1 : w3.cell? ⟨w.heap.size, 1, none⟩ = some (.slice ra rn rc) := ((Frame.bcell hb3).1 _ _ (by show w.heap.size < w2.heap.size; omega)).trans C2.out.2; have HO3 : Hid (OwnShelf w3 (w.heap.size + 1) b m qs) := HOD.out.below hb3; obtain ⟨w4, hrun4, hown4', hgrow4'⟩ := HO3.out.map.update (t := 75) (e := 26) (val := .agg #[.int .i64 key, .slice (some ⟨g, 0, none⟩) rn rn]) law Try.underlying75 (by unfold maxLen; omega) HK.out (show Rv _ = some (.held _, []) from rfl); have hnb : some w.heap.size ≠ some b := (by have := HO3.out.low; simp only [ne_eq, Option.some.injEq]; omega); have r0 : w4.cell? ⟨w.heap.size, 0, none⟩ = some (.int .i64 key) := (cell_grown hgrow4' (Frame.cell_lt q0) hnb).trans q0; have r1 : w4.cell? ⟨w.heap.size, 1, none⟩ = some (.slice ra rn rc) := (cell_grown hgrow4' (Frame.cell_lt q0) hnb).trans q1; have HU : Hid (w4.ownsMap Try.prog 3 Rv b (m + 1) ((shelf qs).put (.int .i64 key) (.held (.agg #[.int .i64 key, .slice (some ⟨g, 0, none⟩) rn rn]))) ∧ w3.grownBy w4 (some b)) := ⟨hown4', hgrow4'⟩; clear hown4' hgrow4'))
      have hsz : w2.drew.heap.size = w2.heap.size := rfl
      rw [hsz] at ho3
      have HB3 : Hid (Below w.heap.size w w3) := Frame.next HB2.out.drew hb3 HB2.out.size
      have hs3 := hb3.size
      rw [hsz] at hs3
      have HF : Hid (∀ q ∈ qs, Far q.a (some ⟨g, 0, none⟩)) := fun q hq x y hx hy => by
        have h1 := (own_block (HO2.out.inner q hq) x hx).2
        have h2 := (own_block ho3 y hy).1
        omega
      have HO4 : Hid (OwnShelf w4 (w.heap.size + 1) b (m + 1) (putK ⟨key, some ⟨g, 0, none⟩, rn, rn, vs⟩ qs)) :=
        OwnShelf.put (r := ⟨key, some ⟨g, 0, none⟩, rn, rn, vs⟩) HO3.out (own_base ho3 (by omega)) ⟨HW.out, HR.out.wf⟩ HF.out HU.out.1 HU.out.2
      have HB4 : Hid (Below w.heap.size w w4) := below_grown HB3.out HU.out.2 HB3.out.size (fun g hg => by cases hg; have := HO3.out.low; omega)
      have hle : (putK ⟨key, some ⟨g, 0, none⟩, rn, rn, vs⟩ qs).length ≤ 1000 := by
        unfold putK
        rw [insR_length]
        have := dropK_le key qs
        show (dropK key qs).length + 1 ≤ 1000
        omega
      have HN4 : Hid (∀ r ∈ putK ⟨key, some ⟨g, 0, none⟩, rn, rn, vs⟩ qs, r.n ≤ 1048576) := fun r hr => by
        rcases mem_insR.1 hr with rfl | hr
        · exact hrn
        · exact HVQ.out r (List.mem_filter.1 hr).1
      have F : Hid (putV key vs rs = tellV (putK ⟨key, some ⟨g, 0, none⟩, rn, rn, vs⟩ qs) ∧ putG key vs rs = goodT (putK ⟨key, some ⟨g, 0, none⟩, rn, rn, vs⟩ qs)) := by
        show _ ∧ _
        unfold putV putG
        rw [HPB2.out, tellV_plain (putK_plain HP.out _), goodT_plain (putK_plain HP.out _)]
        exact ⟨rfl, rfl⟩
      clear ho3 hb3 hs3 hsz
      go_wp2_with fail
      refine (impl_tableOn _ b _ _ w4 HO4.out hle HN4.out).mono ?_
      intro e w5 hT
      have T : Tel.Told (putV key vs rs) (putG key vs rs) w e w5 := by
        obtain ⟨a5, m5, c5, ps, he, hp, ho, hb5⟩ := hT
        rw [F.out.1, F.out.2]
        exact ⟨a5, m5, c5, ps, he, hp, OwnRows.mono ho (by omega), Frame.next HB4.out hb5 HB4.out.size⟩
      obtain ⟨a5, m5, c5, ps, rfl, hp, ho, hb5⟩ := T
      have T2 : Hid (Tel.Told (putV key vs rs) (putG key vs rs) w (.returned (.tuple #[.slice a5 m5 c5, .bool (putG key vs rs)])) w5) := ⟨a5, m5, c5, ps, rfl, hp, ho, hb5⟩
      clear hT hp ho hb5
      go_wp2
      go_ret2
      exact T2.out


end Go.Proofs.Ytciaegdgoabipaa.Itb
