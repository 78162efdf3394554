/-
  Contracts of the program's functions on tables.
-/
import Derived.Test.YtciaegdgoabipabPur
namespace Go.Proofs.Ytciaegdgoabipab.Itb
open Go.RowKit Go.Maps Go.Sort
open Go.Proofs.Ytciaegdgoabipab.Frame Go.Proofs.Ytciaegdgoabipab.Mem Go.Proofs.Ytciaegdgoabipab.Vals Go.Proofs.Ytciaegdgoabipab.Rws Go.Proofs.Ytciaegdgoabipab.Val Go.Proofs.Ytciaegdgoabipab.Tab Go.Proofs.Ytciaegdgoabipab.Reg Go.Proofs.Ytciaegdgoabipab.Gtab Go.Proofs.Ytciaegdgoabipab.Cpy Go.Proofs.Ytciaegdgoabipab.Own Go.Proofs.Ytciaegdgoabipab.Drp Go.Proofs.Ytciaegdgoabipab.Tel Go.Proofs.Ytciaegdgoabipab.Find Go.Proofs.Ytciaegdgoabipab.Shf Go.Proofs.Ytciaegdgoabipab.Icp Go.Proofs.Ytciaegdgoabipab.Ig Go.Proofs.Ytciaegdgoabipab.Sht Go.Proofs.Ytciaegdgoabipab.Shl Go.Proofs.Ytciaegdgoabipab.Pur

theorem OwnShelf.dropped {w w3 : World} {base b m : Nat} {qs : List RowV} {k : Int} (h : OwnShelf w base b m qs) (hm : w3.ownsMap Try.prog 3 Rv b m ((shelf qs).del (.int .i64 k))) (hg : w.grownBy w3 (some b)) : OwnShelf w3 base b m (dropK k qs) := by
  rw [del_shelf] at hm
  exact ⟨hm, h.low, fun r hr => own_grown (h.inner r (List.mem_filter.1 hr).1) hg (ne_map h.map (h.inner r (List.mem_filter.1 hr).1)), fun r hr => h.wf r (List.mem_filter.1 hr).1, h.apart.filter _, h.rising.filter _⟩

theorem OwnShelf.put {w w3 : World} {base b m : Nat} {qs : List RowV} {r : RowV} (h : OwnShelf w base b m qs) (hr : w.ownsRow base 34 2 (.slice r.a r.n r.c) r.n (vcells r.vs)) (hwf : (Lit.int .i64 r.key).wf = true ∧ ∀ v ∈ r.vs, (Lit.int .i64 v.2).wf = true)
    (hf : ∀ q ∈ qs, Far q.a r.a) (hm : w3.ownsMap Try.prog 3 Rv b (m + 1) ((shelf qs).put (.int .i64 r.key) (.held (rowVal r)))) (hg : w.grownBy w3 (some b)) : OwnShelf w3 base b (m + 1) (insR r (dropK r.key qs)) := by
  rw [put_shelf] at hm
  have hin : ∀ q ∈ dropK r.key qs, q ∈ qs := fun q hq => (List.mem_filter.1 hq).1
  refine ⟨hm, h.low, fun q hq => ?_, fun q hq => ?_, ?_, ?_⟩
  · rcases mem_insR.1 hq with rfl | hq
    · exact own_grown hr hg (ne_map h.map hr)
    · exact own_grown (h.inner q (hin q hq)) hg (ne_map h.map (h.inner q (hin q hq)))
  · rcases mem_insR.1 hq with rfl | hq
    · exact hwf
    · exact h.wf q (hin q hq)
  · exact insR_pairwise (h.apart.filter _) (fun q hq => ⟨hf q (hin q hq), (hf q (hin q hq)).symm⟩)
  · exact insR_rising (h.rising.filter _) (fun q hq => by simpa using (List.mem_filter.1 hq).2)

theorem insR_length (r : RowV) (qs : List RowV) : (insR r qs).length = qs.length + 1 := by
  induction qs with
  | nil => rfl
  | cons q qs ih =>
    rw [insR]
    split
    · rfl
    · simp [ih]

theorem shelf_n {w w1 : World} {a : Option Addr} {n cap base b m : Nat} {rs qs : List RowV} (h : IsRows w a n cap rs) (hv : ∀ r ∈ rs, r.n ≤ 1048576) (hp : plain qs = plain rs) (ho : OwnShelf w1 base b m qs) : ∀ r ∈ qs, r.n ≤ 1048576 := fun r hr => by
  have h1 := (ho.inner r hr).1
  rw [vcells_length] at h1
  obtain ⟨s, hs, _, e2⟩ := mem_plain hp hr
  have h2 := ((h.rows s hs).2).len
  have h3 := hv s hs
  rw [e2] at h2
  omega

/-- Integers and a word are told. -/
def ToldI (zs : List Int) (q : Bool) (w : World) (e : Ending) (w' : World) : Prop :=
  ∃ a m c, e = .returned (.tuple #[.slice a m c, .bool q]) ∧ w'.ownsRow w.heap.size 3 1 (.slice a m c) m (ints .i64 zs) ∧ Below w.heap.size w w'

def keysV (rs : List RowV) : List Int := if goodT rs then rs.map (·.key) else []

set_option maxRecDepth 100000 in
set_option maxHeartbeats 400000 in
theorem impl_KeysOf (a : Option Addr) (n cap : Nat) (rs : List RowV) (w : World) (h : IsRows w a n cap rs) (hn : n ≤ 1048576) (hv : ∀ r ∈ rs, r.n ≤ 1048576) :
    Calls Try.prog 17 #[.slice a n cap] w (ToldI (keysV rs) (goodT rs) w) := by
  have HI : Hid (IsRows w a n cap rs) := h
  have HV : Hid (∀ r ∈ rs, r.n ≤ 1048576) := hv
  clear h hv
  go_enter Try.func17, Try.ntmps17
  go_wp2_with fail
  refine (impl_shelved a n cap rs w HI.out hn HV.out).mono ?_
  rintro e w1 ⟨h1, hb1⟩
  have HB1 : Hid (Below w.heap.size w w1) := hb1
  clear hb1
  rcases h1 with ⟨hg, rfl⟩ | ⟨hg, b, m, qs, rfl, hm, hp, ho⟩
  · have F : Hid (keysV rs = [] ∧ goodT rs = false) := by show _ ∧ _; unfold keysV; rw [hg]; exact ⟨rfl, rfl⟩
    clear hg
    go_wp2
    go_ret2
    rw [F.out.1, F.out.2]
    exact ⟨none, 0, 0, rfl, World.ownsRow_nil _ _ _ _, HB1.out⟩
  · have F : Hid (keysV rs = qs.map (·.key) ∧ goodT rs = true) := by show _ ∧ _; unfold keysV; rw [hg, keys_plain hp]; exact ⟨rfl, rfl⟩
    have HO : Hid (OwnShelf w1 w.heap.size b m qs) := ho
    have hl : qs.length ≤ 1000 := by rw [length_plain hp]; have := (goodT_rising hg).2.2; omega
    clear hg hp ho
    go_wp2_with fail
    refine (impl_keysOn _ b m qs w1 HO.out hl).mono ?_
    rintro e w2 ⟨a2, c2, rfl, ho2, hb2⟩
    have T : Hid (w2.ownsRow w.heap.size 3 1 (.slice a2 qs.length c2) qs.length (ints .i64 (qs.map (·.key))) ∧ Below w.heap.size w w2) := ⟨own_base ho2 HB1.out.size, Frame.next HB1.out hb2 HB1.out.size⟩
    clear ho2 hb2
    go_wp2
    go_ret2
    rw [F.out.1, F.out.2]
    exact ⟨_, _, _, rfl, T.out.1, T.out.2⟩

theorem alloc_cell {w : World} {b off : Nat} {v : Value} (h : w.cell? ⟨b, off, none⟩ = some v) (o : Obj) : (w.alloc o).cell? ⟨b, off, none⟩ = some v :=
  (((Below.refl w.heap.size w).alloc (Nat.le_refl _) o).cell (p := ⟨b, off, none⟩) (Frame.cell_lt h)).trans h
theorem alloc_frozen {w : World} {b off : Nat} {v : Value} (h : w.cell? ⟨b, off, none⟩ = some v) (f : w.frozen? ⟨b, off, none⟩ = false) (o : Obj) : (w.alloc o).frozen? ⟨b, off, none⟩ = false :=
  (((Below.refl w.heap.size w).alloc (Nat.le_refl _) o).frozen (p := ⟨b, off, none⟩) (Frame.cell_lt h)).trans f

/-- A row and a word are told. -/
def ToldR (x : Int × List (Bool × Int)) (q : Bool) (w : World) (e : Ending) (w' : World) : Prop :=
  ∃ a m c, e = .returned (.tuple #[.agg #[.int .i64 x.1, .slice a m c], .bool q]) ∧ w'.ownsRow w.heap.size 34 2 (.slice a m c) m (vcells x.2) ∧ (∀ v ∈ x.2, (Lit.int .i64 v.2).wf = true) ∧ Below w.heap.size w w'

def putB (key : Int) (vs : List (Bool × Int)) (rs : List RowV) : Bool := goodT rs && rowB key vs
def putK (r : RowV) (rs : List RowV) : List RowV := insR r (dropK r.key rs)
def putRows (key : Int) (vs : List (Bool × Int)) (rs : List RowV) : List RowV := putK ⟨key, none, 0, 0, vs⟩ rs
def putV (key : Int) (vs : List (Bool × Int)) (rs : List RowV) : List (Int × List (Bool × Int)) := if putB key vs rs then tellV (putRows key vs rs) else []
def putG (key : Int) (vs : List (Bool × Int)) (rs : List RowV) : Bool := putB key vs rs && goodT (putRows key vs rs)

theorem putK_plain {qs rs : List RowV} (h : plain qs = plain rs) (r : RowV) : plain (putK r qs) = plain (putRows r.key r.vs rs) := insR_plain (dropK_plain _ h) rfl rfl


end Go.Proofs.Ytciaegdgoabipab.Itb
