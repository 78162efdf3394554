/-
  Contracts of the model's l2Tell and DropRow.
-/
import Derived.Test.YtciaegdgoabipaaDrp
namespace Go.Proofs.Ytciaegdgoabipaa.Tel
open Go.RowKit
open Go.Proofs.Ytciaegdgoabipaa.Frame Go.Proofs.Ytciaegdgoabipaa.Mem Go.Proofs.Ytciaegdgoabipaa.Vals Go.Proofs.Ytciaegdgoabipaa.Rws Go.Proofs.Ytciaegdgoabipaa.Val Go.Proofs.Ytciaegdgoabipaa.Tab Go.Proofs.Ytciaegdgoabipaa.Reg Go.Proofs.Ytciaegdgoabipaa.Gtab Go.Proofs.Ytciaegdgoabipaa.Cpy Go.Proofs.Ytciaegdgoabipaa.Own Go.Proofs.Ytciaegdgoabipaa.Drp

theorem OwnRows.mono {w : World} {base base' : Nat} {a : Option Addr} {n cap : Nat} {rs : List RowV} (h : OwnRows w base a n cap rs) (hb : base' ≤ base) : OwnRows w base' a n cap rs :=
  ⟨own_base h.outer hb, fun r hr => own_base (h.inner r hr) hb, h.wf, h.apart, h.apart0⟩

/-- A table and a word are told: the rows as plain values. -/
def Told (xs : List (Int × List (Bool × Int))) (b : Bool) (w : World) (e : Ending) (w' : World) : Prop :=
  ∃ a m c qs, e = .returned (.tuple #[.slice a m c, .bool b]) ∧ plain qs = xs ∧ OwnRows w' w.heap.size a m c qs ∧ Below w.heap.size w w'

theorem told_no {w w' : World} (hb : Below w.heap.size w w') : Told [] false w (.returned (.tuple #[.slice none 0 0, .bool false])) w' :=
  ⟨none, 0, 0, [], rfl, rfl, ownRows_nil _ _, hb⟩

def tellV (rs : List RowV) : List (Int × List (Bool × Int)) := if goodT rs then plain rs else []

set_option maxHeartbeats 800000 in
theorem spec_l2Tell (a : Option Addr) (n cap : Nat) (rs : List RowV) (w : World) (h : IsRows w a n cap rs) (hn : n ≤ 1048576) (hv : ∀ r ∈ rs, r.n ≤ 1048576) :
    Calls Try.prog 50 #[.slice a n cap] w (Told (tellV rs) (goodT rs) w) := by
  have HI : Hid (IsRows w a n cap rs) := h
  have HV : Hid (∀ r ∈ rs, r.n ≤ 1048576) := hv
  clear h hv
  go_enter Try.func50, Try.ntmps50
  go_wp2_with fail
  refine (spec_GoodTable a n cap rs _ HI.out hn HV.out).mono ?_
  rintro e w1 ⟨rfl, hb1⟩
  have B1 : Hid (Below w.heap.size w w1) := hb1
  have hs1 := hb1.size
  clear hb1
  cases hg : goodT rs
  · have F : Hid (tellV rs = []) := by show _ = _; unfold tellV; rw [hg]; rfl
    have Hg : Hid (goodT rs = false) := hg
    clear hg
    go_wp2
    go_ret2
    rw [F.out, Hg.out]
    exact told_no B1.out
  · have F : Hid (tellV rs = plain rs) := by show _ = _; unfold tellV; rw [hg]; rfl
    have Hg : Hid (goodT rs = true) := hg
    clear hg
    go_wp2_with fail
    refine (spec_l2Own a n cap rs _ (HI.out.below B1.out) hn HV.out).mono ?_
    rintro e w2 ⟨a', c', qs, rfl, hp, ho, hb2⟩
    have T : Hid (Told (tellV rs) true w (.returned (.tuple #[.slice a' n c', .bool true])) w2) := by
      show Told _ _ _ _ _
      rw [F.out]
      exact ⟨a', n, c', qs, rfl, hp, OwnRows.mono ho hs1, Frame.next B1.out hb2 hs1⟩
    clear hp ho hb2
    go_wp2
    go_ret2
    rw [Hg.out]
    exact T.out

def hasB (key : Int) (rs : List RowV) : Bool := goodT rs && decide (0 ≤ find key rs)

def dropV (key : Int) (rs : List RowV) : List (Int × List (Bool × Int)) := if hasB key rs then tellV (dropK key rs) else []

def dropB (key : Int) (rs : List RowV) : Bool := hasB key rs && goodT (dropK key rs)

theorem Told.base {xs : List (Int × List (Bool × Int))} {b : Bool} {w w1 w2 : World} {e : Ending} (h : Told xs b w1 e w2) (hb : Below w.heap.size w w1) : Told xs b w e w2 := by
  obtain ⟨a, m, c, qs, he, hp, ho, hb2⟩ := h
  exact ⟨a, m, c, qs, he, hp, OwnRows.mono ho hb.size, Frame.next hb hb2 hb.size⟩

set_option maxHeartbeats 800000 in
theorem spec_DropRow (a : Option Addr) (n cap : Nat) (rs : List RowV) (key : Int) (w : World) (h : IsRows w a n cap rs) (hn : n ≤ 1048576) (hv : ∀ r ∈ rs, r.n ≤ 1048576) :
    Calls Try.prog 19 #[.slice a n cap, .int .i64 key] w (Told (dropV key rs) (dropB key rs) w) := by
  have HL : Hid (rs.length = n) := h.len
  have HI : Hid (IsRows w a n cap rs) := h
  have HV : Hid (∀ r ∈ rs, r.n ≤ 1048576) := hv
  clear h hv
  go_enter Try.func19, Try.ntmps19
  go_wp2_with fail
  refine (spec_GoodTable a n cap rs _ HI.out hn HV.out).mono ?_
  rintro e w1 ⟨rfl, hb1⟩
  have B1 : Hid (Below w.heap.size w w1) := hb1
  have hs1 := hb1.size
  clear hb1
  cases hg : goodT rs
  · have F : Hid (dropV key rs = [] ∧ dropB key rs = false) := by show _ ∧ _; unfold dropV dropB hasB; rw [hg]; exact ⟨rfl, rfl⟩
    clear hg
    go_wp2
    go_ret2
    rw [F.out.1, F.out.2]
    exact told_no B1.out
  · have Hg : Hid (goodT rs = true) := hg
    clear hg
    go_wp2_with fail
    refine (spec_l2Find a n cap rs key _ (HI.out.below B1.out) hn).mono ?_
    rintro e w2 ⟨rfl, hb2⟩
    have B2 : Hid (Below w.heap.size w w2) := Frame.next B1.out hb2 hs1
    have hs2 : w.heap.size ≤ w2.heap.size := Nat.le_trans hs1 hb2.size
    clear hb2
    by_cases hf : find key rs < 0
    · have F : Hid (dropV key rs = [] ∧ dropB key rs = false) := by
        show _ ∧ _
        unfold dropV dropB hasB
        rw [Hg.out, decide_eq_false (by omega)]
        exact ⟨rfl, rfl⟩
      go_wp2
      go_ret2
      rw [F.out.1, F.out.2]
      exact told_no B2.out
    · have F : Hid (dropV key rs = tellV (dropK key rs) ∧ dropB key rs = goodT (dropK key rs)) := by
        show _ ∧ _
        unfold dropV dropB hasB
        rw [Hg.out, decide_eq_true (by omega)]
        exact ⟨rfl, rfl⟩
      have hf2 : 0 ≤ find key rs := by omega
      clear hf
      go_wp2_with fail
      refine (spec_l2Drop a n cap rs key _ (HI.out.below B2.out) hn).mono ?_
      rintro e w3 ⟨a', c', rfl, _, hr3, hb3⟩
      have B3 : Hid (Below w.heap.size w w3) := Frame.next B2.out hb3 hs2
      have HI3 : Hid (IsRows w3 a' (dropK key rs).length c' (dropK key rs)) := hr3
      have HLe : Hid ((dropK key rs).length ≤ 1048576) := Nat.le_trans (dropK_le _ _) (by rw [HL.out]; exact hn)
      clear hr3 hb3
      go_wp2_with fail
      refine (spec_l2Tell _ _ _ _ _ HI3.out HLe.out (fun r hr => HV.out r (List.mem_filter.1 hr).1)).mono ?_
      intro e w4 hT
      have T := Told.base hT B3.out
      rw [← F.out.1, ← F.out.2] at T
      obtain ⟨a4, m4, c4, qs, rfl, hp, ho, hb4⟩ := T
      have T2 : Hid (Told (dropV key rs) (dropB key rs) w (.returned (.tuple #[.slice a4 m4 c4, .bool (dropB key rs)])) w4) := ⟨a4, m4, c4, qs, rfl, hp, ho, hb4⟩
      clear hT hp ho hb4
      go_wp2
      go_ret2
      exact T2.out


end Go.Proofs.Ytciaegdgoabipaa.Tel
