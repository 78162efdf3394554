/-
  Contracts of the model's l2Tell and DropRow.
-/
import Derived.Test.YtciaegdgoabipabDrp
namespace Go.Proofs.Ytciaegdgoabipab.Tel
open Go.RowKit
open Go.Proofs.Ytciaegdgoabipab.Frame Go.Proofs.Ytciaegdgoabipab.Mem Go.Proofs.Ytciaegdgoabipab.Vals Go.Proofs.Ytciaegdgoabipab.Rws Go.Proofs.Ytciaegdgoabipab.Val Go.Proofs.Ytciaegdgoabipab.Tab Go.Proofs.Ytciaegdgoabipab.Reg Go.Proofs.Ytciaegdgoabipab.Gtab Go.Proofs.Ytciaegdgoabipab.Cpy Go.Proofs.Ytciaegdgoabipab.Own Go.Proofs.Ytciaegdgoabipab.Drp

theorem OwnRows.mono {w : World} {base base' : Nat} {a : Option Addr} {n cap : Nat} {rs : List RowV} (h : OwnRows w base a n cap rs) (hb : base' ≤ base) : OwnRows w base' a n cap rs :=
  ⟨own_base h.outer hb, fun r hr => own_base (h.inner r hr) hb, h.wf, h.apart, h.apart0⟩

/-- A table and a word are told: the rows as plain values. -/
def Told (xs : List (Int × List (Bool × Int))) (b : Bool) (w : World) (e : Ending) (w' : World) : Prop :=
  ∃ a m c qs, e = .returned (.tuple #[.slice a m c, .bool b]) ∧ plain qs = xs ∧ OwnRows w' w.heap.size a m c qs ∧ Below w.heap.size w w'

theorem told_no {w w' : World} (hb : Below w.heap.size w w') : Told [] false w (.returned (.tuple #[.slice none 0 0, .bool false])) w' :=
  ⟨none, 0, 0, [], rfl, rfl, ownRows_nil _ _, hb⟩

def tellV (rs : List RowV) : List (Int × List (Bool × Int)) := if goodT rs then plain rs else []

def hasB (key : Int) (rs : List RowV) : Bool := goodT rs && decide (0 ≤ find key rs)

def dropV (key : Int) (rs : List RowV) : List (Int × List (Bool × Int)) := if hasB key rs then tellV (dropK key rs) else []

def dropB (key : Int) (rs : List RowV) : Bool := hasB key rs && goodT (dropK key rs)

theorem Told.base {xs : List (Int × List (Bool × Int))} {b : Bool} {w w1 w2 : World} {e : Ending} (h : Told xs b w1 e w2) (hb : Below w.heap.size w w1) : Told xs b w e w2 := by
  obtain ⟨a, m, c, qs, he, hp, ho, hb2⟩ := h
  exact ⟨a, m, c, qs, he, hp, OwnRows.mono ho hb.size, Frame.next hb hb2 hb.size⟩


end Go.Proofs.Ytciaegdgoabipab.Tel
