/-
  Locks as data, pure: who holds what, which locks are good, which asks are as said, who keeps an ask off, what an ask makes of them.
-/
import Derived.Test.YtkondmnkmbdncaaRel
import Derived.Test.YtkondmnkmbdncaaSLocks
namespace Go.Proofs.Ytkondmnkmbdncaa.Lkp
open Go.Proofs.Ytkondmnkmbdncaa.Val Go.Proofs.Ytkondmnkmbdncaa.Mem Go.Proofs.Ytkondmnkmbdncaa.Rel
open Go.Proofs.Ytkondmnkmbdncaa.SLocks (D)

def four : List Int := [0, 1, 2, 3]
def rowAt (d : D) (k : Nat) : List Int := d.1.getD k []
def wrAt (d : D) (k : Nat) : Int := d.2.1.getD k 0
def readB (d : D) (who k : Int) : Bool := decide (who ∈ rowAt d k.toNat)
def writeB (d : D) (who k : Int) : Bool := wrAt d k.toNat == who
def heldB (d : D) (who k : Int) : Bool := readB d who k || writeB d who k
def heldN (d : D) (who : Int) : List Int := four.filter (heldB d who)
def noneB (d : D) (who : Int) : Bool := decide (heldN d who = [])
def besideB (x : Int) (r : List Int) : Bool := x == -1 || (inB x 0 3 && (decide (r = []) || decide (r = [x])))
def itemB (d : D) (k : Nat) : Bool := riseB 0 3 (rowAt d k) && besideB (wrAt d k) (rowAt d k)
def onceB (o : List Int) : Bool := o.all (fun z => inB z 0 3) && decide o.Nodup
def goodK (d : D) : Bool := decide (d.1.length = 4) && (decide (d.2.1.length = 4) && (onceB d.2.2 && ((List.range 4).all (itemB d) && d.2.2.all (noneB d))))

/-- An ask: who, of what, to write, to end. -/
abbrev Ak := Int × Int × Bool × Bool
def askB (d : D) (a : Ak) : Bool := inB a.1 0 3 && (!(decide (a.1 ∈ d.2.2)) && (bif a.2.2.2 then (a.2.1 == 0 && !a.2.2.1) else inB a.2.1 0 3))
def keepB (d : D) (a : Ak) (who : Int) : Bool := who != a.1 && (bif a.2.2.1 then heldB d who a.2.1 else writeB d who a.2.1)
def waitN (d : D) (a : Ak) : List Int := four.filter (keepB d a)
def waitG (d : D) (a : Ak) : Bool := goodK d && (askB d a && !a.2.2.2)
def waitV (d : D) (a : Ak) : List Int := if waitG d a then waitN d a else []
def heldG (d : D) (who : Int) : Bool := goodK d && inB who 0 3
def heldV (d : D) (who : Int) : List Int := if heldG d who then heldN d who else []

theorem inB_iff {n lo hi : Int} : inB n lo hi = true ↔ lo ≤ n ∧ n ≤ hi := by unfold inB; rw [decide_eq_true_eq]
theorem four_mem {z : Int} : z ∈ four ↔ 0 ≤ z ∧ z ≤ 3 := by
  unfold four
  simp only [List.mem_cons, List.not_mem_nil, or_false]
  omega
theorem good_parts {d : D} (h : goodK d = true) : d.1.length = 4 ∧ d.2.1.length = 4 ∧ onceB d.2.2 = true ∧ (∀ k, k < 4 → itemB d k = true) ∧ ∀ z ∈ d.2.2, noneB d z = true := by
  unfold goodK at h
  simp only [Bool.and_eq_true, decide_eq_true_eq, List.all_eq_true, List.mem_range] at h
  exact h
theorem once_len {o : List Int} (h : onceB o = true) : o.length ≤ 4 := by
  unfold onceB at h
  simp only [Bool.and_eq_true, decide_eq_true_eq, List.all_eq_true] at h
  have hs : o ⊆ four := fun z hz => four_mem.2 (inB_iff.1 (h.1 z hz))
  have := h.2.length_le_of_subset hs
  exact this


end Go.Proofs.Ytkondmnkmbdncaa.Lkp
