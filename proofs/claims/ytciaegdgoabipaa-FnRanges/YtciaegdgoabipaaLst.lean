/-
  Contracts of the model's small functions on lists of integers.
-/
import Derived.Test.YtciaegdgoabipaaInts
import Derived.Test.YtciaegdgoabipaaVal
namespace Go.Proofs.Ytciaegdgoabipaa.Lst
open Go.RowKit
open Go.Proofs.Ytciaegdgoabipaa.Frame Go.Proofs.Ytciaegdgoabipaa.Mem Go.Proofs.Ytciaegdgoabipaa.Ints

theorem ret_pair {x x' : Int} {y y' : Bool} (h : x = x') (k : y = y') : Ending.returned (.tuple #[.int .i64 x, .bool y]) = .returned (.tuple #[.int .i64 x', .bool y']) := by rw [h, k]

def allIn (lo hi : Int) (zs : List Int) : Bool := zs.all fun z => Val.inB z lo hi

theorem all_take_false (f : Int → Bool) (zs : List Int) (k : Nat) (h : k < zs.length) (e : f (zs.getD k 0) = false) : zs.all f = false := by
  rw [List.all_eq_false]
  exact ⟨_, getD_mem h, by rw [e]; exact Bool.false_ne_true⟩
theorem all_take_succ (f : Int → Bool) (zs : List Int) (k : Nat) (h : k < zs.length) (e : f (zs.getD k 0) = true) (hk : (zs.take k).all f = true) : (zs.take (k + 1)).all f = true := by
  rw [take_succ_getD h, List.all_append, hk]
  simp only [Bool.true_and, List.all_cons, List.all_nil, Bool.and_true]
  exact e


end Go.Proofs.Ytciaegdgoabipaa.Lst
