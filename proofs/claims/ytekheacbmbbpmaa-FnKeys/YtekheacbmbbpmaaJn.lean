/-
  What the program's JoinTwo is made of: kept and Concat on numbers, Equal.
-/
import Derived.Test.YtekheacbmbbpmaaOi
import Derived.Test.YtekheacbmbbpmaaOg
import Derived.Test.YtekheacbmbbpmaaOk
import Derived.Test.YtekheacbmbbpmaaOf
namespace Go.Proofs.Ytekheacbmbbpmaa.Jn
open Go.RowKit
open Go.Proofs.Ytekheacbmbbpmaa.Frame Go.Proofs.Ytekheacbmbbpmaa.Mem Go.Proofs.Ytekheacbmbbpmaa.Ints Go.Proofs.Ytekheacbmbbpmaa.Kep Go.Proofs.Ytekheacbmbbpmaa.Lls Go.Proofs.Ytekheacbmbbpmaa.Rpu Go.Proofs.Ytekheacbmbbpmaa.Krl Go.Proofs.Ytekheacbmbbpmaa.Oa Go.Proofs.Ytekheacbmbbpmaa.Ob Go.Proofs.Ytekheacbmbbpmaa.Oe Go.Proofs.Ytekheacbmbbpmaa.Og Go.Proofs.Ytekheacbmbbpmaa.Mis Go.Proofs.Ytekheacbmbbpmaa.Told Go.Proofs.Ytekheacbmbbpmaa.Rel

/-- A call of the function enters it. -/
def Enters (P : Program) (f : FuncId) : Prop := ∀ (args : Array Value) (w : World), (callFunc f args).run P w = .ok (.enter f args) w
theorem enters {P : Program} {f : FuncId} {fn : Func} {c : Code} (hf : P.funcs[f]? = some fn) (hname : (fn.name == "runtime.NumGoroutine") = false) (hb : fn.body = some c) : Enters P f := fun args w => by
  have h1 : fn.name ≠ "runtime.NumGoroutine" := by simpa using hname
  simp [callFunc, hf, h1, hb]

theorem infoI : (Try.prog.info? 3).map (fun i => (i.zero, i.size, i.bytes)) = some (some (.int .i64 0), 1, 8) := by kernel_rfl

theorem below_drewN {B : Nat} {v w : World} (h : Below B v w) (n : Nat) : Below B v (w.drewN n) := ⟨h.os, h.tape, h.output, h.size, h.block⟩
theorem eq_take_z {xs ys : List Int} {k : Nat} (hx : k < xs.length) (hy : k < ys.length) (h : xs.take k = ys.take k) (e : xs.getD k 0 = ys.getD k 0) : xs.take (k + 1) = ys.take (k + 1) := by
  rw [take_succ_getD hx, take_succ_getD hy, h, e]


end Go.Proofs.Ytekheacbmbbpmaa.Jn
