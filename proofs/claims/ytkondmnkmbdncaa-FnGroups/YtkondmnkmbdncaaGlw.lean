/-
  Links as a law's argument: the opener, the size; the model's GoodLinks as the walk wants it.
-/
import Derived.Test.YtkondmnkmbdncaaGla
import Derived.Test.YtkondmnkmbdncaaOpr
namespace Go.Proofs.Ytkondmnkmbdncaa.Glw
open Go.RowKit Go.ChangeShapes Go.WideShapes Go.ChangeAt
open Go.Proofs.Ytkondmnkmbdncaa.Frame Go.Proofs.Ytkondmnkmbdncaa.Mem Go.Proofs.Ytkondmnkmbdncaa.Lls Go.Proofs.Ytkondmnkmbdncaa.Gpu
open Go.Proofs.Ytkondmnkmbdncaa.Knl

theorem links_of {H : Type} {enc : TypeId × Value → H} {W : World} {a : Option Addr} {n c : Nat} {d : DataW H} {p : List MemPlace}
    (h : DataW.Trod enc Try.prog W 0 (fun _ => true) true 23 (.slice a n c) d p) : ∃ rs, IsLs W a n c rs := by
  obtain ⟨fuel, hf⟩ := h
  obtain ⟨a', n', c', rs, e, hr⟩ := Opr.ls_of Try.underlying23 (by kernel_rfl) Try.underlying24 Try.underlying3 (by kernel_rfl) (v := .slice a n c) (by simpa [Value.cells] using hf)
  cases e
  exact ⟨rs, hr⟩

theorem l_sz (a : Option Addr) (n c : Nat) (rs : List LV) (m : Int) (w : World) (h : IsLs w a n c rs) (h0 : 0 ≤ m) (h1 : m ≤ 1048576) :
    Calls Try.prog 52 #[.slice a n c, .int .i64 m] w fun e w' => e = .returned (.int .i64 (left m (totalL rs))) ∧ Below w.heap.size w w' :=
  (Lls.szIntSS a n c rs m w h h0 h1).mono (by rintro e w' ⟨rfl, rfl⟩; exact ⟨rfl, Below.refl _ _⟩)

theorem spec_GoodLinks (v : Value) (xs : Ll) (w : World) (h : LIs w v xs) :
    Calls Try.prog 53 #[v] w fun e w' => e = .returned (.bool (goodG xs)) ∧ Below w.heap.size w w' :=
  (Gla.spec_GoodLinks v xs w h).mono (by rintro e w' ⟨rfl, rfl⟩; exact ⟨rfl, Below.refl _ _⟩)


end Go.Proofs.Ytkondmnkmbdncaa.Glw
