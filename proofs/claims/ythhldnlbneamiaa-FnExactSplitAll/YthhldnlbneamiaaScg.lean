/-
  A scope that is jumped in: what is shown of a pass from the label serves the first run too. It speaks of no program.
-/
import Derived.Test.YthhldnlbneamiaaFrame
import Derived.ScopeJumps
namespace Go.Proofs.Ythhldnlbneamiaa.Scg
open Go.RowKit

theorem jump_imp {l : Nat} {J J' : Act → World → Prop} {Q : Exit → Act → World → Prop} (h : ∀ a w, J a w → J' a w) : ∀ (e : Exit) (a : Act) (w : World), Exit.jump l J Q e a w → Exit.jump l J' Q e a w := fun e a w hx => by
  cases e with
  | goto l' => exact ⟨hx.1, h _ _ hx.2⟩
  | normal => exact hx
  | exit id => exact hx
  | ret => exact hx
  | panic ch => exact hx
  | outgrown => exact hx
theorem wp_scope_again {P : Program} {a : Act} {w : World} {Q : Exit → Act → World → Prop} {c rest : Code} (l : Nat) (J : Act → World → Prop) (μ : Act → World → Nat) (hf : findLabel c l = some (.seq .skip rest))
    (pass : ∀ a w, J a w → rest.wp P (Exit.jump l (fun a' w' => J a' w' ∧ μ a' w' < μ a w) Q) a w)
    (first : (∀ a w, J a w → rest.wp P (Exit.jump l J Q) a w) → c.wp P (Exit.jump l J Q) a w) : (Code.scope c).wp P Q a w :=
  wp_scope_jumps l J μ hf (first (fun a w h => Code.wp_mono (jump_imp (fun _ _ hx => hx.1)) (pass a w h))) (fun a w h => wp_seq (wp_skip (pass a w h)))


end Go.Proofs.Ythhldnlbneamiaa.Scg
