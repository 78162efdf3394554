/-
  Sets of columns: what is in both, what is in one and not in the other: contracts of the program's inBoth and without; two sets that are not the same.
-/
import Derived.Test.YtekheacbmbbpmaaCsb
namespace Go.Proofs.Ytekheacbmbbpmaa.Csg
open Go.RowKit
open Go.Proofs.Ytekheacbmbbpmaa.Frame Go.Proofs.Ytekheacbmbbpmaa.Mem Go.Proofs.Ytekheacbmbbpmaa.Ints Go.Proofs.Ytekheacbmbbpmaa.Kep Go.Proofs.Ytekheacbmbbpmaa.Lls Go.Proofs.Ytekheacbmbbpmaa.Mis Go.Proofs.Ytekheacbmbbpmaa.Csa Go.Proofs.Ytekheacbmbbpmaa.Csb
open Go.Proofs.Ytekheacbmbbpmaa.Rel hiding Ll
open Go.Proofs.Ytekheacbmbbpmaa.Cpu

theorem neq_cs (f g : Cs) (w : World) : (binOp .neq 48 (.agg #[.bool (f 0), .bool (f 1), .bool (f 2), .bool (f 3), .bool (f 4), .bool (f 5)]) (.agg #[.bool (g 0), .bool (g 1), .bool (g 2), .bool (g 3), .bool (g 4), .bool (g 5)])).run Try.prog w = .ok (.bool (!sameS f g)) w := by
  obtain ⟨i0, hi, _, _, _⟩ := info_parts infoB
  have hu : Try.prog.underlying 48 = some (.array 6 4) := by kernel_rfl
  have hc : Try.prog.cellsOf 4 = 1 := by kernel_rfl
  rw [run_neq_struct, show (10000 : Nat) = 9999 + 1 from rfl, run_equalIn_array w 9999 _ _ hu hi, hc, show (9999 : Nat) = 9998 + 1 from rfl,
    items (f := f) (g := g) (by kernel_rfl) (by kernel_rfl) _ _ (Csa.six rfl rfl rfl rfl rfl rfl) (Csa.six rfl rfl rfl rfl rfl rfl) w (List.range 6) (fun i hi => List.mem_range.1 hi)]
  rfl

def andS (f g : Cs) : Cs := fun i => f i && g i
def andTo (f g : Cs) (k : Nat) : Cs := fun i => if i < k then f i && g i else f i
theorem and_next (f g : Cs) (k : Nat) : ∀ i, i < 6 → setS (andTo f g k) k (f k && g k) i = andTo f g (k + 1) i := fun i _ => by
  unfold setS andTo
  by_cases e : i = k
  · rw [if_pos e, if_pos (by omega), e]
  · rw [if_neg e]
    by_cases h : i < k
    · rw [if_pos h, if_pos (by omega)]
    · rw [if_neg h, if_neg (by omega)]

def lessS (f g : Cs) : Cs := fun i => f i && !g i
def lessTo (f g : Cs) (k : Nat) : Cs := fun i => if i < k then f i && !g i else f i
theorem less_next (f g : Cs) (k : Nat) : ∀ i, i < 6 → setS (lessTo f g k) k (f k && !g k) i = lessTo f g (k + 1) i := fun i _ => by
  unfold setS lessTo
  by_cases e : i = k
  · rw [if_pos e, if_pos (by omega), e]
  · rw [if_neg e]
    by_cases h : i < k
    · rw [if_pos h, if_pos (by omega)]
    · rw [if_neg h, if_neg (by omega)]


end Go.Proofs.Ytekheacbmbbpmaa.Csg
