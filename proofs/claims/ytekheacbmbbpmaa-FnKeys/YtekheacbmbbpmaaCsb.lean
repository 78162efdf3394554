/-
  Sets of columns: two held against each other, one within another, all that is told by some; listed: contracts of the program.
-/
import Derived.Test.YtekheacbmbbpmaaCsa
import Derived.Test.YtekheacbmbbpmaaDga
namespace Go.Proofs.Ytekheacbmbbpmaa.Csb
open Go.RowKit
open Go.Proofs.Ytekheacbmbbpmaa.Frame Go.Proofs.Ytekheacbmbbpmaa.Mem Go.Proofs.Ytekheacbmbbpmaa.Ints Go.Proofs.Ytekheacbmbbpmaa.Kep Go.Proofs.Ytekheacbmbbpmaa.Lls Go.Proofs.Ytekheacbmbbpmaa.Mis Go.Proofs.Ytekheacbmbbpmaa.Csa Go.Proofs.Ytekheacbmbbpmaa.Dls Go.Proofs.Ytekheacbmbbpmaa.Dlk
open Go.Proofs.Ytekheacbmbbpmaa.Rel hiding Ll
open Go.Proofs.Ytekheacbmbbpmaa.Cpu hiding Dp

def sameS (f g : Cs) : Bool := (List.range 6).all fun i => f i == g i
theorem sameS_iff {f g : Cs} : sameS f g = true ↔ ∀ i, i < 6 → f i = g i := by
  unfold sameS
  rw [List.all_eq_true]
  exact ⟨fun h i hi => by simpa using h i (List.mem_range.2 hi), fun h i hi => by simpa using h i (List.mem_range.1 hi)⟩
theorem items {d : Nat} {e : TypeId} (he : Try.prog.plainKey e = true) (hu : Try.prog.underlying e = some .bool) (xs ys : Array Value) (f g : Cs) (hx : ∀ i, i < 6 → xs[i]? = some (.bool (f i))) (hy : ∀ i, i < 6 → ys[i]? = some (.bool (g i))) (w : World) :
    ∀ is : List Nat, (∀ i ∈ is, i < 6) → (Op.eqItems (d + 1) e 1 xs ys is).run Try.prog w = .ok (is.all fun i => f i == g i) w
  | [], _ => by simp [Op.eqItems]
  | j :: is, h => by
    have hj := h j (by simp)
    have ih := items (d := d) he hu xs ys f g hx hy w is (fun i hi => h i (by simp [hi]))
    simp only [Op.eqItems, Sem.run_bind, Nat.mul_one, run_part_plain w he (hx j hj), run_part_plain w he (hy j hj), Result.andThen_ok, run_equalIn_bool w d e _ _ hu]
    cases hb : (f j == g j)
    · simp [hb]
    · simp only [Bool.not_true, Bool.false_eq_true, if_false, ih, List.all_cons, hb, Bool.true_and]
theorem infoB : (Try.prog.info? 4).map (fun i => (i.zero, i.size, i.bytes)) = some (some (.bool false), 1, 1) := by kernel_rfl
theorem eql_cs (f g : Cs) (w : World) : (binOp .eql 48 (.agg #[.bool (f 0), .bool (f 1), .bool (f 2), .bool (f 3), .bool (f 4), .bool (f 5)]) (.agg #[.bool (g 0), .bool (g 1), .bool (g 2), .bool (g 3), .bool (g 4), .bool (g 5)])).run Try.prog w = .ok (.bool (sameS f g)) w := by
  obtain ⟨i0, hi, _, _, _⟩ := info_parts infoB
  have hu : Try.prog.underlying 48 = some (.array 6 4) := by kernel_rfl
  have hc : Try.prog.cellsOf 4 = 1 := by kernel_rfl
  rw [run_eql_struct, show (10000 : Nat) = 9999 + 1 from rfl, run_equalIn_array w 9999 _ _ hu hi, hc, show (9999 : Nat) = 9998 + 1 from rfl,
    items (f := f) (g := g) (by kernel_rfl) (by kernel_rfl) _ _ (Csa.six rfl rfl rfl rfl rfl rfl) (Csa.six rfl rfl rfl rfl rfl rfl) w (List.range 6) (fun i hi => List.mem_range.1 hi)]
  rfl

def withinB (f g : Cs) : Bool := sameS (orS f g) g
theorem withinB_iff {f g : Cs} : withinB f g = true ↔ ∀ i, i < 6 → f i = true → g i = true := by
  unfold withinB
  rw [sameS_iff]
  constructor
  · intro h i hi hf
    have := h i hi
    simpa [orS, hf] using this.symm
  · intro h i hi
    unfold orS
    cases hf : f i
    · rfl
    · rw [h i hi hf]; rfl

set_option maxRecDepth 4000 in
set_option maxHeartbeats 3200000 in
theorem isWithin (f g : Cs) (w : World) :
    Calls Try.prog 21 #[.agg #[.bool (f 0), .bool (f 1), .bool (f 2), .bool (f 3), .bool (f 4), .bool (f 5)], .agg #[.bool (g 0), .bool (g 1), .bool (g 2), .bool (g 3), .bool (g 4), .bool (g 5)]] w fun e w' => e = .returned (.bool (withinB f g)) ∧ Below w.heap.size w w' := by
  have h1 : At6 ((w.alloc (.cells #[.bool (f 0), .bool (f 1), .bool (f 2), .bool (f 3), .bool (f 4), .bool (f 5)] 48)).alloc (.cells #[.bool (g 0), .bool (g 1), .bool (g 2), .bool (g 3), .bool (g 4), .bool (g 5)] 48)) w.heap.size f := (At6.made w f 48).below ((Below.refl _ _).alloc (Nat.le_refl _) _)
  have h2 : At6 ((w.alloc (.cells #[.bool (f 0), .bool (f 1), .bool (f 2), .bool (f 3), .bool (f 4), .bool (f 5)] 48)).alloc (.cells #[.bool (g 0), .bool (g 1), .bool (g 2), .bool (g 3), .bool (g 4), .bool (g 5)] 48)) (w.heap.size + 1) g := by
    have h := At6.made (w.alloc (.cells #[.bool (f 0), .bool (f 1), .bool (f 2), .bool (f 3), .bool (f 4), .bool (f 5)] 48)) g 48
    rw [show (w.alloc (.cells #[.bool (f 0), .bool (f 1), .bool (f 2), .bool (f 3), .bool (f 4), .bool (f 5)] 48)).heap.size = w.heap.size + 1 by simp] at h
    exact h
  have hb : Below w.heap.size w ((w.alloc (.cells #[.bool (f 0), .bool (f 1), .bool (f 2), .bool (f 3), .bool (f 4), .bool (f 5)] 48)).alloc (.cells #[.bool (g 0), .bool (g 1), .bool (g 2), .bool (g 3), .bool (g 4), .bool (g 5)] 48)) := ((Below.refl _ _).alloc (Nat.le_refl _) _).alloc (by simp) _
  have EQ : ∀ w, (binOp .eql 48 (.agg #[.bool (orS f g 0), .bool (orS f g 1), .bool (orS f g 2), .bool (orS f g 3), .bool (orS f g 4), .bool (orS f g 5)]) (.agg #[.bool (g 0), .bool (g 1), .bool (g 2), .bool (g 3), .bool (g 4), .bool (g 5)])).run Try.prog w = .ok (.bool (sameS (orS f g) g)) w := eql_cs (orS f g) g
  have hgd : Try.prog.eqGuardType Try.prog.depth 48 = false := by kernel_rfl
  go_enter Try.func21, Try.ntmps21
  go_wp2_with fail
  generalize ((w.alloc (.cells #[.bool (f 0), .bool (f 1), .bool (f 2), .bool (f 3), .bool (f 4), .bool (f 5)] 48)).alloc (.cells #[.bool (g 0), .bool (g 1), .bool (g 2), .bool (g 3), .bool (g 4), .bool (g 5)] 48)) = W at h1 h2 hb ⊢
  obtain ⟨p0, p1, p2, p3, p4, p5⟩ := h1.cells
  obtain ⟨q0, q1, q2, q3, q4, q5⟩ := h2.cells
  have HB : Hid (Below w.heap.size w W) := hb
  clear h1 h2 hb
  go_region_held3 (fun w' => Below W.heap.size W w' ∧ w'.cell? ⟨w.heap.size, 0, none⟩ = some (.bool (f 0)) ∧ w'.cell? ⟨w.heap.size, 1, none⟩ = some (.bool (f 1)) ∧ w'.cell? ⟨w.heap.size, 2, none⟩ = some (.bool (f 2)) ∧ w'.cell? ⟨w.heap.size, 3, none⟩ = some (.bool (f 3)) ∧ w'.cell? ⟨w.heap.size, 4, none⟩ = some (.bool (f 4)) ∧ w'.cell? ⟨w.heap.size, 5, none⟩ = some (.bool (f 5)) ∧ w'.cell? ⟨w.heap.size + 1, 0, none⟩ = some (.bool (g 0)) ∧ w'.cell? ⟨w.heap.size + 1, 1, none⟩ = some (.bool (g 1)) ∧ w'.cell? ⟨w.heap.size + 1, 2, none⟩ = some (.bool (g 2)) ∧ w'.cell? ⟨w.heap.size + 1, 3, none⟩ = some (.bool (g 3)) ∧ w'.cell? ⟨w.heap.size + 1, 4, none⟩ = some (.bool (g 4)) ∧ w'.cell? ⟨w.heap.size + 1, 5, none⟩ = some (.bool (g 5)))
    (first | exact ⟨(Below.refl _ _).drew, p0, p1, p2, p3, p4, p5, q0, q1, q2, q3, q4, q5⟩ | with_reducible exact (fun kb => ⟨kb, Frame.held_cell kb p0, Frame.held_cell kb p1, Frame.held_cell kb p2, Frame.held_cell kb p3, Frame.held_cell kb p4, Frame.held_cell kb p5, Frame.held_cell kb q0, Frame.held_cell kb q1, Frame.held_cell kb q2, Frame.held_cell kb q3, Frame.held_cell kb q4, Frame.held_cell kb q5⟩) (Frame.held_next ‹Below W.heap.size W _ ∧ _› hb1))
    (first | (go_at_call 46; refine (united f g _).mono ?_; rintro e w1 ⟨rfl, hb1⟩; unfold csv))
  all_goals
    have B1 : Hid (Below w.heap.size w w1) := Frame.next HB.out (And.left ‹Below W.heap.size W _ ∧ _›) HB.out.size
    go_wp2
    go_ret
    exact ⟨rfl, B1.out⟩


end Go.Proofs.Ytekheacbmbbpmaa.Csb
