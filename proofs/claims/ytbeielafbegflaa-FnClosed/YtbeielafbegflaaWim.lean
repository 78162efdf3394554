/-
  A witness, in the program: contract of WitnessFor.
-/
import Derived.Test.YtbeielafbegflaaWsp
import Derived.Test.YtbeielafbegflaaIvb
import Derived.Deep.OwnRows
import Derived.Deep.DeepCutAuto
namespace Go.Proofs.Ytbeielafbegflaa.Wim
open Go.RowKit
open Go.Proofs.Ytbeielafbegflaa.Frame Go.Proofs.Ytbeielafbegflaa.Mem Go.Proofs.Ytbeielafbegflaa.Ints Go.Proofs.Ytbeielafbegflaa.Kep Go.Proofs.Ytbeielafbegflaa.Lls Go.Proofs.Ytbeielafbegflaa.Rpu Go.Proofs.Ytbeielafbegflaa.Krl Go.Proofs.Ytbeielafbegflaa.Mis Go.Proofs.Ytbeielafbegflaa.Told Go.Proofs.Ytbeielafbegflaa.Dls Go.Proofs.Ytbeielafbegflaa.Dlk Go.Proofs.Ytbeielafbegflaa.Csa Go.Proofs.Ytbeielafbegflaa.Csb Go.Proofs.Ytbeielafbegflaa.Csc Go.Proofs.Ytbeielafbegflaa.Csd Go.Proofs.Ytbeielafbegflaa.Csf Go.Proofs.Ytbeielafbegflaa.Lsa Go.Proofs.Ytbeielafbegflaa.Wpu Go.Proofs.Ytbeielafbegflaa.Wsp Go.Proofs.Ytbeielafbegflaa.Sc
open Go.Proofs.Ytbeielafbegflaa.Rel hiding Ll
open Go.Proofs.Ytbeielafbegflaa.Cpu hiding Dp

/-! What is 1 where a column is not in the set: as far as it has been reckoned. -/
def unS (f : Cs) (k : Nat) : List Int := (List.range k).map fun i => if f i then 0 else 1
def rowS (f : Cs) (c k : Nat) : List Int := unS f k ++ List.replicate (c - k) 0
theorem unS_succ (f : Cs) (k : Nat) : unS f (k + 1) = unS f k ++ [if f k then 0 else 1] := by unfold unS; rw [List.range_succ, List.map_append]; rfl
theorem unS_length (f : Cs) (k : Nat) : (unS f k).length = k := by unfold unS; simp
theorem rowS_yes {f : Cs} {c k : Nat} (h : k < c) (hf : f k = true) : rowS f c (k + 1) = rowS f c k := by
  unfold rowS
  rw [unS_succ, hf, if_pos rfl, show c - k = (c - (k + 1)) + 1 by omega, List.replicate_succ, List.append_assoc]
  rfl
theorem rowS_no {f : Cs} {c k : Nat} (h : k < c) (hf : f k = false) : (ints .i64 (rowS f c k)).set k (.int .i64 1) = ints .i64 (rowS f c (k + 1)) := by
  unfold rowS
  rw [unS_succ, hf, show c - k = (c - (k + 1)) + 1 by omega, List.replicate_succ]
  unfold ints
  rw [List.map_append, List.set_append_right _ _ (by rw [List.length_map, unS_length]; exact Nat.le_refl _), List.length_map, unS_length]
  simp
theorem rowS_end {f : Cs} {c : Nat} : rowS f c c = unS f c := by unfold rowS; simp
theorem unS_is {ds : List Dp} {zs : List Int} {c : Nat} (hz : ∀ z ∈ zs, 0 ≤ z ∧ z < 6) : unS (clS ds (inS zs)) c = unl ds zs c := by
  unfold unS unl
  exact List.map_congr_left (fun i _ => by rw [clS_in hz i])
/-- A row of zeros of one's own. -/
def Zr (c base : Nat) (W : World) (g : Nat) : Prop := W.ownsRow base 3 1 (.slice (some ⟨g, 0, none⟩) c c) c (ints .i64 (List.replicate c 0))
theorem zr_made {c base : Nat} {W : World} (hc : c ≤ 6) (hb : base ≤ W.heap.size) : Zr c base (W.alloc (.cells (madeCells #[.int .i64 0] c) 3)) W.heap.size := by
  have h := World.ownsRow_lit (e := 3) (size := 1) W (madeCells #[.int .i64 0] c) c hb (by unfold maxLen; omega) (by rw [size_madeCells, Nat.mul_one])
  rw [toList_madeCells_one] at h
  have e : ints .i64 (List.replicate c 0) = List.replicate c (Value.int .i64 0) := by simp [ints]
  show World.ownsRow _ _ _ _ _ _ _
  rw [e]
  exact h
theorem Zr.below {c base g : Nat} {W W' : World} (h : Zr c base W g) (hb : Below W.heap.size W W') : Zr c base W' g := own_below h hb
theorem Zr.lt {c base g : Nat} {W : World} (h : Zr c base W g) : base ≤ g ∧ g < W.heap.size := own_block h _ rfl
/-- The list of two tuples. -/
def Br (c gu : Nat) (W : World) (g h : Nat) : Prop := W.cell? ⟨h, 0, none⟩ = some (.slice (some ⟨g, 0, none⟩) c c) ∧ W.cell? ⟨h, 1, none⟩ = some (.slice (some ⟨gu, 0, none⟩) c c)

theorem wit_core {w W : World} {base c g gu h na nc : Nat} {a : Option Addr} {us : List Int} (hz : Zr c base W g) (hu : W.ownsRow base 3 1 (.slice (some ⟨gu, 0, none⟩) c c) c (ints .i64 us)) (huw : ∀ z ∈ us, (Lit.int .i64 z).wf = true) (hn : IOwn W base W.heap.size (.slice a na nc) (namesC c))
    (hh : W.ownsRow base 24 1 (.slice (some ⟨h, 0, none⟩) 2 2) 2 [.slice (some ⟨g, 0, none⟩) c c, .slice (some ⟨gu, 0, none⟩) c c]) (hg : g ≠ gu) (hag : ∀ x, a = some x → x.block ≠ g ∧ x.block ≠ gu) (hc : c ≤ 6) (hw : w.heap.size ≤ base) (hB : Below w.heap.size w W) :
    RTold (namesC c, [List.replicate c 0, us]) true w (.returned (.tuple #[.agg #[.slice a na nc, .slice (some ⟨h, 0, none⟩) 2 2], .bool true])) W := by
  have hul : us.length = c := by have := hu.1; rw [ints_length] at this; omega
  obtain ⟨_, _, _, e, hna, hnw, hn6, hnb⟩ := hn
  cases e
  have hOL : OwnLs W base (some ⟨h, 0, none⟩) 2 2 [⟨some ⟨g, 0, none⟩, c, c, List.replicate c 0⟩, ⟨some ⟨gu, 0, none⟩, c, c, us⟩] := by
    refine ⟨hh, fun r hr => ?_, fun r hr => ?_, ?_, fun r hr => ?_⟩
    · rcases List.mem_cons.1 hr with rfl | hr
      · exact hz
      · rw [List.mem_singleton.1 hr]; exact hu
    · rcases List.mem_cons.1 hr with rfl | hr
      · exact zero_wf c
      · rw [List.mem_singleton.1 hr]; exact huw
    · rw [List.pairwise_cons]
      refine ⟨fun s hs x y hx hy => ?_, List.pairwise_singleton _ _⟩
      rw [List.mem_singleton.1 hs] at hy
      cases hx
      cases hy
      exact hg
    · rcases List.mem_cons.1 hr with rfl | hr
      · exact Far.symm (own_far hz hh intNe)
      · rw [List.mem_singleton.1 hr]; exact Far.symm (own_far hu hh intNe)
  have hQ : QOwn W base W.heap.size (.slice a na nc) (.slice (some ⟨h, 0, none⟩) 2 2) (namesC c, [List.replicate c 0, us]) := by
    refine ⟨_, ⟨_, _, _, rfl, hna, hnw, hn6, hnb⟩, ⟨_, _, _, rfl, hOL, ?_, own_block hh, fun r hr x hx => own_block (hOL.inner r hr) x hx⟩, rfl, own_far hna hh intNe, fun r hr x y hx hy => ?_⟩
    · exact total_same (m := c) (n := 2) (fun r hr => by rcases List.mem_cons.1 hr with rfl | hr; rfl; rw [List.mem_singleton.1 hr]) (by simp) (by omega)
    · rcases List.mem_cons.1 hr with rfl | hr
      · cases hy
        exact (hag x hx).1
      · rw [List.mem_singleton.1 hr] at hy
        cases hy
        exact (hag x hx).2
  exact ⟨_, _, _, _, _, _, rfl, qOwn_wide hQ hw (Nat.le_refl _), hB⟩
theorem br_own {W : World} {base : Nat} (hb : base ≤ W.heap.size) (x y : Value) : (W.alloc (.cells #[x, y] 24)).ownsRow base 24 1 (.slice (some ⟨W.heap.size, 0, none⟩) 2 2) 2 [x, y] := by
  have h := World.ownsRow_lit (e := 24) (size := 1) W #[x, y] 2 hb (by unfold maxLen; omega) rfl
  exact h

theorem iOwn_hi {w : World} {lo hi n c : Nat} {a : Option Addr} {zs : List Int} (h : IOwn w lo hi (.slice a n c) zs) : ∀ x, a = some x → x.block < hi := by
  obtain ⟨_, _, _, e, _, _, _, hb⟩ := h
  cases e
  exact fun x hx => (hb x hx).2
theorem iOwn_lo {w : World} {lo hi n c : Nat} {a : Option Addr} {zs : List Int} (h : IOwn w lo hi (.slice a n c) zs) : ∀ x, a = some x → lo ≤ x.block := by
  obtain ⟨_, _, _, e, _, _, _, hb⟩ := h
  cases e
  exact fun x hx => (hb x hx).1

theorem br_size {W : World} {base : Nat} {o : Obj} {x y : Value} (h : ((W.alloc o).alloc (.cells #[x, y] 24)).ownsRow base 24 1 (.slice (some ⟨(W.alloc o).heap.size, 0, none⟩) 2 2) 2 [x, y]) : ((W.alloc o).alloc (.cells #[x, y] 24)).ownsRow base 24 1 (.slice (some ⟨W.heap.size + 1, 0, none⟩) 2 2) 2 [x, y] := by
  rwa [World.size_alloc] at h
theorem row_set {W : World} {base b n c s : Nat} {e : TypeId} {a : Option Addr} {xs : List Value} {v0 v1 : Value} (h : W.ownsRow base e s (.slice a n c) n xs) (hb : b < base) : ((W.setCell ⟨b, 0, none⟩ v0).setCell ⟨b, 1, none⟩ v1).ownsRow base e s (.slice a n c) n xs := by
  have h1 := own_keeps (lo := base) (hi := W.heap.size) (lo' := b) (hi' := b + 1) h (own_block h) (keeps_set W 0 v0 ⟨Nat.le_refl _, Nat.lt_succ_self _⟩) (Or.inr hb)
  exact own_keeps (lo := base) (lo' := b) (hi' := b + 1) h1 (own_block h1) (keeps_set _ 1 v1 ⟨Nat.le_refl _, Nat.lt_succ_self _⟩) (Or.inr hb)
theorem wit_finC {w Y D W : World} {b c hi na nc : Nat} {a : Option Addr} {us : List Int} {v0 v1 : Value} (hu : D.ownsRow Y.heap.size 3 1 (.slice (some ⟨Y.heap.size, 0, none⟩) c c) c (ints .i64 us)) (huw : ∀ z ∈ us, (Lit.int .i64 z).wf = true) (hK : Below D.heap.size D W) (hn : IOwn W D.heap.size hi (.slice a na nc) (namesC c)) (hc : c ≤ 6) (hb : b < Y.heap.size) (hw : w.heap.size ≤ b) (hB : Below w.heap.size w D) {g h : Nat} (hz : Zr c D.heap.size W g) (hh : W.ownsRow D.heap.size 24 1 (.slice (some ⟨h, 0, none⟩) 2 2) 2 [.slice (some ⟨g, 0, none⟩) c c, .slice (some ⟨Y.heap.size, 0, none⟩) c c]) (hag : ∀ x, a = some x → x.block ≠ g) :
    RTold (namesC c, [List.replicate c 0, us]) true w (.returned (.tuple #[.agg #[.slice a na nc, .slice (some ⟨h, 0, none⟩) 2 2], .bool true])) ((W.setCell ⟨b, 0, none⟩ v0).setCell ⟨b, 1, none⟩ v1) := by
  have hlt : Y.heap.size < D.heap.size := (own_block hu _ rfl).2
  have hle : Y.heap.size ≤ D.heap.size := Nat.le_of_lt hlt
  obtain ⟨_, _, _, e, ho, hw', h6, hbl⟩ := hn
  cases e
  have hs : ((W.setCell ⟨b, 0, none⟩ v0).setCell ⟨b, 1, none⟩ v1).heap.size = W.heap.size := by simp
  have hBV : Below w.heap.size w ((W.setCell ⟨b, 0, none⟩ v0).setCell ⟨b, 1, none⟩ v1) := ((Frame.next hB hK hB.size).setCell hw _).setCell hw _
  have hu' := row_set (v0 := v0) (v1 := v1) (own_below hu hK) hb
  have ho' := row_set (v0 := v0) (v1 := v1) (own_base ho hle) hb
  have hlo := own_block ho
  have h1 := hz.lt.1
  refine wit_core (base := Y.heap.size) (row_set (own_base hz hle) hb) hu' huw ⟨_, _, _, rfl, ho', hw', h6, fun x hx => ⟨by have := hlo x hx; omega, by rw [hs]; exact (hlo x hx).2⟩⟩ (row_set (own_base hh hle) hb) (by omega) (fun x hx => ⟨hag x hx, by have := hlo x hx; omega⟩) hc (by omega) hBV
theorem wit_finB {w Y D W : World} {b c hi na nc : Nat} {a : Option Addr} {us : List Int} {v0 v1 : Value} (hu : D.ownsRow Y.heap.size 3 1 (.slice (some ⟨Y.heap.size, 0, none⟩) c c) c (ints .i64 us)) (huw : ∀ z ∈ us, (Lit.int .i64 z).wf = true) (hK : Below D.heap.size D W) (hn : IOwn W D.heap.size hi (.slice a na nc) (namesC c)) (hc : c ≤ 6) (hb : b < Y.heap.size) (hw : w.heap.size ≤ b) (hB : Below w.heap.size w D) {g : Nat} (hz : Zr c D.heap.size W g) (hag : ∀ x, a = some x → x.block ≠ g) :
    RTold (namesC c, [List.replicate c 0, us]) true w (.returned (.tuple #[.agg #[.slice a na nc, .slice (some ⟨W.heap.size, 0, none⟩) 2 2], .bool true])) (((W.setCell ⟨b, 0, none⟩ v0).setCell ⟨b, 1, none⟩ v1).alloc (.cells #[.slice (some ⟨g, 0, none⟩) c c, .slice (some ⟨Y.heap.size, 0, none⟩) c c] 24)) := by
  have hlt : Y.heap.size < D.heap.size := (own_block hu _ rfl).2
  have hle : Y.heap.size ≤ D.heap.size := Nat.le_of_lt hlt
  obtain ⟨_, _, _, e, ho, hw', h6, hbl⟩ := hn
  cases e
  have hs : ((W.setCell ⟨b, 0, none⟩ v0).setCell ⟨b, 1, none⟩ v1).heap.size = W.heap.size := by simp
  have hBV : Below w.heap.size w ((W.setCell ⟨b, 0, none⟩ v0).setCell ⟨b, 1, none⟩ v1) := ((Frame.next hB hK hB.size).setCell hw _).setCell hw _
  have hu' := row_set (v0 := v0) (v1 := v1) (own_below hu hK) hb
  have ho' := row_set (v0 := v0) (v1 := v1) (own_base ho hle) hb
  have hlo := own_block ho
  have h1 := hz.lt.1
  have hk := hK.size
  have hz' := row_set (v0 := v0) (v1 := v1) (own_base hz hle) hb
  generalize ((W.setCell ⟨b, 0, none⟩ v0).setCell ⟨b, 1, none⟩ v1) = Q at hs hBV hu' ho' hz' ⊢
  rw [← hs]
  have ab : Below Q.heap.size Q (Q.alloc (.cells #[.slice (some ⟨g, 0, none⟩) c c, .slice (some ⟨Y.heap.size, 0, none⟩) c c] 24)) := (Below.refl _ _).alloc (Nat.le_refl _) _
  refine wit_core (base := Y.heap.size) (own_below hz' ab) (own_below hu' ab) huw ⟨_, _, _, rfl, own_below ho' ab, hw', h6, fun x hx => ⟨by have := hlo x hx; omega, by have := (hlo x hx).2; rw [World.size_alloc]; omega⟩⟩ (br_own (by omega) _ _) (by omega) (fun x hx => ⟨hag x hx, by have := hlo x hx; omega⟩) hc (by omega) (hBV.alloc hBV.size _)
theorem wit_finA {w Y D W : World} {b c hi na nc : Nat} {a : Option Addr} {us : List Int} {v0 v1 : Value} (hu : D.ownsRow Y.heap.size 3 1 (.slice (some ⟨Y.heap.size, 0, none⟩) c c) c (ints .i64 us)) (huw : ∀ z ∈ us, (Lit.int .i64 z).wf = true) (hK : Below D.heap.size D W) (hn : IOwn W D.heap.size hi (.slice a na nc) (namesC c)) (hc : c ≤ 6) (hb : b < Y.heap.size) (hw : w.heap.size ≤ b) (hB : Below w.heap.size w D) :
    RTold (namesC c, [List.replicate c 0, us]) true w (.returned (.tuple #[.agg #[.slice a na nc, .slice (some ⟨W.heap.size + 1, 0, none⟩) 2 2], .bool true])) ((((W.setCell ⟨b, 0, none⟩ v0).setCell ⟨b, 1, none⟩ v1).alloc (.cells (madeCells #[.int .i64 0] c) 3)).alloc (.cells #[.slice (some ⟨W.heap.size, 0, none⟩) c c, .slice (some ⟨Y.heap.size, 0, none⟩) c c] 24)) := by
  have hlt : Y.heap.size < D.heap.size := (own_block hu _ rfl).2
  have hle : Y.heap.size ≤ D.heap.size := Nat.le_of_lt hlt
  obtain ⟨_, _, _, e, ho, hw', h6, hbl⟩ := hn
  cases e
  have hs : ((W.setCell ⟨b, 0, none⟩ v0).setCell ⟨b, 1, none⟩ v1).heap.size = W.heap.size := by simp
  have hBV : Below w.heap.size w ((W.setCell ⟨b, 0, none⟩ v0).setCell ⟨b, 1, none⟩ v1) := ((Frame.next hB hK hB.size).setCell hw _).setCell hw _
  have hu' := row_set (v0 := v0) (v1 := v1) (own_below hu hK) hb
  have ho' := row_set (v0 := v0) (v1 := v1) (own_base ho hle) hb
  have hlo := own_block ho
  have hk := hK.size
  generalize ((W.setCell ⟨b, 0, none⟩ v0).setCell ⟨b, 1, none⟩ v1) = Q at hs hBV hu' ho' ⊢
  rw [← hs]
  have ab : Below Q.heap.size Q (Q.alloc (.cells (madeCells #[.int .i64 0] c) 3)) := (Below.refl _ _).alloc (Nat.le_refl _) _
  have ac : Below (Q.alloc (.cells (madeCells #[.int .i64 0] c) 3)).heap.size (Q.alloc (.cells (madeCells #[.int .i64 0] c) 3)) ((Q.alloc (.cells (madeCells #[.int .i64 0] c) 3)).alloc (.cells #[.slice (some ⟨Q.heap.size, 0, none⟩) c c, .slice (some ⟨Y.heap.size, 0, none⟩) c c] 24)) := (Below.refl _ _).alloc (Nat.le_refl _) _
  have hz' : Zr c Y.heap.size (Q.alloc (.cells (madeCells #[.int .i64 0] c) 3)) Q.heap.size := zr_made hc (by omega)
  refine wit_core (base := Y.heap.size) (Zr.below hz' ac) (own_below (own_below hu' ab) ac) huw ⟨_, _, _, rfl, own_below (own_below ho' ab) ac, hw', h6, fun x hx => ⟨by have := hlo x hx; omega, by have := (hlo x hx).2; rw [World.size_alloc, World.size_alloc]; omega⟩⟩ (br_size (br_own (by rw [World.size_alloc]; omega) _ _)) (by omega) (fun x hx => ⟨by have := hlo x hx; omega, by have := hlo x hx; omega⟩) hc (by omega) ((hBV.alloc hBV.size _).alloc (by rw [World.size_alloc]; have := hBV.size; omega) _)

set_option linter.unusedSimpArgs false in
set_option maxRecDepth 8000 in
set_option maxHeartbeats 12800000 in
theorem impl_WitnessFor (cols : Int) (v u t : Value) (ds : List Dp) (d : Dp) (w : World) (h : DIs w v ds) (hd : EIs w u t d) :
    Calls Try.prog 8 #[.int .i64 cols, v, .agg #[u, t]] w (RTold (witV cols ds d) (witG cols ds d) w) := by
  obtain ⟨i0, hi, hz0, hz1, hz2⟩ := info_parts Ints.info
  obtain ⟨⟨fa, fn, fc, rfl, hf, hfn⟩, ⟨ta, tn, tc, rfl, ht, htn⟩⟩ := hd
  have b0 : Below w.heap.size w (w.alloc (.cells #[.slice fa fn fc, .slice ta tn tc] 26)) := (Below.refl w.heap.size w).alloc (Nat.le_refl _) _
  have b1 : Below w.heap.size w ((w.alloc (.cells #[.slice fa fn fc, .slice ta tn tc] 26)).alloc (.cells #[.slice none 0 0, .slice none 0 0] 33)) := b0.alloc (by simp) _
  have hD : DIs ((w.alloc (.cells #[.slice fa fn fc, .slice ta tn tc] 26)).alloc (.cells #[.slice none 0 0, .slice none 0 0] 33)) v ds := dIs_below h b1
  have hE : EIs ((w.alloc (.cells #[.slice fa fn fc, .slice ta tn tc] 26)).alloc (.cells #[.slice none 0 0, .slice none 0 0] 33)) (.slice fa fn fc) (.slice ta tn tc) d := ⟨⟨_, _, _, rfl, IsRow.below hf b1, hfn⟩, ⟨_, _, _, rfl, IsRow.below ht b1, htn⟩⟩
  have b2 : Below (w.alloc (.cells #[.slice fa fn fc, .slice ta tn tc] 26)).heap.size (w.alloc (.cells #[.slice fa fn fc, .slice ta tn tc] 26)) ((w.alloc (.cells #[.slice fa fn fc, .slice ta tn tc] 26)).alloc (.cells #[.slice none 0 0, .slice none 0 0] 33)) := (Below.refl _ _).alloc (Nat.le_refl _) _
  have p0 := Frame.held_cell b2 (cells_one w (.slice fa fn fc) (.slice ta tn tc) 26).1
  have p1 := Frame.held_cell b2 (cells_one w (.slice fa fn fc) (.slice ta tn tc) 26).2
  have hN := Nor.made1 w (.cells #[.slice fa fn fc, .slice ta tn tc] 26) 33
  have hF := IsRow.below hf b1
  clear b0 b2 hf ht h hfn htn
  go_enter Try.func8, Try.ntmps8
  go_wp2_with fail
  generalize ((w.alloc (.cells #[.slice fa fn fc, .slice ta tn tc] 26)).alloc (.cells #[.slice none 0 0, .slice none 0 0] 33)) = V at b1 hD hE p0 p1 hN hF ⊢
  have B0 : Hid (Below w.heap.size w V) := b1
  have HD : Hid (DIs V v ds) := hD
  have HE : Hid (EIs V (.slice fa fn fc) (.slice ta tn tc) d) := hE
  have HN : Hid (Nor V (w.heap.size + 1)) := hN
  have HF : Hid (IsRow .i64 V fa fn fc d.1) := hF
  clear b1 hD hE hN hF
  have WG : Hid (witG cols ds d = (impG cols ds d && !impB ds d)) := rfl
  refine (Dga.impl_GoodDeps cols v ds _ HD.out).mono ?_
  rintro e w1 ⟨rfl, hb1⟩
  have B1 : Hid (Below w.heap.size w w1) := Frame.next B0.out hb1 B0.out.size
  have C1 : Hid (Below V.heap.size V w1) := hb1
  have q0 : w1.cell? ⟨w.heap.size, 0, none⟩ = some (.slice fa fn fc) := Frame.held_cell hb1 p0
  have q1 : w1.cell? ⟨w.heap.size, 1, none⟩ = some (.slice ta tn tc) := Frame.held_cell hb1 p1
  obtain ⟨c0, c1, f0, f1⟩ := HN.out.below hb1
  clear hb1 p0 p1
  cases hG : goodD cols ds
  · have E : Hid (witG cols ds d = false) := by show _ = _; rw [WG.out]; unfold impG; rw [hG]; rfl
    clear hG
    go_wp2
    refine bodyPost_ret (v := .tuple #[.agg #[.slice none 0 0, .slice none 0 0], .bool false]) (by simp [results, Try.results8, go_sem, c0, c1]) rfl ?_
    rw [wit_no E.out, E.out]
    exact wit_none (by omega) B1.out
  · have HG : Hid (goodD cols ds = true) := hG
    clear hG c0 c1 f0 f1
    go_wp2_with fail
    refine (Dga.isDep cols _ _ d _ (eIs_below HE.out C1.out)).mono ?_
    rintro e w2 ⟨rfl, hb2⟩
    have B2 : Hid (Below w.heap.size w w2) := Frame.next B1.out hb2 B1.out.size
    have C2 : Hid (Below V.heap.size V w2) := Frame.next C1.out hb2 C1.out.size
    have r0 : w2.cell? ⟨w.heap.size, 0, none⟩ = some (.slice fa fn fc) := Frame.held_cell hb2 q0
    have r1 : w2.cell? ⟨w.heap.size, 1, none⟩ = some (.slice ta tn tc) := Frame.held_cell hb2 q1
    obtain ⟨c0, c1, f0, f1⟩ := HN.out.below C2.out
    clear hb2 q0 q1
    cases hR : depB cols d
    · have E : Hid (witG cols ds d = false) := by show _ = _; rw [WG.out]; unfold impG; rw [hR, Bool.and_false]; rfl
      clear hR
      go_wp2
      refine bodyPost_ret (v := .tuple #[.agg #[.slice none 0 0, .slice none 0 0], .bool false]) (by simp [results, Try.results8, go_sem, c0, c1]) rfl ?_
      rw [wit_no E.out, E.out]
      exact wit_none (by omega) B2.out
    · have IG : Hid (impG cols ds d = true) := by show _ = _; unfold impG; rw [hR, HG.out]; rfl
      have hc := cols_of HG.out
      obtain ⟨c, hcc⟩ : ∃ c : Nat, cols = (c : Int) := ⟨cols.toNat, by omega⟩
      have HC : Hid (Cols ds) := hc.1
      have HC6 : Hid (c ≤ 6) := by show c ≤ 6; have := hc.2.2.1; omega
      have HC1 : Hid (1 ≤ c) := by show 1 ≤ c; have := hc.2.1; omega
      have HDC : Hid ((∀ z ∈ d.1, 0 ≤ z ∧ z < 6) ∧ ∀ z ∈ d.2, 0 ≤ z ∧ z < 6) := depB_cols hR hc.2.2.1
      have HDB : Hid (depB cols d = true) := hR
      clear hR hc c0 c1 f0 f1
      go_wp2_with fail
      refine (follows v _ _ ds d _ (dIs_below HD.out C2.out) (eIs_below HE.out C2.out) HC.out HDC.out.1 HDC.out.2).mono ?_
      rintro e w3 ⟨rfl, hb3⟩
      have B3 : Hid (Below w.heap.size w w3) := Frame.next B2.out hb3 B2.out.size
      have C3 : Hid (Below V.heap.size V w3) := Frame.next C2.out hb3 C2.out.size
      have s0 : w3.cell? ⟨w.heap.size, 0, none⟩ = some (.slice fa fn fc) := Frame.held_cell hb3 r0
      obtain ⟨c0, c1, f0, f1⟩ := HN.out.below C3.out
      clear hb3 r0 r1
      cases hI : impB ds d
      · have E : Hid (witG cols ds d = true) := by show _ = _; rw [WG.out, IG.out, hI]; rfl
        have WY : Hid (witV cols ds d = (namesC c, [List.replicate c 0, unl ds d.1 c])) := wit_yes hcc E.out
        clear hI c0 c1 f0 f1
        subst hcc
        go_wp2_with fail
        refine (setOf fa fn fc d.1 _ (IsRow.below HF.out C3.out) HDC.out.1).mono ?_
        rintro e w4 ⟨rfl, hb4⟩
        unfold csv
        have C4 : Hid (Below V.heap.size V w4) := Frame.next C3.out hb4 C3.out.size
        clear hb4 s0
        go_wp2_with fail
        refine (toldBy v ds (inS d.1) _ (dIs_below HD.out C4.out) HC.out).mono ?_
        rintro e w5 ⟨rfl, hb5⟩
        unfold csv
        have y5 : Below V.heap.size V (w5.alloc (.cells #[.bool ((clS ds (inS d.1)) 0), .bool ((clS ds (inS d.1)) 1), .bool ((clS ds (inS d.1)) 2), .bool ((clS ds (inS d.1)) 3), .bool ((clS ds (inS d.1)) 4), .bool ((clS ds (inS d.1)) 5)] 71)) := Frame.next (Frame.next C4.out hb5 C4.out.size) ((Below.refl _ _).alloc (Nat.le_refl _) _) (Frame.next C4.out hb5 C4.out.size).size
        have hA8 : At6 (w5.alloc (.cells #[.bool ((clS ds (inS d.1)) 0), .bool ((clS ds (inS d.1)) 1), .bool ((clS ds (inS d.1)) 2), .bool ((clS ds (inS d.1)) 3), .bool ((clS ds (inS d.1)) 4), .bool ((clS ds (inS d.1)) 5)] 71)) w5.heap.size (clS ds (inS d.1)) := At6.made w5 (clS ds (inS d.1)) _
        clear hb5
        go_upto_region 4 with fail
        generalize (w5.alloc (.cells #[.bool ((clS ds (inS d.1)) 0), .bool ((clS ds (inS d.1)) 1), .bool ((clS ds (inS d.1)) 2), .bool ((clS ds (inS d.1)) 3), .bool ((clS ds (inS d.1)) 4), .bool ((clS ds (inS d.1)) 5)] 71)) = Y at y5 hA8 ⊢
        have CY : Hid (Below V.heap.size V Y) := y5
        have A8 : Hid (At6 Y w5.heap.size (clS ds (inS d.1))) := hA8
        have BY : Hid (Below w.heap.size w Y) := Frame.next B0.out y5 B0.out.size
        clear y5 hA8
        have hc6 := HC6.out
        go_wp2_with (at_make; refine wpList_make_full _ rfl _ _ 24 rfl Y.heap.size 3 i0 (.int .i64 0) 1 Try.underlying24 hi hz0 hz1 _ _ _ _ c rfl rfl rfl rfl ?b2 ?b3 (Nat.le_refl _) ?_)
        case b2 => rw [hz2]; omega
        case b3 => unfold maxLen; omega
        intro w8 hown8 hgrow8
        have e8 : (madeCells #[Value.int .i64 0] c).toList = ints .i64 (rowS (clS ds (inS d.1)) c 0) := by rw [toList_madeCells_one]; simp [ints, rowS, unS]
        rw [e8] at hown8
        have hb8 : Below Y.heap.size Y w8 := below_make (Below.refl _ _) hgrow8 (Nat.le_refl _)
        have O8 : Hid (w8.ownsRow Y.heap.size 3 1 (.slice (some ⟨Y.heap.size, 0, none⟩) c c) c (ints .i64 (rowS (clS ds (inS d.1)) c 0))) := hown8
        have X8 : Hid (Below Y.heap.size Y w8) := hb8
        clear hown8 hgrow8 e8 hb8
        go_wp2_with fail
        go_loopw [36] (fun i wr => ∃ k : Nat, k ≤ c ∧ i = .int .i64 k ∧ wr.ownsRow Y.heap.size 3 1 (.slice (some ⟨Y.heap.size, 0, none⟩) c c) c (ints .i64 (rowS (clS ds (inS d.1)) c k)) ∧ Below Y.heap.size Y wr) (fun i _ => c - (intOf i).toNat)
        case atStart => exact ⟨0, Nat.zero_le _, rfl, O8.out, X8.out⟩
        case round =>
          obtain ⟨k, hk, rfl, ho, hnx⟩ := hrel
          have HO : Hid (wr.ownsRow Y.heap.size 3 1 (.slice (some ⟨Y.heap.size, 0, none⟩) c c) c (ints .i64 (rowS (clS ds (inS d.1)) c k))) := ho
          have HX : Hid (Below Y.heap.size Y wr) := hnx
          by_cases hlt : k < c
          · have q8 : wr.cell? ⟨w5.heap.size, k, none⟩ = some (.bool ((clS ds (inS d.1)) k)) := (A8.out.below hnx).1 k (by omega)
            have hk6 : (k : Int) < 6 := by omega
            rcases em_bool ((clS ds (inS d.1)) k) with hB | hB
            · rw [hB] at q8
              have hfz := ho.frozenAt k
              obtain ⟨old, hold⟩ : ∃ old, wr.cell? ⟨Y.heap.size, k, none⟩ = some old := by
                have hl : (ints .i64 (rowS (clS ds (inS d.1)) c k)).length = c := by have := ho.1; omega
                rw [ho.cellAt k (by omega)]
                exact ⟨_, List.getElem?_eq_getElem (by omega)⟩
              have hst := ho.stored k (.int .i64 1)
              rw [rowS_no hlt hB] at hst
              have HST : Hid _ := hst
              clear hst ho hnx hB
              go_wp2_with fail
              go_roundw
              case rel => exact ⟨k + 1, by omega, by go_num, HST.out.1, HX.out.setCell (Nat.le_refl _) _⟩
              case measure => simp [intOf]; omega
            · rw [hB] at q8
              have RY : Hid (rowS (clS ds (inS d.1)) c (k + 1) = rowS (clS ds (inS d.1)) c k) := rowS_yes hlt hB
              clear ho hnx hB
              go_wp2_with fail
              go_roundw
              case rel => exact ⟨k + 1, by omega, by go_num, by rw [RY.out]; exact HO.out, HX.out⟩
              case measure => simp [intOf]; omega
          · obtain rfl : k = c := by omega
            have HU : Hid (wr.ownsRow Y.heap.size 3 1 (.slice (some ⟨Y.heap.size, 0, none⟩) k k) k (ints .i64 (unl ds d.1 k))) := by
              show World.ownsRow _ _ _ _ _ _ _
              rw [← unS_is HDC.out.1, ← rowS_end]
              exact ho
            have CX : Hid (Below V.heap.size V wr) := Frame.next CY.out hnx CY.out.size
            have NC : Hid (Nor wr (w.heap.size + 1)) := HN.out.below CX.out
            have FN : Hid (listI (firstS k) = namesC k) := first_names HC6.out
            have KD : Hid (Below wr.heap.size wr wr) := Below.refl _ _
            have BW : Hid (Below w.heap.size w wr) := Frame.next B0.out CX.out B0.out.size
            have hmk : ∀ w : World, (Instr.makeSlice 24 (.int .i64 (k : Int)) (.int .i64 (k : Int))).run Try.prog w = .ok (.slice (some ⟨w.heap.size, 0, none⟩) k k) (w.alloc (.cells (madeCells #[.int .i64 0] k) 3)) := fun w => run_make_row' 24 3 (.int .i64 0) 8 Try.underlying24 Ints.info rfl .i64 .i64 k (by omega) (by omega) w
            clear ho hnx HO
            go_wp2_with fail
            go_region_held3 (fun _ => True) (trivial) (first | (go_at_call 43; refine (firstColumns k _ HC1.out HC6.out).mono ?_; rintro e w6 ⟨rfl, hb6⟩; unfold csv; have K6 : Hid (Below wr.heap.size wr w6) := (by refine Ivb.bw_call ?_ hb6; (repeat (first | with_reducible exact K7.out | with_reducible exact K6.out | with_reducible exact KD.out | with_reducible apply Ivb.bw_made | with_reducible apply Ivb.bw_drew | (with_reducible refine Ivb.bw_set _ _ _ ?_ ?_; (focus omega))))); (first | (have Z6 : Hid (Zr k wr.heap.size w6 wr.heap.size) := Zr.below (Zr.below (zr_made (W := wr) HC6.out (Nat.le_refl _)) (Below.refl _ _).drew) hb6) | (have Z6 : Hid (Zr k wr.heap.size w6 wr.heap.size) := Zr.below (Zr.below (Zr.below (zr_made (W := wr) HC6.out (Nat.le_refl _)) ((Below.refl _ _).alloc (Nat.le_refl _) (.cells #[.slice (some ⟨wr.heap.size, 0, none⟩) k k, .slice (some ⟨Y.heap.size, 0, none⟩) k k] 24))) (Below.refl _ _).drew) hb6) | skip); (first | (have Y6 : Hid (w6.ownsRow wr.heap.size 24 1 (.slice (some ⟨wr.heap.size + 1, 0, none⟩) 2 2) 2 [.slice (some ⟨wr.heap.size, 0, none⟩) k k, .slice (some ⟨Y.heap.size, 0, none⟩) k k]) := own_below (own_below (br_size (br_own (W := wr.alloc (.cells (madeCells #[.int .i64 0] k) 3)) (by rw [World.size_alloc]; exact Nat.le_succ _) _ _)) (Below.refl _ _).drew) hb6) | skip); clear hb6) | (go_at_call 42; refine (listOf (firstS k) _).mono ?_; rintro e w7 ⟨u7, rfl, ho7, hb7⟩; rw [FN.out] at ho7; have K7 : Hid (Below wr.heap.size wr w7) := (by refine Ivb.bw_call ?_ hb7; (repeat (first | with_reducible exact K7.out | with_reducible exact K6.out | with_reducible exact KD.out | with_reducible apply Ivb.bw_made | with_reducible apply Ivb.bw_drew | (with_reducible refine Ivb.bw_set _ _ _ ?_ ?_; (focus omega))))); obtain ⟨a7, n7, c7, rfl, _, _⟩ := iOwn_is ho7; have O7 : Hid (IOwn w7 wr.heap.size w7.heap.size (.slice a7 n7 c7) (namesC k)) := Krl.iOwn_wide ho7 (by have := K6.out.size; (try simp only [World.size_alloc]); (first | exact this | exact Nat.le_succ_of_le this | exact Nat.le_succ_of_le (Nat.le_succ_of_le this))) (Nat.le_refl _); have LB := iOwn_lo ho7; have N7 : Hid (∀ x, a7 = some x → x.block < w7.heap.size) := iOwn_hi O7.out; (first | (have Z7 : Hid (Zr k wr.heap.size w7 wr.heap.size ∧ ∀ x, a7 = some x → x.block ≠ wr.heap.size) := ⟨Zr.below Z6.out hb7, fun x hx => Nat.ne_of_gt (Nat.lt_of_lt_of_le Z6.out.lt.2 (LB x hx))⟩) | (have Z7 : Hid (Zr k wr.heap.size w7 wr.heap.size ∧ ∀ x, a7 = some x → x.block ≠ wr.heap.size) := ⟨Zr.below (Zr.below Z6.out ((Below.refl _ _).alloc (Nat.le_refl _) (.cells #[.slice (some ⟨wr.heap.size, 0, none⟩) k k, .slice (some ⟨Y.heap.size, 0, none⟩) k k] 24))) hb7, fun x hx => Nat.ne_of_gt (Nat.lt_of_lt_of_le Z6.out.lt.2 (Nat.le_trans (Nat.le_succ _) (by have := LB x hx; rwa [World.size_alloc] at this)))⟩) | (have Z7 : Hid (Zr k wr.heap.size w7 w6.heap.size ∧ ∀ x, a7 = some x → x.block ≠ w6.heap.size) := ⟨Zr.below (zr_made (W := w6) HC6.out K6.out.size) hb7, fun x hx => Nat.ne_of_gt (by have := LB x hx; rw [World.size_alloc] at this; exact this)⟩) | (have Z7 : Hid (Zr k wr.heap.size w7 w6.heap.size ∧ ∀ x, a7 = some x → x.block ≠ w6.heap.size) := ⟨Zr.below (Zr.below (zr_made (W := w6) HC6.out K6.out.size) ((Below.refl _ _).alloc (Nat.le_refl _) (.cells #[.slice (some ⟨w6.heap.size, 0, none⟩) k k, .slice (some ⟨Y.heap.size, 0, none⟩) k k] 24))) hb7, fun x hx => Nat.ne_of_gt (by have := LB x hx; rw [World.size_alloc, World.size_alloc] at this; exact Nat.lt_of_succ_lt this)⟩) | skip); (first | (have Y7 : Hid (w7.ownsRow wr.heap.size 24 1 (.slice (some ⟨wr.heap.size + 1, 0, none⟩) 2 2) 2 [.slice (some ⟨wr.heap.size, 0, none⟩) k k, .slice (some ⟨Y.heap.size, 0, none⟩) k k]) := own_below Y6.out hb7) | (have Y7 : Hid (w7.ownsRow wr.heap.size 24 1 (.slice (some ⟨w6.heap.size, 0, none⟩) 2 2) 2 [.slice (some ⟨wr.heap.size, 0, none⟩) k k, .slice (some ⟨Y.heap.size, 0, none⟩) k k]) := own_below (br_own (W := w6) K6.out.size _ _) hb7) | (have Y7 : Hid (w7.ownsRow wr.heap.size 24 1 (.slice (some ⟨w6.heap.size + 1, 0, none⟩) 2 2) 2 [.slice (some ⟨w6.heap.size, 0, none⟩) k k, .slice (some ⟨Y.heap.size, 0, none⟩) k k]) := own_below (br_size (br_own (W := w6.alloc (.cells (madeCells #[.int .i64 0] k) 3)) (by rw [World.size_alloc]; exact Nat.le_succ_of_le K6.out.size) _ _)) hb7) | skip); obtain ⟨c0, c1, f0, f1⟩ := NC.out.below K7.out; have nz1 : w7.heap.size ≠ w.heap.size + 1 := Nat.ne_of_gt (Nat.lt_of_lt_of_le NC.out.lt K7.out.size); have nz2 : w7.heap.size ≠ w.heap.size := Nat.ne_of_gt (Nat.lt_of_succ_lt (Nat.lt_of_lt_of_le NC.out.lt K7.out.size)); have nz3 : w.heap.size + 1 < w7.heap.size := Nat.lt_of_lt_of_le NC.out.lt K7.out.size; have nz4 : w.heap.size < w7.heap.size := Nat.lt_of_succ_lt nz3; clear ho7 hb7 LB))
            · go_wp2
              refine bodyPost_ret (v := .tuple #[.agg #[.slice a7 n7 c7, .slice (some ⟨w7.heap.size + 1, 0, none⟩) 2 2], .bool true]) (by simp [results, Try.results8, go_sem, c0, c1, nz2, nz3, nz4]) rfl ?_
              rw [WY.out, E.out]
              exact wit_finA HU.out (unl_wf _ _ _) K7.out O7.out HC6.out (by have := HN.out.lt; have := CY.out.size; omega) (Nat.le_succ _) BW.out
            · go_wp2
              refine bodyPost_ret (v := .tuple #[.agg #[.slice a7 n7 c7, .slice (some ⟨w7.heap.size, 0, none⟩) 2 2], .bool true]) (by simp [results, Try.results8, go_sem, c0, c1, nz2, nz3, nz4]) rfl ?_
              rw [WY.out, E.out]
              exact wit_finB HU.out (unl_wf _ _ _) K7.out O7.out HC6.out (by have := HN.out.lt; have := CY.out.size; omega) (Nat.le_succ _) BW.out Z7.out.1 Z7.out.2
            · go_wp2
              refine bodyPost_ret (v := .tuple #[.agg #[.slice a7 n7 c7, .slice (some ⟨w6.heap.size + 1, 0, none⟩) 2 2], .bool true]) (by simp [results, Try.results8, go_sem, c0, c1, nz2, nz3, nz4]) rfl ?_
              rw [WY.out, E.out]
              exact wit_finC HU.out (unl_wf _ _ _) K7.out O7.out HC6.out (by have := HN.out.lt; have := CY.out.size; omega) (Nat.le_succ _) BW.out Z7.out.1 Y7.out Z7.out.2
            · go_wp2
              refine bodyPost_ret (v := .tuple #[.agg #[.slice a7 n7 c7, .slice (some ⟨w7.heap.size, 0, none⟩) 2 2], .bool true]) (by simp [results, Try.results8, go_sem, c0, c1, nz2, nz3, nz4]) rfl ?_
              rw [WY.out, E.out]
              exact wit_finB HU.out (unl_wf _ _ _) K7.out O7.out HC6.out (by have := HN.out.lt; have := CY.out.size; omega) (Nat.le_succ _) BW.out Z7.out.1 Z7.out.2
            · go_wp2
              refine bodyPost_ret (v := .tuple #[.agg #[.slice a7 n7 c7, .slice (some ⟨w6.heap.size, 0, none⟩) 2 2], .bool true]) (by simp [results, Try.results8, go_sem, c0, c1, nz2, nz3, nz4]) rfl ?_
              rw [WY.out, E.out]
              exact wit_finC HU.out (unl_wf _ _ _) K7.out O7.out HC6.out (by have := HN.out.lt; have := CY.out.size; omega) (Nat.le_succ _) BW.out Z7.out.1 Y7.out Z7.out.2
            · go_wp2
              refine bodyPost_ret (v := .tuple #[.agg #[.slice a7 n7 c7, .slice (some ⟨wr.heap.size + 1, 0, none⟩) 2 2], .bool true]) (by simp [results, Try.results8, go_sem, c0, c1, nz2, nz3, nz4]) rfl ?_
              rw [WY.out, E.out]
              exact wit_finC HU.out (unl_wf _ _ _) K7.out O7.out HC6.out (by have := HN.out.lt; have := CY.out.size; omega) (Nat.le_succ _) BW.out Z7.out.1 Y7.out Z7.out.2
      · have E : Hid (witG cols ds d = false) := by show _ = _; rw [WG.out, hI, Bool.and_comm]; rfl
        clear hI
        go_wp2
        refine bodyPost_ret (v := .tuple #[.agg #[.slice none 0 0, .slice none 0 0], .bool false]) (by simp [results, Try.results8, go_sem, c0, c1]) rfl ?_
        rw [wit_no E.out, E.out]
        exact wit_none (by omega) B3.out


end Go.Proofs.Ytbeielafbegflaa.Wim
