/-
  Columns listed, what follows: contracts of the program's listOf, follows, ClosureOf, Implies.
-/
import Derived.Test.YtekheacbmbbpmaaCsc
import Derived.Sort.AtCall
namespace Go.Proofs.Ytekheacbmbbpmaa.Csd
open Go.RowKit
open Go.Proofs.Ytekheacbmbbpmaa.Frame Go.Proofs.Ytekheacbmbbpmaa.Mem Go.Proofs.Ytekheacbmbbpmaa.Ints Go.Proofs.Ytekheacbmbbpmaa.Kep Go.Proofs.Ytekheacbmbbpmaa.Lls Go.Proofs.Ytekheacbmbbpmaa.Mis Go.Proofs.Ytekheacbmbbpmaa.Csa Go.Proofs.Ytekheacbmbbpmaa.Csb Go.Proofs.Ytekheacbmbbpmaa.Csc Go.Proofs.Ytekheacbmbbpmaa.Dls Go.Proofs.Ytekheacbmbbpmaa.Dlk
open Go.Proofs.Ytekheacbmbbpmaa.Rel hiding Ll
open Go.Proofs.Ytekheacbmbbpmaa.Cpu hiding Dp

def partI (f : Cs) (k : Nat) : List Int := ((List.range k).filter f).map fun (i : Nat) => (i : Int)
theorem partI_succ (f : Cs) (k : Nat) : partI f (k + 1) = partI f k ++ (if f k then [(k : Int)] else []) := by
  unfold partI
  rw [List.range_succ, List.filter_append, List.map_append, List.filter_cons]
  cases f k <;> rfl
theorem partI_mem {f : Cs} {k : Nat} {z : Int} (h : z ∈ partI f k) : 0 ≤ z ∧ z < (k : Int) := by
  unfold partI at h
  obtain ⟨i, hi, rfl⟩ := List.mem_map.1 h
  have := List.mem_range.1 (List.mem_filter.1 hi).1
  omega

set_option maxRecDepth 4000 in
set_option maxHeartbeats 6400000 in
theorem listOf (f : Cs) (w : World) :
    Calls Try.prog 25 #[.agg #[.bool (f 0), .bool (f 1), .bool (f 2), .bool (f 3), .bool (f 4), .bool (f 5)]] w fun e w' => ∃ u, e = .returned u ∧ IOwn w' w.heap.size w'.heap.size u (listI f) ∧ Below w.heap.size w w' := by
  obtain ⟨i0, hi, hz0, hz1, hz2⟩ := info_parts Ints.info
  have B1 : Hid (Below w.heap.size w (w.alloc (.cells #[.bool (f 0), .bool (f 1), .bool (f 2), .bool (f 3), .bool (f 4), .bool (f 5)] 48))) := (Below.refl _ _).alloc (Nat.le_refl _) _
  have A1 : Hid (At6 (w.alloc (.cells #[.bool (f 0), .bool (f 1), .bool (f 2), .bool (f 3), .bool (f 4), .bool (f 5)] 48)) w.heap.size f) := At6.made w f _
  go_enter Try.func25, Try.ntmps25
  go_wp2_with (at_make; refine wpList_make_own _ rfl _ _ 34 rfl w.heap.size 3 i0 (.int .i64 0) 1 Try.underlying34 hi hz0 hz1 _ _ _ 6 rfl rfl rfl ?d2 ?d3 B1.out.size ?_)
  case d2 => rw [hz2]; omega
  case d3 => unfold maxLen; omega
  intro w3 hown3 hgrow3
  have B3 : Hid (Below w.heap.size w w3) := below_make B1.out hgrow3 B1.out.size
  have O3 : Hid (w3.ownsRow w.heap.size 3 1 (.slice (some ⟨w.heap.size + 1, 0, none⟩) 0 6) 0 []) := hown3
  have hb3 : Below (w.alloc (.cells #[.bool (f 0), .bool (f 1), .bool (f 2), .bool (f 3), .bool (f 4), .bool (f 5)] 48)).heap.size (w.alloc (.cells #[.bool (f 0), .bool (f 1), .bool (f 2), .bool (f 3), .bool (f 4), .bool (f 5)] 48)) w3 := below_make (Below.refl _ _) hgrow3 (Nat.le_refl _)
  obtain ⟨c0, c1, c2, c3, c4, c5⟩ := (A1.out.below hb3).cells
  clear hown3 hgrow3 hb3
  go_wp2_with fail
  go_loopw [3, 8] (fun v i wr => ∃ (k m : Nat) (a' : Option Addr) (c' : Nat), k ≤ 6 ∧ m ≤ k ∧ i = .int .i64 k ∧ v = .slice a' m c' ∧ wr.ownsRow w.heap.size 3 1 (.slice a' m c') m (ints .i64 (partI f k)) ∧ Below w.heap.size w wr) (fun _ i _ => 6 - (intOf i).toNat)
  case atStart => exact ⟨0, 0, _, _, by omega, Nat.le_refl _, rfl, rfl, O3.out, B3.out⟩
  case round =>
    obtain ⟨k, m, a', c', hk, hmk, rfl, rfl, ho, hnx⟩ := hrel
    have HO : Hid (wr.ownsRow w.heap.size 3 1 (.slice a' m c') m (ints .i64 (partI f k))) := ho
    have HN : Hid (Below w.heap.size w wr) := hnx
    have hsr := hnx.size
    clear ho hnx c0 c1 c2 c3 c4 c5 B3 O3 A1 B1
    by_cases hlt : k < 6
    · have HF : Hid (partI f (k + 1) = partI f k ++ (if f k then [(k : Int)] else [])) := partI_succ f k
      have HO2 : Hid ((wr.alloc (.cells #[.int .i64 (k : Int)] 3)).ownsRow w.heap.size 3 1 (.slice a' m c') m (ints .i64 (partI f k))) := own_below HO.out ((Below.refl _ _).alloc (Nat.le_refl _) _)
      have HN2 : Hid (Below w.heap.size w (wr.alloc (.cells #[.int .i64 (k : Int)] 3))) := HN.out.alloc HN.out.size _
      have S2 : Hid (0 < 1 → ∃ ad, (some ⟨wr.heap.size, 0, none⟩ : Option Addr) = some ad ∧ ∀ j u, ([.int .i64 (k : Int)] : List Value)[j]? = some u → (wr.alloc (.cells #[.int .i64 (k : Int)] 3)).cell? (ad.add j) = some u) := news_one wr _ _
      obtain rfl | rfl | rfl | rfl | rfl | rfl : k = 0 ∨ k = 1 ∨ k = 2 ∨ k = 3 ∨ k = 4 ∨ k = 5 := by omega
      · have ix := index_cs0 (.bool (f 0)) (.bool (f 1)) (.bool (f 2)) (.bool (f 3)) (.bool (f 4)) (.bool (f 5))
        cases hv : f 0
        · have F : Hid (partI f 1 = partI f 0) := by show _ = _; rw [HF.out, hv]; exact List.append_nil _
          rw [hv] at ix
          clear HF HO2 HN2 S2
          go_wp2_with fail
          go_roundw
          case rel => exact ⟨1, m, a', c', by omega, by omega, by go_num, rfl, by rw [F.out]; exact HO.out, HN.out⟩
          case measure => simp [intOf]
        · have F : Hid (partI f 1 = partI f 0 ++ [((0 : Nat) : Int)]) := by show _ = _; rw [HF.out, hv]; rfl
          rw [hv] at ix
          clear HF
          go_wp2_with (at_builtin; refine App.wpList_append_all _ rfl _ _ 34 rfl w.heap.size 3 i0 (.int .i64 0) 1 8 Try.underlying34 hi hz0 hz1 hz2 rfl (by decide) _ _ _ rfl HO2.out _ 1 _ [.int .i64 ((0 : Nat) : Int)] rfl rfl S2.out (by simp [Value.oneCell']) (by unfold maxLen; omega) (by omega) HN2.out.size ?_)
          intro a4 c4 w4 hown4 hgrow4
          have O4 : Hid (w4.ownsRow w.heap.size 3 1 (.slice a4 (m + 1) c4) (m + 1) (ints .i64 (partI f 1))) := by show World.ownsRow _ _ _ _ _ _ _; rw [F.out]; simpa [ints] using hown4
          have N4 : Hid (Below w.heap.size w w4) := below_app HN2.out HO2.out hgrow4 HN2.out.size (Nat.le_refl _)
          clear hown4 hgrow4 hv
          go_wp2
          go_roundw
          case rel => exact ⟨1, m + 1, a4, c4, by omega, by omega, by go_num, rfl, O4.out, N4.out⟩
          case measure => simp [intOf]
      · have ix := index_cs1 (.bool (f 0)) (.bool (f 1)) (.bool (f 2)) (.bool (f 3)) (.bool (f 4)) (.bool (f 5))
        cases hv : f 1
        · have F : Hid (partI f 2 = partI f 1) := by show _ = _; rw [HF.out, hv]; exact List.append_nil _
          rw [hv] at ix
          clear HF HO2 HN2 S2
          go_wp2_with fail
          go_roundw
          case rel => exact ⟨2, m, a', c', by omega, by omega, by go_num, rfl, by rw [F.out]; exact HO.out, HN.out⟩
          case measure => simp [intOf]
        · have F : Hid (partI f 2 = partI f 1 ++ [((1 : Nat) : Int)]) := by show _ = _; rw [HF.out, hv]; rfl
          rw [hv] at ix
          clear HF
          go_wp2_with (at_builtin; refine App.wpList_append_all _ rfl _ _ 34 rfl w.heap.size 3 i0 (.int .i64 0) 1 8 Try.underlying34 hi hz0 hz1 hz2 rfl (by decide) _ _ _ rfl HO2.out _ 1 _ [.int .i64 ((1 : Nat) : Int)] rfl rfl S2.out (by simp [Value.oneCell']) (by unfold maxLen; omega) (by omega) HN2.out.size ?_)
          intro a4 c4 w4 hown4 hgrow4
          have O4 : Hid (w4.ownsRow w.heap.size 3 1 (.slice a4 (m + 1) c4) (m + 1) (ints .i64 (partI f 2))) := by show World.ownsRow _ _ _ _ _ _ _; rw [F.out]; simpa [ints] using hown4
          have N4 : Hid (Below w.heap.size w w4) := below_app HN2.out HO2.out hgrow4 HN2.out.size (Nat.le_refl _)
          clear hown4 hgrow4 hv
          go_wp2
          go_roundw
          case rel => exact ⟨2, m + 1, a4, c4, by omega, by omega, by go_num, rfl, O4.out, N4.out⟩
          case measure => simp [intOf]
      · have ix := index_cs2 (.bool (f 0)) (.bool (f 1)) (.bool (f 2)) (.bool (f 3)) (.bool (f 4)) (.bool (f 5))
        cases hv : f 2
        · have F : Hid (partI f 3 = partI f 2) := by show _ = _; rw [HF.out, hv]; exact List.append_nil _
          rw [hv] at ix
          clear HF HO2 HN2 S2
          go_wp2_with fail
          go_roundw
          case rel => exact ⟨3, m, a', c', by omega, by omega, by go_num, rfl, by rw [F.out]; exact HO.out, HN.out⟩
          case measure => simp [intOf]
        · have F : Hid (partI f 3 = partI f 2 ++ [((2 : Nat) : Int)]) := by show _ = _; rw [HF.out, hv]; rfl
          rw [hv] at ix
          clear HF
          go_wp2_with (at_builtin; refine App.wpList_append_all _ rfl _ _ 34 rfl w.heap.size 3 i0 (.int .i64 0) 1 8 Try.underlying34 hi hz0 hz1 hz2 rfl (by decide) _ _ _ rfl HO2.out _ 1 _ [.int .i64 ((2 : Nat) : Int)] rfl rfl S2.out (by simp [Value.oneCell']) (by unfold maxLen; omega) (by omega) HN2.out.size ?_)
          intro a4 c4 w4 hown4 hgrow4
          have O4 : Hid (w4.ownsRow w.heap.size 3 1 (.slice a4 (m + 1) c4) (m + 1) (ints .i64 (partI f 3))) := by show World.ownsRow _ _ _ _ _ _ _; rw [F.out]; simpa [ints] using hown4
          have N4 : Hid (Below w.heap.size w w4) := below_app HN2.out HO2.out hgrow4 HN2.out.size (Nat.le_refl _)
          clear hown4 hgrow4 hv
          go_wp2
          go_roundw
          case rel => exact ⟨3, m + 1, a4, c4, by omega, by omega, by go_num, rfl, O4.out, N4.out⟩
          case measure => simp [intOf]
      · have ix := index_cs3 (.bool (f 0)) (.bool (f 1)) (.bool (f 2)) (.bool (f 3)) (.bool (f 4)) (.bool (f 5))
        cases hv : f 3
        · have F : Hid (partI f 4 = partI f 3) := by show _ = _; rw [HF.out, hv]; exact List.append_nil _
          rw [hv] at ix
          clear HF HO2 HN2 S2
          go_wp2_with fail
          go_roundw
          case rel => exact ⟨4, m, a', c', by omega, by omega, by go_num, rfl, by rw [F.out]; exact HO.out, HN.out⟩
          case measure => simp [intOf]
        · have F : Hid (partI f 4 = partI f 3 ++ [((3 : Nat) : Int)]) := by show _ = _; rw [HF.out, hv]; rfl
          rw [hv] at ix
          clear HF
          go_wp2_with (at_builtin; refine App.wpList_append_all _ rfl _ _ 34 rfl w.heap.size 3 i0 (.int .i64 0) 1 8 Try.underlying34 hi hz0 hz1 hz2 rfl (by decide) _ _ _ rfl HO2.out _ 1 _ [.int .i64 ((3 : Nat) : Int)] rfl rfl S2.out (by simp [Value.oneCell']) (by unfold maxLen; omega) (by omega) HN2.out.size ?_)
          intro a4 c4 w4 hown4 hgrow4
          have O4 : Hid (w4.ownsRow w.heap.size 3 1 (.slice a4 (m + 1) c4) (m + 1) (ints .i64 (partI f 4))) := by show World.ownsRow _ _ _ _ _ _ _; rw [F.out]; simpa [ints] using hown4
          have N4 : Hid (Below w.heap.size w w4) := below_app HN2.out HO2.out hgrow4 HN2.out.size (Nat.le_refl _)
          clear hown4 hgrow4 hv
          go_wp2
          go_roundw
          case rel => exact ⟨4, m + 1, a4, c4, by omega, by omega, by go_num, rfl, O4.out, N4.out⟩
          case measure => simp [intOf]
      · have ix := index_cs4 (.bool (f 0)) (.bool (f 1)) (.bool (f 2)) (.bool (f 3)) (.bool (f 4)) (.bool (f 5))
        cases hv : f 4
        · have F : Hid (partI f 5 = partI f 4) := by show _ = _; rw [HF.out, hv]; exact List.append_nil _
          rw [hv] at ix
          clear HF HO2 HN2 S2
          go_wp2_with fail
          go_roundw
          case rel => exact ⟨5, m, a', c', by omega, by omega, by go_num, rfl, by rw [F.out]; exact HO.out, HN.out⟩
          case measure => simp [intOf]
        · have F : Hid (partI f 5 = partI f 4 ++ [((4 : Nat) : Int)]) := by show _ = _; rw [HF.out, hv]; rfl
          rw [hv] at ix
          clear HF
          go_wp2_with (at_builtin; refine App.wpList_append_all _ rfl _ _ 34 rfl w.heap.size 3 i0 (.int .i64 0) 1 8 Try.underlying34 hi hz0 hz1 hz2 rfl (by decide) _ _ _ rfl HO2.out _ 1 _ [.int .i64 ((4 : Nat) : Int)] rfl rfl S2.out (by simp [Value.oneCell']) (by unfold maxLen; omega) (by omega) HN2.out.size ?_)
          intro a4 c4 w4 hown4 hgrow4
          have O4 : Hid (w4.ownsRow w.heap.size 3 1 (.slice a4 (m + 1) c4) (m + 1) (ints .i64 (partI f 5))) := by show World.ownsRow _ _ _ _ _ _ _; rw [F.out]; simpa [ints] using hown4
          have N4 : Hid (Below w.heap.size w w4) := below_app HN2.out HO2.out hgrow4 HN2.out.size (Nat.le_refl _)
          clear hown4 hgrow4 hv
          go_wp2
          go_roundw
          case rel => exact ⟨5, m + 1, a4, c4, by omega, by omega, by go_num, rfl, O4.out, N4.out⟩
          case measure => simp [intOf]
      · have ix := index_cs5 (.bool (f 0)) (.bool (f 1)) (.bool (f 2)) (.bool (f 3)) (.bool (f 4)) (.bool (f 5))
        cases hv : f 5
        · have F : Hid (partI f 6 = partI f 5) := by show _ = _; rw [HF.out, hv]; exact List.append_nil _
          rw [hv] at ix
          clear HF HO2 HN2 S2
          go_wp2_with fail
          go_roundw
          case rel => exact ⟨6, m, a', c', by omega, by omega, by go_num, rfl, by rw [F.out]; exact HO.out, HN.out⟩
          case measure => simp [intOf]
        · have F : Hid (partI f 6 = partI f 5 ++ [((5 : Nat) : Int)]) := by show _ = _; rw [HF.out, hv]; rfl
          rw [hv] at ix
          clear HF
          go_wp2_with (at_builtin; refine App.wpList_append_all _ rfl _ _ 34 rfl w.heap.size 3 i0 (.int .i64 0) 1 8 Try.underlying34 hi hz0 hz1 hz2 rfl (by decide) _ _ _ rfl HO2.out _ 1 _ [.int .i64 ((5 : Nat) : Int)] rfl rfl S2.out (by simp [Value.oneCell']) (by unfold maxLen; omega) (by omega) HN2.out.size ?_)
          intro a4 c4 w4 hown4 hgrow4
          have O4 : Hid (w4.ownsRow w.heap.size 3 1 (.slice a4 (m + 1) c4) (m + 1) (ints .i64 (partI f 6))) := by show World.ownsRow _ _ _ _ _ _ _; rw [F.out]; simpa [ints] using hown4
          have N4 : Hid (Below w.heap.size w w4) := below_app HN2.out HO2.out hgrow4 HN2.out.size (Nat.le_refl _)
          clear hown4 hgrow4 hv
          go_wp2
          go_roundw
          case rel => exact ⟨6, m + 1, a4, c4, by omega, by omega, by go_num, rfl, O4.out, N4.out⟩
          case measure => simp [intOf]
    · obtain rfl : k = 6 := by omega
      have F : Hid (IOwn wr w.heap.size wr.heap.size (.slice a' m c') (listI f)) := iOwn_of HO.out (fun z hz => int_wf z (by have := partI_mem hz; omega) (by have := partI_mem hz; omega)) (by omega)
      go_wp2
      go_ret
      exact ⟨_, rfl, F.out, HN.out⟩

theorem clS_in {ds : List Dp} {zs : List Int} (h : ∀ z ∈ zs, 0 ≤ z ∧ z < 6) (i : Nat) : clS ds (inS zs) i = clB ds zs i := by
  rw [Bool.eq_iff_iff, clS_iff, clB_iff]
  have e : ∀ z, setP (inS zs) z ↔ z ∈ zs := setP_inS h
  exact ⟨Cl.mono (fun z hz => Cl.base ((e z).1 hz)), Cl.mono (fun z hz => Cl.base ((e z).2 hz))⟩
theorem listI_cl {ds : List Dp} {zs : List Int} (h : ∀ z ∈ zs, 0 ≤ z ∧ z < 6) : listI (clS ds (inS zs)) = clL ds zs := listI_congr (fun i _ => clS_in h i)
/-- Whether a sentence follows. -/
noncomputable def impB (ds : List Dp) (d : Dp) : Bool := insideB d.2 (clL ds d.1)
theorem within_imp {ds : List Dp} {d : Dp} (h1 : ∀ z ∈ d.1, 0 ≤ z ∧ z < 6) (h2 : ∀ z ∈ d.2, 0 ≤ z ∧ z < 6) : withinB (inS d.2) (clS ds (inS d.1)) = impB ds d := by
  rw [Bool.eq_iff_iff, within_in h2]
  unfold impB
  rw [insideB_iff]
  have e : ∀ z, setP (clS ds (inS d.1)) z ↔ z ∈ clL ds d.1 := fun z => by
    rw [← listI_cl h1, mem_listI]
    rfl
  exact ⟨fun h z hz => (e z).1 (h z hz), fun h z hz => (e z).2 (h z hz)⟩

set_option maxRecDepth 4000 in
set_option maxHeartbeats 6400000 in
theorem follows (v u t : Value) (ds : List Dp) (d : Dp) (w : World) (h : DIs w v ds) (hd : EIs w u t d) (hC : Cols ds) (h1 : ∀ z ∈ d.1, 0 ≤ z ∧ z < 6) (h2 : ∀ z ∈ d.2, 0 ≤ z ∧ z < 6) :
    Calls Try.prog 30 #[v, .agg #[u, t]] w fun e w' => e = .returned (.bool (impB ds d)) ∧ Below w.heap.size w w' := by
  obtain ⟨⟨fa, fn, fc, rfl, hf, hfn⟩, ⟨ta, tn, tc, rfl, ht, htn⟩⟩ := hd
  have b0 : Below w.heap.size w (w.alloc (.cells #[.slice fa fn fc, .slice ta tn tc] 36)) := (Below.refl w.heap.size w).alloc (Nat.le_refl _) _
  have hD : DIs (w.alloc (.cells #[.slice fa fn fc, .slice ta tn tc] 36)) v ds := dIs_below h b0
  have hF : IsRow .i64 (w.alloc (.cells #[.slice fa fn fc, .slice ta tn tc] 36)) fa fn fc d.1 := IsRow.below hf b0
  have hT : IsRow .i64 (w.alloc (.cells #[.slice fa fn fc, .slice ta tn tc] 36)) ta tn tc d.2 := IsRow.below ht b0
  have e0 : (w.alloc (.cells #[.slice fa fn fc, .slice ta tn tc] 36)).cell? ⟨w.heap.size, 0, none⟩ = some (.slice fa fn fc) := by rw [World.cell?_alloc_at _ _ _ _ rfl]; rfl
  have e1 : (w.alloc (.cells #[.slice fa fn fc, .slice ta tn tc] 36)).cell? ⟨w.heap.size, 1, none⟩ = some (.slice ta tn tc) := by rw [World.cell?_alloc_at _ _ _ _ rfl]; rfl
  have HC : Hid (Cols ds) := hC
  have H1 : Hid (∀ z ∈ d.1, 0 ≤ z ∧ z < 6) := h1
  have H2 : Hid (∀ z ∈ d.2, 0 ≤ z ∧ z < 6) := h2
  clear h hf ht hC h1 h2 hfn htn
  go_enter Try.func30, Try.ntmps30
  go_wp2_with fail
  generalize w.alloc (.cells #[.slice fa fn fc, .slice ta tn tc] 36) = V at b0 hD hF hT e0 e1 ⊢
  have HD : Hid (DIs V v ds) := hD
  have HF : Hid (IsRow .i64 V fa fn fc d.1) := hF
  have HT : Hid (IsRow .i64 V ta tn tc d.2) := hT
  have B0 : Hid (Below w.heap.size w V) := b0
  clear hD hF hT b0
  go_region_held3 (fun w' => Below V.heap.size V w' ∧ w'.cell? ⟨w.heap.size, 0, none⟩ = some (.slice fa fn fc) ∧ w'.cell? ⟨w.heap.size, 1, none⟩ = some (.slice ta tn tc))
    (first | exact ⟨(Below.refl _ _).drew, e0, e1⟩ | with_reducible exact (fun kb => ⟨kb, Frame.held_cell kb e0, Frame.held_cell kb e1⟩) (Frame.held_next ‹Below V.heap.size V _ ∧ _› hb1) | with_reducible exact (fun kb => ⟨kb, Frame.held_cell kb e0, Frame.held_cell kb e1⟩) (Frame.held_next ‹Below V.heap.size V _ ∧ _› hb2) | with_reducible exact (fun kb => ⟨kb, Frame.held_cell kb e0, Frame.held_cell kb e1⟩) (Frame.held_next ‹Below V.heap.size V _ ∧ _› hb3) | with_reducible exact (fun kb => ⟨kb, Frame.held_cell kb e0, Frame.held_cell kb e1⟩) (Frame.held_next ‹Below V.heap.size V _ ∧ _› hb4))
    (first | (go_at_call_has 22 fa; refine (setOf fa fn fc d.1 _ ?_ H1.out).mono ?_; exact IsRow.below HF.out (And.left ‹Below V.heap.size V _ ∧ _›); rintro e w1 ⟨rfl, hb1⟩; unfold csv) | (go_at_call_has 22 ta; refine (setOf ta tn tc d.2 _ ?_ H2.out).mono ?_; exact IsRow.below HT.out (And.left ‹Below V.heap.size V _ ∧ _›); rintro e w2 ⟨rfl, hb2⟩; unfold csv) | (go_at_call 23; refine (toldBy v ds (inS d.1) _ ?_ HC.out).mono ?_; exact dIs_below HD.out (And.left ‹Below V.heap.size V _ ∧ _›); rintro e w3 ⟨rfl, hb3⟩; unfold csv) | (go_at_call 21; refine (isWithin (inS d.2) (clS ds (inS d.1)) _).mono ?_; rintro e w4 ⟨rfl, hb4⟩))
  all_goals
    have B4 : Hid (Below w.heap.size w w4) := Frame.next B0.out (And.left ‹Below V.heap.size V _ ∧ _›) B0.out.size
    rw [within_imp H1.out H2.out]
    go_wp2
    go_ret
    exact ⟨rfl, B4.out⟩

theorem depB_cols {cols : Int} {d : Dp} (h : depB cols d = true) (hc : cols ≤ 6) : (∀ z ∈ d.1, 0 ≤ z ∧ z < 6) ∧ ∀ z ∈ d.2, 0 ≤ z ∧ z < 6 := by
  unfold depB at h
  rw [Bool.and_eq_true, rise_iff, rise_iff] at h
  exact ⟨fun z hz => by have := h.1.1 z hz; omega, fun z hz => by have := h.2.1 z hz; omega⟩
theorem rise_cols {cols : Int} {zs : List Int} (h : riseB 0 (cols - 1) zs = true) (hc : cols ≤ 6) : ∀ z ∈ zs, 0 ≤ z ∧ z < 6 := fun z hz => by have := (rise_iff.1 h).1 z hz; omega

def closG (cols : Int) (ds : List Dp) (zs : List Int) : Bool := goodD cols ds && riseB 0 (cols - 1) zs
noncomputable def closV (cols : Int) (ds : List Dp) (zs : List Int) : List Int := if closG cols ds zs then clL ds zs else []
def impG (cols : Int) (ds : List Dp) (d : Dp) : Bool := goodD cols ds && depB cols d
noncomputable def impV (cols : Int) (ds : List Dp) (d : Dp) : Bool := impG cols ds d && impB ds d

theorem iOwn_nil (w : World) (lo hi : Nat) : IOwn w lo hi (.slice none 0 0) [] := ⟨none, 0, 0, rfl, World.ownsRow_nil _ _ _ _, (fun z hz => (by cases hz)), by omega, (fun x hx => (by cases hx))⟩

set_option maxRecDepth 4000 in
set_option maxHeartbeats 1600000 in
theorem impl_ClosureOf (cols : Int) (v u : Value) (ds : List Dp) (zs : List Int) (w : World) (h : DIs w v ds) (hz : IIs w u zs) :
    Calls Try.prog 12 #[.int .i64 cols, v, u] w fun e w' => ∃ u', e = .returned (.tuple #[u', .bool (closG cols ds zs)]) ∧ IOwn w' w.heap.size w'.heap.size u' (closV cols ds zs) ∧ Below w.heap.size w w' := by
  obtain ⟨za, zn, zc, rfl, hzr, hzn⟩ := hz
  have HD : Hid (DIs w v ds) := h
  have HZ : Hid (IsRow .i64 w za zn zc zs) := hzr
  clear h hzr
  go_enter Try.func12, Try.ntmps12
  go_wp2_with fail
  refine (Dga.impl_GoodDeps cols v ds _ HD.out).mono ?_
  rintro e w1 ⟨rfl, hb1⟩
  have B1 : Hid (Below w.heap.size w w1) := hb1
  clear hb1
  cases hG : goodD cols ds
  · have E : Hid (closG cols ds zs = false) := by show _ = _; unfold closG; rw [hG]; rfl
    have EV : Hid (closV cols ds zs = []) := by show _ = _; unfold closV; rw [E.out]; rfl
    clear hG
    go_wp2
    go_ret2
    exact ⟨.slice none 0 0, by rw [E.out]; rfl, by rw [EV.out]; exact iOwn_nil _ _ _, B1.out⟩
  · have HG : Hid (goodD cols ds = true) := hG
    clear hG
    go_wp2_with fail
    refine (Dga.areColumns cols _ _ _ zs _ (IsRow.below HZ.out B1.out)).mono ?_
    rintro e w2 ⟨rfl, hb2⟩
    have B2 : Hid (Below w.heap.size w w2) := Frame.next B1.out hb2 B1.out.size
    clear hb2
    cases hR : riseB 0 (cols - 1) zs
    · have E : Hid (closG cols ds zs = false) := by show _ = _; unfold closG; rw [hR, Bool.and_false]
      have EV : Hid (closV cols ds zs = []) := by show _ = _; unfold closV; rw [E.out]; rfl
      clear hR
      go_wp2
      go_ret2
      exact ⟨.slice none 0 0, by rw [E.out]; rfl, by rw [EV.out]; exact iOwn_nil _ _ _, B2.out⟩
    · have E : Hid (closG cols ds zs = true) := by show _ = _; unfold closG; rw [hR, HG.out]; rfl
      have EV : Hid (closV cols ds zs = clL ds zs) := by show _ = _; unfold closV; rw [E.out]; rfl
      have HC : Hid (Cols ds) := (cols_of HG.out).1
      have HZ6 : Hid (∀ z ∈ zs, 0 ≤ z ∧ z < 6) := rise_cols hR (cols_of HG.out).2.2.1
      clear hR
      go_wp2_with fail
      refine (setOf _ _ _ zs _ (IsRow.below HZ.out B2.out) HZ6.out).mono ?_
      rintro e w3 ⟨rfl, hb3⟩
      have B3 : Hid (Below w.heap.size w w3) := Frame.next B2.out hb3 B2.out.size
      clear hb3
      unfold csv
      go_wp2_with fail
      refine (toldBy v ds (inS zs) _ (dIs_below HD.out B3.out) HC.out).mono ?_
      rintro e w4 ⟨rfl, hb4⟩
      have B4 : Hid (Below w.heap.size w w4) := Frame.next B3.out hb4 B3.out.size
      clear hb4
      unfold csv
      go_wp2_with fail
      refine (listOf (clS ds (inS zs)) _).mono ?_
      rintro e w5 ⟨u5, rfl, ho5, hb5⟩
      rw [listI_cl HZ6.out] at ho5
      have B5 : Hid (Below w.heap.size w w5) := Frame.next B4.out hb5 B4.out.size
      have O5 : Hid (IOwn w5 w.heap.size w5.heap.size u5 (clL ds zs)) := Krl.iOwn_wide ho5 B4.out.size (Nat.le_refl _)
      clear hb5 ho5
      go_wp2
      go_ret2
      exact ⟨u5, by rw [E.out]; rfl, by rw [EV.out]; exact O5.out, B5.out⟩

set_option maxRecDepth 4000 in
set_option maxHeartbeats 1600000 in
theorem impl_Implies (cols : Int) (v u t : Value) (ds : List Dp) (d : Dp) (w : World) (h : DIs w v ds) (hd : EIs w u t d) :
    Calls Try.prog 13 #[.int .i64 cols, v, .agg #[u, t]] w fun e w' => e = .returned (.tuple #[.bool (impV cols ds d), .bool (impG cols ds d)]) ∧ Below w.heap.size w w' := by
  obtain ⟨⟨fa, fn, fc, rfl, hf, hfn⟩, ⟨ta, tn, tc, rfl, ht, htn⟩⟩ := hd
  have b0 : Below w.heap.size w (w.alloc (.cells #[.slice fa fn fc, .slice ta tn tc] 36)) := (Below.refl w.heap.size w).alloc (Nat.le_refl _) _
  have HD : Hid (DIs (w.alloc (.cells #[.slice fa fn fc, .slice ta tn tc] 36)) v ds) := dIs_below h b0
  have HE : Hid (EIs (w.alloc (.cells #[.slice fa fn fc, .slice ta tn tc] 36)) (.slice fa fn fc) (.slice ta tn tc) d) := ⟨⟨_, _, _, rfl, IsRow.below hf b0, hfn⟩, ⟨_, _, _, rfl, IsRow.below ht b0, htn⟩⟩
  have B0 : Hid (Below w.heap.size w (w.alloc (.cells #[.slice fa fn fc, .slice ta tn tc] 36))) := b0
  clear h hf ht b0 hfn htn
  go_enter Try.func13, Try.ntmps13
  go_wp2_with fail
  refine (Dga.impl_GoodDeps cols v ds _ HD.out).mono ?_
  rintro e w1 ⟨rfl, hb1⟩
  have B1 : Hid (Below w.heap.size w w1) := Frame.next B0.out hb1 B0.out.size
  have C1 : Hid (Below (w.alloc (.cells #[.slice fa fn fc, .slice ta tn tc] 36)).heap.size (w.alloc (.cells #[.slice fa fn fc, .slice ta tn tc] 36)) w1) := hb1
  have p0 : w1.cell? ⟨w.heap.size, 0, none⟩ = some (.slice fa fn fc) := by rw [(Frame.bcell hb1).1 _ _ (by simp)]; go_simp
  have p1 : w1.cell? ⟨w.heap.size, 1, none⟩ = some (.slice ta tn tc) := by rw [(Frame.bcell hb1).1 _ _ (by simp)]; go_simp
  clear hb1
  cases hG : goodD cols ds
  · have E : Hid (impG cols ds d = false) := by show _ = _; unfold impG; rw [hG]; rfl
    have EV : Hid (impV cols ds d = false) := by show _ = _; unfold impV; rw [E.out]; rfl
    clear hG
    go_wp2
    go_ret2
    exact ⟨by rw [E.out, EV.out]; rfl, B1.out⟩
  · have HG : Hid (goodD cols ds = true) := hG
    clear hG
    go_wp2_with fail
    refine (Dga.isDep cols _ _ d _ (eIs_below HE.out C1.out)).mono ?_
    rintro e w2 ⟨rfl, hb2⟩
    have B2 : Hid (Below w.heap.size w w2) := Frame.next B1.out hb2 B1.out.size
    have q0 : w2.cell? ⟨w.heap.size, 0, none⟩ = some (.slice fa fn fc) := Frame.held_cell hb2 p0
    have q1 : w2.cell? ⟨w.heap.size, 1, none⟩ = some (.slice ta tn tc) := Frame.held_cell hb2 p1
    have C2 : Hid (Below (w.alloc (.cells #[.slice fa fn fc, .slice ta tn tc] 36)).heap.size (w.alloc (.cells #[.slice fa fn fc, .slice ta tn tc] 36)) w2) := Frame.next C1.out hb2 C1.out.size
    clear hb2 p0 p1
    cases hR : depB cols d
    · have E : Hid (impG cols ds d = false) := by show _ = _; unfold impG; rw [hR, Bool.and_false]
      have EV : Hid (impV cols ds d = false) := by show _ = _; unfold impV; rw [E.out]; rfl
      clear hR
      go_wp2
      go_ret2
      exact ⟨by rw [E.out, EV.out]; rfl, B2.out⟩
    · have E : Hid (impG cols ds d = true) := by show _ = _; unfold impG; rw [hR, HG.out]; rfl
      have EV : Hid (impV cols ds d = impB ds d) := by show _ = _; unfold impV; rw [E.out]; rfl
      have HC : Hid (Cols ds) := (cols_of HG.out).1
      have HDC : Hid ((∀ z ∈ d.1, 0 ≤ z ∧ z < 6) ∧ ∀ z ∈ d.2, 0 ≤ z ∧ z < 6) := depB_cols hR (cols_of HG.out).2.2.1
      clear hR
      go_wp2_with fail
      refine (follows v _ _ ds d _ (dIs_below HD.out C2.out) (eIs_below HE.out C2.out) HC.out HDC.out.1 HDC.out.2).mono ?_
      rintro e w3 ⟨rfl, hb3⟩
      have B3 : Hid (Below w.heap.size w w3) := Frame.next B2.out hb3 B2.out.size
      clear hb3
      go_wp2
      go_ret2
      exact ⟨by rw [E.out, EV.out]; rfl, B3.out⟩


end Go.Proofs.Ytekheacbmbbpmaa.Csd
