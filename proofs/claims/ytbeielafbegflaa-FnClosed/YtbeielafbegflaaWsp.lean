/-
  A witness, in the model: contract of WitnessFor.
-/
import Derived.Test.YtbeielafbegflaaWpu
import Derived.Test.YtbeielafbegflaaSsd
import Derived.Test.YtbeielafbegflaaLsa
import Derived.Test.YtbeielafbegflaaSd
namespace Go.Proofs.Ytbeielafbegflaa.Wsp
open Go.RowKit
open Go.Proofs.Ytbeielafbegflaa.Frame Go.Proofs.Ytbeielafbegflaa.Mem Go.Proofs.Ytbeielafbegflaa.Ints Go.Proofs.Ytbeielafbegflaa.Kep Go.Proofs.Ytbeielafbegflaa.Lls Go.Proofs.Ytbeielafbegflaa.Rpu Go.Proofs.Ytbeielafbegflaa.Krl Go.Proofs.Ytbeielafbegflaa.Mis Go.Proofs.Ytbeielafbegflaa.Told Go.Proofs.Ytbeielafbegflaa.Dls Go.Proofs.Ytbeielafbegflaa.Dlk Go.Proofs.Ytbeielafbegflaa.Csd Go.Proofs.Ytbeielafbegflaa.Ssc Go.Proofs.Ytbeielafbegflaa.Ssd Go.Proofs.Ytbeielafbegflaa.Lsa Go.Proofs.Ytbeielafbegflaa.Wpu Go.Proofs.Ytbeielafbegflaa.Sd
open Go.Proofs.Ytbeielafbegflaa.Rel hiding Ll
open Go.Proofs.Ytbeielafbegflaa.Cpu hiding Dp

/-- The box in which the answer is told. -/
structure Nor (w : World) (b : Nat) : Prop where
  c0 : w.cell? ⟨b, 0, none⟩ = some (.slice none 0 0)
  c1 : w.cell? ⟨b, 1, none⟩ = some (.slice none 0 0)
  f0 : w.frozen? ⟨b, 0, none⟩ = false
  f1 : w.frozen? ⟨b, 1, none⟩ = false
theorem Nor.below {w w' : World} {b : Nat} (h : Nor w b) (hb : Below w.heap.size w w') : Nor w' b :=
  ⟨Frame.held_cell hb h.c0, Frame.held_cell hb h.c1, (hb.frozen (p := ⟨b, 0, none⟩) (Frame.cell_lt h.c0)).trans h.f0, (hb.frozen (p := ⟨b, 1, none⟩) (Frame.cell_lt h.c1)).trans h.f1⟩
theorem Nor.lt {w : World} {b : Nat} (h : Nor w b) : b < w.heap.size := Frame.cell_lt h.c0
theorem Nor.made1 (w : World) (o : Obj) (t : TypeId) : Nor ((w.alloc o).alloc (.cells #[.slice none 0 0, .slice none 0 0] t)) (w.heap.size + 1) := by
  have h : Nor ((w.alloc o).alloc (.cells #[.slice none 0 0, .slice none 0 0] t)) (w.alloc o).heap.size := by
    refine ⟨?_, ?_, ?_, ?_⟩ <;> go_simp
  rwa [World.size_alloc] at h
theorem em_bool (b : Bool) : b = false ∨ b = true := by cases b <;> simp
theorem wit_no {cols : Int} {ds : List Dp} {d : Dp} (h : witG cols ds d = false) : witV cols ds d = ([], []) := by unfold witV; rw [h]; rfl
theorem wit_yes {cols : Int} {ds : List Dp} {d : Dp} {c : Nat} (hc : cols = (c : Int)) (h : witG cols ds d = true) : witV cols ds d = (namesC c, [List.replicate c 0, unl ds d.1 c]) := by unfold witV; rw [h, hc]; rfl

set_option maxRecDepth 4000 in
set_option maxHeartbeats 6400000 in
theorem spec_WitnessFor (cols : Int) (v u t : Value) (ds : List Dp) (d : Dp) (w : World) (h : DIs w v ds) (hd : EIs w u t d) :
    Calls Try.prog 9 #[.int .i64 cols, v, .agg #[u, t]] w (RTold (witV cols ds d) (witG cols ds d) w) := by
  obtain ⟨i0, hi, hz0, hz1, hz2⟩ := info_parts Ints.info
  obtain ⟨⟨fa, fn, fc, rfl, hf, hfn⟩, ⟨ta, tn, tc, rfl, ht, htn⟩⟩ := hd
  have b0 : Below w.heap.size w (w.alloc (.cells #[.slice fa fn fc, .slice ta tn tc] 26)) := (Below.refl w.heap.size w).alloc (Nat.le_refl _) _
  have b1 : Below w.heap.size w ((w.alloc (.cells #[.slice fa fn fc, .slice ta tn tc] 26)).alloc (.cells #[.slice none 0 0, .slice none 0 0] 33)) := b0.alloc (by simp) _
  have hD : DIs ((w.alloc (.cells #[.slice fa fn fc, .slice ta tn tc] 26)).alloc (.cells #[.slice none 0 0, .slice none 0 0] 33)) v ds := dIs_below h b1
  have hE : EIs ((w.alloc (.cells #[.slice fa fn fc, .slice ta tn tc] 26)).alloc (.cells #[.slice none 0 0, .slice none 0 0] 33)) (.slice fa fn fc) (.slice ta tn tc) d := ⟨⟨_, _, _, rfl, IsRow.below hf b1, hfn⟩, ⟨_, _, _, rfl, IsRow.below ht b1, htn⟩⟩
  have b2 : Below (w.alloc (.cells #[.slice fa fn fc, .slice ta tn tc] 26)).heap.size (w.alloc (.cells #[.slice fa fn fc, .slice ta tn tc] 26)) ((w.alloc (.cells #[.slice fa fn fc, .slice ta tn tc] 26)).alloc (.cells #[.slice none 0 0, .slice none 0 0] 33)) := (Below.refl _ _).alloc (Nat.le_refl _) _
  have p0 := Frame.held_cell b2 (cells_one w (.slice fa fn fc) (.slice ta tn tc) 26).1
  have p1 := Frame.held_cell b2 (cells_one w (.slice fa fn fc) (.slice ta tn tc) 26).2
  have hN := Nor.made1 w (.cells #[.slice fa fn fc, .slice ta tn tc] 26) 33
  have hF := IsRow.below hf b1
  clear b0 b2 hf ht h hfn htn
  go_enter Try.func9, Try.ntmps9
  go_wp2_with fail
  generalize ((w.alloc (.cells #[.slice fa fn fc, .slice ta tn tc] 26)).alloc (.cells #[.slice none 0 0, .slice none 0 0] 33)) = V at b1 hD hE p0 p1 hN hF ⊢
  have B0 : Hid (Below w.heap.size w V) := b1
  have HD : Hid (DIs V v ds) := hD
  have HE : Hid (EIs V (.slice fa fn fc) (.slice ta tn tc) d) := hE
  have HN : Hid (Nor V (w.heap.size + 1)) := hN
  have HF : Hid (IsRow .i64 V fa fn fc d.1) := hF
  clear b1 hD hE hN hF
  refine (spec_Implies cols v _ _ ds d _ HD.out HE.out).mono ?_
  rintro e w1 ⟨rfl, hb1⟩
  have B1 : Hid (Below w.heap.size w w1) := Frame.next B0.out hb1 B0.out.size
  have C1 : Hid (Below V.heap.size V w1) := hb1
  have q0 : w1.cell? ⟨w.heap.size, 0, none⟩ = some (.slice fa fn fc) := Frame.held_cell hb1 p0
  obtain ⟨c0, c1, f0, f1⟩ := HN.out.below hb1
  have N1 : Hid (Nor w1 (w.heap.size + 1)) := ⟨c0, c1, f0, f1⟩
  clear hb1 p0 p1
  have WG : Hid (witG cols ds d = (impG cols ds d && !impB ds d)) := rfl
  cases hG : impG cols ds d
  · have E : Hid (witG cols ds d = false) := by show _ = _; rw [WG.out, hG]; rfl
    have EV : Hid (impV cols ds d = false) := by show _ = _; unfold impV; rw [hG]; rfl
    rw [EV.out]
    clear hG
    go_wp2
    refine bodyPost_ret (v := .tuple #[.agg #[.slice none 0 0, .slice none 0 0], .bool false]) (by simp [results, Try.results9, go_sem, c0, c1]) rfl ?_
    rw [wit_no E.out, E.out]
    exact wit_none (by omega) B1.out
  · have EV : Hid (impV cols ds d = impB ds d) := by show _ = _; unfold impV; rw [hG]; rfl
    rw [EV.out]
    cases hI : impB ds d
    · have E : Hid (witG cols ds d = true) := by show _ = _; rw [WG.out, hG, hI]; rfl
      have hg : goodD cols ds = true ∧ depB cols d = true := by unfold impG at hG; rw [Bool.and_eq_true] at hG; exact hG
      have hc := cols_of hg.1
      obtain ⟨c, hcc⟩ : ∃ c : Nat, cols = (c : Int) := ⟨cols.toNat, by omega⟩
      have hc6 : c ≤ 6 := by have := hc.2.2.1; omega
      have HC : Hid (Cols ds) := hc.1
      have HDC : Hid ((∀ z ∈ d.1, 0 ≤ z ∧ z < 6) ∧ ∀ z ∈ d.2, 0 ≤ z ∧ z < 6) := depB_cols hg.2 hc.2.2.1
      have HUP : Hid (UpN d.1) := by have h := hg.2; unfold depB at h; rw [Bool.and_eq_true, rise_iff] at h; exact h.1.2
      have WY : Hid (witV cols ds d = (namesC c, [List.replicate c 0, unl ds d.1 c])) := wit_yes hcc E.out
      have WGD : Hid (tellL [List.replicate c 0, unl ds d.1 c] = [List.replicate c 0, unl ds d.1 c] ∧ goodR (namesC c) [List.replicate c 0, unl ds d.1 c] = true) := wit_good hcc hc6 hg.2 hI
      clear hG hI hg hc c0 c1 f0 f1
      subst hcc
      go_wp2_with fail
      refine (l5Closure v fa fn fc ds d.1 _ (dIs_below HD.out C1.out) (IsRow.below HF.out C1.out) HC.out HUP.out HDC.out.1).mono ?_
      rintro e w2 ⟨u2, rfl, ho2, hb2⟩
      obtain ⟨a2, n2, k2, rfl, hr2, hn2⟩ := iOwn_is ho2
      have R2 : Hid (IsRow .i64 w2 a2 n2 k2 (clL ds d.1)) := hr2
      have B2 : Hid (Below w.heap.size w w2) := Frame.next B1.out hb2 B1.out.size
      have C2 : Hid (Below V.heap.size V w2) := Frame.next C1.out hb2 C1.out.size
      clear ho2 hr2 hb2 q0
      go_wp2_with fail
      go_loopw [11, 12, 13] (fun s t i wr => ∃ (k : Nat) (a3 a4 : Option Addr) (c3 c4 : Nat), k ≤ c ∧ i = .int .i64 k ∧ s = .slice a3 k c3 ∧ t = .slice a4 k c4 ∧ wr.ownsRow w2.heap.size 3 1 (.slice a3 k c3) k (ints .i64 (namesC k)) ∧ wr.ownsRow w2.heap.size 3 1 (.slice a4 k c4) k (ints .i64 (unl ds d.1 k)) ∧ Far a3 a4 ∧ Below w2.heap.size w2 wr) (fun _ _ i _ => c - (intOf i).toNat)
      case atStart => exact ⟨0, none, none, 0, 0, Nat.zero_le _, rfl, rfl, rfl, World.ownsRow_nil _ _ _ _, World.ownsRow_nil _ _ _ _, (fun x y hx _ => by cases hx), Below.refl _ _⟩
      case round =>
        obtain ⟨k, a3, a4, c3, c4, hk, rfl, rfl, rfl, ho3, ho4, hfar, hnx⟩ := hrel
        have HX : Hid (Below w2.heap.size w2 wr) := hnx
        have O3 : Hid (wr.ownsRow w2.heap.size 3 1 (.slice a3 k c3) k (ints .i64 (namesC k))) := ho3
        have O4 : Hid (wr.ownsRow w2.heap.size 3 1 (.slice a4 k c4) k (ints .i64 (unl ds d.1 k))) := ho4
        have FR : Hid (Far a3 a4) := hfar
        have hsr := hnx.size
        clear ho3 ho4 hfar hnx
        by_cases hlt : k < c
        · have hltI : (k : Int) < (c : Int) := by omega
          have NS : Hid (ints .i64 (namesC (k + 1)) = ints .i64 (namesC k) ++ [.int .i64 (k : Int)]) := by show _ = _; rw [names_succ]; unfold ints; rw [List.map_append]; rfl
          have US : Hid (unl ds d.1 (k + 1) = unl ds d.1 k ++ [if clB ds d.1 k then 0 else 1]) := unl_succ ds d.1 k
          have MEM : Hid (decide ((k : Int) ∈ clL ds d.1) = clB ds d.1 k) := by
            show _ = _
            rw [Bool.eq_iff_iff, decide_eq_true_eq]
            unfold clL
            rw [mem_listI]
            constructor
            · rintro ⟨i, _, hb, e⟩
              have : i = k := by omega
              rw [← this]; exact hb
            · intro hb
              exact ⟨k, by omega, hb, rfl⟩
          have ba : Below wr.heap.size wr (wr.alloc (.cells #[.int .i64 (k : Int)] 3)) := (Below.refl _ _).alloc (Nat.le_refl _) _
          have O3a : Hid ((wr.alloc (.cells #[.int .i64 (k : Int)] 3)).ownsRow w2.heap.size 3 1 (.slice a3 k c3) k (ints .i64 (namesC k))) := own_below O3.out ba
          have O4a : Hid ((wr.alloc (.cells #[.int .i64 (k : Int)] 3)).ownsRow w2.heap.size 3 1 (.slice a4 k c4) k (ints .i64 (unl ds d.1 k))) := own_below O4.out ba
          have HXa : Hid (Below w2.heap.size w2 (wr.alloc (.cells #[.int .i64 (k : Int)] 3))) := HX.out.alloc hsr _
          have S2 : Hid (∀ j u, ([.int .i64 (k : Int)] : List Value)[j]? = some u → (wr.alloc (.cells #[.int .i64 (k : Int)] 3)).cell? ((⟨wr.heap.size, 0, none⟩ : Addr).add j) = some u) := by
            obtain ⟨ad, e, hh⟩ := news_one wr (.int .i64 (k : Int)) 3 (by decide)
            cases e
            exact hh
          clear ba
          go_wp2_with (at_builtin; refine wpList_append_lies _ rfl _ _ 24 rfl w2.heap.size 3 i0 (.int .i64 0) 1 8 Try.underlying24 hi hz0 hz1 hz2 rfl (by decide) _ _ _ rfl O3a.out ⟨wr.heap.size, 0, none⟩ 1 _ [.int .i64 (k : Int)] rfl rfl S2.out (by simp [Value.oneCell']) (by decide) (by unfold maxLen; omega) (by omega) HXa.out.size _ rfl ?_)
          intro g5 c5 w5 hown5 hgrow5 hat5 _
          have O5 : Hid (w5.ownsRow w2.heap.size 3 1 (.slice (some ⟨g5, 0, none⟩) (k + 1) c5) (k + 1) (ints .i64 (namesC (k + 1)))) := by show World.ownsRow _ _ _ _ _ _ _; rw [NS.out]; exact hown5
          have hp5 := two_app O4a.out FR.out hgrow5 (by rw [World.size_alloc]; exact hat5)
          have P5 : Hid (w5.ownsRow w2.heap.size 3 1 (.slice a4 k c4) k (ints .i64 (unl ds d.1 k))) := hp5.1
          have F5 : Hid (Far (some ⟨g5, 0, none⟩) a4) := hp5.2
          have X5 : Hid (Below w2.heap.size w2 w5) := below_app HXa.out O3a.out hgrow5 HXa.out.size (Nat.le_refl _)
          clear hown5 hgrow5 hat5 hp5
          go_wp2_with fail
          refine (l1Has a2 n2 k2 (clL ds d.1) (k : Int) _ (IsRow.below R2.out X5.out)).mono ?_
          rintro e w6 ⟨rfl, hww⟩
          obtain rfl := hww.symm
          clear hww
          rw [MEM.out]
          rcases em_bool (clB ds d.1 k) with hB | hB
          · have UN : Hid (ints .i64 (unl ds d.1 (k + 1)) = ints .i64 (unl ds d.1 k) ++ [.int .i64 1]) := by show _ = _; rw [US.out, hB]; unfold ints; rw [List.map_append]; rfl
            rw [hB]
            have P6 : Hid ((w5.alloc (.cells #[.int .i64 1] 3)).ownsRow w2.heap.size 3 1 (.slice a4 k c4) k (ints .i64 (unl ds d.1 k))) := own_below P5.out ((Below.refl _ _).alloc (Nat.le_refl _) _)
            have O6 : Hid ((w5.alloc (.cells #[.int .i64 1] 3)).ownsRow w2.heap.size 3 1 (.slice (some ⟨g5, 0, none⟩) (k + 1) c5) (k + 1) (ints .i64 (namesC (k + 1)))) := own_below O5.out ((Below.refl _ _).alloc (Nat.le_refl _) _)
            have X6 : Hid (Below w2.heap.size w2 (w5.alloc (.cells #[.int .i64 1] 3))) := X5.out.alloc X5.out.size _
            have S6 : Hid (∀ j u, ([.int .i64 1] : List Value)[j]? = some u → (w5.alloc (.cells #[.int .i64 1] 3)).cell? ((⟨w5.heap.size, 0, none⟩ : Addr).add j) = some u) := by
              obtain ⟨ad, e, hh⟩ := news_one w5 (.int .i64 1) 3 (by decide)
              cases e
              exact hh
            clear hB
            go_wp2_with (at_builtin; refine wpList_append_lies _ rfl _ _ 24 rfl w2.heap.size 3 i0 (.int .i64 0) 1 8 Try.underlying24 hi hz0 hz1 hz2 rfl (by decide) _ _ _ rfl P6.out ⟨w5.heap.size, 0, none⟩ 1 _ [.int .i64 1] rfl rfl S6.out (by simp [Value.oneCell']) (by decide) (by unfold maxLen; omega) (by omega) X6.out.size _ rfl ?_)
            intro g7 c7 w7 hown7 hgrow7 hat7 _
            have P7 : Hid (w7.ownsRow w2.heap.size 3 1 (.slice (some ⟨g7, 0, none⟩) (k + 1) c7) (k + 1) (ints .i64 (unl ds d.1 (k + 1)))) := by show World.ownsRow _ _ _ _ _ _ _; rw [UN.out]; exact hown7
            have hp7 := two_app O6.out (Far.symm F5.out) hgrow7 (by rw [World.size_alloc]; exact hat7)
            have O7 : Hid (w7.ownsRow w2.heap.size 3 1 (.slice (some ⟨g5, 0, none⟩) (k + 1) c5) (k + 1) (ints .i64 (namesC (k + 1)))) := hp7.1
            have F7 : Hid (Far (some ⟨g5, 0, none⟩) (some ⟨g7, 0, none⟩)) := Far.symm hp7.2
            have X7 : Hid (Below w2.heap.size w2 w7) := below_app X6.out P6.out hgrow7 X6.out.size (Nat.le_refl _)
            clear hown7 hgrow7 hat7 hp7
            go_wp2
            go_roundw
            case rel => exact ⟨k + 1, _, _, c5, c7, by omega, by go_num, rfl, rfl, O7.out, P7.out, F7.out, X7.out⟩
            case measure => simp [intOf]; omega
          · have UN : Hid (ints .i64 (unl ds d.1 (k + 1)) = ints .i64 (unl ds d.1 k) ++ [.int .i64 0]) := by show _ = _; rw [US.out, hB]; unfold ints; rw [List.map_append]; rfl
            rw [hB]
            have P6 : Hid ((w5.alloc (.cells #[.int .i64 0] 3)).ownsRow w2.heap.size 3 1 (.slice a4 k c4) k (ints .i64 (unl ds d.1 k))) := own_below P5.out ((Below.refl _ _).alloc (Nat.le_refl _) _)
            have O6 : Hid ((w5.alloc (.cells #[.int .i64 0] 3)).ownsRow w2.heap.size 3 1 (.slice (some ⟨g5, 0, none⟩) (k + 1) c5) (k + 1) (ints .i64 (namesC (k + 1)))) := own_below O5.out ((Below.refl _ _).alloc (Nat.le_refl _) _)
            have X6 : Hid (Below w2.heap.size w2 (w5.alloc (.cells #[.int .i64 0] 3))) := X5.out.alloc X5.out.size _
            have S6 : Hid (∀ j u, ([.int .i64 0] : List Value)[j]? = some u → (w5.alloc (.cells #[.int .i64 0] 3)).cell? ((⟨w5.heap.size, 0, none⟩ : Addr).add j) = some u) := by
              obtain ⟨ad, e, hh⟩ := news_one w5 (.int .i64 0) 3 (by decide)
              cases e
              exact hh
            clear hB
            go_wp2_with (at_builtin; refine wpList_append_lies _ rfl _ _ 24 rfl w2.heap.size 3 i0 (.int .i64 0) 1 8 Try.underlying24 hi hz0 hz1 hz2 rfl (by decide) _ _ _ rfl P6.out ⟨w5.heap.size, 0, none⟩ 1 _ [.int .i64 0] rfl rfl S6.out (by simp [Value.oneCell']) (by decide) (by unfold maxLen; omega) (by omega) X6.out.size _ rfl ?_)
            intro g7 c7 w7 hown7 hgrow7 hat7 _
            have P7 : Hid (w7.ownsRow w2.heap.size 3 1 (.slice (some ⟨g7, 0, none⟩) (k + 1) c7) (k + 1) (ints .i64 (unl ds d.1 (k + 1)))) := by show World.ownsRow _ _ _ _ _ _ _; rw [UN.out]; exact hown7
            have hp7 := two_app O6.out (Far.symm F5.out) hgrow7 (by rw [World.size_alloc]; exact hat7)
            have O7 : Hid (w7.ownsRow w2.heap.size 3 1 (.slice (some ⟨g5, 0, none⟩) (k + 1) c5) (k + 1) (ints .i64 (namesC (k + 1)))) := hp7.1
            have F7 : Hid (Far (some ⟨g5, 0, none⟩) (some ⟨g7, 0, none⟩)) := Far.symm hp7.2
            have X7 : Hid (Below w2.heap.size w2 w7) := below_app X6.out P6.out hgrow7 X6.out.size (Nat.le_refl _)
            clear hown7 hgrow7 hat7 hp7
            go_wp2
            go_roundw
            case rel => exact ⟨k + 1, _, _, c5, c7, by omega, by go_num, rfl, rfl, O7.out, P7.out, F7.out, X7.out⟩
            case measure => simp [intOf]; omega
        · obtain rfl : k = c := by omega
          go_wp2_with (at_make; refine wpList_make_full _ rfl _ _ 24 rfl w2.heap.size 3 i0 (.int .i64 0) 1 Try.underlying24 hi hz0 hz1 _ _ _ _ k rfl rfl rfl rfl ?b2 ?b3 HX.out.size ?_)
          case b2 => rw [hz2]; omega
          case b3 => unfold maxLen; omega
          intro w8 hown8 hgrow8
          have e8 : (madeCells #[Value.int .i64 0] k).toList = ints .i64 (List.replicate k 0) := by rw [toList_madeCells_one]; simp [ints]
          rw [e8] at hown8
          have hb8 : Below wr.heap.size wr w8 := below_make (Below.refl _ _) hgrow8 (Nat.le_refl _)
          obtain ⟨_, _, e, hr8⟩ := isRow_own hown8 (zero_wf k)
          cases e
          obtain ⟨_, _, e, hr4⟩ := isRow_own O4.out (unl_wf ds d.1 k)
          cases e
          obtain ⟨_, _, e, hr3⟩ := isRow_own O3.out (names_wf hc6)
          cases e
          have b9 : Below w8.heap.size w8 (w8.alloc (.cells #[.slice (some ⟨wr.heap.size, 0, none⟩) k k, .slice a4 k c4] 24)) := (Below.refl _ _).alloc (Nat.le_refl _) _
          have T9 : Hid (IsLs (w8.alloc (.cells #[.slice (some ⟨wr.heap.size, 0, none⟩) k k, .slice a4 k c4] 24)) (some ⟨w8.heap.size, 0, none⟩) 2 2 [⟨some ⟨wr.heap.size, 0, none⟩, k, k, List.replicate k 0⟩, ⟨a4, k, c4, unl ds d.1 k⟩]) := by
            refine ⟨rfl, Nat.le_refl _, by unfold maxLen; omega, fun r hr => ?_, fun _ => ⟨w8.heap.size, 0, rfl, by simp, fun i hi => ?_⟩⟩
            · rcases List.mem_cons.1 hr with rfl | hr
              · exact IsRow.below hr8 b9
              · rw [List.mem_singleton.1 hr]; exact IsRow.below (IsRow.below hr4 hb8) b9
            · obtain rfl | rfl : i = 0 ∨ i = 1 := by omega
              · rw [World.cell?_alloc_at _ _ _ _ rfl]; rfl
              · rw [World.cell?_alloc_at _ _ _ _ rfl]; rfl
          have R3 : Hid (IsRow .i64 (w8.alloc (.cells #[.slice (some ⟨wr.heap.size, 0, none⟩) k k, .slice a4 k c4] 24)) a3 k c3 (namesC k)) := IsRow.below (IsRow.below hr3 hb8) b9
          have X9 : Hid (Below w2.heap.size w2 (w8.alloc (.cells #[.slice (some ⟨wr.heap.size, 0, none⟩) k k, .slice a4 k c4] 24))) := Frame.next (Frame.next HX.out hb8 HX.out.size) b9 (Frame.next HX.out hb8 HX.out.size).size
          have LEN : Hid (∀ r ∈ ([⟨some ⟨wr.heap.size, 0, none⟩, k, k, List.replicate k 0⟩, ⟨a4, k, c4, unl ds d.1 k⟩] : List LV), r.zs.length = k) := fun r hr => by
            rcases List.mem_cons.1 hr with rfl | hr
            · simp
            · rw [List.mem_singleton.1 hr]; exact unl_length _ _ _
          clear hown8 hgrow8 e8 hb8 hr8 hr4 hr3 b9
          go_wp2_with fail
          refine (spec_l3Tell a3 (some ⟨w8.heap.size, 0, none⟩) k c3 2 2 k (namesC k) _ _ R3.out T9.out (by omega) (by omega) (by omega) LEN.out (by omega)).mono ?_
          rintro e wa ⟨ua, un, uc, xa, xn, xc, rfl, hoa, hba⟩
          have TY := tellV_yes (ns := namesC k) (ts := [List.replicate k 0, unl ds d.1 k]) (by rw [WGD.out.1]; exact WGD.out.2)
          rw [WGD.out.1] at TY
          have TV : Hid (tellV (namesC k) (lplain [⟨some ⟨wr.heap.size, 0, none⟩, k, k, List.replicate k 0⟩, ⟨a4, k, c4, unl ds d.1 k⟩]) = (namesC k, [List.replicate k 0, unl ds d.1 k]) ∧ tellG (namesC k) (lplain [⟨some ⟨wr.heap.size, 0, none⟩, k, k, List.replicate k 0⟩, ⟨a4, k, c4, unl ds d.1 k⟩]) = true) := TY
          rw [TV.out.1] at hoa
          rw [TV.out.2]
          have QA : Hid (Krl.QOwn wa (w8.alloc (.cells #[.slice (some ⟨wr.heap.size, 0, none⟩) k k, .slice a4 k c4] 24)).heap.size wa.heap.size (.slice ua un uc) (.slice xa xn xc) (namesC k, [List.replicate k 0, unl ds d.1 k])) := hoa
          have XA : Hid (Below w2.heap.size w2 wa) := Frame.next X9.out hba X9.out.size
          have BA : Hid (Below w.heap.size w wa) := Frame.next B2.out XA.out B2.out.size
          have CA : Hid (Below V.heap.size V wa) := Frame.next C2.out XA.out C2.out.size
          obtain ⟨c0, c1, f0, f1⟩ := HN.out.below CA.out
          have hs9 : w.heap.size + 1 + 1 ≤ (w8.alloc (.cells #[.slice (some ⟨wr.heap.size, 0, none⟩) k k, .slice a4 k c4] 24)).heap.size := by have := HN.out.lt; have := C2.out.size; have := X9.out.size; omega
          clear hoa hba TY
          go_wp2
          refine bodyPost_ret (v := .tuple #[.agg #[.slice ua un uc, .slice xa xn xc], .bool true]) (by simp [results, Try.results9, go_sem, c0, c1]) rfl ?_
          rw [WY.out, E.out]
          exact told_end (by omega) (by omega) hs9 QA.out BA.out
    · have E : Hid (witG cols ds d = false) := by show _ = _; rw [WG.out, hG, hI]; rfl
      clear hG hI
      go_wp2
      refine bodyPost_ret (v := .tuple #[.agg #[.slice none 0 0, .slice none 0 0], .bool false]) (by simp [results, Try.results9, go_sem, c0, c1]) rfl ?_
      rw [wit_no E.out, E.out]
      exact wit_none (by omega) B1.out


end Go.Proofs.Ytbeielafbegflaa.Wsp
