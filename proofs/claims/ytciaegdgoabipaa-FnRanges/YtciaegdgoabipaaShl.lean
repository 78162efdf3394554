/-
  Contract of the program's shelved: a good table's rows kept by their keys.
-/
import Derived.Test.YtciaegdgoabipaaSht
namespace Go.Proofs.Ytciaegdgoabipaa.Shl
open Go.RowKit Go.Maps Go.Sort
open Go.Proofs.Ytciaegdgoabipaa.Frame Go.Proofs.Ytciaegdgoabipaa.Mem Go.Proofs.Ytciaegdgoabipaa.Vals Go.Proofs.Ytciaegdgoabipaa.Rws Go.Proofs.Ytciaegdgoabipaa.Val Go.Proofs.Ytciaegdgoabipaa.Tab Go.Proofs.Ytciaegdgoabipaa.Reg Go.Proofs.Ytciaegdgoabipaa.Gtab Go.Proofs.Ytciaegdgoabipaa.Cpy Go.Proofs.Ytciaegdgoabipaa.Own Go.Proofs.Ytciaegdgoabipaa.Drp Go.Proofs.Ytciaegdgoabipaa.Shf Go.Proofs.Ytciaegdgoabipaa.Icp Go.Proofs.Ytciaegdgoabipaa.Ig Go.Proofs.Ytciaegdgoabipaa.Sht

theorem run_makeMap_size {P : Program} {t k e : TypeId} (ht : P.underlying t = some (.map k e)) (n : Int) (w : World) : (Instr.makeMap t (some (.int .i64 n))).run P w = .ok (.map (some w.heap.size)) (w.alloc (.map #[] 0)) := by
  simp [Instr.makeMap, run_underlying ht, asInt, newObj, Result.andThen]
  rfl

theorem okTo_rising {rs : List RowV} {k : Nat} (h : okTo rs k = true) (hk : k ≤ rs.length) : Rising (rs.take k) ∧ ∀ r ∈ rs.take k, rB r = true := by
  induction k with
  | zero => exact ⟨List.Pairwise.nil, by simp⟩
  | succ k ih =>
    rw [okTo, Bool.and_eq_true] at h
    obtain ⟨h1, h2⟩ := ih h.1 (by omega)
    have hkl : k < rs.length := by omega
    have ho := h.2
    unfold okAt at ho
    rw [Bool.and_eq_true, Bool.or_eq_true, decide_eq_true_eq, decide_eq_true_eq] at ho
    rw [take_succ_rd hkl]
    refine ⟨List.pairwise_append.2 ⟨h1, by simp, fun a ha b hb => ?_⟩, fun r hr => ?_⟩
    · rw [List.mem_singleton.1 hb]
      rcases ho.2 with h0 | h0
      · subst h0; simp at ha
      · have e : rs.take k = rs.take (k - 1) ++ [rs.getD (k - 1) rd] := by
          cases k with
          | zero => simp at ha
          | succ j => exact take_succ_rd (by omega)
        rw [e] at ha h1
        rcases List.mem_append.1 ha with ha | ha
        · have := (List.pairwise_append.1 h1).2.2 a ha (rs.getD (k - 1) rd) (by simp)
          omega
        · rw [List.mem_singleton.1 ha]; exact h0
    · rcases List.mem_append.1 hr with hr | hr
      · exact h2 r hr
      · rw [List.mem_singleton.1 hr]; exact ho.1

theorem goodT_rising {rs : List RowV} (h : goodT rs = true) : Rising rs ∧ (∀ r ∈ rs, rB r = true) ∧ rs.length ≤ 20 := by
  unfold goodT at h
  rw [Bool.and_eq_true, decide_eq_true_eq] at h
  have := okTo_rising h.1 (Nat.le_refl _)
  rw [List.take_length] at this
  exact ⟨this.1, this.2, h.2⟩

theorem keys_plain {qs rs : List RowV} (h : plain qs = plain rs) : qs.map (·.key) = rs.map (·.key) := by
  have := congrArg (List.map Prod.fst) h
  simpa [plain, Function.comp_def] using this

theorem rising_plain {qs rs : List RowV} (h : plain qs = plain rs) (hr : Rising rs) : Rising qs := by
  have : (qs.map (·.key)).Pairwise (· < ·) := by
    rw [keys_plain h]
    exact List.pairwise_map.2 hr
  exact List.pairwise_map.1 this

set_option maxRecDepth 100000 in
set_option maxHeartbeats 1000000 in
theorem impl_shelved (a : Option Addr) (n cap : Nat) (rs : List RowV) (w : World) (h : IsRows w a n cap rs) (hn : n ≤ 1048576) (hv : ∀ r ∈ rs, r.n ≤ 1048576) :
    Calls Try.prog 45 #[.slice a n cap] w fun e w' => ((goodT rs = false ∧ e = .returned (.tuple #[.map none, .bool false])) ∨ (goodT rs = true ∧ ∃ b m qs, e = .returned (.tuple #[.map (some b), .bool true]) ∧ m ≤ 20 ∧ plain qs = plain rs ∧ OwnShelf w' w.heap.size b m qs)) ∧ Below w.heap.size w w' := by
  have HL : Hid (rs.length = n) := h.len
  have HI : Hid (IsRows w a n cap rs) := h
  have HV : Hid (∀ r ∈ rs, r.n ≤ 1048576) := hv
  clear h hv
  go_enter Try.func45, Try.ntmps45
  go_wp2_with fail
  refine (impl_GoodTable _ _ _ rs _ HI.out hn HV.out).mono ?_
  rintro e w1 ⟨rfl, hb1⟩
  have HB1 : Hid (Below w.heap.size w w1) := hb1
  have hs1 := hb1.size
  clear hb1
  cases hg : goodT rs
  · have HF : Hid (goodT rs = false) := hg
    clear hg
    go_wp2
    go_ret2
    exact ⟨Or.inl ⟨HF.out, rfl⟩, HB1.out⟩
  · have HG : Hid (Rising rs ∧ (∀ r ∈ rs, rB r = true) ∧ rs.length ≤ 20) := goodT_rising hg
    have hn20 : n ≤ 20 := by rw [← HL.out]; exact HG.out.2.2
    have HGT : Hid (goodT rs = true) := hg
    have hmm := fun n w => run_makeMap_size (P := Try.prog) Try.underlying75 n w
    clear hg
    have HM0 : Hid (OwnShelf (w1.alloc (.map #[] 0)) w.heap.size w1.heap.size 0 []) := ⟨World.ownsMap_made _ _ _ _, hs1, by simp, by simp, List.Pairwise.nil, List.Pairwise.nil⟩
    have HB2 : Hid (Below w.heap.size w (w1.alloc (.map #[] 0))) := HB1.out.alloc hs1 _
    go_wp2_with fail
    go_loopw [6, 15] (fun _ i wr => ∃ (k : Nat) (qs : List RowV), k ≤ n ∧ i = .int .i64 k ∧ plain qs = plain (rs.take k) ∧ OwnShelf wr w.heap.size w1.heap.size k qs ∧ Below w.heap.size w wr) (fun _ i _ => n - (intOf i).toNat)
    case atStart => exact ⟨0, [], Nat.zero_le _, rfl, rfl, HM0.out, HB2.out⟩
    case round =>
      obtain ⟨k, qs, hk, rfl, hp, ho, hnx⟩ := hrel
      have HP : Hid (plain qs = plain (rs.take k)) := hp
      have HO : Hid (OwnShelf wr w.heap.size w1.heap.size k qs) := ho
      have HN : Hid (Below w.heap.size w wr) := hnx
      have hsr := hnx.size
      clear hp ho hnx
      by_cases hlt : k < n
      · obtain ⟨b, off, rfl, hbl, hc⟩ := HI.out.cells (by omega)
        have hkl : k < rs.length := by rw [HL.out]; exact hlt
        have p0 : wr.cell? ⟨b, off + k * 2, none⟩ = some (.int .i64 (rs.getD k rd).key) := by rw [HN.out.cell (p := ⟨b, off + k * 2, none⟩) hbl]; exact (hc k hlt).1
        have p1 : wr.cell? ⟨b, off + k * 2 + 1, none⟩ = some (.slice (rs.getD k rd).a (rs.getD k rd).n (rs.getD k rd).c) := by rw [HN.out.cell (p := ⟨b, off + k * 2 + 1, none⟩) hbl]; exact (hc k hlt).2
        have hkI : (k : Int) < (n : Int) := by omega
        have HR : Hid (((Lit.int .i64 (rs.getD k rd).key).wf = true ∧ IsVals w (rs.getD k rd).a (rs.getD k rd).n (rs.getD k rd).c (rs.getD k rd).vs) ∧ (rs.getD k rd).n ≤ 1048576) := ⟨HI.out.rows _ (getD_mem_rd hkl), HV.out _ (getD_mem_rd hkl)⟩
        have HPn : Hid (plain (rs.take (k + 1)) = plain (rs.take k) ++ [((rs.getD k rd).key, (rs.getD k rd).vs)]) := plain_take_succ hkl
        have HX : Hid (∀ q ∈ qs, q.key < (rs.getD k rd).key) := by
          intro q hq
          have h1 : q.key ∈ (rs.take k).map (·.key) := by rw [← keys_plain HP.out]; exact List.mem_map_of_mem hq
          obtain ⟨r, hr, e⟩ := List.mem_map.1 h1
          have h2 := HG.out.1
          rw [← List.take_append_drop k rs, drop_succ_rd hkl] at h2
          have := (List.pairwise_append.1 h2).2.2 r hr (rs.getD k rd) (by simp)
          omega
        generalize rs.getD k rd = r at p0 p1 HR HPn HX
        obtain ⟨rk, ra, rn, rc, rvs⟩ := r
        simp only at p0 p1
        have HR2 : Hid (((Lit.int .i64 rk).wf = true ∧ IsVals w ra rn rc rvs) ∧ rn ≤ 1048576) := HR.out
        have HPn2 : Hid (plain (rs.take (k + 1)) = plain (rs.take k) ++ [(rk, rvs)]) := HPn.out
        have HX2 : Hid (∀ q ∈ qs, q.key < rk) := HX.out
        clear hc hkl HR HPn HX
        have hbm := HO.out.map.lt
        have HKEY : Hid (keyOf Try.prog 3 (.int .i64 rk) = some (.int .i64 rk)) := key_of HR2.out.1.1
        have HB : Hid (Below w.heap.size w (wr.alloc (.cells #[.int .i64 rk, .slice ra rn rc] 26)).drew) := (HN.out.alloc hsr _).drew
        have HOA : Hid (OwnShelf (wr.alloc (.cells #[.int .i64 rk, .slice ra rn rc] 26)).drew w.heap.size w1.heap.size k qs) := HO.out.below ((Below.refl _ _).alloc (Nat.le_refl _) _).drew
        have HIV : Hid (IsVals (wr.alloc (.cells #[.int .i64 rk, .slice ra rn rc] 26)).drew ra rn rc rvs) := HR2.out.1.2.below HB.out
        have HC : Hid ((wr.alloc (.cells #[.int .i64 rk, .slice ra rn rc] 26)).drew.cell? ⟨wr.heap.size, 0, none⟩ = some (.int .i64 rk) ∧ (wr.alloc (.cells #[.int .i64 rk, .slice ra rn rc] 26)).drew.cell? ⟨wr.heap.size, 1, none⟩ = some (.slice ra rn rc)) := by
          show _ ∧ _
          simp only [World.cell?_drew]
          constructor <;> go_simp
        have HSZ : Hid ((wr.alloc (.cells #[.int .i64 rk, .slice ra rn rc] 26)).drew.heap.size = wr.heap.size + 1) := by show _ = _; simp
        go_wp2_with fail
        go_region_held3 (fun w' => w'.cell? ⟨wr.heap.size, 0, none⟩ = some (.int .i64 rk) ∧ w'.cell? ⟨wr.heap.size, 1, none⟩ = some (.slice ra rn rc))
            (first | exact HC.out | exact ⟨q0, q1⟩ | exact ⟨r0, r1⟩)
            (first | (go_at_call 47; refine (impl_copyOfRow rk ra rn rc rvs _ HIV.out HR2.out.2).mono ?_; rintro e w2 ⟨g, rfl, ho2, hb2⟩; have q0 : w2.cell? ⟨wr.heap.size, 0, none⟩ = some (.int .i64 rk) := ((Frame.bcell hb2).1 _ _ (by rw [HSZ.out]; omega)).trans HC.out.1; have q1 : w2.cell? ⟨wr.heap.size, 1, none⟩ = some (.slice ra rn rc) := ((Frame.bcell hb2).1 _ _ (by rw [HSZ.out]; omega)).trans HC.out.2; have HQ : Hid (w2.cell? ⟨wr.heap.size, 0, none⟩ = some (.int .i64 rk) ∧ w2.cell? ⟨wr.heap.size, 1, none⟩ = some (.slice ra rn rc)) := ⟨q0, q1⟩; have HO2 : Hid (OwnShelf w2 w.heap.size w1.heap.size k qs) := HOA.out.below hb2; obtain ⟨w3, hrun3, hown3', hgrow3'⟩ := HO2.out.map.update (t := 75) (e := 26) (val := .agg #[.int .i64 rk, .slice (some ⟨g, 0, none⟩) rn rn]) law Try.underlying75 (by unfold maxLen; omega) HKEY.out (show Rv _ = some (.held _, []) from rfl); have r0 : w3.cell? ⟨wr.heap.size, 0, none⟩ = some (.int .i64 rk) := (cell_grown hgrow3' (Frame.cell_lt q0) (by simp only [ne_eq, Option.some.injEq]; omega)).trans q0; have r1 : w3.cell? ⟨wr.heap.size, 1, none⟩ = some (.slice ra rn rc) := (cell_grown hgrow3' (Frame.cell_lt q0) (by simp only [ne_eq, Option.some.injEq]; omega)).trans q1; have HU : Hid (w3.ownsMap Try.prog 3 Rv w1.heap.size (k + 1) ((shelf qs).put (.int .i64 rk) (.held (.agg #[.int .i64 rk, .slice (some ⟨g, 0, none⟩) rn rn]))) ∧ w2.grownBy w3 (some w1.heap.size)) := ⟨hown3', hgrow3'⟩; clear hown3' hgrow3'))
        obtain ⟨hown3, hgrow3⟩ := HU.out
        have hsz2 : wr.heap.size + 1 ≤ w2.heap.size := by have := hb2.size; rw [HSZ.out] at this; exact this
        have HB2' : Hid (Below w.heap.size w w2) := Frame.next HB.out hb2 HB.out.size
        have HB3 : Hid (Below w.heap.size w w3) := below_grown HB2'.out hgrow3 HB2'.out.size (fun g hg => by cases hg; exact hs1)
        have hi2 : w2.ownsRow (wr.heap.size + 1) 45 2 (.slice (some ⟨g, 0, none⟩) rn rn) rn (vcells rvs) := by rw [HSZ.out] at ho2; exact ho2
        have HNE : Hid (∀ q ∈ qs, ∀ g', (Value.slice q.a q.n q.c).ownBlock = some g' → some g' ≠ some w1.heap.size) := fun q hq => ne_map HO2.out.map (HO2.out.inner q hq)
        have HO3 : Hid (OwnShelf w3 w.heap.size w1.heap.size (k + 1) (qs ++ [⟨rk, some ⟨g, 0, none⟩, rn, rn, rvs⟩])) := by
          refine ⟨?_, HO2.out.low, fun q hq => ?_, fun q hq => ?_, ?_, ?_⟩
          · rw [← put_last (r := ⟨rk, some ⟨g, 0, none⟩, rn, rn, rvs⟩) HX2.out]
            exact hown3
          · rcases List.mem_append.1 hq with hq | hq
            · exact own_grown (HO2.out.inner q hq) hgrow3 (HNE.out q hq)
            · rw [List.mem_singleton.1 hq]
              exact own_grown (own_base hi2 (by omega)) hgrow3 (ne_map HO2.out.map hi2)
          · rcases List.mem_append.1 hq with hq | hq
            · exact HO2.out.wf q hq
            · rw [List.mem_singleton.1 hq]
              exact ⟨HR2.out.1.1, HR2.out.1.2.wf⟩
          · refine List.pairwise_append.2 ⟨HO2.out.apart, by simp, fun q hq s hs x y hx hy => ?_⟩
            rw [List.mem_singleton.1 hs] at hy
            have h1 := (own_block (HO.out.inner q hq) x hx).2
            have h2 := (own_block hi2 y hy).1
            omega
          · refine List.pairwise_append.2 ⟨HO2.out.rising, by simp, fun q hq s hs => ?_⟩
            rw [List.mem_singleton.1 hs]
            exact HX2.out q hq
        have HP4 : Hid (plain (qs ++ [⟨rk, some ⟨g, 0, none⟩, rn, rn, rvs⟩]) = plain (rs.take (k + 1))) := by
          show _ = _
          rw [HPn2.out, ← HP.out]
          simp [plain]
        clear ho2 hb2 hown3 hgrow3 hi2 p0 p1
        go_wp2
        go_roundw
        case rel => exact ⟨k + 1, _, by omega, by go_num, HP4.out, HO3.out, HB3.out⟩
        case measure => simp [intOf]; omega
      · obtain rfl : k = n := by omega
        have HPE : Hid (plain qs = plain rs) := by show _ = _; rw [HP.out, List.take_of_length_le (by rw [HL.out]; omega)]
        go_wp2
        go_ret2
        exact ⟨Or.inr ⟨HGT.out, _, _, qs, rfl, hn20, HPE.out, HO.out⟩, HN.out⟩


end Go.Proofs.Ytciaegdgoabipaa.Shl
