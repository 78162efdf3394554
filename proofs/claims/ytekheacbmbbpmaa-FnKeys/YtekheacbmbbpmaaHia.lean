/-
  What holds in a relation: names in it, the numbers at some places as an array of six, and both held against each other: contracts of the program.
-/
import Derived.Test.YtekheacbmbbpmaaOf
import Derived.Test.YtekheacbmbbpmaaOb
import Derived.Test.YtekheacbmbbpmaaOcp
import Derived.Test.YtekheacbmbbpmaaCsb
namespace Go.Proofs.Ytekheacbmbbpmaa.Hia
open Go.RowKit
open Go.Proofs.Ytekheacbmbbpmaa.Frame Go.Proofs.Ytekheacbmbbpmaa.Mem Go.Proofs.Ytekheacbmbbpmaa.Ints Go.Proofs.Ytekheacbmbbpmaa.Kep Go.Proofs.Ytekheacbmbbpmaa.Lls Go.Proofs.Ytekheacbmbbpmaa.Rpu Go.Proofs.Ytekheacbmbbpmaa.Krl Go.Proofs.Ytekheacbmbbpmaa.Oa Go.Proofs.Ytekheacbmbbpmaa.Mis Go.Proofs.Ytekheacbmbbpmaa.Dls Go.Proofs.Ytekheacbmbbpmaa.Dlk
open Go.Proofs.Ytekheacbmbbpmaa.Rel hiding Ll
open Go.Proofs.Ytekheacbmbbpmaa.Cpu hiding Dp

abbrev Ns := Nat → Int
/-- Six numbers lie in a block. -/
def AtN (w : World) (g : Nat) (f : Ns) : Prop := (∀ i, i < 6 → w.cell? ⟨g, i, none⟩ = some (.int .i64 (f i))) ∧ (∀ i, i < 6 → w.frozen? ⟨g, i, none⟩ = false) ∧ g < w.heap.size
def nsv (f : Ns) : Value := .agg #[.int .i64 (f 0), .int .i64 (f 1), .int .i64 (f 2), .int .i64 (f 3), .int .i64 (f 4), .int .i64 (f 5)]
def zeroN : Ns := fun _ => 0
theorem AtN.cells {w : World} {g : Nat} {f : Ns} (h : AtN w g f) : w.cell? ⟨g, 0, none⟩ = some (.int .i64 (f 0)) ∧ w.cell? ⟨g, 1, none⟩ = some (.int .i64 (f 1)) ∧ w.cell? ⟨g, 2, none⟩ = some (.int .i64 (f 2)) ∧ w.cell? ⟨g, 3, none⟩ = some (.int .i64 (f 3)) ∧ w.cell? ⟨g, 4, none⟩ = some (.int .i64 (f 4)) ∧ w.cell? ⟨g, 5, none⟩ = some (.int .i64 (f 5)) :=
  ⟨h.1 0 (by omega), h.1 1 (by omega), h.1 2 (by omega), h.1 3 (by omega), h.1 4 (by omega), h.1 5 (by omega)⟩
theorem AtN.froz {w : World} {g : Nat} {f : Ns} (h : AtN w g f) : w.frozen? ⟨g, 0, none⟩ = false ∧ w.frozen? ⟨g, 1, none⟩ = false ∧ w.frozen? ⟨g, 2, none⟩ = false ∧ w.frozen? ⟨g, 3, none⟩ = false ∧ w.frozen? ⟨g, 4, none⟩ = false ∧ w.frozen? ⟨g, 5, none⟩ = false :=
  ⟨h.2.1 0 (by omega), h.2.1 1 (by omega), h.2.1 2 (by omega), h.2.1 3 (by omega), h.2.1 4 (by omega), h.2.1 5 (by omega)⟩
theorem AtN.made (w : World) (f : Ns) (t : TypeId) : AtN (w.alloc (.cells #[.int .i64 (f 0), .int .i64 (f 1), .int .i64 (f 2), .int .i64 (f 3), .int .i64 (f 4), .int .i64 (f 5)] t)) w.heap.size f := by
  refine ⟨Csa.six ?_ ?_ ?_ ?_ ?_ ?_, fun i _ => World.frozen?_alloc_at _ _ _ _ rfl, by simp⟩ <;> rw [World.cell?_alloc_at _ _ _ _ rfl] <;> rfl
theorem AtN.below {w w' : World} {g : Nat} {f : Ns} (h : AtN w g f) (hb : Below w.heap.size w w') : AtN w' g f :=
  ⟨fun i hi => Frame.held_cell hb (h.1 i hi), fun i hi => ((Frame.bcell hb).2.1 g i h.2.2).trans (h.2.1 i hi), Nat.lt_of_lt_of_le h.2.2 hb.size⟩
def setN (f : Ns) (c : Nat) (b : Int) : Ns := fun i => if i = c then b else f i
theorem AtN.set {w : World} {g c : Nat} {f : Ns} (h : AtN w g f) (hc : c < 6) (b : Int) : AtN (w.setCell ⟨g, c, none⟩ (.int .i64 b)) g (setN f c b) := by
  refine ⟨fun i hi => ?_, fun i hi => by rw [World.frozen?_setCell]; exact h.2.1 i hi, by simpa using h.2.2⟩
  unfold setN
  by_cases e : i = c
  · rw [e, if_pos rfl]; exact World.cell?_setCell_same _ _ _ (h.1 c hc)
  · rw [if_neg e, World.cell?_setCell_other _ _ _ _ (by simp)]; exact h.1 i hi
theorem AtN.congr {w : World} {g : Nat} {f f' : Ns} (h : AtN w g f) (e : ∀ i, i < 6 → f i = f' i) : AtN w g f' := ⟨fun i hi => by rw [← e i hi]; exact h.1 i hi, h.2⟩
theorem AtN.other {w : World} {g b : Nat} {f : Ns} (h : AtN w g f) (o : Nat) (v : Value) (hb : b ≠ g) : AtN (w.setCell ⟨b, o, none⟩ v) g f :=
  ⟨fun i hi => by rw [World.cell?_setCell_other _ _ _ _ (by simp)]; exact h.1 i hi, fun i hi => by rw [World.frozen?_setCell]; exact h.2.1 i hi, by simpa using h.2.2⟩

/-- What is at some places, and 0 behind. -/
def numsAt (ts ps : List Int) : Ns := fun i => if i < ps.length then ts.getD (ps.getD i 0).toNat 0 else 0
theorem nums_next {ts ps : List Int} {k : Nat} (hk : k < ps.length) : ∀ i, i < 6 → setN (numsAt ts (ps.take k)) k (ts.getD (ps.getD k 0).toNat 0) i = numsAt ts (ps.take (k + 1)) i := fun i _ => by
  unfold setN numsAt
  rw [List.length_take, List.length_take, Nat.min_eq_left (by omega), Nat.min_eq_left (by omega)]
  by_cases e : i = k
  · rw [if_pos e, if_pos (by omega), e]
    simp [List.getD, hk]
  · rw [if_neg e]
    by_cases h : i < k
    · rw [if_pos h, if_pos (by omega)]
      simp [List.getD, h, show i < k + 1 by omega]
    · rw [if_neg h, if_neg (by omega)]

set_option maxRecDepth 4000 in
set_option maxHeartbeats 1600000 in
theorem numbersAt (a b : Option Addr) (n m ca cb : Nat) (ts ps : List Int) (w : World) (ha : IsRow .i64 w a n ca ts) (hb : IsRow .i64 w b m cb ps) (hm : m ≤ 6) (hp : ∀ p ∈ ps, 0 ≤ p ∧ p < (n : Int)) :
    Calls Try.prog 39 #[.slice a n ca, .slice b m cb] w fun e w' => e = .returned (nsv (numsAt ts ps)) ∧ Below w.heap.size w w' := by
  have hmaxn : n ≤ 9223372036854775807 := by have := ha.fits; have := ha.max; unfold maxLen at *; omega
  have HL : Hid (ps.length = m) := hb.len
  have HI : Hid (IsRow .i64 w a n ca ts) := ha
  have HJ : Hid (IsRow .i64 w b m cb ps) := hb
  have HP : Hid (∀ p ∈ ps, 0 ≤ p ∧ p < (n : Int)) := hp
  clear ha hb hp
  go_enter Try.func39, Try.ntmps39
  go_wp2_with fail
  go_loopw [11] (fun i wr => ∃ k : Nat, k ≤ m ∧ i = .int .i64 k ∧ AtN wr (w.heap.size + 1) (numsAt ts (ps.take k)) ∧ AtN wr w.heap.size zeroN ∧ Below w.heap.size w wr) (fun i _ => m - (intOf i).toNat)
  case atStart =>
    have h1 := AtN.made (w.alloc (.cells #[.int .i64 0, .int .i64 0, .int .i64 0, .int .i64 0, .int .i64 0, .int .i64 0] 72)) zeroN 72
    rw [show (w.alloc (.cells #[.int .i64 0, .int .i64 0, .int .i64 0, .int .i64 0, .int .i64 0, .int .i64 0] 72)).heap.size = w.heap.size + 1 by simp] at h1
    refine ⟨0, Nat.zero_le _, rfl, h1.congr (fun i _ => by simp [zeroN, numsAt]), ?_, ((Below.refl _ _).alloc (Nat.le_refl _) _).alloc (by simp) _⟩
    exact (AtN.made w zeroN 72).below ((Below.refl _ _).alloc (Nat.le_refl _) _)
  case round =>
    obtain ⟨k, hk, rfl, h1, h0, hnx⟩ := hrel
    have HN : Hid (Below w.heap.size w wr) := hnx
    by_cases hlt : k < m
    · obtain ⟨d, off, rfl, hbl, hc⟩ := HJ.out.cells (by omega)
      have hkl : k < ps.length := by rw [HL.out]; exact hlt
      have hzb := HP.out _ (getD_mem hkl)
      obtain ⟨c, hce⟩ : ∃ c : Nat, ps.getD k 0 = (c : Int) := ⟨(ps.getD k 0).toNat, by omega⟩
      have hck : wr.cell? ⟨d, off + k, none⟩ = some (.int .i64 (c : Int)) := by rw [← hce, hnx.cell (p := ⟨d, off + k, none⟩) hbl]; exact hc k hlt
      have hcn : c < n := by omega
      have hcI : (c : Int) < (n : Int) := by omega
      obtain ⟨g, og, rfl, hgl, hg⟩ := HI.out.cells (by omega)
      have hgk : wr.cell? ⟨g, og + c, none⟩ = some (.int .i64 (ts.getD c 0)) := by rw [hnx.cell (p := ⟨g, og + c, none⟩) hgl]; exact hg c hcn
      have hk6 : k < 6 := by omega
      have hkI : (k : Int) < 6 := by omega
      have q0 := h1.1 k hk6
      have f0 := h1.2.1 k hk6
      have F : Hid (AtN (wr.setCell ⟨w.heap.size + 1, k, none⟩ (.int .i64 (ts.getD c 0))) (w.heap.size + 1) (numsAt ts (ps.take (k + 1)))) := (h1.set hk6 _).congr (fun i hi => by have := nums_next (ts := ts) hkl i hi; rw [hce] at this; exact this)
      have G : Hid (AtN (wr.setCell ⟨w.heap.size + 1, k, none⟩ (.int .i64 (ts.getD c 0))) w.heap.size zeroN) := h0.other _ _ (by omega)
      generalize ts.getD c 0 = x at hgk F G
      clear hc hbl hkl hzb hce h1 h0 hnx hg hgl
      go_wp2
      go_roundw
      case rel => exact ⟨k + 1, by omega, by go_num, F.out, G.out, HN.out.setCell (by show w.heap.size ≤ w.heap.size + 1; omega) _⟩
      case measure => simp [intOf]; omega
    · have e : ps.take k = ps := List.take_of_length_le (by rw [HL.out]; omega)
      rw [e] at h1
      obtain ⟨c0, c1, c2, c3, c4, c5⟩ := h1.cells
      obtain ⟨d0, d1, d2, d3, d4, d5⟩ := h0.cells
      obtain ⟨f0, f1, f2, f3, f4, f5⟩ := h0.froz
      clear h1 h0 hnx e
      go_wp2
      refine bodyPost_ret (v := nsv (numsAt ts ps)) (by simp [results, Try.results39, go_sem, nsv, d0, d1, d2, d3, d4, d5]) rfl ?_
      exact ⟨rfl, Csa.Below.set6 HN.out (Nat.le_refl _) _ _ _ _ _ _⟩

def sameN (f g : Ns) : Bool := (List.range 6).all fun i => f i == g i
theorem sameN_iff {f g : Ns} : sameN f g = true ↔ ∀ i, i < 6 → f i = g i := by
  unfold sameN
  rw [List.all_eq_true]
  exact ⟨fun h i hi => by simpa using h i (List.mem_range.2 hi), fun h i hi => by simpa using h i (List.mem_range.1 hi)⟩
theorem items {d : Nat} {e : TypeId} (he : Try.prog.plainKey e = true) (hu : Try.prog.underlying e = some (.int .i64)) (xs ys : Array Value) (f g : Ns) (hx : ∀ i, i < 6 → xs[i]? = some (.int .i64 (f i))) (hy : ∀ i, i < 6 → ys[i]? = some (.int .i64 (g i))) (w : World) :
    ∀ is : List Nat, (∀ i ∈ is, i < 6) → (Op.eqItems (d + 1) e 1 xs ys is).run Try.prog w = .ok (is.all fun i => f i == g i) w
  | [], _ => by simp [Op.eqItems]
  | j :: is, h => by
    have hj := h j (by simp)
    have ih := items (d := d) he hu xs ys f g hx hy w is (fun i hi => h i (by simp [hi]))
    simp only [Op.eqItems, Sem.run_bind, Nat.mul_one, run_part_plain w he (hx j hj), run_part_plain w he (hy j hj), Result.andThen_ok, run_equalIn_int w d e _ _ _ _ hu]
    cases hb : (f j == g j)
    · simp [hb]
    · simp only [Bool.not_true, Bool.false_eq_true, if_false, ih, List.all_cons, hb, Bool.true_and]
theorem equal_ns (f g : Ns) (w : World) : (Op.equalIn 10000 72 (.agg #[.int .i64 (f 0), .int .i64 (f 1), .int .i64 (f 2), .int .i64 (f 3), .int .i64 (f 4), .int .i64 (f 5)]) (.agg #[.int .i64 (g 0), .int .i64 (g 1), .int .i64 (g 2), .int .i64 (g 3), .int .i64 (g 4), .int .i64 (g 5)])).run Try.prog w = .ok (sameN f g) w := by
  obtain ⟨i0, hi, _, _, _⟩ := info_parts Ints.info
  have hu : Try.prog.underlying 72 = some (.array 6 3) := by kernel_rfl
  have hc : Try.prog.cellsOf 3 = 1 := by kernel_rfl
  rw [show (10000 : Nat) = 9999 + 1 from rfl, run_equalIn_array w 9999 _ _ hu hi, hc, show (9999 : Nat) = 9998 + 1 from rfl,
    items (f := f) (g := g) (by kernel_rfl) (by kernel_rfl) _ _ (Csa.six rfl rfl rfl rfl rfl rfl) (Csa.six rfl rfl rfl rfl rfl rfl) w (List.range 6) (fun i hi => List.mem_range.1 hi)]
  rfl
theorem eql_ns (f g : Ns) (w : World) : (binOp .eql 72 (.agg #[.int .i64 (f 0), .int .i64 (f 1), .int .i64 (f 2), .int .i64 (f 3), .int .i64 (f 4), .int .i64 (f 5)]) (.agg #[.int .i64 (g 0), .int .i64 (g 1), .int .i64 (g 2), .int .i64 (g 3), .int .i64 (g 4), .int .i64 (g 5)])).run Try.prog w = .ok (.bool (sameN f g)) w := by
  rw [run_eql_struct, equal_ns f g w]
  rfl
theorem neq_ns (f g : Ns) (w : World) : (binOp .neq 72 (.agg #[.int .i64 (f 0), .int .i64 (f 1), .int .i64 (f 2), .int .i64 (f 3), .int .i64 (f 4), .int .i64 (f 5)]) (.agg #[.int .i64 (g 0), .int .i64 (g 1), .int .i64 (g 2), .int .i64 (g 3), .int .i64 (g 4), .int .i64 (g 5)])).run Try.prog w = .ok (.bool (!sameN f g)) w := by
  rw [run_neq_struct, equal_ns f g w]
  rfl

/-- Two are alike at the places of some names where both picks are the same. -/
theorem nums_pick (ns x y : List Int) {zs : List Int} (hl : zs.length ≤ 6) : sameN (numsAt x (zs.map fun z => Lib.idxOf ns z)) (numsAt y (zs.map fun z => Lib.idxOf ns z)) = decide (pick ns x zs = pick ns y zs) := by
  rw [Bool.eq_iff_iff, sameN_iff, decide_eq_true_eq]
  have hg : ∀ (t : List Int) (i : Nat) (h : i < zs.length), numsAt t (zs.map fun z => Lib.idxOf ns z) i = (pick ns t zs)[i]'(by rw [pick_length]; exact h) := fun t i h => by
    unfold numsAt pick
    rw [if_pos (by simpa using h)]
    simp [List.getD, h]
  constructor
  · intro h
    refine List.ext_getElem (by rw [pick_length, pick_length]) fun i h1 h2 => ?_
    rw [pick_length] at h1
    rw [← hg x i h1, ← hg y i h1]
    exact h i (by omega)
  · intro h i _
    by_cases hi : i < zs.length
    · rw [hg x i hi, hg y i hi]
      simp only [h]
    · unfold numsAt
      rw [if_neg (by simpa using hi), if_neg (by simpa using hi)]

def namesB (ns zs : List Int) : Bool := (zs.all fun z => decide (z ∈ ns)) && decide (UpN zs)
theorem names_sub {ns zs : List Int} {ts : Rel.Ll} (h : Rel.Good ns ts) : namesB ns zs = subB ns zs := by
  rw [Bool.eq_iff_iff]
  unfold namesB subB
  rw [Bool.and_eq_true, Bool.and_eq_true, rise_iff, List.all_eq_true, List.all_eq_true, decide_eq_true_eq]
  constructor
  · rintro ⟨h1, h2⟩
    have hm : ∀ z ∈ zs, z ∈ ns := fun z hz => of_decide_eq_true (h1 z hz)
    exact ⟨fun z hz => decide_eq_true (by have := (idx_at (hm z hz)).2.1; omega), fun z hz => h.inN z (hm z hz), h2⟩
  · rintro ⟨h1, _, h2⟩
    refine ⟨fun z hz => decide_eq_true ?_, h2⟩
    have := of_decide_eq_true (h1 z hz)
    rcases idx_cases ns z with ⟨h3, _⟩ | ⟨k, h3, _, h5, _⟩
    · omega
    · rw [← h5]; exact getD_mem h3
theorem sub_mem {ns ws : List Int} (h : subB ns ws = true) : ∀ z ∈ ws, z ∈ ns := fun z hz => by
  unfold subB at h
  rw [Bool.and_eq_true, List.all_eq_true] at h
  have := of_decide_eq_true (h.1 z hz)
  rcases idx_cases ns z with ⟨h3, _⟩ | ⟨k, h3, _, h5, _⟩
  · omega
  · rw [← h5]; exact getD_mem h3
theorem sub_upN {ns ws : List Int} (h : subB ns ws = true) : UpN ws := by
  unfold subB at h
  rw [Bool.and_eq_true, rise_iff] at h
  exact h.2.2
theorem up_few {ws ns : List Int} (hw : UpN ws) (hn : UpN ns) (h : ∀ z ∈ ws, z ∈ ns) : ws.length ≤ ns.length := by
  induction ns generalizing ws with
  | nil =>
    cases ws with
    | nil => exact Nat.le_refl _
    | cons x ws => exact absurd (h x (by simp)) (by simp)
  | cons n ns ih =>
    unfold UpN at hn
    rw [List.pairwise_cons] at hn
    cases ws with
    | nil => simp
    | cons x ws =>
      unfold UpN at hw
      have hw' := hw
      rw [List.pairwise_cons] at hw
      rcases List.mem_cons.1 (h x (by simp)) with rfl | hx
      · have := ih (ws := ws) hw.2 hn.2 (fun z hz => by
          rcases List.mem_cons.1 (h z (by simp [hz])) with rfl | h'
          · have := hw.1 _ hz; omega
          · exact h')
        simp only [List.length_cons]
        omega
      · have := ih (ws := x :: ws) hw' hn.2 (fun z hz => by
          rcases List.mem_cons.1 (h z hz) with rfl | h'
          · have h1 := hn.1 x hx
            rcases List.mem_cons.1 hz with rfl | h2
            · omega
            · have := hw.1 _ h2; omega
          · exact h')
        simp only [List.length_cons] at *
        omega
theorem sub_len {ns ws : List Int} (hn : UpN ns) (h : subB ns ws = true) : ws.length ≤ ns.length := up_few (sub_upN h) hn (sub_mem h)

set_option maxHeartbeats 800000 in
theorem areNamesIn (u t : Value) (b : Option Addr) (m cb : Nat) (r : Rl) (zs : List Int) (w : World) (h : QIs w u t r) (hb : IsRow .i64 w b m cb zs) (hu : UpN r.1) :
    Calls Try.prog 37 #[.agg #[u, t], .slice b m cb] w fun e w' => e = .returned (.bool (namesB r.1 zs)) ∧ Below w.heap.size w w' := by
  obtain ⟨⟨ua, un, uc, rfl, hr, hun⟩, ta, tn, tc, rs, rfl, ht, hrs, htt⟩ := h
  have hmaxm : m ≤ 9223372036854775807 := by have := hb.fits; have := hb.max; unfold maxLen at *; omega
  have b0 : Below w.heap.size w (w.alloc (.cells #[.slice ua un uc, .slice ta tn tc] 42)) := (Below.refl w.heap.size w).alloc (Nat.le_refl _) _
  have B0 : Hid (Below w.heap.size w (w.alloc (.cells #[.slice ua un uc, .slice ta tn tc] 42))) := b0
  have HU : Hid (IsRow .i64 (w.alloc (.cells #[.slice ua un uc, .slice ta tn tc] 42)) ua un uc r.1) := IsRow.below hr b0
  have HZ : Hid (IsRow .i64 (w.alloc (.cells #[.slice ua un uc, .slice ta tn tc] 42)) b m cb zs) := IsRow.below hb b0
  have LZ : Hid (zs.length = m) := hb.len
  have UP : Hid (UpN r.1) := hu
  clear b0 hr hb ht hrs htt hu
  go_enter Try.func37, Try.ntmps37
  go_wp2
  go_loop [9] (fun i => ∃ k : Nat, k ≤ m ∧ i = .int .i64 k ∧ ((zs.take k).all fun z => decide (z ∈ r.1)) = true) (fun i => m - (intOf i).toNat)
  case atStart => exact ⟨0, Nat.zero_le _, rfl, rfl⟩
  case round =>
    obtain ⟨k, hk, rfl, hall⟩ := hrel
    have Hall : Hid (((zs.take k).all fun z => decide (z ∈ r.1)) = true) := hall
    clear hall
    by_cases hlt : k < m
    · obtain ⟨d, off, rfl, hbl, hc⟩ := HZ.out.cells (by omega)
      have hck := hc k hlt
      generalize hx : zs.getD k 0 = x at hck
      have HX : Hid (zs.getD k 0 = x) := hx
      clear hc hx
      cases hin : decide (x ∈ r.1)
      · have Hin : Hid (decide (x ∈ r.1) = false) := hin
        have FN : Hid (namesB r.1 zs = false) := by
          show _ = _
          unfold namesB
          rw [Lst.all_take_false _ zs k (by rw [LZ.out]; exact hlt) (by rw [HX.out]; exact Hin.out), Bool.false_and]
        clear hin
        go_wp2_with fail
        refine (Of.has_int _ _ _ r.1 x _ HU.out hun UP.out).mono ?_
        rintro e w' ⟨rfl, rfl⟩
        rw [Hin.out]
        go_wp2_with fail
        go_ret
        exact ⟨ret_bool FN.out.symm, B0.out⟩
      · have Hin : Hid (decide (x ∈ r.1) = true) := hin
        clear hin
        go_wp2_with fail
        refine (Of.has_int _ _ _ r.1 x _ HU.out hun UP.out).mono ?_
        rintro e w' ⟨rfl, rfl⟩
        rw [Hin.out]
        go_wp2_with fail
        go_round
        case rel => exact ⟨k + 1, by omega, by go_num, Lst.all_take_succ _ zs k (by rw [LZ.out]; exact hlt) (by rw [HX.out]; exact Hin.out) Hall.out⟩
        case measure => simp [intOf]; omega
    · have FN : Hid (namesB r.1 zs = decide (UpN zs)) := by
        have h := Hall.out
        rw [List.take_of_length_le (by rw [LZ.out]; omega)] at h
        show _ = _
        unfold namesB
        rw [h, Bool.true_and]
      clear Hall
      go_wp2_with fail
      refine (rises_int _ _ _ zs _ HZ.out).mono ?_
      rintro e w1 ⟨rfl, hb1⟩
      have B1 : Hid (Below w.heap.size w w1) := Frame.next B0.out hb1 (by simp)
      clear hb1
      go_wp2
      go_ret
      exact ⟨ret_bool FN.out.symm, B1.out⟩

/-- No two tuples alike in what a sentence holds on, unlike in what it tells. -/
def pairB (r : Rl) (d : Dp) (x y : List Int) : Bool := !(decide (pick r.1 x d.1 = pick r.1 y d.1)) || decide (pick r.1 x d.2 = pick r.1 y d.2)
def rowB (r : Rl) (d : Dp) (i j : Nat) : Bool := (List.range j).all fun l => pairB r d (r.2.getD i []) (r.2.getD l [])
def toB (r : Rl) (d : Dp) (k : Nat) : Bool := (List.range k).all fun i => rowB r d i i
def holdsB (r : Rl) (d : Dp) : Bool := toB r d r.2.length
def holdG (r : Rl) (d : Dp) : Bool := goodR r.1 r.2 && subB r.1 d.1 && subB r.1 d.2
def holdV (r : Rl) (d : Dp) : Bool := holdG r d && holdsB r d
theorem row_succ {r : Rl} {d : Dp} {i j : Nat} (h : rowB r d i j = true) (h1 : pairB r d (r.2.getD i []) (r.2.getD j []) = true) : rowB r d i (j + 1) = true := by
  unfold rowB at h ⊢
  rw [List.range_succ, List.all_append, h, List.all_cons, h1]
  rfl
theorem to_succ {r : Rl} {d : Dp} {k : Nat} (h : toB r d k = true) (h1 : rowB r d k k = true) : toB r d (k + 1) = true := by
  unfold toB at h ⊢
  rw [List.range_succ, List.all_append, h, List.all_cons, h1]
  rfl
theorem holds_no {r : Rl} {d : Dp} {i j : Nat} (hi : i < r.2.length) (hj : j < i) (h1 : pairB r d (r.2.getD i []) (r.2.getD j []) = false) : holdsB r d = false := by
  rw [Bool.eq_false_iff]
  intro h
  unfold holdsB toB rowB at h
  have := List.all_eq_true.1 (List.all_eq_true.1 h i (List.mem_range.2 hi)) j (List.mem_range.2 hj)
  rw [h1] at this
  cases this
theorem places_in {ns ws : List Int} (h : ∀ z ∈ ws, z ∈ ns) : ∀ p ∈ ws.map (fun z => Lib.idxOf ns z), 0 ≤ p ∧ p < (ns.length : Int) := fun p hp => by
  obtain ⟨z, hz, rfl⟩ := List.mem_map.1 hp
  have := idx_at (h z hz)
  omega


end Go.Proofs.Ytekheacbmbbpmaa.Hia
