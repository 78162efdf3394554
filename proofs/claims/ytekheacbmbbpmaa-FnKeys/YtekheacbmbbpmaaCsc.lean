/-
  All columns that sentences tell of some: contract of the program's toldBy.
-/
import Derived.Test.YtekheacbmbbpmaaCsb
namespace Go.Proofs.Ytekheacbmbbpmaa.Csc
open Go.RowKit
open Go.Proofs.Ytekheacbmbbpmaa.Frame Go.Proofs.Ytekheacbmbbpmaa.Mem Go.Proofs.Ytekheacbmbbpmaa.Ints Go.Proofs.Ytekheacbmbbpmaa.Kep Go.Proofs.Ytekheacbmbbpmaa.Lls Go.Proofs.Ytekheacbmbbpmaa.Mis Go.Proofs.Ytekheacbmbbpmaa.Csa Go.Proofs.Ytekheacbmbbpmaa.Csb Go.Proofs.Ytekheacbmbbpmaa.Dls Go.Proofs.Ytekheacbmbbpmaa.Dlk
open Go.Proofs.Ytekheacbmbbpmaa.Rel hiding Ll
open Go.Proofs.Ytekheacbmbbpmaa.Cpu hiding Dp

def setP (f : Cs) (z : Int) : Prop := ∃ i : Nat, i < 6 ∧ f i = true ∧ z = (i : Int)
open Classical in
noncomputable def clS (ds : List Dp) (f : Cs) : Cs := fun i => decide (Cl ds (setP f) (i : Int))
theorem clS_iff {ds : List Dp} {f : Cs} {i : Nat} : clS ds f i = true ↔ Cl ds (setP f) (i : Int) := by
  unfold clS
  exact @decide_eq_true_iff _ (Classical.propDecidable _)
theorem setP_inS {zs : List Int} (h : ∀ z ∈ zs, 0 ≤ z ∧ z < 6) (z : Int) : setP (inS zs) z ↔ z ∈ zs := by
  unfold setP inS
  constructor
  · rintro ⟨i, _, hi, rfl⟩; exact of_decide_eq_true hi
  · intro hz
    have := h z hz
    exact ⟨z.toNat, by omega, decide_eq_true (by rw [show ((z.toNat : Nat) : Int) = z by omega]; exact hz), by omega⟩
theorem within_in {zs : List Int} {g : Cs} (h : ∀ z ∈ zs, 0 ≤ z ∧ z < 6) : withinB (inS zs) g = true ↔ ∀ z ∈ zs, setP g z := by
  rw [withinB_iff]
  constructor
  · intro hw z hz
    have := h z hz
    exact ⟨z.toNat, by omega, hw z.toNat (by omega) (decide_eq_true (by rw [show ((z.toNat : Nat) : Int) = z by omega]; exact hz)), by omega⟩
  · intro hw i hi hf
    obtain ⟨j, _, hj, e⟩ := hw i (of_decide_eq_true hf)
    have : i = j := by omega
    rw [this]; exact hj
def lackN (f : Cs) : Nat := (List.range 6).countP fun i => !f i
def lackW (g : Nat) (w : World) : Nat := (List.range 6).countP fun i => match w.cell? ⟨g, i, none⟩ with | some (.bool false) => true | _ => false
theorem lack_at {w : World} {g : Nat} {f : Cs} (h : At6 w g f) : lackW g w = lackN f := by
  unfold lackW lackN
  refine List.countP_congr (fun i hi => ?_)
  rw [h.1 i (List.mem_range.1 hi)]
  cases f i <;> simp
theorem countP_lt {p q : Nat → Bool} : ∀ (l : List Nat), (∀ i ∈ l, p i = true → q i = true) → (∃ i ∈ l, q i = true ∧ p i = false) → l.countP p < l.countP q
  | [], _, ⟨_, h, _⟩ => by cases h
  | x :: l, h, ⟨i, hi, hq, hp⟩ => by
    have hle : l.countP p ≤ l.countP q := List.countP_mono_left (fun j hj => h j (by simp [hj]))
    rw [List.countP_cons, List.countP_cons]
    rcases List.mem_cons.1 hi with rfl | hi
    · rw [hq, hp]; simp; omega
    · have ih := countP_lt l (fun j hj => h j (by simp [hj])) ⟨i, hi, hq, hp⟩
      by_cases hpx : p x = true
      · rw [hpx, h x (by simp) hpx]; simp; omega
      · rw [Bool.eq_false_iff.2 hpx]; simp; omega
theorem lack_lt {f g : Cs} (h : ∀ i, i < 6 → f i = true → g i = true) (hs : sameS g f = false) : lackN g < lackN f := by
  unfold lackN
  refine countP_lt _ (fun i hi hg => ?_) ?_
  · cases hf : f i
    · rfl
    · rw [h i (List.mem_range.1 hi) hf] at hg; cases hg
  · apply Classical.byContradiction
    intro hn
    have : sameS g f = true := sameS_iff.2 (fun i hi => by
      cases hf : f i
      · cases hg : g i
        · rfl
        · exact absurd ⟨i, List.mem_range.2 hi, by rw [hf]; rfl, by rw [hg]; rfl⟩ hn
      · exact h i hi hf)
    rw [hs] at this
    cases this
theorem six_set {w : World} {g : Nat} {f : Cs} (h : At6 w g f) (f' : Cs) : At6 ((((((w.setCell ⟨g, 0, none⟩ (.bool (f' 0))).setCell ⟨g, 1, none⟩ (.bool (f' 1))).setCell ⟨g, 2, none⟩ (.bool (f' 2))).setCell ⟨g, 3, none⟩ (.bool (f' 3))).setCell ⟨g, 4, none⟩ (.bool (f' 4))).setCell ⟨g, 5, none⟩ (.bool (f' 5))) g f' :=
  ((((((h.set (c := 0) (by omega) (f' 0)).set (c := 1) (by omega) (f' 1)).set (c := 2) (by omega) (f' 2)).set (c := 3) (by omega) (f' 3)).set (c := 4) (by omega) (f' 4)).set (c := 5) (by omega) (f' 5)).congr (Csa.six rfl rfl rfl rfl rfl rfl)
theorem six_other {w : World} {g b : Nat} {f : Cs} (h : At6 w g f) (f' : Cs) (hb : b ≠ g) : At6 ((((((w.setCell ⟨b, 0, none⟩ (.bool (f' 0))).setCell ⟨b, 1, none⟩ (.bool (f' 1))).setCell ⟨b, 2, none⟩ (.bool (f' 2))).setCell ⟨b, 3, none⟩ (.bool (f' 3))).setCell ⟨b, 4, none⟩ (.bool (f' 4))).setCell ⟨b, 5, none⟩ (.bool (f' 5))) g f :=
  (((((h.other 0 _ hb).other 1 _ hb).other 2 _ hb).other 3 _ hb).other 4 _ hb).other 5 _ hb

/-- What the rounds keep: s is the block of the set. -/
structure Inn (w wr : World) (f0 f g : Cs) (ds : List Dp) (bb k : Nat) : Prop where
  s : At6 wr w.heap.size g
  r : At6 wr (w.heap.size + 1) noneS
  b : At6 wr bb f
  bl : w.heap.size + 1 < bb
  up0 : ∀ i, i < 6 → f0 i = true → f i = true
  up : ∀ i, i < 6 → f i = true → g i = true
  cl : ∀ i, i < 6 → g i = true → Cl ds (setP f0) (i : Int)
  done : ∀ d ∈ ds.take k, (∀ z ∈ d.1, setP f z) → ∀ z ∈ d.2, setP g z
  low : Below w.heap.size w wr
theorem Inn.below {w wr w' : World} {f0 f g : Cs} {ds : List Dp} {bb k : Nat} (h : Inn w wr f0 f g ds bb k) (hb : Below wr.heap.size wr w') : Inn w w' f0 f g ds bb k :=
  ⟨h.s.below hb, h.r.below hb, h.b.below hb, h.bl, h.up0, h.up, h.cl, h.done, Frame.next h.low hb h.low.size⟩
theorem Inn.skip {w wr : World} {f0 f g : Cs} {ds : List Dp} {bb k : Nat} (h : Inn w wr f0 f g ds bb k) (hk : k < ds.length) (hd : (∀ z ∈ (ds.getD k Dls.d0).1, 0 ≤ z ∧ z < 6)) (hn : withinB (inS (ds.getD k Dls.d0).1) g = false) : Inn w wr f0 f g ds bb (k + 1) := by
  refine ⟨h.s, h.r, h.b, h.bl, h.up0, h.up, h.cl, fun d hd' hf => ?_, h.low⟩
  rw [dp_take_succ hk] at hd'
  rcases List.mem_append.1 hd' with hd' | hd'
  · exact h.done d hd' hf
  · rw [List.mem_singleton.1 hd'] at hf
    have : withinB (inS (ds.getD k Dls.d0).1) g = true := (within_in hd).2 (fun z hz => by
      obtain ⟨i, hi, hfi, e⟩ := hf z hz
      exact ⟨i, hi, h.up i hi hfi, e⟩)
    rw [hn] at this
    cases this
theorem Inn.take {w wr : World} {f0 f g : Cs} {ds : List Dp} {bb k : Nat} (h : Inn w wr f0 f g ds bb k) (hk : k < ds.length) (hd : (∀ z ∈ (ds.getD k Dls.d0).1, 0 ≤ z ∧ z < 6)) (hd2 : (∀ z ∈ (ds.getD k Dls.d0).2, 0 ≤ z ∧ z < 6)) (hn : withinB (inS (ds.getD k Dls.d0).1) g = true) :
    Inn w ((((((wr.setCell ⟨w.heap.size, 0, none⟩ (.bool (orS g (inS (ds.getD k Dls.d0).2) 0))).setCell ⟨w.heap.size, 1, none⟩ (.bool (orS g (inS (ds.getD k Dls.d0).2) 1))).setCell ⟨w.heap.size, 2, none⟩ (.bool (orS g (inS (ds.getD k Dls.d0).2) 2))).setCell ⟨w.heap.size, 3, none⟩ (.bool (orS g (inS (ds.getD k Dls.d0).2) 3))).setCell ⟨w.heap.size, 4, none⟩ (.bool (orS g (inS (ds.getD k Dls.d0).2) 4))).setCell ⟨w.heap.size, 5, none⟩ (.bool (orS g (inS (ds.getD k Dls.d0).2) 5))) f0 f (orS g (inS (ds.getD k Dls.d0).2)) ds bb (k + 1) := by
  have hm : ds.getD k Dls.d0 ∈ ds := by simp only [List.getD, List.getElem?_eq_getElem hk, Option.getD_some]; exact List.getElem_mem hk
  refine ⟨six_set h.s _, six_other h.r _ (by omega), six_other h.b _ (by have := h.bl; omega), h.bl, h.up0, fun i hi hf => by unfold orS; rw [h.up i hi hf]; rfl, fun i hi ho => ?_, fun d hd' hf => ?_, Below.set6 h.low (Nat.le_refl _) _ _ _ _ _ _⟩
  · unfold orS at ho
    rw [Bool.or_eq_true] at ho
    rcases ho with ho | ho
    · exact h.cl i hi ho
    · refine Cl.step hm (fun x hx => ?_) (of_decide_eq_true ho)
      obtain ⟨j, hj, hgj, e⟩ := (within_in hd).1 hn x hx
      rw [e]; exact h.cl j hj hgj
  · rw [dp_take_succ hk] at hd'
    rcases List.mem_append.1 hd' with hd' | hd'
    · intro z hz
      obtain ⟨i, hi, hgi, e⟩ := h.done d hd' hf z hz
      exact ⟨i, hi, by unfold orS; rw [hgi]; rfl, e⟩
    · rw [List.mem_singleton.1 hd']
      intro z hz
      have := hd2 z hz
      refine ⟨z.toNat, by omega, ?_, by omega⟩
      unfold orS inS
      rw [Bool.or_eq_true]
      exact Or.inr (decide_eq_true (by rw [show ((z.toNat : Nat) : Int) = z by omega]; exact hz))
/-- Where a round leaves the set as it was, it is all that is told. -/
theorem Inn.all {w wr : World} {f0 f g : Cs} {ds : List Dp} {bb : Nat} (h : Inn w wr f0 f g ds bb ds.length) (hs : sameS g f = true) : ∀ i, i < 6 → g i = clS ds f0 i := fun i hi => by
  rw [sameS_iff] at hs
  have e : ∀ z, setP g z ↔ setP f z := fun z => by
    unfold setP
    constructor
    · rintro ⟨j, hj, h1, h2⟩; exact ⟨j, hj, by rw [← hs j hj]; exact h1, h2⟩
    · rintro ⟨j, hj, h1, h2⟩; exact ⟨j, hj, by rw [hs j hj]; exact h1, h2⟩
  rw [Bool.eq_iff_iff, clS_iff]
  constructor
  · exact h.cl i hi
  · intro hc
    have := Cl.least (p := setP g) (fun z hz => by
      obtain ⟨j, hj, h1, h2⟩ := hz
      exact ⟨j, hj, h.up j hj (h.up0 j hj h1), h2⟩) (fun d hd hf z hz => h.done d (by rw [List.take_length]; exact hd) (fun x hx => (e x).1 (hf x hx)) z hz) hc
    obtain ⟨j, _, h1, h2⟩ := this
    have : i = j := by omega
    rw [this]; exact h1

set_option maxRecDepth 4000 in
set_option maxHeartbeats 6400000 in
theorem toldBy (v : Value) (ds : List Dp) (f0 : Cs) (w : World) (h : DIs w v ds) (hC : Cols ds) :
    Calls Try.prog 23 #[v, .agg #[.bool (f0 0), .bool (f0 1), .bool (f0 2), .bool (f0 3), .bool (f0 4), .bool (f0 5)]] w fun e w' => e = .returned (csv (clS ds f0)) ∧ Below w.heap.size w w' := by
  obtain ⟨a, n, cap, rs, rfl, hg, rfl, hsz⟩ := h
  have hs := small_ds hsz
  have hn := hs.1
  have HS : Hid (∀ r ∈ rs, r.n ≤ 1048576) := hs.2
  have HL : Hid ((dpl rs).length = n) := dpl_length n rs hg.len
  have HI : Hid (IsG w a n cap rs) := hg
  have HC : Hid (Cols (dpl rs)) := hC
  have hgd : Try.prog.eqGuardType Try.prog.depth 48 = false := by kernel_rfl
  clear hg hsz hs hC
  go_enter Try.func23, Try.ntmps23
  go_wp2_with fail
  go_loopw [8] (fun _ wr => ∃ f : Cs, At6 wr w.heap.size f ∧ At6 wr (w.heap.size + 1) noneS ∧ (∀ i, i < 6 → f0 i = true → f i = true) ∧ (∀ i, i < 6 → f i = true → Cl (dpl rs) (setP f0) (i : Int)) ∧ Below w.heap.size w wr) (fun _ wr => lackW w.heap.size wr)
  case atStart =>
    have h1 := At6.made (w.alloc (.cells #[.bool (f0 0), .bool (f0 1), .bool (f0 2), .bool (f0 3), .bool (f0 4), .bool (f0 5)] 48)) noneS 48
    rw [show (w.alloc (.cells #[.bool (f0 0), .bool (f0 1), .bool (f0 2), .bool (f0 3), .bool (f0 4), .bool (f0 5)] 48)).heap.size = w.heap.size + 1 by simp] at h1
    exact ⟨f0, (At6.made w f0 48).below ((Below.refl _ _).alloc (Nat.le_refl _) _), h1, fun _ _ h => h, fun i hi h => Cl.base ⟨i, hi, h, rfl⟩, ((Below.refl _ _).alloc (Nat.le_refl _) _).alloc (by simp) _⟩
  case round =>
    obtain ⟨f, hA, hR, hu0, hcl, hnx⟩ := hrel
    obtain ⟨c0, c1, c2, c3, c4, c5⟩ := hA.cells
    have hsr := hnx.size
    have hslt := hA.2.2
    have hrlt := hR.2.2
    have MS : Hid (lackW w.heap.size wr = lackN f) := lack_at hA
    have IN : Hid (Inn w (wr.alloc (.cells #[.bool (f 0), .bool (f 1), .bool (f 2), .bool (f 3), .bool (f 4), .bool (f 5)] 48)) f0 f f (dpl rs) wr.heap.size 0) :=
      ⟨hA.below ((Below.refl _ _).alloc (Nat.le_refl _) _), hR.below ((Below.refl _ _).alloc (Nat.le_refl _) _), At6.made wr f 48, hrlt, hu0, fun _ _ h => h, hcl, (fun d hd => (by cases hd)), hnx.alloc hsr _⟩
    clear hA hR hu0 hcl hnx
    go_wp2_with fail
    rename World => wo
    go_loopw [11] (fun i wr => ∃ (k : Nat) (g : Cs), k ≤ n ∧ i = .int .i64 k ∧ Inn w wr f0 f g (dpl rs) wo.heap.size k) (fun i _ => n - (intOf i).toNat)
    case atStart => exact ⟨0, f, Nat.zero_le _, rfl, IN.out⟩
    case round =>
      obtain ⟨k, g, hk, rfl, hin⟩ := hrel
      have IK : Hid (Inn w wr f0 f g (dpl rs) wo.heap.size k) := hin
      clear IN
      by_cases hlt : k < n
      · obtain ⟨b, off, fa, fn, fc, ta, tn, tc, d, rfl, p0, p1, he, hd⟩ := Dga.dep_at HI.out hin.low hlt HS.out
        have hkl : k < (dpl rs).length := by rw [HL.out]; exact hlt
        have hcd := HC.out d (by rw [← hd]; simp only [List.getD, List.getElem?_eq_getElem hkl, Option.getD_some]; exact List.getElem_mem hkl)
        have b1 : Below wr.heap.size wr (wr.alloc (.cells #[.slice fa fn fc, .slice ta tn tc] 36)) := (Below.refl _ _).alloc (Nat.le_refl _) _
        have hI : Inn w (wr.alloc (.cells #[.slice fa fn fc, .slice ta tn tc] 36)) f0 f g (dpl rs) wo.heap.size k := hin.below b1
        have hE : EIs (wr.alloc (.cells #[.slice fa fn fc, .slice ta tn tc] 36)) (.slice fa fn fc) (.slice ta tn tc) d := eIs_below he b1
        have e0 : (wr.alloc (.cells #[.slice fa fn fc, .slice ta tn tc] 36)).cell? ⟨wr.heap.size, 0, none⟩ = some (.slice fa fn fc) := by rw [World.cell?_alloc_at _ _ _ _ rfl]; rfl
        have e1 : (wr.alloc (.cells #[.slice fa fn fc, .slice ta tn tc] 36)).cell? ⟨wr.heap.size, 1, none⟩ = some (.slice ta tn tc) := by rw [World.cell?_alloc_at _ _ _ _ rfl]; rfl
        have HD : Hid ((dpl rs).getD k Dls.d0 = d) := hd
        have HCD : Hid ((∀ z ∈ d.1, 0 ≤ z ∧ z < 6) ∧ ∀ z ∈ d.2, 0 ≤ z ∧ z < 6) := hcd
        have HKL : Hid (k < (dpl rs).length) := hkl
        clear hin he hd hcd hkl b1
        go_wp2_with fail
        generalize wr.alloc (.cells #[.slice fa fn fc, .slice ta tn tc] 36) = V at hI hE e0 e1 ⊢
        obtain ⟨⟨_, _, _, ef, hrf, _⟩, ⟨_, _, _, et, hrt, _⟩⟩ := hE
        cases ef
        cases et
        have RF : Hid (IsRow .i64 V fa fn fc d.1) := hrf
        have RT : Hid (IsRow .i64 V ta tn tc d.2) := hrt
        have IV : Hid (Inn w V f0 f g (dpl rs) wo.heap.size k) := hI
        obtain ⟨g0, g1, g2, g3, g4, g5⟩ := hI.s.cells
        have HSV : Hid (At6 V w.heap.size g) := hI.s
        clear hrf hrt hI p0 p1 c0 c1 c2 c3 c4 c5
        go_region_held3 (fun w' => Below V.heap.size V w' ∧ w'.cell? ⟨wr.heap.size, 0, none⟩ = some (.slice fa fn fc) ∧ w'.cell? ⟨w.heap.size, 0, none⟩ = some (.bool (g 0)) ∧ w'.cell? ⟨w.heap.size, 1, none⟩ = some (.bool (g 1)) ∧ w'.cell? ⟨w.heap.size, 2, none⟩ = some (.bool (g 2)) ∧ w'.cell? ⟨w.heap.size, 3, none⟩ = some (.bool (g 3)) ∧ w'.cell? ⟨w.heap.size, 4, none⟩ = some (.bool (g 4)) ∧ w'.cell? ⟨w.heap.size, 5, none⟩ = some (.bool (g 5)))
          (first | exact ⟨(Below.refl _ _).drew, e0, g0, g1, g2, g3, g4, g5⟩ | with_reducible exact (fun kb => ⟨kb, Frame.held_cell kb e0, Frame.held_cell kb g0, Frame.held_cell kb g1, Frame.held_cell kb g2, Frame.held_cell kb g3, Frame.held_cell kb g4, Frame.held_cell kb g5⟩) (Frame.held_next ‹Below V.heap.size V _ ∧ _› hb1) | with_reducible exact (fun kb => ⟨kb, Frame.held_cell kb e0, Frame.held_cell kb g0, Frame.held_cell kb g1, Frame.held_cell kb g2, Frame.held_cell kb g3, Frame.held_cell kb g4, Frame.held_cell kb g5⟩) (Frame.held_next ‹Below V.heap.size V _ ∧ _› hb2))
          (first | (go_at_call 22; refine (setOf fa fn fc d.1 _ ?_ HCD.out.1).mono ?_; exact IsRow.below RF.out (And.left ‹Below V.heap.size V _ ∧ _›); rintro e w1 ⟨rfl, hb1⟩; unfold csv) | (go_at_call 21; refine (isWithin (inS d.1) g _).mono ?_; rintro e w2 ⟨rfl, hb2⟩))
        all_goals
          have B2 : Hid (Below V.heap.size V w2) := And.left ‹Below V.heap.size V _ ∧ _›
          have I2 : Hid (Inn w w2 f0 f g (dpl rs) wo.heap.size k) := IV.out.below B2.out
          have t1 : w2.cell? ⟨wr.heap.size, 1, none⟩ = some (.slice ta tn tc) := Frame.held_cell B2.out e1
          have RT2 : Hid (IsRow .i64 w2.drew ta tn tc d.2) := IsRow.below (IsRow.below RT.out B2.out) ((Below.refl _ _).drew)
          have S2 : Hid (At6 w2.drew w.heap.size g) := I2.out.s.below ((Below.refl _ _).drew)
          clear e0 e1 g0 g1 g2 g3 g4 g5
          cases hW : withinB (inS d.1) g
          · have F : Hid (Inn w w2 f0 f g (dpl rs) wo.heap.size (k + 1)) := I2.out.skip HKL.out (by rw [HD.out]; exact HCD.out.1) (by rw [HD.out]; exact hW)
            clear hW t1
            go_wp2
            go_roundw
            case rel => exact ⟨k + 1, g, by omega, by go_num, F.out⟩
            case measure => simp [intOf]; omega
          · have HW : Hid (withinB (inS d.1) g = true) := hW
            obtain ⟨g0, g1, g2, g3, g4, g5⟩ := I2.out.s.cells
            clear hW
            go_wp2_with fail
            go_region_with (first | (go_at_call 22; refine (setOf ta tn tc d.2 _ RT2.out HCD.out.2).mono ?_; rintro e w3 ⟨rfl, hb3⟩; unfold csv; have S3 : Hid (At6 w3 w.heap.size g) := S2.out.below hb3; have C3 : Hid (Below w2.drew.heap.size w2.drew w3) := hb3; clear hb3; obtain ⟨h0, h1, h2, h3, h4, h5⟩ := S3.out.cells) | (go_at_call 46; refine (united g (inS d.2) _).mono ?_; rintro e w4 ⟨rfl, hb4⟩; unfold csv; have S4 : Hid (At6 w4 w.heap.size g) := S3.out.below hb4; have C4 : Hid (Below w3.heap.size w3 w4) := hb4; clear hb4; obtain ⟨k0, k1, k2, k3, k4, k5⟩ := S4.out.cells; obtain ⟨m0, m1, m2, m3, m4, m5⟩ := S4.out.froz))
            all_goals
              have I4 : Hid (Inn w w4 f0 f g (dpl rs) wo.heap.size k) := ((I2.out.below ((Below.refl _ _).drew)).below C3.out).below C4.out
              have F := I4.out.take HKL.out (by rw [HD.out]; exact HCD.out.1) (by rw [HD.out]; exact HCD.out.2) (by rw [HD.out]; exact HW.out)
              rw [HD.out] at F
              have FH : Hid _ := F
              clear F
              go_wp2
              go_roundw
              case rel => exact ⟨k + 1, _, by omega, by go_num, FH.out⟩
              case measure => simp [intOf]; omega
      · obtain rfl : k = n := by omega
        obtain ⟨g0, g1, g2, g3, g4, g5⟩ := hin.s.cells
        obtain ⟨q0, q1, q2, q3, q4, q5⟩ := hin.b.cells
        obtain ⟨r0, r1, r2, r3, r4, r5⟩ := hin.r.cells
        obtain ⟨z0, z1, z2, z3, z4, z5⟩ := hin.r.froz
        have EQ : ∀ w, (binOp .eql 48 (.agg #[.bool (g 0), .bool (g 1), .bool (g 2), .bool (g 3), .bool (g 4), .bool (g 5)]) (.agg #[.bool (f 0), .bool (f 1), .bool (f 2), .bool (f 3), .bool (f 4), .bool (f 5)])).run Try.prog w = .ok (.bool (sameS g f)) w := eql_cs g f
        have MG : Hid (lackW w.heap.size wr = lackN g) := lack_at hin.s
        clear hin c0 c1 c2 c3 c4 c5
        cases hq : sameS g f
        · have ML : Hid (lackN g < lackN f) := lack_lt IK.out.up hq
          rw [hq] at EQ
          clear hq
          go_wp2
          go_roundw
          case rel => exact ⟨g, IK.out.s, IK.out.r, fun i hi h => IK.out.up i hi (IK.out.up0 i hi h), IK.out.cl, IK.out.low⟩
          case measure => rw [MG.out, MS.out]; exact ML.out
        · have FA : Hid (∀ i, i < 6 → g i = clS (dpl rs) f0 i) := by
            have h1 := IK.out
            rw [← HL.out] at h1
            exact h1.all hq
          rw [hq] at EQ
          clear hq
          go_wp2
          refine bodyPost_ret (v := csv g) (by simp [results, Try.results23, go_sem, csv, r0, r1, r2, r3, r4, r5]) rfl ?_
          exact ⟨ret_cs FA.out, Below.set6 IK.out.low (by omega) _ _ _ _ _ _⟩


end Go.Proofs.Ytekheacbmbbpmaa.Csc
