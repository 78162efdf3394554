/-
  Contracts of SerialOf, of the program and of the model.
-/
import Derived.Test.YteihgbiifcgipaaPse
import Derived.Test.YteihgbiifcgipaaSdl
import Derived.Test.YteihgbiifcgipaaPco
namespace Go.Proofs.Yteihgbiifcgipaa.Psf
open Go.RowKit
open Go.Proofs.Yteihgbiifcgipaa.Frame Go.Proofs.Yteihgbiifcgipaa.Mem Go.Proofs.Yteihgbiifcgipaa.Kep Go.Proofs.Yteihgbiifcgipaa.FAct Go.Proofs.Yteihgbiifcgipaa.Pga Go.Proofs.Yteihgbiifcgipaa.Ppu Go.Proofs.Yteihgbiifcgipaa.Pcu Go.Proofs.Yteihgbiifcgipaa.Pse Go.Proofs.Yteihgbiifcgipaa.Mii Go.Proofs.Yteihgbiifcgipaa.Ihl Go.Proofs.Yteihgbiifcgipaa.Sdl Go.Proofs.Yteihgbiifcgipaa.Pco
open Go.Proofs.Yteihgbiifcgipaa.Ints (ret_bool)
open Go.Proofs.Yteihgbiifcgipaa.Pla (iOwn_nil)
open Go.Proofs.Yteihgbiifcgipaa.Plb (stored_as cell_own far_cell)

theorem keeps_trans {lo hi : Nat} {w w1 w2 : World} (h : Keeps lo hi w w1) (k : Keeps lo hi w1 w2) : Keeps lo hi w w2 :=
  ⟨k.os.trans h.os, k.tape.trans h.tape, k.output.trans h.output, Nat.le_trans h.size k.size, fun b hb hne => (k.block b (Nat.lt_of_lt_of_le hb h.size) hne).trans (h.block b hb hne)⟩
theorem keeps_refl (lo hi : Nat) (w : World) : Keeps lo hi w w := ⟨rfl, rfl, rfl, Nat.le_refl _, fun _ _ _ => rfl⟩
theorem keeps_app {lo hi B : Nat} {w w1 w2 : World} (h : Keeps lo hi w w1) (k : Below B w1 w2) (hB : w.heap.size ≤ B) : Keeps lo hi w w2 :=
  ⟨k.os.trans h.os, k.tape.trans h.tape, k.output.trans h.output, Nat.le_trans h.size k.size, fun b hb hne => (k.block b (by omega)).trans (h.block b hb hne)⟩
theorem own_of_block {w w' : World} {base : Nat} {e : TypeId} {size g n cap : Nat} {xs : List Value} (h : w.ownsRow base e size (.slice (some ⟨g, 0, none⟩) n cap) n xs) (hb : w'.heap[g]? = w.heap[g]?) : w'.ownsRow base e size (.slice (some ⟨g, 0, none⟩) n cap) n xs := by
  obtain ⟨h1, h2⟩ := h
  refine ⟨h1, ?_⟩
  rcases h2 with h2 | ⟨g', cap', cur, hv, hg, hh, r⟩
  · exact .inl h2
  · have e : g' = g := by simp only [Value.slice.injEq, Option.some.injEq, Addr.mk.injEq] at hv; exact hv.1.1.symm
    subst e
    exact .inr ⟨_, cap', cur, hv, hg, by rw [hb]; exact hh, r⟩
theorem isRow_of_block {k : IntKind} {w w' : World} {a : Option Addr} {n cap : Nat} {zs : List Int} (h : IsRow k w a n cap zs) (hs : w.heap.size ≤ w'.heap.size) (hb : ∀ x, a = some x → w'.heap[x.block]? = w.heap[x.block]?) : IsRow k w' a n cap zs := by
  refine ⟨h.len, h.fits, h.max, h.wf, fun h0 => ?_⟩
  obtain ⟨b, off, ha, hlt, hc⟩ := h.cells h0
  refine ⟨b, off, ha, Nat.lt_of_lt_of_le hlt hs, fun i hi => ?_⟩
  rw [World.cell?_of_block (w := w) (a := ⟨b, off + i, none⟩) (show w'.heap[b]? = w.heap[b]? from hb _ ha)]
  exact hc i hi
theorem all_take {f : Int → Bool} {zs : List Int} {k : Nat} (hk : k < zs.length) (h : (zs.take k).all f = true) (e : f (zs.getD k 0) = true) : (zs.take (k + 1)).all f = true := Lst.all_take_succ f zs k hk e h

set_option maxHeartbeats 800000 in
theorem isBehindNone (ca za : Option Addr) (zn cc zc : Nat) (C zs : List Int) (q : Int) (w : World) (hc : IsRow .i64 w ca 16 cc C) (hz : IsRow .i64 w za zn zc zs) (hz3 : ∀ z ∈ zs, 0 ≤ z ∧ z ≤ 3) (hq : 0 ≤ q ∧ q ≤ 3) :
    Calls Try.prog 48 #[.slice ca 16 cc, .slice za zn zc, .int .i64 q] w fun e w' => e = .returned (.bool (isFree C zs q)) ∧ w' = w := by
  have hmaxn : zn ≤ 9223372036854775807 := by have := hz.fits; have := hz.max; unfold maxLen at *; omega
  have HC : Hid (IsRow .i64 w ca 16 cc C) := hc
  have HZ : Hid (IsRow .i64 w za zn zc zs) := hz
  have HL : Hid (zs.length = zn) := hz.len
  have H3 : Hid (∀ z ∈ zs, 0 ≤ z ∧ z ≤ 3) := hz3
  obtain ⟨cb, co, rfl, _, hcc⟩ := hc.cells (by omega)
  have HCC : Hid (∀ i, i < 16 → w.cell? ⟨cb, co + i, none⟩ = some (.int .i64 (C.getD i 0))) := hcc
  clear hc hz hz3 hcc
  go_enter Try.func48, Try.ntmps48
  go_wp2_with fail
  go_loop [11] (fun i => ∃ k : Nat, k ≤ zn ∧ i = .int .i64 k ∧ (zs.take k).all (fun o => !(decide (0 < C.getD (4 * o + q).toNat 0))) = true) (fun i => zn - (intOf i).toNat)
  case atStart => exact ⟨0, Nat.zero_le _, rfl, rfl⟩
  case round =>
    obtain ⟨k, hk, rfl, hall⟩ := hrel
    have Hall : Hid ((zs.take k).all (fun o => !(decide (0 < C.getD (4 * o + q).toNat 0))) = true) := hall
    clear hall
    by_cases hlt : k < zn
    · obtain ⟨b, off, rfl, hbl, hzc⟩ := HZ.out.cells (by omega)
      have hck := hzc k hlt
      have hkl : k < zs.length := by rw [HL.out]; exact hlt
      have h3 := H3.out _ (getD_mem hkl)
      have HX : Hid (∀ z, zs.getD k 0 = z → (decide (0 < C.getD (4 * z + q).toNat 0) = true → isFree C zs q = false) ∧ (decide (0 < C.getD (4 * z + q).toNat 0) = false → (zs.take (k + 1)).all (fun o => !(decide (0 < C.getD (4 * o + q).toNat 0))) = true)) := fun z hz => ⟨fun e => by
          unfold isFree
          exact Lst.all_take_false _ _ k hkl (by rw [hz]; simp only [e]; rfl), fun e => all_take hkl Hall.out (by rw [hz]; simp only [e]; rfl)⟩
      have HZ1 := HX.out _ rfl
      generalize zs.getD k 0 = z at hck h3 HZ1
      have HF : Hid _ := HZ1
      clear hzc hkl HZ1 HX
      obtain ⟨z', rfl⟩ : ∃ z' : Nat, z = (z' : Int) := ⟨z.toNat, by omega⟩
      obtain ⟨q', rfl⟩ : ∃ q' : Nat, q = (q' : Int) := ⟨q.toNat, by omega⟩
      obtain ⟨c, hcd⟩ : ∃ c, c = 4 * z' + q' := ⟨_, rfl⟩
      have hidx : 4 * (z' : Int) + (q' : Int) = (c : Int) := by omega
      have hc16 : c < 16 := by omega
      have hcI : (c : Int) < 16 := by omega
      have hcell := HCC.out c hc16
      have HE : Hid ((4 * (z' : Int) + (q' : Int)).toNat = c) := by show _ = _; rw [hidx, Int.toNat_natCast]
      rw [HE.out] at HF
      generalize C.getD c 0 = y at hcell HF
      by_cases hy : 0 < y
      · have F : Hid (isFree C zs (q' : Int) = false) := HF.out.1 (decide_eq_true hy)
        clear HF hcd
        go_wp2
        go_ret
        exact ⟨ret_bool F.out.symm, rfl⟩
      · have F : Hid ((zs.take (k + 1)).all (fun o => !(decide (0 < C.getD (4 * o + (q' : Int)).toNat 0))) = true) := HF.out.2 (decide_eq_false hy)
        clear HF hcd
        go_wp2
        go_round
        case rel => exact ⟨k + 1, by omega, by go_num, F.out⟩
        case measure => simp [intOf]; omega
    · have F : Hid (isFree C zs q = true) := by
        show _ = _
        unfold isFree
        have h := Hall.out
        rwa [List.take_of_length_le (by rw [HL.out]; omega)] at h
      go_wp2
      go_ret
      exact ⟨ret_bool F.out.symm, rfl⟩

theorem serial_closure (ca za : Option Addr) (zn cc zc bc bl : Nat) (C zs : List Int) (q : Int) (w : World) (h0 : w.cell? ⟨bc, 0, none⟩ = some (.slice ca 16 cc)) (h1 : w.cell? ⟨bl, 0, none⟩ = some (.slice za zn zc)) (hc : IsRow .i64 w ca 16 cc C) (hz : IsRow .i64 w za zn zc zs) (hz3 : ∀ z ∈ zs, 0 ≤ z ∧ z ≤ 3) (hq : 0 ≤ q ∧ q ≤ 3) :
    Calls Try.prog 47 #[.int .i64 q, .pointer (some ⟨bc, 0, none⟩), .pointer (some ⟨bl, 0, none⟩)] w fun e w' => e = .returned (.bool (isFree C zs q)) ∧ w' = w := by
  have HC : Hid (IsRow .i64 w ca 16 cc C) := hc
  have HZ : Hid (IsRow .i64 w za zn zc zs) := hz
  have H3 : Hid (∀ z ∈ zs, 0 ≤ z ∧ z ≤ 3) := hz3
  have HQ : Hid (0 ≤ q ∧ q ≤ 3) := hq
  clear hc hz hz3 hq
  go_enter Try.func47, Try.ntmps47
  go_wp2_with fail
  refine (isBehindNone ca za zn cc zc C zs q _ HC.out HZ.out H3.out HQ.out).mono ?_
  rintro e w' ⟨rfl, hw'⟩; have hw'' := hw'.symm; clear hw'; subst hw''
  go_wp2
  go_ret
  exact ⟨rfl, rfl⟩

theorem run_step {C os : List Int} {q : Int} {n : Nat} (h : nextO C os = some q) : runO C (n + 1) os = runO C n (os ++ [q]) := by
  show (match nextO C os with | none => none | some q => runO C n (os ++ [q])) = _
  rw [h]
theorem run_stop {C os : List Int} {n : Nat} (h : nextO C os = none) : runO C (n + 1) os = none := by
  show (match nextO C os with | none => none | some q => runO C n (os ++ [q])) = _
  rw [h]
theorem ser_none {xs : List D} (h : serO (confN xs) = none) : serB xs = false := by unfold serB; rw [h]; exact Bool.and_false _
theorem ser_some {xs : List D} {os : List Int} (hg : goodP xs = true) (h : serO (confN xs) = some os) : serB xs = true ∧ serV xs = os := by
  have e : serB xs = true := by unfold serB; rw [hg, h]; rfl
  refine ⟨e, ?_⟩
  unfold serV
  rw [if_pos e, h]; rfl
theorem serV_no {xs : List D} (h : serB xs = false) : serV xs = [] := if_neg (by rw [h]; exact Bool.false_ne_true)

theorem allD_get {k : Nat} (h : k < 4) : allD.getD k 0 = (k : Int) := by
  match k, h with
  | 0, _ => rfl
  | 1, _ => rfl
  | 2, _ => rfl
  | 3, _ => rfl
def lenOf : Value → Nat
  | .slice _ n _ => n
  | _ => 0
theorem frozen_only {a : Option Addr} {w w' : World} (h : OnlyAt a w w') {b o : Nat} (hb : b < w.heap.size) (hne : ∀ x, a = some x → b ≠ x.block) : w'.frozen? ⟨b, o, none⟩ = w.frozen? ⟨b, o, none⟩ := by
  unfold World.frozen?
  rw [h.block b hb hne]

/-- What stands at the head of the program's second loop. -/
structure At2 (C : List Int) (w V wr : World) (g bl j : Nat) (a' : Option Addr) (c' : Nat) (os : List Int) : Prop where
  len : os.length = j
  left : (remOf os).length + j = 4
  run : runO C (4 - j) os = serO C
  wf : ∀ z ∈ os, 0 ≤ z ∧ z ≤ 3
  order : wr.ownsRow V.heap.size 3 1 (.slice a' j c') j (ints .i64 os)
  own : wr.ownsRow w.heap.size 3 1 (.slice (some ⟨g, 0, none⟩) (remOf os).length 4) (remOf os).length (ints .i64 (remOf os))
  cell : wr.cell? ⟨bl, 0, none⟩ = some (.slice (some ⟨g, 0, none⟩) (remOf os).length 4)
  keeps : Keeps g (bl + 1) V wr
  frozen : wr.frozen? ⟨bl, 0, none⟩ = false

set_option maxRecDepth 8000 in
set_option maxHeartbeats 3200000 in
theorem impl_SerialOf (v : Value) (xs : List D) (w : World) (h : XIs w v xs) :
    Calls Try.prog 14 #[v] w fun e w' => ∃ u, e = .returned (.tuple #[u, .bool (serB xs)]) ∧ IOwn w' w.heap.size w'.heap.size u (serV xs) ∧ Below w.heap.size w w' := by
  obtain ⟨i0, hi, hz0, hz1, hz2⟩ := info_parts Ints.info
  have HX : Hid (XIs w v xs) := h
  clear h
  cases hg : goodP xs
  · have EB : serB xs = false := by unfold serB; rw [hg]; rfl
    have E : Hid (serV xs = []) := serV_no EB
    have HG : Hid (goodP xs = false) := hg
    rw [EB]
    clear hg EB
    go_enter Try.func14, Try.ntmps14
    go_wp2_with fail
    refine (impl_ConflictsOf v xs _ HX.out).mono ?_
    rintro e w1 ⟨_, rfl, ⟨ca, cn, cc, rfl, _⟩, hb1⟩
    have B1 : Hid (Below w.heap.size w (w1.alloc (.cells #[.slice ca cn cc] 25))) := hb1.alloc hb1.size _
    clear hb1
    rw [HG.out]
    go_wp2_with fail
    go_ret2
    exact ⟨_, rfl, by rw [E.out]; exact iOwn_nil _ _ _, B1.out⟩
  have EC : confV xs = confN xs := if_pos hg
  have HG : Hid (goodP xs = true) := hg
  have HCL : Hid ((confN xs).length = 16) := tally_length _
  clear hg
  go_enter Try.func14, Try.ntmps14
  go_wp2_with fail
  refine (impl_ConflictsOf v xs _ HX.out).mono ?_
  rintro e w1 ⟨u, rfl, ho1, hb1⟩
  rw [EC] at ho1
  rw [HG.out]
  obtain ⟨ca, cn, cc, rfl, own1, wf1, hn1, bl1⟩ := ho1
  have h16 : cn = 16 := by have := own1.1; rw [ints_length, HCL.out] at this; omega
  subst h16
  have hr1 : ∃ a cap, (Value.slice ca 16 cc) = .slice a 16 cap ∧ IsRow .i64 w1 a 16 cap (confN xs) := isRow_own own1 wf1
  obtain ⟨_, _, e1, hr1⟩ := hr1
  cases e1
  have hs1 := hb1.size
  have BL1 : Hid (∀ x, ca = some x → x.block < w1.heap.size) := fun x hx => (bl1 x hx).2
  have R1 : Hid (IsRow .i64 w1 ca 16 cc (confN xs)) := hr1
  have B1 : Hid (Below w.heap.size w (w1.alloc (.cells #[.slice ca 16 cc] 25))) := hb1.alloc hs1 _
  have B1' : Hid (Below w1.heap.size w1 (w1.alloc (.cells #[.slice ca 16 cc] 25))) := (Below.refl _ _).alloc (Nat.le_refl _) _
  have K1 : Hid ((w1.alloc (.cells #[.slice ca 16 cc] 25)).cell? ⟨w1.heap.size, 0, none⟩ = some (.slice ca 16 cc)) := by show _ = _; rw [World.cell?_alloc_at _ _ _ _ rfl]; rfl
  have hz1' : (w1.alloc (.cells #[.slice ca 16 cc] 25)).heap.size = w1.heap.size + 1 := by simp
  have HZ1 : Hid ((w1.alloc (.cells #[.slice ca 16 cc] 25)).heap.size = w1.heap.size + 1) := hz1'
  have hsb : w.heap.size ≤ (w1.alloc (.cells #[.slice ca 16 cc] 25)).heap.size := by omega
  clear own1 wf1 bl1 hr1 hb1 hz1'
  go_wp2_with (at_make; refine wpList_make_full _ rfl _ _ 25 rfl w.heap.size 3 i0 (.int .i64 0) 1 Try.underlying25 hi hz0 hz1 _ _ _ _ 4 rfl rfl rfl rfl ?b2 ?b3 hsb ?_)
  case b2 => rw [hz2]; omega
  case b3 => unfold maxLen; omega
  intro w2 hown2 hgrow2
  have M2 : Hid (Below (w1.heap.size + 1) (w1.alloc (.cells #[.slice ca 16 cc] 25)) w2) := (Below.refl _ _).grown hgrow2 (by rw [HZ1.out]; exact Nat.le_refl _) (fun k h => by cases h)
  have B2 : Hid (Below w.heap.size w w2) := B1.out.grown hgrow2 hsb (fun k h => by cases h)
  have hg2 : w1.heap.size + 1 < w2.heap.size := (Mem.own_block hown2 ⟨w1.heap.size + 1, 0, none⟩ rfl).2
  have HG2 : Hid (w1.heap.size + 1 < w2.heap.size) := hg2
  have HS1 : Hid (w.heap.size ≤ w1.heap.size) := hs1
  have BA : Hid (Below w.heap.size w (w2.alloc (.cells #[.slice (some ⟨w1.heap.size + 1, 0, none⟩) 4 4] 25))) := B2.out.alloc B2.out.size _
  have MA : Hid (Below (w1.heap.size + 1) (w1.alloc (.cells #[.slice ca 16 cc] 25)) (w2.alloc (.cells #[.slice (some ⟨w1.heap.size + 1, 0, none⟩) 4 4] 25))) := M2.out.alloc (by omega) _
  have hzA : (w2.alloc (.cells #[.slice (some ⟨w1.heap.size + 1, 0, none⟩) 4 4] 25)).heap.size = w2.heap.size + 1 := by simp
  have HZA : Hid ((w2.alloc (.cells #[.slice (some ⟨w1.heap.size + 1, 0, none⟩) 4 4] 25)).heap.size = w2.heap.size + 1) := hzA
  have OA : Hid ((w2.alloc (.cells #[.slice (some ⟨w1.heap.size + 1, 0, none⟩) 4 4] 25)).ownsRow w.heap.size 3 1 (.slice (some ⟨w1.heap.size + 1, 0, none⟩) 4 4) 4 (ints .i64 (allD.take 0) ++ List.replicate (4 - 0) (Value.int .i64 0))) := by
    show World.ownsRow _ _ _ _ _ _ _
    have e : (madeCells #[Value.int .i64 0] 4).toList = ints .i64 (allD.take 0) ++ List.replicate (4 - 0) (Value.int .i64 0) := by
      rw [toList_madeCells_one]; rfl
    rw [← e]
    exact own_below hown2 ((Below.refl _ _).alloc (Nat.le_refl _) _)
  have CA : Hid ((w2.alloc (.cells #[.slice (some ⟨w1.heap.size + 1, 0, none⟩) 4 4] 25)).cell? ⟨w2.heap.size, 0, none⟩ = some (.slice (some ⟨w1.heap.size + 1, 0, none⟩) 4 4)) := by show _ = _; rw [World.cell?_alloc_at _ _ _ _ rfl]; rfl
  have FA : Hid ((w2.alloc (.cells #[.slice (some ⟨w1.heap.size + 1, 0, none⟩) 4 4] 25)).frozen? ⟨w2.heap.size, 0, none⟩ = false) := by show _ = _; rw [World.frozen?_alloc_at _ _ _ _ rfl]
  have CB : Hid ((w2.alloc (.cells #[.slice (some ⟨w1.heap.size + 1, 0, none⟩) 4 4] 25)).cell? ⟨w1.heap.size, 0, none⟩ = some (.slice ca 16 cc)) := (MA.out.cell (p := ⟨w1.heap.size, 0, none⟩) (Nat.lt_succ_self _)).trans K1.out
  have RA : Hid (IsRow .i64 (w2.alloc (.cells #[.slice (some ⟨w1.heap.size + 1, 0, none⟩) 4 4] 25)) ca 16 cc (confN xs)) := isRow_of_block R1.out (by have := HZA.out; omega) (fun x hx => by
    have h1 := BL1.out x hx
    rw [MA.out.block x.block (by omega), B1'.out.block x.block h1])
  clear hown2 hgrow2 hzA hs1 hsb
  go_wp2_with fail
  go_loopw [20] (fun i wr => ∃ k : Nat, k ≤ 4 ∧ i = .int .i64 k ∧ wr.ownsRow w.heap.size 3 1 (.slice (some ⟨w1.heap.size + 1, 0, none⟩) 4 4) 4 (ints .i64 (allD.take k) ++ List.replicate (4 - k) (Value.int .i64 0)) ∧ wr.cell? ⟨w2.heap.size, 0, none⟩ = some (.slice (some ⟨w1.heap.size + 1, 0, none⟩) 4 4) ∧ wr.frozen? ⟨w2.heap.size, 0, none⟩ = false ∧ Keeps (w1.heap.size + 1) (w2.heap.size + 1) (w2.alloc (.cells #[.slice (some ⟨w1.heap.size + 1, 0, none⟩) 4 4] 25)) wr) (fun i _ => 4 - (intOf i).toNat)
  case atStart => exact ⟨0, Nat.zero_le _, rfl, OA.out, CA.out, FA.out, keeps_refl _ _ _⟩
  case round =>
    obtain ⟨k, hk, rfl, ho, hcl, hfz0, hkp⟩ := hrel
    have HO : Hid (wr.ownsRow w.heap.size 3 1 (.slice (some ⟨w1.heap.size + 1, 0, none⟩) 4 4) 4 (ints .i64 (allD.take k) ++ List.replicate (4 - k) (Value.int .i64 0))) := ho
    have HK : Hid (Keeps (w1.heap.size + 1) (w2.heap.size + 1) (w2.alloc (.cells #[.slice (some ⟨w1.heap.size + 1, 0, none⟩) 4 4] 25)) wr) := hkp
    have HCL2 : Hid (wr.cell? ⟨w2.heap.size, 0, none⟩ = some (.slice (some ⟨w1.heap.size + 1, 0, none⟩) 4 4)) := hcl
    have HFZ : Hid (wr.frozen? ⟨w2.heap.size, 0, none⟩ = false) := hfz0
    clear ho hkp
    by_cases hlt : k < 4
    · have hset := Ints.set_part allD 4 k hlt rfl
      rw [allD_get hlt] at hset
      have Hst : Hid ((wr.setCell ⟨w1.heap.size + 1, k, none⟩ (.int .i64 (k : Int))).ownsRow w.heap.size 3 1 (.slice (some ⟨w1.heap.size + 1, 0, none⟩) 4 4) 4 (ints .i64 (allD.take (k + 1)) ++ List.replicate (4 - (k + 1)) (Value.int .i64 0))) := stored_as HO.out hset
      have hfz := HO.out.frozenAt k
      obtain ⟨old, hold⟩ := cell_own HO.out (by rw [List.length_append, ints_length, List.length_take, List.length_replicate]; show min k 4 + (4 - k) = 4; omega) hlt
      have Ck : Hid ((wr.setCell ⟨w1.heap.size + 1, k, none⟩ (.int .i64 (k : Int))).cell? ⟨w2.heap.size, 0, none⟩ = some (.slice (some ⟨w1.heap.size + 1, 0, none⟩) 4 4)) := far_cell (by omega) HCL2.out
      have Fk : Hid ((wr.setCell ⟨w1.heap.size + 1, k, none⟩ (.int .i64 (k : Int))).frozen? ⟨w2.heap.size, 0, none⟩ = false) := by show _ = _; rw [World.frozen?_setCell]; exact HFZ.out
      have Kk : Hid (Keeps (w1.heap.size + 1) (w2.heap.size + 1) (w2.alloc (.cells #[.slice (some ⟨w1.heap.size + 1, 0, none⟩) 4 4] 25)) (wr.setCell ⟨w1.heap.size + 1, k, none⟩ (.int .i64 (k : Int)))) := keeps_trans HK.out (Keeps.of_only (a := some ⟨w1.heap.size + 1, 0, none⟩) ((OnlyAt.refl _ _).setCell (fun x hx => by cases hx; rfl) (by simp) _) (fun x hx => by cases hx; show w1.heap.size + 1 ≤ w1.heap.size + 1 ∧ w1.heap.size + 1 < w2.heap.size + 1; omega))
      clear hset hfz0
      go_wp2
      go_roundw
      case rel => exact ⟨k + 1, by omega, by go_num, Hst.out, Ck.out, Fk.out, Kk.out⟩
      case measure => simp [intOf]; omega
    · obtain rfl : k = 4 := by omega
      have O4 : Hid (wr.ownsRow w.heap.size 3 1 (.slice (some ⟨w1.heap.size + 1, 0, none⟩) 4 4) 4 (ints .i64 allD)) := by
        show World.ownsRow _ _ _ _ _ _ _
        have := HO.out
        rwa [List.take_of_length_le (by decide), Nat.sub_self, List.replicate_zero, List.append_nil] at this
      have hszr : w2.heap.size < wr.heap.size := Frame.cell_lt hcl
      have HSZ : Hid (w2.heap.size < wr.heap.size) := hszr
      have BW : Hid (Below w.heap.size w wr) := Keeps.below BA.out HK.out (by have := HS1.out; omega) BA.out.size
      clear HO hfz0
      go_wp2_with (at_make; refine wpList_make_own _ rfl _ _ 25 rfl wr.heap.size 3 i0 (.int .i64 0) 1 Try.underlying25 hi hz0 hz1 _ _ _ 4 rfl rfl rfl ?d2 ?d3 (Nat.le_refl _) ?_)
      case d2 => rw [hz2]; omega
      case d3 => unfold maxLen; omega
      intro w5 hown5 hgrow5
      have M5 : Hid (Below wr.heap.size wr w5) := below_make (Below.refl _ _) hgrow5 (Nat.le_refl _)
      have hP : At2 (confN xs) w wr w5 (w1.heap.size + 1) w2.heap.size 0 (some ⟨wr.heap.size, 0, none⟩) 4 [] :=
        ⟨rfl, rfl, rfl, by simp, hown5, own_of_block O4.out (M5.out.block _ (by have := HG2.out; omega)), (M5.out.cell (p := ⟨w2.heap.size, 0, none⟩) HSZ.out).trans HCL2.out, keeps_app (keeps_refl _ _ _) M5.out (Nat.le_refl _), (M5.out.frozen (p := ⟨w2.heap.size, 0, none⟩) HSZ.out).trans HFZ.out⟩
      have HP : Hid (At2 (confN xs) w wr w5 (w1.heap.size + 1) w2.heap.size 0 (some ⟨wr.heap.size, 0, none⟩) 4 []) := hP
      clear hown5 hgrow5 hP hcl
      rename World => w5
      go_wp2_with fail
      go_loopw [8] (fun v wq => ∃ (j : Nat) (a' : Option Addr) (c' : Nat) (os : List Int), v = .slice a' j c' ∧ At2 (confN xs) w wr wq (w1.heap.size + 1) w2.heap.size j a' c' os) (fun v _ => 4 - lenOf v)
      case atStart => exact ⟨0, _, _, _, rfl, HP.out⟩
      case round =>
        rename World => wq
        obtain ⟨j, a', c', os, rfl, hat⟩ := hrel
        have HAT : Hid (At2 (confN xs) w wr wq (w1.heap.size + 1) w2.heap.size j a' c' os) := hat
        have hcell := hat.cell
        have hfrz := hat.frozen
        have hleft := hat.left
        have hrun := hat.run
        have RQ : Hid (IsRow .i64 wq ca 16 cc (confN xs)) := isRow_of_block RA.out (Nat.le_trans HK.out.size hat.keeps.size) (fun x hx => by
          have h1 := BL1.out x hx
          have h2 := HZA.out
          rw [hat.keeps.block x.block (by omega) (Or.inl (by omega)), HK.out.block x.block (by omega) (Or.inl (by omega))])
        have CQ : Hid (wq.cell? ⟨w1.heap.size, 0, none⟩ = some (.slice ca 16 cc)) := Keeps.cell hat.keeps (Keeps.cell HK.out CB.out (Or.inl (Nat.lt_succ_self _))) (Or.inl (Nat.lt_succ_self _))
        have BQ : Hid (Below w.heap.size w wq) := Keeps.below BW.out hat.keeps (by have := HS1.out; omega) BW.out.size
        have GEN : Hid (∀ n1, (remOf os).length = n1 → wq.cell? ⟨w2.heap.size, 0, none⟩ = some (.slice (some ⟨w1.heap.size + 1, 0, none⟩) n1 4) ∧ wq.ownsRow w.heap.size 3 1 (.slice (some ⟨w1.heap.size + 1, 0, none⟩) n1 4) n1 (ints .i64 (remOf os))) := fun n1 e => by subst e; exact ⟨hat.cell, hat.own⟩
        obtain ⟨n1, hn1⟩ : ∃ n1, (remOf os).length = n1 := ⟨_, rfl⟩
        obtain ⟨gc, go⟩ := GEN.out n1 hn1
        have HN1 : Hid ((remOf os).length = n1) := hn1
        have HOWN : Hid (wq.ownsRow w.heap.size 3 1 (.slice (some ⟨w1.heap.size + 1, 0, none⟩) n1 4) n1 (ints .i64 (remOf os))) := go
        rw [hn1] at hleft
        clear hcell hat go GEN hn1
        by_cases hj : j = 4
        · subst hj
          obtain rfl : n1 = 0 := by omega
          have ES : Hid (serO (confN xs) = some os) := hrun.symm
          have EB : Hid (serB xs = true ∧ serV xs = os) := ser_some HG.out ES.out
          clear hrun
          go_wp2_with fail
          go_ret2
          refine ⟨.slice a' 4 c', by rw [EB.out.1]; rfl, ?_, BQ.out⟩
          rw [EB.out.2]
          exact iOwn_of (own_base HAT.out.order BW.out.size) (fun z hz => int_wf _ (by have := HAT.out.wf z hz; omega) (by have := HAT.out.wf z hz; omega)) (by omega)
        · have hn0 : (0 : Int) < (n1 : Int) := by omega
          have hr3 : ∃ a cap, (Value.slice (some ⟨w1.heap.size + 1, 0, none⟩) n1 4) = .slice a n1 cap ∧ IsRow .i64 wq a n1 cap (remOf os) := isRow_own HOWN.out (fun z hz => int_wf _ (by have := left_in hz; omega) (by have := left_in hz; omega))
          obtain ⟨_, _, e3, hr3⟩ := hr3
          cases e3
          have R3 : Hid (IsRow .i64 wq (some ⟨w1.heap.size + 1, 0, none⟩) n1 4 (remOf os)) := hr3
          have GC : Hid (wq.cell? ⟨w2.heap.size, 0, none⟩ = some (.slice (some ⟨w1.heap.size + 1, 0, none⟩) n1 4)) := gc
          obtain ⟨r, hr⟩ : ∃ r, r = 3 - j := ⟨_, rfl⟩
          have HRUN : Hid (runO (confN xs) (r + 1) os = serO (confN xs)) := by show _ = _; rw [← hrun]; congr 1; omega
          clear hr3 hrun
          go_wp2_with fail
          refine (index_func (some ⟨w1.heap.size + 1, 0, none⟩) n1 4 (remOf os) 47 #[.pointer (some ⟨w1.heap.size, 0, none⟩), .pointer (some ⟨w2.heap.size, 0, none⟩)] (isFree (confN xs) (remOf os)) _ R3.out (by omega) (Sdl.enters Try.func47 (by kernel_rfl) rfl) (fun z hz => serial_closure ca _ n1 cc 4 _ _ (confN xs) (remOf os) z _ CQ.out GC.out RQ.out R3.out (fun z hz => left_in hz) (left_in hz))).mono ?_
          rintro e w' ⟨i, rfl, hif, hw'⟩; have hw'' := hw'.symm; clear hw'; subst hw''
          rcases hif with ⟨rfl, hno⟩ | ⟨k, rfl, hkl, hyes, hno⟩
          · have ES : Hid (serO (confN xs) = none) := by show _ = _; rw [← HRUN.out]; exact run_stop (next_none hno)
            have EB : Hid (serB xs = false) := ser_none ES.out
            clear hno
            go_wp2_with fail
            go_ret2
            refine ⟨.slice none 0 0, by rw [EB.out]; rfl, ?_, BQ.out⟩
            rw [serV_no EB.out]
            exact iOwn_nil _ _ _
          · have hkn : k < n1 := by rw [← HN1.out]; exact hkl
            have HNX : Hid (nextO (confN xs) os = some ((remOf os).getD k 0)) := next_some hkl hyes hno
            have HLN : Hid (remOf (os ++ [(remOf os).getD k 0]) = (remOf os).take k ++ (remOf os).drop (k + 1)) := left_next hkl
            have HLL : Hid ((remOf (os ++ [(remOf os).getD k 0])).length = n1 - 1) := by show _ = _; rw [left_len hkl, HN1.out]
            have HZI : Hid (0 ≤ (remOf os).getD k 0 ∧ (remOf os).getD k 0 ≤ 3) := left_in (getD_mem hkl)
            have hzc : wq.cell? ⟨w1.heap.size + 1, k, none⟩ = some (.int .i64 ((remOf os).getD k 0)) := by
              rw [HOWN.out.cellAt k (by omega)]
              exact ints_get .i64 _ k hkl
            have hkI : (k : Int) < (n1 : Int) := by omega
            have hk0 : ¬ (k : Int) < 0 := by omega
            have hk0' : (0 : Int) ≤ (k : Int) := by omega
            generalize (remOf os).getD k 0 = z at hzc HNX HLN HLL HZI
            have OO : Hid (wq.ownsRow wr.heap.size 3 1 (.slice a' j c') j (ints .i64 os)) := HAT.out.order
            have VS : Hid (wr.heap.size ≤ wq.heap.size) := HAT.out.keeps.size
            have hj3 : j ≤ 3 := by omega
            clear hyes hno hkl
            have HOa4 : Hid ((wq.alloc (.cells #[.int .i64 z] 3)).ownsRow wr.heap.size 3 1 (.slice a' j c') j (ints .i64 os)) := own_below OO.out ((Below.refl _ _).alloc (Nat.le_refl _) _)
            have HNa4 : Hid (Below wr.heap.size wq (wq.alloc (.cells #[.int .i64 z] 3))) := (Below.refl _ _).alloc VS.out _
            have Sa4 : Hid (0 < 1 → ∃ ad, (some ⟨wq.heap.size, 0, none⟩ : Option Addr) = some ad ∧ ∀ j u, ([.int .i64 z] : List Value)[j]? = some u → (wq.alloc (.cells #[.int .i64 z] 3)).cell? (ad.add j) = some u) := news_one wq _ _
            go_wp2_with (at_builtin; refine App.wpList_append_all _ rfl _ _ 25 rfl wr.heap.size 3 i0 (.int .i64 0) 1 8 Try.underlying25 hi hz0 hz1 hz2 rfl (by decide) _ _ _ rfl HOa4.out _ 1 _ [.int .i64 z] rfl rfl Sa4.out (by simp [Value.oneCell']) (by unfold maxLen; omega) (by omega) (by simp; have := VS.out; omega) ?_)
            intro a4 c4 w6 hown6 hgrow6
            have O6 : Hid (w6.ownsRow wr.heap.size 3 1 (.slice a4 (j + 1) c4) (j + 1) (ints .i64 (os ++ [z]))) := by show World.ownsRow _ _ _ _ _ _ _; simpa [ints] using hown6
            have N6 : Hid (Below wr.heap.size wq w6) := below_app HNa4.out HOa4.out hgrow6 (by simp; have := VS.out; omega) (Nat.le_refl _)
            have L6 : Hid (w6.ownsRow w.heap.size 3 1 (.slice (some ⟨w1.heap.size + 1, 0, none⟩) n1 4) n1 (ints .i64 (remOf os))) := own_of_block HOWN.out (N6.out.block _ (by have := HG2.out; have := HSZ.out; omega))
            have g6 : w6.cell? ⟨w2.heap.size, 0, none⟩ = some (.slice (some ⟨w1.heap.size + 1, 0, none⟩) n1 4) := (N6.out.cell (p := ⟨w2.heap.size, 0, none⟩) HSZ.out).trans GC.out
            have f6 : w6.frozen? ⟨w2.heap.size, 0, none⟩ = false := (N6.out.frozen (p := ⟨w2.heap.size, 0, none⟩) HSZ.out).trans HAT.out.frozen
            have G6 : Hid (w6.cell? ⟨w2.heap.size, 0, none⟩ = some (.slice (some ⟨w1.heap.size + 1, 0, none⟩) n1 4)) := g6
            have F6 : Hid (w6.frozen? ⟨w2.heap.size, 0, none⟩ = false) := f6
            have hk1 : IntKind.i64.wrap ((k : Int) + 1) = ((k + 1 : Nat) : Int) := by simp [IntKind.wrap, IntKind.bits, IntKind.signed]; omega
            clear hown6 hgrow6 HOa4 HNa4 Sa4 hzc
            go_wp2_with fail
            refine (delete_own (w1.heap.size + 1) n1 4 k w.heap.size (remOf os) _ L6.out hkn).mono ?_
            rintro e w7 ⟨rfl, hown7, honly7⟩
            have L7 : Hid (w7.ownsRow w.heap.size 3 1 (.slice (some ⟨w1.heap.size + 1, 0, none⟩) (n1 - 1) 4) (n1 - 1) (ints .i64 ((remOf os).take k ++ (remOf os).drop (k + 1)))) := hown7
            have T7 : Hid (OnlyAt (some ⟨w1.heap.size + 1, 0, none⟩) w6 w7) := honly7
            have g7 : w7.cell? ⟨w2.heap.size, 0, none⟩ = some (.slice (some ⟨w1.heap.size + 1, 0, none⟩) n1 4) := (T7.out.cell (by have := N6.out.size; have := VS.out; have := HSZ.out; omega) (fun x hx => by cases hx; have := HG2.out; show w2.heap.size ≠ w1.heap.size + 1; omega)).trans G6.out
            have f7 : w7.frozen? ⟨w2.heap.size, 0, none⟩ = false := (frozen_only T7.out (by have := N6.out.size; have := VS.out; have := HSZ.out; omega) (fun x hx => by cases hx; have := HG2.out; show w2.heap.size ≠ w1.heap.size + 1; omega)).trans F6.out
            have T8 : Hid (OnlyAt (some ⟨w2.heap.size, 0, none⟩) w7 (w7.setCell ⟨w2.heap.size, 0, none⟩ (.slice (some ⟨w1.heap.size + 1, 0, none⟩) (n1 - 1) 4))) := (OnlyAt.refl _ _).setCell (fun x hx => by cases hx; rfl) (by simp) _
            have g8 : (w7.setCell ⟨w2.heap.size, 0, none⟩ (.slice (some ⟨w1.heap.size + 1, 0, none⟩) (n1 - 1) 4)).cell? ⟨w2.heap.size, 0, none⟩ = some (.slice (some ⟨w1.heap.size + 1, 0, none⟩) (n1 - 1) 4) := by go_simp
            have f8 : (w7.setCell ⟨w2.heap.size, 0, none⟩ (.slice (some ⟨w1.heap.size + 1, 0, none⟩) (n1 - 1) 4)).frozen? ⟨w2.heap.size, 0, none⟩ = false := by rw [World.frozen?_setCell]; exact f7
            have A8 : Hid (At2 (confN xs) w wr (w7.setCell ⟨w2.heap.size, 0, none⟩ (.slice (some ⟨w1.heap.size + 1, 0, none⟩) (n1 - 1) 4)) (w1.heap.size + 1) w2.heap.size (j + 1) a4 c4 (os ++ [z])) := by
              have hg2 := HG2.out
              have hsz := HSZ.out
              have obl := own_block O6.out
              refine ⟨by rw [List.length_append, HAT.out.len]; rfl, by rw [HLL.out]; omega, ?_, fun x hx => ?_, ?_, ?_, ?_, ?_, f8⟩
              · rw [← HRUN.out, run_step HNX.out]; congr 1; have := HAT.out.len; omega
              · rcases List.mem_append.1 hx with hx | hx
                · exact HAT.out.wf x hx
                · rw [List.mem_singleton.1 hx]; exact HZI.out
              · refine own_touch (own_touch O6.out T7.out ?_) T8.out ?_
                · intro x y hx hy; cases hy; have := (obl x hx).1; show x.block ≠ w1.heap.size + 1; omega
                · intro x y hx hy; cases hy; have := (obl x hx).1; show x.block ≠ w2.heap.size; omega
              · rw [HLL.out, HLN.out]
                exact own_touch L7.out T8.out (fun x y hx hy => by cases hx; cases hy; show w1.heap.size + 1 ≠ w2.heap.size; omega)
              · rw [HLL.out]; exact g8
              · exact keeps_trans (keeps_trans (keeps_app HAT.out.keeps N6.out (Nat.le_refl _)) (Keeps.of_only T7.out (fun x hx => by cases hx; show w1.heap.size + 1 ≤ w1.heap.size + 1 ∧ w1.heap.size + 1 < w2.heap.size + 1; omega))) (Keeps.of_only T8.out (fun x hx => by cases hx; show w1.heap.size + 1 ≤ w2.heap.size ∧ w2.heap.size < w2.heap.size + 1; omega))
            clear g6 f6 g8 f8
            go_wp2
            go_roundw
            case rel => exact ⟨j + 1, a4, c4, os ++ [z], rfl, A8.out⟩
            case measure => simp [lenOf]; omega

def testX (C os : List Int) (k x : Int) : Bool := decide (x ∈ os) || (C.getD (4 * x + k).toNat 0 == 0)
def nxt (C os : List Int) (k : Nat) : Int := ((allD.take k).find? (candB C os)).getD (-1)
theorem allD_mem {q : Int} (h : q ∈ allD) : 0 ≤ q := by
  simp only [allD, List.mem_cons, List.not_mem_nil, or_false] at h
  omega
theorem nxt_step {C os : List Int} {k : Nat} (h : k < 4) : nxt C os (k + 1) = if (decide (nxt C os k < 0) && candB C os (k : Int)) = true then (k : Int) else nxt C os k := by
  unfold nxt
  rw [take_succ_getD (zs := allD) h, allD_get h, List.find?_append]
  cases hf : (allD.take k).find? (candB C os) with
  | some q =>
    have hq : 0 ≤ q := allD_mem (List.mem_of_mem_take (List.mem_of_find?_eq_some hf))
    have : decide (q < 0) = false := decide_eq_false (by omega)
    simp [this]
  | none =>
    cases hc : candB C os (k : Int)
    · simp [hc]
    · simp [hc]
theorem nxt_end {C os : List Int} (hc : ∀ i, 0 ≤ C.getD i 0) : (nxt C os 4 < 0 → nextO C os = none) ∧ (¬ nxt C os 4 < 0 → nextO C os = some (nxt C os 4)) := by
  rw [next_cand hc]
  unfold nxt
  rw [List.take_of_length_le (by decide)]
  cases hf : allD.find? (candB C os) with
  | none => exact ⟨fun _ => rfl, fun h => absurd (show (-1 : Int) < 0 by omega) h⟩
  | some q =>
    have hq : 0 ≤ q := allD_mem (List.mem_of_find?_eq_some hf)
    exact ⟨fun h => absurd h (by simpa using hq), fun _ => rfl⟩
theorem next_in {C os : List Int} {q : Int} (h : nextO C os = some q) : q ∈ remOf os := List.mem_of_find?_eq_some h
theorem rem_one {os : List Int} {q : Int} (h : q ∈ remOf os) : (remOf (os ++ [q])).length = (remOf os).length - 1 := by
  obtain ⟨k, hk, rfl⟩ := List.mem_iff_getElem.1 h
  have e : (remOf os)[k] = (remOf os).getD k 0 := by simp [List.getD, hk]
  rw [e]
  exact left_len hk

set_option maxRecDepth 8000 in
set_option maxHeartbeats 3200000 in
theorem spec_serial (ca : Option Addr) (cc : Nat) (C : List Int) (w : World) (hc : IsRow .i64 w ca 16 cc C) (hcn : ∀ i, 0 ≤ C.getD i 0) :
    Calls Try.prog 50 #[.slice ca 16 cc] w fun e w' => ∃ a' m c', e = .returned (.slice a' m c') ∧ m = ((serO C).getD []).length ∧ w'.ownsRow w.heap.size 3 1 (.slice a' m c') m (ints .i64 ((serO C).getD [])) ∧ (∀ z ∈ (serO C).getD [], 0 ≤ z ∧ z ≤ 3) ∧ ((serO C).isSome = decide (0 < m)) ∧ m ≤ 4 ∧ Below w.heap.size w w' := by
  obtain ⟨i0, hi, hz0, hz1, hz2⟩ := info_parts Ints.info
  have HC : Hid (IsRow .i64 w ca 16 cc C) := hc
  have HCN : Hid (∀ i, 0 ≤ C.getD i 0) := hcn
  obtain ⟨cb, co, rfl, hcb, hcc⟩ := hc.cells (by omega)
  have HCC : Hid (∀ i, i < 16 → w.cell? ⟨cb, co + i, none⟩ = some (.int .i64 (C.getD i 0))) := hcc
  clear hc hcn hcc
  go_enter Try.func50, Try.ntmps50
  go_wp2_with fail
  go_loopw [3] (fun v wr => ∃ (j : Nat) (a' : Option Addr) (c' : Nat) (os : List Int), v = .slice a' j c' ∧ wr.ownsRow w.heap.size 3 1 (.slice a' j c') j (ints .i64 os) ∧ (remOf os).length + j = 4 ∧ runO C (4 - j) os = serO C ∧ (∀ z ∈ os, 0 ≤ z ∧ z ≤ 3) ∧ Below w.heap.size w wr) (fun v _ => 4 - lenOf v)
  case atStart => exact ⟨0, none, 0, [], rfl, ⟨rfl, .inl ⟨rfl, rfl⟩⟩, rfl, rfl, by simp, Below.refl _ _⟩
  case round =>
    obtain ⟨j, a', c', os, rfl, ho, hleft, hrun, hwf, hnx⟩ := hrel
    have HO : Hid (wr.ownsRow w.heap.size 3 1 (.slice a' j c') j (ints .i64 os)) := ho
    have HN : Hid (Below w.heap.size w wr) := hnx
    have HW : Hid (∀ z ∈ os, 0 ≤ z ∧ z ≤ 3) := hwf
    have HLE : Hid ((remOf os).length + j = 4) := hleft
    have hjl : os.length = j := by have := ho.1; rw [ints_length] at this; omega
    have HJL : Hid (os.length = j) := hjl
    have hj4 : j ≤ 4 := by omega
    by_cases hj : j = 4
    · subst hj
      have ES : Hid (serO C = some os) := hrun.symm
      clear ho hnx hwf hleft hrun hjl
      go_wp2_with fail
      go_ret
      exact ⟨_, _, _, rfl, by rw [ES.out]; exact HJL.out.symm, by rw [ES.out]; exact HO.out, by rw [ES.out]; exact HW.out, by rw [ES.out]; rfl, Nat.le_refl _, HN.out⟩
    · have hj3 : (j : Int) < 4 := by omega
      obtain ⟨r, hr⟩ : ∃ r, r = 3 - j := ⟨_, rfl⟩
      have HRUN : Hid (runO C (r + 1) os = serO C) := by show _ = _; rw [← hrun]; congr 1; omega
      have hr1 : ∃ a cap, (Value.slice a' j c') = .slice a j cap ∧ IsRow .i64 wr a j cap os := isRow_own ho (fun z hz => int_wf _ (by have := hwf z hz; omega) (by have := hwf z hz; omega))
      obtain ⟨_, _, e1, hr1⟩ := hr1
      cases e1
      have RO : Hid (IsRow .i64 wr a' j c' os) := hr1
      have HCW : Hid (∀ i, i < 16 → wr.cell? ⟨cb, co + i, none⟩ = some (.int .i64 (C.getD i 0))) := fun i hi => (hnx.cell (p := ⟨cb, co + i, none⟩) hcb).trans (HCC.out i hi)
      clear ho hnx hwf hleft hrun hjl hr1
      go_wp2_with fail
      go_loopw [4, 5] (fun v i wq => ∃ k : Nat, k ≤ 4 ∧ i = .int .i64 k ∧ v = .int .i64 (nxt C os k) ∧ wq = wr) (fun _ i _ => 4 - (intOf i).toNat)
      case atStart => exact ⟨0, Nat.zero_le _, rfl, rfl, rfl⟩
      case round =>
        rename World => wq
        obtain ⟨k, hk, rfl, rfl, hw'⟩ := hrel
        subst hw'
        by_cases hlt : k < 4
        · have hltI : (k : Int) < 4 := by omega
          have HST : Hid (nxt C os (k + 1) = if (decide (nxt C os k < 0) && candB C os (k : Int)) = true then (k : Int) else nxt C os k) := nxt_step hlt
          have HCD : Hid (candB C os (k : Int) = (decide ((k : Int) ∉ os) && allD.all (testX C os (k : Int)))) := rfl
          obtain ⟨nx, hnx⟩ : ∃ nx, nx = nxt C os k := ⟨_, rfl⟩
          rw [← hnx] at HST
          have HNX : Hid (nx = nxt C os k) := hnx
          rw [← hnx]
          clear hnx
          -- the inner loop, from whatever free it begins
          have INNER : ∀ b0 : Bool, b0 = (decide (nx < 0) && decide ((k : Int) ∉ os)) → True := fun _ _ => trivial
          clear INNER
          by_cases hneg : nx < 0
          · have hnegb : decide (nx < 0) = true := decide_eq_true hneg
            go_wp2_with fail
            refine (l1Has a' j c' os (k : Int) _ RO.out).mono ?_
            rintro e w' ⟨rfl, hw'⟩; have hw'' := hw'.symm; clear hw'; subst hw''
            have HD : Hid (nxt C os (k + 1) = if ((!(decide ((k : Int) ∈ os))) && allD.all (testX C os (k : Int))) = true then (k : Int) else nx) := by
              show _ = _
              rw [HST.out, HCD.out, hnegb, Bool.true_and]
              by_cases hm : (k : Int) ∈ os <;> simp [hm]
            generalize decide ((k : Int) ∈ os) = d0 at HD ⊢
            go_wp2_with fail
            go_loopw [6, 7] (fun f i wp => ∃ x : Nat, x ≤ 4 ∧ i = .int .i64 x ∧ f = .bool ((!d0) && (allD.take x).all (testX C os (k : Int))) ∧ wp = wq) (fun _ i _ => 4 - (intOf i).toNat)
            case atStart => exact ⟨0, Nat.zero_le _, rfl, by rw [List.take_zero, List.all_nil, Bool.and_true], rfl⟩
            case round =>
              rename World => wp
              obtain ⟨x, hx, rfl, rfl, hw'⟩ := hrel
              subst hw'
              by_cases hx4 : x < 4
              · have hxI : (x : Int) < 4 := by omega
                have HSX : Hid ((allD.take (x + 1)).all (testX C os (k : Int)) = ((allD.take x).all (testX C os (k : Int)) && testX C os (k : Int) (x : Int))) := by
                  show _ = _
                  rw [take_succ_getD (zs := allD) hx4, allD_get hx4, List.all_append, List.all_cons, List.all_nil, Bool.and_true]
                have HTX : Hid (testX C os (k : Int) (x : Int) = (decide ((x : Int) ∈ os) || (C.getD (4 * (x : Int) + (k : Int)).toNat 0 == 0))) := rfl
                have HFR : Hid (∀ b, ((!d0) && (allD.take x).all (testX C os (k : Int))) = b → ((!d0) && (allD.take (x + 1)).all (testX C os (k : Int))) = (b && testX C os (k : Int) (x : Int))) := fun b e => by rw [HSX.out, ← Bool.and_assoc, e]
                have HF2 := HFR.out _ rfl
                generalize ((!d0) && (allD.take x).all (testX C os (k : Int))) = fr at HF2 ⊢
                have HF3 : Hid _ := HF2
                clear HF2 HFR HSX
                cases fr
                · have F : Hid (((!d0) && (allD.take (x + 1)).all (testX C os (k : Int))) = false) := by show _ = _; rw [HF3.out]; rfl
                  go_wp2_with fail
                  go_roundw
                  case rel => exact ⟨x + 1, by omega, by go_num, by rw [F.out], by first | rfl | trivial⟩
                  case measure => simp [intOf]; omega
                · go_wp2_with fail
                  refine (l1Has a' j c' os (x : Int) _ RO.out).mono ?_
                  rintro e w' ⟨rfl, hw'⟩; have hw'' := hw'.symm; clear hw'; subst hw''
                  cases hm : decide ((x : Int) ∈ os)
                  · obtain ⟨c, hcd⟩ : ∃ c, c = 4 * x + k := ⟨_, rfl⟩
                    have hidx : 4 * (x : Int) + (k : Int) = (c : Int) := by omega
                    have hc16 : c < 16 := by omega
                    have hcI : (c : Int) < 16 := by omega
                    have hcell := HCW.out c hc16
                    have HE : Hid ((4 * (x : Int) + (k : Int)).toNat = c) := by show _ = _; rw [hidx, Int.toNat_natCast]
                    have HY : Hid (((!d0) && (allD.take (x + 1)).all (testX C os (k : Int))) = (C.getD c 0 == 0)) := by show _ = _; rw [HF3.out, HTX.out, hm, HE.out]; rfl
                    generalize C.getD c 0 = y at hcell HY
                    clear hm hcd
                    cases hy : (y == 0)
                    · have F : Hid (((!d0) && (allD.take (x + 1)).all (testX C os (k : Int))) = false) := by show _ = _; rw [HY.out, hy]
                      go_wp2_with fail
                      go_roundw
                      case rel => exact ⟨x + 1, by omega, by go_num, by rw [F.out], by first | rfl | trivial⟩
                      case measure => simp [intOf]; omega
                    · have F : Hid (((!d0) && (allD.take (x + 1)).all (testX C os (k : Int))) = true) := by show _ = _; rw [HY.out, hy]
                      go_wp2_with fail
                      go_roundw
                      case rel => exact ⟨x + 1, by omega, by go_num, by rw [F.out], by first | rfl | trivial⟩
                      case measure => simp [intOf]; omega
                  · have F : Hid (((!d0) && (allD.take (x + 1)).all (testX C os (k : Int))) = true) := by show _ = _; rw [HF3.out, HTX.out, hm]; rfl
                    clear hm
                    go_wp2_with fail
                    go_roundw
                    case rel => exact ⟨x + 1, by omega, by go_num, by rw [F.out], by first | rfl | trivial⟩
                    case measure => simp [intOf]; omega
              · obtain rfl : x = 4 := by omega
                have HAL : Hid ((allD.take 4).all (testX C os (k : Int)) = allD.all (testX C os (k : Int))) := by show _ = _; rw [List.take_of_length_le (by decide)]
                rw [HAL.out]
                generalize ((!d0) && allD.all (testX C os (k : Int))) = fr at HD ⊢
                cases fr
                · have F : Hid (nxt C os (k + 1) = nx) := by show _ = _; rw [HD.out]; rfl
                  go_wp2_with fail
                  go_roundw
                  case rel => exact ⟨k + 1, by omega, by go_num, by rw [F.out], by first | rfl | trivial⟩
                  case measure => simp [intOf]; omega
                · have F : Hid (nxt C os (k + 1) = (k : Int)) := by show _ = _; rw [HD.out]; rfl
                  go_wp2_with fail
                  go_roundw
                  case rel => exact ⟨k + 1, by omega, by go_num, by rw [F.out], by first | rfl | trivial⟩
                  case measure => simp [intOf]; omega
          · have hnegb : decide (nx < 0) = false := decide_eq_false hneg
            have HD : Hid (nxt C os (k + 1) = if (false && allD.all (testX C os (k : Int))) = true then (k : Int) else nx) := by
              show _ = _
              rw [HST.out, hnegb, Bool.false_and, Bool.false_and]
            obtain ⟨b0, hb0⟩ : ∃ b0, b0 = false := ⟨_, rfl⟩
            rw [← hb0] at HD
            have hneg' : 0 ≤ nx := by omega
            go_wp2_with fail
            go_loopw [6, 7] (fun f i wp => ∃ x : Nat, x ≤ 4 ∧ i = .int .i64 x ∧ f = .bool (b0 && (allD.take x).all (testX C os (k : Int))) ∧ wp = wq) (fun _ i _ => 4 - (intOf i).toNat)
            case atStart => exact ⟨0, Nat.zero_le _, rfl, by rw [hb0]; rfl, rfl⟩
            case round =>
              rename World => wp
              obtain ⟨x, hx, rfl, rfl, hw'⟩ := hrel
              subst hw'
              by_cases hx4 : x < 4
              · have hxI : (x : Int) < 4 := by omega
                have HSX : Hid ((allD.take (x + 1)).all (testX C os (k : Int)) = ((allD.take x).all (testX C os (k : Int)) && testX C os (k : Int) (x : Int))) := by
                  show _ = _
                  rw [take_succ_getD (zs := allD) hx4, allD_get hx4, List.all_append, List.all_cons, List.all_nil, Bool.and_true]
                have HTX : Hid (testX C os (k : Int) (x : Int) = (decide ((x : Int) ∈ os) || (C.getD (4 * (x : Int) + (k : Int)).toNat 0 == 0))) := rfl
                have HFR : Hid (∀ b, (b0 && (allD.take x).all (testX C os (k : Int))) = b → (b0 && (allD.take (x + 1)).all (testX C os (k : Int))) = (b && testX C os (k : Int) (x : Int))) := fun b e => by rw [HSX.out, ← Bool.and_assoc, e]
                have HF2 := HFR.out _ rfl
                generalize (b0 && (allD.take x).all (testX C os (k : Int))) = fr at HF2 ⊢
                have HF3 : Hid _ := HF2
                clear HF2 HFR HSX
                cases fr
                · have F : Hid ((b0 && (allD.take (x + 1)).all (testX C os (k : Int))) = false) := by show _ = _; rw [HF3.out]; rfl
                  go_wp2_with fail
                  go_roundw
                  case rel => exact ⟨x + 1, by omega, by go_num, by rw [F.out], by first | rfl | trivial⟩
                  case measure => simp [intOf]; omega
                · go_wp2_with fail
                  refine (l1Has a' j c' os (x : Int) _ RO.out).mono ?_
                  rintro e w' ⟨rfl, hw'⟩; have hw'' := hw'.symm; clear hw'; subst hw''
                  cases hm : decide ((x : Int) ∈ os)
                  · obtain ⟨c, hcd⟩ : ∃ c, c = 4 * x + k := ⟨_, rfl⟩
                    have hidx : 4 * (x : Int) + (k : Int) = (c : Int) := by omega
                    have hc16 : c < 16 := by omega
                    have hcI : (c : Int) < 16 := by omega
                    have hcell := HCW.out c hc16
                    have HE : Hid ((4 * (x : Int) + (k : Int)).toNat = c) := by show _ = _; rw [hidx, Int.toNat_natCast]
                    have HY : Hid ((b0 && (allD.take (x + 1)).all (testX C os (k : Int))) = (C.getD c 0 == 0)) := by show _ = _; rw [HF3.out, HTX.out, hm, HE.out]; rfl
                    generalize C.getD c 0 = y at hcell HY
                    clear hm hcd
                    cases hy : (y == 0)
                    · have F : Hid ((b0 && (allD.take (x + 1)).all (testX C os (k : Int))) = false) := by show _ = _; rw [HY.out, hy]
                      go_wp2_with fail
                      go_roundw
                      case rel => exact ⟨x + 1, by omega, by go_num, by rw [F.out], by first | rfl | trivial⟩
                      case measure => simp [intOf]; omega
                    · have F : Hid ((b0 && (allD.take (x + 1)).all (testX C os (k : Int))) = true) := by show _ = _; rw [HY.out, hy]
                      go_wp2_with fail
                      go_roundw
                      case rel => exact ⟨x + 1, by omega, by go_num, by rw [F.out], by first | rfl | trivial⟩
                      case measure => simp [intOf]; omega
                  · have F : Hid ((b0 && (allD.take (x + 1)).all (testX C os (k : Int))) = true) := by show _ = _; rw [HF3.out, HTX.out, hm]; rfl
                    clear hm
                    go_wp2_with fail
                    go_roundw
                    case rel => exact ⟨x + 1, by omega, by go_num, by rw [F.out], by first | rfl | trivial⟩
                    case measure => simp [intOf]; omega
              · obtain rfl : x = 4 := by omega
                have HAL : Hid ((allD.take 4).all (testX C os (k : Int)) = allD.all (testX C os (k : Int))) := by show _ = _; rw [List.take_of_length_le (by decide)]
                rw [HAL.out]
                generalize (b0 && allD.all (testX C os (k : Int))) = fr at HD ⊢
                cases fr
                · have F : Hid (nxt C os (k + 1) = nx) := by show _ = _; rw [HD.out]; rfl
                  go_wp2_with fail
                  go_roundw
                  case rel => exact ⟨k + 1, by omega, by go_num, by rw [F.out], by first | rfl | trivial⟩
                  case measure => simp [intOf]; omega
                · have F : Hid (nxt C os (k + 1) = (k : Int)) := by show _ = _; rw [HD.out]; rfl
                  go_wp2_with fail
                  go_roundw
                  case rel => exact ⟨k + 1, by omega, by go_num, by rw [F.out], by first | rfl | trivial⟩
                  case measure => simp [intOf]; omega
        · obtain rfl : k = 4 := by omega
          have HE := nxt_end (os := os) HCN.out
          generalize nxt C os 4 = nx at HE ⊢
          by_cases hneg : nx < 0
          · have ES : Hid (serO C = none) := by show _ = _; rw [← HRUN.out]; exact run_stop (HE.1 hneg)
            clear HE
            go_wp2_with fail
            go_ret
            exact ⟨none, 0, 0, rfl, by rw [ES.out]; rfl, by rw [ES.out]; exact ⟨rfl, .inl ⟨rfl, rfl⟩⟩, by rw [ES.out]; simp, by rw [ES.out]; rfl, by omega, HN.out⟩
          · have HNX : Hid (nextO C os = some nx) := HE.2 hneg
            have hin := left_in (next_in HNX.out)
            have HIN : Hid (0 ≤ nx ∧ nx ≤ 3) := hin
            have HLL : Hid ((remOf (os ++ [nx])).length = (remOf os).length - 1) := rem_one (next_in HNX.out)
            have hwr := HN.out.size
            have hj3' : j ≤ 3 := by omega
            clear HE
            have HOa5 : Hid ((wq.alloc (.cells #[.int .i64 nx] 3)).ownsRow w.heap.size 3 1 (.slice a' j c') j (ints .i64 os)) := own_below HO.out ((Below.refl _ _).alloc (Nat.le_refl _) _)
            have HNa5 : Hid (Below w.heap.size w (wq.alloc (.cells #[.int .i64 nx] 3))) := HN.out.alloc HN.out.size _
            have Sa5 : Hid (0 < 1 → ∃ ad, (some ⟨wq.heap.size, 0, none⟩ : Option Addr) = some ad ∧ ∀ j u, ([.int .i64 nx] : List Value)[j]? = some u → (wq.alloc (.cells #[.int .i64 nx] 3)).cell? (ad.add j) = some u) := news_one wq _ _
            go_wp2_with (at_builtin; refine App.wpList_append_all _ rfl _ _ 25 rfl w.heap.size 3 i0 (.int .i64 0) 1 8 Try.underlying25 hi hz0 hz1 hz2 rfl (by decide) _ _ _ rfl HOa5.out _ 1 _ [.int .i64 nx] rfl rfl Sa5.out (by simp [Value.oneCell']) (by unfold maxLen; omega) (by omega) (Nat.le_trans (by first | exact Nat.le_refl _ | omega) HNa5.out.size) ?_)
            intro a5 c5 w5 hown5 hgrow5
            have O5 : Hid (w5.ownsRow w.heap.size 3 1 (.slice a5 (j + 1) c5) (j + 1) (ints .i64 (os ++ [nx]))) := by show World.ownsRow _ _ _ _ _ _ _; simpa [ints] using hown5
            have N5 : Hid (Below w.heap.size w w5) := below_app HNa5.out HOa5.out hgrow5 HNa5.out.size (by first | exact Nat.le_refl _ | omega)
            clear hown5 hgrow5 HOa5 HNa5 Sa5
            go_wp2
            go_roundw
            case rel =>
              refine ⟨j + 1, a5, c5, os ++ [nx], rfl, O5.out, by rw [HLL.out]; have := HLE.out; omega, ?_, fun x hx => ?_, N5.out⟩
              · rw [← HRUN.out, run_step HNX.out]; congr 1; omega
              · rcases List.mem_append.1 hx with hx | hx
                · exact HW.out x hx
                · rw [List.mem_singleton.1 hx]; exact HIN.out
            case measure => simp [lenOf]; omega

set_option maxHeartbeats 800000 in
theorem spec_SerialOf (v : Value) (xs : List D) (w : World) (h : XIs w v xs) :
    Calls Try.prog 15 #[v] w fun e w' => ∃ u, e = .returned (.tuple #[u, .bool (serB xs)]) ∧ IOwn w' w.heap.size w'.heap.size u (serV xs) ∧ Below w.heap.size w w' := by
  obtain ⟨a, n, cap, rfl, hr, hn⟩ := h
  have HI : Hid (IsX w a n cap xs) := hr
  clear hr
  cases hg : goodP xs
  · have EB : serB xs = false := by unfold serB; rw [hg]; rfl
    have E : Hid (serV xs = []) := serV_no EB
    have HG : Hid (goodP xs = false) := hg
    rw [EB]
    clear hg EB
    go_enter Try.func15, Try.ntmps15
    go_wp2_with fail
    refine (spec_GoodPlay a n cap xs _ HI.out).mono ?_
    rintro e w1 ⟨rfl, hb1⟩
    have B1 : Hid (Below w.heap.size w w1) := hb1
    clear hb1
    rw [HG.out]
    go_wp2_with fail
    go_ret2
    exact ⟨_, rfl, by rw [E.out]; exact iOwn_nil _ _ _, B1.out⟩
  · have HG : Hid (goodP xs = true) := hg
    have EB : Hid (serB xs = (serO (confN xs)).isSome ∧ serV xs = (serO (confN xs)).getD []) := by
      cases hs : serO (confN xs) with
      | none => exact ⟨ser_none hs, serV_no (ser_none hs)⟩
      | some os => exact ser_some hg hs
    have HWT : Hid (∀ z ∈ confN xs, (Lit.int .i64 z).wf = true) := tally_wf (by have := P1_length xs (good_len hg) xs.length; have := good_len hg; omega)
    clear hg
    go_enter Try.func15, Try.ntmps15
    go_wp2_with fail
    refine (spec_GoodPlay a n cap xs _ HI.out).mono ?_
    rintro e w1 ⟨rfl, hb1⟩
    have B1 : Hid (Below w.heap.size w w1) := hb1
    clear hb1
    rw [HG.out]
    go_wp2_with fail
    refine (spec_conflicts a n cap xs _ (HI.out.below B1.out) HG.out).mono ?_
    rintro e w2 ⟨rfl, ho2, hb2⟩
    have hr2 : ∃ a cap, (Value.slice (some ⟨w1.heap.size, 0, none⟩) 16 16) = .slice a 16 cap ∧ IsRow .i64 w2 a 16 cap (confN xs) := isRow_own ho2 HWT.out
    obtain ⟨_, _, e2, hr2⟩ := hr2
    cases e2
    have R2 : Hid (IsRow .i64 w2 (some ⟨w1.heap.size, 0, none⟩) 16 16 (confN xs)) := hr2
    have B2 : Hid (Below w.heap.size w w2) := Frame.next B1.out hb2 B1.out.size
    clear ho2 hb2 hr2
    go_wp2_with fail
    refine (spec_serial _ 16 (confN xs) _ R2.out (tally_nonneg _)).mono ?_
    rintro e w3 ⟨a3, m3, c3, rfl, hm3, ho3, hw3, hs3, h43, hb3⟩
    have O3 : Hid (w3.ownsRow w.heap.size 3 1 (.slice a3 m3 c3) m3 (ints .i64 ((serO (confN xs)).getD []))) := own_base ho3 B2.out.size
    have B3 : Hid (Below w.heap.size w w3) := Frame.next B2.out hb3 B2.out.size
    have HS : Hid ((serO (confN xs)).isSome = decide (0 < m3)) := hs3
    have H3 : Hid (∀ z ∈ (serO (confN xs)).getD [], 0 ≤ z ∧ z ≤ 3) := hw3
    clear hm3 ho3 hb3 hs3 hw3
    by_cases hm : 0 < m3
    · have hmI : (0 : Int) < (m3 : Int) := by omega
      go_wp2
      go_ret2
      refine ⟨.slice a3 m3 c3, by rw [EB.out.1, HS.out, decide_eq_true hm]; rfl, ?_, B3.out⟩
      rw [EB.out.2]
      exact iOwn_of O3.out (fun z hz => int_wf _ (by have := H3.out z hz; omega) (by have := H3.out z hz; omega)) (by omega)
    · obtain rfl : m3 = 0 := by omega
      go_wp2
      go_ret2
      refine ⟨.slice a3 0 c3, by rw [EB.out.1, HS.out]; rfl, ?_, B3.out⟩
      rw [EB.out.2]
      exact iOwn_of O3.out (fun z hz => int_wf _ (by have := H3.out z hz; omega) (by have := H3.out z hz; omega)) (by omega)


end Go.Proofs.Yteihgbiifcgipaa.Psf
