/-
  What columns are told by which, in the model: contracts of l1Has, l5Sub, l5Closure, ClosureOf, Implies.
-/
import Derived.Test.YtekheacbmbbpmaaSpo
import Derived.Test.YtekheacbmbbpmaaCsd
namespace Go.Proofs.Ytekheacbmbbpmaa.Ssc
open Go.RowKit
open Go.Proofs.Ytekheacbmbbpmaa.Frame Go.Proofs.Ytekheacbmbbpmaa.Mem Go.Proofs.Ytekheacbmbbpmaa.Ints Go.Proofs.Ytekheacbmbbpmaa.Kep Go.Proofs.Ytekheacbmbbpmaa.Lls Go.Proofs.Ytekheacbmbbpmaa.Mis Go.Proofs.Ytekheacbmbbpmaa.Dls Go.Proofs.Ytekheacbmbbpmaa.Dlk Go.Proofs.Ytekheacbmbbpmaa.Csd
open Go.Proofs.Ytekheacbmbbpmaa.Rel hiding Ll
open Go.Proofs.Ytekheacbmbbpmaa.Cpu hiding Dp

set_option maxHeartbeats 400000 in
theorem l1Has (a : Option Addr) (n ca : Nat) (zs : List Int) (x : Int) (w : World) (ha : IsRow .i64 w a n ca zs) :
    Calls Try.prog 51 #[.slice a n ca, .int .i64 x] w fun e w' => e = .returned (.bool (decide (x ∈ zs))) ∧ w' = w := by
  have hmaxn : n ≤ 9223372036854775807 := by have := ha.fits; have := ha.max; unfold maxLen at *; omega
  have HAs : Hid (0 < n → ∃ b off, a = some ⟨b, off, none⟩ ∧ b < w.heap.size ∧ ∀ i, i < n → w.cell? ⟨b, off + i, none⟩ = some (.int .i64 (zs.getD i 0))) := ha.cells
  have LA : Hid (zs.length = n) := ha.len
  clear ha
  go_enter Try.func51, Try.ntmps51
  go_wp2
  go_loop [9] (fun i => ∃ k : Nat, k ≤ n ∧ i = .int .i64 k ∧ x ∉ zs.take k) (fun i => n - (intOf i).toNat)
  case atStart => exact ⟨0, Nat.zero_le _, rfl, by simp⟩
  case round =>
    obtain ⟨k, hk, rfl, hall⟩ := hrel
    have Hall : Hid (x ∉ zs.take k) := hall
    clear hall
    by_cases hlt : k < n
    · obtain ⟨b, off, rfl, hbl, hc⟩ := HAs.out (by omega)
      have hck := hc k hlt
      have hkl : k < zs.length := by rw [LA.out]; exact hlt
      have HX : Hid ((zs.getD k 0 = x → decide (x ∈ zs) = true) ∧ (zs.getD k 0 ≠ x → x ∉ zs.take (k + 1))) :=
        ⟨fun e => decide_eq_true (by rw [← e]; exact getD_mem hkl), fun e h => by
          rw [take_succ_getD hkl, List.mem_append, List.mem_singleton] at h
          rcases h with h | h
          · exact Hall.out h
          · exact e h.symm⟩
      generalize zs.getD k 0 = y at hck HX
      clear hc hkl
      by_cases hv : y = x
      · have F : Hid (decide (x ∈ zs) = true) := HX.out.1 hv
        have hb : (y == x) = true := by rw [beq_iff_eq]; exact hv
        clear HX hv
        go_wp2
        go_ret
        exact ⟨ret_bool F.out.symm, rfl⟩
      · have F : Hid (x ∉ zs.take (k + 1)) := HX.out.2 hv
        have hb : (y == x) = false := by rw [beq_eq_false_iff_ne]; exact hv
        clear HX hv
        go_wp2
        go_round
        case rel => exact ⟨k + 1, by omega, by go_num, F.out⟩
        case measure => simp [intOf]; omega
    · have F : Hid (decide (x ∈ zs) = false) := decide_eq_false (by
        have := Hall.out
        rwa [List.take_of_length_le (by rw [LA.out]; omega)] at this)
      go_wp2
      go_ret
      exact ⟨ret_bool F.out.symm, rfl⟩

set_option maxHeartbeats 400000 in
theorem l5Sub (a b : Option Addr) (n m ca cb : Nat) (xs zs : List Int) (w : World) (ha : IsRow .i64 w a n ca xs) (hb : IsRow .i64 w b m cb zs) :
    Calls Try.prog 31 #[.slice a n ca, .slice b m cb] w fun e w' => e = .returned (.bool (insideB xs zs)) ∧ w' = w := by
  have hmaxn : n ≤ 9223372036854775807 := by have := ha.fits; have := ha.max; unfold maxLen at *; omega
  have HA : Hid (IsRow .i64 w a n ca xs) := ha
  have HB : Hid (IsRow .i64 w b m cb zs) := hb
  have LA : Hid (xs.length = n) := ha.len
  clear ha hb
  go_enter Try.func31, Try.ntmps31
  go_wp2
  go_loop [9] (fun i => ∃ k : Nat, k ≤ n ∧ i = .int .i64 k ∧ ((xs.take k).all fun z => decide (z ∈ zs)) = true) (fun i => n - (intOf i).toNat)
  case atStart => exact ⟨0, Nat.zero_le _, rfl, rfl⟩
  case round =>
    obtain ⟨k, hk, rfl, hall⟩ := hrel
    have Hall : Hid (((xs.take k).all fun z => decide (z ∈ zs)) = true) := hall
    clear hall
    by_cases hlt : k < n
    · obtain ⟨c, off, rfl, hbl, hc⟩ := HA.out.cells (by omega)
      have hck := hc k hlt
      have hkl : k < xs.length := by rw [LA.out]; exact hlt
      have HX : Hid ((decide (xs.getD k 0 ∈ zs) = false → insideB xs zs = false) ∧ (decide (xs.getD k 0 ∈ zs) = true → ((xs.take (k + 1)).all fun z => decide (z ∈ zs)) = true)) :=
        ⟨fun e => all_no (d := 0) hkl e, fun e => all_next (d := 0) hkl Hall.out e⟩
      generalize xs.getD k 0 = x at hck HX
      clear hc hkl
      go_wp2_with fail
      refine (l1Has _ _ _ zs x _ HB.out).mono ?_
      rintro e w' ⟨rfl, rfl⟩
      cases hv : decide (x ∈ zs)
      · have F : Hid (insideB xs zs = false) := HX.out.1 hv
        clear HX hv
        go_wp2
        go_ret
        exact ⟨ret_bool F.out.symm, rfl⟩
      · have F : Hid (((xs.take (k + 1)).all fun z => decide (z ∈ zs)) = true) := HX.out.2 hv
        clear HX hv
        go_wp2
        go_round
        case rel => exact ⟨k + 1, by omega, by go_num, F.out⟩
        case measure => simp [intOf]; omega
    · have F : Hid (insideB xs zs = true) := by
        have h := Hall.out
        rw [List.take_of_length_le (by rw [LA.out]; omega)] at h
        exact h
      go_wp2
      go_ret
      exact ⟨ret_bool F.out.symm, rfl⟩

/-! The list that grows. -/
structure Ou (w wr : World) (ds : List Dp) (zs ys : List Int) (a : Option Addr) (m c : Nat) : Prop where
  own : wr.ownsRow w.heap.size 3 1 (.slice a m c) m (ints .i64 ys)
  up : UpN ys
  col : ∀ z ∈ ys, 0 ≤ z ∧ z < 6
  sub : ∀ z ∈ zs, z ∈ ys
  cl : ∀ z ∈ ys, Cl ds (fun z => z ∈ zs) z
  low : Below w.heap.size w wr
theorem Ou.below {w wr w' : World} {ds : List Dp} {zs ys : List Int} {a : Option Addr} {m c : Nat} (h : Ou w wr ds zs ys a m c) (hb : Below wr.heap.size wr w') : Ou w w' ds zs ys a m c :=
  ⟨own_below h.own hb, h.up, h.col, h.sub, h.cl, Frame.next h.low hb h.low.size⟩
theorem Ou.len {w wr : World} {ds : List Dp} {zs ys : List Int} {a : Option Addr} {m c : Nat} (h : Ou w wr ds zs ys a m c) : ys.length = m := by
  have := h.own.1
  rw [ints_length] at this
  omega
theorem Ou.six {w wr : World} {ds : List Dp} {zs ys : List Int} {a : Option Addr} {m c : Nat} (h : Ou w wr ds zs ys a m c) : m ≤ 6 := by rw [← h.len]; exact up_length h.up h.col
theorem Ou.wf {w wr : World} {ds : List Dp} {zs ys : List Int} {a : Option Addr} {m c : Nat} (h : Ou w wr ds zs ys a m c) : ∀ z ∈ ys, (Lit.int .i64 z).wf = true := fun z hz => by
  have := h.col z hz
  exact int_wf z (by omega) (by omega)
theorem Ou.row {w wr : World} {ds : List Dp} {zs ys : List Int} {a : Option Addr} {m c : Nat} (h : Ou w wr ds zs ys a m c) : IsRow .i64 wr a m c ys := by
  obtain ⟨a', c', e, hr⟩ := isRow_own h.own h.wf
  cases e
  exact hr
theorem Ou.form {w wr : World} {ds : List Dp} {zs ys : List Int} {a : Option Addr} {m c : Nat} (h : Ou w wr ds zs ys a m c) : (m = 0 ∧ a = none ∧ c = 0) ∨ ∃ g, a = some ⟨g, 0, none⟩ := by
  rcases h.own.2 with ⟨hv, rfl⟩ | ⟨g, cap', cur, hv, _⟩
  · simp only [Value.slice.injEq] at hv
    exact Or.inl ⟨rfl, hv.1, hv.2.2⟩
  · simp only [Value.slice.injEq] at hv
    exact Or.inr ⟨g, hv.1⟩
theorem Ou.put {w wr w' : World} {ds : List Dp} {zs ys : List Int} {a a' : Option Addr} {m c m' c' : Nat} {z : Int} (h : Ou w wr ds zs ys a m c) (hz : 0 ≤ z ∧ z < 6) (hc : Cl ds (fun z => z ∈ zs) z)
    (hp : (a' = a ∧ m' = m ∧ c' = c ∧ w' = wr ∧ putN z ys = ys) ∨ (w'.ownsRow wr.heap.size 3 1 (.slice a' m' c') m' (ints .i64 (putN z ys)) ∧ m' ≤ m + 1)) (hb : Below wr.heap.size wr w') : Ou w w' ds zs (putN z ys) a' m' c' := by
  rcases hp with ⟨rfl, rfl, rfl, rfl, e⟩ | ⟨ho, _⟩
  · rw [e]; exact h
  · refine ⟨own_base ho h.low.size, up_putN h.up, fun x hx => ?_, fun x hx => mem_putN.2 (Or.inr (h.sub x hx)), fun x hx => ?_, Frame.next h.low hb h.low.size⟩
    · rcases mem_putN.1 hx with rfl | hx
      · exact hz
      · exact h.col x hx
    · rcases mem_putN.1 hx with rfl | hx
      · exact hc
      · exact h.cl x hx
theorem listI_count (f : Nat → Bool) : (listI f).length = (List.range 6).countP f := by
  unfold listI
  rw [List.length_map, List.countP_eq_length_filter]
theorem more_len {ys ys' : List Int} (hu : UpN ys) (hu' : UpN ys') (hc : ∀ z ∈ ys, 0 ≤ z ∧ z < 6) (hc' : ∀ z ∈ ys', 0 ≤ z ∧ z < 6) (hs : ∀ z ∈ ys, z ∈ ys') {x : Int} (hx : x ∈ ys') (hn : x ∉ ys) : ys.length < ys'.length := by
  rw [listI_of hu hc, listI_of hu' hc', listI_count, listI_count]
  have := hc' x hx
  refine Csc.countP_lt _ (fun i _ h => decide_eq_true (hs _ (of_decide_eq_true h))) ⟨x.toNat, List.mem_range.2 (by omega), ?_, ?_⟩
  · rw [decide_eq_true_eq, show ((x.toNat : Nat) : Int) = x by omega]; exact hx
  · rw [decide_eq_false_iff_not, show ((x.toNat : Nat) : Int) = x by omega]; exact hn
def lenV : Value → Nat
  | .slice _ n _ => n
  | _ => 0
def oneV : Value → Nat
  | .bool true => 1
  | _ => 0

set_option maxRecDepth 4000 in
set_option maxHeartbeats 6400000 in
theorem l5Closure (v : Value) (za : Option Addr) (zn zc : Nat) (ds : List Dp) (zs : List Int) (w : World) (h : DIs w v ds) (hz : IsRow .i64 w za zn zc zs) (hC : Cols ds) (hU : UpN zs) (h6 : ∀ z ∈ zs, 0 ≤ z ∧ z < 6) :
    Calls Try.prog 27 #[v, .slice za zn zc] w fun e w' => ∃ u, e = .returned u ∧ IOwn w' w.heap.size w'.heap.size u (clL ds zs) ∧ Below w.heap.size w w' := by
  obtain ⟨i0, hi, hz0, hz1, hz2⟩ := info_parts Ints.info
  obtain ⟨a, n, cap, rs, rfl, hg, rfl, hsz⟩ := h
  have hs := small_ds hsz
  have hn := hs.1
  have HS : Hid (∀ r ∈ rs, r.n ≤ 1048576) := hs.2
  have HL : Hid ((dpl rs).length = n) := dpl_length n rs hg.len
  have HI : Hid (IsG w a n cap rs) := hg
  have HC : Hid (Cols (dpl rs)) := hC
  have HZ : Hid (IsRow .i64 w za zn zc zs) := hz
  have HU : Hid (UpN zs) := hU
  have H6 : Hid (∀ z ∈ zs, 0 ≤ z ∧ z < 6) := h6
  have hzn : zn ≤ 6 := by rw [← hz.len]; exact up_length hU h6
  have O1 : Hid ((w.alloc (.cells #[] 3)).ownsRow w.heap.size 3 1 (.slice (some ⟨w.heap.size, 0, none⟩) 0 0) 0 []) := own_zero w _ _ _ _ rfl (Nat.le_refl _)
  have B1 : Hid (Below w.heap.size w (w.alloc (.cells #[] 3))) := (Below.refl _ _).alloc (Nat.le_refl _) _
  have S1 : Hid (0 < zn → ∃ ad, za = some ad ∧ ∀ j u, (ints .i64 zs)[j]? = some u → (w.alloc (.cells #[] 3)).cell? (ad.add j) = some u) := news_row (IsRow.below hz B1.out)
  have L1 : Hid ((ints .i64 zs).length = zn * 1) := by show _ = _; rw [ints_length, hz.len]; omega
  clear hg hsz hs hC hz hU h6
  go_enter Try.func27, Try.ntmps27
  go_wp2_with (at_builtin; refine App.wpList_append_all _ rfl _ _ 34 rfl w.heap.size 3 i0 (.int .i64 0) 1 8 Try.underlying34 hi hz0 hz1 hz2 rfl (by decide) _ _ _ rfl O1.out _ zn _ (ints .i64 zs) rfl L1.out S1.out (one_int _) (by unfold maxLen; omega) (by omega) B1.out.size ?_)
  intro a2 c2 w2 hown2 hgrow2
  have OU : Hid (Ou w w2 (dpl rs) zs zs a2 zn c2) := ⟨by simpa using hown2, HU.out, H6.out, fun _ h => h, fun _ h => Cl.base h, below_app B1.out O1.out hgrow2 B1.out.size (Nat.le_refl _)⟩
  clear hown2 hgrow2 O1 B1 S1 L1
  go_wp2_with fail
  go_loopw [5, 6] (fun v b wr => ∃ (ys : List Int) (a1 : Option Addr) (m1 c1 : Nat) (mo : Bool), v = .slice a1 m1 c1 ∧ b = .bool mo ∧ Ou w wr (dpl rs) zs ys a1 m1 c1 ∧ (mo = false → ∀ d ∈ dpl rs, (∀ x ∈ d.1, x ∈ ys) → ∀ z ∈ d.2, z ∈ ys)) (fun v b _ => 2 * (6 - lenV v) + oneV b)
  case atStart => exact ⟨zs, a2, zn, c2, true, rfl, rfl, OU.out, fun h => (by cases h)⟩
  case round =>
    obtain ⟨ys, a1, m1, c1, mo, rfl, rfl, hou, hsh⟩ := hrel
    have HO : Hid (Ou w wr (dpl rs) zs ys a1 m1 c1) := hou
    have hm6 := hou.six
    have hlen := hou.len
    clear OU hou
    cases mo
    · have FE : Hid (ys = clL (dpl rs) zs) := upN_told HO.out.up (up_listI _) (fun s => by
        show s ∈ ys ↔ s ∈ clL (dpl rs) zs
        rw [mem_clL HC.out H6.out]
        exact ⟨HO.out.cl s, Cl.least HO.out.sub (fun d hd hf z hz => hsh rfl d hd hf z hz)⟩)
      have FO : Hid (IOwn wr w.heap.size wr.heap.size (.slice a1 m1 c1) ys) := iOwn_of HO.out.own HO.out.wf (by omega)
      clear hsh hlen
      go_wp2
      go_ret
      exact ⟨_, rfl, by rw [← FE.out]; exact FO.out, HO.out.low⟩
    · have LEN : Hid (ys.length = m1) := hlen
      clear hsh hlen
      go_wp2_with fail
      go_loopw [5, 6, 17] (fun v b i wr => ∃ (k : Nat) (xs : List Int) (a3 : Option Addr) (m3 c3 : Nat) (mo : Bool), k ≤ n ∧ i = .int .i64 k ∧ v = .slice a3 m3 c3 ∧ b = .bool mo ∧ Ou w wr (dpl rs) zs xs a3 m3 c3 ∧ (∀ z ∈ ys, z ∈ xs) ∧ (mo = false → xs = ys ∧ ∀ d ∈ (dpl rs).take k, (∀ x ∈ d.1, x ∈ ys) → ∀ z ∈ d.2, z ∈ ys) ∧ (mo = true → ys.length < xs.length)) (fun _ _ i _ => n - (intOf i).toNat)
      case atStart => exact ⟨0, ys, a1, m1, c1, false, Nat.zero_le _, rfl, rfl, rfl, HO.out, fun _ h => h, fun _ => ⟨rfl, fun d hd => (by cases hd)⟩, fun h => (by cases h)⟩
      case round =>
        obtain ⟨k, xs, a3, m3, c3, mo, hk, rfl, rfl, rfl, hou, hys, hfa, htr⟩ := hrel
        have HX : Hid (Ou w wr (dpl rs) zs xs a3 m3 c3) := hou
        have HYS : Hid (∀ z ∈ ys, z ∈ xs) := hys
        have HFA : Hid (mo = false → xs = ys ∧ ∀ d ∈ (dpl rs).take k, (∀ x ∈ d.1, x ∈ ys) → ∀ z ∈ d.2, z ∈ ys) := hfa
        have HTR : Hid (mo = true → ys.length < xs.length) := htr
        have hsr := hou.low.size
        clear hys hfa htr
        by_cases hlt : k < n
        · obtain ⟨b, off, fa, fn, fc, ta, tn, tc, d, rfl, p0, p1, he, hd⟩ := Dga.dep_at HI.out hou.low hlt HS.out
          have hkl : k < (dpl rs).length := by rw [HL.out]; exact hlt
          have hmem : d ∈ dpl rs := by rw [← hd]; simp only [List.getD, List.getElem?_eq_getElem hkl, Option.getD_some]; exact List.getElem_mem hkl
          have HCD : Hid ((∀ z ∈ d.1, 0 ≤ z ∧ z < 6) ∧ ∀ z ∈ d.2, 0 ≤ z ∧ z < 6) := HC.out d hmem
          have HMEM : Hid (d ∈ dpl rs) := hmem
          have HTK : Hid ((dpl rs).take (k + 1) = (dpl rs).take k ++ [d]) := by show _ = _; rw [dp_take_succ hkl, hd]
          have b1 : Below wr.heap.size wr (wr.alloc (.cells #[.slice fa fn fc, .slice ta tn tc] 36)) := (Below.refl _ _).alloc (Nat.le_refl _) _
          have HOV : Hid (Ou w (wr.alloc (.cells #[.slice fa fn fc, .slice ta tn tc] 36)) (dpl rs) zs xs a3 m3 c3) := hou.below b1
          obtain ⟨⟨_, _, _, ef, hrf, hfn⟩, ⟨_, _, _, et, hrt, htn⟩⟩ := eIs_below he b1
          cases ef
          cases et
          have RF : Hid (IsRow .i64 (wr.alloc (.cells #[.slice fa fn fc, .slice ta tn tc] 36)) fa fn fc d.1) := hrf
          have RT : Hid (IsRow .i64 (wr.alloc (.cells #[.slice fa fn fc, .slice ta tn tc] 36)) ta tn tc d.2) := hrt
          clear hou he hd hkl hmem hrf hrt b1
          go_wp2_with fail
          refine (l5Sub _ _ _ _ _ _ d.1 xs _ RF.out HOV.out.row).mono ?_
          rintro e w3 ⟨rfl, rfl⟩
          cases hF : insideB d.1 xs
          · have FF : Hid (mo = false → xs = ys ∧ ∀ d ∈ (dpl rs).take (k + 1), (∀ x ∈ d.1, x ∈ ys) → ∀ z ∈ d.2, z ∈ ys) := fun hm => by
              obtain ⟨e1, e2⟩ := HFA.out hm
              refine ⟨e1, fun d' hd' hx => ?_⟩
              rw [HTK.out] at hd'
              rcases List.mem_append.1 hd' with hd' | hd'
              · exact e2 d' hd' hx
              · rw [List.mem_singleton.1 hd'] at hx
                have : insideB d.1 xs = true := insideB_iff.2 (by rw [e1]; exact hx)
                rw [hF] at this
                cases this
            clear hF
            go_wp2
            go_roundw
            case rel => exact ⟨k + 1, xs, a3, m3, c3, mo, by omega, by go_num, rfl, rfl, HOV.out, HYS.out, FF.out, HTR.out⟩
            case measure => simp [intOf]; omega
          · have HFI : Hid (insideB d.1 xs = true) := hF
            clear hF
            go_wp2_with fail
            refine (l5Sub _ _ _ _ _ _ d.2 xs _ RT.out HOV.out.row).mono ?_
            rintro e w3 ⟨rfl, rfl⟩
            cases hT : insideB d.2 xs
            · have HTN : Hid (insideB d.2 xs = false) := hT
              have HCLZ : Hid (∀ z ∈ d.2, Cl (dpl rs) (fun z => z ∈ zs) z) := fun z hz => Cl.step HMEM.out (fun x hx => HOV.out.cl x (insideB_iff.1 HFI.out x hx)) hz
              have HXL : Hid (ys.length ≤ xs.length) := by
                cases mo
                · rw [(HFA.out rfl).1]; exact Nat.le_refl _
                · exact Nat.le_of_lt (HTR.out rfl)
              clear hT
              go_wp2_with fail
              go_loopw [5, 35] (fun v i wr => ∃ (j : Nat) (us : List Int) (a4 : Option Addr) (m4 c4 : Nat), j ≤ tn ∧ i = .int .i64 j ∧ v = .slice a4 m4 c4 ∧ Ou w wr (dpl rs) zs us a4 m4 c4 ∧ (∀ z ∈ xs, z ∈ us) ∧ (∀ z ∈ d.2.take j, z ∈ us) ∧ ∃ V, IsRow .i64 V ta tn tc d.2 ∧ Below V.heap.size V wr) (fun _ i _ => tn - (intOf i).toNat)
              case atStart => exact ⟨0, xs, a3, m3, c3, Nat.zero_le _, rfl, rfl, HOV.out, fun _ h => h, fun z hz => (by simp at hz), _, RT.out, Below.refl _ _⟩
              case round =>
                obtain ⟨j, us, a4, m4, c4, hj, rfl, rfl, hou, hxu, htu, V, hrv, hbv⟩ := hrel
                have HU4 : Hid (Ou w wr (dpl rs) zs us a4 m4 c4) := hou
                have HXU : Hid (∀ z ∈ xs, z ∈ us) := hxu
                have HTU : Hid (∀ z ∈ d.2.take j, z ∈ us) := htu
                have HR4 : Hid (IsRow .i64 wr ta tn tc d.2) := IsRow.below hrv hbv
                have hm4 := hou.six
                have hlen4 : d.2.length = tn := hrv.len
                clear hou hxu htu hrv hbv V
                by_cases hjt : j < tn
                · obtain ⟨tb, toff, rfl, htbl, htc⟩ := HR4.out.cells (by omega)
                  have hck := htc j hjt
                  have hjl : j < d.2.length := by omega
                  have HZM : Hid (d.2.getD j 0 ∈ d.2) := getD_mem hjl
                  have HTK2 : Hid (d.2.take (j + 1) = d.2.take j ++ [d.2.getD j 0]) := take_succ_getD hjl
                  have hwf := HR4.out.wf _ (getD_mem hjl)
                  generalize d.2.getD j 0 = x at hck HZM HTK2 hwf
                  have HWF : Hid ((Lit.int .i64 x).wf = true) := hwf
                  clear htc htbl hjl hwf hlen4
                  go_wp2_with fail
                  refine (Spo.spec_l1Put a4 m4 c4 us x _ HU4.out.row HU4.out.form (by omega) HWF.out).mono ?_
                  rintro e w5 ⟨a5, m5, c5, rfl, hp5, hb5⟩
                  have HU5 : Hid (Ou w w5 (dpl rs) zs (putN x us) a5 m5 c5) := HU4.out.put (HCD.out.2 x HZM.out) (HCLZ.out x HZM.out) hp5 hb5
                  have HR5 : Hid (IsRow .i64 w5 (some ⟨tb, toff, none⟩) tn tc d.2) := IsRow.below HR4.out hb5
                  have F1 : Hid (∀ z ∈ xs, z ∈ putN x us) := fun z hz => mem_putN.2 (Or.inr (HXU.out z hz))
                  have F2 : Hid (∀ z ∈ d.2.take (j + 1), z ∈ putN x us) := fun z hz => by
                    rw [HTK2.out, List.mem_append, List.mem_singleton] at hz
                    rcases hz with hz | hz
                    · exact mem_putN.2 (Or.inr (HTU.out z hz))
                    · exact mem_putN.2 (Or.inl hz)
                  clear hp5 hb5 hck
                  go_wp2
                  go_roundw
                  case rel => exact ⟨j + 1, putN x us, a5, m5, c5, by omega, by go_num, rfl, HU5.out, F1.out, F2.out, _, HR5.out, Below.refl _ _⟩
                  case measure => simp [intOf]; omega
                · have FT : Hid (∀ z ∈ d.2, z ∈ us) := by
                    have h := HTU.out
                    rwa [List.take_of_length_le (by omega)] at h
                  have FL : Hid (ys.length < us.length) := by
                    obtain ⟨x, hx, hnx⟩ : ∃ x ∈ d.2, x ∉ xs := by
                      apply Classical.byContradiction
                      intro hno
                      have : insideB d.2 xs = true := insideB_iff.2 (fun z hz => Classical.byContradiction (fun hzn => hno ⟨z, hz, hzn⟩))
                      rw [HTN.out] at this
                      cases this
                    exact Nat.lt_of_le_of_lt HXL.out (more_len HX.out.up HU4.out.up HX.out.col HU4.out.col HXU.out (FT.out x hx) hnx)
                  clear hlen4
                  go_wp2
                  go_roundw
                  case rel => exact ⟨k + 1, us, a4, m4, c4, true, by omega, by go_num, rfl, rfl, HU4.out, fun z hz => HXU.out z (HYS.out z hz), fun h => (by cases h), fun _ => FL.out⟩
                  case measure => simp [intOf]; omega
            · have FF : Hid (mo = false → xs = ys ∧ ∀ d ∈ (dpl rs).take (k + 1), (∀ x ∈ d.1, x ∈ ys) → ∀ z ∈ d.2, z ∈ ys) := fun hm => by
                obtain ⟨e1, e2⟩ := HFA.out hm
                refine ⟨e1, fun d' hd' hx => ?_⟩
                rw [HTK.out] at hd'
                rcases List.mem_append.1 hd' with hd' | hd'
                · exact e2 d' hd' hx
                · rw [List.mem_singleton.1 hd', ← e1]
                  exact insideB_iff.1 hT
              clear hT
              go_wp2
              go_roundw
              case rel => exact ⟨k + 1, xs, a3, m3, c3, mo, by omega, by go_num, rfl, rfl, HOV.out, HYS.out, FF.out, HTR.out⟩
              case measure => simp [intOf]; omega
        · have hm3 := hou.six
          have hl3 := hou.len
          have FS : Hid (mo = false → ∀ d ∈ dpl rs, (∀ x ∈ d.1, x ∈ xs) → ∀ z ∈ d.2, z ∈ xs) := fun hm => by
            obtain ⟨e1, e2⟩ := HFA.out hm
            rw [List.take_of_length_le (by rw [HL.out]; omega)] at e2
            rw [e1]
            exact e2
          have FM : Hid (2 * (6 - m3) + oneV (.bool mo) < 2 * (6 - m1) + 1) := by
            have e := LEN.out
            cases mo
            · have := (HFA.out rfl).1
              rw [this] at hl3
              show _ < _
              simp only [oneV]
              omega
            · have := HTR.out rfl
              show _ < _
              simp only [oneV]
              omega
          clear hou hl3
          go_wp2
          go_roundw
          case rel => exact ⟨xs, a3, m3, c3, mo, rfl, rfl, HX.out, FS.out⟩
          case measure => simpa [lenV, oneV] using FM.out


end Go.Proofs.Ytekheacbmbbpmaa.Ssc
