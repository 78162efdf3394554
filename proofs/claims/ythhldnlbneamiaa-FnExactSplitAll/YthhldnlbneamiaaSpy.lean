/-
  Lists of columns in the model: contracts of l6Both, l6Less, l6Either, l6Part.
-/
import Derived.Test.YthhldnlbneamiaaSpx
import Derived.Test.YthhldnlbneamiaaSsd
namespace Go.Proofs.Ythhldnlbneamiaa.Spy
open Go.RowKit
open Go.Proofs.Ythhldnlbneamiaa.Frame Go.Proofs.Ythhldnlbneamiaa.Mem Go.Proofs.Ythhldnlbneamiaa.Ints Go.Proofs.Ythhldnlbneamiaa.Kep Go.Proofs.Ythhldnlbneamiaa.Lls Go.Proofs.Ythhldnlbneamiaa.Mis Go.Proofs.Ythhldnlbneamiaa.Dls Go.Proofs.Ythhldnlbneamiaa.Dlk Go.Proofs.Ythhldnlbneamiaa.Csa Go.Proofs.Ythhldnlbneamiaa.Csd Go.Proofs.Ythhldnlbneamiaa.Ssc Go.Proofs.Ythhldnlbneamiaa.Spx
open Go.Proofs.Ythhldnlbneamiaa.Rel hiding Ll
open Go.Proofs.Ythhldnlbneamiaa.Cpu hiding Dp

set_option maxRecDepth 4000 in
set_option maxHeartbeats 3200000 in
theorem l6Both (a b : Option Addr) (n m ca cb : Nat) (xs zs : List Int) (w : World) (ha : IsRow .i64 w a n ca xs) (hb : IsRow .i64 w b m cb zs) (hn : n ≤ 1048576) :
    Calls Try.prog 115 #[.slice a n ca, .slice b m cb] w fun e w' => ∃ u, e = .returned u ∧ IOwn w' w.heap.size w'.heap.size u (bothL xs zs) ∧ Below w.heap.size w w' := by
  obtain ⟨i0, hi, hz0, hz1, hz2⟩ := info_parts Ints.info
  have HA : Hid (IsRow .i64 w a n ca xs) := ha
  have HB : Hid (IsRow .i64 w b m cb zs) := hb
  have LA : Hid (xs.length = n) := ha.len
  clear ha hb
  go_enter Try.func115, Try.ntmps115
  go_wp2_with fail
  go_loopw [5, 10] (fun o i wr => ∃ (k j : Nat) (a' : Option Addr) (c' : Nat), k ≤ n ∧ j ≤ k ∧ i = .int .i64 k ∧ o = .slice a' j c' ∧ wr.ownsRow w.heap.size 3 1 (.slice a' j c') j (ints .i64 (bothL (xs.take k) zs)) ∧ Below w.heap.size w wr) (fun _ i _ => n - (intOf i).toNat)
  case atStart => exact ⟨0, 0, none, 0, Nat.zero_le _, Nat.le_refl _, rfl, rfl, World.ownsRow_nil _ _ _ _, Below.refl _ _⟩
  case round =>
    obtain ⟨k, j, a', c', hk, hj, rfl, rfl, ho, hnx⟩ := hrel
    have HO : Hid (wr.ownsRow w.heap.size 3 1 (.slice a' j c') j (ints .i64 (bothL (xs.take k) zs))) := ho
    have HNX : Hid (Below w.heap.size w wr) := hnx
    have hsr := hnx.size
    clear ho
    by_cases hlt : k < n
    · obtain ⟨c, off, rfl, hbl, hc⟩ := HA.out.cells (by omega)
      have hkl : k < xs.length := by rw [LA.out]; exact hlt
      have p0 : wr.cell? ⟨c, off + k, none⟩ = some (.int .i64 (xs.getD k 0)) := by rw [hnx.cell (p := ⟨c, off + k, none⟩) hbl]; exact hc k hlt
      have hts := take_succ_getD hkl
      have HX : Hid ((decide (xs.getD k 0 ∈ zs) = false → bothL (xs.take (k + 1)) zs = bothL (xs.take k) zs) ∧ (decide (xs.getD k 0 ∈ zs) = true → ints .i64 (bothL (xs.take (k + 1)) zs) = ints .i64 (bothL (xs.take k) zs) ++ [.int .i64 (xs.getD k 0)])) :=
        ⟨fun e => by rw [hts]; exact bothL_no e, fun e => by rw [hts, bothL_yes e]; unfold ints; rw [List.map_append]; rfl⟩
      generalize xs.getD k 0 = x at p0 HX
      clear hc hkl hts hnx hbl
      go_wp2_with fail
      refine (l1Has _ _ _ zs x _ (IsRow.below HB.out HNX.out)).mono ?_
      rintro e w' ⟨rfl, hww⟩
      obtain rfl := hww.symm
      clear hww p0
      cases hv : decide (x ∈ zs)
      · have O2 : Hid (wr.ownsRow w.heap.size 3 1 (.slice a' j c') j (ints .i64 (bothL (xs.take (k + 1)) zs))) := by show World.ownsRow _ _ _ _ _ _ _; rw [HX.out.1 hv]; exact HO.out
        clear HX hv
        go_wp2
        go_roundw
        case rel => exact ⟨k + 1, j, a', c', by omega, by omega, by go_num, rfl, O2.out, HNX.out⟩
        case measure => simp [intOf]; omega
      · have HE : Hid (ints .i64 (bothL (xs.take (k + 1)) zs) = ints .i64 (bothL (xs.take k) zs) ++ [.int .i64 x]) := HX.out.2 hv
        have HO2 : Hid ((wr.alloc (.cells #[.int .i64 x] 3)).ownsRow w.heap.size 3 1 (.slice a' j c') j (ints .i64 (bothL (xs.take k) zs))) := own_below HO.out ((Below.refl _ _).alloc (Nat.le_refl _) _)
        have HN2 : Hid (Below w.heap.size w (wr.alloc (.cells #[.int .i64 x] 3))) := HNX.out.alloc hsr _
        have S2 : Hid (0 < 1 → ∃ ad, (some ⟨wr.heap.size, 0, none⟩ : Option Addr) = some ad ∧ ∀ j u, ([.int .i64 x] : List Value)[j]? = some u → (wr.alloc (.cells #[.int .i64 x] 3)).cell? (ad.add j) = some u) := news_one wr _ _
        clear HX hv
        go_wp2_with (at_builtin; refine App.wpList_append_all _ rfl _ _ 24 rfl w.heap.size 3 i0 (.int .i64 0) 1 8 Try.underlying24 hi hz0 hz1 hz2 rfl (by decide) _ _ _ rfl HO2.out _ 1 _ [.int .i64 x] rfl rfl S2.out (by simp [Value.oneCell']) (by unfold maxLen; omega) (by omega) HN2.out.size ?_)
        intro a3 c3 w3 hown3 hgrow3
        have O3 : Hid (w3.ownsRow w.heap.size 3 1 (.slice a3 (j + 1) c3) (j + 1) (ints .i64 (bothL (xs.take (k + 1)) zs))) := by show World.ownsRow _ _ _ _ _ _ _; rw [HE.out]; exact hown3
        have HN3 : Hid (Below w.heap.size w w3) := below_app HN2.out HO2.out hgrow3 HN2.out.size (Nat.le_refl _)
        clear hown3 hgrow3
        go_wp2
        go_roundw
        case rel => exact ⟨k + 1, j + 1, a3, c3, by omega, by omega, by go_num, rfl, O3.out, HN3.out⟩
        case measure => simp [intOf]; omega
    · have HO2 : Hid (IOwn wr w.heap.size wr.heap.size (.slice a' j c') (bothL xs zs)) := by
        have h := HO.out
        rw [List.take_of_length_le (by rw [LA.out]; omega)] at h
        exact iOwn_of h (fun z hz => HA.out.wf z ((List.mem_filter.1 hz).1)) (by omega)
      clear hnx
      go_wp2
      go_ret
      exact ⟨_, rfl, HO2.out, HNX.out⟩

set_option maxRecDepth 4000 in
set_option maxHeartbeats 3200000 in
theorem l6Less (a b : Option Addr) (n m ca cb : Nat) (xs zs : List Int) (w : World) (ha : IsRow .i64 w a n ca xs) (hb : IsRow .i64 w b m cb zs) (hn : n ≤ 1048576) :
    Calls Try.prog 108 #[.slice a n ca, .slice b m cb] w fun e w' => ∃ u, e = .returned u ∧ IOwn w' w.heap.size w'.heap.size u (lessC xs zs) ∧ Below w.heap.size w w' := by
  obtain ⟨i0, hi, hz0, hz1, hz2⟩ := info_parts Ints.info
  have HA : Hid (IsRow .i64 w a n ca xs) := ha
  have HB : Hid (IsRow .i64 w b m cb zs) := hb
  have LA : Hid (xs.length = n) := ha.len
  clear ha hb
  go_enter Try.func108, Try.ntmps108
  go_wp2_with fail
  go_loopw [5, 10] (fun o i wr => ∃ (k j : Nat) (a' : Option Addr) (c' : Nat), k ≤ n ∧ j ≤ k ∧ i = .int .i64 k ∧ o = .slice a' j c' ∧ wr.ownsRow w.heap.size 3 1 (.slice a' j c') j (ints .i64 (lessC (xs.take k) zs)) ∧ Below w.heap.size w wr) (fun _ i _ => n - (intOf i).toNat)
  case atStart => exact ⟨0, 0, none, 0, Nat.zero_le _, Nat.le_refl _, rfl, rfl, World.ownsRow_nil _ _ _ _, Below.refl _ _⟩
  case round =>
    obtain ⟨k, j, a', c', hk, hj, rfl, rfl, ho, hnx⟩ := hrel
    have HO : Hid (wr.ownsRow w.heap.size 3 1 (.slice a' j c') j (ints .i64 (lessC (xs.take k) zs))) := ho
    have HNX : Hid (Below w.heap.size w wr) := hnx
    have hsr := hnx.size
    clear ho
    by_cases hlt : k < n
    · obtain ⟨c, off, rfl, hbl, hc⟩ := HA.out.cells (by omega)
      have hkl : k < xs.length := by rw [LA.out]; exact hlt
      have p0 : wr.cell? ⟨c, off + k, none⟩ = some (.int .i64 (xs.getD k 0)) := by rw [hnx.cell (p := ⟨c, off + k, none⟩) hbl]; exact hc k hlt
      have hts := take_succ_getD hkl
      have HX : Hid ((decide (xs.getD k 0 ∈ zs) = true → lessC (xs.take (k + 1)) zs = lessC (xs.take k) zs) ∧ (decide (xs.getD k 0 ∈ zs) = false → ints .i64 (lessC (xs.take (k + 1)) zs) = ints .i64 (lessC (xs.take k) zs) ++ [.int .i64 (xs.getD k 0)])) :=
        ⟨fun e => by rw [hts]; exact lessC_no e, fun e => by rw [hts, lessC_yes e]; unfold ints; rw [List.map_append]; rfl⟩
      generalize xs.getD k 0 = x at p0 HX
      clear hc hkl hts hnx hbl
      go_wp2_with fail
      refine (l1Has _ _ _ zs x _ (IsRow.below HB.out HNX.out)).mono ?_
      rintro e w' ⟨rfl, hww⟩
      obtain rfl := hww.symm
      clear hww p0
      cases hv : decide (x ∈ zs)
      · have HE : Hid (ints .i64 (lessC (xs.take (k + 1)) zs) = ints .i64 (lessC (xs.take k) zs) ++ [.int .i64 x]) := HX.out.2 hv
        have HO2 : Hid ((wr.alloc (.cells #[.int .i64 x] 3)).ownsRow w.heap.size 3 1 (.slice a' j c') j (ints .i64 (lessC (xs.take k) zs))) := own_below HO.out ((Below.refl _ _).alloc (Nat.le_refl _) _)
        have HN2 : Hid (Below w.heap.size w (wr.alloc (.cells #[.int .i64 x] 3))) := HNX.out.alloc hsr _
        have S2 : Hid (0 < 1 → ∃ ad, (some ⟨wr.heap.size, 0, none⟩ : Option Addr) = some ad ∧ ∀ j u, ([.int .i64 x] : List Value)[j]? = some u → (wr.alloc (.cells #[.int .i64 x] 3)).cell? (ad.add j) = some u) := news_one wr _ _
        clear HX hv
        go_wp2_with (at_builtin; refine App.wpList_append_all _ rfl _ _ 24 rfl w.heap.size 3 i0 (.int .i64 0) 1 8 Try.underlying24 hi hz0 hz1 hz2 rfl (by decide) _ _ _ rfl HO2.out _ 1 _ [.int .i64 x] rfl rfl S2.out (by simp [Value.oneCell']) (by unfold maxLen; omega) (by omega) HN2.out.size ?_)
        intro a3 c3 w3 hown3 hgrow3
        have O3 : Hid (w3.ownsRow w.heap.size 3 1 (.slice a3 (j + 1) c3) (j + 1) (ints .i64 (lessC (xs.take (k + 1)) zs))) := by show World.ownsRow _ _ _ _ _ _ _; rw [HE.out]; exact hown3
        have HN3 : Hid (Below w.heap.size w w3) := below_app HN2.out HO2.out hgrow3 HN2.out.size (Nat.le_refl _)
        clear hown3 hgrow3
        go_wp2
        go_roundw
        case rel => exact ⟨k + 1, j + 1, a3, c3, by omega, by omega, by go_num, rfl, O3.out, HN3.out⟩
        case measure => simp [intOf]; omega
      · have O2 : Hid (wr.ownsRow w.heap.size 3 1 (.slice a' j c') j (ints .i64 (lessC (xs.take (k + 1)) zs))) := by show World.ownsRow _ _ _ _ _ _ _; rw [HX.out.1 hv]; exact HO.out
        clear HX hv
        go_wp2
        go_roundw
        case rel => exact ⟨k + 1, j, a', c', by omega, by omega, by go_num, rfl, O2.out, HNX.out⟩
        case measure => simp [intOf]; omega
    · have HO2 : Hid (IOwn wr w.heap.size wr.heap.size (.slice a' j c') (lessC xs zs)) := by
        have h := HO.out
        rw [List.take_of_length_le (by rw [LA.out]; omega)] at h
        exact iOwn_of h (fun z hz => HA.out.wf z ((List.mem_filter.1 hz).1)) (by omega)
      clear hnx
      go_wp2
      go_ret
      exact ⟨_, rfl, HO2.out, HNX.out⟩

theorem eith_end {w wr : World} {xs zs ys : List Int} {a : Option Addr} {m c : Nat} (h : Ou w wr [([], zs)] xs ys a m c) (hx : InC xs) (hz : InC zs) (ha : ∀ z ∈ zs, z ∈ ys) : ys = eithL xs zs :=
  upN_told h.up (eith_up _ _) (fun s => by
    rw [mem_eith hx hz]
    constructor
    · intro hs
      exact Cl.least (p := fun z => z ∈ xs ∨ z ∈ zs) (fun z h => Or.inl h) (fun d hd _ z hz => by rw [List.mem_singleton.1 hd] at hz; exact Or.inr hz) (h.cl s hs)
    · rintro (hs | hs)
      · exact h.sub s hs
      · exact ha s hs)

set_option maxRecDepth 4000 in
set_option maxHeartbeats 3200000 in
theorem l6Either (a b : Option Addr) (n m ca cb : Nat) (xs zs : List Int) (w : World) (ha : IsRow .i64 w a n ca xs) (hb : IsRow .i64 w b m cb zs) (hU : UpN xs) (hX : InC xs) (hZ : InC zs) (hm : m ≤ 1048576) :
    Calls Try.prog 107 #[.slice a n ca, .slice b m cb] w fun e w' => ∃ u, e = .returned u ∧ IOwn w' w.heap.size w'.heap.size u (eithL xs zs) ∧ Below w.heap.size w w' := by
  obtain ⟨i0, hi, hz0, hz1, hz2⟩ := info_parts Ints.info
  have HB : Hid (IsRow .i64 w b m cb zs) := hb
  have LB : Hid (zs.length = m) := hb.len
  have HU : Hid (UpN xs) := hU
  have HX : Hid (InC xs) := hX
  have HZ : Hid (InC zs) := hZ
  have hn6 : n ≤ 6 := by rw [← ha.len]; exact up_length hU hX
  have O1 : Hid ((w.alloc (.cells #[] 3)).ownsRow w.heap.size 3 1 (.slice (some ⟨w.heap.size, 0, none⟩) 0 0) 0 []) := own_zero w _ _ _ _ rfl (Nat.le_refl _)
  have B1 : Hid (Below w.heap.size w (w.alloc (.cells #[] 3))) := (Below.refl _ _).alloc (Nat.le_refl _) _
  have S1 : Hid (0 < n → ∃ ad, a = some ad ∧ ∀ j u, (ints .i64 xs)[j]? = some u → (w.alloc (.cells #[] 3)).cell? (ad.add j) = some u) := news_row (IsRow.below ha B1.out)
  have L1 : Hid ((ints .i64 xs).length = n * 1) := by show _ = _; rw [ints_length, ha.len]; omega
  clear ha hb hU hX hZ
  go_enter Try.func107, Try.ntmps107
  go_wp2_with (at_builtin; refine App.wpList_append_all _ rfl _ _ 24 rfl w.heap.size 3 i0 (.int .i64 0) 1 8 Try.underlying24 hi hz0 hz1 hz2 rfl (by decide) _ _ _ rfl O1.out _ n _ (ints .i64 xs) rfl L1.out S1.out (one_int _) (by unfold maxLen; omega) (by omega) B1.out.size ?_)
  intro a2 c2 w2 hown2 hgrow2
  have OU : Hid (Ou w w2 [([], zs)] xs xs a2 n c2) := ⟨by simpa using hown2, HU.out, HX.out, fun _ h => h, fun _ h => Cl.base h, below_app B1.out O1.out hgrow2 B1.out.size (Nat.le_refl _)⟩
  clear hown2 hgrow2 O1 B1 S1 L1
  go_wp2_with fail
  go_loopw [5, 13] (fun v i wr => ∃ (k : Nat) (ys : List Int) (a4 : Option Addr) (m4 c4 : Nat), k ≤ m ∧ i = .int .i64 k ∧ v = .slice a4 m4 c4 ∧ Ou w wr [([], zs)] xs ys a4 m4 c4 ∧ ∀ z ∈ zs.take k, z ∈ ys) (fun _ i _ => m - (intOf i).toNat)
  case atStart => exact ⟨0, xs, a2, n, c2, Nat.zero_le _, rfl, rfl, OU.out, fun z hz => (by simp at hz)⟩
  case round =>
    obtain ⟨k, ys, a4, m4, c4, hk, rfl, rfl, hou, hin⟩ := hrel
    have HO : Hid (Ou w wr [([], zs)] xs ys a4 m4 c4) := hou
    have HIN : Hid (∀ z ∈ zs.take k, z ∈ ys) := hin
    have hm4 := hou.six
    clear OU hin
    by_cases hlt : k < m
    · obtain ⟨c, off, rfl, hbl, hc⟩ := HB.out.cells (by omega)
      have hkl : k < zs.length := by rw [LB.out]; exact hlt
      have p0 : wr.cell? ⟨c, off + k, none⟩ = some (.int .i64 (zs.getD k 0)) := by rw [hou.low.cell (p := ⟨c, off + k, none⟩) hbl]; exact hc k hlt
      have HM : Hid (zs.getD k 0 ∈ zs) := getD_mem hkl
      have HTS : Hid (zs.take (k + 1) = zs.take k ++ [zs.getD k 0]) := take_succ_getD hkl
      generalize zs.getD k 0 = x at p0 HM HTS
      have HW : Hid ((Lit.int .i64 x).wf = true) := HB.out.wf x HM.out
      clear hc hkl hou hbl
      go_wp2_with fail
      refine (Spo.spec_l1Put a4 m4 c4 ys x _ HO.out.row HO.out.form (by omega) HW.out).mono ?_
      rintro e w5 ⟨a5, m5, c5, rfl, hp5, hb5⟩
      have HO5 : Hid (Ou w w5 [([], zs)] xs (putN x ys) a5 m5 c5) := HO.out.put (HZ.out x HM.out) (Cl.step (List.mem_singleton.2 rfl) (fun _ h => (by cases h)) HM.out) hp5 hb5
      have F2 : Hid (∀ z ∈ zs.take (k + 1), z ∈ putN x ys) := fun z hz => by
        rw [HTS.out, List.mem_append, List.mem_singleton] at hz
        rcases hz with hz | hz
        · exact mem_putN.2 (Or.inr (HIN.out z hz))
        · exact mem_putN.2 (Or.inl hz)
      clear hp5 hb5 p0
      go_wp2
      go_roundw
      case rel => exact ⟨k + 1, putN x ys, a5, m5, c5, by omega, by go_num, rfl, HO5.out, F2.out⟩
      case measure => simp [intOf]; omega
    · have FE : Hid (ys = eithL xs zs) := eith_end HO.out HX.out HZ.out (by have h := HIN.out; rwa [List.take_of_length_le (by rw [LB.out]; omega)] at h)
      have FO : Hid (IOwn wr w.heap.size wr.heap.size (.slice a4 m4 c4) ys) := iOwn_of HO.out.own HO.out.wf (by omega)
      clear hou
      go_wp2
      go_ret
      exact ⟨_, rfl, by rw [← FE.out]; exact FO.out, HO.out.low⟩

set_option maxHeartbeats 1600000 in
theorem l6PartG (cols : Int) (b : Option Addr) (m cap : Nat) (rs : List LV) (a : Option Addr) (n ca : Nat) (ps : List Int) (w : World) (hg : IsG w b m cap rs) (hm : m ≤ 1048576) (hr : ∀ r ∈ rs, r.n ≤ 1048576) (hp : IsRow .i64 w a n ca ps) :
    Calls Try.prog 111 #[.int .i64 cols, .slice b m cap, .slice a n ca] w fun e w' => e = .returned (.bool (closG cols (dpl rs) ps)) ∧ Below w.heap.size w w' := by
  have HD : Hid (IsG w b m cap rs) := hg
  have HR : Hid (∀ r ∈ rs, r.n ≤ 1048576) := hr
  have HP : Hid (IsRow .i64 w a n ca ps) := hp
  clear hg hr hp
  go_enter Try.func111, Try.ntmps111
  go_wp2_with fail
  refine (Dga.spec_GoodDepsG cols b m cap rs _ HD.out hm HR.out).mono ?_
  rintro e w1 ⟨rfl, hb1⟩
  have B1 : Hid (Below w.heap.size w w1) := hb1
  clear hb1
  cases hG : goodD cols (dpl rs)
  · have E : Hid (closG cols (dpl rs) ps = false) := by show _ = _; unfold closG; rw [hG]; rfl
    clear hG
    go_wp2
    go_ret
    exact ⟨ret_bool E.out.symm, B1.out⟩
  · have E : Hid (closG cols (dpl rs) ps = riseB 0 (cols - 1) ps) := by show _ = _; unfold closG; rw [hG]; rfl
    have hc1 := (cols_of hG).2.1
    have hc6 := (cols_of hG).2.2.1
    clear hG
    go_wp2_with fail
    refine (Sa.spec_l1Rising _ _ _ ps 0 (cols - 1) _ (IsRow.below HP.out B1.out)).mono ?_
    rintro e w2 ⟨rfl, hww⟩
    obtain rfl := hww.symm
    clear hww
    rw [← E.out]
    go_wp2
    go_ret
    exact ⟨rfl, B1.out⟩

theorem l6Part (cols : Int) (v : Value) (a : Option Addr) (n ca : Nat) (ds : List Dp) (ps : List Int) (w : World) (h : DIs w v ds) (hp : IsRow .i64 w a n ca ps) :
    Calls Try.prog 111 #[.int .i64 cols, v, .slice a n ca] w fun e w' => e = .returned (.bool (closG cols ds ps)) ∧ Below w.heap.size w w' := by
  obtain ⟨b, m, cap, rs, rfl, hg, rfl, hsz⟩ := h
  have hs := small_ds hsz
  exact l6PartG cols b m cap rs a n ca ps w hg hs.1 hs.2 hp


end Go.Proofs.Ythhldnlbneamiaa.Spy
