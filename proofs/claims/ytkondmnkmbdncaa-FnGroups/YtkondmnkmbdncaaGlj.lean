/-
  Contracts of Shrink, in the program: leadsInto, the closure, Shrink.
-/
import Derived.Test.YtkondmnkmbdncaaGpw
import Derived.Test.YtkondmnkmbdncaaGlh
namespace Go.Proofs.Ytkondmnkmbdncaa.Glj
open Go.RowKit
open Go.Proofs.Ytkondmnkmbdncaa.Frame Go.Proofs.Ytkondmnkmbdncaa.Mem Go.Proofs.Ytkondmnkmbdncaa.Ints Go.Proofs.Ytkondmnkmbdncaa.Kep Go.Proofs.Ytkondmnkmbdncaa.Lls Go.Proofs.Ytkondmnkmbdncaa.Mis Go.Proofs.Ytkondmnkmbdncaa.Gpu Go.Proofs.Ytkondmnkmbdncaa.Gpv Go.Proofs.Ytkondmnkmbdncaa.Gpw Go.Proofs.Ytkondmnkmbdncaa.Gld
open Go.Proofs.Ytkondmnkmbdncaa.Glb (own_row em_bool numbersBelow)
open Go.Proofs.Ytkondmnkmbdncaa.Glf (ls_push ownLs_base lOwn_nil)
open Go.Proofs.Ytkondmnkmbdncaa.Kpi (Enters enters kept_int)
open Go.Proofs.Ytkondmnkmbdncaa.Knl hiding Ll
open Go.Proofs.Ytkondmnkmbdncaa.Rel

set_option maxRecDepth 4000 in
theorem is_in (bo : Nat) (oa : Option Addr) (on oc : Nat) (h : List Int) (y : Int) (w : World) (hc : w.cell? ⟨bo, 0, none⟩ = some (.slice oa on oc)) (ho : IsRow .i64 w oa on oc h) (hn : on ≤ 1048576) (hu : UpN h) :
    Calls Try.prog 139 #[.int .i64 y, .pointer (some ⟨bo, 0, none⟩)] w fun e w' => e = .returned (.bool (decide (y ∈ h))) ∧ w' = w := by
  have HO : Hid (IsRow .i64 w oa on oc h) := ho
  have HU : Hid (UpN h) := hu
  clear ho hu
  go_enter Try.func139, Try.ntmps139
  go_wp2_with fail
  refine (Of.has_int oa on oc h y _ HO.out hn HU.out).mono ?_
  rintro e w' ⟨rfl, hw'⟩; have hw'' := hw'.symm; clear hw'; subst hw''
  go_wp2
  go_ret
  exact ⟨rfl, rfl⟩

set_option maxRecDepth 4000 in
set_option maxHeartbeats 800000 in
theorem node_into (bl bo : Nat) (la : Option Addr) (ln lc : Nat) (rs : List LV) (oa : Option Addr) (on oc : Nat) (h : List Int) (x : Nat) (w : World) (hx : x < ln) (hcl : w.cell? ⟨bl, 0, none⟩ = some (.slice la ln lc)) (hl : IsLs w la ln lc rs) (hc : w.cell? ⟨bo, 0, none⟩ = some (.slice oa on oc)) (ho : IsRow .i64 w oa on oc h) (hn : on ≤ 1048576) (hu : UpN h) :
    Calls Try.prog 138 #[.int .i64 (x : Int), .pointer (some ⟨bl, 0, none⟩), .pointer (some ⟨bo, 0, none⟩)] w fun e w' => e = .returned (.bool ((gRow (lplain rs) (x : Int)).any fun y => decide (y ∈ h))) ∧ Below w.heap.size w w' := by
  obtain ⟨b, off, qa, qn, qc, zs, rfl, p0, hrow, hge⟩ := row_of hl hx (Below.refl _ _)
  have HROW : Hid (IsRow .i64 w qa qn qc zs) := hrow
  have HO : Hid (IsRow .i64 w oa on oc h) := ho
  have HU : Hid (UpN h) := hu
  have HC : Hid (w.cell? ⟨bo, 0, none⟩ = some (.slice oa on oc)) := hc
  have HEN : Hid (Enters Try.prog 139) := enters Try.func139 (by kernel_rfl) rfl
  have hx0 : (0 : Int) ≤ (x : Int) := by omega
  have hxn : (x : Int) < (ln : Int) := by omega
  rw [hge]
  clear hl hc ho hu hrow hge
  go_enter Try.func138, Try.ntmps138
  go_wp2_with fail
  refine (contains_int qa qn qc zs 139 #[.pointer (some ⟨bo, 0, none⟩)] (fun y => decide (y ∈ h)) _ HROW.out HEN.out (fun z hz w1 hb1 => (is_in bo oa on oc h z w1 (Frame.held_cell hb1 HC.out) (IsRow.below HO.out hb1) hn HU.out).mono (by rintro e w6 ⟨rfl, rfl⟩; exact ⟨rfl, Below.refl _ _⟩))).mono ?_
  rintro e w1 ⟨rfl, hb1⟩
  have B1 : Hid (Below w.heap.size w w1) := hb1
  clear hb1 p0 hcl
  go_wp2
  go_ret
  exact ⟨rfl, B1.out⟩

set_option maxRecDepth 4000 in
set_option maxHeartbeats 800000 in
theorem leadsInto (la : Option Addr) (ln lc : Nat) (rs : List LV) (sa : Option Addr) (sn sc : Nat) (g : List Int) (oa : Option Addr) (on oc : Nat) (h : List Int) (w : World) (hl : IsLs w la ln lc rs) (hs : IsRow .i64 w sa sn sc g) (hg : ∀ z ∈ g, 0 ≤ z ∧ z < (ln : Int)) (ho : IsRow .i64 w oa on oc h) (hn : on ≤ 1048576) (hu : UpN h) :
    Calls Try.prog 100 #[.slice la ln lc, .slice sa sn sc, .slice oa on oc] w fun e w' => e = .returned (.bool (leadB (lplain rs) g h)) ∧ Below w.heap.size w w' := by
  have HI : Hid (IsLs w la ln lc rs) := hl
  have HS : Hid (IsRow .i64 w sa sn sc g) := hs
  have HG : Hid (∀ z ∈ g, 0 ≤ z ∧ z < (ln : Int)) := hg
  have HO : Hid (IsRow .i64 w oa on oc h) := ho
  have HU : Hid (UpN h) := hu
  have HEN : Hid (Enters Try.prog 138) := enters Try.func138 (by kernel_rfl) rfl
  have B0 : Hid (Below w.heap.size w ((w.alloc (.cells #[.slice la ln lc] 23)).alloc (.cells #[.slice oa on oc] 24))) := ((Below.refl _ _).alloc (Nat.le_refl _) _).alloc (by simp) _
  have K0 : Hid (((w.alloc (.cells #[.slice la ln lc] 23)).alloc (.cells #[.slice oa on oc] 24)).cell? ⟨w.heap.size, 0, none⟩ = some (.slice la ln lc) ∧ ((w.alloc (.cells #[.slice la ln lc] 23)).alloc (.cells #[.slice oa on oc] 24)).cell? ⟨w.heap.size + 1, 0, none⟩ = some (.slice oa on oc)) := by show _ ∧ _; exact ⟨by go_simp, by go_simp⟩
  clear hl hs hg ho hu
  go_enter Try.func100, Try.ntmps100
  go_wp2_with fail
  refine (contains_int sa sn sc g 138 #[.pointer (some ⟨w.heap.size, 0, none⟩), .pointer (some ⟨w.heap.size + 1, 0, none⟩)] (fun x => (gRow (lplain rs) x).any fun y => decide (y ∈ h)) _ (IsRow.below HS.out B0.out) HEN.out (fun z hz w1 hb1 => by
    obtain ⟨x, rfl⟩ : ∃ x : Nat, z = (x : Int) := ⟨z.toNat, by have := HG.out z hz; omega⟩
    exact node_into w.heap.size (w.heap.size + 1) la ln lc rs oa on oc h x w1 (by have := HG.out _ hz; omega) (Frame.held_cell hb1 K0.out.1) (IsLs.below HI.out (Frame.next B0.out hb1 B0.out.size)) (Frame.held_cell hb1 K0.out.2) (IsRow.below HO.out (Frame.next B0.out hb1 B0.out.size)) hn HU.out)).mono ?_
  rintro e w1 ⟨rfl, hb1⟩
  have B1 : Hid (Below w.heap.size w w1) := Frame.next B0.out hb1 B0.out.size
  clear hb1
  go_wp2
  go_ret
  exact ⟨rfl, B1.out⟩

set_option maxRecDepth 8000 in
set_option maxHeartbeats 1600000 in
theorem leads_ahead (bl bg bs : Nat) (la : Option Addr) (ln lc : Nat) (rs : List LV) (ga : Option Addr) (gn gc : Nat) (g : List Int) (sa : Option Addr) (sn sc : Nat) (qs : List LV) (k : Nat) (w : World) (hk : k < sn) (hcl : w.cell? ⟨bl, 0, none⟩ = some (.slice la ln lc)) (hl : IsLs w la ln lc rs) (hcg : w.cell? ⟨bg, 0, none⟩ = some (.slice ga gn gc)) (hg : IsRow .i64 w ga gn gc g) (hgm : ∀ z ∈ g, 0 ≤ z ∧ z < (ln : Int)) (hcs : w.cell? ⟨bs, 0, none⟩ = some (.slice sa sn sc)) (hs : IsLs w sa sn sc qs) (hq : ∀ r ∈ qs, r.n ≤ 1048576 ∧ UpN r.zs) :
    Calls Try.prog 99 #[.int .i64 (k : Int), .pointer (some ⟨bl, 0, none⟩), .pointer (some ⟨bg, 0, none⟩), .pointer (some ⟨bs, 0, none⟩)] w fun e w' => e = .returned (.bool (leadB (lplain rs) g ((lplain qs).getD k []))) ∧ Below w.heap.size w w' := by
  obtain ⟨b, off, rfl, hb, hc⟩ := hs.cells (by omega)
  have hkl : k < qs.length := by rw [hs.len]; exact hk
  have p0 := hc k hk
  have hrow := hs.rows _ (getD_mem_ld hkl)
  have hqq := hq _ (getD_mem_ld hkl)
  have hz : (lplain qs).getD k [] = (qs.getD k ld).zs := lplain_get qs k hkl
  rw [hz]
  generalize qs.getD k ld = r at p0 hrow hqq
  obtain ⟨ra, rn, rc, rz⟩ := r
  simp only at p0 hrow hqq
  have HI : Hid (IsLs w la ln lc rs) := hl
  have HG : Hid (IsRow .i64 w ga gn gc g) := hg
  have HGM : Hid (∀ z ∈ g, 0 ≤ z ∧ z < (ln : Int)) := hgm
  have HROW : Hid (IsRow .i64 w ra rn rc rz) := hrow
  have HQ : Hid (rn ≤ 1048576 ∧ UpN rz) := hqq
  have BD : Hid (Below w.heap.size w w.drew) := (Below.refl _ _).drew
  have K0 : Hid (w.drew.cell? ⟨bl, 0, none⟩ = some (.slice la ln lc) ∧ w.drew.cell? ⟨bg, 0, none⟩ = some (.slice ga gn gc) ∧ w.drew.cell? ⟨bs, 0, none⟩ = some (.slice (some ⟨b, off, none⟩) sn sc) ∧ w.drew.cell? ⟨b, off + k, none⟩ = some (.slice ra rn rc)) := by
    show _ ∧ _
    simp only [World.cell?_drew]
    exact ⟨hcl, hcg, hcs, p0⟩
  have hk0 : (0 : Int) ≤ (k : Int) := by omega
  have hkn : (k : Int) < (sn : Int) := by omega
  show Calls _ _ _ _ fun e w' => e = .returned (.bool (leadB (lplain rs) g rz)) ∧ Below w.heap.size w w'
  clear hl hg hgm hs hq hcl hcg hcs hc hrow hqq hz hkl hb p0
  go_enter Try.func99, Try.ntmps99
  go_wp2_with fail
  go_region_held3 (fun w' => w'.cell? ⟨bl, 0, none⟩ = some (.slice la ln lc) ∧ w'.cell? ⟨bg, 0, none⟩ = some (.slice ga gn gc) ∧ w'.cell? ⟨bs, 0, none⟩ = some (.slice (some ⟨b, off, none⟩) sn sc) ∧ w'.cell? ⟨b, off + k, none⟩ = some (.slice ra rn rc)) (first | exact K0.out | with_reducible exact K1.out)
    (first | (go_at_call 100; refine (leadsInto la ln lc rs ga gn gc g ra rn rc rz _ (IsLs.below HI.out BD.out) (IsRow.below HG.out BD.out) HGM.out (IsRow.below HROW.out BD.out) HQ.out.1 HQ.out.2).mono ?_; rintro e w1 ⟨rfl, hb1⟩; have K1 : Hid (w1.cell? ⟨bl, 0, none⟩ = some (.slice la ln lc) ∧ w1.cell? ⟨bg, 0, none⟩ = some (.slice ga gn gc) ∧ w1.cell? ⟨bs, 0, none⟩ = some (.slice (some ⟨b, off, none⟩) sn sc) ∧ w1.cell? ⟨b, off + k, none⟩ = some (.slice ra rn rc)) := ⟨Frame.held_cell hb1 K0.out.1, Frame.held_cell hb1 K0.out.2.1, Frame.held_cell hb1 K0.out.2.2.1, Frame.held_cell hb1 K0.out.2.2.2⟩; have B1 : Hid (Below w.heap.size w w1) := Frame.next BD.out hb1 BD.out.size; clear hb1))
  go_wp2
  go_ret
  exact ⟨rfl, B1.out⟩

theorem own_up {xs : Ll} {w : World} {base : Nat} {a : Option Addr} {n c : Nat} {rs : List LV} (_h : OwnLs w base a n c rs) (hp : lplain rs = groupsN xs) : ∀ r ∈ rs, UpN r.zs := fun r hr =>
  groups_up xs.length (numN xs.length) (up_numN _) r.zs (by show r.zs ∈ groupsN xs; rw [← hp]; exact List.mem_map.2 ⟨r, hr, rfl⟩)
theorem own_in {xs : Ll} {w : World} {base : Nat} {a : Option Addr} {n c : Nat} {rs : List LV} (_h : OwnLs w base a n c rs) (hp : lplain rs = groupsN xs) : ∀ r ∈ rs, ∀ z ∈ r.zs, 0 ≤ z ∧ z < (xs.length : Int) := fun r hr z hz =>
  mem_numN.1 ((groups_mem xs xs.length (numN xs.length) r.zs (by show r.zs ∈ groupsN xs; rw [← hp]; exact List.mem_map.2 ⟨r, hr, rfl⟩)).2 z hz)

set_option maxRecDepth 8000 in
set_option maxHeartbeats 6400000 in
theorem impl_Shrink (v : Value) (xs : Ll) (w : World) (h : LIs w v xs) :
    Calls Try.prog 41 #[v] w fun e w' => ∃ u, e = .returned (.tuple #[u, .bool (goodG xs)]) ∧ LOwn w' w.heap.size w'.heap.size u (shrinkV xs) ∧ Below w.heap.size w w' := by
  obtain ⟨i0, hi, hz0, hz1, hz2⟩ := info_parts infoL
  obtain ⟨a, n, c, rs, rfl, hr, rfl, ht⟩ := h
  have H : Hid (LIs w (.slice a n c) (lplain rs)) := ⟨a, n, c, rs, rfl, hr, rfl, ht⟩
  have HI : Hid (IsLs w a n c rs) := hr
  have HL : Hid ((lplain rs).length = n) := by show _ = _; simp [lplain, hr.len]
  have B0 : Hid (Below w.heap.size w (w.alloc (.cells #[.slice a n c] 23))) := (Below.refl _ _).alloc (Nat.le_refl _) _
  have K0 : Hid ((w.alloc (.cells #[.slice a n c] 23)).cell? ⟨w.heap.size, 0, none⟩ = some (.slice a n c)) := by show _ = _; go_simp
  clear hr ht
  rcases em_bool (goodG (lplain rs)) with hg | hg
  · have HG : Hid (goodG (lplain rs) = false) := hg
    clear hg
    go_enter Try.func41, Try.ntmps41
    go_wp2_with fail
    refine (Gla.impl_GoodLinks _ _ _ (lIs_below H.out B0.out)).mono ?_
    rintro e w1 ⟨rfl, hb1⟩
    have B1 : Hid (Below w.heap.size w w1) := Frame.next B0.out hb1 B0.out.size
    rw [HG.out]
    clear hb1
    go_wp2
    go_ret2
    refine ⟨_, by rw [HG.out]; rfl, ?_, B1.out⟩
    unfold shrinkV
    rw [HG.out]
    exact lOwn_nil _ _ _
  · have HG : Hid (goodG (lplain rs) = true) := hg
    have GP : Hid (GoodP (lplain rs)) := good_iff.1 hg
    have HEN : Hid (Enters Try.prog 99) := enters Try.func99 (by kernel_rfl) rfl
    clear hg
    go_enter Try.func41, Try.ntmps41
    go_wp2_with fail
    refine (Gla.impl_GoodLinks _ _ _ (lIs_below H.out B0.out)).mono ?_
    rintro e w1 ⟨rfl, hb1⟩
    have B1 : Hid (Below w.heap.size w w1) := Frame.next B0.out hb1 B0.out.size
    have K1 : Hid (w1.cell? ⟨w.heap.size, 0, none⟩ = some (.slice a n c)) := Frame.held_cell hb1 K0.out
    have k1 : w1.cell? ⟨w.heap.size, 0, none⟩ = some (.slice a n c) := K1.out
    rw [HG.out]
    clear hb1
    go_wp2_with fail
    refine (Glf.groupsBy a n c rs _ (IsLs.below HI.out B1.out) GP.out).mono ?_
    rintro e w2 ⟨sa, m, sc, qs, rfl, ho, hp, hb⟩
    have B2 : Hid (Below w.heap.size w w2) := Frame.next B1.out hb B1.out.size
    have K2 : Hid (w2.cell? ⟨w.heap.size, 0, none⟩ = some (.slice a n c)) := Frame.held_cell hb K1.out
    have FEW : Hid (m ≤ 12 ∧ ∀ r ∈ qs, r.n ≤ 12) := Glh.few_rows GP.out ho hp
    have UPQ : Hid (∀ r ∈ qs, r.n ≤ 1048576 ∧ UpN r.zs) := fun r hr => ⟨by have := FEW.out.2 r hr; omega, own_up ho hp r hr⟩
    have INQ : Hid (∀ r ∈ qs, ∀ z ∈ r.zs, 0 ≤ z ∧ z < (n : Int)) := fun r hr z hz => by rw [← HL.out]; exact own_in ho hp r hr z hz
    have HP : Hid (lplain qs = groupsN (lplain rs)) := hp
    have HQL : Hid (qs.length = m) := ho.len
    have LS2 : Hid (IsLs w2 sa m sc qs) := ho.isLs
    have B3 : Hid (Below w2.heap.size w2 (w2.alloc (.cells #[.slice sa m sc] 23))) := (Below.refl _ _).alloc (Nat.le_refl _) _
    have K3 : Hid ((w2.alloc (.cells #[.slice sa m sc] 23)).cell? ⟨w2.heap.size, 0, none⟩ = some (.slice sa m sc)) := by show _ = _; go_simp
    have K3L : Hid ((w2.alloc (.cells #[.slice sa m sc] 23)).cell? ⟨w.heap.size, 0, none⟩ = some (.slice a n c)) := Frame.held_cell B3.out K2.out
    have LS3 : Hid (IsLs (w2.alloc (.cells #[.slice sa m sc] 23)) sa m sc qs) := LS2.out.below B3.out
    have BW3 : Hid (Below w.heap.size w (w2.alloc (.cells #[.slice sa m sc] 23))) := Frame.next B2.out B3.out B2.out.size
    have hm12 : m ≤ 12 := FEW.out.1
    clear ho hp hb k1 K0 B0
    go_wp2_with (at_make; refine wpList_make_full _ rfl _ _ 23 rfl (w2.heap.size + 1) 24 i0 (.slice none 0 0) 1 Try.underlying23 hi hz0 hz1 _ _ _ _ m rfl rfl rfl rfl ?b2 ?b3 (by simp) ?_)
    case b2 => rw [hz2]; omega
    case b3 => unfold maxLen; omega
    intro w4 hown4 hgrow4
    have HVZ : Hid ((w2.alloc (.cells #[.slice sa m sc] 23)).heap.size = w2.heap.size + 1) := by show _ = _; simp
    have O4 : Hid (OwnLs w4 (w2.heap.size + 1) (some ⟨w2.heap.size + 1, 0, none⟩) m m (List.replicate m ld)) := own_made hown4
    have B4 : Hid (Below (w2.alloc (.cells #[.slice sa m sc] 23)).heap.size (w2.alloc (.cells #[.slice sa m sc] 23)) w4) := below_make (Below.refl _ _) hgrow4 (Nat.le_refl _)
    clear hown4 hgrow4 B3 LS2
    generalize w2.alloc (.cells #[.slice sa m sc] 23) = V at K3 K3L LS3 BW3 HVZ B4
    obtain ⟨bs, hbs⟩ : ∃ bs, bs = w2.heap.size := ⟨_, rfl⟩
    rw [← hbs] at O4 HVZ K3
    rw [← hbs]
    clear hbs
    have k4 : w4.cell? ⟨bs, 0, none⟩ = some (.slice sa m sc) := Frame.held_cell B4.out K3.out
    go_wp2_with fail
    clear k4
    go_loopw [18] (fun i wr => ∃ (k : Nat) (ys : List LV), k ≤ m ∧ i = .int .i64 k ∧ ys.length = k ∧ lplain ys = (List.range k).map (shrinkRow (lplain rs) (groupsN (lplain rs))) ∧ OwnLs wr (bs + 1) (some ⟨bs + 1, 0, none⟩) m m (ys ++ List.replicate (m - k) ld) ∧ Below V.heap.size V wr) (fun i _ => m - (intOf i).toNat)
    case atStart => exact ⟨0, [], Nat.zero_le _, rfl, rfl, rfl, O4.out, B4.out⟩
    case round =>
      obtain ⟨k, ys, hk, rfl, hyl, hpl, hown, hnx⟩ := hrel
      have HN : Hid (Below V.heap.size V wr) := hnx
      have HYL : Hid (ys.length = k) := hyl
      have HPY : Hid (lplain ys = (List.range k).map (shrinkRow (lplain rs) (groupsN (lplain rs)))) := hpl
      clear hnx hyl hpl O4 B4
      by_cases hlt : k < m
      · have hsplit : ys ++ List.replicate (m - k) ld = ys ++ ld :: List.replicate (m - (k + 1)) ld := by
          rw [show m - k = (m - (k + 1)) + 1 by omega, List.replicate_succ]
        rw [hsplit] at hown
        have HO : Hid (OwnLs wr (bs + 1) (some ⟨bs + 1, 0, none⟩) m m (ys ++ ld :: List.replicate (m - (k + 1)) ld)) := hown
        obtain ⟨b, off, rfl, hb, hc⟩ := LS3.out.cells (by omega)
        have hkl : k < qs.length := by rw [HQL.out]; exact hlt
        have p0 : wr.cell? ⟨b, off + k, none⟩ = some (.slice (qs.getD k ld).a (qs.getD k ld).n (qs.getD k ld).c) := by rw [HN.out.cell (p := ⟨b, off + k, none⟩) hb]; exact hc k hlt
        have hrow := LS3.out.rows _ (getD_mem_ld hkl)
        have hinq := INQ.out _ (getD_mem_ld hkl)
        have HGK : Hid ((groupsN (lplain rs)).getD k [] = (qs.getD k ld).zs) := by show _ = _; rw [← HP.out]; exact lplain_get qs k hkl
        generalize qs.getD k ld = r at p0 hrow hinq HGK
        obtain ⟨ra, rn, rc, rz⟩ := r
        simp only at p0 hrow hinq HGK
        have HROW : Hid (IsRow .i64 V ra rn rc rz) := hrow
        have HIN : Hid (∀ z ∈ rz, 0 ≤ z ∧ z < (n : Int)) := hinq
        have hk0 : (0 : Int) ≤ (k : Int) := by omega
        have hkm : (k : Int) < (m : Int) := by omega
        have B5 : Hid (Below wr.heap.size wr (wr.alloc (.cells #[.slice ra rn rc] 24))) := (Below.refl _ _).alloc (Nat.le_refl _) _
        have K5 : Hid ((wr.alloc (.cells #[.slice ra rn rc] 24)).cell? ⟨wr.heap.size, 0, none⟩ = some (.slice ra rn rc)) := by show _ = _; go_simp
        clear hown hsplit hc hb hkl hrow hinq
        go_wp2_with fail
        refine (numbersBelow k _ (by omega)).mono ?_
        rintro e w6 ⟨g6, rfl, ho6, hb6⟩
        have R6 : Hid (IsRow .i64 w6 (some ⟨g6, 0, none⟩) k k (numN k)) := own_row ho6 (numN_wf k (by omega))
        have B6 : Hid (Below wr.heap.size wr w6) := Frame.next B5.out hb6 B5.out.size
        have K6 : Hid (w6.cell? ⟨wr.heap.size, 0, none⟩ = some (.slice ra rn rc)) := Frame.held_cell hb6 K5.out
        have N6 : Hid (Below V.heap.size V w6) := Frame.next HN.out B6.out HN.out.size
        clear ho6 hb6 p0 K5
        go_wp2_with fail
        refine (kept_int (some ⟨g6, 0, none⟩) k k (numN k) 99 #[.pointer (some ⟨w.heap.size, 0, none⟩), .pointer (some ⟨wr.heap.size, 0, none⟩), .pointer (some ⟨bs, 0, none⟩)] (fun z => leadB (lplain rs) rz ((groupsN (lplain rs)).getD z.toNat [])) _ R6.out (by omega) HEN.out (fun z hz w7 hb7 => by
          obtain ⟨x, rfl⟩ : ∃ x : Nat, z = (x : Int) := ⟨z.toNat, by have := mem_numN.1 hz; omega⟩
          have hx := (mem_numN.1 hz).2
          have N7 : Below V.heap.size V w7 := Frame.next N6.out hb7 N6.out.size
          have h := leads_ahead w.heap.size wr.heap.size bs a n c rs ra rn rc rz (some ⟨b, off, none⟩) m sc qs x w7 (by omega) (Frame.held_cell N7 K3L.out) (IsLs.below HI.out (Frame.next BW3.out N7 BW3.out.size)) (Frame.held_cell hb7 K6.out) (IsRow.below HROW.out N7) HIN.out (Frame.held_cell N7 K3.out) (LS3.out.below N7) UPQ.out
          rw [HP.out] at h
          rw [show ((x : Int)).toNat = x by omega]
          exact h)).mono ?_
        rintro e w8 ⟨a8, m8, c8, rfl, hm8, ho8, hb8⟩
        have B8 : Hid (Below wr.heap.size wr w8) := Frame.next B6.out hb8 B6.out.size
        have N8 : Hid (Below V.heap.size V w8) := Frame.next HN.out B8.out HN.out.size
        have R8 : Hid (w8.ownsRow wr.heap.size 3 1 (.slice a8 m8 c8) m8 (ints .i64 (shrinkRow (lplain rs) (groupsN (lplain rs)) k))) := by
          have h := own_base ho8 B6.out.size
          show World.ownsRow _ _ _ _ _ _ _
          unfold shrinkRow
          rw [HGK.out]
          exact h
        have O8 : Hid (OwnLs w8 (bs + 1) (some ⟨bs + 1, 0, none⟩) m m (ys ++ ld :: List.replicate (m - (k + 1)) ld)) := HO.out.below B8.out
        obtain ⟨o0, ho0⟩ : ∃ o, w8.cell? ⟨bs + 1, k, none⟩ = some o := (by rw [O8.out.outer.cellAt _ (by omega)]; exact ⟨_, List.getElem?_eq_getElem (by rw [lcells_length]; simp; have := HYL.out; omega)⟩)
        have f0 := O8.out.outer.frozenAt k
        have LOV : Hid (V.heap.size ≤ wr.heap.size) := HN.out.size
        have hput := OwnLs.put (r := ⟨a8, m8, c8, shrinkRow (lplain rs) (groupsN (lplain rs)) k⟩) O8.out (own_base R8.out (by have h1 := LOV.out; rw [HVZ.out] at h1; exact h1)) (fun z hz => numN_wf k (by omega) z (List.mem_filter.1 hz).1)
          (fun t ht x y hx hy => by have h1 := (HO.out.lt t (List.mem_append_left _ ht) x hx).2; have h2 := (own_block R8.out y hy).1; omega)
          (fun t ht x y hx hy => by rw [(List.mem_replicate.1 ht).2] at hy; cases hy)
          (fun x y hx hy => by cases hx; have h1 := (own_block HO.out.outer _ rfl).2; have h2 := (own_block R8.out y hy).1; simp at h1 h2; show bs + 1 ≠ y.block; omega)
        rw [HYL.out] at hput
        have O9 : Hid (OwnLs (w8.setCell ⟨bs + 1, k, none⟩ (.slice a8 m8 c8)) (bs + 1) (some ⟨bs + 1, 0, none⟩) m m (ys ++ ⟨a8, m8, c8, shrinkRow (lplain rs) (groupsN (lplain rs)) k⟩ :: List.replicate (m - (k + 1)) ld)) := hput
        have B9 : Hid (Below V.heap.size V (w8.setCell ⟨bs + 1, k, none⟩ (.slice a8 m8 c8))) := N8.out.setCell (by rw [HVZ.out]; exact Nat.le_refl _) _
        clear hput ho8 hb8
        go_wp2
        go_roundw
        case rel =>
          refine ⟨k + 1, ys ++ [⟨a8, m8, c8, shrinkRow (lplain rs) (groupsN (lplain rs)) k⟩], by omega, by go_num, by rw [List.length_append, HYL.out]; rfl, ?_, ?_, B9.out⟩
          · rw [List.range_succ, List.map_append, ← HPY.out]
            simp [lplain]
          · rw [List.append_assoc]
            exact O9.out
        case measure => simp [intOf]; omega
      · obtain rfl : k = m := by omega
        rw [Nat.sub_self, List.replicate_zero, List.append_nil] at hown
        have BB : Hid (Below w.heap.size w wr) := Frame.next BW3.out HN.out BW3.out.size
        have F : Hid (LOwn wr w.heap.size wr.heap.size (.slice (some ⟨bs + 1, 0, none⟩) k k) (shrinkV (lplain rs))) := by
          have e : lplain ys = shrinkN (lplain rs) := by
            rw [HPY.out]
            unfold shrinkN
            rw [← HP.out]
            have : (lplain qs).length = k := by rw [← HQL.out]; simp [lplain]
            rw [this]
          show LOwn _ _ _ _ _
          unfold shrinkV
          rw [HG.out]
          have hV : w.heap.size ≤ bs + 1 := by have := BW3.out.size; rw [HVZ.out] at this; exact this
          have h := lOwn_of (ownLs_base hown hV) (by rw [e]; have := shrink_total GP.out; unfold ltotal; omega)
          rwa [e] at h
        clear hown
        go_wp2
        go_ret2
        exact ⟨_, by rw [HG.out]; rfl, F.out, BB.out⟩


end Go.Proofs.Ytkondmnkmbdncaa.Glj
