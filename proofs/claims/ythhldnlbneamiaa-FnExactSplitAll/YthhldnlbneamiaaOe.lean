/-
  Contract of the program's underNames.
-/
import Derived.Test.YthhldnlbneamiaaOd
import Derived.Test.YthhldnlbneamiaaOb
import Derived.Test.YthhldnlbneamiaaTold
namespace Go.Proofs.Ythhldnlbneamiaa.Oe
open Go.RowKit
open Go.Proofs.Ythhldnlbneamiaa.Frame Go.Proofs.Ythhldnlbneamiaa.Mem Go.Proofs.Ythhldnlbneamiaa.Ints Go.Proofs.Ythhldnlbneamiaa.Kep Go.Proofs.Ythhldnlbneamiaa.Lls Go.Proofs.Ythhldnlbneamiaa.Rpu Go.Proofs.Ythhldnlbneamiaa.Krl Go.Proofs.Ythhldnlbneamiaa.Oa Go.Proofs.Ythhldnlbneamiaa.Ob Go.Proofs.Ythhldnlbneamiaa.Osr Go.Proofs.Ythhldnlbneamiaa.Mis Go.Proofs.Ythhldnlbneamiaa.Oc Go.Proofs.Ythhldnlbneamiaa.Od Go.Proofs.Ythhldnlbneamiaa.Told Go.Proofs.Ythhldnlbneamiaa.Rel

theorem places_in {ns ws : List Int} (h : ∀ z ∈ ws, z ∈ ns) : ∀ p ∈ ws.map (fun z => Lib.idxOf ns z), 0 ≤ p ∧ p < (ns.length : Int) := by
  intro p hp
  obtain ⟨z, hz, rfl⟩ := List.mem_map.1 hp
  exact ⟨(idx_nonneg ns z).2 (h z hz), idx_lt ns z⟩
theorem picked_is (ns t ws : List Int) : (ws.map (fun z => Lib.idxOf ns z)).map (fun p => t.getD p.toNat 0) = pick ns t ws := by
  unfold pick
  rw [List.map_map]
  rfl
theorem idx_wf (ns : List Int) (z : Int) (h : ns.length ≤ 9223372036854775807) : (Lit.int .i64 (Lib.idxOf ns z)).wf = true := by
  have h1 := idx_lt ns z
  have h2 := idx_ge ns z
  exact int_wf _ (by omega) (by omega)

/-- The memory of what underNames tells. -/
theorem q_of {L : Nat} {w3 w4 w5 : World} {g1 n : Nat} {xs os qs : List LV} {a' : Option Addr} {m c' k : Nat} {ws : List Int}
    (hx : OwnLs w3 g1 (some ⟨g1, 0, none⟩) n n xs) (hg : L ≤ g1) (hg3 : g1 < w3.heap.size)
    (hn : w4.ownsRow w3.heap.size 3 1 (.slice (some ⟨w3.heap.size, 0, none⟩) k k) k (ints .i64 ws)) (hb4 : Below w3.heap.size w3 w4) (hww : ∀ z ∈ ws, (Lit.int .i64 z).wf = true) (hk : k ≤ 1048576)
    (ho : w5.ownsRow w4.heap.size 24 1 (.slice a' m c') m (lcells os)) (hb5 : Below w4.heap.size w4 w5) (hp : qs.Perm xs) (hs : os.Sublist qs) (ht : totalL os ≤ 1048576) :
    QOwn w5 L w5.heap.size (.slice (some ⟨w3.heap.size, 0, none⟩) k k) (.slice a' m c') (ws, lplain os) := by
  have hs34 : w3.heap.size < w4.heap.size := (own_block hn _ rfl).2
  have hs45 := hb5.size
  have hmem : ∀ r ∈ os, r ∈ xs := fun r hr => hp.mem_iff.1 (hs.subset hr)
  have hrow : ∀ r ∈ os, ∀ x, r.a = some x → g1 ≤ x.block ∧ x.block < w3.heap.size := fun r hr x hx' => own_block (hx.inner r (hmem r hr)) x hx'
  have hout : ∀ x, a' = some x → w4.heap.size ≤ x.block ∧ x.block < w5.heap.size := own_block ho
  refine ⟨os, ⟨_, _, _, rfl, own_base (own_below hn hb5) (by omega), hww, hk, fun x hx' => by cases hx'; show _ ∧ _; simp only; omega⟩, ⟨_, _, _, rfl, ⟨own_base ho (by omega), fun r hr => own_base (own_below (own_below (hx.inner r (hmem r hr)) hb4) hb5) hg, fun r hr => hx.wf r (hmem r hr), (perm_far hp hx.apart).sublist hs, fun r hr x y hx' hy => ?_⟩, ht, fun x hx' => ?_, fun r hr x hx' => ?_⟩, rfl, fun x y hx' hy => ?_, fun r hr x y hx' hy => ?_⟩
  · have := hout x hx'; have := hrow r hr y hy; omega
  · have := hout x hx'; omega
  · have := hrow r hr x hx'; omega
  · have := hout y hy
    simp only [addrOf, Option.some.injEq] at hx'
    subst hx'
    simp only
    omega
  · have := hrow r hr y hy
    simp only [addrOf, Option.some.injEq] at hx'
    subst hx'
    simp only
    omega

set_option maxRecDepth 4000 in
set_option maxHeartbeats 3200000 in
theorem impl_underNames (a t b : Option Addr) (nn nc n tc m wc : Nat) (ns ws : List Int) (rs : List LV) (w : World) (hN : IsRow .i64 w a nn nc ns) (hT : IsLs w t n tc rs) (hW : IsRow .i64 w b m wc ws)
    (hn : n ≤ 100000) (hm : m ≤ 100000) (hsz : n * (m + 1) ≤ 1048576) (hl : ∀ r ∈ rs, r.zs.length = nn) (hsub : ∀ z ∈ ws, z ∈ ns) :
    Calls Try.prog 164 #[.slice a nn nc, .slice t n tc, .slice b m wc] w (RTold (tellV ws ((lplain rs).map fun x => pick ns x ws)) (tellG ws ((lplain rs).map fun x => pick ns x ws)) w) := by
  obtain ⟨i0, hi, hz0, hz1, hz2⟩ := info_parts infoL
  have hmaxn : nn ≤ 9223372036854775807 := by have := hN.fits; have := hN.max; unfold maxLen at *; omega
  have HNL : Hid (ns.length = nn) := hN.len
  have HWL : Hid (ws.length = m) := hW.len
  have HTL : Hid (rs.length = n) := hT.len
  have HN : Hid (IsRow .i64 w a nn nc ns) := hN
  have HT : Hid (IsLs w t n tc rs) := hT
  have HW : Hid (IsRow .i64 w b m wc ws) := hW
  have HLN : Hid (∀ r ∈ rs, r.zs.length = nn) := hl
  have HSUB : Hid (∀ z ∈ ws, z ∈ ns) := hsub
  have HSZ : Hid (n * (m + 1) ≤ 1048576) := hsz
  have hs0 : (w.alloc (.cells #[.slice none 0 0, .slice none 0 0] 33)).heap.size = w.heap.size + 1 := by simp
  have B0 : Hid (Below w.heap.size w (w.alloc (.cells #[.slice none 0 0, .slice none 0 0] 33))) := (Below.refl _ _).alloc (Nat.le_refl _) _
  clear hN hT hW hl hsub hsz
  go_enter Try.func164, Try.ntmps164
  go_wp2_with fail
  refine (impl_placesOf _ _ _ _ _ _ ns ws _ (IsRow.below HN.out B0.out) (IsRow.below HW.out B0.out) (by omega)).mono ?_
  rintro e w1 ⟨rfl, ho1, hb1⟩
  have B1 : Hid (Below w.heap.size w w1) := Frame.next B0.out hb1 B0.out.size
  have hp1 : w.heap.size + 1 < w1.heap.size := by have := (own_block ho1 _ rfl).2; simp only [hs0] at this; exact this
  have PL : Hid (IsRow .i64 w1 (some ⟨w.heap.size + 1, 0, none⟩) m m (ws.map fun z => Lib.idxOf ns z)) := by
    obtain ⟨a', c', e, hr⟩ := isRow_own ho1 (fun z hz => by obtain ⟨y, _, rfl⟩ := List.mem_map.1 hz; exact idx_wf ns y (by rw [HNL.out]; exact hmaxn))
    cases e
    rw [hs0] at hr
    exact hr
  have PIN : Hid (∀ p ∈ ws.map (fun z => Lib.idxOf ns z), 0 ≤ p ∧ p < (nn : Int)) := by have := places_in HSUB.out; rw [HNL.out] at this; exact this
  have C1 : Hid (w1.cell? ⟨w.heap.size, 0, none⟩ = some (.slice none 0 0) ∧ w1.cell? ⟨w.heap.size, 1, none⟩ = some (.slice none 0 0) ∧ w1.frozen? ⟨w.heap.size, 0, none⟩ = false ∧ w1.frozen? ⟨w.heap.size, 1, none⟩ = false) := by
    have bc := Frame.bcell hb1
    rw [hs0] at bc
    refine ⟨?_, ?_, ?_, ?_⟩
    · rw [bc.1 _ _ (by omega)]; go_simp
    · rw [bc.1 _ _ (by omega)]; go_simp
    · rw [bc.2.1 _ _ (by omega)]; go_simp
    · rw [bc.2.1 _ _ (by omega)]; go_simp
  clear ho1 hb1
  rw [hs0]
  go_wp2_with (at_make; refine wpList_make_full _ rfl _ _ 31 rfl w1.heap.size 24 i0 (.slice none 0 0) 1 Try.underlying31 hi hz0 hz1 _ _ _ _ n rfl rfl rfl rfl ?b2 ?b3 (Nat.le_refl _) ?_)
  case b2 => rw [hz2]; omega
  case b3 => unfold maxLen; omega
  intro w2 hown2 hgrow2
  have B2 : Hid (Below w1.heap.size w1 w2) := below_make (Below.refl _ _) hgrow2 (Nat.le_refl _)
  have O2 : Hid (OwnLs w2 w1.heap.size (some ⟨w1.heap.size, 0, none⟩) n n (List.replicate n ld)) := own_made (by simpa using hown2)
  clear hown2 hgrow2
  go_wp2_with fail
  go_loopw [21] (fun i wr => ∃ (k : Nat) (xs : List LV), k ≤ n ∧ i = .int .i64 k ∧ xs.length = k ∧ lplain xs = (lplain (rs.take k)).map (fun x => pick ns x ws) ∧ OwnLs wr w1.heap.size (some ⟨w1.heap.size, 0, none⟩) n n (xs ++ List.replicate (n - k) ld) ∧ Below w1.heap.size w1 wr) (fun i _ => n - (intOf i).toNat)
  case atStart => exact ⟨0, [], Nat.zero_le _, rfl, rfl, rfl, O2.out, B2.out⟩
  case round =>
    obtain ⟨k, xs, hk, rfl, hxl, hpl, hown, hnx⟩ := hrel
    have HX : Hid (xs.length = k) := hxl
    have HP : Hid (lplain xs = (lplain (rs.take k)).map (fun x => pick ns x ws)) := hpl
    have HNX : Hid (Below w1.heap.size w1 wr) := hnx
    have HBW : Hid (Below w.heap.size w wr) := Frame.next B1.out hnx B1.out.size
    clear hxl hpl
    by_cases hlt : k < n
    · obtain ⟨c, off, rfl, hbl, hc⟩ := HT.out.cells (by omega)
      have hkl : k < rs.length := by rw [HTL.out]; exact hlt
      have p1 : wr.cell? ⟨c, off + k, none⟩ = some (.slice (rs.getD k ld).a (rs.getD k ld).n (rs.getD k ld).c) := by rw [HBW.out.cell (p := ⟨c, off + k, none⟩) hbl]; exact hc k hlt
      have hrow := HT.out.rows _ (getD_mem_ld hkl)
      have hrn := HLN.out _ (getD_mem_ld hkl)
      have hts := take_succ_ld hkl
      generalize rs.getD k ld = r at p1 hrow hrn hts
      obtain ⟨ra, rn, rc, rzs⟩ := r
      simp only at p1 hrow hrn
      have HRN : Hid (rn = nn) := by show _ = _; rw [← hrow.len]; exact hrn
      have HROW : Hid (IsRow .i64 wr ra rn rc rzs) := IsRow.below hrow HBW.out
      have HTS : Hid (rs.take (k + 1) = rs.take k ++ [⟨ra, rn, rc, rzs⟩]) := hts
      have hsplit : xs ++ List.replicate (n - k) ld = xs ++ ld :: List.replicate (n - (k + 1)) ld := by
        rw [show n - k = (n - (k + 1)) + 1 by omega, List.replicate_succ]
      rw [hsplit] at hown
      have HO : Hid (OwnLs wr w1.heap.size (some ⟨w1.heap.size, 0, none⟩) n n (xs ++ ld :: List.replicate (n - (k + 1)) ld)) := hown
      have HPL : Hid (IsRow .i64 wr (some ⟨w.heap.size + 1, 0, none⟩) m m (ws.map fun z => Lib.idxOf ns z)) := IsRow.below PL.out hnx
      clear hc hrow hts hown hsplit hkl hrn hnx
      go_wp2_with fail
      refine (impl_pickedAt _ _ _ _ _ _ rzs (ws.map fun z => Lib.idxOf ns z) _ HROW.out HPL.out (by omega) (by rw [HRN.out]; exact PIN.out)).mono ?_
      rintro e w3 ⟨rfl, ho1, hb1⟩
      rw [picked_is] at ho1
      have own1 := OwnLs.below HO.out hb1
      have hs1 := hb1.size
      have hwf : ∀ z ∈ pick ns rzs ws, (Lit.int .i64 z).wf = true := fun z hz => by
        obtain ⟨y, hy, rfl⟩ := List.mem_map.1 hz
        refine HROW.out.wf _ (getD_mem ?_)
        rw [HROW.out.len, HRN.out, ← HNL.out]
        exact (idx_at (HSUB.out y hy)).1
      have hput := OwnLs.put (r := ⟨some ⟨wr.heap.size, 0, none⟩, m, m, pick ns rzs ws⟩) own1 (own_base ho1 HNX.out.size) hwf
        (fun s hs x y hx hy => by cases hy; have := (OwnLs.lt HO.out s (List.mem_append_left _ hs) x hx).2; show x.block ≠ wr.heap.size; omega)
        (fun s hs x y hx hy => by rw [(List.mem_replicate.1 hs).2] at hy; cases hy)
        (fun x y hx hy => by cases hx; cases hy; have := (own_block HO.out.outer _ rfl).2; show w1.heap.size ≠ wr.heap.size; simp at this; omega)
      rw [HX.out] at hput
      have HPUT : Hid (OwnLs (w3.setCell ⟨w1.heap.size, k, none⟩ (.slice (some ⟨wr.heap.size, 0, none⟩) m m)) w1.heap.size (some ⟨w1.heap.size, 0, none⟩) n n (xs ++ ⟨some ⟨wr.heap.size, 0, none⟩, m, m, pick ns rzs ws⟩ :: List.replicate (n - (k + 1)) ld)) := hput
      have HN1 : Hid (Below w1.heap.size w1 w3) := Frame.next HNX.out hb1 HNX.out.size
      have f0 := own1.outer.frozenAt k
      have hl2 : (lcells (xs ++ ld :: List.replicate (n - (k + 1)) ld)).length = n := by simpa using own1.outer.1
      obtain ⟨o0, ho0⟩ : ∃ o, w3.cell? ⟨w1.heap.size, k, none⟩ = some o := by rw [own1.outer.cellAt _ (by omega)]; exact ⟨_, List.getElem?_eq_getElem (by omega)⟩
      clear own1 hput ho1 hb1 hl2 hwf
      go_wp2
      go_roundw
      case rel =>
        refine ⟨k + 1, xs ++ [⟨some ⟨wr.heap.size, 0, none⟩, m, m, pick ns rzs ws⟩], by omega, by go_num, by rw [List.length_append, HX.out]; rfl, ?_, ?_, HN1.out.setCell (Nat.le_refl _) _⟩
        · rw [HTS.out, lplain_append, lplain_append, List.map_append, HP.out]
          rfl
        · rw [List.append_assoc]
          exact HPUT.out
      case measure => simp [intOf]; omega
    · obtain rfl : k = n := by omega
      rw [Nat.sub_self, List.replicate_zero, List.append_nil] at hown
      have HO : Hid (OwnLs wr w1.heap.size (some ⟨w1.heap.size, 0, none⟩) k k xs) := hown
      have HPF : Hid (lplain xs = (lplain rs).map (fun x => pick ns x ws)) := by
        have := HP.out
        rwa [List.take_of_length_le (by rw [HTL.out]; omega)] at this
      have HPL : Hid (IsRow .i64 wr (some ⟨w.heap.size + 1, 0, none⟩) m m (ws.map fun z => Lib.idxOf ns z)) := IsRow.below PL.out hnx
      have hg3 : w1.heap.size < wr.heap.size := (own_block HO.out.outer _ rfl).2
      clear hown hnx hlt hk HX HP
      go_wp2_with fail
      refine (impl_pickedAt _ _ _ _ _ _ ns (ws.map fun z => Lib.idxOf ns z) _ (IsRow.below HN.out HBW.out) HPL.out (by omega) PIN.out).mono ?_
      rintro e w4 ⟨rfl, ho4, hb4⟩
      rw [picked_is, pick_self HSUB.out] at ho4
      have O4 : Hid (w4.ownsRow wr.heap.size 3 1 (.slice (some ⟨wr.heap.size, 0, none⟩) m m) m (ints .i64 ws)) := ho4
      have B4 : Hid (Below wr.heap.size wr w4) := hb4
      have I4 : Hid (IsLs w4 (some ⟨w1.heap.size, 0, none⟩) k k xs) := (OwnLs.below HO.out hb4).isLs
      clear ho4 hb4
      go_wp2_with fail
      refine (once_ls _ _ _ xs _ I4.out (by omega)).mono ?_
      rintro e w5 ⟨a5, m5, c5, os, qs, rfl, hm5, ho5, hq5, hon5, hb5⟩
      have hvl : ∀ r ∈ os, r.zs.length = r.n ∧ r.n = m := fun r hr => by
        have hrx : r ∈ xs := hq5.mem_iff.1 (hon5.1.subset hr)
        have h1 := Knl.OwnLs.vlen HO.out r hrx
        have h2 : r.zs ∈ lplain xs := List.mem_map_of_mem hrx
        rw [HPF.out] at h2
        obtain ⟨t', _, e'⟩ := List.mem_map.1 h2
        have h3 : r.zs.length = m := by rw [← e', pick_length, HWL.out]
        exact ⟨h1, by omega⟩
      have htot : totalL os ≤ 1048576 := total_same (m := m) (n := k) (fun r hr => (hvl r hr).2) (by
        have h1 := ho5.1
        rw [lcells_length] at h1
        omega) HSZ.out
      have Q5 : Hid (QOwn w5 (w.heap.size + 1) w5.heap.size (.slice (some ⟨wr.heap.size, 0, none⟩) m m) (.slice a5 m5 c5) (ws, lplain os)) :=
        q_of (L := w.heap.size + 1) HO.out (by omega) hg3 O4.out B4.out (fun z hz => HW.out.wf z hz) (by omega) ho5 hb5 hq5 hon5.1 htot
      have TL5 : Hid (lplain os = tellL ((lplain rs).map fun x => pick ns x ws)) := by
        refine told_is (n := m) (fun s hs => ?_) (strict_up hon5.2.1 (n := m) (fun s hs => ?_)) (fun s => ?_)
        · obtain ⟨t', _, rfl⟩ := List.mem_map.1 hs
          rw [pick_length, HWL.out]
        · obtain ⟨r, hr, rfl⟩ := List.mem_map.1 hs
          have := hvl r hr
          omega
        · rw [hon5.2.2 s, ← HPF.out]
          exact (hq5.map fun r => r.zs).mem_iff
      have B5 : Hid (Below w.heap.size w w5) := Frame.next (Frame.next HBW.out B4.out HBW.out.size) hb5 (Frame.next HBW.out B4.out HBW.out.size).size
      have C5 : Hid (w5.cell? ⟨w.heap.size, 0, none⟩ = some (.slice none 0 0) ∧ w5.cell? ⟨w.heap.size, 1, none⟩ = some (.slice none 0 0) ∧ w5.frozen? ⟨w.heap.size, 0, none⟩ = false ∧ w5.frozen? ⟨w.heap.size, 1, none⟩ = false) := by
        have bb : Below w1.heap.size w1 w5 := Frame.next (Frame.next HNX.out B4.out HNX.out.size) hb5 (Frame.next HNX.out B4.out HNX.out.size).size
        have bc := Frame.bcell bb
        obtain ⟨c0, c1, f0, f1⟩ := C1.out
        exact ⟨by rw [bc.1 _ _ (by omega)]; exact c0, by rw [bc.1 _ _ (by omega)]; exact c1, by rw [bc.2.1 _ _ (by omega)]; exact f0, by rw [bc.2.1 _ _ (by omega)]; exact f1⟩
      have hs5 : w.heap.size < w5.heap.size := Frame.cell_lt C5.out.1
      clear ho5 hq5 hon5 hb5 hvl htot hg3 HO I4 O4
      have Q6 : Hid (QIs (w5.alloc (.cells #[.slice (some ⟨wr.heap.size, 0, none⟩) m m, .slice a5 m5 c5] 33)) (.slice (some ⟨wr.heap.size, 0, none⟩) m m) (.slice a5 m5 c5) (ws, lplain os)) := qIs_below (qOwn_is Q5.out) ((Below.refl _ _).alloc (Nat.le_refl _) _)
      have hs6 : (w5.alloc (.cells #[.slice (some ⟨wr.heap.size, 0, none⟩) m m, .slice a5 m5 c5] 33)).heap.size = w5.heap.size + 1 := by simp
      have D : Hid (∀ w7, Below (w5.alloc (.cells #[.slice (some ⟨wr.heap.size, 0, none⟩) m m, .slice a5 m5 c5] 33)).heap.size (w5.alloc (.cells #[.slice (some ⟨wr.heap.size, 0, none⟩) m m, .slice a5 m5 c5] 33)) w7 → w7.cell? ⟨w.heap.size, 0, none⟩ = some (.slice none 0 0) ∧ w7.cell? ⟨w.heap.size, 1, none⟩ = some (.slice none 0 0) ∧ w7.frozen? ⟨w.heap.size, 0, none⟩ = false ∧ w7.frozen? ⟨w.heap.size, 1, none⟩ = false ∧ w7.cell? ⟨w5.heap.size, 0, none⟩ = some (.slice (some ⟨wr.heap.size, 0, none⟩) m m) ∧ w7.cell? ⟨w5.heap.size, 1, none⟩ = some (.slice a5 m5 c5)) := fun w7 hb7 => by
        have bc := Frame.bcell hb7
        rw [hs6] at bc
        obtain ⟨c0, c1, f0, f1⟩ := C5.out
        have ba : Below w5.heap.size w5 (w5.alloc (.cells #[.slice (some ⟨wr.heap.size, 0, none⟩) m m, .slice a5 m5 c5] 33)) := (Below.refl _ _).alloc (Nat.le_refl _) _
        have bd := Frame.bcell ba
        refine ⟨?_, ?_, ?_, ?_, ?_, ?_⟩
        · rw [bc.1 _ _ (by omega), bd.1 _ _ hs5]; exact c0
        · rw [bc.1 _ _ (by omega), bd.1 _ _ hs5]; exact c1
        · rw [bc.2.1 _ _ (by omega), bd.2.1 _ _ hs5]; exact f0
        · rw [bc.2.1 _ _ (by omega), bd.2.1 _ _ hs5]; exact f1
        · rw [bc.1 _ _ (by omega)]; go_simp
        · rw [bc.1 _ _ (by omega)]; go_simp
      have QB : Hid (∀ w7, Below (w5.alloc (.cells #[.slice (some ⟨wr.heap.size, 0, none⟩) m m, .slice a5 m5 c5] 33)).heap.size (w5.alloc (.cells #[.slice (some ⟨wr.heap.size, 0, none⟩) m m, .slice a5 m5 c5] 33)) w7 → Below w5.heap.size w5 w7 ∧ Below w.heap.size w w7) := fun w7 hb7 => by
        have ba : Below w5.heap.size w5 (w5.alloc (.cells #[.slice (some ⟨wr.heap.size, 0, none⟩) m m, .slice a5 m5 c5] 33)) := (Below.refl _ _).alloc (Nat.le_refl _) _
        have bb := Frame.next ba hb7 ba.size
        exact ⟨bb, Frame.next B5.out bb B5.out.size⟩
      cases hg : goodR ws (lplain os)
      · have HG : Hid (goodR ws (lplain os) = false) := hg
        have F : Hid (tellV ws ((lplain rs).map fun x => pick ns x ws) = ([], []) ∧ tellG ws ((lplain rs).map fun x => pick ns x ws) = false) := tellV_no (by rw [← TL5.out]; exact hg)
        clear hg
        go_wp2_with fail
        refine (impl_GoodRelation _ _ (ws, lplain os) _ Q6.out).mono ?_
        rintro e w7 ⟨rfl, hb7⟩
        rw [show goodR (ws, lplain os).1 (ws, lplain os).2 = false from HG.out]
        obtain ⟨c0, c1, f0, f1, d0, d1⟩ := D.out w7 hb7
        have B7 : Hid (Below w.heap.size w w7) := (QB.out w7 hb7).2
        clear hb7
        go_wp2
        refine bodyPost_ret (v := .tuple #[.agg #[.slice none 0 0, .slice none 0 0], .bool false]) (by simp [results, Try.results164, go_sem, c0, c1]) rfl ?_
        rw [F.out.1, F.out.2]
        exact ⟨_, _, _, _, _, _, rfl, own_none _ _ _, (B7.out.setCell (Nat.le_refl _) _).setCell (Nat.le_refl _) _⟩
      · have HG : Hid (goodR ws (lplain os) = true) := hg
        have F : Hid (tellV ws ((lplain rs).map fun x => pick ns x ws) = (ws, lplain os) ∧ tellG ws ((lplain rs).map fun x => pick ns x ws) = true) := by
          have := tellV_yes (ns := ws) (ts := (lplain rs).map fun x => pick ns x ws) (by rw [← TL5.out]; exact hg)
          rw [← TL5.out] at this
          exact this
        clear hg
        go_wp2_with fail
        refine (impl_GoodRelation _ _ (ws, lplain os) _ Q6.out).mono ?_
        rintro e w7 ⟨rfl, hb7⟩
        rw [show goodR (ws, lplain os).1 (ws, lplain os).2 = true from HG.out]
        obtain ⟨c0, c1, f0, f1, d0, d1⟩ := D.out w7 hb7
        have B7 : Hid (Below w.heap.size w w7) := (QB.out w7 hb7).2
        have Q7 : Hid (QOwn w7 (w.heap.size + 1) w5.heap.size (.slice (some ⟨wr.heap.size, 0, none⟩) m m) (.slice a5 m5 c5) (ws, lplain os)) := qOwn_below Q5.out (QB.out w7 hb7).1
        have hs7 : w5.heap.size ≤ w7.heap.size := (QB.out w7 hb7).1.size
        clear hb7
        go_wp2
        refine bodyPost_ret (v := .tuple #[.agg #[.slice (some ⟨wr.heap.size, 0, none⟩) m m, .slice a5 m5 c5], .bool true]) (by simp [results, Try.results164, go_sem, c0, c1]) rfl ?_
        rw [F.out.1, F.out.2]
        exact ⟨_, _, _, _, _, _, rfl, qOwn_wide (qOwn_set (qOwn_set Q7.out _ _ (by omega)) _ _ (by omega)) (by omega) (by simpa using hs7), (B7.out.setCell (Nat.le_refl _) _).setCell (Nat.le_refl _) _⟩


end Go.Proofs.Ythhldnlbneamiaa.Oe
