/-
  Contracts of the program's RangeOf and SetColumn.
-/
import Derived.Test.YtciaegdgoabipaaItb
namespace Go.Proofs.Ytciaegdgoabipaa.Itc
open Go.RowKit Go.Maps Go.Sort
open Go.Proofs.Ytciaegdgoabipaa.Frame Go.Proofs.Ytciaegdgoabipaa.Mem Go.Proofs.Ytciaegdgoabipaa.Vals Go.Proofs.Ytciaegdgoabipaa.Rws Go.Proofs.Ytciaegdgoabipaa.Val Go.Proofs.Ytciaegdgoabipaa.Tab Go.Proofs.Ytciaegdgoabipaa.Reg Go.Proofs.Ytciaegdgoabipaa.Gtab Go.Proofs.Ytciaegdgoabipaa.Cpy Go.Proofs.Ytciaegdgoabipaa.Own Go.Proofs.Ytciaegdgoabipaa.Drp Go.Proofs.Ytciaegdgoabipaa.Tel Go.Proofs.Ytciaegdgoabipaa.Find Go.Proofs.Ytciaegdgoabipaa.Shf Go.Proofs.Ytciaegdgoabipaa.Icp Go.Proofs.Ytciaegdgoabipaa.Ig Go.Proofs.Ytciaegdgoabipaa.Sht Go.Proofs.Ytciaegdgoabipaa.Shl Go.Proofs.Ytciaegdgoabipaa.Pur Go.Proofs.Ytciaegdgoabipaa.Itb

def rangeV (lo hi : Int) (rs : List RowV) : List (Int × List (Bool × Int)) := if goodT rs then plain (rangeK lo hi rs) else []

/-- The rows that are left when k keys have been gone through. -/
def leftK (lo hi : Int) (qs : List RowV) (k : Nat) : List RowV := rangeK lo hi (qs.take k) ++ qs.drop k

theorem leftK_mem {lo hi : Int} {qs : List RowV} {k : Nat} {r : RowV} (h : r ∈ leftK lo hi qs k) : r ∈ qs := by
  rcases List.mem_append.1 h with h | h
  · exact List.mem_of_mem_take (List.mem_filter.1 h).1
  · exact List.mem_of_mem_drop h

theorem leftK_in {lo hi : Int} {qs : List RowV} {k : Nat} (hk : k < qs.length) (h : inB (qs.getD k rd).key lo hi = true) : leftK lo hi qs (k + 1) = leftK lo hi qs k := by
  unfold leftK rangeK
  rw [take_succ_rd hk, List.filter_append, drop_succ_rd hk, List.append_assoc]
  congr 1
  rw [List.filter_cons, if_pos h]
  rfl

theorem leftK_out {lo hi : Int} {qs : List RowV} {k : Nat} (hR : Rising qs) (hk : k < qs.length) (h : inB (qs.getD k rd).key lo hi = false) : leftK lo hi qs (k + 1) = dropK (qs.getD k rd).key (leftK lo hi qs k) := by
  have e : qs = qs.take k ++ qs.getD k rd :: qs.drop (k + 1) := by rw [← drop_succ_rd hk, List.take_append_drop]
  have h1 := hR
  rw [e] at h1
  obtain ⟨_, p2, p3⟩ := List.pairwise_append.1 h1
  obtain ⟨p4, _⟩ := List.pairwise_cons.1 p2
  unfold leftK rangeK
  rw [take_succ_rd hk, List.filter_append, drop_succ_rd hk]
  unfold dropK
  rw [List.filter_append]
  have e1 : ((qs.take k).filter fun r => inB r.key lo hi).filter (fun r => decide (r.key ≠ (qs.getD k rd).key)) = (qs.take k).filter fun r => inB r.key lo hi := by
    rw [List.filter_eq_self]
    intro r hr
    have := p3 r (List.mem_filter.1 hr).1 (qs.getD k rd) (by simp)
    simp only [ne_eq, decide_not, Bool.not_eq_true', decide_eq_false_iff_not]
    omega
  have e2 : (qs.getD k rd :: qs.drop (k + 1)).filter (fun r => decide (r.key ≠ (qs.getD k rd).key)) = qs.drop (k + 1) := by
    rw [List.filter_cons]
    rw [if_neg (by simp)]
    rw [List.filter_eq_self]
    intro r hr
    have := p4 r hr
    simp only [ne_eq, decide_not, Bool.not_eq_true', decide_eq_false_iff_not]
    omega
  rw [e1, e2]
  simp only [List.filter_cons, h, List.filter_nil]
  simp

set_option maxRecDepth 100000 in
set_option maxHeartbeats 1000000 in
theorem impl_RangeOf (a : Option Addr) (n cap : Nat) (rs : List RowV) (lo hi : Int) (w : World) (h : IsRows w a n cap rs) (hn : n ≤ 1048576) (hv : ∀ r ∈ rs, r.n ≤ 1048576) :
    Calls Try.prog 22 #[.slice a n cap, .int .i64 lo, .int .i64 hi] w (Tel.Told (rangeV lo hi rs) (goodT rs) w) := by
  have HI : Hid (IsRows w a n cap rs) := h
  have HV : Hid (∀ r ∈ rs, r.n ≤ 1048576) := hv
  clear h hv
  go_enter Try.func22, Try.ntmps22
  go_wp2_with fail
  refine (impl_shelved a n cap rs w HI.out hn HV.out).mono ?_
  rintro e w1 ⟨h1, hb1⟩
  have HB1 : Hid (Below w.heap.size w w1) := hb1
  clear hb1
  rcases h1 with ⟨hg, rfl⟩ | ⟨hg, b, m, qs, rfl, hm, hp, ho⟩
  · have F : Hid (rangeV lo hi rs = [] ∧ goodT rs = false) := by show _ ∧ _; unfold rangeV; rw [hg]; exact ⟨rfl, rfl⟩
    clear hg
    go_wp2
    go_ret2
    rw [F.out.1, F.out.2]
    exact told_no HB1.out
  · have HO : Hid (OwnShelf w1 w.heap.size b m qs) := ho
    have HVQ : Hid (∀ r ∈ qs, r.n ≤ 1048576) := shelf_n HI.out HV.out hp ho
    have hl : qs.length ≤ 20 := by rw [length_plain hp]; exact (goodT_rising hg).2.2
    have F : Hid (rangeV lo hi rs = tellV (rangeK lo hi qs) ∧ goodT rs = goodT (rangeK lo hi qs)) := by
      show _ ∧ _
      have h1 : goodT (rangeK lo hi qs) = true := goodT_filter _ (by rw [goodT_plain hp]; exact hg)
      unfold rangeV tellV
      rw [hg, h1, rangeK_plain lo hi hp]
      exact ⟨rfl, rfl⟩
    clear hg hp ho
    go_wp2_with fail
    refine (impl_keysOn _ b m qs w1 HO.out (by omega)).mono ?_
    rintro e w2 ⟨a2, c2, rfl, ho2, hb2⟩
    obtain ⟨l, hll⟩ : ∃ l, qs.length = l := ⟨_, rfl⟩
    have HL : Hid (qs.length = l) := hll
    rw [hll] at ho2 ⊢
    have HW : Hid (∀ z ∈ qs.map (·.key), (Lit.int .i64 z).wf = true) := fun z hz => by obtain ⟨r, hr, rfl⟩ := List.mem_map.1 hz; exact (HO.out.wf r hr).1
    obtain ⟨a', c', e1, hr2⟩ := isRow_own ho2 HW.out
    cases e1
    have HI2 : Hid (IsRow .i64 w2 a2 l c2 (qs.map (·.key))) := hr2
    have HB2 : Hid (Below w.heap.size w w2) := Frame.next HB1.out hb2 HB1.out.size
    have HOB : Hid (∀ x, a2 = some x → w1.heap.size ≤ x.block) := fun x hx => (own_block ho2 x hx).1
    have HO2 : Hid (OwnShelf w2 w.heap.size b m qs) := HO.out.below hb2
    have hbm := HO.out.map.lt
    have hl2 : l ≤ 20 := by omega
    clear hr2 ho2 hb2 hll hl
    go_wp2_with fail
    go_loopw [11, 22] (fun _ i wr => ∃ k : Nat, k ≤ l ∧ i = .int .i64 k ∧ OwnShelf wr w.heap.size b m (leftK lo hi qs k) ∧ w2.grownBy wr (some b) ∧ Below w.heap.size w wr) (fun _ i _ => l - (intOf i).toNat)
    case atStart => exact ⟨0, Nat.zero_le _, rfl, HO2.out, ⟨rfl, rfl, rfl, Nat.le_refl _, fun _ _ _ => rfl⟩, HB2.out⟩
    case round =>
      obtain ⟨k, hk, rfl, ho, hgr, hnx⟩ := hrel
      have HOk : Hid (OwnShelf wr w.heap.size b m (leftK lo hi qs k)) := ho
      have HGk : Hid (w2.grownBy wr (some b)) := hgr
      have HN : Hid (Below w.heap.size w wr) := hnx
      clear ho hgr hnx
      by_cases hlt : k < l
      · have hkl : k < qs.length := by rw [HL.out]; exact hlt
        obtain ⟨b1, off, rfl, hbl, hc⟩ := HI2.out.cells (by omega)
        have hb1 : some b1 ≠ some b := by have := HOB.out _ rfl; simp only [ne_eq, Option.some.injEq]; simp only at this; omega
        have p0 : wr.cell? ⟨b1, off + k, none⟩ = some (.int .i64 (qs.getD k rd).key) := by
          rw [cell_grown HGk.out hbl hb1, hc k hlt]
          simp [List.getD, hkl]
        have HKk : Hid (keyOf Try.prog 3 (.int .i64 (qs.getD k rd).key) = some (.int .i64 (qs.getD k rd).key)) := key_of (HO.out.wf _ (getD_mem_rd hkl)).1
        have HX : Hid ((inB (qs.getD k rd).key lo hi = true → leftK lo hi qs (k + 1) = leftK lo hi qs k) ∧ (inB (qs.getD k rd).key lo hi = false → leftK lo hi qs (k + 1) = dropK (qs.getD k rd).key (leftK lo hi qs k))) := ⟨leftK_in hkl, leftK_out HO.out.rising hkl⟩
        generalize (qs.getD k rd).key = rk at p0 HKk HX
        have hkI : (k : Int) < (l : Int) := by omega
        clear hc hkl
        by_cases h1 : rk < lo
        · have E : Hid (leftK lo hi qs (k + 1) = dropK rk (leftK lo hi qs k)) := HX.out.2 (decide_eq_false (by omega))
          clear HX
          go_wp2_with (at_delete; refine wpList_delete_own _ rfl _ _ 75 3 rfl 26 law Try.underlying75 _ b m _ rfl HOk.out.map _ _ rfl HKk.out ?_)
          intro w3 hown3 hturn3
          have HO3 : Hid (OwnShelf w3 w.heap.size b m (leftK lo hi qs (k + 1))) := by rw [E.out]; exact OwnShelf.dropped HOk.out hown3 hturn3.grown
          have HG3 : Hid (w2.grownBy w3 (some b)) := HGk.out.andThen hturn3.grown (fun j hj => Or.inr (by rw [hj]))
          have HB3 : Hid (Below w.heap.size w w3) := below_grown HN.out hturn3.grown HN.out.size (fun g hg => by cases hg; exact HO.out.low)
          clear hown3 hturn3
          go_wp2
          go_roundw
          case rel => exact ⟨k + 1, by omega, by go_num, HO3.out, HG3.out, HB3.out⟩
          case measure => simp [intOf]; omega
        · by_cases h2 : hi < rk
          · have E : Hid (leftK lo hi qs (k + 1) = dropK rk (leftK lo hi qs k)) := HX.out.2 (decide_eq_false (by omega))
            clear HX
            go_wp2_with (at_delete; refine wpList_delete_own _ rfl _ _ 75 3 rfl 26 law Try.underlying75 _ b m _ rfl HOk.out.map _ _ rfl HKk.out ?_)
            intro w3 hown3 hturn3
            have HO3 : Hid (OwnShelf w3 w.heap.size b m (leftK lo hi qs (k + 1))) := by rw [E.out]; exact OwnShelf.dropped HOk.out hown3 hturn3.grown
            have HG3 : Hid (w2.grownBy w3 (some b)) := HGk.out.andThen hturn3.grown (fun j hj => Or.inr (by rw [hj]))
            have HB3 : Hid (Below w.heap.size w w3) := below_grown HN.out hturn3.grown HN.out.size (fun g hg => by cases hg; exact HO.out.low)
            clear hown3 hturn3
            go_wp2
            go_roundw
            case rel => exact ⟨k + 1, by omega, by go_num, HO3.out, HG3.out, HB3.out⟩
            case measure => simp [intOf]; omega
          · have E : Hid (leftK lo hi qs (k + 1) = leftK lo hi qs k) := HX.out.1 (decide_eq_true (by omega))
            clear HX
            go_wp2
            go_roundw
            case rel => exact ⟨k + 1, by omega, by go_num, by rw [E.out]; exact HOk.out, HGk.out, HN.out⟩
            case measure => simp [intOf]; omega
      · obtain rfl : k = l := by omega
        have E : Hid (leftK lo hi qs k = rangeK lo hi qs) := by show _ = _; unfold leftK; rw [List.take_of_length_le (by rw [HL.out]; omega), List.drop_of_length_le (by rw [HL.out]; omega), List.append_nil]
        have HOE : Hid (OwnShelf wr w.heap.size b m (rangeK lo hi qs)) := by have := HOk.out; rwa [E.out] at this
        have hle : (rangeK lo hi qs).length ≤ 1000 := Nat.le_trans (List.length_filter_le _ _) (by rw [HL.out]; omega)
        go_wp2_with fail
        refine (impl_tableOn _ b m (rangeK lo hi qs) wr HOE.out hle (fun r hr => HVQ.out r (List.mem_filter.1 hr).1)).mono ?_
        intro e w4 hT
        have T := ToldB.told hT HN.out
        rw [← F.out.1, ← F.out.2] at T
        obtain ⟨a4, m4, c4, ps, rfl, hp, ho, hb4⟩ := T
        have T2 : Hid (Tel.Told (rangeV lo hi rs) (goodT rs) w (.returned (.tuple #[.slice a4 m4 c4, .bool (goodT rs)])) w4) := ⟨a4, m4, c4, ps, rfl, hp, ho, hb4⟩
        clear hT hp ho hb4
        go_wp2
        go_ret2
        exact T2.out


end Go.Proofs.Ytciaegdgoabipaa.Itc
