/-
  Contracts of the program's copiedLocks, locksWith, locksWithout and AskLock.
-/
import Derived.Test.YtkondmnkmbdncaaLke
import Derived.Test.YtkondmnkmbdncaaLks
namespace Go.Proofs.Ytkondmnkmbdncaa.Lkg
open Go.RowKit
open Go.Proofs.Ytkondmnkmbdncaa.Frame Go.Proofs.Ytkondmnkmbdncaa.Mem Go.Proofs.Ytkondmnkmbdncaa.Kep Go.Proofs.Ytkondmnkmbdncaa.Lls Go.Proofs.Ytkondmnkmbdncaa.Knl Go.Proofs.Ytkondmnkmbdncaa.Mis Go.Proofs.Ytkondmnkmbdncaa.Kpi Go.Proofs.Ytkondmnkmbdncaa.Lkp Go.Proofs.Ytkondmnkmbdncaa.Lka Go.Proofs.Ytkondmnkmbdncaa.Lkb Go.Proofs.Ytkondmnkmbdncaa.Lks Go.Proofs.Ytkondmnkmbdncaa.Rel
open Go.Proofs.Ytkondmnkmbdncaa.SLocks (D SIs SOwn)

theorem rise_len {zs : List Int} (h : riseB 0 3 zs = true) : zs.length ≤ 4 := by
  unfold riseB at h
  have h1 := Bool.and_eq_true_iff.1 h
  have hn := up_nodup (of_decide_eq_true h1.2)
  have := hn.length_le_of_subset (l₂ := four) (fun z hz => four_mem.2 (inB_iff.1 (List.all_eq_true.1 h1.1 z hz)))
  exact this
theorem far_set (W : World) (b o o' : Nat) (v : Value) : (W.setCell ⟨b + 1, o, none⟩ v).cell? ⟨b, o', none⟩ = W.cell? ⟨b, o', none⟩ := World.cell?_setCell_other _ _ _ _ (by simp)
theorem own_some {w : World} {base : Nat} {e : TypeId} {size : Nat} {a : Option Addr} {n c : Nat} {xs : List Value} (h : w.ownsRow base e size (.slice a n c) n xs) (h0 : 0 < n) : ∃ g, a = some ⟨g, 0, none⟩ := by
  obtain ⟨h1, h2⟩ := h
  rcases h2 with ⟨_, hz⟩ | ⟨g, cap, cur, hv, _⟩
  · omega
  · simp only [Value.slice.injEq] at hv
    exact ⟨g, hv.1⟩
theorem good_row {d : D} (h : goodK d = true) {k : Nat} (hk : k < 4) : riseB 0 3 (d.1.getD k []) = true := (Bool.and_eq_true_iff.1 ((good_parts h).2.2.2.1 k hk)).1

set_option maxRecDepth 8000 in
set_option maxHeartbeats 3200000 in
theorem copied (a0 a1 a2 : Option Addr) (c0 c1 n2 c2 : Nat) (d : D) (w : World) (h : SIs w (.slice a0 4 c0) (.slice a1 4 c1) (.slice a2 n2 c2) d) (hg : goodK d = true) :
    Calls Try.prog 113 #[.agg #[.slice a0 4 c0, .slice a1 4 c1, .slice a2 n2 c2]] w fun e w' => ∃ g0 rs g1 k1 b2 k2, e = .returned (.agg #[.slice (some ⟨g0, 0, none⟩) 4 4, .slice (some ⟨g1, 0, none⟩) 4 k1, .slice b2 n2 k2]) ∧ lplain rs = d.1 ∧ OwnK (w.heap.size + 2) w' g0 4 rs g1 k1 d.2.1 b2 n2 k2 d.2.2 ∧ (∀ x, b2 = some x → x.off = 0) ∧ Below w.heap.size w w' := by
  obtain ⟨i0, hi, hz0, hz1, hz2⟩ := info_parts Lls.infoL
  have HS : Hid (SIs w (.slice a0 4 c0) (.slice a1 4 c1) (.slice a2 n2 c2) d) := h
  have L0 : Hid (d.1.length = 4) := (row_at h.1).1
  have HG : Hid (goodK d = true) := hg
  have HR4 : Hid (∀ k, k < 4 → (d.1.getD k []).length ≤ 4) := fun k hk => rise_len (good_row HG.out hk)
  have h24 : n2 ≤ 4 := by have := once_len (good_parts hg).2.2.1; rwa [(num_at h.2.2).1.len] at this
  have BP : Hid (Below w.heap.size w ((w.alloc (.cells #[.slice a0 4 c0, .slice a1 4 c1, .slice a2 n2 c2] 26)).alloc (.cells #[.slice none 0 0, .slice none 0 0, .slice none 0 0] 26))) := ((Below.refl _ _).alloc (Nat.le_refl _) _).alloc (by simp) _
  have HZ : Hid (((w.alloc (.cells #[.slice a0 4 c0, .slice a1 4 c1, .slice a2 n2 c2] 26)).alloc (.cells #[.slice none 0 0, .slice none 0 0, .slice none 0 0] 26)).heap.size = w.heap.size + 2) := by show _ = _; simp
  have KP : Hid (((w.alloc (.cells #[.slice a0 4 c0, .slice a1 4 c1, .slice a2 n2 c2] 26)).alloc (.cells #[.slice none 0 0, .slice none 0 0, .slice none 0 0] 26)).cell? ⟨w.heap.size, 0, none⟩ = some (.slice a0 4 c0) ∧ ((w.alloc (.cells #[.slice a0 4 c0, .slice a1 4 c1, .slice a2 n2 c2] 26)).alloc (.cells #[.slice none 0 0, .slice none 0 0, .slice none 0 0] 26)).cell? ⟨w.heap.size, 1, none⟩ = some (.slice a1 4 c1) ∧ ((w.alloc (.cells #[.slice a0 4 c0, .slice a1 4 c1, .slice a2 n2 c2] 26)).alloc (.cells #[.slice none 0 0, .slice none 0 0, .slice none 0 0] 26)).cell? ⟨w.heap.size, 2, none⟩ = some (.slice a2 n2 c2) ∧ ((w.alloc (.cells #[.slice a0 4 c0, .slice a1 4 c1, .slice a2 n2 c2] 26)).alloc (.cells #[.slice none 0 0, .slice none 0 0, .slice none 0 0] 26)).cell? ⟨w.heap.size + 1, 0, none⟩ = some (.slice none 0 0) ∧ ((w.alloc (.cells #[.slice a0 4 c0, .slice a1 4 c1, .slice a2 n2 c2] 26)).alloc (.cells #[.slice none 0 0, .slice none 0 0, .slice none 0 0] 26)).cell? ⟨w.heap.size + 1, 1, none⟩ = some (.slice none 0 0) ∧ ((w.alloc (.cells #[.slice a0 4 c0, .slice a1 4 c1, .slice a2 n2 c2] 26)).alloc (.cells #[.slice none 0 0, .slice none 0 0, .slice none 0 0] 26)).cell? ⟨w.heap.size + 1, 2, none⟩ = some (.slice none 0 0) ∧ ((w.alloc (.cells #[.slice a0 4 c0, .slice a1 4 c1, .slice a2 n2 c2] 26)).alloc (.cells #[.slice none 0 0, .slice none 0 0, .slice none 0 0] 26)).frozen? ⟨w.heap.size + 1, 0, none⟩ = false ∧ ((w.alloc (.cells #[.slice a0 4 c0, .slice a1 4 c1, .slice a2 n2 c2] 26)).alloc (.cells #[.slice none 0 0, .slice none 0 0, .slice none 0 0] 26)).frozen? ⟨w.heap.size + 1, 1, none⟩ = false ∧ ((w.alloc (.cells #[.slice a0 4 c0, .slice a1 4 c1, .slice a2 n2 c2] 26)).alloc (.cells #[.slice none 0 0, .slice none 0 0, .slice none 0 0] 26)).frozen? ⟨w.heap.size + 1, 2, none⟩ = false) := by show _ ∧ _; refine ⟨?_, ?_, ?_, ?_, ?_, ?_, ?_, ?_, ?_⟩ <;> go_simp
  have hsp : w.heap.size + 2 ≤ ((w.alloc (.cells #[.slice a0 4 c0, .slice a1 4 c1, .slice a2 n2 c2] 26)).alloc (.cells #[.slice none 0 0, .slice none 0 0, .slice none 0 0] 26)).heap.size := by simp
  obtain ⟨b0, o0, _, _, _, rfl, hlb0, _⟩ := (row_at h.1).2 0 (by omega)
  clear h hg
  go_enter Try.func113, Try.ntmps113
  go_wp2_with (at_make; refine wpList_make_full _ rfl _ _ 23 rfl (w.heap.size + 2) 24 i0 (.slice none 0 0) 1 Try.underlying23 hi hz0 hz1 _ _ _ _ 4 rfl rfl rfl rfl ?b2 ?b3 hsp ?_)
  case b2 => rw [hz2]; omega
  case b3 => unfold maxLen; omega
  intro w0 hown0 hgrow0
  have B0 : Hid (Below ((w.alloc (.cells #[.slice (some ⟨b0, o0, none⟩) 4 c0, .slice a1 4 c1, .slice a2 n2 c2] 26)).alloc (.cells #[.slice none 0 0, .slice none 0 0, .slice none 0 0] 26)).heap.size ((w.alloc (.cells #[.slice (some ⟨b0, o0, none⟩) 4 c0, .slice a1 4 c1, .slice a2 n2 c2] 26)).alloc (.cells #[.slice none 0 0, .slice none 0 0, .slice none 0 0] 26)) w0) := below_make (Below.refl _ _) hgrow0 (Nat.le_refl _)
  have OL0 : Hid (OwnLs w0 (w.heap.size + 2) (some ⟨w.heap.size + 1 + 1, 0, none⟩) 4 4 (List.replicate 4 ld)) := own_made (by simpa using hown0)
  clear hown0 hgrow0 hsp
  go_wp2_with fail
  go_loopw [11] (fun i wr => ∃ (k : Nat) (xs : List LV), k ≤ 4 ∧ i = .int .i64 k ∧ xs.length = k ∧ lplain xs = d.1.take k ∧ OwnLs wr (w.heap.size + 2) (some ⟨w.heap.size + 1 + 1, 0, none⟩) 4 4 (xs ++ List.replicate (4 - k) ld) ∧ Below ((w.alloc (.cells #[.slice (some ⟨b0, o0, none⟩) 4 c0, .slice a1 4 c1, .slice a2 n2 c2] 26)).alloc (.cells #[.slice none 0 0, .slice none 0 0, .slice none 0 0] 26)).heap.size ((w.alloc (.cells #[.slice (some ⟨b0, o0, none⟩) 4 c0, .slice a1 4 c1, .slice a2 n2 c2] 26)).alloc (.cells #[.slice none 0 0, .slice none 0 0, .slice none 0 0] 26)) wr) (fun i _ => 4 - (intOf i).toNat)
  case atStart => exact ⟨0, [], Nat.zero_le _, rfl, rfl, rfl, OL0.out, B0.out⟩
  case round =>
    obtain ⟨k, xs, hk, rfl, hxl, hpl, hown, hnx⟩ := hrel
    have HN : Hid (Below ((w.alloc (.cells #[.slice (some ⟨b0, o0, none⟩) 4 c0, .slice a1 4 c1, .slice a2 n2 c2] 26)).alloc (.cells #[.slice none 0 0, .slice none 0 0, .slice none 0 0] 26)).heap.size ((w.alloc (.cells #[.slice (some ⟨b0, o0, none⟩) 4 c0, .slice a1 4 c1, .slice a2 n2 c2] 26)).alloc (.cells #[.slice none 0 0, .slice none 0 0, .slice none 0 0] 26)) wr) := hnx
    have HNw : Hid (Below w.heap.size w wr) := Frame.next BP.out hnx BP.out.size
    have HX : Hid (xs.length = k) := hxl
    have HP : Hid (lplain xs = d.1.take k) := hpl
    have KR : Hid (wr.cell? ⟨w.heap.size, 0, none⟩ = some (.slice (some ⟨b0, o0, none⟩) 4 c0) ∧ wr.cell? ⟨w.heap.size, 1, none⟩ = some (.slice a1 4 c1) ∧ wr.cell? ⟨w.heap.size, 2, none⟩ = some (.slice a2 n2 c2) ∧ wr.cell? ⟨w.heap.size + 1, 0, none⟩ = some (.slice none 0 0) ∧ wr.cell? ⟨w.heap.size + 1, 1, none⟩ = some (.slice none 0 0) ∧ wr.cell? ⟨w.heap.size + 1, 2, none⟩ = some (.slice none 0 0) ∧ wr.frozen? ⟨w.heap.size + 1, 0, none⟩ = false ∧ wr.frozen? ⟨w.heap.size + 1, 1, none⟩ = false ∧ wr.frozen? ⟨w.heap.size + 1, 2, none⟩ = false) := ⟨Frame.held_cell hnx KP.out.1, Frame.held_cell hnx KP.out.2.1, Frame.held_cell hnx KP.out.2.2.1, Frame.held_cell hnx KP.out.2.2.2.1, Frame.held_cell hnx KP.out.2.2.2.2.1, Frame.held_cell hnx KP.out.2.2.2.2.2.1, (hnx.frozen (p := ⟨w.heap.size + 1, 0, none⟩) (Frame.cell_lt KP.out.2.2.2.1)).trans KP.out.2.2.2.2.2.2.1, (hnx.frozen (p := ⟨w.heap.size + 1, 1, none⟩) (Frame.cell_lt KP.out.2.2.2.2.1)).trans KP.out.2.2.2.2.2.2.2.1, (hnx.frozen (p := ⟨w.heap.size + 1, 2, none⟩) (Frame.cell_lt KP.out.2.2.2.2.2.1)).trans KP.out.2.2.2.2.2.2.2.2⟩
    have hszr : w.heap.size + 2 ≤ wr.heap.size := by have := HN.out.size; rw [HZ.out] at this; exact this
    clear hnx hxl hpl
    by_cases hlt : k < 4
    · obtain ⟨b, off, ra, rn, rc, ea, hb, hc, hr, hn⟩ := (row_at (lIs_below HS.out.1 HNw.out)).2 k hlt
      cases ea
      have hrn : rn ≤ 4 := by have := HR4.out k hlt; rwa [hr.len] at this
      have HROW : Hid (IsRow .i64 wr ra rn rc (d.1.getD k [])) := hr
      have HTS : Hid (d.1.take (k + 1) = d.1.take k ++ [d.1.getD k []]) := by
        show _ = _
        have hkl : k < d.1.length := by rw [L0.out]; exact hlt
        rw [List.take_succ_eq_append_getElem hkl]; simp [List.getD, hkl]
      generalize d.1.getD k [] = zs at HROW HTS
      have hkI : (k : Int) < 4 := by omega
      have hsplit : xs ++ List.replicate (4 - k) ld = xs ++ ld :: List.replicate (4 - (k + 1)) ld := by
        rw [show 4 - k = (4 - (k + 1)) + 1 by omega, List.replicate_succ]
      rw [hsplit] at hown
      have HO : Hid (OwnLs wr (w.heap.size + 2) (some ⟨w.heap.size + 1 + 1, 0, none⟩) 4 4 (xs ++ ld :: List.replicate (4 - (k + 1)) ld)) := hown
      obtain ⟨q0, q1, q2, _⟩ := KR.out
      clear hown hsplit hr
      go_wp2_with fail
      refine (clone_any ra rn rc zs _ HROW.out (by omega)).mono ?_
      rintro e w1 ⟨a', c', rfl, ho1, _, _, hb1⟩
      have own1 := OwnLs.below HO.out hb1
      have hs1 := hb1.size
      have hput := OwnLs.put (r := ⟨a', rn, c', zs⟩) own1 (own_base ho1 hszr) HROW.out.wf
        (fun s hs x y hx hy => by have h1 := (OwnLs.lt HO.out s (List.mem_append_left _ hs) x hx).2; have h2 := own_block ho1 y hy; omega)
        (fun s hs x y hx hy => by rw [(List.mem_replicate.1 hs).2] at hy; cases hy)
        (fun x y hx hy => by cases hx; have h1 := (own_block HO.out.outer _ rfl).2; have h2 := own_block ho1 y hy; show w.heap.size + 1 + 1 ≠ _; simp at h1; omega)
      rw [HX.out] at hput
      have HPUT : Hid (OwnLs (w1.setCell ⟨w.heap.size + 1 + 1, k, none⟩ (.slice a' rn c')) (w.heap.size + 2) (some ⟨w.heap.size + 1 + 1, 0, none⟩) 4 4 (xs ++ ⟨a', rn, c', zs⟩ :: List.replicate (4 - (k + 1)) ld)) := hput
      have HN1 : Hid (Below ((w.alloc (.cells #[.slice (some ⟨b0, o0, none⟩) 4 c0, .slice a1 4 c1, .slice a2 n2 c2] 26)).alloc (.cells #[.slice none 0 0, .slice none 0 0, .slice none 0 0] 26)).heap.size ((w.alloc (.cells #[.slice (some ⟨b0, o0, none⟩) 4 c0, .slice a1 4 c1, .slice a2 n2 c2] 26)).alloc (.cells #[.slice none 0 0, .slice none 0 0, .slice none 0 0] 26)) w1) := Frame.next HN.out hb1 HN.out.size
      have f0 := own1.outer.frozenAt k
      have hl2 : (lcells (xs ++ ld :: List.replicate (4 - (k + 1)) ld)).length = 4 := by simpa using own1.outer.1
      obtain ⟨old, hold⟩ : ∃ o, w1.cell? ⟨w.heap.size + 1 + 1, k, none⟩ = some o := by rw [own1.outer.cellAt _ (by omega)]; exact ⟨_, List.getElem?_eq_getElem (by omega)⟩
      clear own1 hput ho1 hb1 hl2 q0 q1 q2 hc
      go_wp2
      go_roundw
      case rel =>
        refine ⟨k + 1, xs ++ [⟨a', rn, c', zs⟩], by omega, by go_num, by rw [List.length_append, HX.out]; rfl, ?_, ?_, HN1.out.setCell (by rw [HZ.out]; exact Nat.le_refl _) _⟩
        · rw [HTS.out]
          have h := HP.out
          simp only [lplain, List.map_append] at *
          rw [h]
          rfl
        · rw [List.append_assoc]
          exact HPUT.out
      case measure => simp [intOf]; omega
    · obtain rfl : k = 4 := by omega
      rw [Nat.sub_self, List.replicate_zero, List.append_nil] at hown
      have HO : Hid (OwnLs wr (w.heap.size + 2) (some ⟨w.heap.size + 1 + 1, 0, none⟩) 4 4 xs) := hown
      have HPF : Hid (lplain xs = d.1) := by
        have := HP.out
        rwa [List.take_of_length_le (by rw [L0.out]; omega)] at this
      have R1 : Hid (IsRow .i64 wr a1 4 c1 d.2.1) := (num_at (iIs_below HS.out.2.1 HNw.out)).1
      have R2 : Hid (IsRow .i64 wr a2 n2 c2 d.2.2) := (num_at (iIs_below HS.out.2.2 HNw.out)).1
      have KD : Hid (wr.drew.cell? ⟨w.heap.size, 0, none⟩ = some (.slice (some ⟨b0, o0, none⟩) 4 c0) ∧ wr.drew.cell? ⟨w.heap.size, 1, none⟩ = some (.slice a1 4 c1) ∧ wr.drew.cell? ⟨w.heap.size, 2, none⟩ = some (.slice a2 n2 c2) ∧ wr.drew.cell? ⟨w.heap.size + 1, 0, none⟩ = some (.slice none 0 0) ∧ wr.drew.cell? ⟨w.heap.size + 1, 1, none⟩ = some (.slice none 0 0) ∧ wr.drew.cell? ⟨w.heap.size + 1, 2, none⟩ = some (.slice none 0 0) ∧ wr.drew.frozen? ⟨w.heap.size + 1, 0, none⟩ = false ∧ wr.drew.frozen? ⟨w.heap.size + 1, 1, none⟩ = false ∧ wr.drew.frozen? ⟨w.heap.size + 1, 2, none⟩ = false) := by
        have z := KR.out
        show _ ∧ _
        simp only [World.cell?_drew, World.frozen?_drew]
        exact z
      have KDp : Hid (wr.drew.cell? ⟨w.heap.size, 0, none⟩ = some (.slice (some ⟨b0, o0, none⟩) 4 c0) ∧ wr.drew.cell? ⟨w.heap.size, 1, none⟩ = some (.slice a1 4 c1) ∧ wr.drew.cell? ⟨w.heap.size, 2, none⟩ = some (.slice a2 n2 c2)) := ⟨KD.out.1, KD.out.2.1, KD.out.2.2.1⟩
      have BD : Hid (Below ((w.alloc (.cells #[.slice (some ⟨b0, o0, none⟩) 4 c0, .slice a1 4 c1, .slice a2 n2 c2] 26)).alloc (.cells #[.slice none 0 0, .slice none 0 0, .slice none 0 0] 26)).heap.size ((w.alloc (.cells #[.slice (some ⟨b0, o0, none⟩) 4 c0, .slice a1 4 c1, .slice a2 n2 c2] 26)).alloc (.cells #[.slice none 0 0, .slice none 0 0, .slice none 0 0] 26)) wr.drew) := HN.out.drew
      clear hown
      go_wp2_with fail
      go_region_held3 (fun w' => w'.cell? ⟨w.heap.size, 0, none⟩ = some (.slice (some ⟨b0, o0, none⟩) 4 c0) ∧ w'.cell? ⟨w.heap.size, 1, none⟩ = some (.slice a1 4 c1) ∧ w'.cell? ⟨w.heap.size, 2, none⟩ = some (.slice a2 n2 c2)) (first | exact KDp.out | with_reducible exact KAp.out | with_reducible exact KBp.out | with_reducible exact KC.out)
        (first
          | (go_at_call_has 141 a1; refine (clone_any a1 4 c1 d.2.1 _ (IsRow.below R1.out ((Below.refl _ _).drew)) (by omega)).mono ?_; rintro e w1 ⟨a1', k1, rfl, ho1, hn1, ho1f, hb1⟩; have BA : Hid (Below ((w.alloc (.cells #[.slice (some ⟨b0, o0, none⟩) 4 c0, .slice a1 4 c1, .slice a2 n2 c2] 26)).alloc (.cells #[.slice none 0 0, .slice none 0 0, .slice none 0 0] 26)).heap.size ((w.alloc (.cells #[.slice (some ⟨b0, o0, none⟩) 4 c0, .slice a1 4 c1, .slice a2 n2 c2] 26)).alloc (.cells #[.slice none 0 0, .slice none 0 0, .slice none 0 0] 26)) w1) := Frame.next BD.out hb1 BD.out.size; have KA : Hid (w1.cell? ⟨w.heap.size, 0, none⟩ = some (.slice (some ⟨b0, o0, none⟩) 4 c0) ∧ w1.cell? ⟨w.heap.size, 1, none⟩ = some (.slice a1 4 c1) ∧ w1.cell? ⟨w.heap.size, 2, none⟩ = some (.slice a2 n2 c2) ∧ w1.cell? ⟨w.heap.size + 1, 0, none⟩ = some (.slice none 0 0) ∧ w1.cell? ⟨w.heap.size + 1, 1, none⟩ = some (.slice none 0 0) ∧ w1.cell? ⟨w.heap.size + 1, 2, none⟩ = some (.slice none 0 0) ∧ w1.frozen? ⟨w.heap.size + 1, 0, none⟩ = false ∧ w1.frozen? ⟨w.heap.size + 1, 1, none⟩ = false ∧ w1.frozen? ⟨w.heap.size + 1, 2, none⟩ = false) := ⟨Frame.held_cell hb1 KD.out.1, Frame.held_cell hb1 KD.out.2.1, Frame.held_cell hb1 KD.out.2.2.1, Frame.held_cell hb1 KD.out.2.2.2.1, Frame.held_cell hb1 KD.out.2.2.2.2.1, Frame.held_cell hb1 KD.out.2.2.2.2.2.1, (hb1.frozen (p := ⟨w.heap.size + 1, 0, none⟩) (Frame.cell_lt KD.out.2.2.2.1)).trans KD.out.2.2.2.2.2.2.1, (hb1.frozen (p := ⟨w.heap.size + 1, 1, none⟩) (Frame.cell_lt KD.out.2.2.2.2.1)).trans KD.out.2.2.2.2.2.2.2.1, (hb1.frozen (p := ⟨w.heap.size + 1, 2, none⟩) (Frame.cell_lt KD.out.2.2.2.2.2.1)).trans KD.out.2.2.2.2.2.2.2.2⟩; have KAp : Hid (w1.cell? ⟨w.heap.size, 0, none⟩ = some (.slice (some ⟨b0, o0, none⟩) 4 c0) ∧ w1.cell? ⟨w.heap.size, 1, none⟩ = some (.slice a1 4 c1) ∧ w1.cell? ⟨w.heap.size, 2, none⟩ = some (.slice a2 n2 c2)) := ⟨KA.out.1, KA.out.2.1, KA.out.2.2.1⟩; have O1 : Hid (w1.ownsRow wr.heap.size 3 1 (.slice a1' 4 k1) 4 (ints .i64 d.2.1)) := ho1; have HO1 : Hid (OwnLs w1 (w.heap.size + 2) (some ⟨w.heap.size + 1 + 1, 0, none⟩) 4 4 xs) := (HO.out.below ((Below.refl _ _).drew)).below hb1; have N1 : Hid (a1' = none → (4 : Nat) = 0 ∧ k1 = 0) := hn1; have F1 : Hid (∀ x, a1' = some x → x.off = 0) := ho1f; have hz1' : wr.heap.size ≤ w1.heap.size := hb1.size; have BWR1 : Hid (Below wr.heap.size wr w1) := Frame.next ((Below.refl _ _).drew) hb1 (Nat.le_refl _); clear ho1 hn1 ho1f hb1)
          | (go_at_call_has 141 a2; refine (clone_any a2 n2 c2 d.2.2 _ (IsRow.below R2.out BWR1.out) (by omega)).mono ?_; rintro e w2 ⟨a2', k2, rfl, ho2, hn2, ho2f, hb2⟩; have BB : Hid (Below ((w.alloc (.cells #[.slice (some ⟨b0, o0, none⟩) 4 c0, .slice a1 4 c1, .slice a2 n2 c2] 26)).alloc (.cells #[.slice none 0 0, .slice none 0 0, .slice none 0 0] 26)).heap.size ((w.alloc (.cells #[.slice (some ⟨b0, o0, none⟩) 4 c0, .slice a1 4 c1, .slice a2 n2 c2] 26)).alloc (.cells #[.slice none 0 0, .slice none 0 0, .slice none 0 0] 26)) w2) := Frame.next BA.out hb2 BA.out.size; have KB : Hid (w2.cell? ⟨w.heap.size, 0, none⟩ = some (.slice (some ⟨b0, o0, none⟩) 4 c0) ∧ w2.cell? ⟨w.heap.size, 1, none⟩ = some (.slice a1 4 c1) ∧ w2.cell? ⟨w.heap.size, 2, none⟩ = some (.slice a2 n2 c2) ∧ w2.cell? ⟨w.heap.size + 1, 0, none⟩ = some (.slice none 0 0) ∧ w2.cell? ⟨w.heap.size + 1, 1, none⟩ = some (.slice none 0 0) ∧ w2.cell? ⟨w.heap.size + 1, 2, none⟩ = some (.slice none 0 0) ∧ w2.frozen? ⟨w.heap.size + 1, 0, none⟩ = false ∧ w2.frozen? ⟨w.heap.size + 1, 1, none⟩ = false ∧ w2.frozen? ⟨w.heap.size + 1, 2, none⟩ = false) := ⟨Frame.held_cell hb2 KA.out.1, Frame.held_cell hb2 KA.out.2.1, Frame.held_cell hb2 KA.out.2.2.1, Frame.held_cell hb2 KA.out.2.2.2.1, Frame.held_cell hb2 KA.out.2.2.2.2.1, Frame.held_cell hb2 KA.out.2.2.2.2.2.1, (hb2.frozen (p := ⟨w.heap.size + 1, 0, none⟩) (Frame.cell_lt KA.out.2.2.2.1)).trans KA.out.2.2.2.2.2.2.1, (hb2.frozen (p := ⟨w.heap.size + 1, 1, none⟩) (Frame.cell_lt KA.out.2.2.2.2.1)).trans KA.out.2.2.2.2.2.2.2.1, (hb2.frozen (p := ⟨w.heap.size + 1, 2, none⟩) (Frame.cell_lt KA.out.2.2.2.2.2.1)).trans KA.out.2.2.2.2.2.2.2.2⟩; have KBp : Hid (w2.cell? ⟨w.heap.size, 0, none⟩ = some (.slice (some ⟨b0, o0, none⟩) 4 c0) ∧ w2.cell? ⟨w.heap.size, 1, none⟩ = some (.slice a1 4 c1) ∧ w2.cell? ⟨w.heap.size, 2, none⟩ = some (.slice a2 n2 c2)) := ⟨KB.out.1, KB.out.2.1, KB.out.2.2.1⟩; have KC : Hid ((((w2.setCell ⟨w.heap.size + 1, 0, none⟩ (.slice (some ⟨w.heap.size + 1 + 1, 0, none⟩) 4 4)).setCell ⟨w.heap.size + 1, 1, none⟩ (.slice a1' 4 k1)).setCell ⟨w.heap.size + 1, 2, none⟩ (.slice a2' n2 k2)).cell? ⟨w.heap.size, 0, none⟩ = some (.slice (some ⟨b0, o0, none⟩) 4 c0) ∧ (((w2.setCell ⟨w.heap.size + 1, 0, none⟩ (.slice (some ⟨w.heap.size + 1 + 1, 0, none⟩) 4 4)).setCell ⟨w.heap.size + 1, 1, none⟩ (.slice a1' 4 k1)).setCell ⟨w.heap.size + 1, 2, none⟩ (.slice a2' n2 k2)).cell? ⟨w.heap.size, 1, none⟩ = some (.slice a1 4 c1) ∧ (((w2.setCell ⟨w.heap.size + 1, 0, none⟩ (.slice (some ⟨w.heap.size + 1 + 1, 0, none⟩) 4 4)).setCell ⟨w.heap.size + 1, 1, none⟩ (.slice a1' 4 k1)).setCell ⟨w.heap.size + 1, 2, none⟩ (.slice a2' n2 k2)).cell? ⟨w.heap.size, 2, none⟩ = some (.slice a2 n2 c2)) := (by show _ ∧ _; simp only [far_set]; exact KBp.out); obtain ⟨_, _, _, r0, r1, r2, z0, z1, z2⟩ := KB.out; have O2 : Hid (w2.ownsRow w1.heap.size 3 1 (.slice a2' n2 k2) n2 (ints .i64 d.2.2)) := ho2; have HO2 : Hid (OwnLs w2 (w.heap.size + 2) (some ⟨w.heap.size + 1 + 1, 0, none⟩) 4 4 xs) := HO1.out.below hb2; have O12 : Hid (w2.ownsRow wr.heap.size 3 1 (.slice a1' 4 k1) 4 (ints .i64 d.2.1)) := own_below O1.out hb2; have F2 : Hid (∀ x, a2' = some x → x.off = 0) := ho2f; have hz2' : w1.heap.size ≤ w2.heap.size := hb2.size; clear ho2 hn2 ho2f hb2))
      have hzr : w.heap.size + 2 ≤ wr.heap.size := by have := HN.out.size; rw [HZ.out] at this; exact this
      obtain ⟨g1, rfl⟩ := own_some O12.out (by omega)
      have hg1 := own_block O12.out _ rfl
      have hg2 := own_block O2.out
      have hr0 := (own_block HO.out.outer _ rfl).2
      have hrr := HO.out.lt
      simp only at hg1 hr0
      have OK : Hid (OwnK (w.heap.size + 2) w2 (w.heap.size + 1 + 1) 4 xs g1 k1 d.2.1 a2' n2 k2 d.2.2) :=
        ⟨HO2.out, own_base O12.out hzr, own_base O2.out (by omega), R1.out.wf, R2.out.wf, by omega, fun r hr x y hx hy => by cases hy; have := hrr r hr x hx; show _ ≠ g1; omega, fun x y hx hy => by cases hx; have := hg2 y hy; show w.heap.size + 1 + 1 ≠ _; omega, fun r hr x y hx hy => by have := hrr r hr x hx; have := hg2 y hy; omega, fun x y hx hy => by cases hx; have := hg2 y hy; have h3 := (own_block O1.out _ rfl).2; show g1 ≠ _; simp only at h3; omega⟩
      have OF : Hid (OffK (w.heap.size + 1) (w.heap.size + 1 + 1) xs g1 a2') := OK.out.off (Or.inl (by omega))
      have BF : Hid (Below w.heap.size w w2) := Frame.next BP.out BB.out BP.out.size
      clear hg1 hg2 hr0 hrr
      go_wp2
      refine bodyPost_ret (v := .agg #[.slice (some ⟨w.heap.size + 1 + 1, 0, none⟩) 4 4, .slice (some ⟨g1, 0, none⟩) 4 k1, .slice a2' n2 k2]) (by simp [results, Try.results113, go_sem, r0, r1, r2]) rfl ?_
      exact ⟨_, _, _, _, _, _, rfl, HPF.out, ((OK.out.setOff OF.out _ _).setOff OF.out _ _).setOff OF.out _ _, F2.out, ((BF.out.setCell (by show w.heap.size ≤ w.heap.size + 1; omega) _).setCell (by show w.heap.size ≤ w.heap.size + 1; omega) _).setCell (by show w.heap.size ≤ w.heap.size + 1; omega) _⟩

def withD (d : D) (who : Int) (it : Nat) (wri : Bool) : D := bif wri then (d.1, d.2.1.set it who, d.2.2) else (d.1.set it (putN who (d.1.getD it [])), d.2.1, d.2.2)
theorem up_same {xs ys : List Int} (hx : UpN xs) (hy : UpN ys) (h : ∀ s, s ∈ xs ↔ s ∈ ys) : xs = ys := by
  induction xs generalizing ys with
  | nil =>
    cases ys with
    | nil => rfl
    | cons y ys => exact absurd ((h y).2 List.mem_cons_self) (by simp)
  | cons x xs ih =>
    cases ys with
    | nil => exact absurd ((h x).1 List.mem_cons_self) (by simp)
    | cons y ys =>
      unfold UpN at hx hy
      rw [List.pairwise_cons] at hx hy
      have e : x = y := by
        rcases List.mem_cons.1 ((h x).1 List.mem_cons_self) with e | h1
        · exact e
        · rcases List.mem_cons.1 ((h y).2 List.mem_cons_self) with e | h2
          · exact e.symm
          · have := hx.1 y h2
            have := hy.1 x h1
            omega
      subst e
      rw [ih hx.2 hy.2 (fun s => ?_)]
      constructor
      · intro hs
        rcases List.mem_cons.1 ((h s).1 (List.mem_cons_of_mem _ hs)) with e | h1
        · have := hx.1 s hs; omega
        · exact h1
      · intro hs
        rcases List.mem_cons.1 ((h s).2 (List.mem_cons_of_mem _ hs)) with e | h1
        · have := hy.1 s hs; omega
        · exact h1
theorem once_put {os zs : List Int} {z : Int} (hz : UpN zs) (h : Od.OnceN os (zs ++ [z])) : os = putN z zs := up_same h.1 (up_putN hz) (fun s => by rw [h.2 s, mem_putN, List.mem_append, List.mem_singleton]; exact Or.comm)
theorem rise_up {zs : List Int} (h : riseB 0 3 zs = true) : UpN zs := of_decide_eq_true (Bool.and_eq_true_iff.1 h).2
theorem lplain_at {rs : List LV} {xs : Knl.Ll} (h : lplain rs = xs) {k : Nat} (hk : k < rs.length) : (rs.getD k ld).zs = xs.getD k [] := by rw [← h, lplain_get rs k hk]
theorem own_inner {lo W g0 c0 rs g1 c1 ws a2 n2 c2 os} (h : OwnK lo W g0 c0 rs g1 c1 ws a2 n2 c2 os) {k : Nat} (hk : k < 4) : W.ownsRow lo 3 1 (.slice (rs.getD k ld).a (rs.getD k ld).n (rs.getD k ld).c) (rs.getD k ld).n (ints .i64 (rs.getD k ld).zs) := h.rows.inner _ (getD_mem_ld (by rw [h.len]; exact hk))
theorem slot_at {lo W g0 c0 rs g1 c1 ws a2 n2 c2 os} (h : OwnK lo W g0 c0 rs g1 c1 ws a2 n2 c2 os) {k : Nat} (hk : k < 4) : W.cell? ⟨g0, k, none⟩ = some (.slice (rs.getD k ld).a (rs.getD k ld).n (rs.getD k ld).c) := by
  have hl := h.len
  rw [h.rows.outer.cellAt k (by omega), lcells_get rs k (by omega)]
theorem num_slot {lo W g0 c0 rs g1 c1 ws a2 n2 c2 os} (h : OwnK lo W g0 c0 rs g1 c1 ws a2 n2 c2 os) {k : Nat} (hk : k < 4) : W.cell? ⟨g1, k, none⟩ = some (.int .i64 (ws.getD k 0)) := by
  have hl := h.wlen
  rw [h.nums.cellAt k (by omega), ints_get _ _ _ (by omega)]
theorem total_small {rs : List LV} {xs : Knl.Ll} (h : lplain rs = xs) (hl : rs.length = 4) (hv : ∀ r ∈ rs, r.zs.length = r.n) (h5 : ∀ k, k < 4 → (xs.getD k []).length ≤ 100) : totalL rs ≤ 1048576 := by
  rw [total_lplain hv, h]
  have hx : xs.length = 4 := by rw [← h]; simp [lplain, hl]
  match xs, hx with
  | [a, b, c, e], _ =>
    have h0 := h5 0 (by omega); have h1 := h5 1 (by omega); have h2 := h5 2 (by omega); have h3 := h5 3 (by omega)
    simp [List.getD] at h0 h1 h2 h3
    simp [ltotal]
    omega

theorem only_cell {a : Option Addr} {W W' : World} (t : OnlyAt a W W') {b o : Nat} {v : Value} (hne : ∀ x, a = some x → x.block ≠ b) (h : W.cell? ⟨b, o, none⟩ = some v) : W'.cell? ⟨b, o, none⟩ = some v :=
  (t.cell (Frame.cell_lt h) (fun x hx => (hne x hx).symm)).trans h
theorem only_frozen {a : Option Addr} {W W' : World} (t : OnlyAt a W W') {b o : Nat} {v : Value} (hne : ∀ x, a = some x → x.block ≠ b) (h : W.cell? ⟨b, o, none⟩ = some v) (hf : W.frozen? ⟨b, o, none⟩ = false) : W'.frozen? ⟨b, o, none⟩ = false := by
  unfold World.frozen? at hf ⊢
  rw [t.block b (Frame.cell_lt h) (fun x hx => (hne x hx).symm)]
  exact hf
theorem set_cell {W : World} {g k b o : Nat} {u v : Value} (hne : g ≠ b) (h : W.cell? ⟨b, o, none⟩ = some v) : (W.setCell ⟨g, k, none⟩ u).cell? ⟨b, o, none⟩ = some v := (World.cell?_setCell_far _ _ _ _ hne).trans h
theorem set_frozen {W : World} {g k b o : Nat} {u : Value} (h : W.frozen? ⟨b, o, none⟩ = false) : (W.setCell ⟨g, k, none⟩ u).frozen? ⟨b, o, none⟩ = false := (World.frozen?_setCell _ _ _ _).trans h
theorem news_at (W : World) (v : Value) (T : TypeId) (b : Nat) (hb : b = W.heap.size) : ∀ j u, ([v] : List Value)[j]? = some u → ((W.alloc (.cells #[v] T)).drew).cell? ((⟨b, 0, none⟩ : Addr).add j) = some u := fun j u hu => by
  subst hb
  match j, hu with
  | 0, hu =>
    simp only [List.getElem?_cons_zero, Option.some.injEq] at hu
    subst hu
    rw [add_at, World.cell?_drew, World.cell?_alloc_at _ _ _ _ rfl]
    rfl
  | j + 1, hu => simp at hu
theorem lplain_set (rs : List LV) (k : Nat) (r : LV) : lplain (rs.set k r) = (lplain rs).set k r.zs := by unfold lplain; rw [List.map_set]

set_option maxRecDepth 8000 in
set_option maxHeartbeats 3200000 in
theorem with_ (a0 a1 a2 : Option Addr) (c0 c1 n2 c2 : Nat) (who : Int) (it : Nat) (wri fin : Bool) (d : D) (w : World) (h : SIs w (.slice a0 4 c0) (.slice a1 4 c1) (.slice a2 n2 c2) d) (hg : goodK d = true) (hit : it < 4) (hwho : 0 ≤ who ∧ who ≤ 3) :
    Calls Try.prog 66 #[.agg #[.slice a0 4 c0, .slice a1 4 c1, .slice a2 n2 c2], .agg #[.int .i64 who, .int .i64 (it : Int), .bool wri, .bool fin]] w fun e w' => ∃ x0 m0 y0 x1 m1 y1 x2 m2 y2, e = .returned (.agg #[.slice x0 m0 y0, .slice x1 m1 y1, .slice x2 m2 y2]) ∧ SOwn w' w.heap.size w'.heap.size (.slice x0 m0 y0) (.slice x1 m1 y1) (.slice x2 m2 y2) (withD d who it wri) ∧ Below w.heap.size w w' := by
  obtain ⟨i0, hi, hz0, hz1, hz2⟩ := info_parts Ints.info
  have HS : Hid (SIs w (.slice a0 4 c0) (.slice a1 4 c1) (.slice a2 n2 c2) d) := h
  have HG : Hid (goodK d = true) := hg
  have HR : Hid (riseB 0 3 (d.1.getD it []) = true) := good_row hg hit
  have h24 : n2 ≤ 4 := by have := once_len (good_parts hg).2.2.1; rwa [(num_at h.2.2).1.len] at this
  have BP : Hid (Below w.heap.size w (((w.alloc (.cells #[.slice a0 4 c0, .slice a1 4 c1, .slice a2 n2 c2] 26)).alloc (.cells #[.int .i64 who, .int .i64 (it : Int), .bool wri, .bool fin] 28)).alloc (.cells #[.slice none 0 0, .slice none 0 0, .slice none 0 0] 26))) := (((Below.refl _ _).alloc (Nat.le_refl _) _).alloc (by simp) _).alloc (by simp; omega) _
  have HZ : Hid ((((w.alloc (.cells #[.slice a0 4 c0, .slice a1 4 c1, .slice a2 n2 c2] 26)).alloc (.cells #[.int .i64 who, .int .i64 (it : Int), .bool wri, .bool fin] 28)).alloc (.cells #[.slice none 0 0, .slice none 0 0, .slice none 0 0] 26)).heap.size = w.heap.size + 3) := by show _ = _; simp
  have KQ : Hid ((((w.alloc (.cells #[.slice a0 4 c0, .slice a1 4 c1, .slice a2 n2 c2] 26)).alloc (.cells #[.int .i64 who, .int .i64 (it : Int), .bool wri, .bool fin] 28)).alloc (.cells #[.slice none 0 0, .slice none 0 0, .slice none 0 0] 26)).cell? ⟨w.heap.size + 1, 0, none⟩ = some (.int .i64 who) ∧ (((w.alloc (.cells #[.slice a0 4 c0, .slice a1 4 c1, .slice a2 n2 c2] 26)).alloc (.cells #[.int .i64 who, .int .i64 (it : Int), .bool wri, .bool fin] 28)).alloc (.cells #[.slice none 0 0, .slice none 0 0, .slice none 0 0] 26)).cell? ⟨w.heap.size + 1, 1, none⟩ = some (.int .i64 (it : Int)) ∧ (((w.alloc (.cells #[.slice a0 4 c0, .slice a1 4 c1, .slice a2 n2 c2] 26)).alloc (.cells #[.int .i64 who, .int .i64 (it : Int), .bool wri, .bool fin] 28)).alloc (.cells #[.slice none 0 0, .slice none 0 0, .slice none 0 0] 26)).cell? ⟨w.heap.size + 1, 2, none⟩ = some (.bool wri) ∧ (((w.alloc (.cells #[.slice a0 4 c0, .slice a1 4 c1, .slice a2 n2 c2] 26)).alloc (.cells #[.int .i64 who, .int .i64 (it : Int), .bool wri, .bool fin] 28)).alloc (.cells #[.slice none 0 0, .slice none 0 0, .slice none 0 0] 26)).cell? ⟨w.heap.size + 1, 3, none⟩ = some (.bool fin) ∧ (((w.alloc (.cells #[.slice a0 4 c0, .slice a1 4 c1, .slice a2 n2 c2] 26)).alloc (.cells #[.int .i64 who, .int .i64 (it : Int), .bool wri, .bool fin] 28)).alloc (.cells #[.slice none 0 0, .slice none 0 0, .slice none 0 0] 26)).cell? ⟨w.heap.size + 1 + 1, 0, none⟩ = some (.slice none 0 0) ∧ (((w.alloc (.cells #[.slice a0 4 c0, .slice a1 4 c1, .slice a2 n2 c2] 26)).alloc (.cells #[.int .i64 who, .int .i64 (it : Int), .bool wri, .bool fin] 28)).alloc (.cells #[.slice none 0 0, .slice none 0 0, .slice none 0 0] 26)).cell? ⟨w.heap.size + 1 + 1, 1, none⟩ = some (.slice none 0 0) ∧ (((w.alloc (.cells #[.slice a0 4 c0, .slice a1 4 c1, .slice a2 n2 c2] 26)).alloc (.cells #[.int .i64 who, .int .i64 (it : Int), .bool wri, .bool fin] 28)).alloc (.cells #[.slice none 0 0, .slice none 0 0, .slice none 0 0] 26)).cell? ⟨w.heap.size + 1 + 1, 2, none⟩ = some (.slice none 0 0) ∧ (((w.alloc (.cells #[.slice a0 4 c0, .slice a1 4 c1, .slice a2 n2 c2] 26)).alloc (.cells #[.int .i64 who, .int .i64 (it : Int), .bool wri, .bool fin] 28)).alloc (.cells #[.slice none 0 0, .slice none 0 0, .slice none 0 0] 26)).frozen? ⟨w.heap.size + 1 + 1, 0, none⟩ = false ∧ (((w.alloc (.cells #[.slice a0 4 c0, .slice a1 4 c1, .slice a2 n2 c2] 26)).alloc (.cells #[.int .i64 who, .int .i64 (it : Int), .bool wri, .bool fin] 28)).alloc (.cells #[.slice none 0 0, .slice none 0 0, .slice none 0 0] 26)).frozen? ⟨w.heap.size + 1 + 1, 1, none⟩ = false ∧ (((w.alloc (.cells #[.slice a0 4 c0, .slice a1 4 c1, .slice a2 n2 c2] 26)).alloc (.cells #[.int .i64 who, .int .i64 (it : Int), .bool wri, .bool fin] 28)).alloc (.cells #[.slice none 0 0, .slice none 0 0, .slice none 0 0] 26)).frozen? ⟨w.heap.size + 1 + 1, 2, none⟩ = false) := by show _ ∧ _; refine ⟨?_, ?_, ?_, ?_, ?_, ?_, ?_, ?_, ?_, ?_⟩ <;> go_simp
  clear h hg
  go_enter Try.func66, Try.ntmps66
  go_wp2_with fail
  refine (copied a0 a1 a2 c0 c1 n2 c2 d _ (SLocks.sIs_below HS.out BP.out) HG.out).mono ?_
  rintro e w1 ⟨g0, rs, g1, k1, b2, k2, rfl, hpl, hok, _, hb1⟩
  rw [HZ.out] at hok
  have HP : Hid (lplain rs = d.1) := hpl
  have OK1 : Hid (OwnK (w.heap.size + 3 + 2) w1 g0 4 rs g1 k1 d.2.1 b2 n2 k2 d.2.2) := hok
  have K1 : Hid (w1.cell? ⟨w.heap.size + 1, 0, none⟩ = some (.int .i64 who) ∧ w1.cell? ⟨w.heap.size + 1, 1, none⟩ = some (.int .i64 (it : Int)) ∧ w1.cell? ⟨w.heap.size + 1, 2, none⟩ = some (.bool wri) ∧ w1.cell? ⟨w.heap.size + 1, 3, none⟩ = some (.bool fin) ∧ w1.cell? ⟨w.heap.size + 1 + 1, 0, none⟩ = some (.slice none 0 0) ∧ w1.cell? ⟨w.heap.size + 1 + 1, 1, none⟩ = some (.slice none 0 0) ∧ w1.cell? ⟨w.heap.size + 1 + 1, 2, none⟩ = some (.slice none 0 0) ∧ w1.frozen? ⟨w.heap.size + 1 + 1, 0, none⟩ = false ∧ w1.frozen? ⟨w.heap.size + 1 + 1, 1, none⟩ = false ∧ w1.frozen? ⟨w.heap.size + 1 + 1, 2, none⟩ = false) := ⟨Frame.held_cell hb1 KQ.out.1, Frame.held_cell hb1 KQ.out.2.1, Frame.held_cell hb1 KQ.out.2.2.1, Frame.held_cell hb1 KQ.out.2.2.2.1, Frame.held_cell hb1 KQ.out.2.2.2.2.1, Frame.held_cell hb1 KQ.out.2.2.2.2.2.1, Frame.held_cell hb1 KQ.out.2.2.2.2.2.2.1, (hb1.frozen (p := ⟨w.heap.size + 1 + 1, 0, none⟩) (Frame.cell_lt KQ.out.2.2.2.2.1)).trans KQ.out.2.2.2.2.2.2.2.1, (hb1.frozen (p := ⟨w.heap.size + 1 + 1, 1, none⟩) (Frame.cell_lt KQ.out.2.2.2.2.2.1)).trans KQ.out.2.2.2.2.2.2.2.2.1, (hb1.frozen (p := ⟨w.heap.size + 1 + 1, 2, none⟩) (Frame.cell_lt KQ.out.2.2.2.2.2.2.1)).trans KQ.out.2.2.2.2.2.2.2.2.2⟩
  have hs1 : w.heap.size + 3 ≤ w1.heap.size := by have := hb1.size; rw [HZ.out] at this; exact this
  have B1 : Hid (Below w.heap.size w w1) := Frame.next BP.out hb1 BP.out.size
  have bV : Below w1.heap.size w1 (w1.alloc (.cells #[.slice (some ⟨g0, 0, none⟩) 4 4, .slice (some ⟨g1, 0, none⟩) 4 k1, .slice b2 n2 k2] 26)) := (Below.refl _ _).alloc (Nat.le_refl _) _
  have OKV : Hid (OwnK (w.heap.size + 3 + 2) (w1.alloc (.cells #[.slice (some ⟨g0, 0, none⟩) 4 4, .slice (some ⟨g1, 0, none⟩) 4 k1, .slice b2 n2 k2] 26)) g0 4 rs g1 k1 d.2.1 b2 n2 k2 d.2.2) := hok.below bV
  have OFF : Hid (OffK w1.heap.size g0 rs g1 b2) := hok.off (Or.inr (Nat.le_refl _))
  have OFR : Hid (OffK (w.heap.size + 1 + 1) g0 rs g1 b2) := hok.off (Or.inl (by omega))
  have OFA : Hid (OffK (w.heap.size + 1) g0 rs g1 b2) := hok.off (Or.inl (by omega))
  have KV : Hid ((w1.alloc (.cells #[.slice (some ⟨g0, 0, none⟩) 4 4, .slice (some ⟨g1, 0, none⟩) 4 k1, .slice b2 n2 k2] 26)).cell? ⟨w.heap.size + 1, 0, none⟩ = some (.int .i64 who) ∧ (w1.alloc (.cells #[.slice (some ⟨g0, 0, none⟩) 4 4, .slice (some ⟨g1, 0, none⟩) 4 k1, .slice b2 n2 k2] 26)).cell? ⟨w.heap.size + 1, 1, none⟩ = some (.int .i64 (it : Int)) ∧ (w1.alloc (.cells #[.slice (some ⟨g0, 0, none⟩) 4 4, .slice (some ⟨g1, 0, none⟩) 4 k1, .slice b2 n2 k2] 26)).cell? ⟨w.heap.size + 1, 2, none⟩ = some (.bool wri) ∧ (w1.alloc (.cells #[.slice (some ⟨g0, 0, none⟩) 4 4, .slice (some ⟨g1, 0, none⟩) 4 k1, .slice b2 n2 k2] 26)).cell? ⟨w.heap.size + 1, 3, none⟩ = some (.bool fin) ∧ (w1.alloc (.cells #[.slice (some ⟨g0, 0, none⟩) 4 4, .slice (some ⟨g1, 0, none⟩) 4 k1, .slice b2 n2 k2] 26)).cell? ⟨w.heap.size + 1 + 1, 0, none⟩ = some (.slice none 0 0) ∧ (w1.alloc (.cells #[.slice (some ⟨g0, 0, none⟩) 4 4, .slice (some ⟨g1, 0, none⟩) 4 k1, .slice b2 n2 k2] 26)).cell? ⟨w.heap.size + 1 + 1, 1, none⟩ = some (.slice none 0 0) ∧ (w1.alloc (.cells #[.slice (some ⟨g0, 0, none⟩) 4 4, .slice (some ⟨g1, 0, none⟩) 4 k1, .slice b2 n2 k2] 26)).cell? ⟨w.heap.size + 1 + 1, 2, none⟩ = some (.slice none 0 0) ∧ (w1.alloc (.cells #[.slice (some ⟨g0, 0, none⟩) 4 4, .slice (some ⟨g1, 0, none⟩) 4 k1, .slice b2 n2 k2] 26)).frozen? ⟨w.heap.size + 1 + 1, 0, none⟩ = false ∧ (w1.alloc (.cells #[.slice (some ⟨g0, 0, none⟩) 4 4, .slice (some ⟨g1, 0, none⟩) 4 k1, .slice b2 n2 k2] 26)).frozen? ⟨w.heap.size + 1 + 1, 1, none⟩ = false ∧ (w1.alloc (.cells #[.slice (some ⟨g0, 0, none⟩) 4 4, .slice (some ⟨g1, 0, none⟩) 4 k1, .slice b2 n2 k2] 26)).frozen? ⟨w.heap.size + 1 + 1, 2, none⟩ = false) := ⟨Frame.held_cell bV K1.out.1, Frame.held_cell bV K1.out.2.1, Frame.held_cell bV K1.out.2.2.1, Frame.held_cell bV K1.out.2.2.2.1, Frame.held_cell bV K1.out.2.2.2.2.1, Frame.held_cell bV K1.out.2.2.2.2.2.1, Frame.held_cell bV K1.out.2.2.2.2.2.2.1, (bV.frozen (p := ⟨w.heap.size + 1 + 1, 0, none⟩) (Frame.cell_lt K1.out.2.2.2.2.1)).trans K1.out.2.2.2.2.2.2.2.1, (bV.frozen (p := ⟨w.heap.size + 1 + 1, 1, none⟩) (Frame.cell_lt K1.out.2.2.2.2.2.1)).trans K1.out.2.2.2.2.2.2.2.2.1, (bV.frozen (p := ⟨w.heap.size + 1 + 1, 2, none⟩) (Frame.cell_lt K1.out.2.2.2.2.2.2.1)).trans K1.out.2.2.2.2.2.2.2.2.2⟩
  have KB : Hid ((w1.alloc (.cells #[.slice (some ⟨g0, 0, none⟩) 4 4, .slice (some ⟨g1, 0, none⟩) 4 k1, .slice b2 n2 k2] 26)).cell? ⟨w1.heap.size, 0, none⟩ = some (.slice (some ⟨g0, 0, none⟩) 4 4) ∧ (w1.alloc (.cells #[.slice (some ⟨g0, 0, none⟩) 4 4, .slice (some ⟨g1, 0, none⟩) 4 k1, .slice b2 n2 k2] 26)).cell? ⟨w1.heap.size, 1, none⟩ = some (.slice (some ⟨g1, 0, none⟩) 4 k1) ∧ (w1.alloc (.cells #[.slice (some ⟨g0, 0, none⟩) 4 4, .slice (some ⟨g1, 0, none⟩) 4 k1, .slice b2 n2 k2] 26)).cell? ⟨w1.heap.size, 2, none⟩ = some (.slice b2 n2 k2)) := by show _ ∧ _; refine ⟨?_, ?_, ?_⟩ <;> rw [World.cell?_alloc_at _ _ _ _ rfl] <;> rfl
  have BV : Hid (Below w.heap.size w (w1.alloc (.cells #[.slice (some ⟨g0, 0, none⟩) 4 4, .slice (some ⟨g1, 0, none⟩) 4 k1, .slice b2 n2 k2] 26))) := B1.out.alloc B1.out.size _
  have itI : (it : Int) < 4 := by omega
  have hww : (Lit.int .i64 who).wf = true := int_wf who (by omega) (by omega)
  have HTOT : Hid (∀ (rs' : List LV) (xs : Knl.Ll), lplain rs' = xs → rs'.length = 4 → (∀ r ∈ rs', r.zs.length = r.n) → (∀ k, k < 4 → (xs.getD k []).length ≤ 100) → totalL rs' ≤ 1048576) := fun rs' xs e hl hv h5 => total_small e hl hv h5
  have HR4 : Hid (∀ k, k < 4 → (d.1.getD k []).length ≤ 4) := fun k hk => rise_len (good_row HG.out hk)
  clear hpl hok hb1 bV
  cases wri
  · have HQL : Hid (rs.length = 4) := OK1.out.len
    have HZQ : Hid ((rs.getD it ld).zs = d.1.getD it []) := lplain_at HP.out (by rw [HQL.out]; exact hit)
    have HQO : Hid ((w1.alloc (.cells #[.slice (some ⟨g0, 0, none⟩) 4 4, .slice (some ⟨g1, 0, none⟩) 4 k1, .slice b2 n2 k2] 26)).ownsRow (w.heap.size + 3 + 2) 3 1 (.slice (rs.getD it ld).a (rs.getD it ld).n (rs.getD it ld).c) (rs.getD it ld).n (ints .i64 (rs.getD it ld).zs)) := own_inner OKV.out hit
    have hsl : (w1.alloc (.cells #[.slice (some ⟨g0, 0, none⟩) 4 4, .slice (some ⟨g1, 0, none⟩) 4 k1, .slice b2 n2 k2] 26)).drew.cell? ⟨g0, it, none⟩ = some (.slice (rs.getD it ld).a (rs.getD it ld).n (rs.getD it ld).c) := by rw [World.cell?_drew]; exact slot_at OKV.out hit
    have bE : Below (w1.alloc (.cells #[.slice (some ⟨g0, 0, none⟩) 4 4, .slice (some ⟨g1, 0, none⟩) 4 k1, .slice b2 n2 k2] 26)).heap.size (w1.alloc (.cells #[.slice (some ⟨g0, 0, none⟩) 4 4, .slice (some ⟨g1, 0, none⟩) 4 k1, .slice b2 n2 k2] 26)) ((w1.alloc (.cells #[.slice (some ⟨g0, 0, none⟩) 4 4, .slice (some ⟨g1, 0, none⟩) 4 k1, .slice b2 n2 k2] 26)).alloc (.cells #[.int .i64 who] 3)).drew := ((Below.refl _ _).alloc (Nat.le_refl _) _).drew
    have hslE : ((w1.alloc (.cells #[.slice (some ⟨g0, 0, none⟩) 4 4, .slice (some ⟨g1, 0, none⟩) 4 k1, .slice b2 n2 k2] 26)).alloc (.cells #[.int .i64 who] 3)).drew.cell? ⟨g0, it, none⟩ = some (.slice (rs.getD it ld).a (rs.getD it ld).n (rs.getD it ld).c) := Frame.held_cell bE (slot_at OKV.out hit)
    have HM : Hid (rs.getD it ld ∈ rs) := getD_mem_ld (by rw [HQL.out]; exact hit)
    have HSW : Hid (∀ (B : Nat) (r : LV) (W' : World), OnlyAt (rs.getD it ld).a (w1.alloc (.cells #[.slice (some ⟨g0, 0, none⟩) 4 4, .slice (some ⟨g1, 0, none⟩) 4 k1, .slice b2 n2 k2] 26)) W' → W'.ownsRow B 3 1 (.slice r.a r.n r.c) r.n (ints .i64 r.zs) → (∀ z ∈ r.zs, (Lit.int .i64 z).wf = true) → (w1.alloc (.cells #[.slice (some ⟨g0, 0, none⟩) 4 4, .slice (some ⟨g1, 0, none⟩) 4 k1, .slice b2 n2 k2] 26)).heap.size ≤ B → OwnK (w.heap.size + 3 + 2) (W'.setCell ⟨g0, it, none⟩ (.slice r.a r.n r.c)) g0 4 (rs.set it r) g1 k1 d.2.1 b2 n2 k2 d.2.2) := fun B r W' t hr hw hB => OKV.out.swap hit t hr hw (by have h0 := OKV.out.lt0; omega) ⟨by have := OKV.out.lt.1; omega, by have := OKV.out.lt.2.1; omega, fun x hx => by have := OKV.out.lt.2.2.1 x hx; omega, fun s hs x hx => by have := OKV.out.lt.2.2.2 s hs x hx; omega⟩
    have HOFA : Hid (∀ x, (rs.getD it ld).a = some x → x.block ≠ w.heap.size + 1) := OFA.out.orr _ HM.out
    have HOFR : Hid (∀ x, (rs.getD it ld).a = some x → x.block ≠ w.heap.size + 1 + 1) := OFR.out.orr _ HM.out
    have HOFB : Hid (∀ x, (rs.getD it ld).a = some x → x.block ≠ w1.heap.size) := OFF.out.orr _ HM.out
    have HF0 : Hid (Far (some ⟨g0, 0, none⟩) (rs.getD it ld).a) := OKV.out.rows.apart0 _ HM.out
    have HQLT : Hid (∀ x, (rs.getD it ld).a = some x → w.heap.size + 3 + 2 ≤ x.block) := fun x hx => (OK1.out.ltr _ HM.out x hx).1
    have HQN : Hid ((rs.getD it ld).n ≤ 4) := by
      have h := HR4.out it hit
      have h2 := HQO.out.1
      rw [ints_length, HZQ.out] at h2
      show _ ≤ _
      omega
    have HUP : Hid (UpN (rs.getD it ld).zs) := by show UpN _; rw [HZQ.out]; exact rise_up HR.out
    have HZW : Hid (∀ z ∈ (rs.getD it ld).zs, (Lit.int .i64 z).wf = true) := OKV.out.rows.wf _ HM.out
    have HSL : Hid ((w1.alloc (.cells #[.slice (some ⟨g0, 0, none⟩) 4 4, .slice (some ⟨g1, 0, none⟩) 4 k1, .slice b2 n2 k2] 26)).cell? ⟨g0, it, none⟩ = some (.slice (rs.getD it ld).a (rs.getD it ld).n (rs.getD it ld).c)) := slot_at OKV.out hit
    generalize rs.getD it ld = q at HSL HZQ HQO hsl hslE HSW HOFA HOFR HOFB HF0 HQN HUP HZW HQLT
    obtain ⟨qa, qn, qc, qz⟩ := q
    simp only at hsl hslE
    have KDX : Hid ((w1.alloc (.cells #[.slice (some ⟨g0, 0, none⟩) 4 4, .slice (some ⟨g1, 0, none⟩) 4 k1, .slice b2 n2 k2] 26)).drew.cell? ⟨w.heap.size + 1, 0, none⟩ = some (.int .i64 who) ∧ (w1.alloc (.cells #[.slice (some ⟨g0, 0, none⟩) 4 4, .slice (some ⟨g1, 0, none⟩) 4 k1, .slice b2 n2 k2] 26)).drew.cell? ⟨w.heap.size + 1, 1, none⟩ = some (.int .i64 (it : Int)) ∧ (w1.alloc (.cells #[.slice (some ⟨g0, 0, none⟩) 4 4, .slice (some ⟨g1, 0, none⟩) 4 k1, .slice b2 n2 k2] 26)).drew.cell? ⟨w.heap.size + 1, 2, none⟩ = some (.bool false) ∧ (w1.alloc (.cells #[.slice (some ⟨g0, 0, none⟩) 4 4, .slice (some ⟨g1, 0, none⟩) 4 k1, .slice b2 n2 k2] 26)).drew.cell? ⟨w.heap.size + 1, 3, none⟩ = some (.bool fin) ∧ (w1.alloc (.cells #[.slice (some ⟨g0, 0, none⟩) 4 4, .slice (some ⟨g1, 0, none⟩) 4 k1, .slice b2 n2 k2] 26)).drew.cell? ⟨w1.heap.size, 0, none⟩ = some (.slice (some ⟨g0, 0, none⟩) 4 4) ∧ (w1.alloc (.cells #[.slice (some ⟨g0, 0, none⟩) 4 4, .slice (some ⟨g1, 0, none⟩) 4 k1, .slice b2 n2 k2] 26)).drew.cell? ⟨w1.heap.size, 1, none⟩ = some (.slice (some ⟨g1, 0, none⟩) 4 k1) ∧ (w1.alloc (.cells #[.slice (some ⟨g0, 0, none⟩) 4 4, .slice (some ⟨g1, 0, none⟩) 4 k1, .slice b2 n2 k2] 26)).drew.cell? ⟨w1.heap.size, 2, none⟩ = some (.slice b2 n2 k2)) := by
      show _ ∧ _
      simp only [World.cell?_drew]
      exact ⟨KV.out.1, KV.out.2.1, KV.out.2.2.1, KV.out.2.2.2.1, KB.out.1, KB.out.2.1, KB.out.2.2⟩
    have KEQ : Hid (((w1.alloc (.cells #[.slice (some ⟨g0, 0, none⟩) 4 4, .slice (some ⟨g1, 0, none⟩) 4 k1, .slice b2 n2 k2] 26)).alloc (.cells #[.int .i64 who] 3)).drew.cell? ⟨w.heap.size + 1, 0, none⟩ = some (.int .i64 who) ∧ ((w1.alloc (.cells #[.slice (some ⟨g0, 0, none⟩) 4 4, .slice (some ⟨g1, 0, none⟩) 4 k1, .slice b2 n2 k2] 26)).alloc (.cells #[.int .i64 who] 3)).drew.cell? ⟨w.heap.size + 1, 1, none⟩ = some (.int .i64 (it : Int)) ∧ ((w1.alloc (.cells #[.slice (some ⟨g0, 0, none⟩) 4 4, .slice (some ⟨g1, 0, none⟩) 4 k1, .slice b2 n2 k2] 26)).alloc (.cells #[.int .i64 who] 3)).drew.cell? ⟨w.heap.size + 1, 2, none⟩ = some (.bool false) ∧ ((w1.alloc (.cells #[.slice (some ⟨g0, 0, none⟩) 4 4, .slice (some ⟨g1, 0, none⟩) 4 k1, .slice b2 n2 k2] 26)).alloc (.cells #[.int .i64 who] 3)).drew.cell? ⟨w.heap.size + 1, 3, none⟩ = some (.bool fin) ∧ ((w1.alloc (.cells #[.slice (some ⟨g0, 0, none⟩) 4 4, .slice (some ⟨g1, 0, none⟩) 4 k1, .slice b2 n2 k2] 26)).alloc (.cells #[.int .i64 who] 3)).drew.cell? ⟨w.heap.size + 1 + 1, 0, none⟩ = some (.slice none 0 0) ∧ ((w1.alloc (.cells #[.slice (some ⟨g0, 0, none⟩) 4 4, .slice (some ⟨g1, 0, none⟩) 4 k1, .slice b2 n2 k2] 26)).alloc (.cells #[.int .i64 who] 3)).drew.cell? ⟨w.heap.size + 1 + 1, 1, none⟩ = some (.slice none 0 0) ∧ ((w1.alloc (.cells #[.slice (some ⟨g0, 0, none⟩) 4 4, .slice (some ⟨g1, 0, none⟩) 4 k1, .slice b2 n2 k2] 26)).alloc (.cells #[.int .i64 who] 3)).drew.cell? ⟨w.heap.size + 1 + 1, 2, none⟩ = some (.slice none 0 0) ∧ ((w1.alloc (.cells #[.slice (some ⟨g0, 0, none⟩) 4 4, .slice (some ⟨g1, 0, none⟩) 4 k1, .slice b2 n2 k2] 26)).alloc (.cells #[.int .i64 who] 3)).drew.frozen? ⟨w.heap.size + 1 + 1, 0, none⟩ = false ∧ ((w1.alloc (.cells #[.slice (some ⟨g0, 0, none⟩) 4 4, .slice (some ⟨g1, 0, none⟩) 4 k1, .slice b2 n2 k2] 26)).alloc (.cells #[.int .i64 who] 3)).drew.frozen? ⟨w.heap.size + 1 + 1, 1, none⟩ = false ∧ ((w1.alloc (.cells #[.slice (some ⟨g0, 0, none⟩) 4 4, .slice (some ⟨g1, 0, none⟩) 4 k1, .slice b2 n2 k2] 26)).alloc (.cells #[.int .i64 who] 3)).drew.frozen? ⟨w.heap.size + 1 + 1, 2, none⟩ = false) := ⟨Frame.held_cell bE (KV.out.1), Frame.held_cell bE (KV.out.2.1), Frame.held_cell bE (KV.out.2.2.1), Frame.held_cell bE (KV.out.2.2.2.1), Frame.held_cell bE (KV.out.2.2.2.2.1), Frame.held_cell bE (KV.out.2.2.2.2.2.1), Frame.held_cell bE (KV.out.2.2.2.2.2.2.1), (bE.frozen (Frame.cell_lt (KV.out.2.2.2.2.1))).trans (KV.out.2.2.2.2.2.2.2.1), (bE.frozen (Frame.cell_lt (KV.out.2.2.2.2.2.1))).trans (KV.out.2.2.2.2.2.2.2.2.1), (bE.frozen (Frame.cell_lt (KV.out.2.2.2.2.2.2.1))).trans (KV.out.2.2.2.2.2.2.2.2.2)⟩
    have KEB : Hid (((w1.alloc (.cells #[.slice (some ⟨g0, 0, none⟩) 4 4, .slice (some ⟨g1, 0, none⟩) 4 k1, .slice b2 n2 k2] 26)).alloc (.cells #[.int .i64 who] 3)).drew.cell? ⟨w1.heap.size, 0, none⟩ = some (.slice (some ⟨g0, 0, none⟩) 4 4) ∧ ((w1.alloc (.cells #[.slice (some ⟨g0, 0, none⟩) 4 4, .slice (some ⟨g1, 0, none⟩) 4 k1, .slice b2 n2 k2] 26)).alloc (.cells #[.int .i64 who] 3)).drew.cell? ⟨w1.heap.size, 1, none⟩ = some (.slice (some ⟨g1, 0, none⟩) 4 k1) ∧ ((w1.alloc (.cells #[.slice (some ⟨g0, 0, none⟩) 4 4, .slice (some ⟨g1, 0, none⟩) 4 k1, .slice b2 n2 k2] 26)).alloc (.cells #[.int .i64 who] 3)).drew.cell? ⟨w1.heap.size, 2, none⟩ = some (.slice b2 n2 k2)) := ⟨Frame.held_cell bE (KB.out.1), Frame.held_cell bE (KB.out.2.1), Frame.held_cell bE (KB.out.2.2)⟩
    have KE : Hid (((w1.alloc (.cells #[.slice (some ⟨g0, 0, none⟩) 4 4, .slice (some ⟨g1, 0, none⟩) 4 k1, .slice b2 n2 k2] 26)).alloc (.cells #[.int .i64 who] 3)).drew.cell? ⟨w.heap.size + 1, 0, none⟩ = some (.int .i64 who) ∧ ((w1.alloc (.cells #[.slice (some ⟨g0, 0, none⟩) 4 4, .slice (some ⟨g1, 0, none⟩) 4 k1, .slice b2 n2 k2] 26)).alloc (.cells #[.int .i64 who] 3)).drew.cell? ⟨w.heap.size + 1, 1, none⟩ = some (.int .i64 (it : Int)) ∧ ((w1.alloc (.cells #[.slice (some ⟨g0, 0, none⟩) 4 4, .slice (some ⟨g1, 0, none⟩) 4 k1, .slice b2 n2 k2] 26)).alloc (.cells #[.int .i64 who] 3)).drew.cell? ⟨w.heap.size + 1, 2, none⟩ = some (.bool false) ∧ ((w1.alloc (.cells #[.slice (some ⟨g0, 0, none⟩) 4 4, .slice (some ⟨g1, 0, none⟩) 4 k1, .slice b2 n2 k2] 26)).alloc (.cells #[.int .i64 who] 3)).drew.cell? ⟨w.heap.size + 1, 3, none⟩ = some (.bool fin) ∧ ((w1.alloc (.cells #[.slice (some ⟨g0, 0, none⟩) 4 4, .slice (some ⟨g1, 0, none⟩) 4 k1, .slice b2 n2 k2] 26)).alloc (.cells #[.int .i64 who] 3)).drew.cell? ⟨w1.heap.size, 0, none⟩ = some (.slice (some ⟨g0, 0, none⟩) 4 4) ∧ ((w1.alloc (.cells #[.slice (some ⟨g0, 0, none⟩) 4 4, .slice (some ⟨g1, 0, none⟩) 4 k1, .slice b2 n2 k2] 26)).alloc (.cells #[.int .i64 who] 3)).drew.cell? ⟨w1.heap.size, 1, none⟩ = some (.slice (some ⟨g1, 0, none⟩) 4 k1) ∧ ((w1.alloc (.cells #[.slice (some ⟨g0, 0, none⟩) 4 4, .slice (some ⟨g1, 0, none⟩) 4 k1, .slice b2 n2 k2] 26)).alloc (.cells #[.int .i64 who] 3)).drew.cell? ⟨w1.heap.size, 2, none⟩ = some (.slice b2 n2 k2)) := ⟨KEQ.out.1, KEQ.out.2.1, KEQ.out.2.2.1, KEQ.out.2.2.2.1, KEB.out.1, KEB.out.2.1, KEB.out.2.2⟩
    have OWE : Hid (((w1.alloc (.cells #[.slice (some ⟨g0, 0, none⟩) 4 4, .slice (some ⟨g1, 0, none⟩) 4 k1, .slice b2 n2 k2] 26)).alloc (.cells #[.int .i64 who] 3)).drew.ownsRow (w.heap.size + 3 + 2) 3 1 (.slice qa qn qc) qn (ints .i64 qz)) := own_below HQO.out bE
    have hbs : w.heap.size + 3 + 2 ≤ ((w1.alloc (.cells #[.slice (some ⟨g0, 0, none⟩) 4 4, .slice (some ⟨g1, 0, none⟩) 4 k1, .slice b2 n2 k2] 26)).alloc (.cells #[.int .i64 who] 3)).drew.heap.size := Nat.le_trans (by have h0 := OKV.out.lt0; omega) bE.size
    have NW := news_at (w1.alloc (.cells #[.slice (some ⟨g0, 0, none⟩) 4 4, .slice (some ⟨g1, 0, none⟩) 4 k1, .slice b2 n2 k2] 26)) (.int .i64 who) 3 (w1.heap.size + 1) (by simp)
    have NWE : Hid (∀ j u, ([.int .i64 who] : List Value)[j]? = some u → ((w1.alloc (.cells #[.slice (some ⟨g0, 0, none⟩) 4 4, .slice (some ⟨g1, 0, none⟩) 4 k1, .slice b2 n2 k2] 26)).alloc (.cells #[.int .i64 who] 3)).drew.cell? ((⟨w1.heap.size + 1, 0, none⟩ : Addr).add j) = some u) := NW
    have hqn : qn ≤ 4 := HQN.out
    have itI2 : (it : Int) < 4 := by omega
    have hg0r := OKV.out.lt0
    have TE : Hid (OnlyAt qa (w1.alloc (.cells #[.slice (some ⟨g0, 0, none⟩) 4 4, .slice (some ⟨g1, 0, none⟩) 4 k1, .slice b2 n2 k2] 26)) ((w1.alloc (.cells #[.slice (some ⟨g0, 0, none⟩) 4 4, .slice (some ⟨g1, 0, none⟩) 4 k1, .slice b2 n2 k2] 26)).alloc (.cells #[.int .i64 who] 3)).drew) := OnlyAt.of_below bE
    obtain ⟨q0, q1, q2, q3, r0, r1, r2, z0, z1, z2⟩ := KV.out
    obtain ⟨p0, p1, p2⟩ := KB.out
    clear NW bE
    go_wp2_with fail
    clear q0 q1 q2 q3 r0 r1 r2 z0 z1 z2 p0 p1 p2
    refine wp_region_held_drew (S := fun w' => w'.cell? ⟨w.heap.size + 1, 0, none⟩ = some (.int .i64 who) ∧ w'.cell? ⟨w.heap.size + 1, 1, none⟩ = some (.int .i64 (it : Int)) ∧ w'.cell? ⟨w.heap.size + 1, 2, none⟩ = some (.bool false) ∧ w'.cell? ⟨w.heap.size + 1, 3, none⟩ = some (.bool fin) ∧ w'.cell? ⟨w1.heap.size, 0, none⟩ = some (.slice (some ⟨g0, 0, none⟩) 4 4) ∧ w'.cell? ⟨w1.heap.size, 1, none⟩ = some (.slice (some ⟨g1, 0, none⟩) 4 k1) ∧ w'.cell? ⟨w1.heap.size, 2, none⟩ = some (.slice b2 n2 k2)) (by kernel_rfl) ?_ (fun hHeld => ?_)
    · exact KDX.out
    refine wpAnyH_take (i := 0) (v := (.pointer (some ⟨w1.heap.size, 0, none⟩))) rfl (by kernel_rfl) (by kernel_rfl) (by kernel_rfl) (fun _ _ _ h => h) (Or.inl ⟨by rfl, ?_⟩) (by assumption) ?_
    · intro w hSw; (try dsimp only at hSw); go_simp
    (try show wpAnyH _ _ _ _ _ _ _ (Act.put _ (some 17) _) _); (try simp only [Act.put, List.setIfInBounds_toArray, List.set_cons_zero, List.set_cons_succ])
    refine wpAnyH_take (i := 1) (v := (.slice (some ⟨g0, 0, none⟩) 4 4)) rfl (by kernel_rfl) (by kernel_rfl) (by kernel_rfl) (fun _ _ _ h => h) (Or.inl ⟨by rfl, ?_⟩) (by assumption) ?_
    · intro w hSw; (try dsimp only at hSw); go_simp
    (try show wpAnyH _ _ _ _ _ _ _ (Act.put _ (some 18) _) _); (try simp only [Act.put, List.setIfInBounds_toArray, List.set_cons_zero, List.set_cons_succ])
    refine wpAnyH_take (i := 2) (v := (.pointer (some ⟨w.heap.size + 1, 1, none⟩))) rfl (by kernel_rfl) (by kernel_rfl) (by kernel_rfl) (fun _ _ _ h => h) (Or.inl ⟨by rfl, ?_⟩) (by assumption) ?_
    · intro w hSw; (try dsimp only at hSw); go_simp
    (try show wpAnyH _ _ _ _ _ _ _ (Act.put _ (some 19) _) _); (try simp only [Act.put, List.setIfInBounds_toArray, List.set_cons_zero, List.set_cons_succ])
    refine wpAnyH_take (i := 3) (v := (.int .i64 (it : Int))) rfl (by kernel_rfl) (by kernel_rfl) (by kernel_rfl) (fun _ _ _ h => h) (Or.inl ⟨by rfl, ?_⟩) (by assumption) ?_
    · intro w hSw; (try dsimp only at hSw); go_simp
    (try show wpAnyH _ _ _ _ _ _ _ (Act.put _ (some 20) _) _); (try simp only [Act.put, List.setIfInBounds_toArray, List.set_cons_zero, List.set_cons_succ])
    refine wpAnyH_take (i := 4) (v := (.pointer (some ⟨w1.heap.size, 0, none⟩))) rfl (by kernel_rfl) (by kernel_rfl) (by kernel_rfl) (fun _ _ _ h => h) (Or.inl ⟨by rfl, ?_⟩) (by assumption) ?_
    · intro w hSw; (try dsimp only at hSw); go_simp
    (try show wpAnyH _ _ _ _ _ _ _ (Act.put _ (some 21) _) _); (try simp only [Act.put, List.setIfInBounds_toArray, List.set_cons_zero, List.set_cons_succ])
    refine wpAnyH_take (i := 5) (v := (.slice (some ⟨g0, 0, none⟩) 4 4)) rfl (by kernel_rfl) (by kernel_rfl) (by kernel_rfl) (fun _ _ _ h => h) (Or.inl ⟨by rfl, ?_⟩) (by assumption) ?_
    · intro w hSw; (try dsimp only at hSw); go_simp
    (try show wpAnyH _ _ _ _ _ _ _ (Act.put _ (some 22) _) _); (try simp only [Act.put, List.setIfInBounds_toArray, List.set_cons_zero, List.set_cons_succ])
    refine wpAnyH_take (i := 6) (v := (.pointer (some ⟨w.heap.size + 1, 1, none⟩))) rfl (by kernel_rfl) (by kernel_rfl) (by kernel_rfl) (fun _ _ _ h => h) (Or.inl ⟨by rfl, ?_⟩) (by assumption) ?_
    · intro w hSw; (try dsimp only at hSw); go_simp
    (try show wpAnyH _ _ _ _ _ _ _ (Act.put _ (some 23) _) _); (try simp only [Act.put, List.setIfInBounds_toArray, List.set_cons_zero, List.set_cons_succ])
    refine wpAnyH_take (i := 7) (v := (.int .i64 (it : Int))) rfl (by kernel_rfl) (by kernel_rfl) (by kernel_rfl) (fun _ _ _ h => h) (Or.inl ⟨by rfl, ?_⟩) (by assumption) ?_
    · intro w hSw; (try dsimp only at hSw); go_simp
    (try show wpAnyH _ _ _ _ _ _ _ (Act.put _ (some 24) _) _); (try simp only [Act.put, List.setIfInBounds_toArray, List.set_cons_zero, List.set_cons_succ])
    refine wpAnyH_take (i := 8) (v := (.pointer (some ⟨g0, it, none⟩))) rfl (by kernel_rfl) (by kernel_rfl) (by kernel_rfl) (fun _ _ _ h => h) (Or.inl ⟨by rfl, ?_⟩) (by assumption) ?_
    · intro w hSw; (try dsimp only at hSw); go_simp
    (try show wpAnyH _ _ _ _ _ _ _ (Act.put _ (some 25) _) _); (try simp only [Act.put, List.setIfInBounds_toArray, List.set_cons_zero, List.set_cons_succ])
    refine wpAnyH_take (i := 10) (v := (.pointer (some ⟨w.heap.size + 1, 0, none⟩))) rfl (by kernel_rfl) (by kernel_rfl) (by kernel_rfl) (fun _ _ _ h => h) (Or.inl ⟨by rfl, ?_⟩) (by assumption) ?_
    · intro w hSw; (try dsimp only at hSw); go_simp
    (try show wpAnyH _ _ _ _ _ _ _ (Act.put _ (some 27) _) _); (try simp only [Act.put, List.setIfInBounds_toArray, List.set_cons_zero, List.set_cons_succ])
    refine wpAnyH_take (i := 11) (v := (.int .i64 who)) rfl (by kernel_rfl) (by kernel_rfl) (by kernel_rfl) (fun _ _ _ h => h) (Or.inl ⟨by rfl, ?_⟩) (by assumption) ?_
    · intro w hSw; (try dsimp only at hSw); go_simp
    (try show wpAnyH _ _ _ _ _ _ _ (Act.put _ (some 28) _) _); (try simp only [Act.put, List.setIfInBounds_toArray, List.set_cons_zero, List.set_cons_succ])
    refine wpAnyH_ready (rs := [9, 12]) (by kernel_rfl) (by simp) ?_
    refine (AllReadyH.cons rfl (fun K hK => ?_) (AllReadyH.cons rfl (fun K hK => ?_) AllReadyH.nil))
    · go_simp
      refine hK.out _ _ ?_ (fun hHeld => ?_)
      · exact KDX.out
      clear hK K
      (try show wpAnyH _ _ _ _ _ _ _ (Act.put _ (some 26) _) _); (try simp only [Act.put, List.setIfInBounds_toArray, List.set_cons_zero, List.set_cons_succ])
      refine wpAnyH_ready (rs := [12]) (by kernel_rfl) (by simp) ?_
      refine AllReadyH.cons rfl (fun K hK => ?_) AllReadyH.nil
      go_simp
      refine hK.out _ _ ?_ (fun hHeld => ?_)
      · exact KE.out
      clear hK K
      (try show wpAnyH _ _ _ _ _ _ _ (Act.put _ (some 29) _) _); (try simp only [Act.put, List.setIfInBounds_toArray, List.set_cons_zero, List.set_cons_succ])
      refine wpAnyH_ready (rs := [13]) (by kernel_rfl) (by simp) ?_
      refine AllReadyH.cons rfl (fun K hK => ?_) AllReadyH.nil
      refine step_append_lies _ (by rfl) _ _ 24 (by rfl) (w.heap.size + 3 + 2) 3 i0 (.int .i64 0) 1 8 Try.underlying24 hi hz0 hz1 hz2 rfl (by decide) (.slice qa qn qc) qn (ints .i64 qz) (by rfl) OWE.out ⟨w1.heap.size + 1, 0, none⟩ 1 1 [.int .i64 who] (by rfl) rfl NWE.out (by simp [Value.oneCell']) (by omega) (by unfold maxLen; omega) (by omega) hbs _ rfl ?_; intro g cap' w4 hown4 hgrow4 hat4 hlt4; have T4 : Hid (OnlyAt qa ((w1.alloc (.cells #[.slice (some ⟨g0, 0, none⟩) 4 4, .slice (some ⟨g1, 0, none⟩) 4 k1, .slice b2 n2 k2] 26)).alloc (.cells #[.int .i64 who] 3)).drew w4) := Sc.only_grown hgrow4; have R4 : Hid (IsRow .i64 w4 (some ⟨g, 0, none⟩) (qn + 1) cap' (qz ++ [who])) := own_row (by simpa [ints] using hown4) (fun z hz => (List.mem_append.1 hz).elim (HZW.out z) (fun e => (List.mem_singleton.1 e) ▸ hww)); have K4Q : Hid (w4.cell? ⟨w.heap.size + 1, 0, none⟩ = some (.int .i64 who) ∧ w4.cell? ⟨w.heap.size + 1, 1, none⟩ = some (.int .i64 (it : Int)) ∧ w4.cell? ⟨w.heap.size + 1, 2, none⟩ = some (.bool false) ∧ w4.cell? ⟨w.heap.size + 1, 3, none⟩ = some (.bool fin) ∧ w4.cell? ⟨w.heap.size + 1 + 1, 0, none⟩ = some (.slice none 0 0) ∧ w4.cell? ⟨w.heap.size + 1 + 1, 1, none⟩ = some (.slice none 0 0) ∧ w4.cell? ⟨w.heap.size + 1 + 1, 2, none⟩ = some (.slice none 0 0) ∧ w4.frozen? ⟨w.heap.size + 1 + 1, 0, none⟩ = false ∧ w4.frozen? ⟨w.heap.size + 1 + 1, 1, none⟩ = false ∧ w4.frozen? ⟨w.heap.size + 1 + 1, 2, none⟩ = false) := ⟨only_cell T4.out HOFA.out (KEQ.out.1), only_cell T4.out HOFA.out (KEQ.out.2.1), only_cell T4.out HOFA.out (KEQ.out.2.2.1), only_cell T4.out HOFA.out (KEQ.out.2.2.2.1), only_cell T4.out HOFR.out (KEQ.out.2.2.2.2.1), only_cell T4.out HOFR.out (KEQ.out.2.2.2.2.2.1), only_cell T4.out HOFR.out (KEQ.out.2.2.2.2.2.2.1), only_frozen T4.out HOFR.out (KEQ.out.2.2.2.2.1) (KEQ.out.2.2.2.2.2.2.2.1), only_frozen T4.out HOFR.out (KEQ.out.2.2.2.2.2.1) (KEQ.out.2.2.2.2.2.2.2.2.1), only_frozen T4.out HOFR.out (KEQ.out.2.2.2.2.2.2.1) (KEQ.out.2.2.2.2.2.2.2.2.2)⟩; have K4B : Hid (w4.cell? ⟨w1.heap.size, 0, none⟩ = some (.slice (some ⟨g0, 0, none⟩) 4 4) ∧ w4.cell? ⟨w1.heap.size, 1, none⟩ = some (.slice (some ⟨g1, 0, none⟩) 4 k1) ∧ w4.cell? ⟨w1.heap.size, 2, none⟩ = some (.slice b2 n2 k2)) := ⟨only_cell T4.out HOFB.out (KEB.out.1), only_cell T4.out HOFB.out (KEB.out.2.1), only_cell T4.out HOFB.out (KEB.out.2.2)⟩; have K4 : Hid (w4.cell? ⟨w.heap.size + 1, 0, none⟩ = some (.int .i64 who) ∧ w4.cell? ⟨w.heap.size + 1, 1, none⟩ = some (.int .i64 (it : Int)) ∧ w4.cell? ⟨w.heap.size + 1, 2, none⟩ = some (.bool false) ∧ w4.cell? ⟨w.heap.size + 1, 3, none⟩ = some (.bool fin) ∧ w4.cell? ⟨w1.heap.size, 0, none⟩ = some (.slice (some ⟨g0, 0, none⟩) 4 4) ∧ w4.cell? ⟨w1.heap.size, 1, none⟩ = some (.slice (some ⟨g1, 0, none⟩) 4 k1) ∧ w4.cell? ⟨w1.heap.size, 2, none⟩ = some (.slice b2 n2 k2)) := ⟨K4Q.out.1, K4Q.out.2.1, K4Q.out.2.2.1, K4Q.out.2.2.2.1, K4B.out.1, K4B.out.2.1, K4B.out.2.2⟩; clear hown4 hgrow4 hat4 hlt4
      refine hK.out _ _ ?_ (fun hHeld => ?_)
      · exact K4.out
      clear hK K
      (try show wpAnyH _ _ _ _ _ _ _ (Act.put _ (some 30) _) _); (try simp only [Act.put, List.setIfInBounds_toArray, List.set_cons_zero, List.set_cons_succ])
      refine wpAnyH_ready (rs := [14]) (by kernel_rfl) (by simp) ?_
      refine AllReadyH.cons rfl (fun K hK => ?_) AllReadyH.nil
      go_simp
      (refine (Od.once_int (some ⟨g, 0, none⟩) (qn + 1) cap' (qz ++ [who]) _ R4.out (by omega)).mono ?_; rintro e w5 ⟨a', m, c', os, rfl, hm, ho5, hon, hwf5, hb5⟩; have T5 : Hid (OnlyAt qa (w1.alloc (.cells #[.slice (some ⟨g0, 0, none⟩) 4 4, .slice (some ⟨g1, 0, none⟩) 4 k1, .slice b2 n2 k2] 26)) w5) := (TE.out.trans T4.out).trans (OnlyAt.of_below hb5); have K5Q : Hid (w5.cell? ⟨w.heap.size + 1, 0, none⟩ = some (.int .i64 who) ∧ w5.cell? ⟨w.heap.size + 1, 1, none⟩ = some (.int .i64 (it : Int)) ∧ w5.cell? ⟨w.heap.size + 1, 2, none⟩ = some (.bool false) ∧ w5.cell? ⟨w.heap.size + 1, 3, none⟩ = some (.bool fin) ∧ w5.cell? ⟨w.heap.size + 1 + 1, 0, none⟩ = some (.slice none 0 0) ∧ w5.cell? ⟨w.heap.size + 1 + 1, 1, none⟩ = some (.slice none 0 0) ∧ w5.cell? ⟨w.heap.size + 1 + 1, 2, none⟩ = some (.slice none 0 0) ∧ w5.frozen? ⟨w.heap.size + 1 + 1, 0, none⟩ = false ∧ w5.frozen? ⟨w.heap.size + 1 + 1, 1, none⟩ = false ∧ w5.frozen? ⟨w.heap.size + 1 + 1, 2, none⟩ = false) := ⟨Frame.held_cell hb5 (K4Q.out.1), Frame.held_cell hb5 (K4Q.out.2.1), Frame.held_cell hb5 (K4Q.out.2.2.1), Frame.held_cell hb5 (K4Q.out.2.2.2.1), Frame.held_cell hb5 (K4Q.out.2.2.2.2.1), Frame.held_cell hb5 (K4Q.out.2.2.2.2.2.1), Frame.held_cell hb5 (K4Q.out.2.2.2.2.2.2.1), (hb5.frozen (Frame.cell_lt (K4Q.out.2.2.2.2.1))).trans (K4Q.out.2.2.2.2.2.2.2.1), (hb5.frozen (Frame.cell_lt (K4Q.out.2.2.2.2.2.1))).trans (K4Q.out.2.2.2.2.2.2.2.2.1), (hb5.frozen (Frame.cell_lt (K4Q.out.2.2.2.2.2.2.1))).trans (K4Q.out.2.2.2.2.2.2.2.2.2)⟩; have K5B : Hid (w5.cell? ⟨w1.heap.size, 0, none⟩ = some (.slice (some ⟨g0, 0, none⟩) 4 4) ∧ w5.cell? ⟨w1.heap.size, 1, none⟩ = some (.slice (some ⟨g1, 0, none⟩) 4 k1) ∧ w5.cell? ⟨w1.heap.size, 2, none⟩ = some (.slice b2 n2 k2)) := ⟨Frame.held_cell hb5 (K4B.out.1), Frame.held_cell hb5 (K4B.out.2.1), Frame.held_cell hb5 (K4B.out.2.2)⟩; have K5 : Hid (w5.cell? ⟨w.heap.size + 1, 0, none⟩ = some (.int .i64 who) ∧ w5.cell? ⟨w.heap.size + 1, 1, none⟩ = some (.int .i64 (it : Int)) ∧ w5.cell? ⟨w.heap.size + 1, 2, none⟩ = some (.bool false) ∧ w5.cell? ⟨w.heap.size + 1, 3, none⟩ = some (.bool fin) ∧ w5.cell? ⟨w1.heap.size, 0, none⟩ = some (.slice (some ⟨g0, 0, none⟩) 4 4) ∧ w5.cell? ⟨w1.heap.size, 1, none⟩ = some (.slice (some ⟨g1, 0, none⟩) 4 k1) ∧ w5.cell? ⟨w1.heap.size, 2, none⟩ = some (.slice b2 n2 k2)) := ⟨K5Q.out.1, K5Q.out.2.1, K5Q.out.2.2.1, K5Q.out.2.2.2.1, K5B.out.1, K5B.out.2.1, K5B.out.2.2⟩; have E5 : Hid (os = putN who qz) := once_put HUP.out hon; have hm5 : m ≤ qn + 1 := hm; have hszB : (w1.alloc (.cells #[.slice (some ⟨g0, 0, none⟩) 4 4, .slice (some ⟨g1, 0, none⟩) 4 k1, .slice b2 n2 k2] 26)).heap.size ≤ w4.heap.size := Nat.le_trans TE.out.size T4.out.size; have OK5 : Hid (OwnK (w.heap.size + 3 + 2) (w5.setCell ⟨g0, it, none⟩ (.slice a' m c')) g0 4 (rs.set it ⟨a', m, c', os⟩) g1 k1 d.2.1 b2 n2 k2 d.2.2) := HSW.out w4.heap.size ⟨a', m, c', os⟩ w5 T5.out ho5 hwf5 hszB; have ro := own_touch OKV.out.rows.outer T5.out (fun x y hx hy => HF0.out x y hx hy); have f5 := ro.frozenAt it; have hsl5 : w5.cell? ⟨g0, it, none⟩ = some (.slice qa qn qc) := only_cell T5.out (fun x hx => (HF0.out _ x rfl hx).symm) (HSL.out); have KC : Hid ((w5.setCell ⟨g0, it, none⟩ (.slice a' m c')).cell? ⟨w.heap.size + 1, 0, none⟩ = some (.int .i64 who) ∧ (w5.setCell ⟨g0, it, none⟩ (.slice a' m c')).cell? ⟨w.heap.size + 1, 1, none⟩ = some (.int .i64 (it : Int)) ∧ (w5.setCell ⟨g0, it, none⟩ (.slice a' m c')).cell? ⟨w.heap.size + 1, 2, none⟩ = some (.bool false) ∧ (w5.setCell ⟨g0, it, none⟩ (.slice a' m c')).cell? ⟨w.heap.size + 1, 3, none⟩ = some (.bool fin) ∧ (w5.setCell ⟨g0, it, none⟩ (.slice a' m c')).cell? ⟨w1.heap.size, 0, none⟩ = some (.slice (some ⟨g0, 0, none⟩) 4 4) ∧ (w5.setCell ⟨g0, it, none⟩ (.slice a' m c')).cell? ⟨w1.heap.size, 1, none⟩ = some (.slice (some ⟨g1, 0, none⟩) 4 k1) ∧ (w5.setCell ⟨g0, it, none⟩ (.slice a' m c')).cell? ⟨w1.heap.size, 2, none⟩ = some (.slice b2 n2 k2)) := ⟨set_cell (by omega) (K5Q.out.1), set_cell (by omega) (K5Q.out.2.1), set_cell (by omega) (K5Q.out.2.2.1), set_cell (by omega) (K5Q.out.2.2.2.1), set_cell (fun e => OFF.out.o0 e.symm) (K5B.out.1), set_cell (fun e => OFF.out.o0 e.symm) (K5B.out.2.1), set_cell (fun e => OFF.out.o0 e.symm) (K5B.out.2.2)⟩; have BF5 : Hid (Below w.heap.size w w5) := below_touch BV.out T5.out (fun x hx => by have := HQLT.out x hx; omega) BV.out.size; have L5 : Hid (os.length = m) := (by show _ = _; have h := ho5.1; rw [ints_length] at h; omega); clear ho5 hon hwf5 hb5 ro hm)
      go_wp2_with fail
      refine hK.out _ _ ?_ (fun hHeld => ?_)
      · exact K5.out
      clear hK K
      (try show wpAnyH _ _ _ _ _ _ _ (Act.put _ (some 31) _) _); (try simp only [Act.put, List.setIfInBounds_toArray, List.set_cons_zero, List.set_cons_succ])
      refine wpAnyH_take (i := 15) (v := (.pointer (some ⟨g0, it, none⟩))) rfl (by kernel_rfl) (by kernel_rfl) (by kernel_rfl) (fun _ _ _ h => h) (Or.inl ⟨by rfl, ?_⟩) (by assumption) ?_
      · intro w hSw; (try dsimp only at hSw); go_simp
      (try show wpAnyH _ _ _ _ _ _ _ (Act.put _ (some 32) _) _); (try simp only [Act.put, List.setIfInBounds_toArray, List.set_cons_zero, List.set_cons_succ])
      refine wpAnyH_ready (rs := [16]) (by kernel_rfl) (by simp) ?_
      refine AllReadyH.cons rfl (fun K hK => ?_) AllReadyH.nil
      go_simp
      refine hK.out _ _ ?_ (fun hHeld => ?_)
      · exact KC.out
      clear hK K
      (try simp only [Act.put, List.setIfInBounds_toArray, List.set_cons_zero, List.set_cons_succ])
      refine wpAnyH_done (by kernel_rfl) ?_ _
      have HT : Hid (totalL (rs.set it ⟨a', m, c', os⟩) ≤ 1048576) := HTOT.out _ (d.1.set it os) (by rw [lplain_set, HP.out]) OK5.out.len (OwnLs.vlen OK5.out.rows) (fun k hk => by
        by_cases e : it = k
        · subst e
          have hl : it < d.1.length := by rw [← HP.out]; simp [lplain, HQL.out]; omega
          simp [List.getD, hl]
          rw [L5.out]; omega
        · simp [List.getD, e]
          have := HR4.out k hk
          simp [List.getD] at this
          omega)
      have OFR5 : Hid (OffK (w.heap.size + 1 + 1) g0 (rs.set it ⟨a', m, c', os⟩) g1 b2) := OK5.out.off (Or.inl (by omega))
      obtain ⟨q0, q1, q2, q3, r0, r1, r2, z0, z1, z2⟩ := (show (w5.setCell ⟨g0, it, none⟩ (.slice a' m c')).cell? ⟨w.heap.size + 1, 0, none⟩ = some (.int .i64 who) ∧ (w5.setCell ⟨g0, it, none⟩ (.slice a' m c')).cell? ⟨w.heap.size + 1, 1, none⟩ = some (.int .i64 (it : Int)) ∧ (w5.setCell ⟨g0, it, none⟩ (.slice a' m c')).cell? ⟨w.heap.size + 1, 2, none⟩ = some (.bool false) ∧ (w5.setCell ⟨g0, it, none⟩ (.slice a' m c')).cell? ⟨w.heap.size + 1, 3, none⟩ = some (.bool fin) ∧ (w5.setCell ⟨g0, it, none⟩ (.slice a' m c')).cell? ⟨w.heap.size + 1 + 1, 0, none⟩ = some (.slice none 0 0) ∧ (w5.setCell ⟨g0, it, none⟩ (.slice a' m c')).cell? ⟨w.heap.size + 1 + 1, 1, none⟩ = some (.slice none 0 0) ∧ (w5.setCell ⟨g0, it, none⟩ (.slice a' m c')).cell? ⟨w.heap.size + 1 + 1, 2, none⟩ = some (.slice none 0 0) ∧ (w5.setCell ⟨g0, it, none⟩ (.slice a' m c')).frozen? ⟨w.heap.size + 1 + 1, 0, none⟩ = false ∧ (w5.setCell ⟨g0, it, none⟩ (.slice a' m c')).frozen? ⟨w.heap.size + 1 + 1, 1, none⟩ = false ∧ (w5.setCell ⟨g0, it, none⟩ (.slice a' m c')).frozen? ⟨w.heap.size + 1 + 1, 2, none⟩ = false from ⟨set_cell (by omega) (K5Q.out.1), set_cell (by omega) (K5Q.out.2.1), set_cell (by omega) (K5Q.out.2.2.1), set_cell (by omega) (K5Q.out.2.2.2.1), set_cell (by omega) (K5Q.out.2.2.2.2.1), set_cell (by omega) (K5Q.out.2.2.2.2.2.1), set_cell (by omega) (K5Q.out.2.2.2.2.2.2.1), set_frozen (K5Q.out.2.2.2.2.2.2.2.1), set_frozen (K5Q.out.2.2.2.2.2.2.2.2.1), set_frozen (K5Q.out.2.2.2.2.2.2.2.2.2)⟩)
      obtain ⟨p0, p1, p2⟩ := (show (w5.setCell ⟨g0, it, none⟩ (.slice a' m c')).cell? ⟨w1.heap.size, 0, none⟩ = some (.slice (some ⟨g0, 0, none⟩) 4 4) ∧ (w5.setCell ⟨g0, it, none⟩ (.slice a' m c')).cell? ⟨w1.heap.size, 1, none⟩ = some (.slice (some ⟨g1, 0, none⟩) 4 k1) ∧ (w5.setCell ⟨g0, it, none⟩ (.slice a' m c')).cell? ⟨w1.heap.size, 2, none⟩ = some (.slice b2 n2 k2) from ⟨set_cell (fun e => OFF.out.o0 e.symm) (K5B.out.1), set_cell (fun e => OFF.out.o0 e.symm) (K5B.out.2.1), set_cell (fun e => OFF.out.o0 e.symm) (K5B.out.2.2)⟩)
      have ng3 : w1.heap.size ≠ w.heap.size + 1 + 1 := by omega
      clear hsl hslE f5 hsl5
      go_wp2
      refine bodyPost_ret (v := .agg #[.slice (some ⟨g0, 0, none⟩) 4 4, .slice (some ⟨g1, 0, none⟩) 4 k1, .slice b2 n2 k2]) (by simp [results, Try.results66, go_sem, r0, r1, r2]) rfl ?_
      refine ⟨_, _, _, _, _, _, _, _, _, rfl, ?_, ((((BF5.out.setCell (by show w.heap.size ≤ g0; omega) _).setCell (by show w.heap.size ≤ w.heap.size + 1 + 1; omega) _).setCell (by show w.heap.size ≤ w.heap.size + 1 + 1; omega) _).setCell (by show w.heap.size ≤ w.heap.size + 1 + 1; omega) _)⟩
      have hs := OwnK.sown (((OK5.out.setOff OFR5.out 0 (.slice (some ⟨g0, 0, none⟩) 4 4)).setOff OFR5.out 1 (.slice (some ⟨g1, 0, none⟩) 4 k1)).setOff OFR5.out 2 (.slice b2 n2 k2)) (lo' := w.heap.size) HT.out (by omega) (by omega)
      rw [lplain_set, HP.out] at hs
      rw [E5.out, show qz = d.1.getD it [] from HZQ.out] at hs
      exact hs
    · go_simp
      refine hK.out _ _ ?_ (fun hHeld => ?_)
      · exact KE.out
      clear hK K
      (try show wpAnyH _ _ _ _ _ _ _ (Act.put _ (some 29) _) _); (try simp only [Act.put, List.setIfInBounds_toArray, List.set_cons_zero, List.set_cons_succ])
      refine wpAnyH_ready (rs := [9]) (by kernel_rfl) (by simp) ?_
      refine AllReadyH.cons rfl (fun K hK => ?_) AllReadyH.nil
      go_simp
      refine hK.out _ _ ?_ (fun hHeld => ?_)
      · exact KE.out
      clear hK K
      (try show wpAnyH _ _ _ _ _ _ _ (Act.put _ (some 26) _) _); (try simp only [Act.put, List.setIfInBounds_toArray, List.set_cons_zero, List.set_cons_succ])
      refine wpAnyH_ready (rs := [13]) (by kernel_rfl) (by simp) ?_
      refine AllReadyH.cons rfl (fun K hK => ?_) AllReadyH.nil
      refine step_append_lies _ (by rfl) _ _ 24 (by rfl) (w.heap.size + 3 + 2) 3 i0 (.int .i64 0) 1 8 Try.underlying24 hi hz0 hz1 hz2 rfl (by decide) (.slice qa qn qc) qn (ints .i64 qz) (by rfl) OWE.out ⟨w1.heap.size + 1, 0, none⟩ 1 1 [.int .i64 who] (by rfl) rfl NWE.out (by simp [Value.oneCell']) (by omega) (by unfold maxLen; omega) (by omega) hbs _ rfl ?_; intro g cap' w4 hown4 hgrow4 hat4 hlt4; have T4 : Hid (OnlyAt qa ((w1.alloc (.cells #[.slice (some ⟨g0, 0, none⟩) 4 4, .slice (some ⟨g1, 0, none⟩) 4 k1, .slice b2 n2 k2] 26)).alloc (.cells #[.int .i64 who] 3)).drew w4) := Sc.only_grown hgrow4; have R4 : Hid (IsRow .i64 w4 (some ⟨g, 0, none⟩) (qn + 1) cap' (qz ++ [who])) := own_row (by simpa [ints] using hown4) (fun z hz => (List.mem_append.1 hz).elim (HZW.out z) (fun e => (List.mem_singleton.1 e) ▸ hww)); have K4Q : Hid (w4.cell? ⟨w.heap.size + 1, 0, none⟩ = some (.int .i64 who) ∧ w4.cell? ⟨w.heap.size + 1, 1, none⟩ = some (.int .i64 (it : Int)) ∧ w4.cell? ⟨w.heap.size + 1, 2, none⟩ = some (.bool false) ∧ w4.cell? ⟨w.heap.size + 1, 3, none⟩ = some (.bool fin) ∧ w4.cell? ⟨w.heap.size + 1 + 1, 0, none⟩ = some (.slice none 0 0) ∧ w4.cell? ⟨w.heap.size + 1 + 1, 1, none⟩ = some (.slice none 0 0) ∧ w4.cell? ⟨w.heap.size + 1 + 1, 2, none⟩ = some (.slice none 0 0) ∧ w4.frozen? ⟨w.heap.size + 1 + 1, 0, none⟩ = false ∧ w4.frozen? ⟨w.heap.size + 1 + 1, 1, none⟩ = false ∧ w4.frozen? ⟨w.heap.size + 1 + 1, 2, none⟩ = false) := ⟨only_cell T4.out HOFA.out (KEQ.out.1), only_cell T4.out HOFA.out (KEQ.out.2.1), only_cell T4.out HOFA.out (KEQ.out.2.2.1), only_cell T4.out HOFA.out (KEQ.out.2.2.2.1), only_cell T4.out HOFR.out (KEQ.out.2.2.2.2.1), only_cell T4.out HOFR.out (KEQ.out.2.2.2.2.2.1), only_cell T4.out HOFR.out (KEQ.out.2.2.2.2.2.2.1), only_frozen T4.out HOFR.out (KEQ.out.2.2.2.2.1) (KEQ.out.2.2.2.2.2.2.2.1), only_frozen T4.out HOFR.out (KEQ.out.2.2.2.2.2.1) (KEQ.out.2.2.2.2.2.2.2.2.1), only_frozen T4.out HOFR.out (KEQ.out.2.2.2.2.2.2.1) (KEQ.out.2.2.2.2.2.2.2.2.2)⟩; have K4B : Hid (w4.cell? ⟨w1.heap.size, 0, none⟩ = some (.slice (some ⟨g0, 0, none⟩) 4 4) ∧ w4.cell? ⟨w1.heap.size, 1, none⟩ = some (.slice (some ⟨g1, 0, none⟩) 4 k1) ∧ w4.cell? ⟨w1.heap.size, 2, none⟩ = some (.slice b2 n2 k2)) := ⟨only_cell T4.out HOFB.out (KEB.out.1), only_cell T4.out HOFB.out (KEB.out.2.1), only_cell T4.out HOFB.out (KEB.out.2.2)⟩; have K4 : Hid (w4.cell? ⟨w.heap.size + 1, 0, none⟩ = some (.int .i64 who) ∧ w4.cell? ⟨w.heap.size + 1, 1, none⟩ = some (.int .i64 (it : Int)) ∧ w4.cell? ⟨w.heap.size + 1, 2, none⟩ = some (.bool false) ∧ w4.cell? ⟨w.heap.size + 1, 3, none⟩ = some (.bool fin) ∧ w4.cell? ⟨w1.heap.size, 0, none⟩ = some (.slice (some ⟨g0, 0, none⟩) 4 4) ∧ w4.cell? ⟨w1.heap.size, 1, none⟩ = some (.slice (some ⟨g1, 0, none⟩) 4 k1) ∧ w4.cell? ⟨w1.heap.size, 2, none⟩ = some (.slice b2 n2 k2)) := ⟨K4Q.out.1, K4Q.out.2.1, K4Q.out.2.2.1, K4Q.out.2.2.2.1, K4B.out.1, K4B.out.2.1, K4B.out.2.2⟩; clear hown4 hgrow4 hat4 hlt4
      refine hK.out _ _ ?_ (fun hHeld => ?_)
      · exact K4.out
      clear hK K
      (try show wpAnyH _ _ _ _ _ _ _ (Act.put _ (some 30) _) _); (try simp only [Act.put, List.setIfInBounds_toArray, List.set_cons_zero, List.set_cons_succ])
      refine wpAnyH_ready (rs := [14]) (by kernel_rfl) (by simp) ?_
      refine AllReadyH.cons rfl (fun K hK => ?_) AllReadyH.nil
      go_simp
      (refine (Od.once_int (some ⟨g, 0, none⟩) (qn + 1) cap' (qz ++ [who]) _ R4.out (by omega)).mono ?_; rintro e w5 ⟨a', m, c', os, rfl, hm, ho5, hon, hwf5, hb5⟩; have T5 : Hid (OnlyAt qa (w1.alloc (.cells #[.slice (some ⟨g0, 0, none⟩) 4 4, .slice (some ⟨g1, 0, none⟩) 4 k1, .slice b2 n2 k2] 26)) w5) := (TE.out.trans T4.out).trans (OnlyAt.of_below hb5); have K5Q : Hid (w5.cell? ⟨w.heap.size + 1, 0, none⟩ = some (.int .i64 who) ∧ w5.cell? ⟨w.heap.size + 1, 1, none⟩ = some (.int .i64 (it : Int)) ∧ w5.cell? ⟨w.heap.size + 1, 2, none⟩ = some (.bool false) ∧ w5.cell? ⟨w.heap.size + 1, 3, none⟩ = some (.bool fin) ∧ w5.cell? ⟨w.heap.size + 1 + 1, 0, none⟩ = some (.slice none 0 0) ∧ w5.cell? ⟨w.heap.size + 1 + 1, 1, none⟩ = some (.slice none 0 0) ∧ w5.cell? ⟨w.heap.size + 1 + 1, 2, none⟩ = some (.slice none 0 0) ∧ w5.frozen? ⟨w.heap.size + 1 + 1, 0, none⟩ = false ∧ w5.frozen? ⟨w.heap.size + 1 + 1, 1, none⟩ = false ∧ w5.frozen? ⟨w.heap.size + 1 + 1, 2, none⟩ = false) := ⟨Frame.held_cell hb5 (K4Q.out.1), Frame.held_cell hb5 (K4Q.out.2.1), Frame.held_cell hb5 (K4Q.out.2.2.1), Frame.held_cell hb5 (K4Q.out.2.2.2.1), Frame.held_cell hb5 (K4Q.out.2.2.2.2.1), Frame.held_cell hb5 (K4Q.out.2.2.2.2.2.1), Frame.held_cell hb5 (K4Q.out.2.2.2.2.2.2.1), (hb5.frozen (Frame.cell_lt (K4Q.out.2.2.2.2.1))).trans (K4Q.out.2.2.2.2.2.2.2.1), (hb5.frozen (Frame.cell_lt (K4Q.out.2.2.2.2.2.1))).trans (K4Q.out.2.2.2.2.2.2.2.2.1), (hb5.frozen (Frame.cell_lt (K4Q.out.2.2.2.2.2.2.1))).trans (K4Q.out.2.2.2.2.2.2.2.2.2)⟩; have K5B : Hid (w5.cell? ⟨w1.heap.size, 0, none⟩ = some (.slice (some ⟨g0, 0, none⟩) 4 4) ∧ w5.cell? ⟨w1.heap.size, 1, none⟩ = some (.slice (some ⟨g1, 0, none⟩) 4 k1) ∧ w5.cell? ⟨w1.heap.size, 2, none⟩ = some (.slice b2 n2 k2)) := ⟨Frame.held_cell hb5 (K4B.out.1), Frame.held_cell hb5 (K4B.out.2.1), Frame.held_cell hb5 (K4B.out.2.2)⟩; have K5 : Hid (w5.cell? ⟨w.heap.size + 1, 0, none⟩ = some (.int .i64 who) ∧ w5.cell? ⟨w.heap.size + 1, 1, none⟩ = some (.int .i64 (it : Int)) ∧ w5.cell? ⟨w.heap.size + 1, 2, none⟩ = some (.bool false) ∧ w5.cell? ⟨w.heap.size + 1, 3, none⟩ = some (.bool fin) ∧ w5.cell? ⟨w1.heap.size, 0, none⟩ = some (.slice (some ⟨g0, 0, none⟩) 4 4) ∧ w5.cell? ⟨w1.heap.size, 1, none⟩ = some (.slice (some ⟨g1, 0, none⟩) 4 k1) ∧ w5.cell? ⟨w1.heap.size, 2, none⟩ = some (.slice b2 n2 k2)) := ⟨K5Q.out.1, K5Q.out.2.1, K5Q.out.2.2.1, K5Q.out.2.2.2.1, K5B.out.1, K5B.out.2.1, K5B.out.2.2⟩; have E5 : Hid (os = putN who qz) := once_put HUP.out hon; have hm5 : m ≤ qn + 1 := hm; have hszB : (w1.alloc (.cells #[.slice (some ⟨g0, 0, none⟩) 4 4, .slice (some ⟨g1, 0, none⟩) 4 k1, .slice b2 n2 k2] 26)).heap.size ≤ w4.heap.size := Nat.le_trans TE.out.size T4.out.size; have OK5 : Hid (OwnK (w.heap.size + 3 + 2) (w5.setCell ⟨g0, it, none⟩ (.slice a' m c')) g0 4 (rs.set it ⟨a', m, c', os⟩) g1 k1 d.2.1 b2 n2 k2 d.2.2) := HSW.out w4.heap.size ⟨a', m, c', os⟩ w5 T5.out ho5 hwf5 hszB; have ro := own_touch OKV.out.rows.outer T5.out (fun x y hx hy => HF0.out x y hx hy); have f5 := ro.frozenAt it; have hsl5 : w5.cell? ⟨g0, it, none⟩ = some (.slice qa qn qc) := only_cell T5.out (fun x hx => (HF0.out _ x rfl hx).symm) (HSL.out); have KC : Hid ((w5.setCell ⟨g0, it, none⟩ (.slice a' m c')).cell? ⟨w.heap.size + 1, 0, none⟩ = some (.int .i64 who) ∧ (w5.setCell ⟨g0, it, none⟩ (.slice a' m c')).cell? ⟨w.heap.size + 1, 1, none⟩ = some (.int .i64 (it : Int)) ∧ (w5.setCell ⟨g0, it, none⟩ (.slice a' m c')).cell? ⟨w.heap.size + 1, 2, none⟩ = some (.bool false) ∧ (w5.setCell ⟨g0, it, none⟩ (.slice a' m c')).cell? ⟨w.heap.size + 1, 3, none⟩ = some (.bool fin) ∧ (w5.setCell ⟨g0, it, none⟩ (.slice a' m c')).cell? ⟨w1.heap.size, 0, none⟩ = some (.slice (some ⟨g0, 0, none⟩) 4 4) ∧ (w5.setCell ⟨g0, it, none⟩ (.slice a' m c')).cell? ⟨w1.heap.size, 1, none⟩ = some (.slice (some ⟨g1, 0, none⟩) 4 k1) ∧ (w5.setCell ⟨g0, it, none⟩ (.slice a' m c')).cell? ⟨w1.heap.size, 2, none⟩ = some (.slice b2 n2 k2)) := ⟨set_cell (by omega) (K5Q.out.1), set_cell (by omega) (K5Q.out.2.1), set_cell (by omega) (K5Q.out.2.2.1), set_cell (by omega) (K5Q.out.2.2.2.1), set_cell (fun e => OFF.out.o0 e.symm) (K5B.out.1), set_cell (fun e => OFF.out.o0 e.symm) (K5B.out.2.1), set_cell (fun e => OFF.out.o0 e.symm) (K5B.out.2.2)⟩; have BF5 : Hid (Below w.heap.size w w5) := below_touch BV.out T5.out (fun x hx => by have := HQLT.out x hx; omega) BV.out.size; have L5 : Hid (os.length = m) := (by show _ = _; have h := ho5.1; rw [ints_length] at h; omega); clear ho5 hon hwf5 hb5 ro hm)
      go_wp2_with fail
      refine hK.out _ _ ?_ (fun hHeld => ?_)
      · exact K5.out
      clear hK K
      (try show wpAnyH _ _ _ _ _ _ _ (Act.put _ (some 31) _) _); (try simp only [Act.put, List.setIfInBounds_toArray, List.set_cons_zero, List.set_cons_succ])
      refine wpAnyH_take (i := 15) (v := (.pointer (some ⟨g0, it, none⟩))) rfl (by kernel_rfl) (by kernel_rfl) (by kernel_rfl) (fun _ _ _ h => h) (Or.inl ⟨by rfl, ?_⟩) (by assumption) ?_
      · intro w hSw; (try dsimp only at hSw); go_simp
      (try show wpAnyH _ _ _ _ _ _ _ (Act.put _ (some 32) _) _); (try simp only [Act.put, List.setIfInBounds_toArray, List.set_cons_zero, List.set_cons_succ])
      refine wpAnyH_ready (rs := [16]) (by kernel_rfl) (by simp) ?_
      refine AllReadyH.cons rfl (fun K hK => ?_) AllReadyH.nil
      go_simp
      refine hK.out _ _ ?_ (fun hHeld => ?_)
      · exact KC.out
      clear hK K
      (try simp only [Act.put, List.setIfInBounds_toArray, List.set_cons_zero, List.set_cons_succ])
      refine wpAnyH_done (by kernel_rfl) ?_ _
      have HT : Hid (totalL (rs.set it ⟨a', m, c', os⟩) ≤ 1048576) := HTOT.out _ (d.1.set it os) (by rw [lplain_set, HP.out]) OK5.out.len (OwnLs.vlen OK5.out.rows) (fun k hk => by
        by_cases e : it = k
        · subst e
          have hl : it < d.1.length := by rw [← HP.out]; simp [lplain, HQL.out]; omega
          simp [List.getD, hl]
          rw [L5.out]; omega
        · simp [List.getD, e]
          have := HR4.out k hk
          simp [List.getD] at this
          omega)
      have OFR5 : Hid (OffK (w.heap.size + 1 + 1) g0 (rs.set it ⟨a', m, c', os⟩) g1 b2) := OK5.out.off (Or.inl (by omega))
      obtain ⟨q0, q1, q2, q3, r0, r1, r2, z0, z1, z2⟩ := (show (w5.setCell ⟨g0, it, none⟩ (.slice a' m c')).cell? ⟨w.heap.size + 1, 0, none⟩ = some (.int .i64 who) ∧ (w5.setCell ⟨g0, it, none⟩ (.slice a' m c')).cell? ⟨w.heap.size + 1, 1, none⟩ = some (.int .i64 (it : Int)) ∧ (w5.setCell ⟨g0, it, none⟩ (.slice a' m c')).cell? ⟨w.heap.size + 1, 2, none⟩ = some (.bool false) ∧ (w5.setCell ⟨g0, it, none⟩ (.slice a' m c')).cell? ⟨w.heap.size + 1, 3, none⟩ = some (.bool fin) ∧ (w5.setCell ⟨g0, it, none⟩ (.slice a' m c')).cell? ⟨w.heap.size + 1 + 1, 0, none⟩ = some (.slice none 0 0) ∧ (w5.setCell ⟨g0, it, none⟩ (.slice a' m c')).cell? ⟨w.heap.size + 1 + 1, 1, none⟩ = some (.slice none 0 0) ∧ (w5.setCell ⟨g0, it, none⟩ (.slice a' m c')).cell? ⟨w.heap.size + 1 + 1, 2, none⟩ = some (.slice none 0 0) ∧ (w5.setCell ⟨g0, it, none⟩ (.slice a' m c')).frozen? ⟨w.heap.size + 1 + 1, 0, none⟩ = false ∧ (w5.setCell ⟨g0, it, none⟩ (.slice a' m c')).frozen? ⟨w.heap.size + 1 + 1, 1, none⟩ = false ∧ (w5.setCell ⟨g0, it, none⟩ (.slice a' m c')).frozen? ⟨w.heap.size + 1 + 1, 2, none⟩ = false from ⟨set_cell (by omega) (K5Q.out.1), set_cell (by omega) (K5Q.out.2.1), set_cell (by omega) (K5Q.out.2.2.1), set_cell (by omega) (K5Q.out.2.2.2.1), set_cell (by omega) (K5Q.out.2.2.2.2.1), set_cell (by omega) (K5Q.out.2.2.2.2.2.1), set_cell (by omega) (K5Q.out.2.2.2.2.2.2.1), set_frozen (K5Q.out.2.2.2.2.2.2.2.1), set_frozen (K5Q.out.2.2.2.2.2.2.2.2.1), set_frozen (K5Q.out.2.2.2.2.2.2.2.2.2)⟩)
      obtain ⟨p0, p1, p2⟩ := (show (w5.setCell ⟨g0, it, none⟩ (.slice a' m c')).cell? ⟨w1.heap.size, 0, none⟩ = some (.slice (some ⟨g0, 0, none⟩) 4 4) ∧ (w5.setCell ⟨g0, it, none⟩ (.slice a' m c')).cell? ⟨w1.heap.size, 1, none⟩ = some (.slice (some ⟨g1, 0, none⟩) 4 k1) ∧ (w5.setCell ⟨g0, it, none⟩ (.slice a' m c')).cell? ⟨w1.heap.size, 2, none⟩ = some (.slice b2 n2 k2) from ⟨set_cell (fun e => OFF.out.o0 e.symm) (K5B.out.1), set_cell (fun e => OFF.out.o0 e.symm) (K5B.out.2.1), set_cell (fun e => OFF.out.o0 e.symm) (K5B.out.2.2)⟩)
      have ng3 : w1.heap.size ≠ w.heap.size + 1 + 1 := by omega
      clear hsl hslE f5 hsl5
      go_wp2
      refine bodyPost_ret (v := .agg #[.slice (some ⟨g0, 0, none⟩) 4 4, .slice (some ⟨g1, 0, none⟩) 4 k1, .slice b2 n2 k2]) (by simp [results, Try.results66, go_sem, r0, r1, r2]) rfl ?_
      refine ⟨_, _, _, _, _, _, _, _, _, rfl, ?_, ((((BF5.out.setCell (by show w.heap.size ≤ g0; omega) _).setCell (by show w.heap.size ≤ w.heap.size + 1 + 1; omega) _).setCell (by show w.heap.size ≤ w.heap.size + 1 + 1; omega) _).setCell (by show w.heap.size ≤ w.heap.size + 1 + 1; omega) _)⟩
      have hs := OwnK.sown (((OK5.out.setOff OFR5.out 0 (.slice (some ⟨g0, 0, none⟩) 4 4)).setOff OFR5.out 1 (.slice (some ⟨g1, 0, none⟩) 4 k1)).setOff OFR5.out 2 (.slice b2 n2 k2)) (lo' := w.heap.size) HT.out (by omega) (by omega)
      rw [lplain_set, HP.out] at hs
      rw [E5.out, show qz = d.1.getD it [] from HZQ.out] at hs
      exact hs

  · obtain ⟨q0, q1, q2, q3, r0, r1, r2, z0, z1, z2⟩ := KV.out
    obtain ⟨p0, p1, p2⟩ := KB.out
    have hnum := num_slot OKV.out hit
    have hfz := OKV.out.nums.frozenAt it
    have OW : Hid (OwnK (w.heap.size + 3 + 2) ((w1.alloc (.cells #[.slice (some ⟨g0, 0, none⟩) 4 4, .slice (some ⟨g1, 0, none⟩) 4 k1, .slice b2 n2 k2] 26)).setCell ⟨g1, it, none⟩ (.int .i64 who)) g0 4 rs g1 k1 (d.2.1.set it who) b2 n2 k2 d.2.2) := OKV.out.setNum hww
    have hlt1 := OK1.out.lt1
    have ng1 : g1 ≠ w1.heap.size := by omega
    have ng2 : g1 ≠ w.heap.size + 1 + 1 := by omega
    have ng3 : w1.heap.size ≠ w.heap.size + 1 + 1 := by omega
    have HT : Hid (totalL rs ≤ 1048576) := HTOT.out rs d.1 HP.out OK1.out.len (OwnLs.vlen OK1.out.rows) (fun k hk => by have := HR4.out k hk; omega)
    have HG1 : Hid (w.heap.size ≤ g1) := by show _ ≤ _; omega
    clear hlt1
    go_wp2
    refine bodyPost_ret (v := .agg #[.slice (some ⟨g0, 0, none⟩) 4 4, .slice (some ⟨g1, 0, none⟩) 4 k1, .slice b2 n2 k2]) (by simp [results, Try.results66, go_sem, r0, r1, r2]) rfl ?_
    refine ⟨_, _, _, _, _, _, _, _, _, rfl, ?_, (((((BV.out.setCell HG1.out _).setCell (by show w.heap.size ≤ w.heap.size + 1 + 1; omega) _).setCell (by show w.heap.size ≤ w.heap.size + 1 + 1; omega) _).setCell (by show w.heap.size ≤ w.heap.size + 1 + 1; omega) _))⟩
    have hs := OwnK.sown (((OW.out.setOff OFR.out 0 (.slice (some ⟨g0, 0, none⟩) 4 4)).setOff OFR.out 1 (.slice (some ⟨g1, 0, none⟩) 4 k1)).setOff OFR.out 2 (.slice b2 n2 k2)) (lo' := w.heap.size) HT.out (by omega) (by omega)
    rw [HP.out] at hs
    exact hs


end Go.Proofs.Ytkondmnkmbdncaa.Lkg
