/-
  Contracts of ReadsFrom, of the program and of the model.
-/
import Derived.Test.YteihgbiifcgipaaPla
namespace Go.Proofs.Yteihgbiifcgipaa.Plb
open Go.RowKit
open Go.Proofs.Yteihgbiifcgipaa.Frame Go.Proofs.Yteihgbiifcgipaa.Mem Go.Proofs.Yteihgbiifcgipaa.Ints Go.Proofs.Yteihgbiifcgipaa.Kep Go.Proofs.Yteihgbiifcgipaa.Val Go.Proofs.Yteihgbiifcgipaa.FAct Go.Proofs.Yteihgbiifcgipaa.Pga Go.Proofs.Yteihgbiifcgipaa.Ppu Go.Proofs.Yteihgbiifcgipaa.Mii Go.Proofs.Yteihgbiifcgipaa.Pla

theorem size_drew (w : World) (o : Obj) : w.heap.size ≤ (w.alloc o).drew.heap.size := by simp [World.drew]
theorem stored_as {w : World} {base g n k : Nat} {e : TypeId} {xs ys : List Value} {v : Value} (h : w.ownsRow base e 1 (.slice (some ⟨g, 0, none⟩) n n) n xs) (hs : xs.set k v = ys) : (w.setCell ⟨g, k, none⟩ v).ownsRow base e 1 (.slice (some ⟨g, 0, none⟩) n n) n ys := by
  have := (h.stored k v).1
  rw [hs] at this
  exact this
theorem cell_own {w : World} {base g n k : Nat} {e : TypeId} {xs : List Value} (h : w.ownsRow base e 1 (.slice (some ⟨g, 0, none⟩) n n) n xs) (hl : xs.length = n) (hk : k < n) : ∃ old, w.cell? ⟨g, k, none⟩ = some old := by
  rw [h.cellAt k (by omega)]
  exact ⟨_, List.getElem?_eq_getElem (by omega)⟩
theorem far_cell {w : World} {b o b' o' : Nat} {v u : Value} (hb : b' ≠ b) (h : w.cell? ⟨b, o, none⟩ = some v) : (w.setCell ⟨b', o', none⟩ u).cell? ⟨b, o, none⟩ = some v := by
  rw [← h]
  exact World.cell?_of_block (Below.heap_setCell _ _ _ _ (fun e => hb e.symm))

set_option maxRecDepth 4000 in
set_option maxHeartbeats 1600000 in
theorem impl_ReadsFrom (v : Value) (xs : List D) (w : World) (h : XIs w v xs) :
    Calls Try.prog 31 #[v] w fun e w' => ∃ u, e = .returned (.tuple #[u, .bool (goodP xs)]) ∧ IOwn w' w.heap.size w'.heap.size u (readsV xs) ∧ Below w.heap.size w w' := by
  obtain ⟨a, n, cap, rfl, hr, hn⟩ := h
  obtain ⟨i0, hi, hz0, hz1, hz2⟩ := info_parts Ints.info
  have HL : Hid (xs.length = n) := hr.len
  have HI : Hid (IsX w a n cap xs) := hr
  have HWF : Hid (∀ z ∈ readsN xs, (Lit.int .i64 z).wf = true) := readsN_wf (by rw [HL.out]; exact hn)
  have HRL : Hid ((readsN xs).length = n) := by show _ = _; rw [readsN_length]; exact HL.out
  clear hr
  cases hg : goodP xs
  · have E : Hid (readsV xs = []) := if_neg (by rw [hg]; exact Bool.false_ne_true)
    have HG : Hid (goodP xs = false) := hg
    clear hg
    go_enter Try.func31, Try.ntmps31
    go_wp2_with fail
    refine (impl_GoodPlay a n cap xs _ HI.out).mono ?_
    rintro e w1 ⟨rfl, hb1⟩
    have B1 : Hid (Below w.heap.size w w1) := hb1
    clear hb1
    rw [HG.out]
    go_wp2_with fail
    go_ret2
    exact ⟨_, rfl, by rw [E.out]; exact iOwn_nil _ _ _, B1.out⟩
  · have E : Hid (readsV xs = readsN xs) := if_pos hg
    have HG : Hid (goodP xs = true) := hg
    clear hg
    go_enter Try.func31, Try.ntmps31
    go_wp2_with fail
    refine (impl_GoodPlay a n cap xs _ HI.out).mono ?_
    rintro e w1 ⟨rfl, hb1⟩
    have B1 : Hid (Below w.heap.size w w1) := hb1
    clear hb1
    rw [HG.out]
    have hs1 := B1.out.size
    go_wp2_with (at_make; refine wpList_make_full _ rfl _ _ 25 rfl w.heap.size 3 i0 (.int .i64 0) 1 Try.underlying25 hi hz0 hz1 _ _ _ _ n rfl rfl rfl rfl ?b2 ?b3 hs1 ?_)
    case b2 => rw [hz2]; omega
    case b3 => unfold maxLen; omega
    intro w2 hown2 hgrow2
    have B2 : Hid (Below w.heap.size w w2) := B1.out.grown hgrow2 hs1 (fun k h => by cases h)
    have hs2 : w1.heap.size < w2.heap.size := (Mem.own_block hown2 ⟨w1.heap.size, 0, none⟩ rfl).2
    have O2 : Hid (w2.ownsRow w.heap.size 3 1 (.slice (some ⟨w1.heap.size, 0, none⟩) n n) n (ints .i64 ((readsN xs).take 0) ++ List.replicate (n - 0) (Value.int .i64 0))) := by
      show World.ownsRow _ _ _ _ _ _ _
      have e : (madeCells #[Value.int .i64 0] n).toList = ints .i64 ((readsN xs).take 0) ++ List.replicate (n - 0) (Value.int .i64 0) := by
        rw [toList_madeCells_one]; simp [ints]
      rw [← e]
      simpa using hown2
    clear hown2 hgrow2
    go_wp2_with fail
    go_loopw [15] (fun i wr => ∃ k : Nat, k ≤ n ∧ i = .int .i64 k ∧ w1.heap.size < wr.heap.size ∧ wr.ownsRow w.heap.size 3 1 (.slice (some ⟨w1.heap.size, 0, none⟩) n n) n (ints .i64 ((readsN xs).take k) ++ List.replicate (n - k) (Value.int .i64 0)) ∧ Below w.heap.size w wr) (fun i _ => n - (intOf i).toNat)
    case atStart => exact ⟨0, by omega, rfl, hs2, O2.out, B2.out⟩
    case round =>
      obtain ⟨k, hk, rfl, hsr, ho, hnx⟩ := hrel
      have HN : Hid (Below w.heap.size w wr) := hnx
      have HO : Hid (wr.ownsRow w.heap.size 3 1 (.slice (some ⟨w1.heap.size, 0, none⟩) n n) n (ints .i64 ((readsN xs).take k) ++ List.replicate (n - k) (Value.int .i64 0))) := ho
      clear ho
      by_cases hlt : k < n
      · have hset := Ints.set_part (readsN xs) n k (by rw [HRL.out]; exact hlt) HRL.out
        rw [readsN_get xs k (by rw [HL.out]; exact hlt)] at hset
        have HSET : Hid _ := hset
        have HLEN : Hid ((ints .i64 ((readsN xs).take k) ++ List.replicate (n - k) (Value.int .i64 0)).length = n) := by
          show _ = _
          rw [List.length_append, ints_length, List.length_take, List.length_replicate, HRL.out]; omega
        obtain ⟨b, off, who, it, wri, rfl, p0, p1, p2, hx⟩ := act_at HI.out hnx hlt
        have HX : Hid (xs.getD k d0 = (who, it, wri)) := hx
        have B3 : Hid (Below w.heap.size w (wr.alloc (.cells #[.int .i64 who, .int .i64 it, .bool wri] 59))) := hnx.alloc (by omega) _
        have O3 : Hid ((wr.alloc (.cells #[.int .i64 who, .int .i64 it, .bool wri] 59)).ownsRow w.heap.size 3 1 (.slice (some ⟨w1.heap.size, 0, none⟩) n n) n (ints .i64 ((readsN xs).take k) ++ List.replicate (n - k) (Value.int .i64 0))) := own_below HO.out ((Below.refl _ _).alloc (Nat.le_refl _) _)
        clear hset hx hnx
        cases wri
        · have F : Hid (readN xs k = lastN it (xs.take k)) := by show _ = _; unfold readN; rw [HX.out]; rfl
          have HSET2 : Hid ((ints .i64 ((readsN xs).take k) ++ List.replicate (n - k) (Value.int .i64 0)).set k (.int .i64 (lastN it (xs.take k))) = ints .i64 ((readsN xs).take (k + 1)) ++ List.replicate (n - (k + 1)) (Value.int .i64 0)) := by show _ = _; rw [← F.out]; exact HSET.out
          have BD : Hid (Below w.heap.size w (wr.alloc (.cells #[.int .i64 who, .int .i64 it, .bool false] 59)).drew) := B3.out.drew
          have HK : Hid (IsX (wr.alloc (.cells #[.int .i64 who, .int .i64 it, .bool false] 59)).drew (some ⟨b, off, none⟩) k cap (xs.take k)) := isX_pre (HI.out.below BD.out) hk
          have KB : Hid ((wr.alloc (.cells #[.int .i64 who, .int .i64 it, .bool false] 59)).drew.cell? ⟨wr.heap.size, 1, none⟩ = some (.int .i64 it)) := by show _ = _; go_simp
          have hkI : (k : Int) ≤ (cap : Int) := by have := HI.out.fits; omega
          have hk0 : (0 : Int) ≤ (k : Int) := by omega
          clear HX HSET F
          go_wp2_with fail
          go_region_held3 (fun w' => w'.cell? ⟨wr.heap.size, 1, none⟩ = some (.int .i64 it)) (first | exact KB.out | with_reducible exact K4.out | with_reducible exact K5.out)
            (first | (go_at_call 68; refine (impl_last _ k cap (xs.take k) it _ HK.out (by omega)).mono ?_; rintro e w4 ⟨rfl, hb4⟩; have K4 : Hid (w4.cell? ⟨wr.heap.size, 1, none⟩ = some (.int .i64 it)) := Frame.held_cell hb4 KB.out; have ho4 := own_below O3.out.drew hb4; have HN4 : Hid (Below w.heap.size w w4) := Frame.next BD.out hb4 BD.out.size; have Z4 : Hid (wr.heap.size ≤ w4.heap.size) := Nat.le_trans (size_drew wr _) hb4.size; have HST : Hid ((w4.setCell ⟨w1.heap.size, k, none⟩ (.int .i64 (lastN it (xs.take k)))).ownsRow w.heap.size 3 1 (.slice (some ⟨w1.heap.size, 0, none⟩) n n) n (ints .i64 ((readsN xs).take (k + 1)) ++ List.replicate (n - (k + 1)) (Value.int .i64 0))) := stored_as ho4 HSET2.out; have hfz := ho4.frozenAt k; have hold := cell_own ho4 HLEN.out hlt; obtain ⟨old, hold⟩ := hold; have K5 : Hid ((w4.setCell ⟨w1.heap.size, k, none⟩ (.int .i64 (lastN it (xs.take k)))).cell? ⟨wr.heap.size, 1, none⟩ = some (.int .i64 it)) := far_cell (by omega) K4.out; clear hb4 ho4))
          go_wp2
          go_roundw
          case rel => exact ⟨k + 1, by omega, by go_num, by have := Z4.out; simp [World.setCell]; omega, HST.out, HN4.out.setCell (by omega) _⟩
          case measure => simp [intOf]; omega
        · have F : Hid (readN xs k = -2) := by show _ = _; unfold readN; rw [HX.out]; rfl
          have Hst : Hid (((wr.setCell ⟨w1.heap.size, k, none⟩ (.int .i64 (-2))).alloc (.cells #[.int .i64 who, .int .i64 it, .bool true] 59)).ownsRow w.heap.size 3 1 (.slice (some ⟨w1.heap.size, 0, none⟩) n n) n (ints .i64 ((readsN xs).take (k + 1)) ++ List.replicate (n - (k + 1)) (Value.int .i64 0))) := own_below (stored_as HO.out (by rw [← F.out]; exact HSET.out)) ((Below.refl _ _).alloc (Nat.le_refl _) _)
          have Bst : Hid (Below w.heap.size w ((wr.setCell ⟨w1.heap.size, k, none⟩ (.int .i64 (-2))).alloc (.cells #[.int .i64 who, .int .i64 it, .bool true] 59))) := (HN.out.setCell (by omega) _).alloc (by simp [World.setCell]; omega) _
          have hfz := HO.out.frozenAt k
          obtain ⟨old, hold⟩ := cell_own HO.out HLEN.out hlt
          clear HX
          go_wp2
          go_roundw
          case rel => exact ⟨k + 1, by omega, by go_num, by simp [World.setCell]; omega, Hst.out, Bst.out⟩
          case measure => simp [intOf]; omega
      · obtain rfl : k = n := by omega
        have O4 : Hid (wr.ownsRow w.heap.size 3 1 (.slice (some ⟨w1.heap.size, 0, none⟩) k k) k (ints .i64 (readsN xs))) := by
          show World.ownsRow _ _ _ _ _ _ _
          have := HO.out
          rwa [List.take_of_length_le (by rw [HRL.out]; omega), Nat.sub_self, List.replicate_zero, List.append_nil] at this
        clear HO hnx
        go_wp2
        go_ret2
        exact ⟨_, rfl, by rw [E.out]; exact iOwn_of O4.out HWF.out (by omega), HN.out⟩

set_option maxRecDepth 4000 in
set_option maxHeartbeats 1600000 in
theorem spec_reads (a : Option Addr) (n cap : Nat) (xs : List D) (w : World) (h : IsX w a n cap xs) (hn : n ≤ 1048576) :
    Calls Try.prog 69 #[.slice a n cap] w fun e w' => ∃ a' c', e = .returned (.slice a' n c') ∧ w'.ownsRow w.heap.size 3 1 (.slice a' n c') n (ints .i64 (readsN xs)) ∧ Below w.heap.size w w' := by
  obtain ⟨i0, hi, hz0, hz1, hz2⟩ := info_parts Ints.info
  have HL : Hid (xs.length = n) := h.len
  have HI : Hid (IsX w a n cap xs) := h
  have HRL : Hid ((readsN xs).length = n) := by show _ = _; rw [readsN_length]; exact HL.out
  clear h
  go_enter Try.func69, Try.ntmps69
  go_wp2_with fail
  go_loopw [3, 9] (fun v i wr => ∃ (k : Nat) (a' : Option Addr) (c' : Nat), k ≤ n ∧ i = .int .i64 k ∧ v = .slice a' k c' ∧ wr.ownsRow w.heap.size 3 1 (.slice a' k c') k (ints .i64 ((readsN xs).take k)) ∧ Below w.heap.size w wr) (fun _ i _ => n - (intOf i).toNat)
  case atStart => exact ⟨0, none, 0, by omega, rfl, rfl, ⟨rfl, .inl ⟨rfl, rfl⟩⟩, Below.refl _ _⟩
  case round =>
    obtain ⟨k, a', c', hk, rfl, rfl, ho, hnx⟩ := hrel
    have HN : Hid (Below w.heap.size w wr) := hnx
    have HO : Hid (wr.ownsRow w.heap.size 3 1 (.slice a' k c') k (ints .i64 ((readsN xs).take k))) := ho
    have hsr := hnx.size
    clear ho
    by_cases hlt : k < n
    · have FT : Hid ((readsN xs).take (k + 1) = (readsN xs).take k ++ [readN xs k]) := by
        show _ = _
        rw [take_succ_getD (by rw [HRL.out]; exact hlt), readsN_get xs k (by rw [HL.out]; exact hlt)]
      obtain ⟨b, off, who, it, wri, rfl, p0, p1, p2, hx⟩ := act_at HI.out hnx hlt
      have HX : Hid (xs.getD k d0 = (who, it, wri)) := hx
      have B3 : Hid (Below w.heap.size w (wr.alloc (.cells #[.int .i64 who, .int .i64 it, .bool wri] 59))) := hnx.alloc (by omega) _
      have O3 : Hid ((wr.alloc (.cells #[.int .i64 who, .int .i64 it, .bool wri] 59)).ownsRow w.heap.size 3 1 (.slice a' k c') k (ints .i64 ((readsN xs).take k))) := own_below HO.out ((Below.refl _ _).alloc (Nat.le_refl _) _)
      clear hx hnx
      cases wri
      · have F : Hid (readN xs k = lastN it (xs.take k)) := by show _ = _; unfold readN; rw [HX.out]; rfl
        have FT2 : Hid ((readsN xs).take (k + 1) = (readsN xs).take k ++ [lastN it (xs.take k)]) := by show _ = _; rw [← F.out]; exact FT.out
        have BD : Hid (Below w.heap.size w (wr.alloc (.cells #[.int .i64 who, .int .i64 it, .bool false] 59)).drew) := B3.out.drew
        have HK : Hid (IsX (wr.alloc (.cells #[.int .i64 who, .int .i64 it, .bool false] 59)).drew (some ⟨b, off, none⟩) k cap (xs.take k)) := isX_pre (HI.out.below BD.out) hk
        have KB : Hid ((wr.alloc (.cells #[.int .i64 who, .int .i64 it, .bool false] 59)).drew.cell? ⟨wr.heap.size, 1, none⟩ = some (.int .i64 it)) := by show _ = _; go_simp
        have hkI : (k : Int) ≤ (cap : Int) := by have := HI.out.fits; omega
        have hk0 : (0 : Int) ≤ (k : Int) := by omega
        clear HX F FT
        go_wp2_with fail
        go_region_held3 (fun w' => w'.cell? ⟨wr.heap.size, 1, none⟩ = some (.int .i64 it)) (first | exact KB.out | with_reducible exact K4.out)
          (first | (go_at_call 79; refine (spec_last _ k cap (xs.take k) it _ HK.out (by omega)).mono ?_; rintro e w4 ⟨rfl, hb4⟩; have K4 : Hid (w4.cell? ⟨wr.heap.size, 1, none⟩ = some (.int .i64 it)) := Frame.held_cell hb4 KB.out; have HO4 : Hid (w4.ownsRow w.heap.size 3 1 (.slice a' k c') k (ints .i64 ((readsN xs).take k))) := own_below O3.out.drew hb4; have HN4 : Hid (Below w.heap.size w w4) := Frame.next BD.out hb4 BD.out.size; clear hb4))
        have hsr4 := HN4.out.size
        have HOa5 : Hid ((w4.alloc (.cells #[.int .i64 (lastN it (xs.take k))] 3)).ownsRow w.heap.size 3 1 (.slice a' k c') k (ints .i64 ((readsN xs).take k))) := own_below HO4.out ((Below.refl _ _).alloc (Nat.le_refl _) _)
        have HNa5 : Hid (Below w.heap.size w (w4.alloc (.cells #[.int .i64 (lastN it (xs.take k))] 3))) := HN4.out.alloc HN4.out.size _
        have Sa5 : Hid (0 < 1 → ∃ ad, (some ⟨w4.heap.size, 0, none⟩ : Option Addr) = some ad ∧ ∀ j u, ([.int .i64 (lastN it (xs.take k))] : List Value)[j]? = some u → (w4.alloc (.cells #[.int .i64 (lastN it (xs.take k))] 3)).cell? (ad.add j) = some u) := news_one w4 _ _
        go_wp2_with (at_builtin; refine App.wpList_append_all _ rfl _ _ 25 rfl w.heap.size 3 i0 (.int .i64 0) 1 8 Try.underlying25 hi hz0 hz1 hz2 rfl (by decide) _ _ _ rfl HOa5.out _ 1 _ [.int .i64 (lastN it (xs.take k))] rfl rfl Sa5.out (by simp [Value.oneCell']) (by unfold maxLen; omega) (by omega) (Nat.le_trans (by first | exact Nat.le_refl _ | omega) HNa5.out.size) ?_)
        intro a5 c5 w5 hown5 hgrow5
        have O5 : Hid (w5.ownsRow w.heap.size 3 1 (.slice a5 (k + 1) c5) (k + 1) (ints .i64 (((readsN xs).take k) ++ [(lastN it (xs.take k))]))) := by show World.ownsRow _ _ _ _ _ _ _; simpa [ints] using hown5
        have N5 : Hid (Below w.heap.size w w5) := below_app HNa5.out HOa5.out hgrow5 HNa5.out.size (by first | exact Nat.le_refl _ | omega)
        clear hown5 hgrow5 HOa5 HNa5 Sa5
        go_wp2
        go_roundw
        case rel => exact ⟨k + 1, a5, c5, by omega, by go_num, rfl, by rw [FT2.out]; exact O5.out, N5.out⟩
        case measure => simp [intOf]; omega
      · have F : Hid (readN xs k = -2) := by show _ = _; unfold readN; rw [HX.out]; rfl
        have FT2 : Hid ((readsN xs).take (k + 1) = (readsN xs).take k ++ [-2]) := by show _ = _; rw [← F.out]; exact FT.out
        have hsz : (wr.alloc (.cells #[.int .i64 who, .int .i64 it, .bool true] 59)).heap.size = wr.heap.size + 1 := by simp
        clear HX F FT
        have HOa5 : Hid (((wr.alloc (.cells #[.int .i64 who, .int .i64 it, .bool true] 59)).alloc (.cells #[.int .i64 (-2)] 3)).ownsRow w.heap.size 3 1 (.slice a' k c') k (ints .i64 ((readsN xs).take k))) := own_below O3.out ((Below.refl _ _).alloc (Nat.le_refl _) _)
        have HNa5 : Hid (Below w.heap.size w ((wr.alloc (.cells #[.int .i64 who, .int .i64 it, .bool true] 59)).alloc (.cells #[.int .i64 (-2)] 3))) := B3.out.alloc B3.out.size _
        have Sa5 : Hid (0 < 1 → ∃ ad, (some ⟨wr.heap.size + 1, 0, none⟩ : Option Addr) = some ad ∧ ∀ j u, ([.int .i64 (-2)] : List Value)[j]? = some u → ((wr.alloc (.cells #[.int .i64 who, .int .i64 it, .bool true] 59)).alloc (.cells #[.int .i64 (-2)] 3)).cell? (ad.add j) = some u) := by have h3 := news_one (wr.alloc (.cells #[.int .i64 who, .int .i64 it, .bool true] 59)) (.int .i64 (-2)) 3; rw [hsz] at h3; exact h3
        go_wp2_with (at_builtin; refine App.wpList_append_all _ rfl _ _ 25 rfl w.heap.size 3 i0 (.int .i64 0) 1 8 Try.underlying25 hi hz0 hz1 hz2 rfl (by decide) _ _ _ rfl HOa5.out _ 1 _ [.int .i64 (-2)] rfl rfl Sa5.out (by simp [Value.oneCell']) (by unfold maxLen; omega) (by omega) (Nat.le_trans (by first | exact Nat.le_refl _ | omega) HNa5.out.size) ?_)
        intro a5 c5 w5 hown5 hgrow5
        have O5 : Hid (w5.ownsRow w.heap.size 3 1 (.slice a5 (k + 1) c5) (k + 1) (ints .i64 (((readsN xs).take k) ++ [(-2)]))) := by show World.ownsRow _ _ _ _ _ _ _; simpa [ints] using hown5
        have N5 : Hid (Below w.heap.size w w5) := below_app HNa5.out HOa5.out hgrow5 HNa5.out.size (by first | exact Nat.le_refl _ | omega)
        clear hown5 hgrow5 HOa5 HNa5 Sa5
        go_wp2
        go_roundw
        case rel => exact ⟨k + 1, a5, c5, by omega, by go_num, rfl, by rw [FT2.out]; exact O5.out, N5.out⟩
        case measure => simp [intOf]; omega
    · obtain rfl : k = n := by omega
      have O4 : Hid (wr.ownsRow w.heap.size 3 1 (.slice a' k c') k (ints .i64 (readsN xs))) := by
        show World.ownsRow _ _ _ _ _ _ _
        have := HO.out
        rwa [List.take_of_length_le (by rw [HRL.out]; omega)] at this
      clear HO hnx
      go_wp2
      go_ret
      exact ⟨_, _, rfl, O4.out, HN.out⟩

set_option maxHeartbeats 800000 in
theorem spec_ReadsFrom (v : Value) (xs : List D) (w : World) (h : XIs w v xs) :
    Calls Try.prog 32 #[v] w fun e w' => ∃ u, e = .returned (.tuple #[u, .bool (goodP xs)]) ∧ IOwn w' w.heap.size w'.heap.size u (readsV xs) ∧ Below w.heap.size w w' := by
  obtain ⟨a, n, cap, rfl, hr, hn⟩ := h
  have HL : Hid (xs.length = n) := hr.len
  have HI : Hid (IsX w a n cap xs) := hr
  have HWF : Hid (∀ z ∈ readsN xs, (Lit.int .i64 z).wf = true) := readsN_wf (by rw [HL.out]; exact hn)
  clear hr
  cases hg : goodP xs
  · have E : Hid (readsV xs = []) := if_neg (by rw [hg]; exact Bool.false_ne_true)
    have HG : Hid (goodP xs = false) := hg
    clear hg
    go_enter Try.func32, Try.ntmps32
    go_wp2_with fail
    refine (spec_GoodPlay a n cap xs _ HI.out).mono ?_
    rintro e w1 ⟨rfl, hb1⟩
    have B1 : Hid (Below w.heap.size w w1) := hb1
    clear hb1
    rw [HG.out]
    go_wp2_with fail
    go_ret2
    exact ⟨_, rfl, by rw [E.out]; exact iOwn_nil _ _ _, B1.out⟩
  · have E : Hid (readsV xs = readsN xs) := if_pos hg
    have HG : Hid (goodP xs = true) := hg
    clear hg
    go_enter Try.func32, Try.ntmps32
    go_wp2_with fail
    refine (spec_GoodPlay a n cap xs _ HI.out).mono ?_
    rintro e w1 ⟨rfl, hb1⟩
    have B1 : Hid (Below w.heap.size w w1) := hb1
    clear hb1
    rw [HG.out]
    go_wp2_with fail
    refine (spec_reads a n cap xs _ (HI.out.below B1.out) hn).mono ?_
    rintro e w2 ⟨a', c', rfl, ho2, hb2⟩
    have O2 : Hid (w2.ownsRow w.heap.size 3 1 (.slice a' n c') n (ints .i64 (readsN xs))) := Mem.own_base ho2 B1.out.size
    have B2 : Hid (Below w.heap.size w w2) := Frame.next B1.out hb2 B1.out.size
    clear ho2 hb2
    go_wp2
    go_ret2
    exact ⟨_, rfl, by rw [E.out]; exact iOwn_of O2.out HWF.out (by omega), B2.out⟩


end Go.Proofs.Yteihgbiifcgipaa.Plb
