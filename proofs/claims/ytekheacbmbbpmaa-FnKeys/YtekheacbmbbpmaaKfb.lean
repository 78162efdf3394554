/-
  Keys, in the model: contract of KeysFor.
-/
import Derived.Test.YtekheacbmbbpmaaKfa
import Derived.Test.YtekheacbmbbpmaaBsp
namespace Go.Proofs.Ytekheacbmbbpmaa.Kfb
open Go.RowKit
open Go.Proofs.Ytekheacbmbbpmaa.Frame Go.Proofs.Ytekheacbmbbpmaa.Mem Go.Proofs.Ytekheacbmbbpmaa.Ints Go.Proofs.Ytekheacbmbbpmaa.Kep Go.Proofs.Ytekheacbmbbpmaa.Lls Go.Proofs.Ytekheacbmbbpmaa.Knl Go.Proofs.Ytekheacbmbbpmaa.Rpu Go.Proofs.Ytekheacbmbbpmaa.Mis Go.Proofs.Ytekheacbmbbpmaa.Sc Go.Proofs.Ytekheacbmbbpmaa.Dls Go.Proofs.Ytekheacbmbbpmaa.Dlk Go.Proofs.Ytekheacbmbbpmaa.Csa Go.Proofs.Ytekheacbmbbpmaa.Csb Go.Proofs.Ytekheacbmbbpmaa.Csc Go.Proofs.Ytekheacbmbbpmaa.Csd Go.Proofs.Ytekheacbmbbpmaa.Csf Go.Proofs.Ytekheacbmbbpmaa.Ssc Go.Proofs.Ytekheacbmbbpmaa.Spx Go.Proofs.Ytekheacbmbbpmaa.Bpu Go.Proofs.Ytekheacbmbbpmaa.Bsp Go.Proofs.Ytekheacbmbbpmaa.Kpu Go.Proofs.Ytekheacbmbbpmaa.Kfa
open Go.Proofs.Ytekheacbmbbpmaa.Rel hiding Ll
open Go.Proofs.Ytekheacbmbbpmaa.Cpu hiding Dp

def bools (l : List Bool) : List Value := l.map Value.bool
theorem bools_length (l : List Bool) : (bools l).length = l.length := by simp [bools]
def whT (f : Nat → Bool) (k N : Nat) : List Bool := (List.range N).map fun i => if i < k then f i else false
theorem whT_length (f : Nat → Bool) (k N : Nat) : (whT f k N).length = N := by simp [whT]
theorem whT_set (f : Nat → Bool) (k N : Nat) : (bools (whT f k N)).set k (.bool (f k)) = bools (whT f (k + 1) N) := by
  unfold bools whT
  refine List.ext_getElem (by simp) (fun i h1 h2 => ?_)
  rw [List.getElem_set]
  simp only [List.getElem_map, List.getElem_range]
  by_cases e : k = i
  · rw [if_pos e, if_pos (by omega), e]
  · rw [if_neg e]
    by_cases h : i < k
    · rw [if_pos h, if_pos (by omega)]
    · rw [if_neg h, if_neg (by omega)]
theorem whT_get (f : Nat → Bool) (N i : Nat) (h : i < N) : (bools (whT f N N))[i]? = some (.bool (f i)) := by
  unfold bools whT
  rw [List.getElem?_map, List.getElem?_map, List.getElem?_range h]
  simp [h]
theorem lOwn_low {w : World} {lo lo' hi : Nat} {v : Value} {xs : Knl.Ll} (h : LOwn w lo hi v xs) (hl : lo' ≤ lo) : LOwn w lo' hi v xs := by
  obtain ⟨a, n, cap, rs, rfl, h1, h2, h3, h4, h5⟩ := h
  exact ⟨a, n, cap, rs, rfl, Krl.ownLs_base h1 hl, h2, h3, fun x hx => ⟨Nat.le_trans hl (h4 x hx).1, (h4 x hx).2⟩, fun r hr x hx => ⟨Nat.le_trans hl (h5 r hr x hx).1, (h5 r hr x hx).2⟩⟩
theorem wrap64_in (z : Int) (h0 : -9223372036854775808 ≤ z) (h1 : z ≤ 9223372036854775807) : wrap64 z = z := by
  unfold wrap64
  omega
noncomputable def isT (ds : List Dp) (c n i : Nat) : Bool := whB ds c n && (List.range i).all fun k => !bitS (n : Int) k || !whB ds c (n - 2 ^ k)
theorem isT_succ (ds : List Dp) (c n i : Nat) : isT ds c n (i + 1) = (isT ds c n i && (!bitS (n : Int) i || !whB ds c (n - 2 ^ i))) := by
  unfold isT
  rw [List.range_succ, List.all_append, Bool.and_assoc]
  simp
theorem bit_zero (n : Int) (k : Nat) : (n / 2 ^ k % 2 == 0) = !bitS n k := by
  unfold bitS
  have h : n / 2 ^ k % 2 = 0 ∨ n / 2 ^ k % 2 = 1 := by omega
  rcases h with h | h <;> rw [h] <;> rfl

set_option maxRecDepth 8000 in
set_option maxHeartbeats 12800000 in
theorem spec_KeysFor (cols : Int) (v : Value) (ds : List Dp) (w : World) (h : DIs w v ds) :
    Calls Try.prog 6 #[.int .i64 cols, v] w fun e w' => ∃ u, e = .returned (.tuple #[u, .bool (goodD cols ds)]) ∧ LOwn w' w.heap.size w'.heap.size u (keysV cols ds) ∧ Below w.heap.size w w' := by
  obtain ⟨i0, hi, hz0, hz1, hz2⟩ := info_parts infoL
  obtain ⟨i1, hj, hy0, hy1, hy2⟩ := info_parts Csb.infoB
  have HD : Hid (DIs w v ds) := h
  clear h
  go_enter Try.func6, Try.ntmps6
  go_wp2_with fail
  refine (Dga.spec_GoodDeps cols v ds _ HD.out).mono ?_
  rintro e w1 ⟨rfl, hb1⟩
  have B1 : Hid (Below w.heap.size w w1) := hb1
  clear hb1
  cases hG : goodD cols ds
  · have EV : Hid (keysV cols ds = []) := by show _ = _; unfold keysV; rw [hG]; rfl
    have GF : Hid (goodD cols ds = false) := hG
    clear hG
    go_wp2
    go_ret2
    refine ⟨.slice none 0 0, by rw [GF.out]; rfl, ?_, B1.out⟩
    rw [EV.out]
    exact ⟨none, 0, 0, [], rfl, ⟨World.ownsRow_nil _ _ _ _, by simp, by simp, by simp, by simp⟩, rfl, by simp [totalL, sumL], (fun x hx => by cases hx), by simp⟩
  · have hc := cols_of hG
    obtain ⟨c, hcc⟩ : ∃ c : Nat, cols = (c : Int) := ⟨cols.toNat, by omega⟩
    have hc6 : c ≤ 6 := by have := hc.2.2.1; omega
    have hc1 : 1 ≤ c := by have := hc.2.1; omega
    have HC : Hid (Cols ds) := hc.1
    subst hcc
    have EV : Hid (keysV (c : Int) ds = keysTo ds c (2 ^ c)) := by show _ = _; unfold keysV; rw [hG, Int.toNat_natCast]; rfl
    have HIN : Hid (InD c ds) := inD_of hG
    have hsh : wrap64 ((2 : Int) ^ c) = ((2 ^ c : Nat) : Int) := Bsr.shl_one hc6
    have hN64 : 2 ^ c ≤ 64 := Bsr.pow_six hc6
    obtain ⟨N, hNe⟩ : ∃ N : Nat, 2 ^ c = N := ⟨_, rfl⟩
    have EV2 : Hid (keysV (c : Int) ds = keysTo ds c N) := by rw [← hNe]; exact EV.out
    have WL : Hid (∀ n, n < N → whB ds c n = decide (((clL ds (listI (bitS (n : Int)))).length : Int) = (c : Int))) := by rw [← hNe]; exact fun n hn => wh_len HIN.out hc6 hn
    rw [hNe] at hN64 hsh
    have GT : Hid (goodD (c : Int) ds = true) := hG
    clear hG hc hNe EV HIN
    go_wp2_with (at_make; go_loud (refine wpList_make_full _ rfl _ _ 56 rfl w.heap.size 4 i1 (.bool false) 1 Try.underlying56 hj hy0 hy1 _ _ _ _ N rfl rfl hsh hsh ?b2 ?b3 B1.out.size ?_))
    case b2 => rw [hy2]; omega
    case b3 => unfold maxLen; omega
    intro w2 hown2 hgrow2
    have e2 : (madeCells #[Value.bool false] N).toList = bools (whT (whB ds c) 0 N) := by
      rw [toList_madeCells_one]
      refine List.ext_getElem (by simp [bools, whT]) (fun i h1 h2 => ?_)
      simp [bools, whT]
    rw [e2] at hown2
    have O2 : Hid (w2.ownsRow w.heap.size 4 1 (.slice (some ⟨w1.heap.size, 0, none⟩) N N) N (bools (whT (whB ds c) 0 N))) := hown2
    have X2 : Hid (Below w.heap.size w w2) := below_make B1.out hgrow2 B1.out.size
    have G2 : Hid (w1.heap.size < w2.heap.size) := (own_block hown2 _ rfl).2
    clear hown2 hgrow2 e2 hsh
    go_wp2_with fail
    go_loopw [22] (fun i wr => ∃ k : Nat, k ≤ N ∧ i = .int .i64 k ∧ wr.ownsRow w.heap.size 4 1 (.slice (some ⟨w1.heap.size, 0, none⟩) N N) N (bools (whT (whB ds c) k N)) ∧ Below w.heap.size w wr) (fun i _ => N - (intOf i).toNat)
    case atStart => exact ⟨0, Nat.zero_le _, rfl, O2.out, X2.out⟩
    case round =>
      obtain ⟨k, hk, rfl, ho, hnx⟩ := hrel
      have HO : Hid (wr.ownsRow w.heap.size 4 1 (.slice (some ⟨w1.heap.size, 0, none⟩) N N) N (bools (whT (whB ds c) k N))) := ho
      have HX : Hid (Below w.heap.size w wr) := hnx
      clear ho hnx
      by_cases hlt : k < N
      · have hltI : (k : Int) < (N : Int) := by omega
        go_wp2_with fail
        refine (l5List k _ (by omega)).mono ?_
        rintro e w3 ⟨u3, rfl, ho3, hb3⟩
        obtain ⟨a3, n3, c3, rfl, hr3, hn3⟩ := iOwn_is ho3
        have R3 : Hid (IsRow .i64 w3 a3 n3 c3 (listI (bitS (k : Int)))) := hr3
        have X3 : Hid (Below wr.heap.size wr w3) := hb3
        clear ho3 hr3 hb3
        go_wp2_with fail
        refine (l5Closure v a3 n3 c3 ds _ _ (dIs_below HD.out (Ivb.bw_call HX.out X3.out)) R3.out HC.out (up_listI _) (fun z hz => by obtain ⟨i, hi, _, rfl⟩ := mem_listI.1 hz; omega)).mono ?_
        rintro e w4 ⟨u4, rfl, ho4, hb4⟩
        obtain ⟨a4, n4, c4, rfl, hr4, hn4⟩ := iOwn_is ho4
        have hl4 : (clL ds (listI (bitS (k : Int)))).length = n4 := hr4.len
        have X4 : Hid (Below wr.heap.size wr w4) := Ivb.bw_call X3.out hb4
        have HB : ((n4 : Int) == (c : Int)) = whB ds c k := by
          rw [WL.out k hlt, hl4]
          rw [Bool.eq_iff_iff, beq_iff_eq, decide_eq_true_eq]
        have O4 := own_below HO.out X4.out
        have hfz := O4.frozenAt k
        obtain ⟨old, hold⟩ : ∃ old, w4.cell? ⟨w1.heap.size, k, none⟩ = some old := by
          have hl := O4.1
          rw [O4.cellAt k (by omega)]
          exact ⟨_, List.getElem?_eq_getElem (by omega)⟩
        have hst := O4.stored k (.bool (whB ds c k))
        rw [whT_set] at hst
        have HST : Hid _ := hst
        clear ho4 hr4 hb4 hl4 O4 hst
        go_wp2_with fail
        go_roundw
        case rel => exact ⟨k + 1, by omega, by go_num, HST.out.1, (Ivb.bw_call HX.out X4.out).setCell B1.out.size _⟩
        case measure => simp [intOf]; omega
      · obtain rfl : k = N := by omega
        have hltI : ¬ (k : Int) < (k : Int) := by omega
        have g1 : w1.heap.size < wr.heap.size := (own_block HO.out _ rfl).2
        have G1 : Hid (w1.heap.size < wr.heap.size) := g1
        have HCE : Hid (∀ n, n < k → wr.cell? ⟨w1.heap.size, n, none⟩ = some (.bool (whB ds c n))) := fun n hn => by rw [HO.out.cellAt n (by omega)]; exact whT_get _ _ _ hn
        clear g1 HO O2 X2 G2
        go_wp2_with fail
        obtain ⟨wo, hwo⟩ : ∃ wo : World, wo = wr := ⟨_, rfl⟩
        subst hwo
        go_loopw [8, 38] (fun s i wx => ∃ (n m : Nat) (a' : Option Addr) (c' : Nat) (rs : List LV), n ≤ k ∧ m ≤ n ∧ i = .int .i64 n ∧ s = .slice a' m c' ∧ OwnLs wx wo.heap.size a' m c' rs ∧ lplain rs = keysTo ds c n ∧ (∀ r ∈ rs, r.n ≤ 6) ∧ Below wo.heap.size wo wx) (fun _ i _ => k - (intOf i).toNat)
        case atStart => exact ⟨0, 0, none, 0, [], Nat.zero_le _, Nat.le_refl _, rfl, rfl, ⟨World.ownsRow_nil _ _ _ _, by simp, by simp, by simp, by simp⟩, rfl, (fun r hr => by cases hr), Below.refl _ _⟩
        case round =>
          obtain ⟨n, m, a', c', rs, hn, hmn, rfl, rfl, ho, hpl, hr6, hnx⟩ := hrel
          have HO : Hid (OwnLs wr wo.heap.size a' m c' rs) := ho
          have HP : Hid (lplain rs = keysTo ds c n) := hpl
          have H6 : Hid (∀ r ∈ rs, r.n ≤ 6) := hr6
          have HY : Hid (Below wo.heap.size wo wr) := hnx
          have HCY : Hid (∀ i, i < k → wr.cell? ⟨w1.heap.size, i, none⟩ = some (.bool (whB ds c i))) := fun i hi => Frame.held_cell hnx (HCE.out i hi)
          clear ho hpl hr6 hnx
          by_cases hlt2 : n < k
          · have hlt2I : (n : Int) < (k : Int) := by omega
            have hcell := HCY.out n hlt2
            have IZ : Hid (isT ds c n 0 = whB ds c n) := by show _ = _; unfold isT; simp
            rw [← IZ.out] at hcell
            go_wp2_with fail
            clear hcell
            go_loop [10, 11] (fun b j => ∃ i : Nat, i ≤ c ∧ j = .int .i64 i ∧ b = .bool (isT ds c n i)) (fun _ j => c - (intOf j).toNat)
            case atStart => exact ⟨0, Nat.zero_le _, rfl, rfl⟩
            case round =>
              obtain ⟨i, hic, rfl, rfl⟩ := hrel
              by_cases hlt3 : i < c
              · have hlt3I : (i : Int) < (c : Int) := by omega
                have IS : Hid (isT ds c n (i + 1) = (isT ds c n i && (!bitS (n : Int) i || !whB ds c (n - 2 ^ i)))) := isT_succ ds c n i
                rcases em_bool (isT ds c n i) with hT | hT
                · have F : Hid (isT ds c n (i + 1) = false) := by show _ = _; rw [IS.out, hT]; rfl
                  rw [hT]
                  clear hT
                  go_wp2_with fail
                  go_round
                  case rel => exact ⟨i + 1, by omega, by go_num, by rw [F.out]⟩
                  case measure => simp [intOf]; omega
                · rw [hT]
                  obtain rfl | rfl | rfl | rfl | rfl | rfl : i = 0 ∨ i = 1 ∨ i = 2 ∨ i = 3 ∨ i = 4 ∨ i = 5 := by omega
                  · have hz : (bits .and .i64 ((n : Int)) 1 == 0) = !bitS (n : Int) 0 := by rw [i64_and1, ← bit_zero]; first | rfl | simp
                    rcases em_bool (bitS (n : Int) 0) with hb | hb
                    · have F : Hid (isT ds c n 1 = true) := by show _ = _; rw [IS.out, hT, hb]; rfl
                      rw [hb] at hz
                      clear hT hb
                      go_wp2_with fail
                      go_round
                      case rel => exact ⟨1, by omega, by go_num, by rw [F.out]⟩
                      case measure => simp [intOf]; omega
                    · have hs := (bit_sub n 0 (by omega) (by omega) hb).1
                      have F : Hid (isT ds c n 1 = !whB ds c (n - 2 ^ 0)) := by show _ = _; rw [IS.out, hT, hb]; rfl
                      have h1I : (1 : Int) ≤ (n : Int) := by omega
                      have h2I : (n : Int) - 1 < (k : Int) := by omega
                      have hcell : wr.cell? ⟨w1.heap.size, n - 1, none⟩ = some (.bool (whB ds c (n - 2 ^ 0))) := HCY.out (n - 1) (by omega)
                      rw [hb] at hz
                      clear hT hb hs
                      go_wp2_with fail
                      go_round
                      case rel => exact ⟨1, by omega, by go_num, by rw [F.out]⟩
                      case measure => simp [intOf]; omega
                  · have hz : (bits .and .i64 ((n : Int) / 2) 1 == 0) = !bitS (n : Int) 1 := by rw [i64_and1, ← bit_zero]; first | rfl | simp
                    rcases em_bool (bitS (n : Int) 1) with hb | hb
                    · have F : Hid (isT ds c n 2 = true) := by show _ = _; rw [IS.out, hT, hb]; rfl
                      rw [hb] at hz
                      clear hT hb
                      go_wp2_with fail
                      go_round
                      case rel => exact ⟨2, by omega, by go_num, by rw [F.out]⟩
                      case measure => simp [intOf]; omega
                    · have hs := (bit_sub n 1 (by omega) (by omega) hb).1
                      have F : Hid (isT ds c n 2 = !whB ds c (n - 2 ^ 1)) := by show _ = _; rw [IS.out, hT, hb]; rfl
                      have h1I : (2 : Int) ≤ (n : Int) := by omega
                      have h2I : (n : Int) - 2 < (k : Int) := by omega
                      have hcell : wr.cell? ⟨w1.heap.size, n - 2, none⟩ = some (.bool (whB ds c (n - 2 ^ 1))) := HCY.out (n - 2) (by omega)
                      rw [hb] at hz
                      clear hT hb hs
                      go_wp2_with fail
                      go_round
                      case rel => exact ⟨2, by omega, by go_num, by rw [F.out]⟩
                      case measure => simp [intOf]; omega
                  · have hz : (bits .and .i64 ((n : Int) / 4) 1 == 0) = !bitS (n : Int) 2 := by rw [i64_and1, ← bit_zero]; first | rfl | simp
                    rcases em_bool (bitS (n : Int) 2) with hb | hb
                    · have F : Hid (isT ds c n 3 = true) := by show _ = _; rw [IS.out, hT, hb]; rfl
                      rw [hb] at hz
                      clear hT hb
                      go_wp2_with fail
                      go_round
                      case rel => exact ⟨3, by omega, by go_num, by rw [F.out]⟩
                      case measure => simp [intOf]; omega
                    · have hs := (bit_sub n 2 (by omega) (by omega) hb).1
                      have F : Hid (isT ds c n 3 = !whB ds c (n - 2 ^ 2)) := by show _ = _; rw [IS.out, hT, hb]; rfl
                      have h1I : (4 : Int) ≤ (n : Int) := by omega
                      have h2I : (n : Int) - 4 < (k : Int) := by omega
                      have hcell : wr.cell? ⟨w1.heap.size, n - 4, none⟩ = some (.bool (whB ds c (n - 2 ^ 2))) := HCY.out (n - 4) (by omega)
                      rw [hb] at hz
                      clear hT hb hs
                      go_wp2_with fail
                      go_round
                      case rel => exact ⟨3, by omega, by go_num, by rw [F.out]⟩
                      case measure => simp [intOf]; omega
                  · have hz : (bits .and .i64 ((n : Int) / 8) 1 == 0) = !bitS (n : Int) 3 := by rw [i64_and1, ← bit_zero]; first | rfl | simp
                    rcases em_bool (bitS (n : Int) 3) with hb | hb
                    · have F : Hid (isT ds c n 4 = true) := by show _ = _; rw [IS.out, hT, hb]; rfl
                      rw [hb] at hz
                      clear hT hb
                      go_wp2_with fail
                      go_round
                      case rel => exact ⟨4, by omega, by go_num, by rw [F.out]⟩
                      case measure => simp [intOf]; omega
                    · have hs := (bit_sub n 3 (by omega) (by omega) hb).1
                      have F : Hid (isT ds c n 4 = !whB ds c (n - 2 ^ 3)) := by show _ = _; rw [IS.out, hT, hb]; rfl
                      have h1I : (8 : Int) ≤ (n : Int) := by omega
                      have h2I : (n : Int) - 8 < (k : Int) := by omega
                      have hcell : wr.cell? ⟨w1.heap.size, n - 8, none⟩ = some (.bool (whB ds c (n - 2 ^ 3))) := HCY.out (n - 8) (by omega)
                      rw [hb] at hz
                      clear hT hb hs
                      go_wp2_with fail
                      go_round
                      case rel => exact ⟨4, by omega, by go_num, by rw [F.out]⟩
                      case measure => simp [intOf]; omega
                  · have hz : (bits .and .i64 ((n : Int) / 16) 1 == 0) = !bitS (n : Int) 4 := by rw [i64_and1, ← bit_zero]; first | rfl | simp
                    rcases em_bool (bitS (n : Int) 4) with hb | hb
                    · have F : Hid (isT ds c n 5 = true) := by show _ = _; rw [IS.out, hT, hb]; rfl
                      rw [hb] at hz
                      clear hT hb
                      go_wp2_with fail
                      go_round
                      case rel => exact ⟨5, by omega, by go_num, by rw [F.out]⟩
                      case measure => simp [intOf]; omega
                    · have hs := (bit_sub n 4 (by omega) (by omega) hb).1
                      have F : Hid (isT ds c n 5 = !whB ds c (n - 2 ^ 4)) := by show _ = _; rw [IS.out, hT, hb]; rfl
                      have h1I : (16 : Int) ≤ (n : Int) := by omega
                      have h2I : (n : Int) - 16 < (k : Int) := by omega
                      have hcell : wr.cell? ⟨w1.heap.size, n - 16, none⟩ = some (.bool (whB ds c (n - 2 ^ 4))) := HCY.out (n - 16) (by omega)
                      rw [hb] at hz
                      clear hT hb hs
                      go_wp2_with fail
                      go_round
                      case rel => exact ⟨5, by omega, by go_num, by rw [F.out]⟩
                      case measure => simp [intOf]; omega
                  · have hz : (bits .and .i64 ((n : Int) / 32) 1 == 0) = !bitS (n : Int) 5 := by rw [i64_and1, ← bit_zero]; first | rfl | simp
                    rcases em_bool (bitS (n : Int) 5) with hb | hb
                    · have F : Hid (isT ds c n 6 = true) := by show _ = _; rw [IS.out, hT, hb]; rfl
                      rw [hb] at hz
                      clear hT hb
                      go_wp2_with fail
                      go_round
                      case rel => exact ⟨6, by omega, by go_num, by rw [F.out]⟩
                      case measure => simp [intOf]; omega
                    · have hs := (bit_sub n 5 (by omega) (by omega) hb).1
                      have F : Hid (isT ds c n 6 = !whB ds c (n - 2 ^ 5)) := by show _ = _; rw [IS.out, hT, hb]; rfl
                      have h1I : (32 : Int) ≤ (n : Int) := by omega
                      have h2I : (n : Int) - 32 < (k : Int) := by omega
                      have hcell : wr.cell? ⟨w1.heap.size, n - 32, none⟩ = some (.bool (whB ds c (n - 2 ^ 5))) := HCY.out (n - 32) (by omega)
                      rw [hb] at hz
                      clear hT hb hs
                      go_wp2_with fail
                      go_round
                      case rel => exact ⟨6, by omega, by go_num, by rw [F.out]⟩
                      case measure => simp [intOf]; omega
              · obtain rfl : i = c := by omega
                have hlt3I : ¬ (i : Int) < (i : Int) := by omega
                have IK : Hid (isT ds i n i = keyB ds i n) := rfl
                rcases em_bool (isT ds i n i) with hT | hT
                · have KN : Hid (keysTo ds i (n + 1) = keysTo ds i n) := keys_no (by rw [← IK.out]; exact hT)
                  rw [hT]
                  clear hT
                  go_wp2_with fail
                  go_roundw
                  case rel => exact ⟨n + 1, m, a', c', rs, by omega, by omega, by go_num, rfl, HO.out, by rw [KN.out]; exact HP.out, H6.out, HY.out⟩
                  case measure => simp [intOf]; omega
                · have KY : Hid (keysTo ds i (n + 1) = keysTo ds i n ++ [listI (bitS (n : Int))]) := keys_yes (by rw [← IK.out]; exact hT)
                  rw [hT]
                  clear hT
                  go_wp2_with fail
                  refine (l5List n _ (by omega)).mono ?_
                  rintro e w8 ⟨u8, rfl, ho8, hb8⟩
                  obtain ⟨a8, n8, c8, rfl, hown8, hwf8, hn8, hbl8⟩ := ho8
                  have hlen8 : (listI (bitS (n : Int))).length = n8 := by have := hown8.1; rw [ints_length] at this; omega
                  have hn86 : n8 ≤ 6 := by rw [← hlen8]; exact listI_length _
                  have X8 : Hid (Below wr.heap.size wr w8) := hb8
                  have R8 : Hid (w8.ownsRow wo.heap.size 3 1 (.slice a8 n8 c8) n8 (ints .i64 (listI (bitS (n : Int))))) := own_base hown8 HY.out.size
                  have F8 : Hid (∀ s ∈ rs, Far s.a a8) := fun s hs x y hx hy => by
                    have h1 := (HO.out.lt s hs x hx).2
                    have h2 := (hbl8 y hy).1
                    omega
                  have W8 : Hid (∀ z ∈ listI (bitS (n : Int)), (Lit.int .i64 z).wf = true) := hwf8
                  clear hown8 hwf8 hbl8 hlen8 hb8
                  have ab : Below w8.heap.size w8 (w8.alloc (.cells #[.slice a8 n8 c8] 34)) := (Below.refl _ _).alloc (Nat.le_refl _) _
                  have O9 : Hid (OwnLs (w8.alloc (.cells #[.slice a8 n8 c8] 34)) wo.heap.size a' m c' rs) := (HO.out.below X8.out).below ab
                  have R9 : Hid ((w8.alloc (.cells #[.slice a8 n8 c8] 34)).ownsRow wo.heap.size 3 1 (.slice a8 n8 c8) n8 (ints .i64 (listI (bitS (n : Int))))) := own_below R8.out ab
                  have X9 : Hid (Below wo.heap.size wo (w8.alloc (.cells #[.slice a8 n8 c8] 34))) := Ivb.bw_made _ (Ivb.bw_call HY.out X8.out)
                  have S9 : Hid (0 < 1 → ∃ ad, (some ⟨w8.heap.size, 0, none⟩ : Option Addr) = some ad ∧ ∀ j u, ([.slice a8 n8 c8] : List Value)[j]? = some u → (w8.alloc (.cells #[.slice a8 n8 c8] 34)).cell? (ad.add j) = some u) := news_one w8 _ _
                  have OUT9 : Hid ((w8.alloc (.cells #[.slice a8 n8 c8] 34)).ownsRow wo.heap.size 34 1 (.slice a' m c') m (lcells rs)) := O9.out.outer
                  clear ab
                  go_wp2_with (at_builtin; refine App.wpList_append_all _ rfl _ _ 26 rfl wo.heap.size 34 i0 (.slice none 0 0) 1 24 Try.underlying26 hi hz0 hz1 hz2 rfl (by decide) _ _ _ rfl OUT9.out _ 1 _ [.slice a8 n8 c8] rfl rfl S9.out (by simp [Value.oneCell']) (by unfold maxLen; omega) (by omega) X9.out.size ?_)
                  intro a10 c10 w10 hown10 hgrow10
                  have LC : Hid (lcells (rs ++ [⟨a8, n8, c8, listI (bitS (n : Int))⟩]) = lcells rs ++ [.slice a8 n8 c8]) := by show _ = _; unfold lcells; rw [List.map_append]; rfl
                  have O10 : Hid (OwnLs w10 wo.heap.size a10 (m + 1) c10 (rs ++ [⟨a8, n8, c8, listI (bitS (n : Int))⟩])) := ls_push O9.out R9.out W8.out F8.out hgrow10 (by rw [LC.out]; exact hown10)
                  have X10 : Hid (Below wo.heap.size wo w10) := below_app X9.out OUT9.out hgrow10 X9.out.size (Nat.le_refl _)
                  have P10 : Hid (lplain (rs ++ [⟨a8, n8, c8, listI (bitS (n : Int))⟩]) = keysTo ds i (n + 1)) := by show _ = _; unfold lplain; rw [List.map_append, KY.out, ← HP.out]; rfl
                  have H10 : Hid (∀ r ∈ rs ++ [(⟨a8, n8, c8, listI (bitS (n : Int))⟩ : LV)], r.n ≤ 6) := fun r hr => by
                    rcases List.mem_append.1 hr with hr | hr
                    · exact H6.out r hr
                    · rw [List.mem_singleton.1 hr]; exact hn86
                  clear hown10 hgrow10
                  go_wp2
                  go_roundw
                  case rel => exact ⟨n + 1, m + 1, a10, c10, _, by omega, by omega, by go_num, rfl, O10.out, P10.out, H10.out, X10.out⟩
                  case measure => simp [intOf]; omega
          · obtain rfl : n = k := by omega
            have hlt2I : ¬ (n : Int) < (n : Int) := by omega
            have F : Hid (LOwn wr wo.heap.size wr.heap.size (.slice a' m c') (keysTo ds c n)) := keys_ret HO.out HP.out hN64 H6.out
            have BW : Hid (Below w.heap.size w wr) := Ivb.bw_call HX.out HY.out
            go_wp2
            go_ret2
            exact ⟨_, by rw [GT.out]; rfl, by rw [EV2.out]; exact lOwn_low F.out HX.out.size, BW.out⟩


end Go.Proofs.Ytekheacbmbbpmaa.Kfb
