/-
  Contracts of what a node reaches, in the program: isNode, the walk, reachedFrom, ReachOf.
-/
import Derived.Test.YtkondmnkmbdncaaGpd
import Derived.Test.YtkondmnkmbdncaaGla
namespace Go.Proofs.Ytkondmnkmbdncaa.Glb
open Go.RowKit
open Go.Proofs.Ytkondmnkmbdncaa.Frame Go.Proofs.Ytkondmnkmbdncaa.Mem Go.Proofs.Ytkondmnkmbdncaa.Ints Go.Proofs.Ytkondmnkmbdncaa.Kep Go.Proofs.Ytkondmnkmbdncaa.Lls Go.Proofs.Ytkondmnkmbdncaa.Mis Go.Proofs.Ytkondmnkmbdncaa.Gpu Go.Proofs.Ytkondmnkmbdncaa.Gpd Go.Proofs.Ytkondmnkmbdncaa.Gla
open Go.Proofs.Ytkondmnkmbdncaa.Kpi (Enters enters kept_int)
open Go.Proofs.Ytkondmnkmbdncaa.Knl hiding Ll
open Go.Proofs.Ytkondmnkmbdncaa.Rel

theorem own_row {w : World} {base : Nat} {a : Option Addr} {n c : Nat} {zs : List Int} (h : w.ownsRow base 3 1 (.slice a n c) n (ints .i64 zs)) (hw : ∀ z ∈ zs, (Lit.int .i64 z).wf = true) : IsRow .i64 w a n c zs := by
  obtain ⟨_, _, e, hr⟩ := isRow_own h hw
  cases e
  exact hr
theorem iOwn_nil (w : World) (lo hi : Nat) : IOwn w lo hi (.slice none 0 0) [] := ⟨none, 0, 0, rfl, ⟨rfl, .inl ⟨rfl, rfl⟩⟩, by simp, by omega, by simp⟩
theorem em_bool (b : Bool) : b = false ∨ b = true := by cases b <;> simp

set_option maxRecDepth 4000 in
set_option maxHeartbeats 800000 in
theorem numbersBelow (n : Nat) (w : World) (hn : n ≤ 100000) :
    Calls Try.prog 92 #[.int .i64 n] w fun e w' => ∃ g, e = .returned (.slice (some ⟨g, 0, none⟩) n n) ∧ w'.ownsRow w.heap.size 3 1 (.slice (some ⟨g, 0, none⟩) n n) n (ints .i64 (numN n)) ∧ Below w.heap.size w w' := by
  obtain ⟨i0, hi, hz0, hz1, hz2⟩ := info_parts Ints.info
  go_enter Try.func92, Try.ntmps92
  go_wp2_with (at_make; refine wpList_make_full _ rfl _ _ 24 rfl w.heap.size 3 i0 (.int .i64 0) 1 Try.underlying24 hi hz0 hz1 _ _ _ _ n rfl rfl rfl rfl ?b2 ?b3 (Nat.le_refl _) ?_)
  case b2 => rw [hz2]; omega
  case b3 => unfold maxLen; omega
  intro w2 hown2 hgrow2
  have B2 : Hid (Below w.heap.size w w2) := below_make (Below.refl _ _) hgrow2 (Nat.le_refl _)
  have O2 : Hid (w2.ownsRow w.heap.size 3 1 (.slice (some ⟨w.heap.size, 0, none⟩) n n) n (ints .i64 ((numN n).take 0) ++ List.replicate (n - 0) (Value.int .i64 0))) := by
    show World.ownsRow _ _ _ _ _ _ _
    have e : (madeCells #[Value.int .i64 0] n).toList = ints .i64 ((numN n).take 0) ++ List.replicate (n - 0) (Value.int .i64 0) := by
      rw [toList_madeCells_one]; simp [ints]
    rw [← e]
    exact hown2
  clear hown2 hgrow2
  go_wp2_with fail
  go_loopw [9] (fun i wr => ∃ k : Nat, k ≤ n ∧ i = .int .i64 k ∧ wr.ownsRow w.heap.size 3 1 (.slice (some ⟨w.heap.size, 0, none⟩) n n) n (ints .i64 ((numN n).take k) ++ List.replicate (n - k) (Value.int .i64 0)) ∧ Below w.heap.size w wr) (fun i _ => n - (intOf i).toNat)
  case atStart => exact ⟨0, by omega, rfl, O2.out, B2.out⟩
  case round =>
    obtain ⟨k, hk, rfl, ho, hnx⟩ := hrel
    have HN : Hid (Below w.heap.size w wr) := hnx
    have HO : Hid (wr.ownsRow w.heap.size 3 1 (.slice (some ⟨w.heap.size, 0, none⟩) n n) n (ints .i64 ((numN n).take k) ++ List.replicate (n - k) (Value.int .i64 0))) := ho
    clear hnx
    by_cases hlt : k < n
    · have hset := Ints.set_part (numN n) n k (by rw [numN_length]; exact hlt) (numN_length n)
      rw [numN_get n k hlt] at hset
      have hst := (ho.stored k (.int .i64 (k : Int))).1
      rw [hset] at hst
      have Hst : Hid _ := hst
      have hfz := ho.frozenAt k
      obtain ⟨old, hold⟩ : ∃ old, wr.cell? ⟨w.heap.size, k, none⟩ = some old := by
        have hl : (ints .i64 ((numN n).take k) ++ List.replicate (n - k) (Value.int .i64 0)).length = n := by
          rw [List.length_append, ints_length, List.length_take, List.length_replicate, numN_length]; omega
        rw [ho.cellAt k (by omega)]
        exact ⟨_, List.getElem?_eq_getElem (by omega)⟩
      have hkI : (k : Int) < (n : Int) := by omega
      clear hst ho hset
      go_wp2
      go_roundw
      case rel => exact ⟨k + 1, by omega, by go_num, Hst.out, HN.out.setCell (Nat.le_refl _) _⟩
      case measure => simp [intOf]; omega
    · have O4 : Hid (wr.ownsRow w.heap.size 3 1 (.slice (some ⟨w.heap.size, 0, none⟩) n n) n (ints .i64 (numN n))) := by
        show World.ownsRow _ _ _ _ _ _ _
        have := HO.out
        obtain rfl : k = n := by omega
        rwa [List.take_of_length_le (by rw [numN_length]; omega), Nat.sub_self, List.replicate_zero, List.append_nil] at this
      clear ho
      go_wp2
      go_ret
      exact ⟨_, rfl, O4.out, HN.out⟩

theorem isNode (a : Option Addr) (n c : Nat) (k : Int) (w : World) :
    Calls Try.prog 89 #[.slice a n c, .int .i64 k] w fun e w' => e = .returned (.bool (decide (0 ≤ k ∧ k < (n : Int)))) ∧ w' = w := by
  by_cases h0 : 0 ≤ k
  · have hI : decide (0 ≤ k) = true := decide_eq_true h0
    go_enter Try.func89, Try.ntmps89
    go_wp2
    go_ret
    exact ⟨ret_bool (by simp [h0]), rfl⟩
  · have hI : decide (0 ≤ k) = false := decide_eq_false h0
    go_enter Try.func89, Try.ntmps89
    go_wp2
    go_ret
    exact ⟨ret_bool (by first | (simp; done) | (simp; omega)), rfl⟩

/-- Twelve marks in a block. -/
structure At (w : World) (r : Nat) (R : Rs) : Prop where
  cell : ∀ i, i < 12 → w.cell? ⟨r, i, none⟩ = some (.bool (R i))
  froz : ∀ i, i < 12 → w.frozen? ⟨r, i, none⟩ = false
theorem At.below {w w' : World} {r : Nat} {R : Rs} (h : At w r R) (hr : r < w.heap.size) (hb : Below w.heap.size w w') : At w' r R :=
  ⟨fun i hi => by rw [hb.cell (p := ⟨r, i, none⟩) hr]; exact h.cell i hi, fun i hi => by rw [hb.frozen (p := ⟨r, i, none⟩) hr]; exact h.froz i hi⟩
theorem At.set {w : World} {r k : Nat} {R : Rs} (h : At w r R) (hk : k < 12) : At (w.setCell ⟨r, k, none⟩ (.bool true)) r (upd R k) := by
  refine ⟨fun i hi => ?_, fun i hi => ?_⟩
  · by_cases e : i = k
    · subst e
      rw [upd_same]
      exact World.cell?_setCell_same _ _ _ (h.cell i hi)
    · rw [upd_other R e, World.cell?_setCell_other _ _ _ _ (by simp)]
      exact h.cell i hi
  · rw [World.frozen?_setCell]
    exact h.froz i hi
theorem At.lt {w : World} {r : Nat} {R : Rs} (h : At w r R) : r < w.heap.size := Frame.cell_lt (h.cell 0 (by omega))

set_option maxRecDepth 8000 in
set_option maxHeartbeats 3200000 in
theorem walk_node (W0 : World) (la : Option Addr) (ln lc : Nat) (rs : List LV) (r bl bw : Nat) (hl : IsLs W0 la ln lc rs) (hg : GoodP (lplain rs)) (hr : W0.heap.size ≤ r) (hbl : bl ≠ r) (hbw : bw ≠ r) :
    ∀ (m : Nat) (R : Rs) (x : Nat) (w : World), cnt R < m → x < ln → At w r R → Below W0.heap.size W0 w → w.cell? ⟨bl, 0, none⟩ = some (.slice la ln lc) → w.cell? ⟨bw, 0, none⟩ = some (.func (.func 133) #[] #[.pointer (some ⟨r, 0, none⟩), .pointer (some ⟨bl, 0, none⟩), .pointer (some ⟨bw, 0, none⟩)]) →
      Calls Try.prog 133 #[.int .i64 (x : Int), .pointer (some ⟨r, 0, none⟩), .pointer (some ⟨bl, 0, none⟩), .pointer (some ⟨bw, 0, none⟩)] w fun e w' => ∃ R', e = .returned (.tuple #[]) ∧ Dfs (lplain rs) R x R' ∧ At w' r R' ∧ OnlyAt (some ⟨r, 0, none⟩) w w' := by
  intro m
  induction m with
  | zero => intro R x w h; exact absurd h (by omega)
  | succ m ih =>
    intro R x w hm hx hat hb hcl hcw
    have hlen : (lplain rs).length = ln := by simp [lplain, hl.len]
    have hn12 : ln ≤ 12 := by have := hg.few; omega
    have HA : Hid (At w r R) := hat
    have HB : Hid (Below W0.heap.size W0 w) := hb
    have HI : Hid (IsLs W0 la ln lc rs) := hl
    have HG : Hid (GoodP (lplain rs)) := hg
    have HR : Hid (W0.heap.size ≤ r) := hr
    have c0 := hat.cell x (by omega)
    have f0 := hat.froz x (by omega)
    have hxI : (x : Int) < 12 := by omega
    have hx0 : (0 : Int) ≤ (x : Int) := by omega
    rcases em_bool (R x) with hv | hv
    · have hcnt := cnt_upd (R := R) (x := x) (by omega) hv
      rw [hv] at c0
      obtain ⟨b, off, rfl, hbl0, hc⟩ := hl.cells (by omega)
      have hkl : x < rs.length := by rw [hl.len]; exact hx
      have hrow := hl.rows _ (getD_mem_ld hkl)
      have hck := hc x hx
      have hge : gRow (lplain rs) (x : Int) = (rs.getD x ld).zs := by unfold gRow; rw [show ((x : Int)).toNat = x by omega]; exact lplain_get rs x hkl
      have hrr : ∀ z ∈ (rs.getD x ld).zs, 0 ≤ z ∧ z < (ln : Int) := fun z hz => by rw [← hlen]; exact hg.mem _ (List.mem_map.2 ⟨_, getD_mem_ld hkl, rfl⟩) z hz
      generalize rs.getD x ld = q at hrow hck hge hrr
      obtain ⟨qa, qn, qc, zs⟩ := q
      simp only at hrow hck hge hrr
      have HROW : Hid (IsRow .i64 W0 qa qn qc zs) := hrow
      have HZ : Hid (∀ z ∈ zs, 0 ≤ z ∧ z < (ln : Int)) := hrr
      have HE : Hid (gRow (lplain rs) (x : Int) = zs) := hge
      have HZL : Hid (zs.length = qn) := hrow.len
      have hqn : qn ≤ 9223372036854775807 := by have := hrow.fits; have := hrow.max; unfold maxLen at *; omega
      have HC : Hid (cnt (upd R x) < cnt R) := hcnt
      have HM : Hid (cnt R < m + 1) := hm
      have hneb : b ≠ r := by omega
      have k0 : w.cell? ⟨b, off + x, none⟩ = some (.slice qa qn qc) := by rw [hb.cell (p := ⟨b, off + x, none⟩) hbl0]; exact hck
      have AS : Hid (At (w.setCell ⟨r, x, none⟩ (.bool true)) r (upd R x)) := hat.set (by omega)
      have OS : Hid (OnlyAt (some ⟨r, 0, none⟩) w (w.setCell ⟨r, x, none⟩ (.bool true))) := (OnlyAt.refl _ w).setCell (fun y hy => by cases hy; rfl) (by simp) _
      have KL : Hid (w.cell? ⟨bl, 0, none⟩ = some (.slice (some ⟨b, off, none⟩) ln lc)) := hcl
      have KW : Hid (w.cell? ⟨bw, 0, none⟩ = some (.func (.func 133) #[] #[.pointer (some ⟨r, 0, none⟩), .pointer (some ⟨bl, 0, none⟩), .pointer (some ⟨bw, 0, none⟩)])) := hcw
      have s1 : (w.setCell ⟨r, x, none⟩ (.bool true)).cell? ⟨bl, 0, none⟩ = some (.slice (some ⟨b, off, none⟩) ln lc) := by rw [World.cell?_setCell_other _ _ _ _ (by simp)]; exact hcl
      have s2 : (w.setCell ⟨r, x, none⟩ (.bool true)).cell? ⟨b, off + x, none⟩ = some (.slice qa qn qc) := by rw [World.cell?_setCell_other _ _ _ _ (by simp)]; exact k0
      have hxn : (x : Int) < (ln : Int) := by omega
      clear hat hb hl hg hr hcl hcw hc hrow hck hge hrr hcnt hm hbl0 hlen k0
      go_enter Try.func133, Try.ntmps133
      go_wp2_with fail
      go_loopw [17] (fun i wr => ∃ (j : Nat) (S : Rs), j ≤ qn ∧ i = .int .i64 j ∧ Mid (lplain rs) R x j S ∧ At wr r S ∧ OnlyAt (some ⟨r, 0, none⟩) w wr) (fun i _ => qn - (intOf i).toNat)
      case atStart => exact ⟨0, upd R x, Nat.zero_le _, rfl, mid_start, AS.out, OS.out⟩
      case round =>
        obtain ⟨j, S, hj, rfl, hmid, hat, hon⟩ := hrel
        have HMD : Hid (Mid (lplain rs) R x j S) := hmid
        have HAT : Hid (At wr r S) := hat
        have HON : Hid (OnlyAt (some ⟨r, 0, none⟩) w wr) := hon
        clear hmid hat hon s1 s2 c0 f0
        by_cases hlt : j < qn
        · have BW : Hid (Below W0.heap.size W0 wr) := below_touch HB.out HON.out (fun y hy => by cases hy; exact HR.out) HB.out.size
          obtain ⟨b2, o2, rfl, hl2, hc2⟩ := (IsRow.below HROW.out BW.out).cells (by omega)
          have p0 := hc2 j hlt
          have hz := HZ.out _ (getD_mem (zs := zs) (i := j) (by rw [HZL.out]; exact hlt))
          have HSTEP : Hid (∀ S', Dfs (lplain rs) S (zs.getD j 0).toNat S' → Mid (lplain rs) R x (j + 1) S') := fun S' d => by
            have hm := HMD.out
            exact mid_step hm (by rw [HE.out, HZL.out]; exact hlt) (by rw [HE.out]; exact hz.1) (by rw [HE.out]; exact d)
          generalize zs.getD j 0 = z at p0 hz HSTEP
          obtain ⟨y, rfl⟩ : ∃ y : Nat, z = (y : Int) := ⟨z.toNat, by omega⟩
          rw [show ((y : Int)).toNat = y by omega] at HSTEP
          have q1 : wr.cell? ⟨bl, 0, none⟩ = some (.slice (some ⟨b, off, none⟩) ln lc) := by rw [HON.out.cell (Frame.cell_lt KL.out) (fun y hy => by cases hy; exact hbl)]; exact KL.out
          have q2 : wr.cell? ⟨bw, 0, none⟩ = some (.func (.func 133) #[] #[.pointer (some ⟨r, 0, none⟩), .pointer (some ⟨bl, 0, none⟩), .pointer (some ⟨bw, 0, none⟩)]) := by rw [HON.out.cell (Frame.cell_lt KW.out) (fun y hy => by cases hy; exact hbw)]; exact KW.out
          have CALL : Hid (Calls Try.prog 133 #[.int .i64 (y : Int), .pointer (some ⟨r, 0, none⟩), .pointer (some ⟨bl, 0, none⟩), .pointer (some ⟨bw, 0, none⟩)] wr fun e w' => ∃ R', e = .returned (.tuple #[]) ∧ Dfs (lplain rs) S y R' ∧ At w' r R' ∧ OnlyAt (some ⟨r, 0, none⟩) wr w') :=
            ih S y wr (by have h1 := cnt_mono (HMD.out.mono); have h2 := HC.out; have h3 := HM.out; omega) (by omega) HAT.out BW.out q1 q2
          have hj0 : (0 : Int) ≤ (j : Int) := by omega
          have hjn : (j : Int) < (qn : Int) := by omega
          clear hc2 hl2 q1 hz
          go_wp2_with fail
          refine Calls.mono CALL.out ?_
          rintro e w2 ⟨S', rfl, hd, ha2, ho2⟩
          have M2 : Hid (Mid (lplain rs) R x (j + 1) S') := HSTEP.out S' hd
          have A2 : Hid (At w2 r S') := ha2
          have O2 : Hid (OnlyAt (some ⟨r, 0, none⟩) w w2) := HON.out.trans ho2
          clear hd ha2 ho2 p0 q2 CALL HSTEP
          go_wp2
          go_roundw
          case rel => exact ⟨j + 1, S', by omega, by go_num, M2.out, A2.out, O2.out⟩
          case measure => simp [intOf]; omega
        · obtain rfl : j = qn := by omega
          have HD : Hid (Dfs (lplain rs) R x S) := mid_end (by rw [HE.out, HZL.out]; exact HMD.out)
          go_wp2
          go_end0
          exact ⟨S, rfl, HD.out, HAT.out, HON.out⟩
    · rw [hv] at c0
      have HV : Hid (R x = true) := hv
      clear hat hb hl hg hr hv
      go_enter Try.func133, Try.ntmps133
      go_wp2
      (try simp only [Exit.inBlock, Exit.then]); refine bodyPost_ret (results_none rfl _ _ _) rfl ?_
      exact ⟨R, rfl, dfs_already HV.out, HA.out, OnlyAt.refl _ _⟩

set_option maxRecDepth 4000 in
theorem is_reached (r : Nat) (R : Rs) (x : Int) (w : World) (h : At w r R) (h0 : 0 ≤ x) (h1 : x < 12) :
    Calls Try.prog 134 #[.int .i64 x, .pointer (some ⟨r, 0, none⟩)] w fun e w' => e = .returned (.bool (R x.toNat)) ∧ Below w.heap.size w w' := by
  obtain ⟨k, rfl⟩ : ∃ k : Nat, x = (k : Int) := ⟨x.toNat, by omega⟩
  have c0 := h.cell k (by omega)
  rw [show ((k : Int)).toNat = k by omega]
  clear h
  go_enter Try.func134, Try.ntmps134
  go_wp2
  go_ret
  exact ⟨rfl, Below.refl _ _⟩

theorem links_lt {xs : Ll} (hg : GoodP xs) : xs.length ≤ 12 := hg.few
set_option maxRecDepth 8000 in
set_option maxHeartbeats 3200000 in
theorem reachedFrom (la : Option Addr) (ln lc : Nat) (rs : List LV) (x : Nat) (w : World) (hl : IsLs w la ln lc rs) (hg : GoodP (lplain rs)) (hx : x < ln) :
    Calls Try.prog 90 #[.slice la ln lc, .int .i64 (x : Int)] w fun e w' => ∃ a' m c', e = .returned (.slice a' m c') ∧ m ≤ 12 ∧ w'.ownsRow w.heap.size 3 1 (.slice a' m c') m (ints .i64 (reachN (lplain rs) (x : Int))) ∧ Below w.heap.size w w' := by
  have hlen : (lplain rs).length = ln := by simp [lplain, hl.len]
  have hn12 : ln ≤ 12 := by have := hg.few; omega
  have HL : Hid ((lplain rs).length = ln) := hlen
  have HI : Hid (IsLs w la ln lc rs) := hl
  have HG : Hid (GoodP (lplain rs)) := hg
  have HEN : Hid (Enters Try.prog 134) := enters Try.func134 (by kernel_rfl) rfl
  have hst : ∀ (a : Addr) (w : World) (f : Fn) (x y : Array Value) (m : Mode), (store a (.func f x y) m).run Try.prog w = stored Try.prog w a (.func f x y) m := fun a w f x y m => run_store Try.prog w a _ m rfl
  clear hl hg hlen
  go_enter Try.func90, Try.ntmps90
  go_wp2_with fail
  have hz : (((w.alloc (.cells #[.slice la ln lc] 23)).alloc (.cells #[.bool false, .bool false, .bool false, .bool false, .bool false, .bool false, .bool false, .bool false, .bool false, .bool false, .bool false, .bool false] 114)).alloc (.cells #[.func (.func 133) #[] #[.pointer (some ⟨w.heap.size + 1, 0, none⟩), .pointer (some ⟨w.heap.size, 0, none⟩), .pointer (some ⟨w.heap.size + 1 + 1, 0, none⟩)]] 115)).heap.size = w.heap.size + 3 := by simp
  have B0 : Hid (Below w.heap.size w (((w.alloc (.cells #[.slice la ln lc] 23)).alloc (.cells #[.bool false, .bool false, .bool false, .bool false, .bool false, .bool false, .bool false, .bool false, .bool false, .bool false, .bool false, .bool false] 114)).alloc (.cells #[.func (.func 133) #[] #[.pointer (some ⟨w.heap.size + 1, 0, none⟩), .pointer (some ⟨w.heap.size, 0, none⟩), .pointer (some ⟨w.heap.size + 1 + 1, 0, none⟩)]] 115))) := (((Below.refl _ _).alloc (Nat.le_refl _) _).alloc (by simp) _).alloc (by simp; omega) _
  have A0 : Hid (At (((w.alloc (.cells #[.slice la ln lc] 23)).alloc (.cells #[.bool false, .bool false, .bool false, .bool false, .bool false, .bool false, .bool false, .bool false, .bool false, .bool false, .bool false, .bool false] 114)).alloc (.cells #[.func (.func 133) #[] #[.pointer (some ⟨w.heap.size + 1, 0, none⟩), .pointer (some ⟨w.heap.size, 0, none⟩), .pointer (some ⟨w.heap.size + 1 + 1, 0, none⟩)]] 115)) (w.heap.size + 1) (fun _ => false)) := ⟨fun i hi => (by
    have hc : i = 0 ∨ i = 1 ∨ i = 2 ∨ i = 3 ∨ i = 4 ∨ i = 5 ∨ i = 6 ∨ i = 7 ∨ i = 8 ∨ i = 9 ∨ i = 10 ∨ i = 11 := by omega
    rcases hc with rfl | rfl | rfl | rfl | rfl | rfl | rfl | rfl | rfl | rfl | rfl | rfl <;> go_simp), fun i _ => (by go_simp)⟩
  have KL : Hid ((((w.alloc (.cells #[.slice la ln lc] 23)).alloc (.cells #[.bool false, .bool false, .bool false, .bool false, .bool false, .bool false, .bool false, .bool false, .bool false, .bool false, .bool false, .bool false] 114)).alloc (.cells #[.func (.func 133) #[] #[.pointer (some ⟨w.heap.size + 1, 0, none⟩), .pointer (some ⟨w.heap.size, 0, none⟩), .pointer (some ⟨w.heap.size + 1 + 1, 0, none⟩)]] 115)).cell? ⟨w.heap.size, 0, none⟩ = some (.slice la ln lc)) := by show _ = _; go_simp
  have KW : Hid ((((w.alloc (.cells #[.slice la ln lc] 23)).alloc (.cells #[.bool false, .bool false, .bool false, .bool false, .bool false, .bool false, .bool false, .bool false, .bool false, .bool false, .bool false, .bool false] 114)).alloc (.cells #[.func (.func 133) #[] #[.pointer (some ⟨w.heap.size + 1, 0, none⟩), .pointer (some ⟨w.heap.size, 0, none⟩), .pointer (some ⟨w.heap.size + 1 + 1, 0, none⟩)]] 115)).cell? ⟨w.heap.size + 1 + 1, 0, none⟩ = some (.func (.func 133) #[] #[.pointer (some ⟨w.heap.size + 1, 0, none⟩), .pointer (some ⟨w.heap.size, 0, none⟩), .pointer (some ⟨w.heap.size + 1 + 1, 0, none⟩)])) := by show _ = _; go_simp
  refine Calls.mono (walk_node w la ln lc rs (w.heap.size + 1) w.heap.size (w.heap.size + 1 + 1) HI.out HG.out (by omega) (by omega) (by omega) 13 (fun _ => false) x _ (by have := cnt_le (fun _ => false); omega) hx A0.out B0.out KL.out KW.out) ?_
  rintro e w1 ⟨R, rfl, hd, ha, ho⟩
  have D1 : Hid (Dfs (lplain rs) (fun _ => false) x R) := hd
  have A1 : Hid (At w1 (w.heap.size + 1) R) := ha
  have B1 : Hid (Below w.heap.size w w1) := below_touch B0.out ho (fun y hy => by cases hy; show w.heap.size ≤ w.heap.size + 1; omega) B0.out.size
  have Z1 : Hid (w.heap.size + 3 ≤ w1.heap.size) := by have := ho.size; rw [hz] at this; exact this
  have q1 : w1.cell? ⟨w.heap.size, 0, none⟩ = some (.slice la ln lc) := by rw [ho.cell (by rw [hz]; omega) (fun y hy => by cases hy; show w.heap.size ≠ w.heap.size + 1; omega)]; exact KL.out
  clear hd ha ho hz A0 KL KW B0 hst
  go_wp2_with fail
  refine (numbersBelow ln _ (by omega)).mono ?_
  rintro e w2 ⟨g, rfl, ho2, hb2⟩
  have R2 : Hid (IsRow .i64 w2 (some ⟨g, 0, none⟩) ln ln (numN ln)) := own_row ho2 (numN_wf ln (by omega))
  have B2 : Hid (Below w.heap.size w w2) := Frame.next B1.out hb2 B1.out.size
  have A2 : Hid (At w2 (w.heap.size + 1) R) := A1.out.below (by have := Z1.out; omega) hb2
  have Z2 : Hid (w.heap.size + 3 ≤ w2.heap.size) := Nat.le_trans Z1.out hb2.size
  clear ho2 hb2 q1 Z1 A1
  go_wp2_with fail
  refine (kept_int (some ⟨g, 0, none⟩) ln ln (numN ln) 134 #[.pointer (some ⟨w.heap.size + 1, 0, none⟩)] (fun z => R z.toNat) _ R2.out (by omega) HEN.out (fun z hz w3 hb3 => is_reached (w.heap.size + 1) R z w3 (A2.out.below (by have := Z2.out; omega) hb3) (mem_numN.1 hz).1 (by have := (mem_numN.1 hz).2; omega))).mono ?_
  rintro e w3 ⟨a', m, c', rfl, hm, ho3, hb3⟩
  have O3 : Hid (w3.ownsRow w.heap.size 3 1 (.slice a' m c') m (ints .i64 (reachN (lplain rs) (x : Int)))) := by
    have h := own_base ho3 B2.out.size
    rw [← HL.out, dfs_told HG.out D1.out] at h
    exact h
  have B3 : Hid (Below w.heap.size w w3) := Frame.next B2.out hb3 B2.out.size
  clear ho3 hb3
  go_wp2
  go_ret
  exact ⟨_, _, _, rfl, by omega, O3.out, B3.out⟩

set_option maxRecDepth 8000 in
set_option maxHeartbeats 1600000 in
theorem impl_ReachOf (v : Value) (xs : Ll) (k : Int) (w : World) (h : LIs w v xs) :
    Calls Try.prog 34 #[v, .int .i64 k] w fun e w' => ∃ u, e = .returned (.tuple #[u, .bool (nodeB xs k)]) ∧ IOwn w' w.heap.size w'.heap.size u (reachV xs k) ∧ Below w.heap.size w w' := by
  obtain ⟨a, n, c, rs, rfl, hr, rfl, ht⟩ := h
  have H : Hid (LIs w (.slice a n c) (lplain rs)) := ⟨a, n, c, rs, rfl, hr, rfl, ht⟩
  have HI : Hid (IsLs w a n c rs) := hr
  have hlen : (lplain rs).length = n := by simp [lplain, hr.len]
  have HN : Hid (nodeB (lplain rs) k = (goodG (lplain rs) && decide (0 ≤ k ∧ k < (n : Int)))) := by
    show _ = _
    unfold nodeB Val.inB
    rw [hlen]
    congr 1
    rw [decide_eq_decide]
    omega
  clear hr ht hlen
  rcases em_bool (goodG (lplain rs)) with hg | hg
  · have F : Hid (nodeB (lplain rs) k = false) := by show _ = _; rw [HN.out, hg]; rfl
    have HG : Hid (goodG (lplain rs) = false) := hg
    clear hg HN
    go_enter Try.func34, Try.ntmps34
    go_wp2_with fail
    refine (impl_GoodLinks _ _ _ H.out).mono ?_
    rintro e w1 ⟨rfl, hb1⟩
    have B1 : Hid (Below w.heap.size w w1) := hb1
    rw [HG.out]
    clear hb1
    go_wp2
    go_ret2
    refine ⟨_, by rw [F.out]; rfl, ?_, B1.out⟩
    unfold reachV
    rw [F.out]
    exact iOwn_nil _ _ _
  · have HG : Hid (goodG (lplain rs) = true) := hg
    have GP : Hid (GoodP (lplain rs)) := good_iff.1 hg
    have HL : Hid ((lplain rs).length = n) := by show _ = _; simp [lplain, HI.out.len]
    have F : Hid (nodeB (lplain rs) k = decide (0 ≤ k ∧ k < (n : Int))) := by show _ = _; rw [HN.out, hg, Bool.true_and]
    clear hg HN
    by_cases hk : 0 ≤ k ∧ k < (n : Int)
    · obtain ⟨x, rfl⟩ : ∃ x : Nat, k = (x : Int) := ⟨k.toNat, by omega⟩
      have F2 : Hid (nodeB (lplain rs) (x : Int) = true) := by show _ = _; rw [F.out]; exact decide_eq_true hk
      have D : Hid (decide (0 ≤ (x : Int) ∧ (x : Int) < (n : Int)) = true) := decide_eq_true hk
      have hx : x < n := by omega
      clear hk F
      go_enter Try.func34, Try.ntmps34
      go_wp2_with fail
      refine (impl_GoodLinks _ _ _ H.out).mono ?_
      rintro e w1 ⟨rfl, hb1⟩
      have B1 : Hid (Below w.heap.size w w1) := hb1
      rw [HG.out]
      clear hb1
      go_wp2_with fail
      refine (isNode a n c (x : Int) _).mono ?_
      rintro e w' ⟨rfl, hw'⟩; have hw'' := hw'.symm; clear hw'; subst hw''
      rw [D.out]
      go_wp2_with fail
      refine (reachedFrom a n c rs x _ (IsLs.below HI.out B1.out) GP.out hx).mono ?_
      rintro e w2 ⟨a', m, c', rfl, hm, ho, hb⟩
      have B2 : Hid (Below w.heap.size w w2) := Frame.next B1.out hb B1.out.size
      have O2 : Hid (IOwn w2 w.heap.size w2.heap.size (.slice a' m c') (reachV (lplain rs) (x : Int))) := by
        show IOwn _ _ _ _ _
        unfold reachV
        rw [F2.out]
        exact iOwn_of (own_base ho B1.out.size) (reach_wf (by have := GP.out.few; omega)) (by omega)
      clear ho hb
      go_wp2
      go_ret2
      exact ⟨_, by rw [F2.out]; rfl, O2.out, B2.out⟩
    · have F2 : Hid (nodeB (lplain rs) k = false) := by show _ = _; rw [F.out]; exact decide_eq_false hk
      have D : Hid (decide (0 ≤ k ∧ k < (n : Int)) = false) := decide_eq_false hk
      clear hk F
      go_enter Try.func34, Try.ntmps34
      go_wp2_with fail
      refine (impl_GoodLinks _ _ _ H.out).mono ?_
      rintro e w1 ⟨rfl, hb1⟩
      have B1 : Hid (Below w.heap.size w w1) := hb1
      rw [HG.out]
      clear hb1
      go_wp2_with fail
      refine (isNode a n c k _).mono ?_
      rintro e w' ⟨rfl, hw'⟩; have hw'' := hw'.symm; clear hw'; subst hw''
      rw [D.out]
      go_wp2
      go_ret2
      refine ⟨_, by rw [F2.out]; rfl, ?_, B1.out⟩
      unfold reachV
      rw [F2.out]
      exact iOwn_nil _ _ _


end Go.Proofs.Ytkondmnkmbdncaa.Glb
