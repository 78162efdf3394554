/-
  Keys, in the program: contract of KeysFor.
-/
import Derived.Test.YtekheacbmbbpmaaKpu
import Derived.Test.YtekheacbmbbpmaaJn
import Derived.Test.YtekheacbmbbpmaaSc
import Derived.Test.YtekheacbmbbpmaaBsr
namespace Go.Proofs.Ytekheacbmbbpmaa.Kfa
open Go.RowKit
open Go.Proofs.Ytekheacbmbbpmaa.Frame Go.Proofs.Ytekheacbmbbpmaa.Mem Go.Proofs.Ytekheacbmbbpmaa.Ints Go.Proofs.Ytekheacbmbbpmaa.Kep Go.Proofs.Ytekheacbmbbpmaa.Lls Go.Proofs.Ytekheacbmbbpmaa.Knl Go.Proofs.Ytekheacbmbbpmaa.Rpu Go.Proofs.Ytekheacbmbbpmaa.Mis Go.Proofs.Ytekheacbmbbpmaa.Sc Go.Proofs.Ytekheacbmbbpmaa.Dls Go.Proofs.Ytekheacbmbbpmaa.Dlk Go.Proofs.Ytekheacbmbbpmaa.Csa Go.Proofs.Ytekheacbmbbpmaa.Csb Go.Proofs.Ytekheacbmbbpmaa.Csc Go.Proofs.Ytekheacbmbbpmaa.Csd Go.Proofs.Ytekheacbmbbpmaa.Csf Go.Proofs.Ytekheacbmbbpmaa.Csg Go.Proofs.Ytekheacbmbbpmaa.Spx Go.Proofs.Ytekheacbmbbpmaa.Bpu Go.Proofs.Ytekheacbmbbpmaa.Kpu
open Go.Proofs.Ytekheacbmbbpmaa.Jn (Enters enters)
open Go.Proofs.Ytekheacbmbbpmaa.Rel hiding Ll
open Go.Proofs.Ytekheacbmbbpmaa.Cpu hiding Dp

set_option maxRecDepth 4000 in
set_option maxHeartbeats 3200000 in
theorem within_key (a : Option Addr) (n ca : Nat) (zs : List Int) (g : Nat) (f : Cs) (w : World) (h : IsRow .i64 w a n ca zs) (hz : InC zs) (hg : At6 w g f) :
    Calls Try.prog 20 #[.slice a n ca, .pointer (some ⟨g, 0, none⟩)] w fun e w' => e = .returned (.bool (withinB (inS zs) f)) ∧ Below w.heap.size w w' := by
  have HR : Hid (IsRow .i64 w a n ca zs) := h
  have HZ : Hid (InC zs) := hz
  obtain ⟨x0, x1, x2, x3, x4, x5⟩ := hg.cells
  clear h hz hg
  go_enter Try.func20, Try.ntmps20
  go_wp2_with fail
  go_region_held3 (fun w' => Below w.heap.size w w' ∧ w'.cell? ⟨g, 0, none⟩ = some (.bool (f 0)) ∧ w'.cell? ⟨g, 1, none⟩ = some (.bool (f 1)) ∧ w'.cell? ⟨g, 2, none⟩ = some (.bool (f 2)) ∧ w'.cell? ⟨g, 3, none⟩ = some (.bool (f 3)) ∧ w'.cell? ⟨g, 4, none⟩ = some (.bool (f 4)) ∧ w'.cell? ⟨g, 5, none⟩ = some (.bool (f 5)))
    (first | exact ⟨(Below.refl _ _).drew, x0, x1, x2, x3, x4, x5⟩ | with_reducible exact (fun kb => ⟨kb, Frame.held_cell kb x0, Frame.held_cell kb x1, Frame.held_cell kb x2, Frame.held_cell kb x3, Frame.held_cell kb x4, Frame.held_cell kb x5⟩) (Frame.held_next ‹Below w.heap.size w _ ∧ _› hb1) | with_reducible exact (fun kb => ⟨kb, Frame.held_cell kb x0, Frame.held_cell kb x1, Frame.held_cell kb x2, Frame.held_cell kb x3, Frame.held_cell kb x4, Frame.held_cell kb x5⟩) (Frame.held_next ‹Below w.heap.size w _ ∧ _› hb2))
    (first | (go_at_call 22; refine (setOf a n ca zs _ (IsRow.below HR.out (And.left ‹Below w.heap.size w _ ∧ _›)) HZ.out).mono ?_; rintro e w1 ⟨rfl, hb1⟩; unfold csv) | (go_at_call 21; refine (isWithin (inS zs) f _).mono ?_; rintro e w2 ⟨rfl, hb2⟩))
  all_goals
    have B2 : Hid (Below w.heap.size w w2) := And.left ‹Below w.heap.size w w2 ∧ _›
    go_wp2
    go_ret
    exact ⟨rfl, B2.out⟩

set_option maxRecDepth 4000 in
set_option maxHeartbeats 1600000 in
theorem index_func (a : Option Addr) (n ca : Nat) (rs : List LV) (f : FuncId) (bs : Array Value) (p : List Int → Bool) (w : World) (h : IsLs w a n ca rs) (hn : n ≤ 100000) (hen : Enters Try.prog f) (hcl : ∀ r ∈ rs, ∀ w1, Below w.heap.size w w1 → Calls Try.prog f (#[.slice r.a r.n r.c] ++ bs) w1 fun e w2 => e = .returned (.bool (p r.zs)) ∧ Below w1.heap.size w1 w2) :
    Calls Try.prog 45 #[.slice a n ca, .func (.func f) #[] bs] w fun e w' => (∃ i : Int, e = .returned (.int .i64 i) ∧ decide (0 ≤ i) = rs.any (fun r => p r.zs)) ∧ Below w.heap.size w w' := by
  have HI : Hid (IsLs w a n ca rs) := h
  have HL : Hid (rs.length = n) := h.len
  have HCL : Hid (∀ r ∈ rs, ∀ w1, Below w.heap.size w w1 → Calls Try.prog f (#[.slice r.a r.n r.c] ++ bs) w1 fun e w2 => e = .returned (.bool (p r.zs)) ∧ Below w1.heap.size w1 w2) := hcl
  have HEN : Hid (Enters Try.prog f) := hen
  clear h hcl hen
  go_enter Try.func45, Try.ntmps45
  go_wp2_with fail
  go_loopw [8] (fun i wr => ∃ k : Nat, k ≤ n ∧ i = .int .i64 k ∧ (∀ r ∈ rs.take k, p r.zs = false) ∧ Below w.heap.size w wr) (fun i _ => n - (intOf i).toNat)
  case atStart => exact ⟨0, Nat.zero_le _, rfl, fun r hr => (by simp at hr), Below.refl _ _⟩
  case round =>
    obtain ⟨k, hk, rfl, hall, hnx⟩ := hrel
    have HA : Hid (∀ r ∈ rs.take k, p r.zs = false) := hall
    have HN : Hid (Below w.heap.size w wr) := hnx
    clear hall
    by_cases hlt : k < n
    · obtain ⟨b, off, rfl, hbl, hc⟩ := HI.out.cells (by omega)
      have hkl : k < rs.length := by rw [HL.out]; exact hlt
      have hck : wr.cell? ⟨b, off + k, none⟩ = some (.slice (rs.getD k ld).a (rs.getD k ld).n (rs.getD k ld).c) := by rw [hnx.cell (p := ⟨b, off + k, none⟩) hbl]; exact hc k hlt
      have CA := HCL.out _ (getD_mem_ld hkl) wr hnx
      have HM : Hid (rs.getD k ld ∈ rs) := getD_mem_ld hkl
      have HT : Hid (rs.take (k + 1) = rs.take k ++ [rs.getD k ld]) := by show _ = _; rw [List.take_succ_eq_append_getElem hkl]; simp [List.getD, hkl]
      generalize rs.getD k ld = x at hck CA HM HT
      have CALL : Hid (Calls Try.prog f (#[.slice x.a x.n x.c] ++ bs) wr fun e w2 => e = .returned (.bool (p x.zs)) ∧ Below wr.heap.size wr w2) := CA
      clear hc hnx hkl CA
      go_wp2_with fail
      rw [HEN.out]
      refine Calls.mono CALL.out ?_
      rintro e w2 ⟨rfl, hb2⟩
      have HN1 : Hid (Below w.heap.size w w2) := Frame.next HN.out hb2 HN.out.size
      clear hb2 CALL hck
      cases hv : p x.zs
      · have F : Hid (∀ r ∈ rs.take (k + 1), p r.zs = false) := fun r hr => by
          rw [HT.out] at hr
          rcases List.mem_append.1 hr with hr | hr
          · exact HA.out r hr
          · rw [List.mem_singleton.1 hr]; exact hv
        clear hv
        go_wp2_with fail
        go_roundw
        case rel => exact ⟨k + 1, by omega, by go_num, F.out, HN1.out⟩
        case measure => simp [intOf]; omega
      · have F : Hid (rs.any (fun r => p r.zs) = true) := List.any_eq_true.2 ⟨x, HM.out, hv⟩
        clear hv
        go_wp2
        go_ret
        exact ⟨⟨(k : Int), rfl, by rw [F.out]; exact decide_eq_true (by omega)⟩, HN1.out⟩
    · have F : Hid (rs.any (fun r => p r.zs) = false) := by
        have h := HA.out
        rw [List.take_of_length_le (by rw [HL.out]; omega)] at h
        show _ = _
        rw [List.any_eq_false]
        exact fun r hr => by rw [h r hr]; decide
      clear hnx
      go_wp2
      go_ret
      exact ⟨⟨-1, rfl, by rw [F.out]; rfl⟩, HN.out⟩

theorem contains_func (a : Option Addr) (n ca : Nat) (rs : List LV) (f : FuncId) (bs : Array Value) (p : List Int → Bool) (w : World) (h : IsLs w a n ca rs) (hn : n ≤ 100000) (hen : Enters Try.prog f) (hcl : ∀ r ∈ rs, ∀ w1, Below w.heap.size w w1 → Calls Try.prog f (#[.slice r.a r.n r.c] ++ bs) w1 fun e w2 => e = .returned (.bool (p r.zs)) ∧ Below w1.heap.size w1 w2) :
    Calls Try.prog 19 #[.slice a n ca, .func (.func f) #[] bs] w fun e w' => e = .returned (.bool (rs.any (fun r => p r.zs))) ∧ Below w.heap.size w w' := by
  have HC := index_func a n ca rs f bs p w h hn hen hcl
  have C : Hid _ := HC
  clear h hen hcl HC
  go_enter Try.func19, Try.ntmps19
  go_wp2_with fail
  refine Calls.mono C.out ?_
  rintro e w1 ⟨⟨i, rfl, hi⟩, hb1⟩
  have B1 : Hid (Below w.heap.size w w1) := hb1
  have HI : Hid (decide (0 ≤ i) = rs.any (fun r => p r.zs)) := hi
  clear hb1 hi
  go_wp2
  go_ret
  refine ⟨?_, B1.out⟩
  rw [← HI.out]
  first | rfl | simp

/-- A row of one's own behind the others. -/
theorem ls_push {W W' : World} {base m c c' : Nat} {a a' : Option Addr} {rs : List LV} {r : LV} (h : OwnLs W base a m c rs) (hr : W.ownsRow base 3 1 (.slice r.a r.n r.c) r.n (ints .i64 r.zs)) (hw : ∀ z ∈ r.zs, (Lit.int .i64 z).wf = true) (hf : ∀ s ∈ rs, Far s.a r.a)
    (hg : W.grownBy W' (Value.slice a m c).ownBlock) (ho : W'.ownsRow base 34 1 (.slice a' (m + 1) c') (m + 1) (lcells (rs ++ [r]))) : OwnLs W' base a' (m + 1) c' (rs ++ [r]) := by
  have kept : ∀ s ∈ rs ++ [r], W'.ownsRow base 3 1 (.slice s.a s.n s.c) s.n (ints .i64 s.zs) := fun s hs => by
    rcases List.mem_append.1 hs with hs | hs
    · exact own_kept (h.inner s hs) h.outer intNe hg
    · rw [List.mem_singleton.1 hs]; exact own_kept hr h.outer intNe hg
  refine ⟨ho, kept, fun s hs => ?_, ?_, fun s hs => Far.symm (own_far (kept s hs) ho intNe)⟩
  · rcases List.mem_append.1 hs with hs | hs
    · exact h.wf s hs
    · rw [List.mem_singleton.1 hs]; exact hw
  · rw [List.pairwise_append]
    refine ⟨h.apart, List.pairwise_singleton _ _, fun s hs t ht => ?_⟩
    rw [List.mem_singleton.1 ht]
    exact hf s hs


theorem em_bool (b : Bool) : b = false ∨ b = true := by cases b <;> simp
theorem keys_ret {w wr : World} {a : Option Addr} {m c' : Nat} {rs : List LV} {ds : List Dp} {c N : Nat} (h : OwnLs wr w.heap.size a m c' rs) (hp : lplain rs = keysTo ds c N) (hN : N ≤ 64) (h6 : ∀ r ∈ rs, r.n ≤ 6) : LOwn wr w.heap.size wr.heap.size (.slice a m c') (keysTo ds c N) := by
  refine ⟨a, m, c', rs, rfl, h, hp, ?_, own_block h.outer, fun r hr x hx => own_block (h.inner r hr) x hx⟩
  have hm : rs.length ≤ 64 := by have := keys_length ds c N; rw [← hp] at this; simp [lplain] at this; omega
  unfold totalL
  have : sumL rs ≤ 6 * (rs.length : Int) := by
    clear hp h hm
    induction rs with
    | nil => simp [sumL]
    | cons r rs ih =>
      have h1 := h6 r (by simp)
      have h2 := ih (fun s hs => h6 s (by simp [hs]))
      simp only [sumL, List.map_cons, List.sum_cons, List.length_cons] at *
      omega
  omega

set_option maxRecDepth 8000 in
set_option maxHeartbeats 6400000 in
theorem impl_KeysFor (cols : Int) (v : Value) (ds : List Dp) (w : World) (h : DIs w v ds) :
    Calls Try.prog 5 #[.int .i64 cols, v] w fun e w' => ∃ u, e = .returned (.tuple #[u, .bool (goodD cols ds)]) ∧ LOwn w' w.heap.size w'.heap.size u (keysV cols ds) ∧ Below w.heap.size w w' := by
  obtain ⟨i0, hi, hz0, hz1, hz2⟩ := info_parts infoL
  have HD : Hid (DIs w v ds) := h
  clear h
  go_enter Try.func5, Try.ntmps5
  go_wp2_with fail
  refine (Dga.impl_GoodDeps cols v ds _ HD.out).mono ?_
  rintro e w1 ⟨rfl, hb1⟩
  have B1 : Hid (Below w.heap.size w w1) := hb1
  clear hb1
  cases hG : goodD cols ds
  · have EV : Hid (keysV cols ds = []) := by show _ = _; unfold keysV; rw [hG]; rfl
    have GF : Hid (goodD cols ds = false) := hG
    clear hG
    go_wp2
    go_ret2
    refine ⟨.slice none 0 0, by rw [GF.out]; rfl, ?_, B1.out⟩
    rw [EV.out]
    exact ⟨none, 0, 0, [], rfl, ⟨World.ownsRow_nil _ _ _ _, by simp, by simp, by simp, by simp⟩, rfl, by simp [totalL, sumL], (fun x hx => by cases hx), by simp⟩
  · have hc := cols_of hG
    obtain ⟨c, hcc⟩ : ∃ c : Nat, cols = (c : Int) := ⟨cols.toNat, by omega⟩
    have hc6 : c ≤ 6 := by have := hc.2.2.1; omega
    have hc1 : 1 ≤ c := by have := hc.2.1; omega
    have HC : Hid (Cols ds) := hc.1
    subst hcc
    have EV : Hid (keysV (c : Int) ds = keysTo ds c (2 ^ c)) := by show _ = _; unfold keysV; rw [hG, Int.toNat_natCast]; rfl
    have HIN : Hid (InD c ds) := inD_of hG
    have hsh : wrap64 ((2 : Int) ^ c) = ((2 ^ c : Nat) : Int) := Bsr.shl_one hc6
    have hN64 : 2 ^ c ≤ 64 := Bsr.pow_six hc6
    have HST : Hid (∀ n, n < 2 ^ c → keyB ds c n = (whB ds c n && !(keysTo ds c n).any fun zs => withinB (inS zs) (bitS (n : Int)))) := fun n hn => key_step HIN.out hc6 hn
    obtain ⟨N, hNe⟩ : ∃ N : Nat, 2 ^ c = N := ⟨_, rfl⟩
    have EV2 : Hid (keysV (c : Int) ds = keysTo ds c N) := by rw [← hNe]; exact EV.out
    have HS : Hid (∀ n, n < N → keyB ds c n = (whB ds c n && !(keysTo ds c n).any fun zs => withinB (inS zs) (bitS (n : Int)))) := by rw [← hNe]; exact HST.out
    rw [hNe] at hN64 hsh
    have O1 : Hid (OwnLs (w1.alloc (.cells #[] 34)) w.heap.size (some ⟨w1.heap.size, 0, none⟩) 0 0 []) := ⟨own_zero w1 _ _ _ _ rfl B1.out.size, by simp, by simp, by simp, by simp⟩
    have B2 : Hid (Below w.heap.size w (w1.alloc (.cells #[] 34))) := B1.out.alloc B1.out.size _
    have GT : Hid (goodD (c : Int) ds = true) := hG
    clear hG hc HST hNe EV HIN
    go_wp2_with fail
    rw [hsh]
    clear hsh
    go_loopw [6, 17] (fun s i wr => ∃ (k m : Nat) (a' : Option Addr) (c' : Nat) (rs : List LV), k ≤ N ∧ m ≤ k ∧ i = .int .i64 k ∧ s = .slice a' m c' ∧ OwnLs wr w.heap.size a' m c' rs ∧ lplain rs = keysTo ds c k ∧ (∀ r ∈ rs, r.n ≤ 6) ∧ Below w.heap.size w wr) (fun _ i _ => N - (intOf i).toNat)
    case atStart => exact ⟨0, 0, _, _, [], Nat.zero_le _, Nat.le_refl _, rfl, rfl, O1.out, rfl, (fun r hr => by cases hr), B2.out⟩
    case round =>
      obtain ⟨k, m, a', c', rs, hk, hmk, rfl, rfl, ho, hpl, hr6, hnx⟩ := hrel
      have HO : Hid (OwnLs wr w.heap.size a' m c' rs) := ho
      have HP : Hid (lplain rs = keysTo ds c k) := hpl
      have H6 : Hid (∀ r ∈ rs, r.n ≤ 6) := hr6
      have HX : Hid (Below w.heap.size w wr) := hnx
      clear ho hpl hr6 hnx O1 B2
      by_cases hlt : k < N
      · have hltI : (k : Int) < (N : Int) := by omega
        have KS : Hid (keyB ds c k = (whB ds c k && !(keysTo ds c k).any fun zs => withinB (inS zs) (bitS (k : Int)))) := HS.out k hlt
        have HANY : Hid (rs.any (fun r => withinB (inS r.zs) (bitS (k : Int))) = (keysTo ds c k).any fun zs => withinB (inS zs) (bitS (k : Int))) := by
          show _ = _
          rw [← HP.out]
          unfold lplain
          rw [List.any_map]
          rfl
        have HCO : Hid (∀ r ∈ rs, InC r.zs) := fun r hr => keys_col (ds := ds) (c := c) (n := k) r.zs (by rw [← HP.out]; exact List.mem_map_of_mem hr)
        go_wp2_with fail
        refine (setByNumber (k : Int) _ (by omega) (by omega)).mono ?_
        rintro e w4 ⟨rfl, hb4⟩
        unfold csv
        have x4 : Below wr.heap.size wr (w4.alloc (.cells #[.bool ((bitS (k : Int)) 0), .bool ((bitS (k : Int)) 1), .bool ((bitS (k : Int)) 2), .bool ((bitS (k : Int)) 3), .bool ((bitS (k : Int)) 4), .bool ((bitS (k : Int)) 5)] 48)) := Ivb.bw_made _ hb4
        have hA8 : At6 (w4.alloc (.cells #[.bool ((bitS (k : Int)) 0), .bool ((bitS (k : Int)) 1), .bool ((bitS (k : Int)) 2), .bool ((bitS (k : Int)) 3), .bool ((bitS (k : Int)) 4), .bool ((bitS (k : Int)) 5)] 48)) w4.heap.size (bitS (k : Int)) := At6.made w4 (bitS (k : Int)) _
        clear hb4
        go_upto_region 8 with fail
        generalize (w4.alloc (.cells #[.bool ((bitS (k : Int)) 0), .bool ((bitS (k : Int)) 1), .bool ((bitS (k : Int)) 2), .bool ((bitS (k : Int)) 3), .bool ((bitS (k : Int)) 4), .bool ((bitS (k : Int)) 5)] 48)) = U at x4 hA8 ⊢
        have XU : Hid (Below wr.heap.size wr U) := x4
        have A8 : Hid (At6 U w4.heap.size (bitS (k : Int))) := hA8
        have IU : Hid (IsLs U a' m c' rs) := HO.out.isLs.below x4
        clear x4 hA8
        go_wp2_with fail
        refine (contains_func a' m c' rs 20 #[.pointer (some ⟨w4.heap.size, 0, none⟩)] (fun zs => withinB (inS zs) (bitS (k : Int))) _ IU.out (by omega) (enters Try.func20 (by kernel_rfl) rfl) (fun r hr W1 hW1 => within_key r.a r.n r.c r.zs w4.heap.size (bitS (k : Int)) W1 (IsRow.below (IU.out.rows r hr) hW1) (HCO.out r hr) (A8.out.below hW1))).mono ?_
        rintro e w5 ⟨rfl, hb5⟩
        rw [HANY.out]
        have X5 : Hid (Below wr.heap.size wr w5) := Ivb.bw_call XU.out hb5
        have A5 : Hid (At6 w5 w4.heap.size (bitS (k : Int))) := A8.out.below hb5
        obtain ⟨x0, x1, x2, x3, x4, x5⟩ := (A8.out.below hb5).cells
        clear hb5
        go_wp2_with fail
        refine (toldBy v ds (bitS (k : Int)) _ (dIs_below HD.out (Ivb.bw_call HX.out X5.out)) HC.out).mono ?_
        rintro e w6 ⟨rfl, hb6⟩
        unfold csv
        have X6 : Hid (Below wr.heap.size wr w6) := Ivb.bw_call X5.out hb6
        have A6 : Hid (At6 w6 w4.heap.size (bitS (k : Int))) := A5.out.below hb6
        clear hb6 x0 x1 x2 x3 x4 x5
        go_wp2_with fail
        refine (firstColumns c _ hc1 hc6).mono ?_
        rintro e w7 ⟨rfl, hb7⟩
        unfold csv
        have X7 : Hid (Below wr.heap.size wr w7) := Ivb.bw_call X6.out hb7
        have A7 : Hid (At6 w7 w4.heap.size (bitS (k : Int))) := A6.out.below hb7
        have EQ : ∀ w, (binOp .eql 48 (.agg #[.bool ((clS ds (bitS (k : Int))) 0), .bool ((clS ds (bitS (k : Int))) 1), .bool ((clS ds (bitS (k : Int))) 2), .bool ((clS ds (bitS (k : Int))) 3), .bool ((clS ds (bitS (k : Int))) 4), .bool ((clS ds (bitS (k : Int))) 5)]) (.agg #[.bool ((firstS c) 0), .bool ((firstS c) 1), .bool ((firstS c) 2), .bool ((firstS c) 3), .bool ((firstS c) 4), .bool ((firstS c) 5)])).run Try.prog w = .ok (.bool (sameS (clS ds (bitS (k : Int))) (firstS c))) w := eql_cs (clS ds (bitS (k : Int))) (firstS c)
        have hgd : Try.prog.eqGuardType Try.prog.depth 48 = false := by kernel_rfl
        have WE : Hid (sameS (clS ds (bitS (k : Int))) (firstS c) = whB ds c k) := rfl
        rw [WE.out] at EQ
        clear hb7
        rcases em_bool (whB ds c k) with hw | hw
        · have KN : Hid (keysTo ds c (k + 1) = keysTo ds c k) := keys_no (by rw [KS.out, hw]; rfl)
          rw [hw] at EQ
          clear hw
          go_wp2_with fail
          go_roundw
          case rel => exact ⟨k + 1, m, a', c', rs, by omega, by omega, by go_num, rfl, HO.out.below X7.out, by rw [KN.out]; exact HP.out, H6.out, Ivb.bw_call HX.out X7.out⟩
          case measure => simp [intOf]; omega
        · rw [hw] at EQ
          rcases em_bool ((keysTo ds c k).any fun zs => withinB (inS zs) (bitS (k : Int))) with ha | ha
          · rw [ha]
            have KY : Hid (keysTo ds c (k + 1) = keysTo ds c k ++ [listI (bitS (k : Int))]) := keys_yes (by rw [KS.out, hw, ha]; rfl)
            obtain ⟨x0, x1, x2, x3, x4, x5⟩ := A7.out.cells
            clear hw ha
            go_wp2_with fail
            refine (listOf (bitS (k : Int)) _).mono ?_
            rintro e w8 ⟨u8, rfl, ho8, hb8⟩
            obtain ⟨a8, n8, c8, rfl, hown8, hwf8, hn8, hbl8⟩ := ho8
            have hlen8 : (listI (bitS (k : Int))).length = n8 := by have := hown8.1; rw [ints_length] at this; omega
            have hn86 : n8 ≤ 6 := by rw [← hlen8]; exact listI_length _
            have X8 : Hid (Below wr.heap.size wr w8) := Ivb.bw_call X7.out hb8
            have R8 : Hid (w8.ownsRow w.heap.size 3 1 (.slice a8 n8 c8) n8 (ints .i64 (listI (bitS (k : Int))))) := own_base hown8 (Ivb.bw_call HX.out X7.out).size
            have F8 : Hid (∀ s ∈ rs, Far s.a a8) := fun s hs x y hx hy => by
              have h1 := (HO.out.lt s hs x hx).2
              have h2 := (hbl8 y hy).1
              have h3 := X7.out.size
              omega
            have W8 : Hid (∀ z ∈ listI (bitS (k : Int)), (Lit.int .i64 z).wf = true) := hwf8
            clear hown8 hwf8 hbl8 hlen8 x0 x1 x2 x3 x4 x5 hb8
            have ab : Below w8.heap.size w8 (w8.alloc (.cells #[.slice a8 n8 c8] 34)) := (Below.refl _ _).alloc (Nat.le_refl _) _
            have O9 : Hid (OwnLs (w8.alloc (.cells #[.slice a8 n8 c8] 34)) w.heap.size a' m c' rs) := (HO.out.below X8.out).below ab
            have R9 : Hid ((w8.alloc (.cells #[.slice a8 n8 c8] 34)).ownsRow w.heap.size 3 1 (.slice a8 n8 c8) n8 (ints .i64 (listI (bitS (k : Int))))) := own_below R8.out ab
            have X9 : Hid (Below w.heap.size w (w8.alloc (.cells #[.slice a8 n8 c8] 34))) := Ivb.bw_made _ (Ivb.bw_call HX.out X8.out)
            have S9 : Hid (0 < 1 → ∃ ad, (some ⟨w8.heap.size, 0, none⟩ : Option Addr) = some ad ∧ ∀ j u, ([.slice a8 n8 c8] : List Value)[j]? = some u → (w8.alloc (.cells #[.slice a8 n8 c8] 34)).cell? (ad.add j) = some u) := news_one w8 _ _
            have OUT9 : Hid ((w8.alloc (.cells #[.slice a8 n8 c8] 34)).ownsRow w.heap.size 34 1 (.slice a' m c') m (lcells rs)) := O9.out.outer
            clear ab
            go_wp2_with (at_builtin; refine App.wpList_append_all _ rfl _ _ 26 rfl w.heap.size 34 i0 (.slice none 0 0) 1 24 Try.underlying26 hi hz0 hz1 hz2 rfl (by decide) _ _ _ rfl OUT9.out _ 1 _ [.slice a8 n8 c8] rfl rfl S9.out (by simp [Value.oneCell']) (by unfold maxLen; omega) (by omega) X9.out.size ?_)
            intro a10 c10 w10 hown10 hgrow10
            have LC : Hid (lcells (rs ++ [⟨a8, n8, c8, listI (bitS (k : Int))⟩]) = lcells rs ++ [.slice a8 n8 c8]) := by show _ = _; unfold lcells; rw [List.map_append]; rfl
            have O10 : Hid (OwnLs w10 w.heap.size a10 (m + 1) c10 (rs ++ [⟨a8, n8, c8, listI (bitS (k : Int))⟩])) := ls_push O9.out R9.out W8.out F8.out hgrow10 (by rw [LC.out]; exact hown10)
            have X10 : Hid (Below w.heap.size w w10) := below_app X9.out OUT9.out hgrow10 X9.out.size (Nat.le_refl _)
            have P10 : Hid (lplain (rs ++ [⟨a8, n8, c8, listI (bitS (k : Int))⟩]) = keysTo ds c (k + 1)) := by show _ = _; unfold lplain; rw [List.map_append, KY.out, ← HP.out]; rfl
            have H10 : Hid (∀ r ∈ rs ++ [(⟨a8, n8, c8, listI (bitS (k : Int))⟩ : LV)], r.n ≤ 6) := fun r hr => by
              rcases List.mem_append.1 hr with hr | hr
              · exact H6.out r hr
              · rw [List.mem_singleton.1 hr]; exact hn86
            clear hown10 hgrow10
            go_wp2
            go_roundw
            case rel => exact ⟨k + 1, m + 1, a10, c10, _, by omega, by omega, by go_num, rfl, O10.out, P10.out, H10.out, X10.out⟩
            case measure => simp [intOf]; omega
          · rw [ha]
            have KN : Hid (keysTo ds c (k + 1) = keysTo ds c k) := keys_no (by rw [KS.out, hw, ha]; rfl)
            clear hw ha
            go_wp2_with fail
            go_roundw
            case rel => exact ⟨k + 1, m, a', c', rs, by omega, by omega, by go_num, rfl, HO.out.below X7.out, by rw [KN.out]; exact HP.out, H6.out, Ivb.bw_call HX.out X7.out⟩
            case measure => simp [intOf]; omega
      · obtain rfl : k = N := by omega
        have F : Hid (LOwn wr w.heap.size wr.heap.size (.slice a' m c') (keysTo ds c k)) := keys_ret HO.out HP.out hN64 H6.out
        have hltI : ¬ (k : Int) < (k : Int) := by omega
        go_wp2
        go_ret2
        exact ⟨_, by rw [GT.out]; rfl, by rw [EV2.out]; exact F.out, HX.out⟩


end Go.Proofs.Ytekheacbmbbpmaa.Kfa
