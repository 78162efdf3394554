/-
  Contract of the model's l3Tell.
-/
import Derived.Test.YtekheacbmbbpmaaSc
import Derived.Test.YtekheacbmbbpmaaSb
namespace Go.Proofs.Ytekheacbmbbpmaa.Sd
open Go.RowKit
open Go.Proofs.Ytekheacbmbbpmaa.Frame Go.Proofs.Ytekheacbmbbpmaa.Mem Go.Proofs.Ytekheacbmbbpmaa.Ints Go.Proofs.Ytekheacbmbbpmaa.Kep Go.Proofs.Ytekheacbmbbpmaa.Lls Go.Proofs.Ytekheacbmbbpmaa.Rpu Go.Proofs.Ytekheacbmbbpmaa.Krl Go.Proofs.Ytekheacbmbbpmaa.Sa Go.Proofs.Ytekheacbmbbpmaa.Sb Go.Proofs.Ytekheacbmbbpmaa.Sc Go.Proofs.Ytekheacbmbbpmaa.Mis Go.Proofs.Ytekheacbmbbpmaa.Told Go.Proofs.Ytekheacbmbbpmaa.Rel

def foldI (l : Rel.Ll) : Rel.Ll := l.foldl (fun acc t => insL t acc) []
theorem foldI_step {l : Rel.Ll} {k : Nat} (h : k < l.length) : foldI (l.take (k + 1)) = insL (l.getD k []) (foldI (l.take k)) := by
  unfold foldI
  rw [List.take_succ_eq_append_getElem h, List.foldl_append]
  simp [List.getD, h]
theorem ownLs_set {w : World} {base : Nat} {a : Option Addr} {n cap : Nat} {rs : List LV} (h : OwnLs w base a n cap rs) {b : Nat} (o : Nat) (v : Value) (hb : b < base) : OwnLs (w.setCell ⟨b, o, none⟩ v) base a n cap rs :=
  Knl.ownLs_keeps (hi := w.heap.size) h (own_block h.outer) (fun r hr x hx => own_block (h.inner r hr) x hx) (keeps_set (lo := b) (hi := b + 1) w o v (by omega)) (Or.inr (by omega))

theorem q_tell {w' : World} {L B hi : Nat} {a1 a' : Option Addr} {nn c1 n' c' : Nat} {ns : List Int} {rs' : List LV} (hn : w'.ownsRow L 3 1 (.slice a1 nn c1) nn (ints .i64 ns)) (hw : ∀ z ∈ ns, (Lit.int .i64 z).wf = true) (hnn : nn ≤ 1048576) (hlt : ∀ x, a1 = some x → x.block < B) (ht : OwnLs w' B a' n' c' rs') (hLB : L ≤ B) (hhi : w'.heap.size ≤ hi) (htot : totalL rs' ≤ 1048576) :
    QOwn w' L hi (.slice a1 nn c1) (.slice a' n' c') (ns, lplain rs') := by
  refine ⟨rs', ⟨_, _, _, rfl, hn, hw, hnn, fun x hx => ?_⟩, ⟨_, _, _, rfl, ownLs_base ht hLB, htot, fun x hx => ?_, fun r hr x hx => ?_⟩, rfl, own_far hn ht.outer intNe, fun r hr x y hx hy => ?_⟩
  · have := own_block hn x hx; omega
  · have := own_block ht.outer x hx; omega
  · have := own_block (ht.inner r hr) x hx; omega
  · have := own_block (ht.inner r hr) y hy
    have := hlt x hx
    omega

set_option maxRecDepth 4000 in
set_option maxHeartbeats 3200000 in
theorem spec_l3Tell (a t : Option Addr) (nn nc n tc m : Nat) (ns : List Int) (rs : List LV) (w : World) (hN : IsRow .i64 w a nn nc ns) (hT : IsLs w t n tc rs) (hnn : nn ≤ 100000) (hn : n ≤ 10000) (hm : m ≤ 100000) (hl : ∀ r ∈ rs, r.zs.length = m) (hsz : n * (m + 1) ≤ 1048576) :
    Calls Try.prog 55 #[.slice a nn nc, .slice t n tc] w (RTold (tellV ns (lplain rs)) (tellG ns (lplain rs)) w) := by
  obtain ⟨i0, hi, hz0, hz1, hz2⟩ := info_parts Ints.info
  have HNL : Hid (ns.length = nn) := hN.len
  have HTL : Hid (rs.length = n) := hT.len
  have HN : Hid (IsRow .i64 w a nn nc ns) := hN
  have HNW : Hid (∀ z ∈ ns, (Lit.int .i64 z).wf = true) := hN.wf
  have HT : Hid (IsLs w t n tc rs) := hT
  have HLN : Hid (∀ r ∈ rs, r.zs.length = m) := hl
  have HSZ : Hid (n * (m + 1) ≤ 1048576) := hsz
  have B0 : Hid (Below w.heap.size w ((w.alloc (.cells #[.slice none 0 0, .slice none 0 0] 42)).alloc (.cells #[] 3))) := ((Below.refl _ _).alloc (Nat.le_refl _) _).alloc (by simp) _
  have hs0 : ((w.alloc (.cells #[.slice none 0 0, .slice none 0 0] 42)).alloc (.cells #[] 3)).heap.size = w.heap.size + 2 := by simp
  have O0 : Hid (((w.alloc (.cells #[.slice none 0 0, .slice none 0 0] 42)).alloc (.cells #[] 3)).ownsRow (w.heap.size + 1) 3 1 (.slice (some ⟨w.heap.size + 1, 0, none⟩) 0 0) 0 []) := own_zero _ _ _ _ _ (by simp) (by simp)
  have S0 : Hid (0 < nn → ∃ ad, a = some ad ∧ ∀ j u, (ints .i64 ns)[j]? = some u → ((w.alloc (.cells #[.slice none 0 0, .slice none 0 0] 42)).alloc (.cells #[] 3)).cell? (ad.add j) = some u) := news_row (IsRow.below HN.out B0.out)
  have L0 : Hid ((ints .i64 ns).length = nn * 1) := by show _ = _; rw [ints_length, HNL.out, Nat.mul_one]
  clear hN hT hl hsz
  go_enter Try.func55, Try.ntmps55
  go_wp2_with (at_builtin; refine App.wpList_append_all _ rfl _ _ 34 rfl (w.heap.size + 1) 3 i0 (.int .i64 0) 1 8 Try.underlying34 hi hz0 hz1 hz2 rfl (by decide) _ _ _ rfl O0.out _ nn _ (ints .i64 ns) rfl L0.out S0.out (one_int ns) (by unfold maxLen; omega) (by omega) (by rw [hs0]; omega) ?_)
  intro a1 c1 w1 hown1 hgrow1
  have O1 : Hid (w1.ownsRow (w.heap.size + 1) 3 1 (.slice a1 nn c1) nn (ints .i64 ns)) := by show World.ownsRow _ _ _ _ _ _ _; simpa using hown1
  have B1 : Hid (Below w.heap.size w w1) := below_app B0.out O0.out hgrow1 B0.out.size (by omega)
  have hs1 : w.heap.size + 2 ≤ w1.heap.size := by have := hgrow1.size; rw [hs0] at this; exact this
  have C1 : Hid (w1.cell? ⟨w.heap.size, 0, none⟩ = some (.slice none 0 0) ∧ w1.cell? ⟨w.heap.size, 1, none⟩ = some (.slice none 0 0) ∧ w1.frozen? ⟨w.heap.size, 0, none⟩ = false ∧ w1.frozen? ⟨w.heap.size, 1, none⟩ = false) := by
    have hblk := hgrow1.block w.heap.size (by rw [hs0]; omega) (by simp [Value.ownBlock])
    refine ⟨?_, ?_, ?_, ?_⟩
    · rw [World.cell?_of_block (w := (w.alloc (.cells #[.slice none 0 0, .slice none 0 0] 42)).alloc (.cells #[] 3)) hblk]; go_simp
    · rw [World.cell?_of_block (w := (w.alloc (.cells #[.slice none 0 0, .slice none 0 0] 42)).alloc (.cells #[] 3)) hblk]; go_simp
    · have : ((w.alloc (.cells #[.slice none 0 0, .slice none 0 0] 42)).alloc (.cells #[] 3)).frozen? ⟨w.heap.size, 0, none⟩ = false := by go_simp
      rw [← this]; simp only [World.frozen?, hblk]
    · have : ((w.alloc (.cells #[.slice none 0 0, .slice none 0 0] 42)).alloc (.cells #[] 3)).frozen? ⟨w.heap.size, 1, none⟩ = false := by go_simp
      rw [← this]; simp only [World.frozen?, hblk]
  clear hown1 hgrow1
  have A1 : Hid (∀ x, a1 = some x → w.heap.size + 1 ≤ x.block ∧ x.block < w1.heap.size) := own_block O1.out
  have B2 : Hid (Below w1.heap.size w1 (w1.alloc (.cells #[.slice a1 nn c1, .slice none 0 0] 42))) := (Below.refl _ _).alloc (Nat.le_refl _) _
  have D2 : Hid ((w1.alloc (.cells #[.slice a1 nn c1, .slice none 0 0] 42)).cell? ⟨w1.heap.size, 0, none⟩ = some (.slice a1 nn c1) ∧ (w1.alloc (.cells #[.slice a1 nn c1, .slice none 0 0] 42)).cell? ⟨w1.heap.size, 1, none⟩ = some (.slice none 0 0) ∧ (w1.alloc (.cells #[.slice a1 nn c1, .slice none 0 0] 42)).frozen? ⟨w1.heap.size, 1, none⟩ = false) := by
    refine ⟨?_, ?_, ?_⟩ <;> go_simp
  go_wp2_with fail
  go_loopw [15] (fun i wr => ∃ (k n' c' : Nat) (a' : Option Addr) (rs' : List LV), k ≤ n ∧ n' ≤ k ∧ i = .int .i64 k ∧ wr.cell? ⟨w1.heap.size, 0, none⟩ = some (.slice a1 nn c1) ∧ wr.cell? ⟨w1.heap.size, 1, none⟩ = some (.slice a' n' c') ∧ wr.frozen? ⟨w1.heap.size, 1, none⟩ = false ∧ (n' = 0 → a' = none) ∧ OwnLs wr (w1.heap.size + 1) a' n' c' rs' ∧ lplain rs' = foldI ((lplain rs).take k) ∧ (∀ r ∈ rs', r.zs.length = m) ∧ Below w1.heap.size w1 wr ∧ w1.heap.size + 1 ≤ wr.heap.size) (fun i _ => n - (intOf i).toNat)
  case atStart => exact ⟨0, 0, 0, none, [], Nat.zero_le _, Nat.le_refl _, rfl, D2.out.1, D2.out.2.1, D2.out.2.2, fun _ => rfl, ⟨World.ownsRow_nil _ _ _ _, by simp, by simp, by simp, by simp⟩, rfl, by simp, B2.out, by simp⟩
  case round =>
    obtain ⟨k, n', c', a', rs', hk, hnk, rfl, q0, q1, qf, hz, hown, hpl, hlr, hnx, hsz⟩ := hrel
    have HQ : Hid (wr.cell? ⟨w1.heap.size, 0, none⟩ = some (.slice a1 nn c1)) := q0
    have HZ : Hid (n' = 0 → a' = none) := hz
    have HO : Hid (OwnLs wr (w1.heap.size + 1) a' n' c' rs') := hown
    have HP : Hid (lplain rs' = foldI ((lplain rs).take k)) := hpl
    have HLR : Hid (∀ r ∈ rs', r.zs.length = m) := hlr
    have HNX : Hid (Below w1.heap.size w1 wr) := hnx
    have HBW : Hid (Below w.heap.size w wr) := Frame.next B1.out hnx B1.out.size
    clear hz hown hpl hlr
    by_cases hlt : k < n
    · obtain ⟨b, off, rfl, hbl, hc⟩ := HT.out.cells (by omega)
      have hkl : k < rs.length := by rw [HTL.out]; exact hlt
      have p0 : wr.cell? ⟨b, off + k, none⟩ = some (.slice (rs.getD k ld).a (rs.getD k ld).n (rs.getD k ld).c) := by rw [HBW.out.cell (p := ⟨b, off + k, none⟩) hbl]; exact hc k hlt
      have hrow := IsRow.below (HT.out.rows _ (getD_mem_ld hkl)) HBW.out
      have hln := HLN.out _ (getD_mem_ld hkl)
      have hxe := lplain_get rs k hkl
      have hst := foldI_step (l := lplain rs) (k := k) (by simp [lplain]; exact hkl)
      rw [hxe] at hst
      generalize rs.getD k ld = x at p0 hrow hln hst
      obtain ⟨xa, xn, xc, xs⟩ := x
      simp only at p0 hrow hln hst
      have HX : Hid (IsRow .i64 wr xa xn xc xs) := hrow
      have HXN : Hid (xn = m) := by show _ = _; rw [← hrow.len]; exact hln
      have HST : Hid (foldI ((lplain rs).take (k + 1)) = insL xs (foldI ((lplain rs).take k))) := hst
      have HLR2 : Hid (∀ r ∈ rs', r.zs.length = xn) := by rw [HXN.out]; exact HLR.out
      clear hc hkl hrow hln hxe hst hnx
      go_wp2_with fail
      refine (spec_l3Add _ _ _ _ _ _ rs' xs (w1.heap.size + 1) _ HO.out hsz HZ.out HX.out (by omega) (by rw [HXN.out]; omega) HLR2.out).mono ?_
      rintro e w3 ⟨a3, n3, c3, rs3, rfl, ho3, hp3, h03, hn3, hl3, hb3⟩
      have B3 : Hid (Below w1.heap.size w1 w3) := Frame.next HNX.out hb3 HNX.out.size
      have Q3 : Hid (w3.cell? ⟨w1.heap.size, 0, none⟩ = some (.slice a1 nn c1)) := Frame.held_cell hb3 HQ.out
      have q3 : w3.cell? ⟨w1.heap.size, 1, none⟩ = some (.slice a' n' c') := Frame.held_cell hb3 q1
      have f3 : w3.frozen? ⟨w1.heap.size, 1, none⟩ = false := by rw [(Frame.bcell hb3).2.1 _ _ (by omega)]; exact qf
      have O3 : Hid (OwnLs w3 (w1.heap.size + 1) a3 n3 c3 rs3) := ho3
      have P3 : Hid (lplain rs3 = foldI ((lplain rs).take (k + 1))) := by show _ = _; rw [hp3, HST.out, HP.out]
      have L3 : Hid (∀ r ∈ rs3, r.zs.length = m) := by rw [← HXN.out]; exact hl3
      have hs3 : w1.heap.size + 1 ≤ w3.heap.size := Nat.le_trans hsz hb3.size
      clear ho3 hp3 hl3 hb3 p0 q0 q1 qf
      go_wp2
      go_roundw
      case rel =>
        refine ⟨k + 1, n3, c3, a3, rs3, by omega, by omega, by go_num, ?_, World.cell?_setCell_same _ _ _ q3, by rw [World.frozen?_setCell]; exact f3, fun h => absurd h (by omega), ownLs_set O3.out _ _ (by omega), P3.out, L3.out, B3.out.setCell (Nat.le_refl _) _, by simpa using hs3⟩
        rw [World.cell?_setCell_other _ _ _ _ (by simp)]
        exact Q3.out
      case measure => simp [intOf]; omega
    · obtain rfl : k = n := by omega
      have HPF : Hid (lplain rs' = tellL (lplain rs)) := by
        have := HP.out
        rw [List.take_of_length_le (by simp [lplain, HTL.out])] at this
        exact this
      have hvn : ∀ r ∈ rs', r.n = m := fun r hr => by
        have h1 := Knl.OwnLs.vlen HO.out r hr
        have h2 := HLR.out r hr
        omega
      have HTOT : Hid (totalL rs' ≤ 1048576) := total_same hvn (by rw [HO.out.len]; exact hnk) HSZ.out
      have Q5 : Hid (QOwn wr (w.heap.size + 1) wr.heap.size (.slice a1 nn c1) (.slice a' n' c') (ns, lplain rs')) :=
        q_tell (own_below O1.out HNX.out) HNW.out (by omega) (fun x hx => by have := (A1.out x hx).2; omega) HO.out (by omega) (Nat.le_refl _) HTOT.out
      have Q6 : Hid (QIs wr (.slice a1 nn c1) (.slice a' n' c') (ns, lplain rs')) := qOwn_is Q5.out
      have D : Hid (∀ w7, Below wr.heap.size wr w7 → w7.cell? ⟨w.heap.size, 0, none⟩ = some (.slice none 0 0) ∧ w7.cell? ⟨w.heap.size, 1, none⟩ = some (.slice none 0 0) ∧ w7.frozen? ⟨w.heap.size, 0, none⟩ = false ∧ w7.frozen? ⟨w.heap.size, 1, none⟩ = false ∧ w7.cell? ⟨w1.heap.size, 0, none⟩ = some (.slice a1 nn c1) ∧ w7.cell? ⟨w1.heap.size, 1, none⟩ = some (.slice a' n' c')) := fun w7 hb7 => by
        have bb := Frame.next HNX.out hb7 HNX.out.size
        have bc := Frame.bcell bb
        obtain ⟨c0, c1', f0, f1⟩ := C1.out
        exact ⟨by rw [bc.1 _ _ (by omega)]; exact c0, by rw [bc.1 _ _ (by omega)]; exact c1', by rw [bc.2.1 _ _ (by omega)]; exact f0, by rw [bc.2.1 _ _ (by omega)]; exact f1, Frame.held_cell hb7 q0, Frame.held_cell hb7 q1⟩
      clear hnx hvn hlt hk
      cases hg : goodR ns (lplain rs')
      · have HG : Hid (goodR ns (lplain rs') = false) := hg
        have F : Hid (tellV ns (lplain rs) = ([], []) ∧ tellG ns (lplain rs) = false) := tellV_no (by rw [← HPF.out]; exact hg)
        clear hg
        go_wp2_with fail
        refine (spec_GoodRelation _ _ (ns, lplain rs') _ Q6.out).mono ?_
        rintro e w7 ⟨rfl, hb7⟩
        rw [show goodR (ns, lplain rs').1 (ns, lplain rs').2 = false from HG.out]
        obtain ⟨c0, c1', f0, f1, d0, d1⟩ := D.out w7 hb7
        have B7 : Hid (Below w.heap.size w w7) := Frame.next HBW.out hb7 HBW.out.size
        clear hb7 q0 q1 qf
        go_wp2
        refine bodyPost_ret (v := .tuple #[.agg #[.slice none 0 0, .slice none 0 0], .bool false]) (by simp [results, Try.results55, go_sem, c0, c1']) rfl ?_
        rw [F.out.1, F.out.2]
        exact ⟨_, _, _, _, _, _, rfl, own_none _ _ _, (B7.out.setCell (Nat.le_refl _) _).setCell (Nat.le_refl _) _⟩
      · have HG : Hid (goodR ns (lplain rs') = true) := hg
        have F : Hid (tellV ns (lplain rs) = (ns, lplain rs') ∧ tellG ns (lplain rs) = true) := by
          have := tellV_yes (ns := ns) (ts := lplain rs) (by rw [← HPF.out]; exact hg)
          rw [← HPF.out] at this
          exact this
        clear hg
        go_wp2_with fail
        refine (spec_GoodRelation _ _ (ns, lplain rs') _ Q6.out).mono ?_
        rintro e w7 ⟨rfl, hb7⟩
        rw [show goodR (ns, lplain rs').1 (ns, lplain rs').2 = true from HG.out]
        obtain ⟨c0, c1', f0, f1, d0, d1⟩ := D.out w7 hb7
        have B7 : Hid (Below w.heap.size w w7) := Frame.next HBW.out hb7 HBW.out.size
        have Q7 : Hid (QOwn w7 (w.heap.size + 1) wr.heap.size (.slice a1 nn c1) (.slice a' n' c') (ns, lplain rs')) := qOwn_below Q5.out hb7
        have hs7 : wr.heap.size ≤ w7.heap.size := hb7.size
        clear hb7 q0 q1 qf
        go_wp2
        refine bodyPost_ret (v := .tuple #[.agg #[.slice a1 nn c1, .slice a' n' c'], .bool true]) (by simp [results, Try.results55, go_sem, c0, c1']) rfl ?_
        rw [F.out.1, F.out.2]
        exact ⟨_, _, _, _, _, _, rfl, qOwn_wide (qOwn_set (qOwn_set Q7.out _ _ (by omega)) _ _ (by omega)) (by omega) (by simpa using hs7), (B7.out.setCell (Nat.le_refl _) _).setCell (Nat.le_refl _) _⟩


end Go.Proofs.Ytekheacbmbbpmaa.Sd
