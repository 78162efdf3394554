/-
  A cover of sentences, as data, and in the program: contract of CoverOf.
-/
import Derived.Test.YtekheacbmbbpmaaCca
import Derived.Test.YtekheacbmbbpmaaBsr
namespace Go.Proofs.Ytekheacbmbbpmaa.Cvi
open Go.RowKit
open Go.Proofs.Ytekheacbmbbpmaa.Frame Go.Proofs.Ytekheacbmbbpmaa.Mem Go.Proofs.Ytekheacbmbbpmaa.Ints Go.Proofs.Ytekheacbmbbpmaa.Kep Go.Proofs.Ytekheacbmbbpmaa.Lls Go.Proofs.Ytekheacbmbbpmaa.Mis Go.Proofs.Ytekheacbmbbpmaa.Dls Go.Proofs.Ytekheacbmbbpmaa.Dlt Go.Proofs.Ytekheacbmbbpmaa.Dlk Go.Proofs.Ytekheacbmbbpmaa.Csa Go.Proofs.Ytekheacbmbbpmaa.Csb Go.Proofs.Ytekheacbmbbpmaa.Csc Go.Proofs.Ytekheacbmbbpmaa.Csd Go.Proofs.Ytekheacbmbbpmaa.Ssc Go.Proofs.Ytekheacbmbbpmaa.Spx Go.Proofs.Ytekheacbmbbpmaa.Cca
open Go.Proofs.Ytekheacbmbbpmaa.Rel hiding Ll
open Go.Proofs.Ytekheacbmbbpmaa.Cpu hiding Dp

def othersD (l : List Dp) (k : Nat) : List Dp := l.take k ++ l.drop (k + 1)
noncomputable def covS : Nat → List Dp → Nat → List Dp
  | 0, l, _ => l
  | f + 1, l, k => if k < l.length then (if impB (othersD l k) (l.getD k Dls.d0) then covS f (othersD l k) k else covS f l (k + 1)) else l
noncomputable def coverV (cols : Int) (ds : List Dp) : List Dp := if goodD cols ds then covS ds.length ds 0 else []
theorem others_len {l : List Dp} {k : Nat} (h : k < l.length) : (othersD l k).length = l.length - 1 := by
  unfold othersD
  rw [List.length_append, List.length_take, List.length_drop]
  omega
theorem others_mem {l : List Dp} {k : Nat} : ∀ d ∈ othersD l k, d ∈ l := fun d hd => by
  unfold othersD at hd
  rcases List.mem_append.1 hd with h | h
  · exact List.mem_of_mem_take h
  · exact List.mem_of_mem_drop h
theorem cov_yes {l : List Dp} {k : Nat} (h : k < l.length) (hi : impB (othersD l k) (l.getD k Dls.d0) = true) : covS (l.length - k) l k = covS ((othersD l k).length - k) (othersD l k) k := by
  rw [others_len h, show l.length - k = (l.length - 1 - k) + 1 by omega]
  conv => lhs; unfold covS
  rw [if_pos h, if_pos hi]
theorem cov_no {l : List Dp} {k : Nat} (h : k < l.length) (hi : impB (othersD l k) (l.getD k Dls.d0) = false) : covS (l.length - k) l k = covS (l.length - (k + 1)) l (k + 1) := by
  rw [show l.length - k = (l.length - (k + 1)) + 1 by omega]
  conv => lhs; unfold covS
  rw [if_pos h, if_neg (by rw [hi]; decide)]
theorem cov_end {l : List Dp} {k : Nat} (h : l.length ≤ k) : covS (l.length - k) l k = l := by
  rw [show l.length - k = 0 by omega]
  rfl
theorem few_deps {cols : Int} {l : List Dp} (h1 : 1 ≤ cols) (h6 : cols ≤ 6) (h8 : l.length ≤ 8) (hd : ∀ d ∈ l, depB cols d = true) : goodD cols l = true := by
  unfold goodD
  rw [show Val.inB cols 1 6 = true by unfold Val.inB; exact decide_eq_true ⟨h1, h6⟩, decide_eq_true h8, List.all_eq_true.2 hd]
  rfl
theorem dep_six {cols : Int} {d : Dp} (h6 : cols ≤ 6) (hd : depB cols d = true) : d.1.length ≤ 6 ∧ d.2.length ≤ 6 := by
  have hc := depB_cols hd h6
  unfold depB at hd
  rw [Bool.and_eq_true, rise_iff, rise_iff] at hd
  exact ⟨up_length hd.1.2 hc.1, up_length hd.2.2 hc.2⟩
theorem rows_six : ∀ (n : Nat) (rs : List LV), rs.length = n * 2 → (∀ d ∈ dpl rs, d.1.length ≤ 6 ∧ d.2.length ≤ 6) → ∀ r ∈ rs, r.zs.length ≤ 6
  | 0, [], _, _ => fun r hr => by cases hr
  | 0, _ :: _, h, _ => by simp at h
  | n + 1, [], h, _ => by simp at h
  | n + 1, [_], h, _ => by simp at h; omega
  | n + 1, f :: t :: rs, h, hd => fun r hr => by
    have h0 := hd (f.zs, t.zs) (by simp [dpl])
    rcases List.mem_cons.1 hr with rfl | hr
    · exact h0.1
    · rcases List.mem_cons.1 hr with rfl | hr
      · exact h0.2
      · exact rows_six n rs (by simp at h; omega) (fun d hd' => hd d (by simp only [dpl]; exact List.mem_cons_of_mem _ hd')) r hr
theorem sum_six {rs : List LV} (h : ∀ r ∈ rs, r.n ≤ 6) : sumL rs ≤ 6 * (rs.length : Int) := by
  induction rs with
  | nil => simp [sumL]
  | cons r rs ih =>
    have h1 := h r (by simp)
    have h2 := ih (fun s hs => h s (by simp [hs]))
    simp only [sumL, List.map_cons, List.sum_cons, List.length_cons] at *
    omega
theorem six_rows {cols : Int} {n : Nat} {rs : List LV} {w : World} {a : Option Addr} {c : Nat} (hg : IsG w a n c rs) (h6 : cols ≤ 6) (hd : ∀ d ∈ dpl rs, depB cols d = true) : ∀ r ∈ rs, r.n ≤ 6 := fun r hr => by
  have := rows_six n rs hg.len (fun d h => dep_six h6 (hd d h)) r hr
  rw [(hg.rows r hr).len] at this
  exact this
theorem dIs_few {w : World} {a : Option Addr} {n c : Nat} {rs : List LV} {cols : Int} (hg : IsG w a n c rs) (hn : n ≤ 8) (h6 : cols ≤ 6) (hd : ∀ d ∈ dpl rs, depB cols d = true) : DIs w (.slice a n c) (dpl rs) := by
  refine ⟨a, n, c, rs, rfl, hg, rfl, ?_⟩
  have := sum_six (six_rows hg h6 hd)
  have hl := hg.len
  omega
theorem far4 {W : World} {g b i j o : Nat} {v v0 v1 : Value} (h : W.cell? ⟨b, o, none⟩ = some v) (hb : g ≠ b) : ((W.setCell ⟨g, i, none⟩ v0).setCell ⟨g, j, none⟩ v1).cell? ⟨b, o, none⟩ = some v := by
  rw [World.cell?_setCell_far _ _ _ _ hb, World.cell?_setCell_far _ _ _ _ hb]
  exact h
theorem dep_up {cols : Int} {d : Dp} (h : depB cols d = true) : UpN d.1 ∧ UpN d.2 := by
  unfold depB at h
  rw [Bool.and_eq_true, rise_iff, rise_iff] at h
  exact ⟨h.1.2, h.2.2⟩
theorem dp_mem {l : List Dp} {k : Nat} (h : k < l.length) : l.getD k Dls.d0 ∈ l := by
  rw [List.getD, List.getElem?_eq_getElem h]
  exact List.getElem_mem _
theorem put_next {V W : World} {B g n k : Nat} {xs ys : List LV} {ua ta : Option Addr} {un uc tn tc : Nat} {d : Dp} (h : OwnG V B (some ⟨g, 0, none⟩) n n (xs ++ ld :: ld :: ys)) (hy : ∀ s ∈ ys, s.a = none) (hk : xs.length = k * 2) (hb : Below V.heap.size V W) (hB : B ≤ V.heap.size) (ho : EOwn W V.heap.size W.heap.size (.slice ua un uc) (.slice ta tn tc) d) :
    OwnG ((W.setCell ⟨g, k * 2, none⟩ (.slice ua un uc)).setCell ⟨g, k * 2 + 1, none⟩ (.slice ta tn tc)) B (some ⟨g, 0, none⟩) n n (xs ++ ⟨ua, un, uc, d.1⟩ :: ⟨ta, tn, tc, d.2⟩ :: ys) := by
  obtain ⟨o1, o2, wf1, wf2, bl1, bl2, ff⟩ := eOwn_parts ho
  have own1 := OwnG.below h hb
  have hput := OwnG.put_two (r := ⟨ua, un, uc, d.1⟩) (r' := ⟨ta, tn, tc, d.2⟩) own1 rfl (own_base o1 hB) (own_base o2 hB) wf1 wf2 ff
    (fun s hs => ⟨fun x y hx hy => by have h1 := (OwnG.lt h s (List.mem_append_left _ hs) x hx).2; have h2 := (bl1 y hy).1; omega, fun x y hx hy => by have h1 := (OwnG.lt h s (List.mem_append_left _ hs) x hx).2; have h2 := (bl2 y hy).1; omega⟩)
    hy
    (fun x y hx hy => by cases hx; have h1 := (own_block h.outer _ rfl).2; have h2 := (bl1 y hy).1; simp at h1; show g ≠ y.block; omega)
    (fun x y hx hy => by cases hx; have h1 := (own_block h.outer _ rfl).2; have h2 := (bl2 y hy).1; simp at h1; show g ≠ y.block; omega)
  rw [hk] at hput
  exact hput
theorem cells_next {V : World} {B g n k : Nat} {rs : List LV} (h : OwnG V B (some ⟨g, 0, none⟩) n n rs) (hk : k < n) : (∃ v0, V.cell? ⟨g, k * 2, none⟩ = some v0) ∧ (∃ v1, V.cell? ⟨g, k * 2 + 1, none⟩ = some v1) ∧ V.frozen? ⟨g, k * 2, none⟩ = false ∧ V.frozen? ⟨g, k * 2 + 1, none⟩ = false ∧ g < V.heap.size := by
  have hl2 : (lcells rs).length = n * 2 := by simpa using h.outer.1
  refine ⟨?_, ?_, h.outer.frozenAt _, h.outer.frozenAt _, (own_block h.outer _ rfl).2⟩
  · rw [h.outer.cellAt _ (by omega)]
    exact ⟨_, List.getElem?_eq_getElem (by omega)⟩
  · rw [h.outer.cellAt _ (by omega)]
    exact ⟨_, List.getElem?_eq_getElem (by omega)⟩
theorem far_own {w w' : World} {lo m lo' hi : Nat} {u t : Value} {zs ys : List Int} (h : IOwn w lo m u zs) (h' : IOwn w' lo' hi t ys) (hm : m ≤ lo') : Far (Krl.addrOf u) (Krl.addrOf t) := by
  obtain ⟨a, n, c, rfl, _, _, _, hb⟩ := h
  obtain ⟨a', n', c', rfl, _, _, _, hb'⟩ := h'
  intro x y hx hy
  have h1 := (hb x hx).2
  have h2 := (hb' y hy).1
  omega
theorem pairA {V wp w4 wx w5 : World} {u t : Value} {d : Dp} (h4 : Below wp.heap.size wp w4) (o4 : IOwn w4 wp.heap.size w4.heap.size u d.1) (hx : Below w4.heap.size w4 wx) (h5 : Below wx.heap.size wx w5) (o5 : IOwn w5 wx.heap.size w5.heap.size t d.2) (kp : V.heap.size ≤ wp.heap.size) : EOwn w5 V.heap.size w5.heap.size u t d := by
  have s4 := h4.size
  have sx := hx.size
  have s5 := h5.size
  exact ⟨Krl.iOwn_wide (iOwn_below (iOwn_below o4 hx) h5) kp (by omega), Krl.iOwn_wide o5 (by omega) (Nat.le_refl _), far_own o4 o5 sx⟩
theorem pairB {V wp w4 wx w5 : World} {u t : Value} {d : Dp} (h5 : Below wp.heap.size wp w5) (o5 : IOwn w5 wp.heap.size w5.heap.size t d.2) (hx : Below w5.heap.size w5 wx) (h4 : Below wx.heap.size wx w4) (o4 : IOwn w4 wx.heap.size w4.heap.size u d.1) (kp : V.heap.size ≤ wp.heap.size) : EOwn w4 V.heap.size w4.heap.size u t d := by
  have s5 := h5.size
  have sx := hx.size
  have s4 := h4.size
  exact ⟨Krl.iOwn_wide o4 (by omega) (Nat.le_refl _), Krl.iOwn_wide (iOwn_below (iOwn_below o5 hx) h4) kp (by omega), (far_own o5 o4 sx).symm⟩
theorem nextH {V wp w' : World} (h : Below wp.heap.size wp w') (kp : Hid (Below V.heap.size V wp)) : Hid (Below V.heap.size V w') := Frame.next kp.out h kp.out.size
theorem rows_of {w0 w1 : World} {a : Option Addr} {n c k : Nat} {rs : List LV} (h : IsG w0 a n c rs) (hb : Below w0.heap.size w0 w1) : ∀ r ∈ rs.take (k * 2) ++ rs.drop ((k + 1) * 2), IsRow .i64 w1 r.a r.n r.c r.zs := fun r hr => IsRow.below (h.rows r (by
  rcases List.mem_append.1 hr with h | h
  · exact List.mem_of_mem_take h
  · exact List.mem_of_mem_drop h)) hb
theorem dOwn_few {w wr : World} {B g n : Nat} {xs : List LV} {ds : List Dp} {cols : Int} (h : OwnG wr B (some ⟨g, 0, none⟩) n n xs) (hp : dpl xs = ds) (hn : n ≤ 8) (h6 : cols ≤ 6) (hd : ∀ d ∈ ds, depB cols d = true) (hB : w.heap.size ≤ B) : DOwn wr w.heap.size wr.heap.size (.slice (some ⟨g, 0, none⟩) n n) ds := by
  subst hp
  obtain ⟨_, _, _, _, e, _, _, hs⟩ := dIs_few h.isG hn h6 hd
  have hs2 : (n : Int) + sumL xs ≤ 1048576 := by
    have := sum_six (six_rows h.isG h6 hd)
    have hl := h.isG.len
    omega
  exact ⟨_, _, _, xs, rfl, ⟨own_base h.outer hB, fun r hr => own_base (h.inner r hr) hB, h.wf, h.apart, h.apart0⟩, rfl, hs2, fun x hx => by have := own_block h.outer x hx; omega, fun r hr x hx => by have := own_block (h.inner r hr) x hx; omega⟩
theorem isG_suf2 {w : World} {b off n c k k1 : Nat} {rs : List LV} {a2 : Option Addr} (h : IsG w (some ⟨b, off, none⟩) n c rs) (hk : k1 = k + 1) (hn : k1 ≤ n) (ha : (if c = k1 then some (⟨b, off, none⟩ : Addr) else some ⟨b, off + k1 * 2, none⟩) = a2) : IsG w a2 (n - k1) (c - k1) (rs.drop ((k + 1) * 2)) := by
  subst hk
  have hs := isG_suf h hn
  by_cases hc : c = k + 1
  · have hf := h.fits
    have hn0 : n - (k + 1) = 0 := by omega
    rw [hn0] at hs ⊢
    refine ⟨hs.len, hs.fits, hs.max, hs.rows, fun h0 => absurd h0 (by omega)⟩
  · rw [if_neg hc] at ha
    subst ha
    exact hs


set_option maxRecDepth 100000 in
set_option maxHeartbeats 6400000 in
theorem impl_CoverOf (cols : Int) (v : Value) (ds : List Dp) (w : World) (h : DIs w v ds) :
    Calls Try.prog 7 #[.int .i64 cols, v] w fun e w' => ∃ u, e = .returned (.tuple #[u, .bool (goodD cols ds)]) ∧ DOwn w' w.heap.size w'.heap.size u (coverV cols ds) ∧ Below w.heap.size w w' := by
  obtain ⟨i0, hi, hz0, hz1, hz2⟩ := info_parts infoD
  have HD : Hid (DIs w v ds) := h
  obtain ⟨a, n, cap, rs, rfl, hg, rfl, hsz⟩ := h
  have HG0 : Hid (IsG w a n cap rs) := hg
  clear hg hsz
  go_enter Try.func7, Try.ntmps7
  go_wp2_with fail
  refine (Dga.impl_GoodDeps cols _ (dpl rs) _ HD.out).mono ?_
  rintro e w1 ⟨rfl, hb1⟩
  have B1 : Hid (Below w.heap.size w w1) := hb1
  clear hb1
  cases hG : goodD cols (dpl rs)
  · have EV : Hid (coverV cols (dpl rs) = []) := by show _ = _; unfold coverV; rw [hG]; rfl
    have GF : Hid (goodD cols (dpl rs) = false) := hG
    clear hG
    go_wp2
    go_ret2
    refine ⟨.slice none 0 0, by rw [GF.out]; rfl, ?_, B1.out⟩
    rw [EV.out]
    exact ⟨none, 0, 0, [], rfl, ⟨World.ownsRow_nil _ _ _ _, by simp, by simp, by simp, by simp⟩, rfl, by simp [sumL], (fun x hx => by cases hx), by simp⟩
  · have hc := cols_of hG
    have hl0 := dpl_length n rs HG0.out.len
    have EV : Hid (coverV cols (dpl rs) = covS (dpl rs).length (dpl rs) 0) := by show _ = _; unfold coverV; rw [hG]; rfl
    have GT : Hid (goodD cols (dpl rs) = true) := hG
    have hc1 := hc.2.1
    have hc6 := hc.2.2.1
    have hn8 : n ≤ 8 := by rw [← hl0]; exact hc.2.2.2.1
    have HDB : Hid (∀ d ∈ dpl rs, depB cols d = true) := hc.2.2.2.2
    have HL0 : Hid ((dpl rs).length = n) := hl0
    clear hG hc hl0
    go_wp2_with fail
    go_loopw [6, 7] (fun s i wr => ∃ (k m : Nat) (a' : Option Addr) (c' : Nat) (qs : List LV), k ≤ m ∧ m ≤ 8 ∧ s = .slice a' m c' ∧ i = .int .i64 k ∧ IsG wr a' m c' qs ∧ (∀ d ∈ dpl qs, depB cols d = true) ∧ covS (m - k) (dpl qs) k = covS (dpl rs).length (dpl rs) 0 ∧ Below w.heap.size w wr) (fun s i _ => lenV s - (intOf i).toNat)
    case atStart => exact ⟨0, n, a, cap, rs, Nat.zero_le _, hn8, rfl, rfl, HG0.out.below B1.out, HDB.out, by rw [HL0.out, Nat.sub_zero], B1.out⟩
    case round =>
      obtain ⟨k, m, a', c', qs, hk, hm8, rfl, rfl, hq, hdb, hcv, hnx⟩ := hrel
      have HQ : Hid (IsG wr a' m c' qs) := hq
      have HB : Hid (∀ d ∈ dpl qs, depB cols d = true) := hdb
      have HX : Hid (Below w.heap.size w wr) := hnx
      have HLQ : Hid ((dpl qs).length = m) := dpl_length m qs hq.len
      have HCV : Hid (covS ((dpl qs).length - k) (dpl qs) k = covS (dpl rs).length (dpl rs) 0) := by show _ = _; rw [HLQ.out]; exact hcv
      have hfit := hq.fits
      have hmax := hq.max
      clear hdb hcv
      by_cases hlt : k < m
      · have hltI : (k : Int) < (m : Int) := by omega
        have hle1 : (k : Int) ≤ (c' : Int) := by omega
        obtain ⟨k1, hk1⟩ : ∃ k1, k1 = k + 1 := ⟨_, rfl⟩
        have HK1 : Hid (k1 = k + 1) := hk1
        have hw1 : IntKind.i64.wrap ((k : Int) + 1) = (k1 : Int) := by simp [IntKind.wrap, IntKind.bits, IntKind.signed]; omega
        have hle2 : (k1 : Int) ≤ (m : Int) := by omega
        have hle4 : (k1 : Int) ≤ (c' : Int) := by omega
        have hle3 : (m : Int) ≤ (c' : Int) := by omega
        obtain ⟨b, off, fa, fn, fc, ta, tn, tc, d, rfl, p0, p1, he, hd⟩ := Dga.dep_at hq (Below.refl _ _) hlt (fun r hr => by have := six_rows hq hc6 HB.out r hr; omega)
        have HE : Hid (EIs wr (.slice fa fn fc) (.slice ta tn tc) d) := he
        have HGD : Hid ((dpl qs).getD k Dls.d0 = d) := hd
        have P01 : Hid (wr.cell? ⟨b, off + k * 2, none⟩ = some (.slice fa fn fc) ∧ wr.cell? ⟨b, off + k * 2 + 1, none⟩ = some (.slice ta tn tc)) := ⟨p0, p1⟩
        have DPR : Hid (dpl (qs.take (k * 2) ++ qs.drop ((k + 1) * 2)) = othersD (dpl qs) k) := by
          show _ = _
          have e := dpl_append k (qs.take (k * 2)) (qs.drop ((k + 1) * 2)) (by rw [List.length_take, hq.len]; omega)
          rw [e, dpl_take hq.len (by omega), dpl_drop hq.len (by omega)]
          rfl
        obtain ⟨a2, ha2⟩ : ∃ a2, (if c' = k1 then some (⟨b, off, none⟩ : Addr) else some ⟨b, off + k1 * 2, none⟩) = a2 := ⟨_, rfl⟩
        have BA : Hid (Below wr.heap.size wr (wr.drew.alloc (.cells #[.slice (some ⟨b, off, none⟩) k c', .slice a2 (m - k1) (c' - k1)] 23))) := ((Below.refl _ _).drew).alloc (Nat.le_refl _) _
        have PA : Hid ((wr.drew.alloc (.cells #[.slice (some ⟨b, off, none⟩) k c', .slice a2 (m - k1) (c' - k1)] 23)).cell? ⟨wr.heap.size, 0, none⟩ = some (.slice (some ⟨b, off, none⟩) k c') ∧ (wr.drew.alloc (.cells #[.slice (some ⟨b, off, none⟩) k c', .slice a2 (m - k1) (c' - k1)] 23)).cell? ⟨wr.heap.size, 1, none⟩ = some (.slice a2 (m - k1) (c' - k1))) := ⟨by show (wr.drew.alloc _).cell? ⟨wr.drew.heap.size, 0, none⟩ = _; rw [World.cell?_alloc_at _ _ _ _ rfl]; rfl, by show (wr.drew.alloc _).cell? ⟨wr.drew.heap.size, 1, none⟩ = _; rw [World.cell?_alloc_at _ _ _ _ rfl]; rfl⟩
        have HPRE : Hid (IsG (wr.drew.alloc (.cells #[.slice (some ⟨b, off, none⟩) k c', .slice a2 (m - k1) (c' - k1)] 23)) (some ⟨b, off, none⟩) k c' (qs.take (k * 2))) := (isG_pre hq (by omega)).below BA.out
        have HSUF : Hid (IsG (wr.drew.alloc (.cells #[.slice (some ⟨b, off, none⟩) k c', .slice a2 (m - k1) (c' - k1)] 23)) a2 (m - k1) (c' - k1) (qs.drop ((k + 1) * 2))) := isG_suf2 (hq.below BA.out) hk1 (by omega) ha2
        clear hq hnx p0 p1 he hd hfit hmax hk1
        go_wp2_with fail
        go_region_held3 (fun _ => True) (trivial) (first | (go_at_call 29; refine (concat_dep wr.heap.size (some ⟨b, off, none⟩) a2 k c' (m - k1) (c' - k1) (qs.take (k * 2)) (qs.drop ((k + 1) * 2)) _ PA.out.1 PA.out.2 HPRE.out HSUF.out (by omega) (by omega)).mono ?_; rintro e w3 ⟨a3, c3, rfl, ho3, hb3⟩))
        have HR3 : Hid (IsG w3 a3 (k + (m - k1)) c3 (qs.take (k * 2) ++ qs.drop ((k + 1) * 2))) := isG_outer ho3 (rows_of HQ.out (Frame.next BA.out hb3 BA.out.size))
        have NX3 : Hid (Below w.heap.size w w3) := Frame.next (Frame.next HX.out BA.out HX.out.size) hb3 (Frame.next HX.out BA.out HX.out.size).size
        have WX3 : Hid (Below wr.heap.size wr w3) := Frame.next BA.out hb3 BA.out.size
        have HBO : Hid (∀ d ∈ othersD (dpl qs) k, depB cols d = true) := fun d hd => HB.out d (others_mem d hd)
        have DI3 : Hid (DIs w3 (.slice a3 (k + (m - k1)) c3) (othersD (dpl qs) k)) := by
          have h := dIs_few HR3.out (by have := HK1.out; omega) hc6 (by rw [DPR.out]; exact HBO.out)
          rw [DPR.out] at h
          exact h
        have HDB1 : Hid (depB cols d = true) := by
          rw [← HGD.out]
          exact HB.out _ (dp_mem (by rw [HLQ.out]; exact hlt))
        have q0 := Frame.held_cell WX3.out P01.out.1
        have q1 := Frame.held_cell WX3.out P01.out.2
        clear ho3 hb3
        go_wp2_with fail
        refine (follows _ _ _ (othersD (dpl qs) k) d _ DI3.out (eIs_below HE.out WX3.out) (fun d hd => depB_cols (HBO.out d hd) hc6) (depB_cols HDB1.out hc6).1 (depB_cols HDB1.out hc6).2).mono ?_
        rintro e w4 ⟨rfl, hb4⟩
        have NX4 : Hid (Below w.heap.size w w4) := Frame.next NX3.out hb4 NX3.out.size
        have B34 : Hid (Below w3.heap.size w3 w4) := hb4
        clear hb4 q0 q1
        rcases Bsr.em_bool (impB (othersD (dpl qs) k) d) with hv | hv
        · rw [hv]
          have HV : Hid (impB (othersD (dpl qs) k) ((dpl qs).getD k Dls.d0) = false) := by show _ = _; rw [HGD.out]; exact hv
          clear hv
          go_wp2
          go_roundw
          case rel =>
            refine ⟨k1, m, _, c', qs, by omega, hm8, rfl, by first | rfl | go_num, HQ.out.below (Frame.next WX3.out B34.out WX3.out.size), HB.out, ?_, NX4.out⟩
            have h := HCV.out
            rw [cov_no (by rw [HLQ.out]; exact hlt) HV.out, HLQ.out] at h
            rw [HK1.out]
            exact h
          case measure =>
            have := HK1.out
            simp [intOf, lenV]
            omega
        · rw [hv]
          have HV : Hid (impB (othersD (dpl qs) k) ((dpl qs).getD k Dls.d0) = true) := by show _ = _; rw [HGD.out]; exact hv
          clear hv
          go_wp2
          go_roundw
          case rel =>
            refine ⟨k, k + (m - k1), a3, c3, _, by omega, by have := HK1.out; omega, rfl, rfl, HR3.out.below B34.out, (by rw [DPR.out]; exact HBO.out), ?_, NX4.out⟩
            have h := HCV.out
            rw [cov_yes (by rw [HLQ.out]; exact hlt) HV.out, others_len (by rw [HLQ.out]; exact hlt), HLQ.out] at h
            rw [DPR.out, show k + (m - k1) = m - 1 by have := HK1.out; omega]
            exact h
          case measure =>
            have := HK1.out
            simp [intOf, lenV]
            omega
      · obtain rfl : k = m := by omega
        have HF : Hid (covS (dpl rs).length (dpl rs) 0 = dpl qs) := by show _ = _; rw [← HCV.out]; exact cov_end (by rw [HLQ.out]; exact Nat.le_refl _)
        have HZ : Hid (w.heap.size ≤ wr.heap.size) := HX.out.size
        clear hq hnx hk HCV
        obtain ⟨W1, hW1⟩ : ∃ W1, W1 = wr := ⟨_, rfl⟩
        subst hW1
        go_wp2_with (at_make; refine wpList_make_full _ rfl _ _ 23 rfl W1.heap.size 36 i0 (.agg #[.slice none 0 0, .slice none 0 0]) 2 Try.underlying23 hi hz0 hz1 _ _ _ _ k rfl rfl rfl rfl ?b2 ?b3 (Nat.le_refl _) ?_)
        case b2 => rw [hz2]; omega
        case b3 => unfold maxLen; omega
        intro w0 hown0 hgrow0
        have BW0 : Hid (Below W1.heap.size W1 w0) := (Below.refl _ _).grown hgrow0 (Nat.le_refl _) (fun k h => by cases h)
        have HO0 : Hid (OwnG w0 W1.heap.size (some ⟨W1.heap.size, 0, none⟩) k k (List.replicate (k * 2) ld)) := own_made hown0
        clear hown0 hgrow0
        obtain ⟨g, hg⟩ : ∃ g, g = W1.heap.size := ⟨_, rfl⟩
        have HGW : Hid (g = W1.heap.size) := hg
        rw [← hg] at HO0
        rw [← hg]
        clear hg
        go_wp2_with fail
        go_loopw [44] (fun i wz => ∃ (j : Nat) (xs : List LV), j ≤ k ∧ i = .int .i64 j ∧ xs.length = j * 2 ∧ dpl xs = (dpl qs).take j ∧ OwnG wz g (some ⟨g, 0, none⟩) k k (xs ++ List.replicate ((k - j) * 2) ld) ∧ Below W1.heap.size W1 wz) (fun i _ => k - (intOf i).toNat)
        case atStart => exact ⟨0, [], Nat.zero_le _, rfl, rfl, rfl, HO0.out, BW0.out⟩
        case round =>
          obtain ⟨j, xs, hj, rfl, hxl, hpl, hown, hnx⟩ := hrel
          have HN : Hid (Below W1.heap.size W1 wr) := hnx
          have HXL : Hid (xs.length = j * 2) := hxl
          have HPL : Hid (dpl xs = (dpl qs).take j) := hpl
          clear hnx hxl hpl
          by_cases hlt : j < k
          · have hltI : (j : Int) < (k : Int) := by omega
            obtain ⟨b, off, fa, fn, fc, ta, tn, tc, d, rfl, p0, p1, he, hd⟩ := Dga.dep_at HQ.out HN.out hlt (fun r hr => by have := six_rows HQ.out hc6 HB.out r hr; omega)
            have HGD : Hid ((dpl qs).getD j Dls.d0 = d) := hd
            have HDB1 : Hid (depB cols d = true) := by
              rw [← HGD.out]
              exact HB.out _ (dp_mem (by rw [HLQ.out]; exact hlt))
            have HIN : Hid ((∀ z ∈ d.1, 0 ≤ z ∧ z < 6) ∧ ∀ z ∈ d.2, 0 ≤ z ∧ z < 6) := depB_cols HDB1.out hc6
            have LI1 : Hid (listI (inS d.1) = d.1) := (listI_of (dep_up HDB1.out).1 HIN.out.1).symm
            have LI2 : Hid (listI (inS d.2) = d.2) := (listI_of (dep_up HDB1.out).2 HIN.out.2).symm
            have HE : Hid (EIs wr (.slice fa fn fc) (.slice ta tn tc) d) := he
            clear he hd
            have hsp : xs ++ List.replicate ((k - j) * 2) ld = xs ++ ld :: ld :: List.replicate ((k - (j + 1)) * 2) ld := by
              rw [show (k - j) * 2 = (k - (j + 1)) * 2 + 1 + 1 by omega, List.replicate_succ, List.replicate_succ]
            rw [hsp] at hown
            have KV := (Below.refl wr.heap.size wr).alloc (Nat.le_refl _) (.cells #[.slice fa fn fc, .slice ta tn tc] 36)
            have b0 := (Lsa.cells_one wr (.slice fa fn fc) (.slice ta tn tc) 36).1
            have b1 := (Lsa.cells_one wr (.slice fa fn fc) (.slice ta tn tc) 36).2
            have hwV : wr.heap.size < (wr.alloc (.cells #[.slice fa fn fc, .slice ta tn tc] 36)).heap.size := by simp
            obtain ⟨⟨v0, hv0⟩, ⟨v1, hv1⟩, hf0, hf1, hgw⟩ := cells_next (OwnG.below hown KV) hlt
            have HGWR : Hid (g < wr.heap.size) := (own_block hown.outer _ rfl).2
            have hne : g ≠ wr.heap.size := Nat.ne_of_lt HGWR.out
            go_wp2_with fail
            generalize (wr.alloc (.cells #[.slice fa fn fc, .slice ta tn tc] 36)) = V at KV b0 b1 hv0 hv1 hf0 hf1 hgw hwV ⊢
            have HKV : Hid (Below wr.heap.size wr V) := KV
            have HOV : Hid (OwnG V g (some ⟨g, 0, none⟩) k k (xs ++ ld :: ld :: List.replicate ((k - (j + 1)) * 2) ld)) := OwnG.below hown KV
            obtain ⟨⟨fa', fn', fc', e1, hfr, _⟩, ⟨ta', tn', tc', e2, htr, _⟩⟩ := HE.out
            cases e1
            cases e2
            have HFR : Hid (IsRow .i64 V fa fn fc d.1) := IsRow.below hfr KV
            have HTR : Hid (IsRow .i64 V ta tn tc d.2) := IsRow.below htr KV
            have K1 : Hid (Below V.heap.size V V.drew) := (Below.refl _ _).drew
            have HV0 : Hid (V.cell? ⟨g, j * 2, none⟩ = some v0) := hv0
            have HV1 : Hid (V.cell? ⟨g, j * 2 + 1, none⟩ = some v1) := hv1
            have HF0 : Hid (V.frozen? ⟨g, j * 2, none⟩ = false) := hf0
            have HF1 : Hid (V.frozen? ⟨g, j * 2 + 1, none⟩ = false) := hf1
            have HGV : Hid (g < V.heap.size) := hgw
            obtain ⟨w1', hw1'⟩ : ∃ w1', w1' = V.drew := ⟨_, rfl⟩
            clear KV hown hsp p0 p1 hfr htr hv0 hv1 hf0 hf1 hgw hwV
            go_region_held3 (fun W' => W'.cell? ⟨wr.heap.size, 0, none⟩ = some (.slice fa fn fc) ∧ W'.cell? ⟨wr.heap.size, 1, none⟩ = some (.slice ta tn tc))
              (first | exact ⟨Frame.held_cell K1.out b0, Frame.held_cell K1.out b1⟩ | with_reducible exact ⟨Frame.held_cell K2.out b0, Frame.held_cell K2.out b1⟩ | with_reducible exact ⟨Frame.held_cell K3.out b0, Frame.held_cell K3.out b1⟩ | with_reducible exact ⟨Frame.held_cell K4.out b0, Frame.held_cell K4.out b1⟩ | with_reducible exact ⟨Frame.held_cell K5.out b0, Frame.held_cell K5.out b1⟩ | with_reducible exact ⟨far4 (Frame.held_cell K5.out b0) hne, far4 (Frame.held_cell K5.out b1) hne⟩)
              (first | (go_at_call_has 22 fa; refine (setOf fa fn fc d.1 _ (IsRow.below HFR.out K1.out) HIN.out.1).mono ?_; rintro e w2 ⟨rfl, hb2⟩; unfold csv; have K2 : Hid (Below V.heap.size V w2) := nextH hb2 K1; clear hb2) | (go_at_call_has 25 (inS d.1 0); refine (listOf (inS d.1) _).mono ?_; rintro e w3 ⟨u3, rfl, ho3, hb3⟩; rw [LI1.out] at ho3; have K3 : Hid (Below V.heap.size V w3) := nextH hb3 K2; have H3 : Hid (Below w2.heap.size w2 w3) := hb3; have O3 : Hid (IOwn w3 w2.heap.size w3.heap.size u3 d.1) := ho3; obtain ⟨a3, n3, c3, rfl, _⟩ := ho3; clear hb3) | (go_at_call_has 22 ta; refine (setOf ta tn tc d.2 _ (IsRow.below HTR.out K3.out) HIN.out.2).mono ?_; rintro e w4 ⟨rfl, hb4⟩; unfold csv; have K4 : Hid (Below V.heap.size V w4) := nextH hb4 K3; have H4 : Hid (Below w3.heap.size w3 w4) := hb4; clear hb4) | (go_at_call_has 25 (inS d.2 0); refine (listOf (inS d.2) _).mono ?_; rintro e w5 ⟨u5, rfl, ho5, hb5⟩; rw [LI2.out] at ho5; have K5 : Hid (Below V.heap.size V w5) := nextH hb5 K4; have H5 : Hid (Below w4.heap.size w4 w5) := hb5; have O5 : Hid (IOwn w5 w4.heap.size w5.heap.size u5 d.2) := ho5; obtain ⟨a5, n5, c5, rfl, _⟩ := ho5; clear hb5; have y0 := Frame.held_cell K5.out HV0.out; have y1 := Frame.held_cell K5.out HV1.out; have z0 := ((Frame.bcell K5.out).2.1 g (j * 2) HGV.out).trans HF0.out; have z1 := ((Frame.bcell K5.out).2.1 g (j * 2 + 1) HGV.out).trans HF1.out))
            have EO : Hid (EOwn w5 V.heap.size w5.heap.size (.slice a3 n3 c3) (.slice a5 n5 c5) d) := pairA H3.out O3.out H4.out H5.out O5.out K2.out.size
            have HPUT : Hid _ := put_next HOV.out (fun s hs => by rw [(List.mem_replicate.1 hs).2]; rfl) HXL.out K5.out (Nat.le_of_lt HGV.out) EO.out
            have N5 : Hid (Below W1.heap.size W1 w5) := Frame.next (Frame.next HN.out HKV.out HN.out.size) K5.out (Nat.le_trans HN.out.size HKV.out.size)
            clear b0 b1
            go_wp2
            go_roundw
            case rel =>
              refine ⟨j + 1, xs ++ [⟨a3, n3, c3, d.1⟩, ⟨a5, n5, c5, d.2⟩], by omega, by go_num, by rw [List.length_append, HXL.out]; simp; omega, ?_, ?_, (N5.out.setCell (by rw [HGW.out]; exact Nat.le_refl _) _).setCell (by rw [HGW.out]; exact Nat.le_refl _) _⟩
              · rw [dpl_append j xs _ HXL.out, HPL.out, dp_take_succ (by rw [HLQ.out]; exact hlt), HGD.out]
                rfl
              · rw [List.append_assoc]
                exact HPUT.out
            case measure => simp [intOf]; omega
          · obtain rfl : j = k := by omega
            rw [Nat.sub_self, Nat.zero_mul, List.replicate_zero, List.append_nil] at hown
            have HO : Hid (OwnG wr g (some ⟨g, 0, none⟩) j j xs) := hown
            have HPF : Hid (dpl xs = dpl qs) := by
              have := HPL.out
              rwa [List.take_of_length_le (by rw [HLQ.out]; exact Nat.le_refl _)] at this
            have NW : Hid (Below w.heap.size w wr) := Frame.next HX.out HN.out HZ.out
            clear hown
            go_wp2
            go_ret2
            refine ⟨_, by rw [GT.out]; rfl, ?_, NW.out⟩
            rw [EV.out, HF.out]
            exact dOwn_few HO.out HPF.out hm8 hc6 HB.out (by rw [HGW.out]; exact HZ.out)


end Go.Proofs.Ytekheacbmbbpmaa.Cvi
