/-
  What chapter 9's drawn links may be: some lists of lists; which ones nothing asks.
-/
import Derived.Test.YtkondmnkmbdncaaDraw1
import Derived.Test.YtkondmnkmbdncaaGlk
namespace Go.Proofs.Ytkondmnkmbdncaa.Drl
open Go.RowKit
open Go.Proofs.Ytkondmnkmbdncaa.Frame Go.Proofs.Ytkondmnkmbdncaa.Mem Go.Proofs.Ytkondmnkmbdncaa.Ints Go.Proofs.Ytkondmnkmbdncaa.Kep Go.Proofs.Ytkondmnkmbdncaa.Lls Go.Proofs.Ytkondmnkmbdncaa.Mis Go.Proofs.Ytkondmnkmbdncaa.Cur Go.Proofs.Ytkondmnkmbdncaa.Draw1
open Go.Proofs.Ytkondmnkmbdncaa.Glb (own_row em_bool)
open Go.Proofs.Ytkondmnkmbdncaa.Glf (ls_push ownLs_base ownLs_touch lOwn_nil)
open Go.Proofs.Ytkondmnkmbdncaa.Glg (shape_of)
open Go.Proofs.Ytkondmnkmbdncaa.Glk (put_own)
open Go.Proofs.Ytkondmnkmbdncaa.Knl hiding Ll
open Go.Proofs.Ytkondmnkmbdncaa.Rel

theorem is_upto {b : Nat} {t : Int} {w w' : World} (h : Is b t w) (hs : w.heap.size ≤ w'.heap.size) (hb : ∀ k, k ≤ b → w'.heap[k]? = w.heap[k]?) : Is b t w' := by
  obtain ⟨a, len, cap, zs, at_, seed, hr, hne, c0, c1, c2, ha0, hat, hsd, f1, f2⟩ := h
  have hc : ∀ o, w'.cell? ⟨b, o, none⟩ = w.cell? ⟨b, o, none⟩ := fun o => World.cell?_of_block (w := w) (hb b (Nat.le_refl _))
  have hf : ∀ o, w'.frozen? ⟨b, o, none⟩ = w.frozen? ⟨b, o, none⟩ := fun o => by have := hb b (Nat.le_refl _); simp [World.frozen?, this]
  refine ⟨a, len, cap, zs, at_, seed, ⟨hr.len, hr.fits, hr.max, hr.wf, fun h0 => ?_⟩, hne, by rw [hc]; exact c0, by rw [hc]; exact c1, by rw [hc]; exact c2, ha0, hat, hsd, by rw [hf]; exact f1, by rw [hf]; exact f2⟩
  obtain ⟨c, off, rfl, hlt, hcc⟩ := hr.cells h0
  have hcb : c < b := hne _ rfl h0
  exact ⟨c, off, rfl, by omega, fun i hi => by rw [World.cell?_of_block (w := w) (hb c (by omega))]; exact hcc i hi⟩
theorem Moved.upon {b : Nat} {t : Int} {w w1 w2 : World} (m : Moved b t w w1) (hb : b < w.heap.size) (h : Below w.heap.size w1 w2) : Moved b t w w2 :=
  ⟨is_upto m.1 h.size (fun k hk => h.block k (by omega)), ⟨h.os.trans m.2.os, h.tape.trans m.2.tape, h.output.trans m.2.output, Nat.le_trans m.2.size h.size, fun k hk hne => (h.block k hk).trans (m.2.block k hk hne)⟩⟩
theorem Moved.mono {b : Nat} {t t' : Int} {w w' : World} (m : Moved b t w w') (ht : t ≤ t') : Moved b t' w w' := ⟨Is.mono m.1 ht, m.2⟩
theorem own_moved {b : Nat} {t : Int} {w w' : World} {base : Nat} {e : TypeId} {a : Option Addr} {n c : Nat} {xs : List Value} (h : w.ownsRow base e 1 (.slice a n c) n xs) (hb : b < base) (m : Moved b t w w') : w'.ownsRow base e 1 (.slice a n c) n xs :=
  own_touch h m.2 (fun x y hx hy => by cases hy; have := (own_block h x hx).1; show x.block ≠ b; omega)
theorem ls_moved {b : Nat} {t : Int} {w w' : World} {base : Nat} {a : Option Addr} {n c : Nat} {rs : List LV} (h : OwnLs w base a n c rs) (hb : b < base) (m : Moved b t w w') : OwnLs w' base a n c rs :=
  ownLs_touch h m.2 (fun x hx => by have := (own_block h.outer x hx).1; omega) (fun r hr x hx => by have := (own_block (h.inner r hr) x hx).1; omega)

/-- Links that were drawn. -/
def LinksD (b : Nat) (t : Int) (w : World) (e : Ending) (w' : World) : Prop := ∃ (v : Value) (xs : Rel.Ll), e = .returned v ∧ LOwn w' w.heap.size w'.heap.size v xs ∧ xs.length ≤ 13 ∧ Moved b (t + 150) w w'

theorem few_total {rs : List LV} (hl : rs.length ≤ 13) (h : ∀ r ∈ rs, r.zs.length ≤ 3) : ltotal (lplain rs) ≤ 1048576 := by
  have : ∀ (l : List LV), (∀ r ∈ l, r.zs.length ≤ 3) → ((lplain l).map fun x => (x.length : Int)).sum ≤ (l.length : Int) * 3 := by
    intro l
    induction l with
    | nil => intro _; simp [lplain]
    | cons g l ih =>
      intro h
      have h1 := ih (fun g hg => h g (by simp [hg]))
      have h2 := h g (by simp)
      simp only [lplain, List.map_cons, List.sum_cons, List.length_cons] at *
      omega
  have h1 := this rs h
  unfold ltotal
  have : (lplain rs).length = rs.length := by simp [lplain]
  omega

set_option maxRecDepth 100000 in
set_option maxHeartbeats 6400000 in
theorem links (b : Nat) (t : Int) (w : World) (h : Is b t w) (ht : t ≤ 600000) :
    Calls Try.prog 126 #[.pointer (some ⟨b, 0, none⟩)] w (LinksD b t w) := by
  obtain ⟨i0, hi, hz0, hz1, hz2⟩ := info_parts infoL
  have hbl := h.lt
  have H : Hid (Is b t w) := h
  clear h
  go_enter Try.func126, Try.ntmps126
  go_wp2_with fail
  refine (Cur.pick b t 9 _ H.out (by omega) (by omega) (by omega)).mono ?_
  rintro e w1 ⟨n0, rfl, hn0, hn1, hl1⟩
  have M1 : Hid (Moved b (t + 2) w w1) := hl1
  obtain ⟨N, rfl⟩ : ∃ N : Nat, n0 = (N : Int) := ⟨n0.toNat, by omega⟩
  clear hl1
  go_wp2_with fail
  refine (Cur.one b _ 20 _ M1.out.1 (by omega) (by omega) (by omega)).mono ?_
  rintro e w2 ⟨o2, rfl, hl2⟩
  have M2 : Hid (Moved b (t + 6) w w2) := Moved.mono (M1.out.next hl2) (by omega)
  clear hl2
  cases o2
  · have hN13 : N ≤ 13 := by omega
    clear hn0 hn1
    go_wp2_with fail
    have O2 : Hid (OwnLs w2 w.heap.size none 0 0 []) := ⟨World.ownsRow_nil _ _ _ _, fun r hr => (by cases hr), fun r hr => (by cases hr), List.Pairwise.nil, fun r hr => (by cases hr)⟩
    go_loopw [4, 5] (fun vl vk wr => ∃ (k : Nat) (ga : Option Addr) (gc : Nat) (xs : List LV), k ≤ N ∧ vk = .int .i64 k ∧ vl = .slice ga k gc ∧ OwnLs wr w.heap.size ga k gc xs ∧ (∀ r ∈ xs, r.zs.length ≤ 3) ∧ Moved b (t + 8 + 8 * k) w wr) (fun _ vk _ => N - (intOf vk).toNat)
    case atStart => exact ⟨0, none, 0, [], Nat.zero_le _, rfl, rfl, O2.out, fun r hr => (by cases hr), Moved.mono M2.out (by omega)⟩
    case round =>
      obtain ⟨k, ga, gc, xs, hk, rfl, rfl, ho, hs, hm⟩ := hrel
      rename World => wk
      have HO : Hid (OwnLs wk w.heap.size ga k gc xs) := ho
      have HS : Hid (∀ r ∈ xs, r.zs.length ≤ 3) := hs
      have HM : Hid (Moved b (t + 8 + 8 * k) w wk) := hm
      clear ho hs hm O2
      by_cases hlt : k < N
      · have hkI : (k : Int) < (N : Int) := by omega
        go_wp2_with fail
        refine (Cur.pick b _ 3 _ HM.out.1 (by omega) (by omega) (by omega)).mono ?_
        rintro e w4 ⟨m0, rfl, hm0, hm1, hl4⟩
        obtain ⟨mm, rfl⟩ : ∃ mm : Nat, m0 = (mm : Int) := ⟨m0.toNat, by omega⟩
        have hmm : mm ≤ 2 := by omega
        have M4 : Hid (Moved b (t + 14 + 8 * k - 2 * mm) w w4) := Moved.mono (HM.out.next hl4) (by omega)
        have O4 : Hid (OwnLs w4 w.heap.size ga k gc xs) := ls_moved HO.out hbl hl4
        have hs4 : w.heap.size ≤ w4.heap.size := M4.out.2.size
        have R4 : Hid (w4.ownsRow w4.heap.size 3 1 (.slice none 0 0) 0 (ints .i64 [])) := World.ownsRow_nil _ _ _ _
        have B4 : Hid (Below w.heap.size w4 w4) := Below.refl _ _
        have FAR4 : Hid (∀ s ∈ xs, ∀ x, s.a = some x → x.block < w4.heap.size) := fun s hs x hx => (O4.out.lt s hs x hx).2
        clear hl4 hm0 hm1
        go_wp2_with fail
        go_loopw [6, 7] (fun vr vm wr => ∃ (q rn rc : Nat) (ra : Option Addr) (zs : List Int), q + rn ≤ 2 ∧ vm = .int .i64 q ∧ vr = .slice ra rn rc ∧ wr.ownsRow w4.heap.size 3 1 (.slice ra rn rc) rn (ints .i64 zs) ∧ (∀ z ∈ zs, (Lit.int .i64 z).wf = true) ∧ OwnLs wr w.heap.size ga k gc xs ∧ w4.heap.size ≤ wr.heap.size ∧ Moved b (t + 14 + 8 * k - 2 * q) w wr) (fun _ vm _ => (intOf vm).toNat)
        case atStart => exact ⟨mm, 0, 0, none, [], by omega, rfl, rfl, R4.out, fun z hz => (by cases hz), O4.out, Nat.le_refl _, M4.out⟩
        case round =>
          obtain ⟨q, rn, rc, ra, zs, hqr, rfl, rfl, hr, hw, ho, hsz0, hm⟩ := hrel
          rename World => wq
          have RR : Hid (wq.ownsRow w4.heap.size 3 1 (.slice ra rn rc) rn (ints .i64 zs)) := hr
          have WF : Hid (∀ z ∈ zs, (Lit.int .i64 z).wf = true) := hw
          have OQ : Hid (OwnLs wq w.heap.size ga k gc xs) := ho
          have hsz : Hid (w4.heap.size ≤ wq.heap.size) := hsz0
          clear hsz0
          have MQ : Hid (Moved b (t + 14 + 8 * k - 2 * q) w wq) := hm
          clear hr hw ho hm O4 R4 B4 M4
          by_cases hq0 : 0 < q
          · obtain ⟨p, rfl⟩ : ∃ p, q = p + 1 := ⟨q - 1, by omega⟩
            have hsq : w.heap.size ≤ wq.heap.size := MQ.out.2.size
            go_wp2_with fail
            refine (Cur.pick b _ (N : Int) _ MQ.out.1 (by omega) (by omega) (by omega)).mono ?_
            rintro e w5 ⟨x, rfl, hx0, hx1, hl5⟩
            have M5 : Hid (Moved b (t + 14 + 8 * k - 2 * p) w w5) := Moved.mono (MQ.out.next hl5) (by omega)
            have R5 : Hid (w5.ownsRow w4.heap.size 3 1 (.slice ra rn rc) rn (ints .i64 zs)) := own_moved RR.out (by omega) hl5
            have O5 : Hid (OwnLs w5 w.heap.size ga k gc xs) := ls_moved OQ.out hbl hl5
            have XW : Hid ((Lit.int .i64 x).wf = true) := int_wf _ (by omega) (by omega)
            have Z5 : Hid (w4.heap.size ≤ w5.heap.size) := Nat.le_trans hsz.out hl5.2.size
            clear hl5
            go_wp2_with fail
            refine (Spo.spec_l1Put ra rn rc zs x _ (own_row R5.out WF.out) (shape_of R5.out) (by omega) XW.out).mono ?_
            rintro e w6 ⟨a6, m6, c6, rfl, hput, hb6⟩
            have hm6 : m6 ≤ rn + 1 := by rcases hput with ⟨_, h, _⟩ | ⟨_, h⟩ <;> omega
            have hs5 : w.heap.size ≤ w5.heap.size := M5.out.2.size
            have hB : (w4.heap.size : Nat) ≤ w5.heap.size ∨ (m6 = rn ∧ a6 = ra ∧ c6 = rc ∧ w6 = w5 ∧ Rel.putN x zs = zs) := by
              rcases hput with ⟨h1, h2, h3, h4, h5⟩ | ⟨h1, h2⟩
              · exact .inr ⟨h2, h1, h3, h4, h5⟩
              · exact .inl Z5.out
            have R6 : Hid (w6.ownsRow w4.heap.size 3 1 (.slice a6 m6 c6) m6 (ints .i64 (Rel.putN x zs))) := by
              rcases hB with hB | ⟨rfl, rfl, rfl, rfl, h5⟩
              · exact put_own R5.out hB hput
              · rw [h5]; exact R5.out
            have WF6 : Hid (∀ z ∈ Rel.putN x zs, (Lit.int .i64 z).wf = true) := fun z hz => by
              rcases Rel.mem_putN.1 hz with rfl | h
              · exact XW.out
              · exact WF.out z h
            have O6 : Hid (OwnLs w6 w.heap.size ga k gc xs) := O5.out.below hb6
            have Z6 : Hid (w4.heap.size ≤ w6.heap.size) := Nat.le_trans Z5.out hb6.size
            have M6 : Hid (Moved b (t + 14 + 8 * k - 2 * p) w w6) := Moved.upon M5.out hbl (hb6.mono hs5)
            clear hput hb6 hB RR OQ MQ
            go_wp2
            go_roundw
            case rel => exact ⟨p, m6, c6, a6, _, by omega, by go_num, rfl, R6.out, WF6.out, O6.out, Z6.out, M6.out⟩
            case measure => simp [intOf]
          · obtain rfl : q = 0 := by omega
            have hmI : ¬ ((0 : Nat) : Int) > 0 := by omega
            have M7 : Hid (Moved b (t + 8 + 8 * ((k + 1 : Nat) : Int)) w (wq.alloc (.cells #[.slice ra rn rc] 24))) := Moved.upon (Moved.mono MQ.out (by omega)) hbl ((Below.refl _ _).alloc MQ.out.2.size _)
            have O7 : Hid (OwnLs (wq.alloc (.cells #[.slice ra rn rc] 24)) w.heap.size ga k gc xs) := OQ.out.below ((Below.refl _ _).alloc (Nat.le_refl _) _)
            have R7 : Hid ((wq.alloc (.cells #[.slice ra rn rc] 24)).ownsRow w4.heap.size 3 1 (.slice ra rn rc) rn (ints .i64 zs)) := own_below RR.out ((Below.refl _ _).alloc (Nat.le_refl _) _)
            have NEW7 : Hid (0 < 1 → ∃ ad, (some ⟨wq.heap.size, 0, none⟩ : Option Addr) = some ad ∧ ∀ j u, ([.slice ra rn rc] : List Value)[j]? = some u → (wq.alloc (.cells #[.slice ra rn rc] 24)).cell? (ad.add j) = some u) := news_one wq _ _
            have FAR7 : Hid (∀ s ∈ xs, Far s.a ra) := fun s hs x y hx hy => by
              have h1 := FAR4.out s hs x hx
              have h2 := (own_block R7.out y hy).1
              omega
            have hs7 : w.heap.size ≤ (wq.alloc (.cells #[.slice ra rn rc] 24)).heap.size := M7.out.2.size
            have HS7 : Hid (w.heap.size ≤ (wq.alloc (.cells #[.slice ra rn rc] 24)).heap.size) := hs7
            have HZL : Hid (zs.length = rn) := by have h := RR.out.1; rw [ints_length] at h; show zs.length = rn; omega
            clear hs7
            go_wp2_with (at_builtin; refine App.wpList_append_all _ rfl _ _ 23 rfl w.heap.size 24 i0 (.slice none 0 0) 1 24 Try.underlying23 hi hz0 hz1 hz2 rfl (by decide) _ k _ rfl O7.out.outer _ 1 _ [.slice ra rn rc] rfl rfl NEW7.out (by simp [Value.oneCell']) (by unfold maxLen; omega) (by omega) HS7.out ?_)
            intro a9 c9 w9 hown9 hgrow9
            have O9 : Hid (OwnLs w9 w.heap.size a9 (k + 1) c9 (xs ++ [⟨ra, rn, rc, zs⟩])) := ls_push (r := ⟨ra, rn, rc, zs⟩) O7.out (own_base R7.out hs4) WF.out FAR7.out hgrow9 (by rw [lcells_append]; exact hown9)
            have B9 : Below w.heap.size (wq.alloc (.cells #[.slice ra rn rc] 24)) w9 := below_app (Below.refl _ _) O7.out.outer hgrow9 HS7.out (Nat.le_refl _)
            have M9 : Hid (Moved b (t + 8 + 8 * ((k + 1 : Nat) : Int)) w w9) := Moved.upon M7.out hbl B9
            have S9 : Hid (∀ r ∈ xs ++ [⟨ra, rn, rc, zs⟩], r.zs.length ≤ 3) := fun r hr => by
              rcases List.mem_append.1 hr with hr | hr
              · exact HS.out r hr
              · rw [List.mem_singleton.1 hr]; show zs.length ≤ 3; rw [HZL.out]; omega
            clear hown9 hgrow9 B9
            go_wp2
            go_roundw
            case rel => exact ⟨k + 1, a9, c9, _, by omega, by go_num, rfl, O9.out, S9.out, M9.out⟩
            case measure => simp [intOf]; omega
      · obtain rfl : k = N := by omega
        have HXL : Hid (xs.length = k) := HO.out.len
        by_cases hN0 : 0 < k
        · have hNI : ((k : Int) > 0) := by omega
          go_wp2_with fail
          refine (Cur.one b _ 30 _ HM.out.1 (by omega) (by omega) (by omega)).mono ?_
          rintro e w5 ⟨o5, rfl, hl5⟩
          have M5 : Hid (Moved b (t + 150) w w5) := Moved.mono (HM.out.next hl5) (by omega)
          have O5 : Hid (OwnLs w5 w.heap.size ga k gc xs) := ls_moved HO.out hbl hl5
          clear hl5
          cases o5
          · have F : Hid (LOwn w5 w.heap.size w5.heap.size (.slice ga k gc) (lplain xs)) := lOwn_of O5.out (few_total (by rw [HXL.out]; omega) HS.out)
            go_wp2_with fail
            go_ret
            exact ⟨_, _, rfl, F.out, by simp [lplain]; have := HXL.out; omega, M5.out⟩
          · cases xs with
            | nil => have := HXL.out; simp at this; omega
            | cons r xs =>
              obtain ⟨g, hga⟩ : ∃ g, ga = some ⟨g, 0, none⟩ := by
                rcases shape_of O5.out.outer with ⟨h, _⟩ | h
                · omega
                · exact h
              subst hga
              have O6 : Hid (OwnLs (w5.alloc (.cells #[.int .i64 (k : Int)] 3)) w.heap.size (some ⟨g, 0, none⟩) k gc (r :: xs)) := O5.out.below ((Below.refl _ _).alloc (Nat.le_refl _) _)
              have M6 : Hid (Moved b (t + 150) w (w5.alloc (.cells #[.int .i64 (k : Int)] 3))) := Moved.upon M5.out hbl ((Below.refl _ _).alloc M5.out.2.size _)
              have R6 : Hid ((w5.alloc (.cells #[.int .i64 (k : Int)] 3)).ownsRow w5.heap.size 3 1 (.slice (some ⟨w5.heap.size, 0, none⟩) 1 1) 1 (ints .i64 [(k : Int)])) := Glc.one_own w5 _ _ (Nat.le_refl _) rfl
              have hgw : w.heap.size ≤ g := (own_block O5.out.outer _ rfl).1
              have hput := OwnLs.put (xs := []) (ys := xs) (q := r) (r := ⟨some ⟨w5.heap.size, 0, none⟩, 1, 1, [(k : Int)]⟩) O6.out (own_base R6.out M5.out.2.size) (fun z hz => by rw [List.mem_singleton.1 hz]; exact int_wf _ (by omega) (by omega))
                (fun s hs => by cases hs) (fun s hs x y hx hy => by cases hx; have := (O5.out.lt s (by simp [hs]) y hy).2; show w5.heap.size ≠ y.block; omega) (fun x y hx hy => by cases hx; cases hy; have := (own_block O5.out.outer _ rfl).2; simp at this; show g ≠ w5.heap.size; omega)
              have O7 : Hid (OwnLs ((w5.alloc (.cells #[.int .i64 (k : Int)] 3)).setCell ⟨g, 0, none⟩ (.slice (some ⟨w5.heap.size, 0, none⟩) 1 1)) w.heap.size (some ⟨g, 0, none⟩) k gc (⟨some ⟨w5.heap.size, 0, none⟩, 1, 1, [(k : Int)]⟩ :: xs)) := hput
              have M7 : Hid (Moved b (t + 150) w ((w5.alloc (.cells #[.int .i64 (k : Int)] 3)).setCell ⟨g, 0, none⟩ (.slice (some ⟨w5.heap.size, 0, none⟩) 1 1))) := Moved.upon M6.out hbl ((Below.refl _ _).setCell (p := ⟨g, 0, none⟩) hgw _)
              obtain ⟨o0, ho0⟩ : ∃ o, (w5.alloc (.cells #[.int .i64 (k : Int)] 3)).cell? ⟨g, 0, none⟩ = some o := by rw [O6.out.outer.cellAt 0 (by omega)]; exact ⟨_, List.getElem?_eq_getElem (by rw [lcells_length]; simp)⟩
              have f0 := O6.out.outer.frozenAt 0
              have F : Hid (LOwn ((w5.alloc (.cells #[.int .i64 (k : Int)] 3)).setCell ⟨g, 0, none⟩ (.slice (some ⟨w5.heap.size, 0, none⟩) 1 1)) w.heap.size ((w5.alloc (.cells #[.int .i64 (k : Int)] 3)).setCell ⟨g, 0, none⟩ (.slice (some ⟨w5.heap.size, 0, none⟩) 1 1)).heap.size (.slice (some ⟨g, 0, none⟩) k gc) (lplain (⟨some ⟨w5.heap.size, 0, none⟩, 1, 1, [(k : Int)]⟩ :: xs))) := lOwn_of O7.out (few_total (by have := HXL.out; simp at this ⊢; omega) (fun s hs => by
                rcases List.mem_cons.1 hs with rfl | hs
                · show 1 ≤ 3; omega
                · exact HS.out s (by simp [hs])))
              clear hput
              go_wp2_with fail
              go_ret
              exact ⟨_, _, rfl, F.out, by simp [lplain]; have := HXL.out; simp at this; omega, M7.out⟩
        · obtain rfl : k = 0 := by omega
          have F : Hid (LOwn wk w.heap.size wk.heap.size (.slice ga 0 gc) (lplain xs)) := lOwn_of HO.out (few_total (by rw [HXL.out]; omega) HS.out)
          have M8 : Hid (Moved b (t + 150) w wk) := Moved.mono HM.out (by omega)
          go_wp2_with fail
          go_ret
          exact ⟨_, _, rfl, F.out, by simp [lplain]; have := HXL.out; omega, M8.out⟩
  · clear hn0 hn1
    go_wp2_with fail
    refine (Cur.pick b _ 2 _ (Moved.mono (t' := t + 6) M2.out (by omega)).1 (by omega) (by omega) (by omega)).mono ?_
    rintro e w3 ⟨n3, rfl, hn30, hn31, hl3⟩
    have M3 : Hid (Moved b (t + 8) w w3) := Moved.mono (M2.out.next hl3) (by omega)
    obtain ⟨K, rfl⟩ : ∃ K : Nat, n3 = (K : Int) := ⟨n3.toNat, by omega⟩
    have hK : K ≤ 1 := by omega
    clear hl3 hn30 hn31 M1 M2 H
    rename Hid (Moved b (t + 8) w w3) => M2
    rename World => w2
    go_wp2_with fail
    rw [show (12 + (K : Int)) = ((12 + K : Nat) : Int) by omega]
    obtain ⟨Q, hQ⟩ : ∃ Q, Q = 12 + K := ⟨_, rfl⟩
    rw [← hQ]
    have hQ13 : Q ≤ 13 := by omega
    clear hQ hK
    have O2 : Hid (OwnLs w2 w.heap.size none 0 0 []) := ⟨World.ownsRow_nil _ _ _ _, fun r hr => (by cases hr), fun r hr => (by cases hr), List.Pairwise.nil, fun r hr => (by cases hr)⟩
    go_loopw [4, 5] (fun vl vk wr => ∃ (k : Nat) (ga : Option Addr) (gc : Nat) (xs : List LV), k ≤ Q ∧ vk = .int .i64 k ∧ vl = .slice ga k gc ∧ OwnLs wr w.heap.size ga k gc xs ∧ (∀ r ∈ xs, r.zs.length ≤ 3) ∧ Moved b (t + 8 + 8 * k) w wr) (fun _ vk _ => Q - (intOf vk).toNat)
    case atStart => exact ⟨0, none, 0, [], Nat.zero_le _, rfl, rfl, O2.out, fun r hr => (by cases hr), Moved.mono M2.out (by omega)⟩
    case round =>
      obtain ⟨k, ga, gc, xs, hk, rfl, rfl, ho, hs, hm⟩ := hrel
      rename World => wk
      have HO : Hid (OwnLs wk w.heap.size ga k gc xs) := ho
      have HS : Hid (∀ r ∈ xs, r.zs.length ≤ 3) := hs
      have HM : Hid (Moved b (t + 8 + 8 * k) w wk) := hm
      clear ho hs hm O2
      by_cases hlt : k < Q
      · have hkI : (k : Int) < (Q : Int) := by omega
        go_wp2_with fail
        refine (Cur.pick b _ 3 _ HM.out.1 (by omega) (by omega) (by omega)).mono ?_
        rintro e w4 ⟨m0, rfl, hm0, hm1, hl4⟩
        obtain ⟨mm, rfl⟩ : ∃ mm : Nat, m0 = (mm : Int) := ⟨m0.toNat, by omega⟩
        have hmm : mm ≤ 2 := by omega
        have M4 : Hid (Moved b (t + 14 + 8 * k - 2 * mm) w w4) := Moved.mono (HM.out.next hl4) (by omega)
        have O4 : Hid (OwnLs w4 w.heap.size ga k gc xs) := ls_moved HO.out hbl hl4
        have hs4 : w.heap.size ≤ w4.heap.size := M4.out.2.size
        have R4 : Hid (w4.ownsRow w4.heap.size 3 1 (.slice none 0 0) 0 (ints .i64 [])) := World.ownsRow_nil _ _ _ _
        have B4 : Hid (Below w.heap.size w4 w4) := Below.refl _ _
        have FAR4 : Hid (∀ s ∈ xs, ∀ x, s.a = some x → x.block < w4.heap.size) := fun s hs x hx => (O4.out.lt s hs x hx).2
        clear hl4 hm0 hm1
        go_wp2_with fail
        go_loopw [6, 7] (fun vr vm wr => ∃ (q rn rc : Nat) (ra : Option Addr) (zs : List Int), q + rn ≤ 2 ∧ vm = .int .i64 q ∧ vr = .slice ra rn rc ∧ wr.ownsRow w4.heap.size 3 1 (.slice ra rn rc) rn (ints .i64 zs) ∧ (∀ z ∈ zs, (Lit.int .i64 z).wf = true) ∧ OwnLs wr w.heap.size ga k gc xs ∧ w4.heap.size ≤ wr.heap.size ∧ Moved b (t + 14 + 8 * k - 2 * q) w wr) (fun _ vm _ => (intOf vm).toNat)
        case atStart => exact ⟨mm, 0, 0, none, [], by omega, rfl, rfl, R4.out, fun z hz => (by cases hz), O4.out, Nat.le_refl _, M4.out⟩
        case round =>
          obtain ⟨q, rn, rc, ra, zs, hqr, rfl, rfl, hr, hw, ho, hsz0, hm⟩ := hrel
          rename World => wq
          have RR : Hid (wq.ownsRow w4.heap.size 3 1 (.slice ra rn rc) rn (ints .i64 zs)) := hr
          have WF : Hid (∀ z ∈ zs, (Lit.int .i64 z).wf = true) := hw
          have OQ : Hid (OwnLs wq w.heap.size ga k gc xs) := ho
          have hsz : Hid (w4.heap.size ≤ wq.heap.size) := hsz0
          clear hsz0
          have MQ : Hid (Moved b (t + 14 + 8 * k - 2 * q) w wq) := hm
          clear hr hw ho hm O4 R4 B4 M4
          by_cases hq0 : 0 < q
          · obtain ⟨p, rfl⟩ : ∃ p, q = p + 1 := ⟨q - 1, by omega⟩
            have hsq : w.heap.size ≤ wq.heap.size := MQ.out.2.size
            go_wp2_with fail
            refine (Cur.pick b _ (Q : Int) _ MQ.out.1 (by omega) (by omega) (by omega)).mono ?_
            rintro e w5 ⟨x, rfl, hx0, hx1, hl5⟩
            have M5 : Hid (Moved b (t + 14 + 8 * k - 2 * p) w w5) := Moved.mono (MQ.out.next hl5) (by omega)
            have R5 : Hid (w5.ownsRow w4.heap.size 3 1 (.slice ra rn rc) rn (ints .i64 zs)) := own_moved RR.out (by omega) hl5
            have O5 : Hid (OwnLs w5 w.heap.size ga k gc xs) := ls_moved OQ.out hbl hl5
            have XW : Hid ((Lit.int .i64 x).wf = true) := int_wf _ (by omega) (by omega)
            have Z5 : Hid (w4.heap.size ≤ w5.heap.size) := Nat.le_trans hsz.out hl5.2.size
            clear hl5
            go_wp2_with fail
            refine (Spo.spec_l1Put ra rn rc zs x _ (own_row R5.out WF.out) (shape_of R5.out) (by omega) XW.out).mono ?_
            rintro e w6 ⟨a6, m6, c6, rfl, hput, hb6⟩
            have hm6 : m6 ≤ rn + 1 := by rcases hput with ⟨_, h, _⟩ | ⟨_, h⟩ <;> omega
            have hs5 : w.heap.size ≤ w5.heap.size := M5.out.2.size
            have hB : (w4.heap.size : Nat) ≤ w5.heap.size ∨ (m6 = rn ∧ a6 = ra ∧ c6 = rc ∧ w6 = w5 ∧ Rel.putN x zs = zs) := by
              rcases hput with ⟨h1, h2, h3, h4, h5⟩ | ⟨h1, h2⟩
              · exact .inr ⟨h2, h1, h3, h4, h5⟩
              · exact .inl Z5.out
            have R6 : Hid (w6.ownsRow w4.heap.size 3 1 (.slice a6 m6 c6) m6 (ints .i64 (Rel.putN x zs))) := by
              rcases hB with hB | ⟨rfl, rfl, rfl, rfl, h5⟩
              · exact put_own R5.out hB hput
              · rw [h5]; exact R5.out
            have WF6 : Hid (∀ z ∈ Rel.putN x zs, (Lit.int .i64 z).wf = true) := fun z hz => by
              rcases Rel.mem_putN.1 hz with rfl | h
              · exact XW.out
              · exact WF.out z h
            have O6 : Hid (OwnLs w6 w.heap.size ga k gc xs) := O5.out.below hb6
            have Z6 : Hid (w4.heap.size ≤ w6.heap.size) := Nat.le_trans Z5.out hb6.size
            have M6 : Hid (Moved b (t + 14 + 8 * k - 2 * p) w w6) := Moved.upon M5.out hbl (hb6.mono hs5)
            clear hput hb6 hB RR OQ MQ
            go_wp2
            go_roundw
            case rel => exact ⟨p, m6, c6, a6, _, by omega, by go_num, rfl, R6.out, WF6.out, O6.out, Z6.out, M6.out⟩
            case measure => simp [intOf]
          · obtain rfl : q = 0 := by omega
            have hmI : ¬ ((0 : Nat) : Int) > 0 := by omega
            have M7 : Hid (Moved b (t + 8 + 8 * ((k + 1 : Nat) : Int)) w (wq.alloc (.cells #[.slice ra rn rc] 24))) := Moved.upon (Moved.mono MQ.out (by omega)) hbl ((Below.refl _ _).alloc MQ.out.2.size _)
            have O7 : Hid (OwnLs (wq.alloc (.cells #[.slice ra rn rc] 24)) w.heap.size ga k gc xs) := OQ.out.below ((Below.refl _ _).alloc (Nat.le_refl _) _)
            have R7 : Hid ((wq.alloc (.cells #[.slice ra rn rc] 24)).ownsRow w4.heap.size 3 1 (.slice ra rn rc) rn (ints .i64 zs)) := own_below RR.out ((Below.refl _ _).alloc (Nat.le_refl _) _)
            have NEW7 : Hid (0 < 1 → ∃ ad, (some ⟨wq.heap.size, 0, none⟩ : Option Addr) = some ad ∧ ∀ j u, ([.slice ra rn rc] : List Value)[j]? = some u → (wq.alloc (.cells #[.slice ra rn rc] 24)).cell? (ad.add j) = some u) := news_one wq _ _
            have FAR7 : Hid (∀ s ∈ xs, Far s.a ra) := fun s hs x y hx hy => by
              have h1 := FAR4.out s hs x hx
              have h2 := (own_block R7.out y hy).1
              omega
            have hs7 : w.heap.size ≤ (wq.alloc (.cells #[.slice ra rn rc] 24)).heap.size := M7.out.2.size
            have HS7 : Hid (w.heap.size ≤ (wq.alloc (.cells #[.slice ra rn rc] 24)).heap.size) := hs7
            have HZL : Hid (zs.length = rn) := by have h := RR.out.1; rw [ints_length] at h; show zs.length = rn; omega
            clear hs7
            go_wp2_with (at_builtin; refine App.wpList_append_all _ rfl _ _ 23 rfl w.heap.size 24 i0 (.slice none 0 0) 1 24 Try.underlying23 hi hz0 hz1 hz2 rfl (by decide) _ k _ rfl O7.out.outer _ 1 _ [.slice ra rn rc] rfl rfl NEW7.out (by simp [Value.oneCell']) (by unfold maxLen; omega) (by omega) HS7.out ?_)
            intro a9 c9 w9 hown9 hgrow9
            have O9 : Hid (OwnLs w9 w.heap.size a9 (k + 1) c9 (xs ++ [⟨ra, rn, rc, zs⟩])) := ls_push (r := ⟨ra, rn, rc, zs⟩) O7.out (own_base R7.out hs4) WF.out FAR7.out hgrow9 (by rw [lcells_append]; exact hown9)
            have B9 : Below w.heap.size (wq.alloc (.cells #[.slice ra rn rc] 24)) w9 := below_app (Below.refl _ _) O7.out.outer hgrow9 HS7.out (Nat.le_refl _)
            have M9 : Hid (Moved b (t + 8 + 8 * ((k + 1 : Nat) : Int)) w w9) := Moved.upon M7.out hbl B9
            have S9 : Hid (∀ r ∈ xs ++ [⟨ra, rn, rc, zs⟩], r.zs.length ≤ 3) := fun r hr => by
              rcases List.mem_append.1 hr with hr | hr
              · exact HS.out r hr
              · rw [List.mem_singleton.1 hr]; show zs.length ≤ 3; rw [HZL.out]; omega
            clear hown9 hgrow9 B9
            go_wp2
            go_roundw
            case rel => exact ⟨k + 1, a9, c9, _, by omega, by go_num, rfl, O9.out, S9.out, M9.out⟩
            case measure => simp [intOf]; omega
      · obtain rfl : k = Q := by omega
        have HXL : Hid (xs.length = k) := HO.out.len
        by_cases hN0 : 0 < k
        · have hNI : ((k : Int) > 0) := by omega
          go_wp2_with fail
          refine (Cur.one b _ 30 _ HM.out.1 (by omega) (by omega) (by omega)).mono ?_
          rintro e w5 ⟨o5, rfl, hl5⟩
          have M5 : Hid (Moved b (t + 150) w w5) := Moved.mono (HM.out.next hl5) (by omega)
          have O5 : Hid (OwnLs w5 w.heap.size ga k gc xs) := ls_moved HO.out hbl hl5
          clear hl5
          cases o5
          · have F : Hid (LOwn w5 w.heap.size w5.heap.size (.slice ga k gc) (lplain xs)) := lOwn_of O5.out (few_total (by rw [HXL.out]; omega) HS.out)
            go_wp2_with fail
            go_ret
            exact ⟨_, _, rfl, F.out, by simp [lplain]; have := HXL.out; omega, M5.out⟩
          · cases xs with
            | nil => have := HXL.out; simp at this; omega
            | cons r xs =>
              obtain ⟨g, hga⟩ : ∃ g, ga = some ⟨g, 0, none⟩ := by
                rcases shape_of O5.out.outer with ⟨h, _⟩ | h
                · omega
                · exact h
              subst hga
              have O6 : Hid (OwnLs (w5.alloc (.cells #[.int .i64 (k : Int)] 3)) w.heap.size (some ⟨g, 0, none⟩) k gc (r :: xs)) := O5.out.below ((Below.refl _ _).alloc (Nat.le_refl _) _)
              have M6 : Hid (Moved b (t + 150) w (w5.alloc (.cells #[.int .i64 (k : Int)] 3))) := Moved.upon M5.out hbl ((Below.refl _ _).alloc M5.out.2.size _)
              have R6 : Hid ((w5.alloc (.cells #[.int .i64 (k : Int)] 3)).ownsRow w5.heap.size 3 1 (.slice (some ⟨w5.heap.size, 0, none⟩) 1 1) 1 (ints .i64 [(k : Int)])) := Glc.one_own w5 _ _ (Nat.le_refl _) rfl
              have hgw : w.heap.size ≤ g := (own_block O5.out.outer _ rfl).1
              have hput := OwnLs.put (xs := []) (ys := xs) (q := r) (r := ⟨some ⟨w5.heap.size, 0, none⟩, 1, 1, [(k : Int)]⟩) O6.out (own_base R6.out M5.out.2.size) (fun z hz => by rw [List.mem_singleton.1 hz]; exact int_wf _ (by omega) (by omega))
                (fun s hs => by cases hs) (fun s hs x y hx hy => by cases hx; have := (O5.out.lt s (by simp [hs]) y hy).2; show w5.heap.size ≠ y.block; omega) (fun x y hx hy => by cases hx; cases hy; have := (own_block O5.out.outer _ rfl).2; simp at this; show g ≠ w5.heap.size; omega)
              have O7 : Hid (OwnLs ((w5.alloc (.cells #[.int .i64 (k : Int)] 3)).setCell ⟨g, 0, none⟩ (.slice (some ⟨w5.heap.size, 0, none⟩) 1 1)) w.heap.size (some ⟨g, 0, none⟩) k gc (⟨some ⟨w5.heap.size, 0, none⟩, 1, 1, [(k : Int)]⟩ :: xs)) := hput
              have M7 : Hid (Moved b (t + 150) w ((w5.alloc (.cells #[.int .i64 (k : Int)] 3)).setCell ⟨g, 0, none⟩ (.slice (some ⟨w5.heap.size, 0, none⟩) 1 1))) := Moved.upon M6.out hbl ((Below.refl _ _).setCell (p := ⟨g, 0, none⟩) hgw _)
              obtain ⟨o0, ho0⟩ : ∃ o, (w5.alloc (.cells #[.int .i64 (k : Int)] 3)).cell? ⟨g, 0, none⟩ = some o := by rw [O6.out.outer.cellAt 0 (by omega)]; exact ⟨_, List.getElem?_eq_getElem (by rw [lcells_length]; simp)⟩
              have f0 := O6.out.outer.frozenAt 0
              have F : Hid (LOwn ((w5.alloc (.cells #[.int .i64 (k : Int)] 3)).setCell ⟨g, 0, none⟩ (.slice (some ⟨w5.heap.size, 0, none⟩) 1 1)) w.heap.size ((w5.alloc (.cells #[.int .i64 (k : Int)] 3)).setCell ⟨g, 0, none⟩ (.slice (some ⟨w5.heap.size, 0, none⟩) 1 1)).heap.size (.slice (some ⟨g, 0, none⟩) k gc) (lplain (⟨some ⟨w5.heap.size, 0, none⟩, 1, 1, [(k : Int)]⟩ :: xs))) := lOwn_of O7.out (few_total (by have := HXL.out; simp at this ⊢; omega) (fun s hs => by
                rcases List.mem_cons.1 hs with rfl | hs
                · show 1 ≤ 3; omega
                · exact HS.out s (by simp [hs])))
              clear hput
              go_wp2_with fail
              go_ret
              exact ⟨_, _, rfl, F.out, by simp [lplain]; have := HXL.out; simp at this; omega, M7.out⟩
        · obtain rfl : k = 0 := by omega
          have F : Hid (LOwn wk w.heap.size wk.heap.size (.slice ga 0 gc) (lplain xs)) := lOwn_of HO.out (few_total (by rw [HXL.out]; omega) HS.out)
          have M8 : Hid (Moved b (t + 150) w wk) := Moved.mono HM.out (by omega)
          go_wp2_with fail
          go_ret
          exact ⟨_, _, rfl, F.out, by simp [lplain]; have := HXL.out; omega, M8.out⟩


end Go.Proofs.Ytkondmnkmbdncaa.Drl
