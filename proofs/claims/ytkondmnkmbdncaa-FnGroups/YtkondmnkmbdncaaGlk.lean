/-
  Contract of the model's Shrink.
-/
import Derived.Test.YtkondmnkmbdncaaGlg
import Derived.Test.YtkondmnkmbdncaaGlj
namespace Go.Proofs.Ytkondmnkmbdncaa.Glk
open Go.RowKit
open Go.Proofs.Ytkondmnkmbdncaa.Frame Go.Proofs.Ytkondmnkmbdncaa.Mem Go.Proofs.Ytkondmnkmbdncaa.Ints Go.Proofs.Ytkondmnkmbdncaa.Kep Go.Proofs.Ytkondmnkmbdncaa.Lls Go.Proofs.Ytkondmnkmbdncaa.Mis Go.Proofs.Ytkondmnkmbdncaa.Gpu Go.Proofs.Ytkondmnkmbdncaa.Gpb Go.Proofs.Ytkondmnkmbdncaa.Gpv Go.Proofs.Ytkondmnkmbdncaa.Gpw
open Go.Proofs.Ytkondmnkmbdncaa.Glb (own_row em_bool)
open Go.Proofs.Ytkondmnkmbdncaa.Glf (ls_push ownLs_base lOwn_nil)
open Go.Proofs.Ytkondmnkmbdncaa.Glg (shape_of)
open Go.Proofs.Ytkondmnkmbdncaa.Gld (row_of)
open Go.Proofs.Ytkondmnkmbdncaa.Knl hiding Ll
open Go.Proofs.Ytkondmnkmbdncaa.Rel

def hitL (b : Bool) (k : Int) (T : List Int) : List Int := bif b then putN k T else T
theorem up_hit {b : Bool} {k : Int} {T : List Int} (h : UpN T) : UpN (hitL b k T) := by cases b; exact h; exact up_putN h
theorem mem_hit {b : Bool} {k s : Int} {T : List Int} : s ∈ hitL b k T ↔ (b = true ∧ s = k) ∨ s ∈ T := by
  cases b
  · simp [hitL]
  · simp [hitL, mem_putN]
theorem put_hit {b : Bool} {k : Int} {T : List Int} (h : UpN T) : putN k (hitL b k T) = hitL true k T :=
  upN_told (up_putN (up_hit h)) (up_hit h) fun s => by
    rw [mem_putN, mem_hit, mem_hit]
    constructor
    · rintro (h | ⟨_, h⟩ | h)
      · exact .inl ⟨rfl, h⟩
      · exact .inl ⟨rfl, h⟩
      · exact .inr h
    · rintro (⟨_, h⟩ | h)
      · exact .inl h
      · exact .inr (.inr h)
theorem hit_or {b c : Bool} {k : Int} {T : List Int} (hc : c = false) : hitL (b || c) k T = hitL b k T := by rw [hc, Bool.or_false]
theorem hit_next {p : Int → Bool} {k : Nat} : hitL (p (k : Int)) (k : Int) ((numN k).filter p) = (numN (k + 1)).filter p :=
  upN_told (up_hit (up_filter (up_numN k) _)) (up_filter (up_numN _) _) fun s => by
    rw [mem_hit, List.mem_filter, List.mem_filter, mem_numN, mem_numN]
    constructor
    · rintro (⟨h1, rfl⟩ | ⟨h1, h2⟩)
      · exact ⟨by omega, h1⟩
      · exact ⟨by omega, h2⟩
    · rintro ⟨h1, h2⟩
      by_cases e : s = (k : Int)
      · subst e; exact .inl ⟨h2, rfl⟩
      · exact .inr ⟨by omega, h2⟩
theorem hit_few {b : Bool} {p : Int → Bool} {k : Nat} (hk : k < 12) : (hitL b (k : Int) ((numN k).filter p)).length ≤ 12 :=
  up_few (up_hit (up_filter (up_numN k) _)) fun z hz => by
    rcases mem_hit.1 hz with ⟨_, rfl⟩ | h
    · omega
    · have := mem_numN.1 (List.mem_filter.1 h).1
      omega
theorem hit_wf {b : Bool} {p : Int → Bool} {k : Nat} (hk : k < 12) : ∀ z ∈ hitL b (k : Int) ((numN k).filter p), (Lit.int .i64 z).wf = true := fun z hz => by
  refine numN_wf 12 (by omega) z (mem_numN.2 ?_)
  rcases mem_hit.1 hz with ⟨_, rfl⟩ | h
  · omega
  · have := mem_numN.1 (List.mem_filter.1 h).1
    omega

/-- A number is put to the list, whichever way it goes. -/
theorem put_own {base : Nat} {W W' : World} {ta a' : Option Addr} {tn tc m c' : Nat} {T T' : List Int} (h : W.ownsRow base 3 1 (.slice ta tn tc) tn (ints .i64 T)) (hB : base ≤ W.heap.size)
    (hp : (a' = ta ∧ m = tn ∧ c' = tc ∧ W' = W ∧ T' = T) ∨ (W'.ownsRow W.heap.size 3 1 (.slice a' m c') m (ints .i64 T') ∧ m ≤ tn + 1)) : W'.ownsRow base 3 1 (.slice a' m c') m (ints .i64 T') := by
  rcases hp with ⟨rfl, rfl, rfl, rfl, rfl⟩ | ⟨ho, _⟩
  · exact h
  · exact own_base ho hB

set_option maxRecDepth 8000 in
set_option maxHeartbeats 6400000 in
theorem spec_Shrink (v : Value) (xs : Ll) (w : World) (h : LIs w v xs) :
    Calls Try.prog 42 #[v] w fun e w' => ∃ u, e = .returned (.tuple #[u, .bool (goodG xs)]) ∧ LOwn w' w.heap.size w'.heap.size u (shrinkV xs) ∧ Below w.heap.size w w' := by
  obtain ⟨i0, hi, hz0, hz1, hz2⟩ := info_parts infoL
  obtain ⟨a, n, c, rs, rfl, hr, rfl, ht⟩ := h
  have H : Hid (LIs w (.slice a n c) (lplain rs)) := ⟨a, n, c, rs, rfl, hr, rfl, ht⟩
  have HI : Hid (IsLs w a n c rs) := hr
  have HL : Hid ((lplain rs).length = n) := by show _ = _; simp [lplain, hr.len]
  clear hr ht
  rcases em_bool (goodG (lplain rs)) with hg | hg
  · have HG : Hid (goodG (lplain rs) = false) := hg
    clear hg
    go_enter Try.func42, Try.ntmps42
    go_wp2_with fail
    refine (Gla.spec_GoodLinks _ _ _ H.out).mono ?_
    rintro e w' ⟨rfl, hw'⟩; have hw'' := hw'.symm; clear hw'; subst hw''
    rw [HG.out]
    go_wp2
    go_ret2
    refine ⟨_, by rw [HG.out]; rfl, ?_, Below.refl _ _⟩
    unfold shrinkV
    rw [HG.out]
    exact lOwn_nil _ _ _
  · have HG : Hid (goodG (lplain rs) = true) := hg
    have GP : Hid (GoodP (lplain rs)) := good_iff.1 hg
    clear hg
    go_enter Try.func42, Try.ntmps42
    go_wp2_with fail
    refine (Gla.spec_GoodLinks _ _ _ H.out).mono ?_
    rintro e w' ⟨rfl, hw'⟩; have hw'' := hw'.symm; clear hw'; subst hw''
    rw [HG.out]
    go_wp2_with fail
    refine (Glg.l9Groups a n c rs _ HI.out GP.out).mono ?_
    rintro e w1 ⟨sa, m, sc, rfl, ⟨qs, ho, hp⟩, hb⟩
    have B1 : Hid (Below w.heap.size w w1) := hb
    have FEW : Hid (m ≤ 12 ∧ ∀ r ∈ qs, r.n ≤ 12) := Glh.few_rows GP.out ho hp
    have INQ : Hid (∀ r ∈ qs, ∀ z ∈ r.zs, 0 ≤ z ∧ z < (n : Int)) := fun r hr z hz => by rw [← HL.out]; exact Glj.own_in ho hp r hr z hz
    have HP : Hid (lplain qs = groupsN (lplain rs)) := hp
    have HQL : Hid (qs.length = m) := ho.len
    have HGL : Hid ((groupsN (lplain rs)).length = m) := by show _ = _; rw [← hp, ← ho.len]; simp [lplain]
    have LS : Hid (IsLs w1 sa m sc qs) := ho.isLs
    have hm12 : m ≤ 12 := FEW.out.1
    have O1 : Hid (OwnLs w1 w1.heap.size none 0 0 []) := ⟨World.ownsRow_nil _ _ _ _, fun r hr => (by cases hr), fun r hr => (by cases hr), List.Pairwise.nil, fun r hr => (by cases hr)⟩
    clear ho hp hb
    go_wp2_with fail
    go_loopw [5, 22] (fun v5 vi wr => ∃ (i : Nat) (oa : Option Addr) (oc : Nat) (outs : List LV), i ≤ m ∧ vi = .int .i64 i ∧ v5 = .slice oa i oc ∧ OwnLs wr w1.heap.size oa i oc outs ∧ lplain outs = (List.range i).map (shrinkRow (lplain rs) (groupsN (lplain rs))) ∧ Below w1.heap.size w1 wr) (fun _ vi _ => m - (intOf vi).toNat)
    case atStart => exact ⟨0, none, 0, [], Nat.zero_le _, rfl, rfl, O1.out, rfl, Below.refl _ _⟩
    case round =>
      obtain ⟨i, oa, oc, outs, him, rfl, rfl, ho, hpl, hnx⟩ := hrel
      rename World => wi
      have HO : Hid (OwnLs wi w1.heap.size oa i oc outs) := ho
      have HPL : Hid (lplain outs = (List.range i).map (shrinkRow (lplain rs) (groupsN (lplain rs)))) := hpl
      have HN : Hid (Below w1.heap.size w1 wi) := hnx
      clear ho hpl hnx O1
      by_cases hlti : i < m
      · obtain ⟨b, off, rfl, hb, hc⟩ := LS.out.cells (by omega)
        have hil : i < qs.length := by rw [HQL.out]; exact hlti
        have p0 : wi.cell? ⟨b, off + i, none⟩ = some (.slice (qs.getD i ld).a (qs.getD i ld).n (qs.getD i ld).c) := by rw [HN.out.cell (p := ⟨b, off + i, none⟩) hb]; exact hc i hlti
        have hrow := LS.out.rows _ (getD_mem_ld hil)
        have hinq := INQ.out _ (getD_mem_ld hil)
        have HGI : Hid ((groupsN (lplain rs)).getD i [] = (qs.getD i ld).zs) := by show _ = _; rw [← HP.out]; exact lplain_get qs i hil
        have HBL : Hid (b < w1.heap.size ∧ ∀ k, k < m → w1.cell? ⟨b, off + k, none⟩ = some (.slice (qs.getD k ld).a (qs.getD k ld).n (qs.getD k ld).c)) := ⟨hb, hc⟩
        generalize qs.getD i ld = r at p0 hrow hinq HGI
        obtain ⟨ga, gn, gc, gz⟩ := r
        simp only at p0 hrow hinq HGI
        have HROW : Hid (IsRow .i64 w1 ga gn gc gz) := hrow
        have HGN : Hid (gz.length = gn) := hrow.len
        have HIN : Hid (∀ z ∈ gz, 0 ≤ z ∧ z < (n : Int)) := hinq
        have hgn : gn ≤ 9223372036854775807 := by have := hrow.fits; have := hrow.max; unfold maxLen at *; omega
        have hi0 : (0 : Int) ≤ (i : Int) := by omega
        have hinm : (i : Int) < (m : Int) := by omega
        obtain ⟨P, hPd, hPr⟩ : ∃ P : Int → Bool, (∀ k : Nat, P (k : Int) = (decide ((k : Int) ≠ (i : Int)) && leadB (lplain rs) gz ((groupsN (lplain rs)).getD k []))) ∧ (numN m).filter P = shrinkRow (lplain rs) (groupsN (lplain rs)) i := by
          refine ⟨fun k => decide (k ≠ (i : Int)) && leadB (lplain rs) gz ((groupsN (lplain rs)).getD k.toNat []), fun k => by show (decide ((k : Int) ≠ (i : Int)) && leadB (lplain rs) gz ((groupsN (lplain rs)).getD ((k : Int)).toNat [])) = _; rw [show ((k : Int)).toNat = k by omega], ?_⟩
          have h := row_as (lplain rs) (i := i) (by rw [HGL.out]; exact hlti)
          rw [HGL.out, HGI.out] at h
          exact h
        have PD : Hid (∀ k : Nat, P (k : Int) = (decide ((k : Int) ≠ (i : Int)) && leadB (lplain rs) gz ((groupsN (lplain rs)).getD k []))) := hPd
        have PR : Hid ((numN m).filter P = shrinkRow (lplain rs) (groupsN (lplain rs)) i) := hPr
        have T0 : Hid (wi.ownsRow wi.heap.size 3 1 (.slice none 0 0) 0 (ints .i64 ((numN 0).filter P))) := World.ownsRow_nil _ _ _ _
        clear hb hc hil hrow hinq hPd hPr
        go_wp2_with fail
        go_loopw [8, 29] (fun v8 vk wr => ∃ (k : Nat) (ta : Option Addr) (tn tc : Nat), k ≤ m ∧ vk = .int .i64 k ∧ v8 = .slice ta tn tc ∧ wr.ownsRow wi.heap.size 3 1 (.slice ta tn tc) tn (ints .i64 ((numN k).filter P)) ∧ Below wi.heap.size wi wr) (fun _ vk _ => m - (intOf vk).toNat)
        case atStart => exact ⟨0, none, 0, 0, Nat.zero_le _, rfl, rfl, T0.out, Below.refl _ _⟩
        case round =>
          obtain ⟨k, ta, tn, tc, hkm, rfl, rfl, ho, hnx⟩ := hrel
          rename World => wk
          have TO : Hid (wk.ownsRow wi.heap.size 3 1 (.slice ta tn tc) tn (ints .i64 ((numN k).filter P))) := ho
          have BI : Hid (Below wi.heap.size wi wk) := hnx
          have BK : Hid (Below w1.heap.size w1 wk) := Frame.next HN.out hnx HN.out.size
          clear ho hnx T0
          by_cases hltk : k < m
          · have hkl : k < qs.length := by rw [HQL.out]; exact hltk
            have p1 : wk.cell? ⟨b, off + k, none⟩ = some (.slice (qs.getD k ld).a (qs.getD k ld).n (qs.getD k ld).c) := by rw [BK.out.cell (p := ⟨b, off + k, none⟩) HBL.out.1]; exact HBL.out.2 k hltk
            have hrow := LS.out.rows _ (getD_mem_ld hkl)
            have HHK : Hid ((groupsN (lplain rs)).getD k [] = (qs.getD k ld).zs) := by show _ = _; rw [← HP.out]; exact lplain_get qs k hkl
            generalize qs.getD k ld = r at p1 hrow HHK
            obtain ⟨ha, hn, hc, hz⟩ := r
            simp only at p1 hrow HHK
            have HROWH : Hid (IsRow .i64 w1 ha hn hc hz) := hrow
            have PK : Hid (P (k : Int) = (decide ((k : Int) ≠ (i : Int)) && leadB (lplain rs) gz hz)) := by show _ = _; rw [PD.out, HHK.out]
            have T1 : Hid (wk.ownsRow wi.heap.size 3 1 (.slice ta tn tc) tn (ints .i64 (hitL (decide ((k : Int) ≠ (i : Int)) && leadB (lplain rs) (gz.take 0) hz) (k : Int) ((numN k).filter P)))) := by
              have e : hitL (decide ((k : Int) ≠ (i : Int)) && leadB (lplain rs) (gz.take 0) hz) (k : Int) ((numN k).filter P) = (numN k).filter P := by simp [leadB, hitL]
              show World.ownsRow _ _ _ _ _ _ _
              rw [e]; exact TO.out
            have hk0 : (0 : Int) ≤ (k : Int) := by omega
            have hkmI : (k : Int) < (m : Int) := by omega
            have hk12 : k < 12 := by omega
            clear hkl hrow
            go_wp2_with fail
            go_loopw [8, 36] (fun v8 vt wr => ∃ (t : Nat) (ta : Option Addr) (tn tc : Nat), t ≤ gn ∧ vt = .int .i64 t ∧ v8 = .slice ta tn tc ∧ wr.ownsRow wi.heap.size 3 1 (.slice ta tn tc) tn (ints .i64 (hitL (decide ((k : Int) ≠ (i : Int)) && leadB (lplain rs) (gz.take t) hz) (k : Int) ((numN k).filter P))) ∧ Below wi.heap.size wi wr) (fun _ vt _ => gn - (intOf vt).toNat)
            case atStart => exact ⟨0, ta, tn, tc, Nat.zero_le _, rfl, rfl, T1.out, BI.out⟩
            case round =>
              obtain ⟨t, ta2, tn2, tc2, htg, rfl, rfl, ho2, hnx2⟩ := hrel
              rename World => wt
              have TO2 : Hid (wt.ownsRow wi.heap.size 3 1 (.slice ta2 tn2 tc2) tn2 (ints .i64 (hitL (decide ((k : Int) ≠ (i : Int)) && leadB (lplain rs) (gz.take t) hz) (k : Int) ((numN k).filter P)))) := ho2
              have BI2 : Hid (Below wi.heap.size wi wt) := hnx2
              have BK2 : Hid (Below w1.heap.size w1 wt) := Frame.next HN.out hnx2 HN.out.size
              have BW2 : Hid (Below w.heap.size w wt) := Frame.next B1.out BK2.out B1.out.size
              clear ho2 hnx2 T1 p1
              by_cases hltt : t < gn
              · obtain ⟨b2, o2, rfl, hl2, hc2⟩ := (IsRow.below HROW.out BK2.out).cells (by omega)
                have p2 := hc2 t hltt
                have htl : t < gz.length := by rw [HGN.out]; exact hltt
                have hxin := HIN.out _ (getD_mem htl)
                have HLT : Hid (leadB (lplain rs) (gz.take (t + 1)) hz = (leadB (lplain rs) (gz.take t) hz || (gRow (lplain rs) (gz.getD t 0)).any fun y => decide (y ∈ hz))) := by
                  show _ = _
                  unfold leadB
                  rw [take_succ_getD htl, List.any_append]
                  simp
                generalize gz.getD t 0 = x at p2 hxin HLT
                obtain ⟨xn, rfl⟩ : ∃ xn : Nat, x = (xn : Int) := ⟨x.toNat, by omega⟩
                obtain ⟨b3, o3, ra, rn, rc, rz, rfl, p3, hrow3, hge⟩ := row_of HI.out (by omega : xn < n) BW2.out
                rw [hge] at HLT
                have HRZ : Hid (IsRow .i64 w ra rn rc rz) := hrow3
                have HRN : Hid (rz.length = rn) := hrow3.len
                have hrn : rn ≤ 9223372036854775807 := by have := hrow3.fits; have := hrow3.max; unfold maxLen at *; omega
                have T2 : Hid (wt.ownsRow wi.heap.size 3 1 (.slice ta2 tn2 tc2) tn2 (ints .i64 (hitL (decide ((k : Int) ≠ (i : Int)) && (leadB (lplain rs) (gz.take t) hz || (rz.take 0).any fun y => decide (y ∈ hz))) (k : Int) ((numN k).filter P)))) := by
                  show World.ownsRow _ _ _ _ _ _ _
                  rw [show (rz.take 0).any (fun y => decide (y ∈ hz)) = false from rfl, Bool.or_false]
                  exact TO2.out
                have hx0 : (0 : Int) ≤ (xn : Int) := by omega
                have hxn : (xn : Int) < (n : Int) := by omega
                have ht0 : (0 : Int) ≤ (t : Int) := by omega
                have htgI : (t : Int) < (gn : Int) := by omega
                clear hl2 hc2 htl hxin hrow3 hge
                go_wp2_with fail
                go_loopw [8, 45] (fun v8 vs wr => ∃ (s : Nat) (ta : Option Addr) (tn tc : Nat), s ≤ rn ∧ vs = .int .i64 s ∧ v8 = .slice ta tn tc ∧ wr.ownsRow wi.heap.size 3 1 (.slice ta tn tc) tn (ints .i64 (hitL (decide ((k : Int) ≠ (i : Int)) && (leadB (lplain rs) (gz.take t) hz || (rz.take s).any fun y => decide (y ∈ hz))) (k : Int) ((numN k).filter P))) ∧ Below wi.heap.size wi wr) (fun _ vs _ => rn - (intOf vs).toNat)
                case atStart => exact ⟨0, ta2, tn2, tc2, Nat.zero_le _, rfl, rfl, T2.out, BI2.out⟩
                case round =>
                  obtain ⟨s, ta3, tn3, tc3, hsr, rfl, rfl, ho3, hnx3⟩ := hrel
                  rename World => ws
                  have TO3 : Hid (ws.ownsRow wi.heap.size 3 1 (.slice ta3 tn3 tc3) tn3 (ints .i64 (hitL (decide ((k : Int) ≠ (i : Int)) && (leadB (lplain rs) (gz.take t) hz || (rz.take s).any fun y => decide (y ∈ hz))) (k : Int) ((numN k).filter P)))) := ho3
                  have BI3 : Hid (Below wi.heap.size wi ws) := hnx3
                  have BK3 : Hid (Below w1.heap.size w1 ws) := Frame.next HN.out hnx3 HN.out.size
                  have BW3 : Hid (Below w.heap.size w ws) := Frame.next B1.out BK3.out B1.out.size
                  have htn3 : tn3 ≤ 12 := by
                    have h1 := ho3.1
                    rw [ints_length] at h1
                    have h2 := hit_few (b := decide ((k : Int) ≠ (i : Int)) && (leadB (lplain rs) (gz.take t) hz || (rz.take s).any fun y => decide (y ∈ hz))) (p := P) hk12
                    omega
                  clear ho3 hnx3 T2 p2 p3
                  by_cases hlts : s < rn
                  · obtain ⟨b4, o4, rfl, hl4, hc4⟩ := (IsRow.below HRZ.out BW3.out).cells (by omega)
                    have p4 := hc4 s hlts
                    have hsl : s < rz.length := by rw [HRN.out]; exact hlts
                    have HAN : Hid ((rz.take (s + 1)).any (fun y => decide (y ∈ hz)) = ((rz.take s).any (fun y => decide (y ∈ hz)) || decide (rz.getD s 0 ∈ hz))) := by
                      show _ = _
                      rw [take_succ_getD hsl, List.any_append]
                      simp
                    generalize rz.getD s 0 = y at p4 HAN
                    have hs0 : (0 : Int) ≤ (s : Int) := by omega
                    have hsrI : (s : Int) < (rn : Int) := by omega
                    clear hl4 hc4 hsl
                    by_cases hki : k = i
                    · have hb1 : ((k : Int) != (i : Int)) = false := by rw [hki]; simp
                      have F : Hid (ws.ownsRow wi.heap.size 3 1 (.slice ta3 tn3 tc3) tn3 (ints .i64 (hitL (decide ((k : Int) ≠ (i : Int)) && (leadB (lplain rs) (gz.take t) hz || (rz.take (s + 1)).any fun y => decide (y ∈ hz))) (k : Int) ((numN k).filter P)))) := by
                        have h := TO3.out
                        have e : decide ((k : Int) ≠ (i : Int)) = false := decide_eq_false (by omega)
                        rw [e, Bool.false_and] at h ⊢
                        exact h
                      clear hki
                      go_wp2_with fail
                      go_roundw
                      case rel => exact ⟨s + 1, ta3, tn3, tc3, by omega, by go_num, rfl, F.out, BI3.out⟩
                      case measure => simp [intOf]; omega
                    · have hb1 : ((k : Int) != (i : Int)) = true := by rw [bne_iff_ne]; omega
                      have e1 : decide ((k : Int) ≠ (i : Int)) = true := decide_eq_true (by omega)
                      have E1 : Hid (decide ((k : Int) ≠ (i : Int)) = true) := e1
                      have RH : Hid (IsRow .i64 ws ha hn hc hz) := IsRow.below HROWH.out BK3.out
                      clear hki e1
                      go_wp2_with fail
                      refine (Ihl.l1Has _ _ _ hz y _ RH.out).mono ?_
                      rintro e w' ⟨rfl, hw'⟩; have hw'' := hw'.symm; clear hw'; subst hw''
                      rcases em_bool (decide (y ∈ hz)) with hv | hv
                      · have F : Hid (ws.ownsRow wi.heap.size 3 1 (.slice ta3 tn3 tc3) tn3 (ints .i64 (hitL (decide ((k : Int) ≠ (i : Int)) && (leadB (lplain rs) (gz.take t) hz || (rz.take (s + 1)).any fun y => decide (y ∈ hz))) (k : Int) ((numN k).filter P)))) := by
                          show World.ownsRow _ _ _ _ _ _ _
                          rw [HAN.out, hv, Bool.or_false]
                          exact TO3.out
                        rw [hv]
                        clear hv HAN
                        go_wp2_with fail
                        go_roundw
                        case rel => exact ⟨s + 1, ta3, tn3, tc3, by omega, by go_num, rfl, F.out, BI3.out⟩
                        case measure => simp [intOf]; omega
                      · have HIT : Hid (hitL (decide ((k : Int) ≠ (i : Int)) && (leadB (lplain rs) (gz.take t) hz || (rz.take (s + 1)).any fun y => decide (y ∈ hz))) (k : Int) ((numN k).filter P) = putN (k : Int) (hitL (decide ((k : Int) ≠ (i : Int)) && (leadB (lplain rs) (gz.take t) hz || (rz.take s).any fun y => decide (y ∈ hz))) (k : Int) ((numN k).filter P))) := by
                          show _ = _
                          rw [put_hit (up_filter (up_numN k) _), HAN.out, hv, E1.out, Bool.or_true, Bool.or_true, Bool.true_and]
                        rw [hv]
                        clear hv HAN
                        go_wp2_with fail
                        refine (Spo.spec_l1Put ta3 tn3 tc3 _ (k : Int) _ (own_row TO3.out (hit_wf hk12)) (shape_of TO3.out) (by omega) (int_wf _ (by omega) (by omega))).mono ?_
                        rintro e w5 ⟨a5, m5, c5, rfl, hput, hb5⟩
                        have F : Hid (w5.ownsRow wi.heap.size 3 1 (.slice a5 m5 c5) m5 (ints .i64 (hitL (decide ((k : Int) ≠ (i : Int)) && (leadB (lplain rs) (gz.take t) hz || (rz.take (s + 1)).any fun y => decide (y ∈ hz))) (k : Int) ((numN k).filter P)))) := by
                          show World.ownsRow _ _ _ _ _ _ _
                          rw [HIT.out]
                          exact put_own TO3.out BI3.out.size hput
                        have BI5 : Hid (Below wi.heap.size wi w5) := Frame.next BI3.out hb5 BI3.out.size
                        clear hput hb5 p4 RH HIT
                        go_wp2_with fail
                        go_roundw
                        case rel => exact ⟨s + 1, a5, m5, c5, by omega, by go_num, rfl, F.out, BI5.out⟩
                        case measure => simp [intOf]; omega
                  · obtain rfl : s = rn := by omega
                    have F : Hid (ws.ownsRow wi.heap.size 3 1 (.slice ta3 tn3 tc3) tn3 (ints .i64 (hitL (decide ((k : Int) ≠ (i : Int)) && leadB (lplain rs) (gz.take (t + 1)) hz) (k : Int) ((numN k).filter P)))) := by
                      have h := TO3.out
                      have e0 : rz.take s = rz := List.take_of_length_le (by rw [HRN.out]; omega)
                      rw [e0] at h
                      show World.ownsRow _ _ _ _ _ _ _
                      rw [HLT.out]
                      exact h
                    go_wp2
                    go_roundw
                    case rel => exact ⟨t + 1, ta3, tn3, tc3, by omega, by go_num, rfl, F.out, BI3.out⟩
                    case measure => simp [intOf]; omega
              · obtain rfl : t = gn := by omega
                have F : Hid (wt.ownsRow wi.heap.size 3 1 (.slice ta2 tn2 tc2) tn2 (ints .i64 ((numN (k + 1)).filter P))) := by
                  have h := TO2.out
                  rw [List.take_of_length_le (by rw [HGN.out]; omega), ← PK.out, hit_next] at h
                  exact h
                go_wp2
                go_roundw
                case rel => exact ⟨k + 1, ta2, tn2, tc2, by omega, by go_num, rfl, F.out, BI2.out⟩
                case measure => simp [intOf]; omega
          · obtain rfl : k = m := by omega
            have TF : Hid (wk.ownsRow wi.heap.size 3 1 (.slice ta tn tc) tn (ints .i64 (shrinkRow (lplain rs) (groupsN (lplain rs)) i))) := by have h := TO.out; rwa [PR.out] at h
            have B8 : Hid (Below wi.heap.size wi (wk.alloc (.cells #[.slice ta tn tc] 24))) := BI.out.alloc BI.out.size _
            have O8 : Hid (OwnLs (wk.alloc (.cells #[.slice ta tn tc] 24)) w1.heap.size oa i oc outs) := HO.out.below B8.out
            have T8 : Hid ((wk.alloc (.cells #[.slice ta tn tc] 24)).ownsRow wi.heap.size 3 1 (.slice ta tn tc) tn (ints .i64 (shrinkRow (lplain rs) (groupsN (lplain rs)) i))) := own_below TF.out ((Below.refl _ _).alloc (Nat.le_refl _) _)
            have N8 : Hid (Below w1.heap.size w1 (wk.alloc (.cells #[.slice ta tn tc] 24))) := Frame.next HN.out B8.out HN.out.size
            have NEW8 : Hid (0 < 1 → ∃ ad, (some ⟨wk.heap.size, 0, none⟩ : Option Addr) = some ad ∧ ∀ j u, ([.slice ta tn tc] : List Value)[j]? = some u → (wk.alloc (.cells #[.slice ta tn tc] 24)).cell? (ad.add j) = some u) := news_one wk _ _
            have FAR8 : Hid (∀ s ∈ outs, Far s.a ta) := fun s hs x y hx hy => by
              have h1 := (HO.out.lt s hs x hx).2
              have h2 := (own_block TF.out y hy).1
              omega
            clear TO
            go_wp2_with (at_builtin; refine App.wpList_append_all _ rfl _ _ 23 rfl w1.heap.size 24 i0 (.slice none 0 0) 1 24 Try.underlying23 hi hz0 hz1 hz2 rfl (by decide) _ i _ rfl O8.out.outer _ 1 _ [.slice ta tn tc] rfl rfl NEW8.out (by simp [Value.oneCell']) (by unfold maxLen; omega) (by omega) N8.out.size ?_)
            intro a9 c9 w9 hown9 hgrow9
            have O9 : Hid (OwnLs w9 w1.heap.size a9 (i + 1) c9 (outs ++ [⟨ta, tn, tc, shrinkRow (lplain rs) (groupsN (lplain rs)) i⟩])) := ls_push (r := ⟨ta, tn, tc, shrinkRow (lplain rs) (groupsN (lplain rs)) i⟩) O8.out (own_base T8.out HN.out.size) (fun z hz => numN_wf i (by omega) z (List.mem_filter.1 hz).1) FAR8.out hgrow9 (by rw [lcells_append]; exact hown9)
            have N9 : Hid (Below w1.heap.size w1 w9) := below_app N8.out O8.out.outer hgrow9 N8.out.size (Nat.le_refl _)
            clear hown9 hgrow9
            go_wp2
            go_roundw
            case rel => exact ⟨i + 1, a9, c9, _, by omega, by go_num, rfl, O9.out, by rw [List.range_succ, List.map_append, ← HPL.out]; simp [lplain], N9.out⟩
            case measure => simp [intOf]; omega
      · obtain rfl : i = m := by omega
        have BB : Hid (Below w.heap.size w wi) := Frame.next B1.out HN.out B1.out.size
        have F : Hid (LOwn wi w.heap.size wi.heap.size (.slice oa i oc) (shrinkV (lplain rs))) := by
          have e : lplain outs = shrinkN (lplain rs) := by
            rw [HPL.out]
            unfold shrinkN
            rw [HGL.out]
          show LOwn _ _ _ _ _
          unfold shrinkV
          rw [HG.out]
          have h := lOwn_of (ownLs_base HO.out B1.out.size) (by rw [e]; have := shrink_total GP.out; unfold ltotal; omega)
          rwa [e] at h
        go_wp2
        go_ret2
        exact ⟨_, by rw [HG.out]; rfl, F.out, BB.out⟩


end Go.Proofs.Ytkondmnkmbdncaa.Glk
