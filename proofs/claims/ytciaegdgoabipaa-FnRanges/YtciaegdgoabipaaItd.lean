/-
  Contract of the program's SetColumn.
-/
import Derived.Test.YtciaegdgoabipaaItc
namespace Go.Proofs.Ytciaegdgoabipaa.Itd
open Go.RowKit Go.Maps Go.Sort
open Go.Proofs.Ytciaegdgoabipaa.Frame Go.Proofs.Ytciaegdgoabipaa.Mem Go.Proofs.Ytciaegdgoabipaa.Vals Go.Proofs.Ytciaegdgoabipaa.Rws Go.Proofs.Ytciaegdgoabipaa.Val Go.Proofs.Ytciaegdgoabipaa.Tab Go.Proofs.Ytciaegdgoabipaa.Reg Go.Proofs.Ytciaegdgoabipaa.Gtab Go.Proofs.Ytciaegdgoabipaa.Cpy Go.Proofs.Ytciaegdgoabipaa.Own Go.Proofs.Ytciaegdgoabipaa.Drp Go.Proofs.Ytciaegdgoabipaa.Tel Go.Proofs.Ytciaegdgoabipaa.Find Go.Proofs.Ytciaegdgoabipaa.Shf Go.Proofs.Ytciaegdgoabipaa.Icp Go.Proofs.Ytciaegdgoabipaa.Ig Go.Proofs.Ytciaegdgoabipaa.Sht Go.Proofs.Ytciaegdgoabipaa.Shl Go.Proofs.Ytciaegdgoabipaa.Pur Go.Proofs.Ytciaegdgoabipaa.Itb

theorem vcells_set (vs : List (Bool × Int)) (c : Nat) (x : Bool × Int) (h : c < vs.length) : ((vcells vs).set (c * 2) (.bool x.1)).set (c * 2 + 1) (.int .i64 x.2) = vcells (vs.set c x) := by
  induction vs generalizing c with
  | nil => simp at h
  | cons v vs ih =>
    have e : vcells (v :: vs) = .bool v.1 :: .int .i64 v.2 :: vcells vs := by simp [vcells]
    rw [e]
    cases c with
    | zero => simp [vcells]
    | succ c =>
      have h1 : (c + 1) * 2 = c * 2 + 1 + 1 := by omega
      rw [h1]
      simp only [List.set_cons_succ]
      rw [ih c (by simpa using h)]
      simp [vcells]

def setR (key : Int) (c : Nat) (x : Bool × Int) (r : RowV) : RowV := ⟨r.key, r.a, r.n, r.c, if r.key = key then r.vs.set c x else r.vs⟩
def setK (key : Int) (c : Nat) (x : Bool × Int) (rs : List RowV) : List RowV := rs.map (setR key c x)
def setB (key col : Int) (x : Bool × Int) (rs : List RowV) : Bool := hasB key rs && (inB col 0 2 && gv x)
def setV (key col : Int) (x : Bool × Int) (rs : List RowV) : List (Int × List (Bool × Int)) := if setB key col x rs then plain (setK key col.toNat x rs) else []

theorem plain_setK (key : Int) (c : Nat) (x : Bool × Int) (rs : List RowV) : plain (setK key c x rs) = (plain rs).map fun y => (y.1, if y.1 = key then y.2.set c x else y.2) := by
  simp [plain, setK, setR, Function.comp_def]

theorem setK_plain {qs rs : List RowV} (key : Int) (c : Nat) (x : Bool × Int) (h : plain qs = plain rs) : plain (setK key c x qs) = plain (setK key c x rs) := by
  rw [plain_setK, plain_setK, h]

theorem shelf_setK (key : Int) (c : Nat) (x : Bool × Int) (rs : List RowV) : shelf (setK key c x rs) = shelf rs := by
  simp [shelf, setK, setR, ent, rowVal, Function.comp_def]

theorem mem_set_wf {vs : List (Bool × Int)} {c : Nat} {x : Bool × Int} {p : Bool × Int → Prop} (h : ∀ v ∈ vs, p v) (hx : p x) : ∀ v ∈ vs.set c x, p v := by
  intro v hv
  rcases List.mem_or_eq_of_mem_set hv with h1 | h1
  · exact h v h1
  · rw [h1]; exact hx

theorem goodT_setK {rs : List RowV} (key : Int) (c : Nat) (x : Bool × Int) (h : goodT rs = true) (hx : gv x = true) : goodT (setK key c x rs) = true := by
  obtain ⟨h1, h2, h3⟩ := goodT_rising h
  refine goodT_of ?_ ?_ (by simpa [setK] using h3)
  · exact List.pairwise_map.2 (h1.imp fun {a b} hab => hab)
  · intro r hr
    obtain ⟨q, hq, rfl⟩ := List.mem_map.1 hr
    have := h2 q hq
    unfold rB rowB setR at *
    simp only [Bool.and_eq_true, decide_eq_true_eq, List.all_eq_true] at this ⊢
    split
    · exact ⟨mem_set_wf this.1 hx, this.2.1, by rw [List.length_set]; exact this.2.2⟩
    · exact this

theorem pairwise_far {qs : List RowV} (h : qs.Pairwise fun r s => Far r.a s.a) {r s : RowV} (hr : r ∈ qs) (hs : s ∈ qs) (hne : r ≠ s) : Far r.a s.a := by
  induction qs with
  | nil => cases hr
  | cons q qs ih =>
    obtain ⟨h1, h2⟩ := List.pairwise_cons.1 h
    rcases List.mem_cons.1 hr with e1 | hr'
    · rcases List.mem_cons.1 hs with e2 | hs'
      · exact absurd (e1.trans e2.symm) hne
      · rw [e1]; exact h1 s hs'
    · rcases List.mem_cons.1 hs with e2 | hs'
      · rw [e2]; exact (h1 r hr').symm
      · exact ih h2 hr' hs'

theorem OwnShelf.set {w : World} {base b m g c : Nat} {qs : List RowV} {r : RowV} {x : Bool × Int} (h : OwnShelf w base b m qs) (hr : r ∈ qs) (hg : r.a = some ⟨g, 0, none⟩) (hc : c < r.vs.length) (hx : (Lit.int .i64 x.2).wf = true) :
    OwnShelf ((w.setCell ⟨g, c * 2, none⟩ (.bool x.1)).setCell ⟨g, c * 2 + 1, none⟩ (.int .i64 x.2)) base b m (setK r.key c x qs) := by
  have hin := h.inner r hr
  rw [hg] at hin
  have hne : b ≠ g := fun e => by have := ne_map h.map hin g (by simp [Value.ownBlock]); exact this (by rw [e])
  have hot : OnlyAt (some ⟨g, 0, none⟩) w ((w.setCell ⟨g, c * 2, none⟩ (.bool x.1)).setCell ⟨g, c * 2 + 1, none⟩ (.int .i64 x.2)) := ((OnlyAt.refl _ w).setCell (fun y hy => by cases hy; rfl) (by simp) _).setCell (fun y hy => by cases hy; rfl) (by simp) _
  have hst := ((hin.stored (c * 2) (.bool x.1)).1.stored (c * 2 + 1) (.int .i64 x.2)).1
  rw [vcells_set _ _ _ hc] at hst
  refine ⟨?_, h.low, fun q hq => ?_, fun q hq => ?_, ?_, ?_⟩
  · rw [shelf_setK]
    exact (h.map.setCell (a := ⟨g, c * 2, none⟩) hne _).setCell (a := ⟨g, c * 2 + 1, none⟩) hne _
  · obtain ⟨s, hs, rfl⟩ := List.mem_map.1 hq
    by_cases e : s.key = r.key
    · obtain rfl := rising_same h.rising hs hr e
      simp only [setR, if_true]
      rw [hg]
      exact hst
    · simp only [setR, if_neg e]
      refine own_touch (h.inner s hs) hot (fun y z hy hz => ?_)
      cases hz
      have hp : Far s.a r.a := by
        have hpw := h.apart
        have : s ≠ r := fun e' => e (by rw [e'])
        exact (pairwise_far hpw hs hr this)
      exact hp y _ hy hg
  · obtain ⟨s, hs, rfl⟩ := List.mem_map.1 hq
    refine ⟨(h.wf s hs).1, ?_⟩
    simp only [setR]
    split
    · exact mem_set_wf (h.wf s hs).2 hx
    · exact (h.wf s hs).2
  · exact List.pairwise_map.2 h.apart
  · exact List.pairwise_map.2 h.rising

theorem field_cols (k : Int) (a : Option Addr) (n c : Nat) (w : World) : (Instr.field 26 (.agg #[.int .i64 k, .slice a n c]) 1).run Try.prog w = .ok (.slice a n c) w := by kernel_rfl

theorem impl_isColumn (c : Int) (w : World) : Calls Try.prog 63 #[.int .i64 c] w fun e w' => e = .returned (.bool (inB c 0 2)) ∧ w' = w := by
  by_cases h0 : 0 ≤ c
  · by_cases h2 : c < 3
    · have e : inB c 0 2 = true := by unfold inB; simp; omega
      rw [e]
      go_enter Try.func63, Try.ntmps63
      go_wp2
      go_ret
      exact ⟨rfl, rfl⟩
    · have e : inB c 0 2 = false := by unfold inB; simp; omega
      rw [e]
      go_enter Try.func63, Try.ntmps63
      go_wp2
      go_ret
      exact ⟨rfl, rfl⟩
  · have e : inB c 0 2 = false := by unfold inB; simp; omega
    rw [e]
    go_enter Try.func63, Try.ntmps63
    go_wp2
    go_ret
    exact ⟨rfl, rfl⟩

set_option maxRecDepth 100000 in
set_option maxHeartbeats 1000000 in
theorem impl_SetColumn (a : Option Addr) (n cap : Nat) (rs : List RowV) (key col : Int) (vb : Bool) (vn : Int) (w : World) (h : IsRows w a n cap rs) (hn : n ≤ 1048576) (hv : ∀ r ∈ rs, r.n ≤ 1048576) (hk : (Lit.int .i64 key).wf = true) (hx : (Lit.int .i64 vn).wf = true) :
    Calls Try.prog 26 #[.slice a n cap, .int .i64 key, .int .i64 col, .agg #[.bool vb, .int .i64 vn]] w (Tel.Told (setV key col (vb, vn) rs) (setB key col (vb, vn) rs) w) := by
  have HI : Hid (IsRows w a n cap rs) := h
  have HV : Hid (∀ r ∈ rs, r.n ≤ 1048576) := hv
  have HK : Hid (keyOf Try.prog 3 (.int .i64 key) = some (.int .i64 key)) := key_of hk
  have HW : Hid ((Lit.int .i64 key).wf = true) := hk
  have HWX : Hid ((Lit.int .i64 vn).wf = true) := hx
  have B0 : Hid (Below w.heap.size w (w.alloc (.cells #[.bool vb, .int .i64 vn] 45))) := (Below.refl _ _).alloc (Nat.le_refl _) _
  clear h hv hk hx
  go_enter Try.func26, Try.ntmps26
  go_wp2_with fail
  refine (impl_shelved a n cap rs _ (HI.out.below B0.out) hn HV.out).mono ?_
  rintro e w1 ⟨h1, hb1⟩
  have HB1 : Hid (Below w.heap.size w w1) := Frame.next B0.out hb1 B0.out.size
  have hs1 : w.heap.size + 1 ≤ w1.heap.size := by simpa using hb1.size
  have c0 : w1.cell? ⟨w.heap.size, 0, none⟩ = some (.bool vb) := by rw [hb1.cell (p := ⟨w.heap.size, 0, none⟩) (by simp), World.cell?_alloc_at _ _ _ _ rfl]; rfl
  have c1 : w1.cell? ⟨w.heap.size, 1, none⟩ = some (.int .i64 vn) := by rw [hb1.cell (p := ⟨w.heap.size, 1, none⟩) (by simp), World.cell?_alloc_at _ _ _ _ rfl]; rfl
  clear hb1
  rcases h1 with ⟨hg, rfl⟩ | ⟨hg, b, m, qs, rfl, hm, hp, ho⟩
  · have F : Hid (setV key col (vb, vn) rs = [] ∧ setB key col (vb, vn) rs = false) := by show _ ∧ _; unfold setV setB hasB; rw [hg]; exact ⟨rfl, rfl⟩
    clear hg
    go_wp2
    go_ret2
    rw [F.out.1, F.out.2]
    exact told_no HB1.out
  · have HO : Hid (OwnShelf w1 (w.heap.size + 1) b m qs) := by have := ho; rwa [World.size_alloc] at this
    have HP : Hid (plain qs = plain rs) := hp
    have HGQ : Hid (goodT qs = true) := by show _ = _; rw [goodT_plain hp]; exact hg
    have hl : qs.length ≤ 20 := by rw [length_plain hp]; exact (goodT_rising hg).2.2
    have HVQ : Hid (∀ r ∈ qs, r.n ≤ 1048576) := shelf_n HI.out HV.out hp ho
    have HA : Hid (hasB key rs = qs.any fun r => decide (r.key = key)) := by show _ = _; unfold hasB; rw [hg, any_plain hp key]; rfl
    have C : Hid (w1.cell? ⟨w.heap.size, 0, none⟩ = some (.bool vb) ∧ w1.cell? ⟨w.heap.size, 1, none⟩ = some (.int .i64 vn)) := ⟨c0, c1⟩
    clear hg hp ho c0 c1
    go_wp2_with fail
    refine (impl_stands _ b m qs key w1 HO.out HW.out).mono ?_
    rintro e w2 ⟨rfl, hb2⟩
    have HB2 : Hid (Below w.heap.size w w2) := Frame.next HB1.out hb2 HB1.out.size
    have HO2 : Hid (OwnShelf w2 (w.heap.size + 1) b m qs) := HO.out.below hb2
    have c0 : w2.cell? ⟨w.heap.size, 0, none⟩ = some (.bool vb) := ((Frame.bcell hb2).1 _ _ (by omega)).trans C.out.1
    have c1 : w2.cell? ⟨w.heap.size, 1, none⟩ = some (.int .i64 vn) := ((Frame.bcell hb2).1 _ _ (by omega)).trans C.out.2
    have hs2 : w.heap.size + 1 ≤ w2.heap.size := Nat.le_trans hs1 hb2.size
    clear hb2
    cases hq : qs.any fun r => decide (r.key = key)
    · have F : Hid (setV key col (vb, vn) rs = [] ∧ setB key col (vb, vn) rs = false) := by show _ ∧ _; unfold setV setB; rw [HA.out, hq]; exact ⟨rfl, rfl⟩
      clear hq
      go_wp2
      go_ret2
      rw [F.out.1, F.out.2]
      exact told_no HB2.out
    · have HQ : Hid ((qs.any fun r => decide (r.key = key)) = true) := hq
      obtain ⟨r, hr, hrk⟩ := any_key hq
      have HAR : Hid (hasB key rs = true) := HA.out.trans hq
      clear hq
      go_wp2_with fail
      refine (impl_isColumn col w2).mono ?_
      rintro e w' ⟨rfl, rfl⟩
      cases hc : inB col 0 2
      · have F : Hid (setV key col (vb, vn) rs = [] ∧ setB key col (vb, vn) rs = false) := by show _ ∧ _; unfold setV setB; rw [HAR.out, hc]; exact ⟨rfl, rfl⟩
        clear hc
        go_wp2
        go_ret2
        rw [F.out.1, F.out.2]
        exact told_no HB2.out
      · have hc2 : 0 ≤ col ∧ col ≤ 2 := of_decide_eq_true hc
        obtain ⟨cn, hcn⟩ : ∃ cn : Nat, col = (cn : Int) := ⟨col.toNat, by omega⟩
        subst hcn
        have HC : Hid (inB (cn : Int) 0 2 = true) := hc
        have hcn3 : cn < 3 := by omega
        clear hc hc2
        go_wp2_with fail
        refine (impl_GoodValue vb vn _).mono ?_
        rintro e w3 ⟨rfl, hb3⟩
        have HB3 : Hid (Below w.heap.size w w3) := Frame.next HB2.out hb3 HB2.out.size
        have HO3 : Hid (OwnShelf w3 (w.heap.size + 1) b m qs) := HO2.out.below hb3
        have d0 : w3.cell? ⟨w.heap.size, 0, none⟩ = some (.bool vb) := ((Frame.bcell hb3).1 _ _ (by omega)).trans c0
        have d1 : w3.cell? ⟨w.heap.size, 1, none⟩ = some (.int .i64 vn) := ((Frame.bcell hb3).1 _ _ (by omega)).trans c1
        clear hb3 c0 c1
        cases hv : goodV vb vn
        · have F : Hid (setV key cn (vb, vn) rs = [] ∧ setB key cn (vb, vn) rs = false) := by show _ ∧ _; unfold setV setB gv; rw [HAR.out, HC.out, hv]; exact ⟨rfl, rfl⟩
          clear hv
          go_wp2
          go_ret2
          rw [F.out.1, F.out.2]
          exact told_no HB3.out
        · have HSB : Hid (setB key cn (vb, vn) rs = true) := by show _ = _; unfold setB gv; rw [HAR.out, HC.out, hv]; rfl
          have HGV : Hid (gv (vb, vn) = true) := hv
          have hrB := (goodT_rising HGQ.out).2.1 r hr
          have hvl : r.vs.length = 3 := by unfold rB rowB at hrB; simp only [Bool.and_eq_true, decide_eq_true_eq] at hrB; exact hrB.2.2
          have hin := HO3.out.inner r hr
          have hrn : r.n = 3 := by have := hin.1; rw [vcells_length, hvl] at this; omega
          obtain ⟨g, hg⟩ : ∃ g, r.a = some ⟨g, 0, none⟩ := by
            rcases hin.2 with ⟨h2, h3⟩ | ⟨g, cap', cur, hv', _⟩
            · omega
            · simp only [Value.slice.injEq] at hv'
              exact ⟨g, hv'.1⟩
          have HS : Hid (OwnShelf ((w3.setCell ⟨g, cn * 2, none⟩ (.bool vb)).setCell ⟨g, cn * 2 + 1, none⟩ (.int .i64 vn)) (w.heap.size + 1) b m (setK r.key cn (vb, vn) qs)) := OwnShelf.set (x := (vb, vn)) HO3.out hr hg (by omega) HWX.out
          have HAT : Hid ((shelf qs).atKey (.int .i64 key) (.held (.agg #[.int .i64 0, .slice none 0 0])) = .held (.agg #[.int .i64 r.key, .slice (some ⟨g, 0, none⟩) 3 r.c])) := by
            have := atKey_shelf HO3.out.rising hr (.held (.agg #[.int .i64 0, .slice none 0 0]))
            unfold rowVal at this
            rw [hrk, hg, hrn] at this
            rw [hrk]
            exact this
          rw [hg, hrn] at hin
          have k0 := hin.frozenAt (cn * 2)
          have k1 := hin.frozenAt (cn * 2 + 1)
          have hvc : (vcells r.vs).length = 6 := by rw [vcells_length, hvl]
          obtain ⟨o0, ho0⟩ : ∃ o, w3.cell? ⟨g, cn * 2, none⟩ = some o := by rw [hin.cellAt _ (by omega)]; exact ⟨_, List.getElem?_eq_getElem (by omega)⟩
          obtain ⟨o1, ho1⟩ : ∃ o, w3.cell? ⟨g, cn * 2 + 1, none⟩ = some o := by rw [hin.cellAt _ (by omega)]; exact ⟨_, List.getElem?_eq_getElem (by omega)⟩
          have hgb : w.heap.size + 1 ≤ g := (own_block hin _ rfl).1
          have HB4 : Hid (Below w.heap.size w ((w3.setCell ⟨g, cn * 2, none⟩ (.bool vb)).setCell ⟨g, cn * 2 + 1, none⟩ (.int .i64 vn))) := (HB3.out.setCell (by show w.heap.size ≤ g; omega) _).setCell (by show w.heap.size ≤ g; omega) _
          have F : Hid (setV key cn (vb, vn) rs = tellV (setK r.key cn (vb, vn) qs) ∧ setB key cn (vb, vn) rs = goodT (setK r.key cn (vb, vn) qs)) := by
            show _ ∧ _
            have h1 := goodT_setK r.key cn (vb, vn) HGQ.out HGV.out
            unfold setV tellV
            rw [HSB.out, h1, hrk, setK_plain key _ _ HP.out]
            exact ⟨rfl, rfl⟩
          have hle : (setK r.key cn (vb, vn) qs).length ≤ 1000 := by unfold setK; rw [List.length_map]; omega
          have HN4 : Hid (∀ q ∈ setK r.key cn (vb, vn) qs, q.n ≤ 1048576) := fun q hq => by
            obtain ⟨s, hs, rfl⟩ := List.mem_map.1 hq
            exact HVQ.out s hs
          have hcI : (cn : Int) < 3 := by omega
          have hcJ : (0 : Int) ≤ (cn : Int) := by omega
          have hfld := field_cols
          clear hv hrB hvl hin hrn hg hvc
          go_wp2_with (at_lookup; refine wpList_lookup_held _ rfl _ _ 75 rfl 3 26 law Try.underlying75 _ (zeroR _) b m (shelf qs) rfl HO3.out.map _ _ rfl HK.out _ HAT.out ?_)
          refine (impl_tableOn _ b m _ _ HS.out hle HN4.out).mono ?_
          intro e w5 hT
          have T : Tel.Told (setV key cn (vb, vn) rs) (setB key cn (vb, vn) rs) w e w5 := by
            obtain ⟨a5, m5, c5, ps, he, hp, ho, hb5⟩ := hT
            rw [F.out.1, F.out.2]
            exact ⟨a5, m5, c5, ps, he, hp, OwnRows.mono ho (by omega), Frame.next HB4.out hb5 HB4.out.size⟩
          obtain ⟨a5, m5, c5, ps, rfl, hp, ho, hb5⟩ := T
          have T2 : Hid (Tel.Told (setV key cn (vb, vn) rs) (setB key cn (vb, vn) rs) w (.returned (.tuple #[.slice a5 m5 c5, .bool (setB key cn (vb, vn) rs)])) w5) := ⟨a5, m5, c5, ps, rfl, hp, ho, hb5⟩
          clear hT hp ho hb5
          go_wp2
          go_ret2
          exact T2.out


end Go.Proofs.Ytciaegdgoabipaa.Itd
