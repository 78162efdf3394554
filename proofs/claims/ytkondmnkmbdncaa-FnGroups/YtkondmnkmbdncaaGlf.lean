/-
  Contracts of groups in their order, in the program: groupsBy, GroupsOf.
-/
import Derived.Test.YtkondmnkmbdncaaGpv
import Derived.Test.YtkondmnkmbdncaaSdf
import Derived.Test.YtkondmnkmbdncaaSc
namespace Go.Proofs.Ytkondmnkmbdncaa.Glf
open Go.RowKit
open Go.Proofs.Ytkondmnkmbdncaa.Frame Go.Proofs.Ytkondmnkmbdncaa.Mem Go.Proofs.Ytkondmnkmbdncaa.Ints Go.Proofs.Ytkondmnkmbdncaa.Kep Go.Proofs.Ytkondmnkmbdncaa.Lls Go.Proofs.Ytkondmnkmbdncaa.Mis Go.Proofs.Ytkondmnkmbdncaa.Gpu Go.Proofs.Ytkondmnkmbdncaa.Gpv Go.Proofs.Ytkondmnkmbdncaa.Gla Go.Proofs.Ytkondmnkmbdncaa.Glb Go.Proofs.Ytkondmnkmbdncaa.Gld
open Go.Proofs.Ytkondmnkmbdncaa.Kpi (Enters enters kept_int)
open Go.Proofs.Ytkondmnkmbdncaa.Sc (own_far own_kept intNe only_grown)
open Go.Proofs.Ytkondmnkmbdncaa.Knl hiding Ll
open Go.Proofs.Ytkondmnkmbdncaa.Rel

set_option maxRecDepth 4000 in
set_option maxHeartbeats 800000 in
theorem not_back (bl bn br : Nat) (xs : Ll) (k o : Int) (w : World) (hl : w.cell? ⟨bl, 0, none⟩ = some (.func (.func 136) #[] #[.pointer (some ⟨br, 0, none⟩)])) (hn : w.cell? ⟨bn, 0, none⟩ = some (.int .i64 k)) (h : Leads w (.func (.func 136) #[] #[.pointer (some ⟨br, 0, none⟩)]) xs) (hg : GoodP xs) (hk : 0 ≤ k ∧ k < (xs.length : Int)) (ho : 0 ≤ o ∧ o < (xs.length : Int)) :
    Calls Try.prog 128 #[.int .i64 o, .pointer (some ⟨bl, 0, none⟩), .pointer (some ⟨bn, 0, none⟩)] w fun e w' => e = .returned (.bool (rB xs k o && !rB xs o k)) ∧ w' = w := by
  have HLD : Hid (Leads w (.func (.func 136) #[] #[.pointer (some ⟨br, 0, none⟩)]) xs) := h
  have HG : Hid (GoodP xs) := hg
  have HK : Hid (0 ≤ k ∧ k < (xs.length : Int)) := hk
  have HO : Hid (0 ≤ o ∧ o < (xs.length : Int)) := ho
  clear h hg hk ho
  rcases em_bool (rB xs k o) with hv | hv
  · have V : Hid (rB xs k o = false) := hv
    rw [hv, Bool.false_and]
    clear hv
    go_enter Try.func128, Try.ntmps128
    go_wp2_with fail
    refine (leads_call br xs k o _ HLD.out HG.out HK.out).mono ?_
    rintro e w' ⟨rfl, hw'⟩; have hw'' := hw'.symm; clear hw'; subst hw''
    rw [V.out]
    go_wp2
    go_ret
    exact ⟨rfl, rfl⟩
  · have V : Hid (rB xs k o = true) := hv
    rw [hv, Bool.true_and]
    clear hv
    go_enter Try.func128, Try.ntmps128
    go_wp2_with fail
    refine (leads_call br xs k o _ HLD.out HG.out HK.out).mono ?_
    rintro e w' ⟨rfl, hw'⟩; have hw'' := hw'.symm; clear hw'; subst hw''
    rw [V.out]
    go_wp2_with fail
    refine (leads_call br xs o k _ HLD.out HG.out HO.out).mono ?_
    rintro e w' ⟨rfl, hw'⟩; have hw'' := hw'.symm; clear hw'; subst hw''
    go_wp2
    go_ret
    exact ⟨rfl, rfl⟩

set_option maxRecDepth 4000 in
set_option maxHeartbeats 800000 in
theorem is_ready (bL bl br : Nat) (a : Option Addr) (n c : Nat) (left : List Int) (xs : Ll) (k : Int) (w : World) (hL : w.cell? ⟨bL, 0, none⟩ = some (.slice a n c)) (hr : IsRow .i64 w a n c left) (hl : w.cell? ⟨bl, 0, none⟩ = some (.func (.func 136) #[] #[.pointer (some ⟨br, 0, none⟩)])) (h : Leads w (.func (.func 136) #[] #[.pointer (some ⟨br, 0, none⟩)]) xs) (hg : GoodP xs) (hk : 0 ≤ k ∧ k < (xs.length : Int)) (hm : ∀ z ∈ left, 0 ≤ z ∧ z < (xs.length : Int)) :
    Calls Try.prog 127 #[.int .i64 k, .pointer (some ⟨bL, 0, none⟩), .pointer (some ⟨bl, 0, none⟩)] w fun e w' => e = .returned (.bool (readyB xs left k)) ∧ Below w.heap.size w w' := by
  have HLD : Hid (Leads w (.func (.func 136) #[] #[.pointer (some ⟨br, 0, none⟩)]) xs) := h
  have HG : Hid (GoodP xs) := hg
  have HK : Hid (0 ≤ k ∧ k < (xs.length : Int)) := hk
  have HM : Hid (∀ z ∈ left, 0 ≤ z ∧ z < (xs.length : Int)) := hm
  have HR : Hid (IsRow .i64 w a n c left) := hr
  have HL : Hid (w.cell? ⟨bl, 0, none⟩ = some (.func (.func 136) #[] #[.pointer (some ⟨br, 0, none⟩)])) := hl
  have HEN : Hid (Enters Try.prog 128) := enters Try.func128 (by kernel_rfl) rfl
  have B0 : Hid (Below w.heap.size w (w.alloc (.cells #[.int .i64 k] 3))) := (Below.refl _ _).alloc (Nat.le_refl _) _
  have K0 : Hid ((w.alloc (.cells #[.int .i64 k] 3)).cell? ⟨w.heap.size, 0, none⟩ = some (.int .i64 k)) := by show _ = _; go_simp
  have c0 : (w.alloc (.cells #[.int .i64 k] 3)).cell? ⟨bL, 0, none⟩ = some (.slice a n c) := Frame.held_cell B0.out hL
  clear h hg hk hm hr hl hL
  go_enter Try.func127, Try.ntmps127
  go_wp2_with fail
  refine (contains_int a n c left 128 #[.pointer (some ⟨bl, 0, none⟩), .pointer (some ⟨w.heap.size, 0, none⟩)] (fun o => rB xs k o && !rB xs o k) _ (IsRow.below HR.out B0.out) HEN.out (fun z hz w1 hb1 => (not_back bl w.heap.size br xs k z w1 (Frame.held_cell (Frame.next B0.out hb1 B0.out.size) HL.out) (Frame.held_cell hb1 K0.out) (HLD.out.below (Frame.next B0.out hb1 B0.out.size)) HG.out HK.out (HM.out z hz)).mono (by rintro e w6 ⟨rfl, rfl⟩; exact ⟨rfl, Below.refl _ _⟩))).mono ?_
  rintro e w1 ⟨rfl, hb1⟩
  have B1 : Hid (Below w.heap.size w w1) := Frame.next B0.out hb1 B0.out.size
  clear hb1 c0
  go_wp2
  go_ret
  exact ⟨rfl, B1.out⟩

theorem idx_one {zs : List Int} {p : Int → Bool} {i : Int} {k : Nat} (h : IdxF zs p i) (hk : k < zs.length) (hp : p (zs.getD k 0) = true) (hb : ∀ j, j < k → p (zs.getD j 0) = false) : i = (k : Int) := by
  rcases h with ⟨_, h⟩ | ⟨j, rfl, hj, h1, h2⟩
  · have := h _ (getD_mem hk)
    rw [hp] at this
    cases this
  · by_cases e : j < k
    · have := hb j e; rw [h1] at this; cases this
    · by_cases e2 : k < j
      · have := h2 k e2; rw [hp] at this; cases this
      · omega
theorem first_of {zs : List Int} {p : Int → Bool} (h : ∃ r ∈ zs, p r = true) : ∃ k, k < zs.length ∧ p (zs.getD k 0) = true ∧ ∀ j, j < k → p (zs.getD j 0) = false := by
  induction zs with
  | nil => obtain ⟨r, hr, _⟩ := h; cases hr
  | cons z zs ih =>
    cases hz : p z
    · have : ∃ r ∈ zs, p r = true := by
        obtain ⟨r, hr, hpr⟩ := h
        rcases List.mem_cons.1 hr with rfl | hr
        · rw [hz] at hpr; cases hpr
        · exact ⟨r, hr, hpr⟩
      obtain ⟨k, hk, h1, h2⟩ := ih this
      refine ⟨k + 1, by simpa using hk, h1, fun j hj => ?_⟩
      match j with
      | 0 => exact hz
      | j + 1 => exact h2 j (by omega)
    · exact ⟨0, by simp, hz, fun j hj => absurd hj (by omega)⟩

theorem ownLs_touch {w w' : World} {base : Nat} {a : Option Addr} {n c g : Nat} {rs : List LV} (h : OwnLs w base a n c rs) (t : OnlyAt (some ⟨g, 0, none⟩) w w') (ha : ∀ x, a = some x → x.block ≠ g) (hr : ∀ r ∈ rs, ∀ x, r.a = some x → x.block ≠ g) : OwnLs w' base a n c rs :=
  ⟨own_touch h.outer t (fun x y hx hy => by cases hy; exact ha x hx), fun r hr' => own_touch (h.inner r hr') t (fun x y hx hy => by cases hy; exact hr r hr' x hx), h.wf, h.apart, h.apart0⟩

set_option maxRecDepth 4000 in
set_option maxHeartbeats 800000 in
/-- What is made tells where it lies. -/
theorem togetherAt (br : Nat) (i : Int) (w : World) :
    Calls Try.prog 93 #[.func (.func 136) #[] #[.pointer (some ⟨br, 0, none⟩)], .int .i64 i] w fun e w' => e = .returned (.func (.func 135) #[] #[.pointer (some ⟨w.heap.size, 0, none⟩), .pointer (some ⟨w.heap.size + 1, 0, none⟩)]) ∧ (w'.cell? ⟨w.heap.size, 0, none⟩ = some (.func (.func 136) #[] #[.pointer (some ⟨br, 0, none⟩)]) ∧ w'.cell? ⟨w.heap.size + 1, 0, none⟩ = some (.int .i64 i)) ∧ Below w.heap.size w w' := by
  have hst : ∀ (a : Addr) (w : World) (f : Fn) (x y : Array Value) (m : Mode), (store a (.func f x y) m).run Try.prog w = stored Try.prog w a (.func f x y) m := fun a w f x y m => run_store Try.prog w a _ m rfl
  go_enter Try.func93, Try.ntmps93
  go_wp2_with fail
  go_ret
  have hb : Below w.heap.size w ((w.alloc (.cells #[.func (.func 136) #[] #[.pointer (some ⟨br, 0, none⟩)]] 92)).alloc (.cells #[.int .i64 i] 3)) := ((Below.refl _ _).alloc (Nat.le_refl _) _).alloc (by simp) _
  exact ⟨rfl, ⟨by go_simp, by go_simp⟩, hb⟩

/-- What stands in memory at the loop's head: those that are left in their box, the groups so far; who leads to whom was told at V. -/
structure Gt (w V wr : World) (br bl bL g m n : Nat) (left : List Int) (ga : Option Addr) (gn gc : Nat) (rs : List LV) : Prop where
  low : Below V.heap.size V wr
  vw : Below w.heap.size w V
  cl : wr.cell? ⟨bl, 0, none⟩ = some (.func (.func 136) #[] #[.pointer (some ⟨br, 0, none⟩)])
  cL : wr.cell? ⟨bL, 0, none⟩ = some (.slice (some ⟨g, 0, none⟩) m n)
  fL : wr.frozen? ⟨bL, 0, none⟩ = false
  row : wr.ownsRow V.heap.size 3 1 (.slice (some ⟨g, 0, none⟩) m n) m (ints .i64 left)
  ls : OwnLs wr V.heap.size ga gn gc rs
  outA : ∀ x, ga = some x → x.block ≠ g ∧ x.block ≠ bL ∧ x.block ≠ bl
  inA : ∀ r ∈ rs, ∀ x, r.a = some x → x.block ≠ g ∧ x.block ≠ bL
  far : bl ≠ g ∧ bl ≠ bL ∧ bL ≠ g ∧ V.heap.size ≤ bL
theorem Gt.bel {w V wr : World} {br bl bL g m n : Nat} {left : List Int} {ga : Option Addr} {gn gc : Nat} {rs : List LV} (h : Gt w V wr br bl bL g m n left ga gn gc rs) : Below w.heap.size w wr := Frame.next h.vw h.low h.vw.size
theorem Gt.below {w V wr wr' : World} {br bl bL g m n : Nat} {left : List Int} {ga : Option Addr} {gn gc : Nat} {rs : List LV} (h : Gt w V wr br bl bL g m n left ga gn gc rs) (hb : Below wr.heap.size wr wr') : Gt w V wr' br bl bL g m n left ga gn gc rs :=
  ⟨Frame.next h.low hb h.low.size, h.vw, Frame.held_cell hb h.cl, Frame.held_cell hb h.cL, by rw [hb.frozen (p := ⟨bL, 0, none⟩) (Frame.cell_lt h.cL)]; exact h.fL, own_below h.row hb, h.ls.below hb, h.outA, h.inA, h.far⟩
/-- Those left are turned, and their box. -/
theorem Gt.turn {w V wr w1 : World} {br bl bL g m m' n : Nat} {left left' : List Int} {ga : Option Addr} {gn gc : Nat} {rs : List LV} (h : Gt w V wr br bl bL g m n left ga gn gc rs) (t : OnlyAt (some ⟨g, 0, none⟩) wr w1) (ho : w1.ownsRow V.heap.size 3 1 (.slice (some ⟨g, 0, none⟩) m' n) m' (ints .i64 left')) :
    Gt w V (w1.setCell ⟨bL, 0, none⟩ (.slice (some ⟨g, 0, none⟩) m' n)) br bl bL g m' n left' ga gn gc rs := by
  have hg := own_block h.row _ rfl
  have t2 : OnlyAt (some ⟨bL, 0, none⟩) w1 (w1.setCell ⟨bL, 0, none⟩ (.slice (some ⟨g, 0, none⟩) m' n)) := (OnlyAt.refl _ w1).setCell (fun x hx => by cases hx; rfl) (by simp) _
  have low1 : Below V.heap.size V w1 := below_touch h.low t (fun x hx => by cases hx; exact hg.1) h.low.size
  have hbL : bL < wr.heap.size := Frame.cell_lt h.cL
  have hbl : bl < wr.heap.size := Frame.cell_lt h.cl
  have c1 : w1.cell? ⟨bL, 0, none⟩ = some (.slice (some ⟨g, 0, none⟩) m n) := by rw [t.cell hbL (fun x hx => by cases hx; exact h.far.2.2.1)]; exact h.cL
  refine ⟨low1.setCell (p := ⟨bL, 0, none⟩) h.far.2.2.2 _, h.vw, ?_, World.cell?_setCell_same _ _ _ c1, ?_, own_touch ho t2 (fun x y hx hy => by cases hx; cases hy; exact fun e => h.far.2.2.1 e.symm), ownLs_touch (ownLs_touch h.ls t (fun x hx => (h.outA x hx).1) (fun r hr x hx => (h.inA r hr x hx).1)) t2 (fun x hx => (h.outA x hx).2.1) (fun r hr x hx => (h.inA r hr x hx).2), h.outA, h.inA, h.far⟩
  · rw [World.cell?_setCell_other _ _ _ _ (by have := h.far.2.1; simp), t.cell hbl (fun x hx => by cases hx; exact h.far.1)]
    exact h.cl
  · rw [World.frozen?_setCell]
    have : w1.frozen? ⟨bL, 0, none⟩ = wr.frozen? ⟨bL, 0, none⟩ := by
      have hb := t.block bL hbL (fun x hx => by cases hx; exact h.far.2.2.1)
      simp [World.frozen?, hb]
    rw [this]; exact h.fL

/-- A row of one's own behind the others. -/
theorem ls_push {W W' : World} {base m c c' : Nat} {a a' : Option Addr} {rs : List LV} {r : LV} (h : OwnLs W base a m c rs) (hr : W.ownsRow base 3 1 (.slice r.a r.n r.c) r.n (ints .i64 r.zs)) (hw : ∀ z ∈ r.zs, (Lit.int .i64 z).wf = true) (hf : ∀ s ∈ rs, Far s.a r.a)
    (hg : W.grownBy W' (Value.slice a m c).ownBlock) (ho : W'.ownsRow base 24 1 (.slice a' (m + 1) c') (m + 1) (lcells (rs ++ [r]))) : OwnLs W' base a' (m + 1) c' (rs ++ [r]) := by
  have kept : ∀ s ∈ rs ++ [r], W'.ownsRow base 3 1 (.slice s.a s.n s.c) s.n (ints .i64 s.zs) := fun s hs => by
    rcases List.mem_append.1 hs with hs | hs
    · exact own_kept (h.inner s hs) h.outer intNe hg
    · rw [List.mem_singleton.1 hs]; exact own_kept hr h.outer intNe hg
  refine ⟨ho, kept, fun s hs => ?_, ?_, fun s hs => Far.symm (own_far (kept s hs) ho intNe)⟩
  · rcases List.mem_append.1 hs with hs | hs
    · exact h.wf s hs
    · rw [List.mem_singleton.1 hs]; exact hw
  · rw [List.pairwise_append]
    refine ⟨h.apart, List.pairwise_singleton _ _, fun s hs t ht => ?_⟩
    rw [List.mem_singleton.1 ht]
    exact hf s hs
theorem ownLs_base {w : World} {base base' : Nat} {a : Option Addr} {n c : Nat} {rs : List LV} (h : OwnLs w base a n c rs) (hb : base' ≤ base) : OwnLs w base' a n c rs :=
  ⟨own_base h.outer hb, fun r hr => own_base (h.inner r hr) hb, h.wf, h.apart, h.apart0⟩
theorem Gt.push {w V W W' : World} {br bl bL g m n g9 c9 q : Nat} {left : List Int} {ga : Option Addr} {gn gc : Nat} {rs : List LV} {r : LV} (h : Gt w V W br bl bL g m n left ga gn gc rs) (hr : W.ownsRow q 3 1 (.slice r.a r.n r.c) r.n (ints .i64 r.zs)) (hq : V.heap.size ≤ q) (hgq : g < q) (hLq : bL < q) (hf : ∀ s ∈ rs, Far s.a r.a) (hw : ∀ z ∈ r.zs, (Lit.int .i64 z).wf = true)
    (hg : W.grownBy W' (Value.slice ga gn gc).ownBlock) (ho : W'.ownsRow V.heap.size 24 1 (.slice (some ⟨g9, 0, none⟩) (gn + 1) c9) (gn + 1) (lcells rs ++ [.slice r.a r.n r.c])) (hat : (Value.slice ga gn gc).ownBlock = some g9 ∨ g9 = W.heap.size) :
    Gt w V W' br bl bL g m n left (some ⟨g9, 0, none⟩) (gn + 1) c9 (rs ++ [r]) := by
  have t := only_grown hg
  have hbl := Frame.cell_lt h.cl
  have hbL := Frame.cell_lt h.cL
  have hgl := (own_block h.row _ rfl).2
  simp only at hbl hbL hgl
  refine ⟨below_app h.low h.ls.outer hg h.low.size (Nat.le_refl _), h.vw, ?_, ?_, ?_, own_touch h.row t (fun x y hx hy => by cases hx; exact fun e => (h.outA y hy).1 e.symm), ls_push h.ls (own_base hr hq) hw hf hg (by rw [lcells_append]; exact ho), fun x hx => ?_, fun s hs x hx => ?_, h.far⟩
  · rw [t.cell hbl (fun x hx => fun e => (h.outA x hx).2.2 e.symm)]; exact h.cl
  · rw [t.cell hbL (fun x hx => fun e => (h.outA x hx).2.1 e.symm)]; exact h.cL
  · have hb := t.block bL hbL (fun x hx => fun e => (h.outA x hx).2.1 e.symm)
    have : W'.frozen? ⟨bL, 0, none⟩ = W.frozen? ⟨bL, 0, none⟩ := by simp [World.frozen?, hb]
    rw [this]; exact h.fL
  · cases hx
    rcases hat with e | e
    · cases ga with
      | none => simp [Value.ownBlock] at e
      | some y =>
        simp [Value.ownBlock] at e
        have := h.outA y rfl
        rw [e] at this
        exact this
    · subst e
      exact ⟨by show W.heap.size ≠ g; omega, by show W.heap.size ≠ bL; omega, by show W.heap.size ≠ bl; omega⟩
  · rcases List.mem_append.1 hs with hs | hs
    · exact h.inA s hs x hx
    · rw [List.mem_singleton.1 hs] at hx
      have := (own_block hr x hx).1
      exact ⟨by omega, by omega⟩
def boxLen (w : World) (b : Nat) : Nat := match w.cell? ⟨b, 0, none⟩ with
  | some (.slice _ n _) => n
  | _ => 0
theorem Gt.len {w V W : World} {br bl bL g m n : Nat} {left : List Int} {ga : Option Addr} {gn gc : Nat} {rs : List LV} (h : Gt w V W br bl bL g m n left ga gn gc rs) : boxLen W bL = m := by
  unfold boxLen; rw [h.cL]

set_option maxRecDepth 8000 in
set_option maxHeartbeats 6400000 in
theorem groupsBy (la : Option Addr) (ln lc : Nat) (rs : List LV) (w : World) (hl : IsLs w la ln lc rs) (hg : GoodP (lplain rs)) :
    Calls Try.prog 83 #[.slice la ln lc] w fun e w' => ∃ a' m c' rs', e = .returned (.slice a' m c') ∧ OwnLs w' w.heap.size a' m c' rs' ∧ lplain rs' = groupsN (lplain rs) ∧ Below w.heap.size w w' := by
  obtain ⟨i0, hi, hz0, hz1, hz2⟩ := info_parts infoL
  have hlen : (lplain rs).length = ln := by simp [lplain, hl.len]
  have HL : Hid ((lplain rs).length = ln) := hlen
  have HI : Hid (IsLs w la ln lc rs) := hl
  have HG : Hid (GoodP (lplain rs)) := hg
  have hn12 : ln ≤ 12 := by have := hg.few; omega
  have HEN : Hid (Enters Try.prog 135) := enters Try.func135 (by kernel_rfl) rfl
  have HEN1 : Hid (Enters Try.prog 127) := enters Try.func127 (by kernel_rfl) rfl
  have hst : ∀ (a : Addr) (w : World) (f : Fn) (x y : Array Value) (m : Mode), (store a (.func f x y) m).run Try.prog w = stored Try.prog w a (.func f x y) m := fun a w f x y m => run_store Try.prog w a _ m rfl
  clear hl hg hlen
  go_enter Try.func83, Try.ntmps83
  go_wp2_with fail
  refine (leadingBy la ln lc rs _ HI.out HG.out).mono ?_
  rintro e V ⟨lv, rfl, hlv, hbV⟩
  obtain ⟨br, rfl⟩ := hlv.form
  have LV0 : Hid (Leads V (.func (.func 136) #[] #[.pointer (some ⟨br, 0, none⟩)]) (lplain rs)) := hlv
  have VW : Hid (Below w.heap.size w V) := hbV
  have K1 : Hid ((V.alloc (.cells #[.func (.func 136) #[] #[.pointer (some ⟨br, 0, none⟩)]] 92)).cell? ⟨V.heap.size, 0, none⟩ = some (.func (.func 136) #[] #[.pointer (some ⟨br, 0, none⟩)])) := by show _ = _; go_simp
  have B1 : Hid (Below V.heap.size V (V.alloc (.cells #[.func (.func 136) #[] #[.pointer (some ⟨br, 0, none⟩)]] 92))) := (Below.refl _ _).alloc (Nat.le_refl _) _
  clear hlv hbV
  go_wp2_with fail
  refine (numbersBelow ln _ (by omega)).mono ?_
  rintro e w2 ⟨g, rfl, ho2, hb2⟩
  have O2 : Hid (w2.ownsRow V.heap.size 3 1 (.slice (some ⟨g, 0, none⟩) ln ln) ln (ints .i64 (numN ln))) := own_base ho2 (by simp)
  have hgl : g < w2.heap.size := (own_block ho2 _ rfl).2
  have hgV : V.heap.size < g := by have := (own_block ho2 _ rfl).1; simp at this; exact this
  have hVs : V.heap.size < w2.heap.size := by omega
  have B2 : Hid (Below V.heap.size V w2) := Frame.next B1.out hb2 (by simp)
  have K2 : Hid (w2.cell? ⟨V.heap.size, 0, none⟩ = some (.func (.func 136) #[] #[.pointer (some ⟨br, 0, none⟩)])) := Frame.held_cell hb2 K1.out
  clear ho2 hb2 K1 B1 hst
  go_wp2_with fail
  have G0 : Hid (Gt w V ((w2.alloc (.cells #[] 24)).alloc (.cells #[.slice (some ⟨g, 0, none⟩) ln ln] 24)) br V.heap.size (w2.heap.size + 1) g ln ln (numN ln) (some ⟨w2.heap.size, 0, none⟩) 0 0 []) := by
    have b3 : Below w2.heap.size w2 ((w2.alloc (.cells #[] 24)).alloc (.cells #[.slice (some ⟨g, 0, none⟩) ln ln] 24)) := ((Below.refl _ _).alloc (Nat.le_refl _) _).alloc (by simp) _
    have oz : (w2.alloc (.cells #[] 24)).ownsRow V.heap.size 24 1 (.slice (some ⟨w2.heap.size, 0, none⟩) 0 0) 0 [] := own_zero _ _ _ _ _ rfl (by omega)
    refine ⟨Frame.next B2.out b3 (by omega), VW.out, Frame.held_cell b3 K2.out, by go_simp, by go_simp, own_below O2.out b3, ⟨own_below oz ((Below.refl _ _).alloc (Nat.le_refl _) _), fun r hr => (by cases hr), fun r hr => (by cases hr), List.Pairwise.nil, fun r hr => (by cases hr)⟩, fun x hx => ?_, fun r hr => (by cases hr), ⟨by omega, by omega, by omega, by omega⟩⟩
    cases hx
    exact ⟨by show w2.heap.size ≠ g; omega, by show w2.heap.size ≠ w2.heap.size + 1; omega, by show w2.heap.size ≠ V.heap.size; omega⟩
  clear O2 B2 K2 hgl hgV hVs
  obtain ⟨bL, hbL⟩ : ∃ bL, bL = w2.heap.size + 1 := ⟨_, rfl⟩
  obtain ⟨bl, hbl⟩ : ∃ bl, bl = V.heap.size := ⟨_, rfl⟩
  rw [← hbL, ← hbl] at G0
  rw [← hbL, ← hbl]
  clear hbL hbl
  go_loopw [5] (fun v5 wr => ∃ (m : Nat) (left : List Int) (ga : Option Addr) (gn gc : Nat) (grs : List LV), v5 = .slice ga gn gc ∧ Gt w V wr br bl bL g m ln left ga gn gc grs ∧ Gs (lplain rs) (lplain grs) left) (fun _ wr => boxLen wr bL)
  case atStart => exact ⟨ln, numN ln, _, 0, 0, [], rfl, G0.out, by have := gs_start HG.out; rw [HL.out] at this; exact this⟩
  case round =>
    obtain ⟨m, left, ga, gn, gc, grs, rfl, hgt, hgs⟩ := hrel
    have HT : Hid (Gt w V wr br bl bL g m ln left ga gn gc grs) := hgt
    have HS : Hid (Gs (lplain rs) (lplain grs) left) := hgs
    have c0 := hgt.cL
    have hml : left.length = m := by have := hgt.row.1; rw [ints_length] at this; omega
    have hgn : gn ≤ 12 := by
      have h1 := gs_few hgs
      have h2 := hgt.ls.len
      have h3 : (lplain grs).length = grs.length := by simp [lplain]
      have := HL.out
      omega
    clear hgt hgs G0
    by_cases hm0 : 0 < m
    · have hmI : decide (0 < m) = true := decide_eq_true hm0
      have hmJ : (m : Int) > 0 := by omega
      obtain ⟨i, hil, hp, hb⟩ := first_of (ready_one (lplain rs) (left := left) (fun e => by rw [e] at hml; simp at hml; omega))
      have FND : Hid (left.find? (readyB (lplain rs) left) = some (left.getD i 0)) := find_at hil hp hb
      have IX : Hid (∀ i', IdxF left (readyB (lplain rs) left) i' → i' = (i : Int)) := fun i' h => idx_one h hil hp hb
      have HKM : Hid (left.getD i 0 ∈ left) := getD_mem hil
      have HKR : Hid (0 ≤ left.getD i 0 ∧ left.getD i 0 < ((lplain rs).length : Int)) := HS.out.mem _ (getD_mem hil)
      have p0 : wr.cell? ⟨g, i, none⟩ = some (.int .i64 (left.getD i 0)) := by rw [HT.out.row.cellAt i (by omega)]; exact ints_get .i64 left i hil
      generalize left.getD i 0 = k at FND HKM HKR p0
      have TD : Hid (Gt w V wr.drew br bl bL g m ln left ga gn gc grs) := HT.out.below (Below.refl _ _).drew
      have RD : Hid (IsRow .i64 wr.drew (some ⟨g, 0, none⟩) m ln left) := own_row TD.out.row (fun z hz => numN_wf 12 (by omega) z (mem_numN.2 (by have := HS.out.mem z hz; have := HL.out; omega)))
      have LD : Hid (Leads wr.drew (.func (.func 136) #[] #[.pointer (some ⟨br, 0, none⟩)]) (lplain rs)) := LV0.out.below TD.out.low
      have K0 : Hid (wr.drew.cell? ⟨bl, 0, none⟩ = some (.func (.func 136) #[] #[.pointer (some ⟨br, 0, none⟩)]) ∧ wr.drew.cell? ⟨bL, 0, none⟩ = some (.slice (some ⟨g, 0, none⟩) m ln) ∧ wr.drew.cell? ⟨g, i, none⟩ = some (.int .i64 k)) := ⟨TD.out.cl, TD.out.cL, by rw [World.cell?_drew]; exact p0⟩
      have hiI : (i : Int) < (m : Int) := by omega
      have hi0 : (0 : Int) ≤ (i : Int) := by omega
      clear hp hb p0
      go_wp2_with fail
      go_region_held3 (fun w' => w'.cell? ⟨bl, 0, none⟩ = some (.func (.func 136) #[] #[.pointer (some ⟨br, 0, none⟩)]) ∧ w'.cell? ⟨bL, 0, none⟩ = some (.slice (some ⟨g, 0, none⟩) m ln) ∧ w'.cell? ⟨g, i, none⟩ = some (.int .i64 k)) (first | exact K0.out | with_reducible exact K5.out | with_reducible exact K6.out)
        (first | (go_at_call 129; refine (index_int (some ⟨g, 0, none⟩) m ln left 127 #[.pointer (some ⟨bL, 0, none⟩), .pointer (some ⟨bl, 0, none⟩)] (readyB (lplain rs) left) _ RD.out HEN1.out (fun z hz w1 hb1 => is_ready bL bl br (some ⟨g, 0, none⟩) m ln left (lplain rs) z w1 (Frame.held_cell hb1 K0.out.2.1) (IsRow.below RD.out hb1) (Frame.held_cell hb1 K0.out.1) (LD.out.below hb1) HG.out (HS.out.mem z hz) HS.out.mem)).mono ?_; rintro e w5 ⟨i', rfl, hix, hb5⟩; obtain rfl := IX.out _ hix; have T5 : Hid (Gt w V w5 br bl bL g m ln left ga gn gc grs) := TD.out.below hb5; have K5 : Hid (w5.cell? ⟨bl, 0, none⟩ = some (.func (.func 136) #[] #[.pointer (some ⟨br, 0, none⟩)]) ∧ w5.cell? ⟨bL, 0, none⟩ = some (.slice (some ⟨g, 0, none⟩) m ln) ∧ w5.cell? ⟨g, i, none⟩ = some (.int .i64 k)) := ⟨Frame.held_cell hb5 K0.out.1, Frame.held_cell hb5 K0.out.2.1, Frame.held_cell hb5 K0.out.2.2⟩; clear hb5 hix) | (go_at_call 93; refine (togetherAt br k _).mono ?_; rintro e w6 ⟨rfl, hc6, hb6⟩; have T6 : Hid (Gt w V w6 br bl bL g m ln left ga gn gc grs) := T5.out.below hb6; have C6 : Hid (w6.cell? ⟨w5.heap.size, 0, none⟩ = some (.func (.func 136) #[] #[.pointer (some ⟨br, 0, none⟩)]) ∧ w6.cell? ⟨w5.heap.size + 1, 0, none⟩ = some (.int .i64 k)) := hc6; have K6 : Hid (w6.cell? ⟨bl, 0, none⟩ = some (.func (.func 136) #[] #[.pointer (some ⟨br, 0, none⟩)]) ∧ w6.cell? ⟨bL, 0, none⟩ = some (.slice (some ⟨g, 0, none⟩) m ln) ∧ w6.cell? ⟨g, i, none⟩ = some (.int .i64 k)) := ⟨Frame.held_cell hb6 K5.out.1, Frame.held_cell hb6 K5.out.2.1, Frame.held_cell hb6 K5.out.2.2⟩; clear hb6 hc6))
      have Z5 : Hid (g < w5.heap.size ∧ bL < w5.heap.size ∧ bl < w5.heap.size) := ⟨(own_block T5.out.row _ rfl).2, Frame.cell_lt T5.out.cL, Frame.cell_lt T5.out.cl⟩
      have FB : Hid (∀ x, ga = some x → x.block < w5.heap.size) := fun x hx => (own_block T5.out.ls.outer x hx).2
      generalize w5.heap.size = b5 at C6 Z5 FB ⊢
      have LD6 : Hid (Leads w6 (.func (.func 136) #[] #[.pointer (some ⟨br, 0, none⟩)]) (lplain rs)) := LV0.out.below T6.out.low
      have TG6 : Hid (Tog w6 (.func (.func 135) #[] #[.pointer (some ⟨b5, 0, none⟩), .pointer (some ⟨b5 + 1, 0, none⟩)]) (lplain rs) k) := ⟨b5, b5 + 1, br, rfl, C6.out.1, LD6.out, C6.out.2⟩
      have WF : Hid (∀ z ∈ left, (Lit.int .i64 z).wf = true) := fun z hz => numN_wf 12 (by omega) z (mem_numN.2 (by have := HS.out.mem z hz; have := HL.out; omega))
      have R6 : Hid (IsRow .i64 w6 (some ⟨g, 0, none⟩) m ln left) := own_row T6.out.row WF.out
      have Z6 : Hid (g < w6.heap.size ∧ bL < w6.heap.size ∧ b5 + 1 < w6.heap.size) := ⟨(own_block T6.out.row _ rfl).2, Frame.cell_lt T6.out.cL, Frame.cell_lt C6.out.2⟩
      have hml2 : m ≤ 100000 := by have := R6.out.fits; omega
      have cw : w6.cell? ⟨bL, 0, none⟩ = some (.slice (some ⟨g, 0, none⟩) m ln) := K6.out.2.1
      clear K0 K5 K6 TD RD LD T5 c0
      go_wp2_with fail
      refine (kept_int (some ⟨g, 0, none⟩) m ln left 135 #[.pointer (some ⟨b5, 0, none⟩), .pointer (some ⟨b5 + 1, 0, none⟩)] (togB (lplain rs) k) _ R6.out hml2 HEN.out (fun z hz w7 hb7 => (tog_call b5 (b5 + 1) (lplain rs) k z w7 (TG6.out.below hb7) HG.out HKR.out (HS.out.mem z hz)).mono (by rintro e w8 ⟨rfl, rfl⟩; exact ⟨rfl, Below.refl _ _⟩))).mono ?_
      rintro e w7 ⟨a7, m7, c7, rfl, hm7, ho7, hb7⟩
      have T8 : Hid (Gt w V (w7.alloc (.cells #[.slice a7 m7 c7] 24)) br bl bL g m ln left ga gn gc grs) := (T6.out.below hb7).below ((Below.refl _ _).alloc (Nat.le_refl _) _)
      have O8 : Hid ((w7.alloc (.cells #[.slice a7 m7 c7] 24)).ownsRow w6.heap.size 3 1 (.slice a7 m7 c7) m7 (ints .i64 (left.filter (togB (lplain rs) k)))) := own_below ho7 ((Below.refl _ _).alloc (Nat.le_refl _) _)
      have C8 : Hid ((w7.alloc (.cells #[.slice a7 m7 c7] 24)).cell? ⟨b5, 0, none⟩ = some (.func (.func 136) #[] #[.pointer (some ⟨br, 0, none⟩)]) ∧ (w7.alloc (.cells #[.slice a7 m7 c7] 24)).cell? ⟨b5 + 1, 0, none⟩ = some (.int .i64 k)) := ⟨Frame.held_cell ((Below.refl _ _).alloc (Nat.le_refl _) _) (Frame.held_cell hb7 C6.out.1), Frame.held_cell ((Below.refl _ _).alloc (Nat.le_refl _) _) (Frame.held_cell hb7 C6.out.2)⟩
      have FAR8 : Hid (∀ s ∈ grs, Far s.a a7) := fun s hs x y hx hy => by
        have h1 := (T6.out.ls.lt s hs x hx).2
        have h2 := (own_block O8.out y hy).1
        omega
      have NEW8 : Hid (∀ j u, ([.slice a7 m7 c7] : List Value)[j]? = some u → (w7.alloc (.cells #[.slice a7 m7 c7] 24)).cell? ((⟨w7.heap.size, 0, none⟩ : Addr).add j) = some u) := by
        obtain ⟨ad, e, hn⟩ := news_one w7 (.slice a7 m7 c7) 24 (by omega)
        cases e
        exact hn
      have B8 : Hid (V.heap.size ≤ (w7.alloc (.cells #[.slice a7 m7 c7] 24)).heap.size) := T8.out.low.size
      have V6 : Hid (V.heap.size ≤ w6.heap.size) := T6.out.low.size
      clear ho7 hb7 cw
      go_wp2_with (at_builtin; refine wpList_append_lies _ rfl _ _ 23 rfl V.heap.size 24 i0 (.slice none 0 0) 1 24 Try.underlying23 hi hz0 hz1 hz2 rfl (by decide) _ gn _ rfl T8.out.ls.outer ⟨w7.heap.size, 0, none⟩ 1 _ [.slice a7 m7 c7] rfl rfl NEW8.out (by simp [Value.oneCell']) (by omega) (by unfold maxLen; omega) (by omega) B8.out _ rfl ?_)
      intro g9 c9 w9 hown9 hgrow9 hat9 hlt9
      have T9 : Hid (Gt w V w9 br bl bL g m ln left (some ⟨g9, 0, none⟩) (gn + 1) c9 (grs ++ [⟨a7, m7, c7, left.filter (togB (lplain rs) k)⟩])) := T8.out.push (r := ⟨a7, m7, c7, left.filter (togB (lplain rs) k)⟩) O8.out V6.out Z6.out.1 Z6.out.2.1 FAR8.out (fun z hz => WF.out z (List.mem_filter.1 hz).1) hgrow9 hown9 (by simpa using hat9)
      have C9 : Hid (w9.cell? ⟨b5, 0, none⟩ = some (.func (.func 136) #[] #[.pointer (some ⟨br, 0, none⟩)]) ∧ w9.cell? ⟨b5 + 1, 0, none⟩ = some (.int .i64 k)) := by
        have t := only_grown hgrow9
        have hne : ∀ b, b5 ≤ b → ∀ x, ga = some x → b ≠ x.block := fun b hb x hx => by
          have h3 := FB.out x hx
          omega
        exact ⟨(t.cell (Frame.cell_lt C8.out.1) (hne _ (Nat.le_refl _))).trans C8.out.1, (t.cell (Frame.cell_lt C8.out.2) (hne _ (by show b5 ≤ b5 + 1; omega))).trans C8.out.2⟩
      have LS9 : Hid (Gs (lplain rs) (lplain (grs ++ [⟨a7, m7, c7, left.filter (togB (lplain rs) k)⟩])) (left.filter fun o => !togB (lplain rs) k o)) := by
        have h := gs_step HS.out FND.out
        have e : lplain (grs ++ [⟨a7, m7, c7, left.filter (togB (lplain rs) k)⟩]) = lplain grs ++ [left.filter (togB (lplain rs) k)] := by simp [lplain]
        show Gs _ _ _
        rw [e]
        exact h
      have c9L : w9.cell? ⟨bL, 0, none⟩ = some (.slice (some ⟨g, 0, none⟩) m ln) := T9.out.cL
      have HEN9 : ∀ z ∈ left, ∀ w1, OnlyAt (some ⟨g, 0, none⟩) w9 w1 → Calls Try.prog 135 (#[.int .i64 z] ++ #[.pointer (some ⟨b5, 0, none⟩), .pointer (some ⟨b5 + 1, 0, none⟩)]) w1 fun e w2 => e = .returned (.bool (togB (lplain rs) k z)) ∧ w2 = w1 := fun z hz w1 ht =>
        tog_call b5 (b5 + 1) (lplain rs) k z w1 ⟨b5, b5 + 1, br, rfl, (ht.cell (Frame.cell_lt C9.out.1) (fun x hx => by cases hx; show b5 ≠ g; have := Z5.out.1; omega)).trans C9.out.1, LV0.out.below (below_touch T9.out.low ht (fun x hx => by cases hx; exact (own_block T9.out.row _ rfl).1) T9.out.low.size), (ht.cell (Frame.cell_lt C9.out.2) (fun x hx => by cases hx; show b5 + 1 ≠ g; have := Z5.out.1; omega)).trans C9.out.2⟩ HG.out HKR.out (HS.out.mem z hz)
      have CL9 : Hid (∀ z ∈ left, ∀ w1, OnlyAt (some ⟨g, 0, none⟩) w9 w1 → Calls Try.prog 135 (#[.int .i64 z] ++ #[.pointer (some ⟨b5, 0, none⟩), .pointer (some ⟨b5 + 1, 0, none⟩)]) w1 fun e w2 => e = .returned (.bool (togB (lplain rs) k z)) ∧ w2 = w1) := HEN9
      clear hown9 hgrow9 hat9 hlt9 HEN9
      go_wp2_with fail
      refine (Sdf.delete_func g m ln V.heap.size left 135 #[.pointer (some ⟨b5, 0, none⟩), .pointer (some ⟨b5 + 1, 0, none⟩)] (togB (lplain rs) k) _ T9.out.row WF.out HEN.out CL9.out).mono ?_
      rintro e w10 ⟨m10, rfl, ho10, ht10⟩
      have T11 : Hid (Gt w V (w10.setCell ⟨bL, 0, none⟩ (.slice (some ⟨g, 0, none⟩) m10 ln)) br bl bL g m10 ln (left.filter fun o => !togB (lplain rs) k o) (some ⟨g9, 0, none⟩) (gn + 1) c9 (grs ++ [⟨a7, m7, c7, left.filter (togB (lplain rs) k)⟩])) := T9.out.turn ht10 ho10
      have HM10 : Hid (m10 < m) := by
        have h1 := ho10.1
        rw [ints_length] at h1
        have h2 : (left.filter fun o => !togB (lplain rs) k o).length < left.length := List.length_filter_lt_length_iff_exists.2 ⟨k, HKM.out, by rw [tog_refl]; decide⟩
        show m10 < m
        omega
      have c10L : w10.cell? ⟨bL, 0, none⟩ = some (.slice (some ⟨g, 0, none⟩) m ln) := by rw [ht10.cell (Frame.cell_lt T9.out.cL) (fun x hx => by cases hx; exact T9.out.far.2.2.1)]; exact T9.out.cL
      have f10L : w10.frozen? ⟨bL, 0, none⟩ = false := by
        have hb := ht10.block bL (Frame.cell_lt T9.out.cL) (fun x hx => by cases hx; exact T9.out.far.2.2.1)
        have : w10.frozen? ⟨bL, 0, none⟩ = w9.frozen? ⟨bL, 0, none⟩ := by simp [World.frozen?, hb]
        rw [this]; exact T9.out.fL
      have BL11 : Hid (boxLen (w10.setCell ⟨bL, 0, none⟩ (.slice (some ⟨g, 0, none⟩) m10 ln)) bL = m10) := T11.out.len
      have BL0 : Hid (boxLen wr bL = m) := HT.out.len
      clear ho10 ht10 c9L
      go_wp2
      go_roundw
      case rel => exact ⟨m10, _, _, _, _, _, rfl, T11.out, LS9.out⟩
      case measure => rw [BL11.out, BL0.out]; exact HM10.out
    · have hm : m = 0 := by omega
      subst hm
      have hmJ : ¬ ((0 : Nat) : Int) > 0 := by omega
      have hln : left = [] := List.eq_nil_of_length_eq_zero hml
      have F : Hid (lplain grs = groupsN (lplain rs)) := gs_end (by rw [← hln]; exact HS.out)
      have O : Hid (OwnLs wr w.heap.size ga gn gc grs) := ownLs_base HT.out.ls VW.out.size
      have B : Hid (Below w.heap.size w wr) := HT.out.bel
      clear hln hml hm0
      go_wp2
      go_ret
      exact ⟨_, _, _, rfl, grs, O.out, F.out, B.out⟩

theorem lOwn_nil (w : World) (lo hi : Nat) : LOwn w lo hi (.slice none 0 0) [] :=
  ⟨none, 0, 0, [], rfl, ⟨World.ownsRow_nil _ _ _ _, fun r hr => (by cases hr), fun r hr => (by cases hr), List.Pairwise.nil, fun r hr => (by cases hr)⟩, rfl, by simp [totalL, sumL], fun x hx => (by cases hx), fun r hr => (by cases hr)⟩

set_option maxRecDepth 8000 in
set_option maxHeartbeats 1600000 in
theorem impl_GroupsOf (v : Value) (xs : Ll) (w : World) (h : LIs w v xs) :
    Calls Try.prog 28 #[v] w fun e w' => ∃ u, e = .returned (.tuple #[u, .bool (goodG xs)]) ∧ LOwn w' w.heap.size w'.heap.size u (groupsV xs) ∧ Below w.heap.size w w' := by
  obtain ⟨a, n, c, rs, rfl, hr, rfl, ht⟩ := h
  have H : Hid (LIs w (.slice a n c) (lplain rs)) := ⟨a, n, c, rs, rfl, hr, rfl, ht⟩
  have HI : Hid (IsLs w a n c rs) := hr
  clear hr ht
  rcases em_bool (goodG (lplain rs)) with hg | hg
  · have HG : Hid (goodG (lplain rs) = false) := hg
    clear hg
    go_enter Try.func28, Try.ntmps28
    go_wp2_with fail
    refine (impl_GoodLinks _ _ _ H.out).mono ?_
    rintro e w1 ⟨rfl, hb1⟩
    have B1 : Hid (Below w.heap.size w w1) := hb1
    rw [HG.out]
    clear hb1
    go_wp2
    go_ret2
    refine ⟨_, by rw [HG.out]; rfl, ?_, B1.out⟩
    unfold groupsV
    rw [HG.out]
    exact lOwn_nil _ _ _
  · have HG : Hid (goodG (lplain rs) = true) := hg
    have GP : Hid (GoodP (lplain rs)) := good_iff.1 hg
    clear hg
    go_enter Try.func28, Try.ntmps28
    go_wp2_with fail
    refine (impl_GoodLinks _ _ _ H.out).mono ?_
    rintro e w1 ⟨rfl, hb1⟩
    have B1 : Hid (Below w.heap.size w w1) := hb1
    rw [HG.out]
    clear hb1
    go_wp2_with fail
    refine (groupsBy a n c rs _ (IsLs.below HI.out B1.out) GP.out).mono ?_
    rintro e w2 ⟨a', m, c', rs', rfl, ho, hp, hb⟩
    have B2 : Hid (Below w.heap.size w w2) := Frame.next B1.out hb B1.out.size
    have O2 : Hid (LOwn w2 w.heap.size w2.heap.size (.slice a' m c') (groupsV (lplain rs))) := by
      show LOwn _ _ _ _ _
      unfold groupsV
      rw [HG.out]
      have h := lOwn_of (ownLs_base ho B1.out.size) (by rw [hp]; have := groups_total GP.out; unfold ltotal; omega)
      rwa [hp] at h
    clear ho hb hp
    go_wp2
    go_ret2
    exact ⟨_, by rw [HG.out]; rfl, O2.out, B2.out⟩


end Go.Proofs.Ytkondmnkmbdncaa.Glf
