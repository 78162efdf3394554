/-
  Contracts of the model's l8Drop, l8Own.
-/
import Derived.Test.YtkondmnkmbdncaaLki
import Derived.Deep.AppendLies
namespace Go.Proofs.Ytkondmnkmbdncaa.Lkj
open Go.RowKit
open Go.Proofs.Ytkondmnkmbdncaa.Frame Go.Proofs.Ytkondmnkmbdncaa.Mem Go.Proofs.Ytkondmnkmbdncaa.Kep Go.Proofs.Ytkondmnkmbdncaa.Lls Go.Proofs.Ytkondmnkmbdncaa.Knl Go.Proofs.Ytkondmnkmbdncaa.Mis Go.Proofs.Ytkondmnkmbdncaa.Kpi Go.Proofs.Ytkondmnkmbdncaa.Lkp Go.Proofs.Ytkondmnkmbdncaa.Lka Go.Proofs.Ytkondmnkmbdncaa.Lkb Go.Proofs.Ytkondmnkmbdncaa.Lkg Go.Proofs.Ytkondmnkmbdncaa.Lkh Go.Proofs.Ytkondmnkmbdncaa.Lki Go.Proofs.Ytkondmnkmbdncaa.Lks
open Go.Proofs.Ytkondmnkmbdncaa.SLocks (D SIs SOwn)

set_option maxRecDepth 4000 in
set_option maxHeartbeats 1600000 in
theorem spec_Drop (a : Option Addr) (n ca : Nat) (rs : List Int) (who : Int) (w : World) (h : IsRow .i64 w a n ca rs) (hn : n ≤ 100000) :
    Calls Try.prog 121 #[.slice a n ca, .int .i64 who] w fun e w' => ∃ a' m c', e = .returned (.slice a' m c') ∧ m ≤ n ∧ w'.ownsRow w.heap.size 3 1 (.slice a' m c') m (ints .i64 (dropL who rs)) ∧ Below w.heap.size w w' := by
  obtain ⟨i0, hi, hz0, hz1, hz2⟩ := info_parts infoI
  have HI : Hid (IsRow .i64 w a n ca rs) := h
  have HL : Hid (rs.length = n) := h.len
  clear h
  go_enter Try.func121, Try.ntmps121
  go_wp2_with fail
  go_loopw [5, 10] (fun v i wr => ∃ (k m : Nat) (a' : Option Addr) (c' : Nat), k ≤ n ∧ m ≤ k ∧ i = .int .i64 k ∧ v = .slice a' m c' ∧ wr.ownsRow w.heap.size 3 1 (.slice a' m c') m (ints .i64 (dropL who (rs.take k))) ∧ Below w.heap.size w wr) (fun _ i _ => n - (intOf i).toNat)
  case atStart => exact ⟨0, 0, none, 0, Nat.zero_le _, Nat.le_refl _, rfl, rfl, World.ownsRow_nil _ _ _ _, Below.refl _ _⟩
  case round =>
    obtain ⟨k, m, a', c', hk, hmk, rfl, rfl, ho, hnx⟩ := hrel
    have HO : Hid (wr.ownsRow w.heap.size 3 1 (.slice a' m c') m (ints .i64 (dropL who (rs.take k)))) := ho
    have HN : Hid (Below w.heap.size w wr) := hnx
    clear ho
    by_cases hlt : k < n
    · obtain ⟨b, off, rfl, hbl, hc⟩ := HI.out.cells (by omega)
      have hkl : k < rs.length := by rw [HL.out]; exact hlt
      have hck : wr.cell? ⟨b, off + k, none⟩ = some (.int .i64 (rs.getD k 0)) := by rw [hnx.cell (p := ⟨b, off + k, none⟩) hbl]; exact hc k hlt
      have HF : Hid (dropL who (rs.take (k + 1)) = dropL who (rs.take k) ++ (if notB who (rs.getD k 0) then [rs.getD k 0] else [])) := by
        show _ = _
        unfold dropL
        rw [take_succ_getD hkl, List.filter_append, List.filter_cons]
        rfl
      generalize rs.getD k 0 = x at hck HF
      have HO2 : Hid ((wr.alloc (.cells #[.int .i64 x] 3)).ownsRow w.heap.size 3 1 (.slice a' m c') m (ints .i64 (dropL who (rs.take k)))) := own_below HO.out ((Below.refl _ _).alloc (Nat.le_refl _) _)
      have HN2 : Hid (Below w.heap.size w (wr.alloc (.cells #[.int .i64 x] 3))) := HN.out.alloc HN.out.size _
      have S2 : Hid (0 < 1 → ∃ ad, (some ⟨wr.heap.size, 0, none⟩ : Option Addr) = some ad ∧ ∀ j u, ([.int .i64 x] : List Value)[j]? = some u → (wr.alloc (.cells #[.int .i64 x] 3)).cell? (ad.add j) = some u) := news_one wr _ _
      clear hc hnx hkl
      by_cases hx : x = who
      · have hxb : (x != who) = false := by rw [hx]; simp
        have F : Hid (dropL who (rs.take (k + 1)) = dropL who (rs.take k)) := by show _ = _; rw [HF.out, show notB who x = false from hxb]; exact List.append_nil _
        clear hx HF HO2 HN2 S2
        go_wp2
        go_roundw
        case rel => exact ⟨k + 1, m, a', c', by omega, by omega, by go_num, rfl, by rw [F.out]; exact HO.out, HN.out⟩
        case measure => simp [intOf]; omega
      · have hxb : (x != who) = true := by rw [bne_iff_ne]; exact hx
        have F : Hid (dropL who (rs.take (k + 1)) = dropL who (rs.take k) ++ [x]) := by show _ = _; rw [HF.out, show notB who x = true from hxb]; rfl
        clear hx HF
        go_wp2_with (at_builtin; refine App.wpList_append_all _ rfl _ _ 24 rfl w.heap.size 3 i0 (.int .i64 0) 1 8 Try.underlying24 hi hz0 hz1 hz2 rfl (by decide) _ _ _ rfl HO2.out _ 1 _ [.int .i64 x] rfl rfl S2.out (by simp [Value.oneCell']) (by unfold maxLen; omega) (by omega) HN2.out.size ?_)
        intro a4 c4 w4 hown4 hgrow4
        have O4 : Hid (w4.ownsRow w.heap.size 3 1 (.slice a4 (m + 1) c4) (m + 1) (ints .i64 (dropL who (rs.take (k + 1))))) := by show World.ownsRow _ _ _ _ _ _ _; rw [F.out]; simpa [ints] using hown4
        have N4 : Hid (Below w.heap.size w w4) := below_app HN2.out HO2.out hgrow4 HN2.out.size (Nat.le_refl _)
        clear hown4 hgrow4
        go_wp2
        go_roundw
        case rel => exact ⟨k + 1, m + 1, a4, c4, by omega, by omega, by go_num, rfl, O4.out, N4.out⟩
        case measure => simp [intOf]; omega
    · have F : Hid (wr.ownsRow w.heap.size 3 1 (.slice a' m c') m (ints .i64 (dropL who rs))) := by have := HO.out; rwa [List.take_of_length_le (by rw [HL.out]; omega)] at this
      clear hnx
      go_wp2
      go_ret
      exact ⟨_, _, _, rfl, by omega, F.out, HN.out⟩

theorem only_grown {w w' : World} {a : Option Addr} {n c : Nat} (hg : w.grownBy w' (Value.slice a n c).ownBlock) : OnlyAt a w w' := by
  refine ⟨hg.os, hg.tape, hg.output, hg.size, fun k hk hne => hg.block k hk (fun e => ?_)⟩
  cases a with
  | none => simp [Value.ownBlock] at e
  | some x => exact hne x rfl (by simpa [Value.ownBlock] using e)
/-- One list of numbers appended to an empty one. -/
structure App1 (lo : Nat) (w w' : World) (blk : Nat) (a' : Option Addr) (m c' : Nat) (zs : List Int) : Prop where
  own : w'.ownsRow lo 3 1 (.slice a' m c') m (ints .i64 zs)
  lies : ∀ x, a' = some x → x.block = blk ∨ w.heap.size ≤ x.block
  only : OnlyAt (some ⟨blk, 0, none⟩) w w'

theorem step_int (w : World) {ops : Array Oper} {o : Oper} {a : Act} {K : Act → World → Prop} {Q : Exit → Act → World → Prop} {E : Prop} (hgd : o.guard = none) (s x : Operand)
    (ho : o.op = .call { callee := .builtin .append, args := #[s, x], argTypes := #[24, 24] })
    (lo blk : Nat) (sp : Option Addr) (m c : Nat) (zs : List Int) (hx : a.eval x = .slice sp m c) (hs : a.eval s = .slice (some ⟨blk, 0, none⟩) 0 0)
    (hown : w.ownsRow lo 3 1 (.slice (some ⟨blk, 0, none⟩) 0 0) 0 []) (hr : IsRow .i64 w sp m c zs) (hm : m ≤ 1048576)
    (h : ∀ a' c' w', App1 lo w w' blk a' m c' zs → K (a.put o.dst (.slice a' m c')) w') :
    if Region.wanted o (yielded ops a.tmps) = true then Oper.wp Try.prog o a w K Q else E := by
  obtain ⟨i0, hi, hz0, hz1, hz2⟩ := info_parts Ints.info
  have hb := own_block hown _ rfl
  by_cases h0 : 0 < m
  · obtain ⟨ad, rfl, hn⟩ := news_row hr h0
    refine step_append_lies w hgd s x 24 ho lo 3 i0 (.int .i64 0) 1 8 Try.underlying24 hi hz0 hz1 hz2 rfl (by decide) _ 0 [] hs hown ad m c (ints .i64 zs) hx (by rw [ints_length, hr.len]; omega) hn (one_int _) h0 (by unfold maxLen; omega) (by omega) (Nat.le_of_lt (Nat.lt_of_le_of_lt hb.1 hb.2)) _ rfl (fun g cap w' h2 h3 h4 _ => ?_)
    rw [Nat.zero_add] at h2 ⊢
    rw [List.nil_append] at h2
    refine h _ _ w' ⟨h2, fun x hx => ?_, only_grown h3⟩
    cases hx
    rcases h4 with h4 | h4
    · simp [Value.ownBlock] at h4
      exact Or.inl h4.symm
    · exact Or.inr (Nat.le_of_eq h4.symm)
  · obtain rfl : m = 0 := by omega
    have hz : zs = [] := List.eq_nil_of_length_eq_zero hr.len
    subst hz
    have hrun := App.run_append_zero (P := Try.prog) w lo 24 o.type 3 i0 1 Try.underlying24 hi _ 0 [] hown sp c
    have hw : Region.wanted o (yielded ops a.tmps) = true := by simp [Region.wanted, hgd]
    rw [if_pos hw]
    unfold Oper.wp
    simp [execOp, ho, resolve, invoke, builtin, hs, hx, hrun, Result.andThen]
    exact h _ _ w ⟨hown, fun x hx => by cases hx; exact Or.inl rfl, OnlyAt.refl _ _⟩

set_option maxRecDepth 8000
/-- []int{} as a step of a region that draws its order. -/
theorem step_empty (w : World) {ops : Array Oper} {o : Oper} {a : Act} {K : Act → World → Prop} {Q : Exit → Act → World → Prop} {E : Prop} (hgd : o.guard = none) (ho : o.op = .buildSlice 24 0 #[])
    (h : ∀ V, V.ownsRow w.heap.size 3 1 (.slice (some ⟨w.heap.size, 0, none⟩) 0 0) 0 [] → Below w.heap.size w V → V.heap.size = w.heap.size + 1 → K (a.put o.dst (.slice (some ⟨w.heap.size, 0, none⟩) 0 0)) V) :
    if Region.wanted o (yielded ops a.tmps) = true then Oper.wp Try.prog o a w K Q else E := by
  have hw : Region.wanted o (yielded ops a.tmps) = true := by simp [Region.wanted, hgd]
  have h1 := h (w.alloc (.cells #[] 3)) (own_zero w w.heap.size _ 1 _ rfl (Nat.le_refl _)) ((Below.refl _ _).alloc (Nat.le_refl _) _) (by simp)
  clear h
  rw [if_pos hw]
  unfold Oper.wp
  simp only [execOp, ho]
  go_simp
  exact h1
/-- A struct of locks of its own as a step of a region that draws its order. -/
structure Box (W : World) (b : Nat) (x y z : Value) : Prop where
  c0 : W.cell? ⟨b, 0, none⟩ = some x
  c1 : W.cell? ⟨b, 1, none⟩ = some y
  c2 : W.cell? ⟨b, 2, none⟩ = some z
  f0 : W.frozen? ⟨b, 0, none⟩ = false
  f1 : W.frozen? ⟨b, 1, none⟩ = false
  f2 : W.frozen? ⟨b, 2, none⟩ = false
theorem step_box (w : World) {ops : Array Oper} {o : Oper} {a : Act} {K : Act → World → Prop} {Q : Exit → Act → World → Prop} {E : Prop} (hgd : o.guard = none) (ho : o.op = .alloc 26)
    (h : ∀ V, Box V w.heap.size (.slice none 0 0) (.slice none 0 0) (.slice none 0 0) → Below w.heap.size w V → V.heap.size = w.heap.size + 1 → K (a.put o.dst (.pointer (some ⟨w.heap.size, 0, none⟩))) V) :
    if Region.wanted o (yielded ops a.tmps) = true then Oper.wp Try.prog o a w K Q else E := by
  have hw : Region.wanted o (yielded ops a.tmps) = true := by simp [Region.wanted, hgd]
  have h1 := h (w.alloc (.cells #[.slice none 0 0, .slice none 0 0, .slice none 0 0] 26)) ⟨by rw [World.cell?_alloc_at _ _ _ _ rfl]; rfl, by rw [World.cell?_alloc_at _ _ _ _ rfl]; rfl, by rw [World.cell?_alloc_at _ _ _ _ rfl]; rfl, World.frozen?_alloc_at _ _ _ _ rfl, World.frozen?_alloc_at _ _ _ _ rfl, World.frozen?_alloc_at _ _ _ _ rfl⟩ ((Below.refl _ _).alloc (Nat.le_refl _) _) (by simp)
  clear h
  rw [if_pos hw]
  unfold Oper.wp
  simp only [execOp, ho]
  go_simp
  exact h1

theorem far_new {V : World} {p : Option Addr} (h : ∀ x, p = some x → x.block < V.heap.size) : Far p (some ⟨V.heap.size, 0, none⟩) := fun x y hx hy => by cases hy; exact Nat.ne_of_lt (h x hx)
theorem App1.far {lo b m c : Nat} {V V' : World} {a p : Option Addr} {zs : List Int} (A : App1 lo V V' b a m c zs) (h : ∀ x, p = some x → x.block < V.heap.size) (f : Far p (some ⟨b, 0, none⟩)) : Far p a := fun x y hx hy => by
  have h1 := h x hx
  have h2 := f x _ hx rfl
  rcases A.lies y hy with e | e
  · rw [e]; exact h2
  · omega
theorem Box.below {V V' : World} {b : Nat} {x y z : Value} (h : Box V b x y z) (hb : Below V.heap.size V V') : Box V' b x y z :=
  ⟨Frame.held_cell hb h.c0, Frame.held_cell hb h.c1, Frame.held_cell hb h.c2, (hb.frozen (Frame.cell_lt h.c0)).trans h.f0, (hb.frozen (Frame.cell_lt h.c1)).trans h.f1, (hb.frozen (Frame.cell_lt h.c2)).trans h.f2⟩
theorem Box.touch {V V' : World} {b : Nat} {a : Option Addr} {x y z : Value} (h : Box V b x y z) (t : OnlyAt a V V') (f : ∀ u, a = some u → u.block ≠ b) : Box V' b x y z :=
  ⟨only_cell t f h.c0, only_cell t f h.c1, only_cell t f h.c2, only_frozen t f h.c0 h.f0, only_frozen t f h.c1 h.f1, only_frozen t f h.c2 h.f2⟩
abbrev NV : Value := .slice none 0 0
/-- What stands of the first statement of l8Own, in whatever order. -/
structure St (P V : World) (lo : Nat) (px : Option Addr) (nx kx : Nat) (xs : List Int) (py : Option Addr) (ny ky : Nat) (ys : List Int) (pb : Option Addr) : Prop where
  ox : V.ownsRow lo 3 1 (.slice px nx kx) nx (ints .i64 xs)
  oy : V.ownsRow lo 3 1 (.slice py ny ky) ny (ints .i64 ys)
  bx : ∀ x, pb = some x → lo ≤ x.block ∧ Box V x.block NV NV NV
  xy : Far px py
  xb : Far px pb
  yb : Far py pb
  below : Below P.heap.size P V
  lop : lo ≤ P.heap.size ∧ P.heap.size ≤ lo
theorem St.start (P : World) (lo : Nat) (h : lo = P.heap.size) : St P P.drew lo none 0 0 [] none 0 0 [] none :=
  ⟨World.ownsRow_nil _ _ _ _, World.ownsRow_nil _ _ _ _, fun _ h => (by cases h), fun _ _ h => (by cases h), fun _ _ h => (by cases h), fun _ _ h => (by cases h), (Below.refl _ _).drew, ⟨Nat.le_of_eq h, Nat.le_of_eq h.symm⟩⟩
section
variable {P V V' : World} {lo : Nat} {px py pb : Option Addr} {nx kx ny ky : Nat} {xs ys : List Int}
theorem St.size (h : St P V lo px nx kx xs py ny ky ys pb) : lo ≤ V.heap.size := Nat.le_trans h.lop.1 h.below.size
theorem St.ltb (h : St P V lo px nx kx xs py ny ky ys pb) : ∀ x, pb = some x → x.block < V.heap.size := fun x hx => by have := Frame.cell_lt (h.bx x hx).2.c0; exact this
theorem St.newx (h : St P V lo none 0 0 [] py ny ky ys pb) (o : V'.ownsRow V.heap.size 3 1 (.slice (some ⟨V.heap.size, 0, none⟩) 0 0) 0 []) (hb : Below V.heap.size V V') : St P V' lo (some ⟨V.heap.size, 0, none⟩) 0 0 [] py ny ky ys pb :=
  ⟨own_base o h.size, own_below h.oy hb, fun x hx => ⟨(h.bx x hx).1, (h.bx x hx).2.below hb⟩, Far.symm (far_new (fun x hx => (own_block h.oy x hx).2)), Far.symm (far_new h.ltb), h.yb, Frame.next h.below hb h.below.size, h.lop⟩
theorem St.newy (h : St P V lo px nx kx xs none 0 0 [] pb) (o : V'.ownsRow V.heap.size 3 1 (.slice (some ⟨V.heap.size, 0, none⟩) 0 0) 0 []) (hb : Below V.heap.size V V') : St P V' lo px nx kx xs (some ⟨V.heap.size, 0, none⟩) 0 0 [] pb :=
  ⟨own_below h.ox hb, own_base o h.size, fun x hx => ⟨(h.bx x hx).1, (h.bx x hx).2.below hb⟩, far_new (fun x hx => (own_block h.ox x hx).2), h.xb, Far.symm (far_new h.ltb), Frame.next h.below hb h.below.size, h.lop⟩
theorem St.newb (h : St P V lo px nx kx xs py ny ky ys none) (o : Box V' V.heap.size NV NV NV) (hb : Below V.heap.size V V') : St P V' lo px nx kx xs py ny ky ys (some ⟨V.heap.size, 0, none⟩) :=
  ⟨own_below h.ox hb, own_below h.oy hb, fun x hx => by cases hx; exact ⟨h.size, o⟩, h.xy, far_new (fun x hx => (own_block h.ox x hx).2), far_new (fun x hx => (own_block h.oy x hx).2), Frame.next h.below hb h.below.size, h.lop⟩
theorem St.appx {b m c : Nat} {a : Option Addr} {zs : List Int} (h : St P V lo (some ⟨b, 0, none⟩) 0 0 [] py ny ky ys pb) (A : App1 lo V V' b a m c zs) : St P V' lo a m c zs py ny ky ys pb :=
  ⟨A.own, own_touch h.oy A.only (Far.symm h.xy), fun x hx => ⟨(h.bx x hx).1, (h.bx x hx).2.touch A.only (fun u hu => h.xb u x hu hx)⟩, Far.symm (A.far (fun x hx => (own_block h.oy x hx).2) (Far.symm h.xy)), Far.symm (A.far h.ltb (Far.symm h.xb)), h.yb, below_touch h.below A.only (fun u hu => by cases hu; exact Nat.le_trans h.lop.2 (own_block h.ox _ rfl).1) h.below.size, h.lop⟩
theorem St.appy {b m c : Nat} {a : Option Addr} {zs : List Int} (h : St P V lo px nx kx xs (some ⟨b, 0, none⟩) 0 0 [] pb) (A : App1 lo V V' b a m c zs) : St P V' lo px nx kx xs a m c zs pb :=
  ⟨own_touch h.ox A.only h.xy, A.own, fun x hx => ⟨(h.bx x hx).1, (h.bx x hx).2.touch A.only (fun u hu => h.yb u x hu hx)⟩, A.far (fun x hx => (own_block h.ox x hx).2) h.xy, h.xb, Far.symm (A.far h.ltb (Far.symm h.yb)), below_touch h.below A.only (fun u hu => by cases hu; exact Nat.le_trans h.lop.2 (own_block h.oy _ rfl).1) h.below.size, h.lop⟩
end
/-- What the first statement of l8Own leaves. -/
structure New2 (P W : World) (lo : Nat) (px : Option Addr) (nx kx : Nat) (xs : List Int) (py : Option Addr) (ny ky : Nat) (ys : List Int) (b : Nat) : Prop where
  ox : W.ownsRow lo 3 1 (.slice px nx kx) nx (ints .i64 xs)
  oy : W.ownsRow lo 3 1 (.slice py ny ky) ny (ints .i64 ys)
  lob : lo ≤ b
  bx : Box W b NV (.slice px nx kx) (.slice py ny ky)
  xy : Far px py
  xb : Far px (some ⟨b, 0, none⟩)
  yb : Far py (some ⟨b, 0, none⟩)
  below : Below P.heap.size P W
theorem Box.set {V : World} {b : Nat} {x y z x' y' z' : Value} (h : Box V b x y z) : Box (((V.setCell ⟨b, 0, none⟩ x').setCell ⟨b, 1, none⟩ y').setCell ⟨b, 2, none⟩ z') b x' y' z' := by
  have d : ∀ (W : World) (o o' : Nat) (v : Value), o ≠ o' → (W.setCell ⟨b, o, none⟩ v).cell? ⟨b, o', none⟩ = W.cell? ⟨b, o', none⟩ := fun W o o' v e => World.cell?_setCell_other _ _ _ _ (by intro h; cases h; exact e rfl)
  have k : ∀ (W : World) (o : Nat) (v u : Value), W.cell? ⟨b, o, none⟩ = some u → (W.setCell ⟨b, o, none⟩ v).cell? ⟨b, o, none⟩ = some v := fun W o v u h => World.cell?_setCell_same' _ _ _ (by rw [h]; rfl)
  refine ⟨?_, ?_, ?_, ?_, ?_, ?_⟩
  · rw [d _ _ _ _ (by omega), d _ _ _ _ (by omega)]; exact k _ _ _ _ h.c0
  · rw [d _ _ _ _ (by omega)]; exact k _ _ _ y ((d V 0 1 x' (by omega)).trans h.c1)
  · exact k _ _ _ z (((d (V.setCell ⟨b, 0, none⟩ x') 1 2 y' (by omega)).trans (d V 0 2 x' (by omega))).trans h.c2)
  · simp only [World.frozen?_setCell]; exact h.f0
  · simp only [World.frozen?_setCell]; exact h.f1
  · simp only [World.frozen?_setCell]; exact h.f2
theorem St.fin {P V : World} {lo : Nat} {px py : Option Addr} {nx kx ny ky b : Nat} {xs ys : List Int} (h : St P V lo px nx kx xs py ny ky ys (some ⟨b, 0, none⟩)) :
    New2 P (((V.setCell ⟨b, 0, none⟩ NV).setCell ⟨b, 1, none⟩ (.slice px nx kx)).setCell ⟨b, 2, none⟩ (.slice py ny ky)) lo px nx kx xs py ny ky ys b := by
  have hb := (h.bx _ rfl).2
  have hl := (h.bx _ rfl).1
  have t0 := only_set V b 0 NV
  have t1 := only_set (V.setCell ⟨b, 0, none⟩ NV) b 1 (.slice px nx kx)
  have t2 := only_set ((V.setCell ⟨b, 0, none⟩ NV).setCell ⟨b, 1, none⟩ (.slice px nx kx)) b 2 (.slice py ny ky)
  have fx : ∀ o, Far px (some ⟨b, o, none⟩) := fun o x y hx hy => by cases hy; have := h.xb x ⟨b, 0, none⟩ hx rfl; exact this
  have fy : ∀ o, Far py (some ⟨b, o, none⟩) := fun o x y hx hy => by cases hy; have := h.yb x ⟨b, 0, none⟩ hx rfl; exact this
  have lp := h.lop
  simp only at hl
  exact ⟨own_touch (own_touch (own_touch h.ox t0 (fx 0)) t1 (fx 1)) t2 (fx 2), own_touch (own_touch (own_touch h.oy t0 (fy 0)) t1 (fy 1)) t2 (fy 2), hl, Box.set hb, h.xy, h.xb, h.yb, ((h.below.setCell (by show P.heap.size ≤ b; omega) _).setCell (by show P.heap.size ≤ b; omega) _).setCell (by show P.heap.size ≤ b; omega) _⟩
theorem ls_push {W W' : World} {base m c c' : Nat} {a a' : Option Addr} {rs : List LV} {r : LV} (h : OwnLs W base a m c rs) (hr : W.ownsRow base 3 1 (.slice r.a r.n r.c) r.n (ints .i64 r.zs)) (hw : ∀ z ∈ r.zs, (Lit.int .i64 z).wf = true) (hf : ∀ s ∈ rs, Far s.a r.a)
    (hg : W.grownBy W' (Value.slice a m c).ownBlock) (ho : W'.ownsRow base 24 1 (.slice a' (m + 1) c') (m + 1) (lcells (rs ++ [r]))) : OwnLs W' base a' (m + 1) c' (rs ++ [r]) := by
  have kept : ∀ s ∈ rs ++ [r], W'.ownsRow base 3 1 (.slice s.a s.n s.c) s.n (ints .i64 s.zs) := fun s hs => by
    rcases List.mem_append.1 hs with hs | hs
    · exact Sc.own_kept (h.inner s hs) h.outer Sc.intNe hg
    · rw [List.mem_singleton.1 hs]; exact Sc.own_kept hr h.outer Sc.intNe hg
  refine ⟨ho, kept, fun s hs => ?_, ?_, fun s hs => Far.symm (Sc.own_far (kept s hs) ho Sc.intNe)⟩
  · rcases List.mem_append.1 hs with hs | hs
    · exact h.wf s hs
    · rw [List.mem_singleton.1 hs]; exact hw
  · rw [List.pairwise_append]
    refine ⟨h.apart, List.pairwise_singleton _ _, fun s hs t ht => ?_⟩
    rw [List.mem_singleton.1 ht]
    exact hf s hs
theorem Box.set0 {V : World} {b : Nat} {x y z x' : Value} (h : Box V b x y z) : Box (V.setCell ⟨b, 0, none⟩ x') b x' y z := by
  have d : ∀ (W : World) (o o' : Nat) (v : Value), o ≠ o' → (W.setCell ⟨b, o, none⟩ v).cell? ⟨b, o', none⟩ = W.cell? ⟨b, o', none⟩ := fun W o o' v e => World.cell?_setCell_other _ _ _ _ (by intro h; cases h; exact e rfl)
  refine ⟨World.cell?_setCell_same' _ _ _ (by rw [h.c0]; rfl), (d _ _ _ _ (by omega)).trans h.c1, (d _ _ _ _ (by omega)).trans h.c2, ?_, ?_, ?_⟩
  · simp only [World.frozen?_setCell]; exact h.f0
  · simp only [World.frozen?_setCell]; exact h.f1
  · simp only [World.frozen?_setCell]; exact h.f2
/-- Rows in the making: what stands at a round of l8Own's loop. -/
structure Mid (P W : World) (lo : Nat) (b0 : Option Addr) (k k0 : Nat) (xs : List LV) (a1 : Option Addr) (k1 : Nat) (ws : List Int) (a2 : Option Addr) (n2 k2 : Nat) (os : List Int) (b : Nat) : Prop where
  rows : OwnLs W lo b0 k k0 xs
  nums : W.ownsRow lo 3 1 (.slice a1 4 k1) 4 (ints .i64 ws)
  over : W.ownsRow lo 3 1 (.slice a2 n2 k2) n2 (ints .i64 os)
  lob : lo ≤ b
  bx : Box W b (.slice b0 k k0) (.slice a1 4 k1) (.slice a2 n2 k2)
  f01 : Far b0 a1
  f02 : Far b0 a2
  f0b : Far b0 (some ⟨b, 0, none⟩)
  fr1 : ∀ r ∈ xs, Far r.a a1
  fr2 : ∀ r ∈ xs, Far r.a a2
  frb : ∀ r ∈ xs, Far r.a (some ⟨b, 0, none⟩)
  f12 : Far a1 a2
  f1b : Far a1 (some ⟨b, 0, none⟩)
  f2b : Far a2 (some ⟨b, 0, none⟩)
  below : Below P.heap.size P W
section
variable {P W W' : World} {lo k k0 k1 n2 k2 b : Nat} {b0 a1 a2 : Option Addr} {xs : List LV} {ws os : List Int}
theorem Mid.start (h : New2 P W lo a1 4 k1 ws a2 n2 k2 os b) : Mid P W lo none 0 0 [] a1 k1 ws a2 n2 k2 os b :=
  ⟨⟨World.ownsRow_nil _ _ _ _, fun _ h => (by cases h), fun _ h => (by cases h), List.Pairwise.nil, fun _ h => (by cases h)⟩, h.ox, h.oy, h.lob, h.bx, fun _ _ h => (by cases h), fun _ _ h => (by cases h), fun _ _ h => (by cases h), fun _ h => (by cases h), fun _ h => (by cases h), fun _ h => (by cases h), h.xy, h.xb, h.yb, h.below⟩
theorem Mid.next (h : Mid P W lo b0 k k0 xs a1 k1 ws a2 n2 k2 os b) (hb : Below W.heap.size W W') : Mid P W' lo b0 k k0 xs a1 k1 ws a2 n2 k2 os b :=
  ⟨h.rows.below hb, own_below h.nums hb, own_below h.over hb, h.lob, h.bx.below hb, h.f01, h.f02, h.f0b, h.fr1, h.fr2, h.frb, h.f12, h.f1b, h.f2b, Frame.next h.below hb h.below.size⟩
theorem Mid.push {g cap : Nat} {r : LV} (h : Mid P W lo b0 k k0 xs a1 k1 ws a2 n2 k2 os b) (hP : P.heap.size ≤ lo) (hr : W.ownsRow lo 3 1 (.slice r.a r.n r.c) r.n (ints .i64 r.zs)) (hw : ∀ z ∈ r.zs, (Lit.int .i64 z).wf = true)
    (hf : ∀ s ∈ xs, Far s.a r.a) (hr1 : Far r.a a1) (hr2 : Far r.a a2) (hrb : Far r.a (some ⟨b, 0, none⟩))
    (ho : W'.ownsRow lo 24 1 (.slice (some ⟨g, 0, none⟩) (k + 1) cap) (k + 1) (lcells (xs ++ [r]))) (hg : W.grownBy W' (Value.slice b0 k k0).ownBlock) (hl : (Value.slice b0 k k0).ownBlock = some g ∨ g = W.heap.size) :
    Mid P (W'.setCell ⟨b, 0, none⟩ (.slice (some ⟨g, 0, none⟩) (k + 1) cap)) lo (some ⟨g, 0, none⟩) (k + 1) cap (xs ++ [r]) a1 k1 ws a2 n2 k2 os b := by
  have t := only_grown hg
  have t2 := only_set W' b 0 (.slice (some ⟨g, 0, none⟩) (k + 1) cap)
  have lb := Frame.cell_lt h.bx.c0
  have gl : ∀ p : Option Addr, (∀ x, p = some x → x.block < W.heap.size) → Far b0 p → Far (some ⟨g, 0, none⟩) p := fun p hp f x y hx hy => by
    cases hx
    rcases hl with e | e
    · cases b0 with
      | none => simp [Value.ownBlock] at e
      | some u => simp [Value.ownBlock] at e; subst e; exact f u y rfl hy
    · have := hp y hy; show g ≠ _; omega
  have g1 := gl a1 (fun x hx => (own_block h.nums x hx).2) h.f01
  have g2 := gl a2 (fun x hx => (own_block h.over x hx).2) h.f02
  have gb := gl (some ⟨b, 0, none⟩) (fun x hx => by cases hx; exact lb) h.f0b
  have fr : ∀ (p : Option Addr), (∀ r ∈ xs, Far r.a p) → Far r.a p → ∀ s ∈ xs ++ [r], Far s.a p := fun p h1 h2 s hs => by
    rcases List.mem_append.1 hs with hs | hs
    · exact h1 s hs
    · rw [List.mem_singleton.1 hs]; exact h2
  have frb := fr _ h.frb hrb
  refine ⟨Krl.ownLs_touch (ls_push h.rows hr hw hf hg ho) t2 (Far.symm gb) (fun s hs => Far.symm (frb s hs)), own_touch (own_touch h.nums t (Far.symm h.f01)) t2 h.f1b, own_touch (own_touch h.over t (Far.symm h.f02)) t2 h.f2b, h.lob, (h.bx.touch t (fun u hu => h.f0b u _ hu rfl)).set0, g1, g2, gb, fr _ h.fr1 hr1, fr _ h.fr2 hr2, frb, h.f12, h.f1b, h.f2b, ?_⟩
  exact (below_touch h.below t (fun x hx => Nat.le_trans hP (own_block h.rows.outer x hx).1) h.below.size).setCell (Nat.le_trans hP h.lob) _
end
/-- [][]int{x} as a step of a region that draws its order. -/
theorem step_one (w : World) {ops : Array Oper} {o : Oper} {a : Act} {K : Act → World → Prop} {Q : Exit → Act → World → Prop} {E : Prop} (hgd : o.guard = none) (x : Operand) (ho : o.op = .buildSlice 23 1 #[(0, x)]) (sp : Option Addr) (n c : Nat) (hx : a.eval x = .slice sp n c)
    (h : ∀ V, (∀ i u, ([.slice sp n c] : List Value)[i]? = some u → V.cell? ((⟨w.heap.size, 0, none⟩ : Addr).add i) = some u) → Below w.heap.size w V → V.heap.size = w.heap.size + 1 → K (a.put o.dst (.slice (some ⟨w.heap.size, 0, none⟩) 1 1)) V) :
    if Region.wanted o (yielded ops a.tmps) = true then Oper.wp Try.prog o a w K Q else E := by
  have hw : Region.wanted o (yielded ops a.tmps) = true := by simp [Region.wanted, hgd]
  have hn : ∀ i u, ([.slice sp n c] : List Value)[i]? = some u → (w.alloc (.cells #[.slice sp n c] 24)).cell? ((⟨w.heap.size, 0, none⟩ : Addr).add i) = some u := by
    obtain ⟨ad, e, h⟩ := news_one w (.slice sp n c) 24 (by omega)
    cases e
    exact h
  have h1 := h (w.alloc (.cells #[.slice sp n c] 24)) hn ((Below.refl _ _).alloc (Nat.le_refl _) _) (by simp)
  clear h hn
  rw [if_pos hw]
  unfold Oper.wp
  simp only [execOp, ho, List.map_toArray, List.map_cons, List.map_nil, hx]
  go_simp
  exact h1
structure L5 (F M : World → Option Addr → Nat → Option Addr → Nat → Nat → Prop) : Prop where
  out : ∀ W a b c d e, F W a b c d e → M W a b c d e
theorem later5 {G : Prop} (F : World → Option Addr → Nat → Option Addr → Nat → Nat → Prop) {M : World → Option Addr → Nat → Option Addr → Nat → Nat → Prop} (k : L5 F M → G) (pf : ∀ W a b c d e, F W a b c d e → M W a b c d e) : G := k ⟨pf⟩


end Go.Proofs.Ytkondmnkmbdncaa.Lkj
