/-
  Locks in memory that the call owns, each list in blocks of its own; what stays of them where one row, one number or the last list is changed.
-/
import Derived.Test.YtkondmnkmbdncaaSLocks
import Derived.Test.YtkondmnkmbdncaaSc
namespace Go.Proofs.Ytkondmnkmbdncaa.Lks
open Go.RowKit
open Go.Proofs.Ytkondmnkmbdncaa.Frame Go.Proofs.Ytkondmnkmbdncaa.Mem Go.Proofs.Ytkondmnkmbdncaa.Kep Go.Proofs.Ytkondmnkmbdncaa.Lls Go.Proofs.Ytkondmnkmbdncaa.Knl Go.Proofs.Ytkondmnkmbdncaa.Krl Go.Proofs.Ytkondmnkmbdncaa.Kfp
open Go.Proofs.Ytkondmnkmbdncaa.SLocks (D SOwn)

structure OwnK (lo : Nat) (W : World) (g0 c0 : Nat) (rs : List LV) (g1 c1 : Nat) (ws : List Int) (a2 : Option Addr) (n2 c2 : Nat) (os : List Int) : Prop where
  rows : OwnLs W lo (some ⟨g0, 0, none⟩) 4 c0 rs
  nums : W.ownsRow lo 3 1 (.slice (some ⟨g1, 0, none⟩) 4 c1) 4 (ints .i64 ws)
  over : W.ownsRow lo 3 1 (.slice a2 n2 c2) n2 (ints .i64 os)
  wf1 : ∀ z ∈ ws, (Lit.int .i64 z).wf = true
  wf2 : ∀ z ∈ os, (Lit.int .i64 z).wf = true
  f01 : g0 ≠ g1
  fr1 : ∀ r ∈ rs, Far r.a (some ⟨g1, 0, none⟩)
  f02 : Far (some ⟨g0, 0, none⟩) a2
  fr2 : ∀ r ∈ rs, Far r.a a2
  f12 : Far (some ⟨g1, 0, none⟩) a2
/-- A block that is none of theirs. -/
structure OffK (b : Nat) (g0 : Nat) (rs : List LV) (g1 : Nat) (a2 : Option Addr) : Prop where
  o0 : b ≠ g0
  orr : ∀ r ∈ rs, ∀ x, r.a = some x → x.block ≠ b
  o1 : b ≠ g1
  o2 : ∀ x, a2 = some x → x.block ≠ b

section
variable {lo g0 c0 g1 c1 n2 c2 : Nat} {W W' : World} {rs : List LV} {ws os : List Int} {a2 : Option Addr}
theorem OwnK.len (h : OwnK lo W g0 c0 rs g1 c1 ws a2 n2 c2 os) : rs.length = 4 := h.rows.len
theorem OwnK.wlen (h : OwnK lo W g0 c0 rs g1 c1 ws a2 n2 c2 os) : ws.length = 4 := by have := h.nums.1; rw [ints_length] at this; omega
theorem OwnK.olen (h : OwnK lo W g0 c0 rs g1 c1 ws a2 n2 c2 os) : os.length = n2 := by have := h.over.1; rw [ints_length] at this; omega
theorem OwnK.lt0 (h : OwnK lo W g0 c0 rs g1 c1 ws a2 n2 c2 os) : lo ≤ g0 ∧ g0 < W.heap.size := own_block h.rows.outer _ rfl
theorem OwnK.lt1 (h : OwnK lo W g0 c0 rs g1 c1 ws a2 n2 c2 os) : lo ≤ g1 ∧ g1 < W.heap.size := own_block h.nums _ rfl
theorem OwnK.lt2 (h : OwnK lo W g0 c0 rs g1 c1 ws a2 n2 c2 os) : ∀ x, a2 = some x → lo ≤ x.block ∧ x.block < W.heap.size := own_block h.over
theorem OwnK.ltr (h : OwnK lo W g0 c0 rs g1 c1 ws a2 n2 c2 os) : ∀ r ∈ rs, ∀ x, r.a = some x → lo ≤ x.block ∧ x.block < W.heap.size := h.rows.lt
theorem OwnK.below (h : OwnK lo W g0 c0 rs g1 c1 ws a2 n2 c2 os) (hb : Below W.heap.size W W') : OwnK lo W' g0 c0 rs g1 c1 ws a2 n2 c2 os :=
  ⟨h.rows.below hb, own_below h.nums hb, own_below h.over hb, h.wf1, h.wf2, h.f01, h.fr1, h.f02, h.fr2, h.f12⟩
theorem OwnK.base {lo' : Nat} (h : OwnK lo W g0 c0 rs g1 c1 ws a2 n2 c2 os) (hl : lo' ≤ lo) : OwnK lo' W g0 c0 rs g1 c1 ws a2 n2 c2 os :=
  ⟨ownLs_base h.rows hl, own_base h.nums hl, own_base h.over hl, h.wf1, h.wf2, h.f01, h.fr1, h.f02, h.fr2, h.f12⟩
theorem OwnK.touch {b o : Nat} (h : OwnK lo W g0 c0 rs g1 c1 ws a2 n2 c2 os) (f : OffK b g0 rs g1 a2) (t : OnlyAt (some ⟨b, o, none⟩) W W') : OwnK lo W' g0 c0 rs g1 c1 ws a2 n2 c2 os :=
  ⟨ownLs_touch h.rows t (fun x y hx hy => by cases hx; cases hy; exact f.o0) (fun r hr x y hx hy e => by cases hx; exact f.orr r hr y hy e.symm), own_touch h.nums t (fun x y hx hy => by cases hx; cases hy; exact fun e => f.o1 e.symm), own_touch h.over t (fun x y hx hy => by cases hy; exact f.o2 x hx), h.wf1, h.wf2, h.f01, h.fr1, h.f02, h.fr2, h.f12⟩
theorem only_set (W : World) (b o : Nat) (v : Value) : OnlyAt (some ⟨b, o, none⟩) W (W.setCell ⟨b, o, none⟩ v) := (OnlyAt.refl _ W).setCell (fun x hx => by cases hx; rfl) (by simp) _
theorem OwnK.setOff {b : Nat} (h : OwnK lo W g0 c0 rs g1 c1 ws a2 n2 c2 os) (f : OffK b g0 rs g1 a2) (o : Nat) (v : Value) : OwnK lo (W.setCell ⟨b, o, none⟩ v) g0 c0 rs g1 c1 ws a2 n2 c2 os := h.touch f (only_set W b o v)
theorem OwnK.off {b : Nat} (h : OwnK lo W g0 c0 rs g1 c1 ws a2 n2 c2 os) (hb : b < lo ∨ W.heap.size ≤ b) : OffK b g0 rs g1 a2 := by
  have h0 := h.lt0
  have h1 := h.lt1
  exact ⟨by omega, fun r hr x hx => by have := h.ltr r hr x hx; omega, by omega, fun x hx => by have := h.lt2 x hx; omega⟩
/-- A row is put into its place. -/
theorem OwnK.setRow {k : Nat} {r : LV} (h : OwnK lo W g0 c0 rs g1 c1 ws a2 n2 c2 os) (hk : k < 4) (hr : W.ownsRow lo 3 1 (.slice r.a r.n r.c) r.n (ints .i64 r.zs)) (hw : ∀ z ∈ r.zs, (Lit.int .i64 z).wf = true)
    (hfo : ∀ j, j < 4 → j ≠ k → Far (rs.getD j ld).a r.a) (hf0 : Far (some ⟨g0, 0, none⟩) r.a) (hf1 : Far r.a (some ⟨g1, 0, none⟩)) (hf2 : Far r.a a2) :
    OwnK lo (W.setCell ⟨g0, k, none⟩ (.slice r.a r.n r.c)) g0 c0 (rs.set k r) g1 c1 ws a2 n2 c2 os := by
  have hl := h.len
  have e : rs = rs.take k ++ rs.getD k ld :: rs.drop (k + 1) := by rw [← drop_succ_ld (by omega), List.take_append_drop]
  have e2 : rs.set k r = rs.take k ++ r :: rs.drop (k + 1) := by rw [List.set_eq_take_append_cons_drop, if_pos (by omega)]
  have ho := h.rows
  rw [e] at ho
  have hkl : (rs.take k).length = k := by rw [List.length_take]; omega
  have hp := OwnLs.put ho hr hw (fun s hs => by
    obtain ⟨j, hj, rfl⟩ := List.getElem_of_mem hs
    have hj' : j < k := by simp at hj; omega
    have := hfo j (by omega) (by omega)
    rwa [show rs.getD j ld = (rs.take k)[j] by simp [List.getD, show j < rs.length by omega]] at this) (fun s hs => by
    obtain ⟨j, hj, rfl⟩ := List.getElem_of_mem hs
    have hj' : k + 1 + j < 4 := by simp at hj; omega
    have := hfo (k + 1 + j) hj' (by omega)
    rw [show rs.getD (k + 1 + j) ld = (rs.drop (k + 1))[j] by simp [List.getD, show k + 1 + j < rs.length by omega]] at this
    exact this.symm) hf0
  rw [hkl] at hp
  rw [e2]
  have hmem : ∀ s, s ∈ rs.take k ++ r :: rs.drop (k + 1) → s = r ∨ s ∈ rs := fun s hs => by
    rcases List.mem_append.1 hs with hs | hs
    · exact .inr (List.mem_of_mem_take hs)
    · rcases List.mem_cons.1 hs with hs | hs
      · exact .inl hs
      · exact .inr (List.mem_of_mem_drop hs)
  refine ⟨hp, own_touch h.nums (only_set W g0 k _) (fun x y hx hy => by cases hx; cases hy; exact fun e => h.f01 e.symm), own_touch h.over (only_set W g0 k _) (fun x y hx hy => by cases hy; exact fun e => h.f02 _ x rfl hx e.symm), h.wf1, h.wf2, h.f01, fun s hs => ?_, h.f02, fun s hs => ?_, h.f12⟩
  · rcases hmem s hs with rfl | hs
    · exact hf1
    · exact h.fr1 s hs
  · rcases hmem s hs with rfl | hs
    · exact hf2
    · exact h.fr2 s hs
/-- A row that was made later is put into its place. -/
theorem OwnK.setNew {k B : Nat} {r : LV} (h : OwnK lo W g0 c0 rs g1 c1 ws a2 n2 c2 os) (hk : k < 4) (hr : W.ownsRow B 3 1 (.slice r.a r.n r.c) r.n (ints .i64 r.zs)) (hw : ∀ z ∈ r.zs, (Lit.int .i64 z).wf = true) (hB : lo ≤ B)
    (hb : g0 < B ∧ g1 < B ∧ (∀ x, a2 = some x → x.block < B) ∧ ∀ s ∈ rs, ∀ x, s.a = some x → x.block < B) : OwnK lo (W.setCell ⟨g0, k, none⟩ (.slice r.a r.n r.c)) g0 c0 (rs.set k r) g1 c1 ws a2 n2 c2 os := by
  have hq := own_block hr
  have hl := h.len
  exact h.setRow hk (own_base hr hB) hw (fun j hj _ x y hx hy => by have h1 := hb.2.2.2 _ (getD_mem_ld (rs := rs) (i := j) (by omega)) x hx; have h2 := hq y hy; omega) (fun x y hx hy => by cases hx; have h2 := hq y hy; have := hb.1; show g0 ≠ _; omega) (fun x y hx hy => by cases hy; have h2 := hq x hx; have := hb.2.1; show _ ≠ g1; omega) (fun x y hx hy => by have h1 := hb.2.2.1 y hy; have h2 := hq x hx; omega)
theorem OwnK.lt (h : OwnK lo W g0 c0 rs g1 c1 ws a2 n2 c2 os) : g0 < W.heap.size ∧ g1 < W.heap.size ∧ (∀ x, a2 = some x → x.block < W.heap.size) ∧ ∀ s ∈ rs, ∀ x, s.a = some x → x.block < W.heap.size := ⟨h.lt0.2, h.lt1.2, fun x hx => (h.lt2 x hx).2, fun s hs x hx => (h.ltr s hs x hx).2⟩
/-- A row, whose block may have been written behind its end, gives way to one that was made later. -/
theorem OwnK.swap {k B : Nat} {r : LV} (h : OwnK lo W g0 c0 rs g1 c1 ws a2 n2 c2 os) (hk : k < 4) (t : OnlyAt (rs.getD k ld).a W W') (hr : W'.ownsRow B 3 1 (.slice r.a r.n r.c) r.n (ints .i64 r.zs)) (hw : ∀ z ∈ r.zs, (Lit.int .i64 z).wf = true) (hB : lo ≤ B)
    (hb : g0 < B ∧ g1 < B ∧ (∀ x, a2 = some x → x.block < B) ∧ ∀ s ∈ rs, ∀ x, s.a = some x → x.block < B) : OwnK lo (W'.setCell ⟨g0, k, none⟩ (.slice r.a r.n r.c)) g0 c0 (rs.set k r) g1 c1 ws a2 n2 c2 os := by
  have hl := h.len
  have hq := own_block hr
  have g : ∀ j (hj : j < rs.length), rs.getD j ld = rs[j] := fun j hj => by simp [List.getD, hj]
  have hm := getD_mem_ld (rs := rs) (i := k) (by omega)
  have hp := h.rows.apart
  rw [List.pairwise_iff_getElem] at hp
  have far : ∀ j (hj : j < rs.length), j ≠ k → Far (rs.getD k ld).a rs[j].a := fun j hj hne => by
    rw [g k (by omega)]
    rcases Nat.lt_or_gt_of_ne hne with h1 | h1
    · exact (hp j k hj (by omega) h1).symm
    · exact hp k j (by omega) hj h1
  have hmem : ∀ s, s ∈ rs.set k r → s = r ∨ ∃ j, ∃ hj : j < rs.length, j ≠ k ∧ s = rs[j] := fun s hs => by
    obtain ⟨j, hj, rfl⟩ := List.getElem_of_mem hs
    rw [List.length_set] at hj
    rw [List.getElem_set]
    by_cases e : k = j
    · exact .inl (by rw [if_pos e])
    · exact .inr ⟨j, hj, fun e' => e e'.symm, by rw [if_neg e]⟩
  have f0 : Far (some ⟨g0, 0, none⟩) r.a := fun x y hx hy => by cases hx; have h2 := hq y hy; have := hb.1; show g0 ≠ _; omega
  have fn : ∀ s ∈ rs, Far s.a r.a := fun s hs x y hx hy => by have h1 := hb.2.2.2 s hs x hx; have h2 := hq y hy; omega
  have outer := own_touch h.rows.outer t (fun x y hx hy => h.rows.apart0 _ hm x y hx hy)
  have hst := (outer.stored k (.slice r.a r.n r.c)).1
  rw [show (lcells rs).set k (.slice r.a r.n r.c) = lcells (rs.set k r) by unfold lcells lcell; rw [List.map_set]] at hst
  refine ⟨⟨hst, fun s hs => ?_, fun s hs => ?_, ?_, fun s hs => ?_⟩, own_touch (own_touch h.nums t (fun x y hx hy => (h.fr1 _ hm).symm x y hx hy)) (only_set W' g0 k _) (fun x y hx hy => by cases hx; cases hy; exact fun e => h.f01 e.symm), own_touch (own_touch h.over t (fun x y hx hy => (h.fr2 _ hm).symm x y hx hy)) (only_set W' g0 k _) (fun x y hx hy => by cases hy; exact fun e => h.f02 _ x rfl hx e.symm), h.wf1, h.wf2, h.f01, fun s hs => ?_, h.f02, fun s hs => ?_, h.f12⟩
  · rcases hmem s hs with rfl | ⟨j, hj, hne, rfl⟩
    · exact own_touch (own_base hr hB) (only_set W' g0 k _) (fun x y hx hy => by cases hy; exact f0.symm x ⟨g0, 0, none⟩ hx rfl)
    · exact own_touch (own_touch (h.rows.inner _ (List.getElem_mem hj)) t (fun x y hx hy => (far j hj hne).symm x y hx hy)) (only_set W' g0 k _) (fun x y hx hy => by cases hy; exact (h.rows.apart0 _ (List.getElem_mem hj)).symm x ⟨g0, 0, none⟩ hx rfl)
  · rcases hmem s hs with rfl | ⟨j, hj, hne, rfl⟩
    · exact hw
    · exact h.rows.wf _ (List.getElem_mem hj)
  · rw [List.pairwise_iff_getElem]
    intro i j hi hj hij
    rw [List.length_set] at hi hj
    rw [List.getElem_set, List.getElem_set]
    by_cases e1 : k = i
    · rw [if_pos e1, if_neg (by omega)]; exact (fn _ (List.getElem_mem hj)).symm
    · rw [if_neg e1]
      by_cases e2 : k = j
      · rw [if_pos e2]; exact fn _ (List.getElem_mem hi)
      · rw [if_neg e2]; exact hp i j hi hj hij
  · rcases hmem s hs with rfl | ⟨j, hj, hne, rfl⟩
    · exact f0
    · exact h.rows.apart0 _ (List.getElem_mem hj)
  · rcases hmem s hs with rfl | ⟨j, hj, hne, rfl⟩
    · exact fun x y hx hy => by cases hy; have h2 := hq x hx; have := hb.2.1; show _ ≠ g1; omega
    · exact h.fr1 _ (List.getElem_mem hj)
  · rcases hmem s hs with rfl | ⟨j, hj, hne, rfl⟩
    · exact fun x y hx hy => by have h1 := hb.2.2.1 y hy; have h2 := hq x hx; omega
    · exact h.fr2 _ (List.getElem_mem hj)
/-- A row is put where it is. -/
theorem OwnK.setSame {k : Nat} (h : OwnK lo W g0 c0 rs g1 c1 ws a2 n2 c2 os) (hk : k < 4) : OwnK lo (W.setCell ⟨g0, k, none⟩ (.slice (rs.getD k ld).a (rs.getD k ld).n (rs.getD k ld).c)) g0 c0 rs g1 c1 ws a2 n2 c2 os := by
  have hl := h.len
  have hm := getD_mem_ld (rs := rs) (i := k) (by omega)
  have hp := h.rows.apart
  rw [List.pairwise_iff_getElem] at hp
  have g : ∀ j (hj : j < rs.length), rs.getD j ld = rs[j] := fun j hj => by simp [List.getD, hj]
  have hs := h.setRow (r := rs.getD k ld) hk (h.rows.inner _ hm) (h.rows.wf _ hm) (fun j hj hne => by
    rw [g j (by omega), g k (by omega)]
    rcases Nat.lt_or_gt_of_ne hne with h1 | h1
    · exact hp j k (by omega) (by omega) h1
    · exact (hp k j (by omega) (by omega) h1).symm) (h.rows.apart0 _ hm) (h.fr1 _ hm) (h.fr2 _ hm)
  have e : rs.set k (rs.getD k ld) = rs := by rw [g k (by omega)]; exact List.set_getElem_self _
  rwa [e] at hs
/-- A number is put into its place. -/
theorem OwnK.setNum {k : Nat} {z : Int} (h : OwnK lo W g0 c0 rs g1 c1 ws a2 n2 c2 os) (hz : (Lit.int .i64 z).wf = true) : OwnK lo (W.setCell ⟨g1, k, none⟩ (.int .i64 z)) g0 c0 rs g1 c1 (ws.set k z) a2 n2 c2 os := by
  have hst := (h.nums.stored k (.int .i64 z)).1
  rw [show (ints .i64 ws).set k (.int .i64 z) = ints .i64 (ws.set k z) by unfold ints; rw [List.map_set]] at hst
  exact ⟨ownLs_touch h.rows (only_set W g1 k _) (fun x y hx hy => by cases hx; cases hy; exact fun e => h.f01 e.symm) (fun r hr x y hx hy => by cases hx; exact fun e => h.fr1 r hr y _ hy rfl e.symm), hst, own_touch h.over (only_set W g1 k _) (fun x y hx hy => by cases hy; exact fun e => h.f12 _ x rfl hx e.symm), fun x hx => (List.mem_or_eq_of_mem_set hx).elim (h.wf1 x) (fun e => e ▸ hz), h.wf2, h.f01, h.fr1, h.f02, h.fr2, h.f12⟩
/-- The last list grows by one. -/
theorem OwnK.push {a' : Option Addr} {c' : Nat} {z : Int} (h : OwnK lo W g0 c0 rs g1 c1 ws a2 n2 c2 os) (ho : W'.ownsRow lo 3 1 (.slice a' (n2 + 1) c') (n2 + 1) (ints .i64 (os ++ [z]))) (hg : W.grownBy W' (Value.slice a2 n2 c2).ownBlock) (hz : (Lit.int .i64 z).wf = true)
    (hat : ∀ x, a' = some x → (∃ y, a2 = some y ∧ y.block = x.block) ∨ W.heap.size ≤ x.block) : OwnK lo W' g0 c0 rs g1 c1 ws a' (n2 + 1) c' (os ++ [z]) := by
  have t := Sc.only_grown hg
  have hl := h.lt
  refine ⟨ownLs_touch h.rows t h.f02.symm (fun r hr => (h.fr2 r hr).symm), own_touch h.nums t (fun x y hx hy => by cases hx; exact h.f12 _ y rfl hy), ho, h.wf1, fun x hx => ?_, h.f01, h.fr1, fun x y hx hy => ?_, fun r hr x y hx hy => ?_, fun x y hx hy => ?_⟩
  · rcases List.mem_append.1 hx with hx | hx
    · exact h.wf2 x hx
    · rw [List.mem_singleton.1 hx]; exact hz
  · cases hx
    rcases hat y hy with ⟨y', e1, e2⟩ | h1
    · rw [← e2]; exact h.f02 _ y' rfl e1
    · have := hl.1; show g0 ≠ _; omega
  · rcases hat y hy with ⟨y', e1, e2⟩ | h1
    · rw [← e2]; exact h.fr2 r hr x y' hx e1
    · have := hl.2.2.2 r hr x hx; omega
  · cases hx
    rcases hat y hy with ⟨y', e1, e2⟩ | h1
    · rw [← e2]; exact h.f12 _ y' rfl e1
    · have := hl.2.1; show g1 ≠ _; omega
/-- They lie in places of their own. -/
theorem OwnK.sown {lo' : Nat} (h : OwnK lo W g0 c0 rs g1 c1 ws a2 n2 c2 os) (ht : totalL rs ≤ 1048576) (hn : n2 ≤ 1048576) (hl : lo' ≤ lo) : SOwn W lo' W.heap.size (.slice (some ⟨g0, 0, none⟩) 4 c0) (.slice (some ⟨g1, 0, none⟩) 4 c1) (.slice a2 n2 c2) (lplain rs, ws, os) := by
  have h' := h.base hl
  refine ⟨fun b => b = g0 ∨ ∃ r ∈ rs, ∃ x, r.a = some x ∧ x.block = b, fun b => b = g1, fun b => ∃ x, a2 = some x ∧ x.block = b, ⟨?_, ?_, ?_⟩, ⟨rs, ⟨_, _, _, rfl, h'.rows, ht, fun x hx => by cases hx; exact h'.lt0, fun r hr x hx => h'.ltr r hr x hx⟩, rfl, fun x hx => by cases hx; exact .inl rfl, fun r hr x hx => .inr ⟨r, hr, x, hx, rfl⟩⟩, ⟨⟨_, _, _, rfl, h'.nums, h'.wf1, by omega, fun x hx => by cases hx; exact h'.lt1⟩, fun x hx => by cases hx; rfl⟩, ⟨⟨_, _, _, rfl, h'.over, h'.wf2, hn, fun x hx => h'.lt2 x hx⟩, fun x hx => ⟨x, hx, rfl⟩⟩⟩
  · rintro b (rfl | ⟨r, hr, x, hx, rfl⟩) e
    · exact h.f01 e
    · exact h.fr1 r hr x _ hx rfl e
  · rintro b (rfl | ⟨r, hr, x, hx, rfl⟩) ⟨y, hy, e⟩
    · exact h.f02 _ y rfl hy e.symm
    · exact h.fr2 r hr x y hx hy e.symm
  · rintro b rfl ⟨y, hy, e⟩
    exact h.f12 _ y rfl hy e.symm
end


end Go.Proofs.Ytkondmnkmbdncaa.Lks
