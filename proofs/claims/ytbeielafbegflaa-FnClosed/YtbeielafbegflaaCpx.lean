/-
  What a witness shows, and what follows of what follows (no program's text is asked).
-/
import Derived.Test.YtbeielafbegflaaWpu
import Derived.Test.YtbeielafbegflaaHia
namespace Go.Proofs.Ytbeielafbegflaa.Cpx
open Go.Proofs.Ytbeielafbegflaa.Rel Go.Proofs.Ytbeielafbegflaa.Cpu Go.Proofs.Ytbeielafbegflaa.Csd Go.Proofs.Ytbeielafbegflaa.Wpu Go.Proofs.Ytbeielafbegflaa.Hia
abbrev Dp := Cpu.Dp

theorem up_names (c : Nat) : UpN (namesC c) := by
  unfold UpN namesC
  rw [List.pairwise_map]
  exact List.Pairwise.imp (fun {a b} h => by omega) (List.pairwise_lt_range (n := c))
theorem idx_names {c : Nat} {z : Int} (h0 : 0 ≤ z) (h1 : z < (c : Int)) : Lib.idxOf (namesC c) z = z := by
  have k : (namesC c).getD z.toNat 0 = z := by
    unfold namesC
    simp only [List.getD, List.getElem?_map, List.getElem?_range (show z.toNat < c by omega), Option.map_some, Option.getD_some]
    omega
  have := upN_idx (up_names c) (k := z.toNat) (by rw [names_length]; omega)
  rw [k] at this
  omega
theorem pick_zero (c : Nat) (ns zs : List Int) : pick ns (List.replicate c 0) zs = zs.map fun _ => 0 := by
  unfold pick
  refine List.map_congr_left (fun z _ => ?_)
  simp only [List.getD, List.getElem?_replicate]
  split <;> rfl
theorem pick_unl {c : Nat} {ds : List Dp} {us zs : List Int} (h : ∀ z ∈ zs, 0 ≤ z ∧ z < (c : Int)) : pick (namesC c) (unl ds us c) zs = zs.map fun z => if clB ds us z.toNat then 0 else 1 := by
  unfold pick
  refine List.map_congr_left (fun z hz => ?_)
  have := h z hz
  rw [idx_names this.1 this.2]
  unfold unl
  simp only [List.getD, List.getElem?_map, List.getElem?_range (show z.toNat < c by omega), Option.map_some, Option.getD_some]
theorem pick_same {c : Nat} {ds : List Dp} {us zs : List Int} (h : ∀ z ∈ zs, 0 ≤ z ∧ z < (c : Int)) : decide (pick (namesC c) (unl ds us c) zs = pick (namesC c) (List.replicate c 0) zs) = zs.all fun z => clB ds us z.toNat := by
  rw [pick_unl h, pick_zero, Bool.eq_iff_iff, decide_eq_true_eq, List.map_inj_left, List.all_eq_true]
  constructor
  · intro k z hz
    have := k z hz
    cases hc : clB ds us z.toNat
    · rw [hc] at this; exact absurd this (by decide)
    · rfl
  · intro k z hz
    rw [k z hz]
    rfl
theorem holds_two (ns x y : List Int) (d : Dp) : holdsB (ns, [x, y]) d = pairB (ns, [x, y]) d y x := by
  simp [holdsB, toB, rowB, List.range_succ]

/-- The witness of a sentence that does not follow: it is a relation, the sentence does not hold in it, and all those given do. -/
theorem witness {cols : Int} {ds : List Dp} {d : Dp} {c : Nat} (hc : cols = (c : Int)) (hg : goodD cols ds = true) (hd : depB cols d = true) (h : impB ds d = false) :
    holdG (namesC c, [List.replicate c 0, unl ds d.1 c]) d = true ∧ holdsB (namesC c, [List.replicate c 0, unl ds d.1 c]) d = false ∧ ∀ x ∈ ds, holdG (namesC c, [List.replicate c 0, unl ds d.1 c]) x = true ∧ holdsB (namesC c, [List.replicate c 0, unl ds d.1 c]) x = true := by
  obtain ⟨hC, h1, h6, _, hall⟩ := cols_of hg
  have hc6 : c ≤ 6 := by omega
  have hgood := (wit_good hc hc6 hd h).2
  have within : ∀ x : Dp, depB cols x = true → (∀ z ∈ x.1, 0 ≤ z ∧ z < (c : Int)) ∧ (∀ z ∈ x.2, 0 ≤ z ∧ z < (c : Int)) := fun x hx => by
    unfold depB at hx
    rw [Bool.and_eq_true, rise_iff, rise_iff] at hx
    exact ⟨fun z hz => by have := hx.1.1 z hz; omega, fun z hz => by have := hx.2.1 z hz; omega⟩
  have sub : ∀ zs : List Int, riseB 0 (cols - 1) zs = true → subB (namesC c) zs = true := fun zs hz => by
    rw [rise_iff] at hz
    unfold subB
    rw [Bool.and_eq_true, rise_iff, List.all_eq_true]
    exact ⟨fun z k => decide_eq_true (by have := hz.1 z k; rw [idx_names this.1 (by omega)]; exact this.1), fun z k => by have := hz.1 z k; omega, hz.2⟩
  have isG : ∀ x : Dp, depB cols x = true → holdG (namesC c, [List.replicate c 0, unl ds d.1 c]) x = true := fun x hx => by
    unfold depB at hx
    rw [Bool.and_eq_true] at hx
    unfold holdG
    rw [Bool.and_eq_true, Bool.and_eq_true]
    exact ⟨⟨hgood, sub _ hx.1⟩, sub _ hx.2⟩
  have hdc := within d hd
  refine ⟨isG d hd, ?_, fun x hx => ⟨isG x (hall x hx), ?_⟩⟩
  · rw [holds_two]
    show (!(decide (pick (namesC c) (unl ds d.1 c) d.1 = pick (namesC c) (List.replicate c 0) d.1)) || decide (pick (namesC c) (unl ds d.1 c) d.2 = pick (namesC c) (List.replicate c 0) d.2)) = false
    rw [pick_same hdc.1, pick_same hdc.2, Bool.or_eq_false_iff, Bool.not_eq_false']
    refine ⟨List.all_eq_true.2 (fun z hz => clB_iff.2 (Cl.base (by have := hdc.1 z hz; rw [show ((z.toNat : Nat) : Int) = z by omega]; exact hz))), ?_⟩
    cases hh : d.2.all fun z => clB ds d.1 z.toNat
    · rfl
    · have : impB ds d = true := insideB_iff.2 (fun z hz => (mem_clL hC (fun z hz => by have := hdc.1 z hz; omega)).2 (by
        have k := clB_iff.1 ((List.all_eq_true.1 hh) z hz)
        have := hdc.2 z hz
        rwa [show ((z.toNat : Nat) : Int) = z by omega] at k))
      rw [h] at this
      cases this
  · have hxc := within x (hall x hx)
    rw [holds_two]
    show (!(decide (pick (namesC c) (unl ds d.1 c) x.1 = pick (namesC c) (List.replicate c 0) x.1)) || decide (pick (namesC c) (unl ds d.1 c) x.2 = pick (namesC c) (List.replicate c 0) x.2)) = true
    rw [pick_same hxc.1, pick_same hxc.2]
    cases hh : x.1.all fun z => clB ds d.1 z.toNat
    · rfl
    · rw [Bool.not_true, Bool.false_or]
      refine List.all_eq_true.2 (fun z hz => clB_iff.2 (Cl.step hx (fun y hy => ?_) (by have := hxc.2 z hz; rw [show ((z.toNat : Nat) : Int) = z by omega]; exact hz)))
      have k := clB_iff.1 ((List.all_eq_true.1 hh) y hy)
      have := hxc.1 y hy
      rwa [show ((y.toNat : Nat) : Int) = y by omega] at k
theorem holdV_no {r : Rl} {d : Dp} (h : holdsB r d = false) : holdV r d = false := by unfold holdV; rw [h, Bool.and_false]
theorem holdV_yes {r : Rl} {d : Dp} (h : holdG r d = true) (h1 : holdsB r d = true) : holdV r d = true := by unfold holdV; rw [h, h1]; rfl

theorem shown {cols : Int} {ds : List Dp} {d : Dp} (hg : impG cols ds d = true) (h : impB ds d = false) : holdV (witV cols ds d) d = false ∧ holdG (witV cols ds d) d = true ∧ ∀ x ∈ ds, holdV (witV cols ds d) x = true ∧ holdG (witV cols ds d) x = true := by
  have hw : witG cols ds d = true := by unfold witG; rw [hg, h]; rfl
  have hg' := hg
  unfold impG at hg'
  rw [Bool.and_eq_true] at hg'
  have e : witV cols ds d = (namesC cols.toNat, [List.replicate cols.toNat 0, unl ds d.1 cols.toNat]) := by unfold witV; rw [if_pos hw]
  have h1 := (cols_of hg'.1).2.1
  obtain ⟨k1, k2, k3⟩ := witness (c := cols.toNat) (by omega) hg'.1 hg'.2 h
  rw [e]
  exact ⟨holdV_no k2, k1, fun x hx => ⟨holdV_yes (k3 x hx).1 (k3 x hx).2, (k3 x hx).1⟩⟩

/-- What follows of what follows is what follows. -/
theorem again {cols : Int} {ds : List Dp} {zs : List Int} (h : closG cols ds zs = true) : closG cols ds (closV cols ds zs) = true ∧ closV cols ds (closV cols ds zs) = closV cols ds zs := by
  have e : closV cols ds zs = clL ds zs := by unfold closV; rw [if_pos h]
  rw [e]
  have h' := h
  unfold closG at h'
  rw [Bool.and_eq_true] at h'
  obtain ⟨hg, hz⟩ := h'
  obtain ⟨hC, h1, h6, _, hall⟩ := cols_of hg
  have hz6 := rise_cols hz h6
  have hzc := (rise_iff.1 hz).1
  have hin : ∀ z ∈ clL ds zs, 0 ≤ z ∧ z ≤ cols - 1 := fun z hz => by
    have k := (mem_clL hC hz6).1 hz
    refine Cl.least (p := fun z => 0 ≤ z ∧ z ≤ cols - 1) (fun z hz => hzc z hz) (fun d hd _ z hz => ?_) k
    have := hall d hd
    unfold depB at this
    rw [Bool.and_eq_true, rise_iff, rise_iff] at this
    exact this.2.1 z hz
  have h6' : ∀ z ∈ clL ds zs, 0 ≤ z ∧ z < 6 := fun z hz => by have := hin z hz; omega
  have g2 : closG cols ds (clL ds zs) = true := by
    unfold closG
    rw [Bool.and_eq_true, rise_iff]
    exact ⟨hg, hin, up_listI _⟩
  refine ⟨g2, ?_⟩
  unfold closV
  rw [if_pos g2]
  refine upN_told (up_listI _) (up_listI _) (fun s => ?_)
  show s ∈ clL ds (clL ds zs) ↔ s ∈ clL ds zs
  rw [mem_clL hC h6', mem_clL hC hz6]
  exact ⟨fun k => Cl.least (p := fun z => Cl ds (fun z => z ∈ zs) z) (fun z hz => (mem_clL hC hz6).1 hz) (fun d hd k z hz => Cl.step hd k hz) k, fun k => Cl.base ((mem_clL hC hz6).2 k)⟩


end Go.Proofs.Ytbeielafbegflaa.Cpx
