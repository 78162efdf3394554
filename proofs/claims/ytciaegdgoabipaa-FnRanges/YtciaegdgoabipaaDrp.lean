/-
  Contract of the model's l2Drop: the rows of another key, by append.
-/
import Derived.Test.YtciaegdgoabipaaOwn
namespace Go.Proofs.Ytciaegdgoabipaa.Drp
open Go.RowKit
open Go.Proofs.Ytciaegdgoabipaa.Frame Go.Proofs.Ytciaegdgoabipaa.Mem Go.Proofs.Ytciaegdgoabipaa.Vals Go.Proofs.Ytciaegdgoabipaa.Rws Go.Proofs.Ytciaegdgoabipaa.Val Go.Proofs.Ytciaegdgoabipaa.Tab Go.Proofs.Ytciaegdgoabipaa.Reg Go.Proofs.Ytciaegdgoabipaa.Gtab Go.Proofs.Ytciaegdgoabipaa.Cpy Go.Proofs.Ytciaegdgoabipaa.Own

theorem isRows_outer {w : World} {base : Nat} {a : Option Addr} {n cap : Nat} {rs : List RowV} (h0 : w.ownsRow base 26 2 (.slice a n cap) n (rcells rs)) (hrows : ∀ r ∈ rs, (Lit.int .i64 r.key).wf = true ∧ IsVals w r.a r.n r.c r.vs) : IsRows w a n cap rs := by
  have h00 := h0
  obtain ⟨h1, h2⟩ := h00
  have hn : rs.length = n := by rw [rcells_length] at h1; omega
  rcases h2 with ⟨hv, rfl⟩ | ⟨g, cap', cur, hv, hg, hh, hnc, hcap, hsz, htake⟩
  · simp only [Value.slice.injEq] at hv
    obtain ⟨rfl, _, rfl⟩ := hv
    exact ⟨hn, Nat.le_refl _, by simp [maxLen], hrows, fun h => absurd h (by omega)⟩
  · simp only [Value.slice.injEq] at hv
    obtain ⟨rfl, _, rfl⟩ := hv
    refine ⟨hn, hnc, hcap, hrows, fun _ => ⟨g, 0, rfl, ?_, fun i hi => ?_⟩⟩
    · by_cases hx : g < w.heap.size
      · exact hx
      · rw [Array.getElem?_eq_none (by omega)] at hh; cases hh
    · have := rcells_get rs i (by omega)
      rw [Nat.zero_add, h0.cellAt (i * 2) (by omega), h0.cellAt (i * 2 + 1) (by omega)]
      exact this

/-- An append to a list of the call's own leaves what was there. -/
theorem below_append {w W w1 : World} {base : Nat} {e : TypeId} {size : Nat} {a : Option Addr} {n c : Nat} {xs : List Value} (hb : Below base w W) (ho : W.ownsRow base e size (.slice a n c) n xs) (hg : W.grownBy w1 (Value.slice a n c).ownBlock) (hB : base ≤ W.heap.size) : Below base w w1 :=
  below_grown hb hg hB (fun g' hg' => by
    cases ha : a with
    | none => rw [ha] at hg'; simp [Value.ownBlock] at hg'
    | some x =>
      rw [ha] at hg'
      simp only [Value.ownBlock, Option.some.injEq] at hg'
      have := (own_block ho x ha).1
      omega)

def dropK (key : Int) (rs : List RowV) : List RowV := rs.filter fun r => decide (r.key ≠ key)

theorem dropK_le (key : Int) (rs : List RowV) : (dropK key rs).length ≤ rs.length := List.length_filter_le _ _

theorem dropK_take_same (key : Int) (rs : List RowV) (k : Nat) (h : k < rs.length) (e : (rs.getD k rd).key = key) : dropK key (rs.take (k + 1)) = dropK key (rs.take k) := by
  rw [take_succ_rd h]
  generalize rs.getD k rd = r at e ⊢
  unfold dropK
  rw [List.filter_append]
  simp [e]

theorem dropK_take_new (key : Int) (rs : List RowV) (k : Nat) (h : k < rs.length) (e : (rs.getD k rd).key ≠ key) : dropK key (rs.take (k + 1)) = dropK key (rs.take k) ++ [rs.getD k rd] := by
  rw [take_succ_rd h]
  generalize rs.getD k rd = r at e ⊢
  unfold dropK
  rw [List.filter_append]
  simp [e]

set_option maxRecDepth 4000 in
set_option maxHeartbeats 800000 in
theorem spec_l2Drop (a : Option Addr) (n cap : Nat) (rs : List RowV) (key : Int) (w : World) (h : IsRows w a n cap rs) (hn : n ≤ 1048576) :
    Calls Try.prog 55 #[.slice a n cap, .int .i64 key] w fun e w' => ∃ a' c', e = .returned (.slice a' (dropK key rs).length c') ∧ w'.ownsRow w.heap.size 26 2 (.slice a' (dropK key rs).length c') (dropK key rs).length (rcells (dropK key rs)) ∧ IsRows w' a' (dropK key rs).length c' (dropK key rs) ∧ Below w.heap.size w w' := by
  obtain ⟨i0, hi, hz0, hz1, hz2⟩ := info_parts infoR
  have HL : Hid (rs.length = n) := h.len
  have HI : Hid (IsRows w a n cap rs) := h
  clear h
  go_enter Try.func55, Try.ntmps55
  go_wp2_with fail
  go_loopw [5, 10] (fun o i wr => ∃ (k : Nat) (a' : Option Addr) (c' : Nat), k ≤ n ∧ i = .int .i64 k ∧ o = .slice a' (dropK key (rs.take k)).length c' ∧ wr.ownsRow w.heap.size 26 2 (.slice a' (dropK key (rs.take k)).length c') (dropK key (rs.take k)).length (rcells (dropK key (rs.take k))) ∧ Below w.heap.size w wr) (fun _ i _ => n - (intOf i).toNat)
  case atStart => exact ⟨0, none, 0, Nat.zero_le _, rfl, rfl, World.ownsRow_nil _ _ _ _, Below.refl _ _⟩
  case round =>
    obtain ⟨k, a', c', hk, rfl, rfl, ho, hnx⟩ := hrel
    have HN : Hid (Below w.heap.size w wr) := hnx
    have hsr := hnx.size
    have hle : (dropK key (rs.take k)).length ≤ n := Nat.le_trans (dropK_le _ _) (by simp; omega)
    by_cases hlt : k < n
    · obtain ⟨b, off, rfl, hbl, hc⟩ := HI.out.cells (by omega)
      have hkl : k < rs.length := by rw [HL.out]; exact hlt
      have p0 : wr.cell? ⟨b, off + k * 2, none⟩ = some (.int .i64 (rs.getD k rd).key) := by rw [HN.out.cell (p := ⟨b, off + k * 2, none⟩) hbl]; exact (hc k hlt).1
      have p1 : wr.cell? ⟨b, off + k * 2 + 1, none⟩ = some (.slice (rs.getD k rd).a (rs.getD k rd).n (rs.getD k rd).c) := by rw [HN.out.cell (p := ⟨b, off + k * 2 + 1, none⟩) hbl]; exact (hc k hlt).2
      have hkI : (k : Int) < (n : Int) := by omega
      have HS : Hid ((rs.getD k rd).key = key → dropK key (rs.take (k + 1)) = dropK key (rs.take k)) := dropK_take_same key rs k hkl
      have HW : Hid ((rs.getD k rd).key ≠ key → dropK key (rs.take (k + 1)) = dropK key (rs.take k) ++ [rs.getD k rd]) := dropK_take_new key rs k hkl
      generalize hds : dropK key (rs.take k) = ds at ho hle HS HW ⊢
      generalize hdn : dropK key (rs.take (k + 1)) = dn at HS HW
      have HDn : Hid (dropK key (rs.take (k + 1)) = dn) := hdn
      have HO : Hid (wr.ownsRow w.heap.size 26 2 (.slice a' ds.length c') ds.length (rcells ds)) := ho
      generalize rs.getD k rd = r at p0 p1 HS HW
      obtain ⟨rk, ra, rn, rc, rvs⟩ := r
      simp only at p0 p1
      have HS2 : Hid (rk = key → dn = ds) := HS.out
      have HW2 : Hid (rk ≠ key → dn = ds ++ [⟨rk, ra, rn, rc, rvs⟩]) := HW.out
      clear hc hkl HS HW hds hdn ho hnx
      by_cases hE : rk = key
      · have F : Hid (dn = ds) := HS2.out hE
        subst hE
        clear HS2 HW2
        have HO2 : Hid ((wr.alloc (.cells #[.int .i64 rk, .slice ra rn rc] 26)).ownsRow w.heap.size 26 2 (.slice a' ds.length c') ds.length (rcells ds)) := HO.out.alloc _
        go_wp2
        go_roundw
        case rel => exact ⟨k + 1, a', c', by omega, by go_num, by rw [HDn.out, F.out], by rw [HDn.out, F.out]; exact HO2.out, HN.out.alloc hsr _⟩
        case measure => simp [intOf]; omega
      · have F : Hid (dn = ds ++ [⟨rk, ra, rn, rc, rvs⟩]) := HW2.out hE
        have hEb : (rk == key) = false := by simpa using hE
        clear HS2 HW2 hE
        have HO2 : Hid (((wr.alloc (.cells #[.int .i64 rk, .slice ra rn rc] 26)).alloc (.cells #[.int .i64 rk, .slice ra rn rc] 26)).ownsRow w.heap.size 26 2 (.slice a' ds.length c') ds.length (rcells ds)) := (HO.out.alloc _).alloc _
        have HN2 : Hid (Below w.heap.size w ((wr.alloc (.cells #[.int .i64 rk, .slice ra rn rc] 26)).alloc (.cells #[.int .i64 rk, .slice ra rn rc] 26))) := (HN.out.alloc hsr _).alloc (by simp; omega) _
        have hNB : ∀ j u, ([Value.int .i64 rk, .slice ra rn rc] : List Value)[j]? = some u → ((wr.alloc (.cells #[.int .i64 rk, .slice ra rn rc] 26)).alloc (.cells #[.int .i64 rk, .slice ra rn rc] 26)).cell? ((⟨wr.heap.size + 1, 0, none⟩ : Addr).add j) = some u := by
          have := World.news_of_block (heap_alloc_new (wr.alloc (.cells #[.int .i64 rk, .slice ra rn rc] 26)) (.cells #[.int .i64 rk, .slice ra rn rc] 26))
          simpa using this
        go_wp2_with (at_builtin; refine wpList_append_lies _ rfl _ _ 23 rfl w.heap.size 26 i0 (.agg #[.int .i64 0, .slice none 0 0]) 2 32 Try.underlying23 hi hz0 hz1 hz2 rfl (by decide) _ _ _ rfl HO2.out ⟨wr.heap.size + 1, 0, none⟩ 1 1 [.int .i64 rk, .slice ra rn rc] rfl rfl hNB ?c2 (by decide) ?c3 ?c4 HN2.out.size _ rfl ?_)
        case c2 => intro u hu; simp only [List.mem_cons, List.not_mem_nil, or_false] at hu; rcases hu with rfl | rfl <;> rfl
        case c3 => unfold maxLen; omega
        case c4 => omega
        intro g cap' w3 hown3 hgrow _ _
        have HO4 : Hid (w3.ownsRow w.heap.size 26 2 (.slice (some ⟨g, 0, none⟩) (ds.length + 1) cap') (ds.length + 1) (rcells (ds ++ [⟨rk, ra, rn, rc, rvs⟩]))) := by
          have := hown3
          rw [show rcells ds ++ [Value.int .i64 rk, .slice ra rn rc] = rcells (ds ++ [⟨rk, ra, rn, rc, rvs⟩]) by rw [rcells_append]; rfl] at this
          exact this
        have HN4 : Hid (Below w.heap.size w w3) := below_append HN2.out HO2.out hgrow HN2.out.size
        clear hown3 hgrow hNB
        go_wp2
        go_roundw
        case rel => exact ⟨k + 1, some ⟨g, 0, none⟩, cap', by omega, by go_num, by rw [HDn.out, F.out]; simp, by rw [HDn.out, F.out, List.length_append]; exact HO4.out, HN4.out⟩
        case measure => simp [intOf]; omega
    · obtain rfl : k = n := by omega
      have eT : rs.take k = rs := List.take_of_length_le (by rw [HL.out]; omega)
      rw [eT] at ho ⊢
      have HO : Hid (wr.ownsRow w.heap.size 26 2 (.slice a' (dropK key rs).length c') (dropK key rs).length (rcells (dropK key rs))) := ho
      clear ho hnx eT hle
      go_wp2
      go_ret
      exact ⟨a', c', rfl, HO.out, isRows_outer HO.out (fun r hr => ⟨(HI.out.rows r (List.mem_filter.1 hr).1).1, (HI.out.rows r (List.mem_filter.1 hr).1).2.below HN.out⟩), HN.out⟩


end Go.Proofs.Ytciaegdgoabipaa.Drp
