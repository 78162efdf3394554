/-
  Contract of the program's underNames.
-/
import Derived.Test.YtekheacbmbbpmaaOd
import Derived.Test.YtekheacbmbbpmaaOb
import Derived.Test.YtekheacbmbbpmaaTold
namespace Go.Proofs.Ytekheacbmbbpmaa.Oe
open Go.RowKit
open Go.Proofs.Ytekheacbmbbpmaa.Frame Go.Proofs.Ytekheacbmbbpmaa.Mem Go.Proofs.Ytekheacbmbbpmaa.Ints Go.Proofs.Ytekheacbmbbpmaa.Kep Go.Proofs.Ytekheacbmbbpmaa.Lls Go.Proofs.Ytekheacbmbbpmaa.Rpu Go.Proofs.Ytekheacbmbbpmaa.Krl Go.Proofs.Ytekheacbmbbpmaa.Oa Go.Proofs.Ytekheacbmbbpmaa.Ob Go.Proofs.Ytekheacbmbbpmaa.Osr Go.Proofs.Ytekheacbmbbpmaa.Mis Go.Proofs.Ytekheacbmbbpmaa.Oc Go.Proofs.Ytekheacbmbbpmaa.Od Go.Proofs.Ytekheacbmbbpmaa.Told Go.Proofs.Ytekheacbmbbpmaa.Rel

theorem places_in {ns ws : List Int} (h : ∀ z ∈ ws, z ∈ ns) : ∀ p ∈ ws.map (fun z => Lib.idxOf ns z), 0 ≤ p ∧ p < (ns.length : Int) := by
  intro p hp
  obtain ⟨z, hz, rfl⟩ := List.mem_map.1 hp
  exact ⟨(idx_nonneg ns z).2 (h z hz), idx_lt ns z⟩
theorem picked_is (ns t ws : List Int) : (ws.map (fun z => Lib.idxOf ns z)).map (fun p => t.getD p.toNat 0) = pick ns t ws := by
  unfold pick
  rw [List.map_map]
  rfl
theorem idx_wf (ns : List Int) (z : Int) (h : ns.length ≤ 9223372036854775807) : (Lit.int .i64 (Lib.idxOf ns z)).wf = true := by
  have h1 := idx_lt ns z
  have h2 := idx_ge ns z
  exact int_wf _ (by omega) (by omega)

/-- The memory of what underNames tells. -/
theorem q_of {L : Nat} {w3 w4 w5 : World} {g1 n : Nat} {xs os qs : List LV} {a' : Option Addr} {m c' k : Nat} {ws : List Int}
    (hx : OwnLs w3 g1 (some ⟨g1, 0, none⟩) n n xs) (hg : L ≤ g1) (hg3 : g1 < w3.heap.size)
    (hn : w4.ownsRow w3.heap.size 3 1 (.slice (some ⟨w3.heap.size, 0, none⟩) k k) k (ints .i64 ws)) (hb4 : Below w3.heap.size w3 w4) (hww : ∀ z ∈ ws, (Lit.int .i64 z).wf = true) (hk : k ≤ 1048576)
    (ho : w5.ownsRow w4.heap.size 34 1 (.slice a' m c') m (lcells os)) (hb5 : Below w4.heap.size w4 w5) (hp : qs.Perm xs) (hs : os.Sublist qs) (ht : totalL os ≤ 1048576) :
    QOwn w5 L w5.heap.size (.slice (some ⟨w3.heap.size, 0, none⟩) k k) (.slice a' m c') (ws, lplain os) := by
  have hs34 : w3.heap.size < w4.heap.size := (own_block hn _ rfl).2
  have hs45 := hb5.size
  have hmem : ∀ r ∈ os, r ∈ xs := fun r hr => hp.mem_iff.1 (hs.subset hr)
  have hrow : ∀ r ∈ os, ∀ x, r.a = some x → g1 ≤ x.block ∧ x.block < w3.heap.size := fun r hr x hx' => own_block (hx.inner r (hmem r hr)) x hx'
  have hout : ∀ x, a' = some x → w4.heap.size ≤ x.block ∧ x.block < w5.heap.size := own_block ho
  refine ⟨os, ⟨_, _, _, rfl, own_base (own_below hn hb5) (by omega), hww, hk, fun x hx' => by cases hx'; show _ ∧ _; simp only; omega⟩, ⟨_, _, _, rfl, ⟨own_base ho (by omega), fun r hr => own_base (own_below (own_below (hx.inner r (hmem r hr)) hb4) hb5) hg, fun r hr => hx.wf r (hmem r hr), (perm_far hp hx.apart).sublist hs, fun r hr x y hx' hy => ?_⟩, ht, fun x hx' => ?_, fun r hr x hx' => ?_⟩, rfl, fun x y hx' hy => ?_, fun r hr x y hx' hy => ?_⟩
  · have := hout x hx'; have := hrow r hr y hy; omega
  · have := hout x hx'; omega
  · have := hrow r hr x hx'; omega
  · have := hout y hy
    simp only [addrOf, Option.some.injEq] at hx'
    subst hx'
    simp only
    omega
  · have := hrow r hr y hy
    simp only [addrOf, Option.some.injEq] at hx'
    subst hx'
    simp only
    omega


end Go.Proofs.Ytekheacbmbbpmaa.Oe
