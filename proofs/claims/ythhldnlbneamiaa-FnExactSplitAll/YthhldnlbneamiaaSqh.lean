/-
  Parts in memory: a part, the parts in front and behind, how much is still to be split; where all columns begin.
-/
import Derived.Test.YthhldnlbneamiaaSpr
import Derived.Test.YthhldnlbneamiaaCvj
import Derived.Test.YthhldnlbneamiaaCce
import Derived.Test.YthhldnlbneamiaaBsr
namespace Go.Proofs.Ythhldnlbneamiaa.Sqh
open Go.RowKit
open Go.Proofs.Ythhldnlbneamiaa.Frame Go.Proofs.Ythhldnlbneamiaa.Mem Go.Proofs.Ythhldnlbneamiaa.Ints Go.Proofs.Ythhldnlbneamiaa.Kep Go.Proofs.Ythhldnlbneamiaa.Lls Go.Proofs.Ythhldnlbneamiaa.Mis Go.Proofs.Ythhldnlbneamiaa.Dls Go.Proofs.Ythhldnlbneamiaa.Csa Go.Proofs.Ythhldnlbneamiaa.Csb Go.Proofs.Ythhldnlbneamiaa.Csf Go.Proofs.Ythhldnlbneamiaa.Spx Go.Proofs.Ythhldnlbneamiaa.Bpu Go.Proofs.Ythhldnlbneamiaa.Spr
open Go.Proofs.Ythhldnlbneamiaa.Rel hiding Ll
open Go.Proofs.Ythhldnlbneamiaa.Cpu hiding Dp

theorem part_at {w : World} {a : Option Addr} {n c k : Nat} {rs : List LV} (h : IsLs w a n c rs) (hk : k < n) : ∃ b off pa pn pc p, a = some ⟨b, off, none⟩ ∧ w.cell? ⟨b, off + k, none⟩ = some (.slice pa pn pc) ∧ IsRow .i64 w pa pn pc p ∧ (lplain rs).getD k [] = p ∧ rs.getD k ld = ⟨pa, pn, pc, p⟩ := by
  obtain ⟨b, off, rfl, _, hc⟩ := h.cells (by omega)
  have hl := h.len
  have hk2 : k < rs.length := by omega
  have e : rs.getD k ld = rs[k] := by simp [List.getD, hk2]
  have e2 : (lplain rs).getD k [] = (rs.getD k ld).zs := by simp [lplain, List.getD, hk2]
  refine ⟨b, off, _, _, _, _, rfl, hc k hk, h.rows _ (by rw [e]; exact List.getElem_mem hk2), e2, rfl⟩
theorem isL_pre {w : World} {a : Option Addr} {n c k : Nat} {rs : List LV} (h : IsLs w a n c rs) (hk : k ≤ n) : IsLs w a k c (rs.take k) := by
  have hl := h.len
  refine ⟨by rw [List.length_take]; omega, Nat.le_trans hk h.fits, h.max, fun r hr => h.rows r (List.mem_of_mem_take hr), fun h0 => ?_⟩
  obtain ⟨b, off, ha, hb, hc⟩ := h.cells (by omega)
  refine ⟨b, off, ha, hb, fun i hi => ?_⟩
  have e0 : (rs.take k).getD i ld = rs.getD i ld := by simp [List.getD, show i < k by omega]
  rw [e0]
  exact hc i (by omega)
theorem isL_suf {w : World} {b off n c k : Nat} {rs : List LV} {a2 : Option Addr} (h : IsLs w (some ⟨b, off, none⟩) n c rs) (hk : k ≤ n) (ha : (if c = k then some (⟨b, off, none⟩ : Addr) else some ⟨b, off + k, none⟩) = a2) : IsLs w a2 (n - k) (c - k) (rs.drop k) := by
  have hf := h.fits
  have hm := h.max
  have hl := h.len
  refine ⟨by rw [List.length_drop]; omega, by omega, by omega, fun r hr => h.rows r (List.mem_of_mem_drop hr), fun h0 => ?_⟩
  rw [if_neg (by omega)] at ha
  subst ha
  obtain ⟨b', off', e, hb, hc⟩ := h.cells (by omega)
  cases e
  refine ⟨b, off + k, rfl, hb, fun i hi => ?_⟩
  have e0 : (rs.drop k).getD i ld = rs.getD (k + i) ld := by simp [List.getD, List.getElem?_drop]
  rw [e0, show off + k + i = off + (k + i) by omega]
  exact hc (k + i) (by omega)
def lenAt (w : World) (b o : Nat) : Nat := match w.cell? ⟨b, o, none⟩ with | some (.slice _ n _) => n | _ => 0
def muW (w : World) : Value → Nat
  | .slice (some x) m _ => ((List.range m).map fun j => 3 ^ lenAt w x.block (x.off + j)).sum
  | _ => 0
theorem muW_is {w : World} {a : Option Addr} {n c : Nat} {rs : List LV} (h : IsLs w a n c rs) (h0 : 0 < n) : muW w (.slice a n c) = mu (lplain rs) := by
  obtain ⟨b, off, rfl, _, hc⟩ := h.cells h0
  have hl := h.len
  show ((List.range n).map fun j => 3 ^ lenAt w b (off + j)).sum = _
  unfold mu
  congr 1
  refine List.ext_getElem (by simp [lplain, hl]) (fun i h1 h2 => ?_)
  have hi : i < n := by simpa using h1
  have hr : i < rs.length := by omega
  simp only [List.getElem_map, List.getElem_range, lplain]
  have e : lenAt w b (off + i) = rs[i].n := by
    unfold lenAt
    rw [hc i hi]
    simp [List.getD, hr]
  rw [e, (h.rows _ (List.getElem_mem hr)).len]
theorem lplain_step {rs : List LV} {k : Nat} {x y : LV} : lplain (rs.take k ++ [x, y] ++ rs.drop (k + 1)) = (lplain rs).take k ++ [x.zs, y.zs] ++ (lplain rs).drop (k + 1) := by
  simp [lplain, List.map_append, List.map_take, List.map_drop]
/-- All columns. -/
def allC (c : Nat) : List Int := listI (firstS c)
theorem all_good {c : Nat} : GoodP c (allC c) := ⟨up_listI _, fun z hz => by
  obtain ⟨i, _, h, rfl⟩ := mem_listI.1 hz
  unfold firstS at h
  have := of_decide_eq_true h
  omega⟩
theorem mu_all {c : Nat} (hc : c ≤ 6) : mu [allC c] ≤ 729 := by
  have h1 : (allC c).length ≤ 6 := up_length all_good.1 (fun z hz => by have := all_good.2 z hz; omega)
  have h2 : 3 ^ (allC c).length ≤ 3 ^ 6 := Nat.pow_le_pow_right (by decide) h1
  simpa [mu] using h2
theorem bit_all : ∀ c, c < 7 → ∀ i, i < 6 → bitS (((2 ^ c - 1 : Nat)) : Int) i = firstS c i := by decide +kernel
noncomputable def partsV (cols : Int) (ds : List Dp) : Pl := if goodD cols ds then endOf ds [allC cols.toNat] else []


end Go.Proofs.Ythhldnlbneamiaa.Sqh
