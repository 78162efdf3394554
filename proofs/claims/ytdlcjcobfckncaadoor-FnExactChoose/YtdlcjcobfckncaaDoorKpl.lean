/-
  Contract of the program's kept on tuples, for any test.
-/
import Derived.Test.YtdlcjcobfckncaaDoorOi
import Derived.Test.YtdlcjcobfckncaaDoorOg
namespace Go.Proofs.YtdlcjcobfckncaaDoor.Kpl
open Go.RowKit
open Go.Proofs.YtdlcjcobfckncaaDoor.Frame Go.Proofs.YtdlcjcobfckncaaDoor.Mem Go.Proofs.YtdlcjcobfckncaaDoor.Ints Go.Proofs.YtdlcjcobfckncaaDoor.Kep Go.Proofs.YtdlcjcobfckncaaDoor.Lls Go.Proofs.YtdlcjcobfckncaaDoor.Rpu Go.Proofs.YtdlcjcobfckncaaDoor.Krl Go.Proofs.YtdlcjcobfckncaaDoor.Oa Go.Proofs.YtdlcjcobfckncaaDoor.Ob Go.Proofs.YtdlcjcobfckncaaDoor.Oe Go.Proofs.YtdlcjcobfckncaaDoor.Og Go.Proofs.YtdlcjcobfckncaaDoor.Mis Go.Proofs.YtdlcjcobfckncaaDoor.Told Go.Proofs.YtdlcjcobfckncaaDoor.Rel

/-- A call of the function enters it. -/
def Enters (P : Program) (f : FuncId) : Prop := ∀ (args : Array Value) (w : World), (callFunc f args).run P w = .ok (.enter f args) w
theorem enters {P : Program} {f : FuncId} {fn : Func} {c : Code} (hf : P.funcs[f]? = some fn) (hname : (fn.name == "runtime.NumGoroutine") = false) (hb : fn.body = some c) : Enters P f := fun args w => by
  have h1 : fn.name ≠ "runtime.NumGoroutine" := by simpa using hname
  simp [callFunc, hf, h1, hb]

set_option maxRecDepth 4000 in
set_option maxHeartbeats 1600000 in
theorem kept_ls (a : Option Addr) (n ca : Nat) (rs : List LV) (f : FuncId) (bs : Array Value) (p : LV → Bool) (w : World) (h : IsLs w a n ca rs) (hn : n ≤ 100000) (hen : Enters Tryd.prog f) (hcl : ∀ x ∈ rs, ∀ w1, Below w.heap.size w w1 → Calls Tryd.prog f (#[.slice x.a x.n x.c] ++ bs) w1 fun e w2 => e = .returned (.bool (p x)) ∧ Below w1.heap.size w1 w2) :
    Calls Tryd.prog 97 #[.slice a n ca, .func (.func f) #[] bs] w fun e w' => ∃ a' m c', e = .returned (.slice a' m c') ∧ m ≤ n ∧ w'.ownsRow w.heap.size 55 1 (.slice a' m c') m (lcells (rs.filter p)) ∧ Below w.heap.size w w' := by
  obtain ⟨i0, hi, hz0, hz1, hz2⟩ := info_parts infoL
  have HI : Hid (IsLs w a n ca rs) := h
  have HL : Hid (rs.length = n) := h.len
  have HCL : Hid (∀ x ∈ rs, ∀ w1, Below w.heap.size w w1 → Calls Tryd.prog f (#[.slice x.a x.n x.c] ++ bs) w1 fun e w2 => e = .returned (.bool (p x)) ∧ Below w1.heap.size w1 w2) := hcl
  have HEN : Hid (Enters Tryd.prog f) := hen
  clear h hcl hen
  go_enter Tryd.func97, Tryd.ntmps97
  go_wp2_with (at_make; refine wpList_make_own _ rfl _ _ 56 rfl w.heap.size 55 i0 (.slice none 0 0) 1 Tryd.underlying56 hi hz0 hz1 _ _ _ n rfl rfl rfl ?d2 ?d3 (Nat.le_refl _) ?_)
  case d2 => rw [hz2]; omega
  case d3 => unfold maxLen; omega
  intro w3 hown3 hgrow3
  have B3 : Hid (Below w.heap.size w w3) := below_make (Below.refl _ _) hgrow3 (Nat.le_refl _)
  have O3 : Hid (w3.ownsRow w.heap.size 55 1 (.slice (some ⟨w.heap.size, 0, none⟩) 0 n) 0 []) := hown3
  clear hown3 hgrow3
  go_wp2_with fail
  go_loopw [5, 13] (fun v i wr => ∃ (k m : Nat) (a' : Option Addr) (c' : Nat), k ≤ n ∧ m ≤ k ∧ i = .int .i64 k ∧ v = .slice a' m c' ∧ wr.ownsRow w.heap.size 55 1 (.slice a' m c') m (lcells ((rs.take k).filter p)) ∧ Below w.heap.size w wr) (fun _ i _ => n - (intOf i).toNat)
  case atStart => exact ⟨0, 0, _, _, Nat.zero_le _, Nat.le_refl _, rfl, rfl, O3.out, B3.out⟩
  case round =>
    obtain ⟨k, m, a', c', hk, hmk, rfl, rfl, ho, hnx⟩ := hrel
    have HO : Hid (wr.ownsRow w.heap.size 55 1 (.slice a' m c') m (lcells ((rs.take k).filter p))) := ho
    have HN : Hid (Below w.heap.size w wr) := hnx
    have hsr := hnx.size
    clear ho
    by_cases hlt : k < n
    · obtain ⟨b, off, rfl, hbl, hc⟩ := HI.out.cells (by omega)
      have hkl : k < rs.length := by rw [HL.out]; exact hlt
      have hck : wr.cell? ⟨b, off + k, none⟩ = some (.slice (rs.getD k ld).a (rs.getD k ld).n (rs.getD k ld).c) := by rw [hnx.cell (p := ⟨b, off + k, none⟩) hbl]; exact hc k hlt
      have HF : Hid ((rs.take (k + 1)).filter p = (rs.take k).filter p ++ (if p (rs.getD k ld) then [rs.getD k ld] else [])) := by
        show _ = _
        rw [take_succ_ld hkl, List.filter_append, List.filter_cons]
        rfl
      have CA := HCL.out _ (getD_mem_ld hkl) wr hnx
      generalize rs.getD k ld = x at hck HF CA
      obtain ⟨xa, xn, xc, xs⟩ := x
      simp only at hck CA
      have CALL : Hid (Calls Tryd.prog f (#[.slice xa xn xc] ++ bs) wr fun e w2 => e = .returned (.bool (p ⟨xa, xn, xc, xs⟩)) ∧ Below wr.heap.size wr w2) := CA
      clear hc hnx hkl CA
      go_wp2_with fail
      rw [HEN.out]
      refine Calls.mono CALL.out ?_
      rintro e w2 ⟨rfl, hb2⟩
      have hs2 := hb2.size
      have HO1 : Hid (w2.ownsRow w.heap.size 55 1 (.slice a' m c') m (lcells ((rs.take k).filter p))) := own_below HO.out hb2
      have HN1 : Hid (Below w.heap.size w w2) := Frame.next HN.out hb2 HN.out.size
      have HO2 : Hid ((w2.alloc (.cells #[.slice xa xn xc] 55)).ownsRow w.heap.size 55 1 (.slice a' m c') m (lcells ((rs.take k).filter p))) := own_below HO1.out ((Below.refl _ _).alloc (Nat.le_refl _) _)
      have HN2 : Hid (Below w.heap.size w (w2.alloc (.cells #[.slice xa xn xc] 55))) := HN1.out.alloc HN1.out.size _
      have S2 : Hid (0 < 1 → ∃ ad, (some ⟨w2.heap.size, 0, none⟩ : Option Addr) = some ad ∧ ∀ j u, ([.slice xa xn xc] : List Value)[j]? = some u → (w2.alloc (.cells #[.slice xa xn xc] 55)).cell? (ad.add j) = some u) := news_one w2 _ _
      clear hb2 CALL
      cases hv : p ⟨xa, xn, xc, xs⟩
      · have F : Hid ((rs.take (k + 1)).filter p = (rs.take k).filter p) := by show _ = _; rw [HF.out, hv]; exact List.append_nil _
        clear hv HF HO2 HN2 S2
        go_wp2_with fail
        go_roundw
        case rel => exact ⟨k + 1, m, a', c', by omega, by omega, by go_num, rfl, by rw [F.out]; exact HO1.out, HN1.out⟩
        case measure => simp [intOf]; omega
      · have F : Hid ((rs.take (k + 1)).filter p = (rs.take k).filter p ++ [⟨xa, xn, xc, xs⟩]) := by show _ = _; rw [HF.out, hv]; rfl
        clear hv HF
        go_wp2_with (at_builtin; refine App.wpList_append_all _ rfl _ _ 56 rfl w.heap.size 55 i0 (.slice none 0 0) 1 24 Tryd.underlying56 hi hz0 hz1 hz2 rfl (by decide) _ _ _ rfl HO2.out _ 1 _ [.slice xa xn xc] rfl rfl S2.out (by simp [Value.oneCell']) (by unfold maxLen; omega) (by omega) HN2.out.size ?_)
        intro a4 c4 w4 hown4 hgrow4
        have O4 : Hid (w4.ownsRow w.heap.size 55 1 (.slice a4 (m + 1) c4) (m + 1) (lcells ((rs.take (k + 1)).filter p))) := by show World.ownsRow _ _ _ _ _ _ _; rw [F.out]; simpa [lcells, lcell] using hown4
        have N4 : Hid (Below w.heap.size w w4) := below_app HN2.out HO2.out hgrow4 HN2.out.size (Nat.le_refl _)
        clear hown4 hgrow4
        go_wp2
        go_roundw
        case rel => exact ⟨k + 1, m + 1, a4, c4, by omega, by omega, by go_num, rfl, O4.out, N4.out⟩
        case measure => simp [intOf]; omega
    · have F : Hid (wr.ownsRow w.heap.size 55 1 (.slice a' m c') m (lcells (rs.filter p))) := by have := HO.out; rwa [List.take_of_length_le (by rw [HL.out]; omega)] at this
      clear hnx
      go_wp2
      go_ret
      exact ⟨_, _, _, rfl, by omega, F.out, HN.out⟩


end Go.Proofs.YtdlcjcobfckncaaDoor.Kpl
