/-
  Contract of the program's kept on lists of Act, for any test. Written by gen/gen_kept.py.
-/
import Derived.Test.YteihgbiifcgipaaFAct
import Derived.Test.YteihgbiifcgipaaMii
namespace Go.Proofs.Yteihgbiifcgipaa.KAct
open Go.RowKit
open Go.Proofs.Yteihgbiifcgipaa.Frame Go.Proofs.Yteihgbiifcgipaa.Mem Go.Proofs.Yteihgbiifcgipaa.Ints Go.Proofs.Yteihgbiifcgipaa.Kep Go.Proofs.Yteihgbiifcgipaa.FAct Go.Proofs.Yteihgbiifcgipaa.Mii

/-- A call of the function enters it. -/
def Enters (P : Program) (f : FuncId) : Prop := ∀ (args : Array Value) (w : World), (callFunc f args).run P w = .ok (.enter f args) w
theorem enters {P : Program} {f : FuncId} {fn : Func} {c : Code} (hf : P.funcs[f]? = some fn) (hname : (fn.name == "runtime.NumGoroutine") = false) (hb : fn.body = some c) : Enters P f := fun args w => by
  have h1 : fn.name ≠ "runtime.NumGoroutine" := by simpa using hname
  simp [callFunc, hf, h1, hb]

theorem news_alloc (w : World) (b : Nat) (hb : b = w.heap.size) (x : D) (t : TypeId) : 0 < 1 → ∃ ad, (some ⟨b, 0, none⟩ : Option Addr) = some ad ∧ ∀ j u, (one x)[j]? = some u → (w.alloc (.cells (one x).toArray t)).cell? (ad.add j) = some u := fun _ => ⟨_, rfl, fun j u hu => by
  subst hb
  rw [Mii.add_at, Nat.zero_add, World.cell?_alloc_at _ _ _ _ rfl]
  simpa using hu⟩

theorem act_cells {w wr : World} {a : Option Addr} {n cap : Nat} {xs : List D} (h : IsX w a n cap xs) (hb : Below w.heap.size w wr) {k : Nat} (hk : k < n) :
    ∃ b off x0 x1 x2, a = some ⟨b, off, none⟩ ∧ wr.cell? ⟨b, off + k * 3, none⟩ = some (.int .i64 (x0)) ∧ wr.cell? ⟨b, off + k * 3 + 1, none⟩ = some (.int .i64 (x1)) ∧ wr.cell? ⟨b, off + k * 3 + 2, none⟩ = some (.bool (x2)) ∧ xs.getD k d0 = (x0, x1, x2) := by
  obtain ⟨b, off, rfl, hbl, hc⟩ := h.cells (by omega)
  have := hc k hk
  refine ⟨b, off, (xs.getD k d0).1, (xs.getD k d0).2.1, (xs.getD k d0).2.2, rfl, ?_, ?_, ?_, rfl⟩
  · rw [hb.cell (p := ⟨b, off + k * 3, none⟩) hbl]; exact this.1
  · rw [hb.cell (p := ⟨b, off + k * 3 + 1, none⟩) hbl]; exact this.2.1
  · rw [hb.cell (p := ⟨b, off + k * 3 + 2, none⟩) hbl]; exact this.2.2

set_option maxRecDepth 4000 in
set_option maxHeartbeats 1600000 in
theorem kept (a : Option Addr) (n ca : Nat) (xs : List D) (f : FuncId) (bs : Array Value) (p : D → Bool) (w : World) (h : IsX w a n ca xs) (hn : n ≤ 1048576) (hen : Enters Try.prog f) (hcl : ∀ x0 x1 x2, (x0, x1, x2) ∈ xs → ∀ w1, Below w.heap.size w w1 → Calls Try.prog f (#[.agg #[.int .i64 x0, .int .i64 x1, .bool x2]] ++ bs) w1 fun e w2 => e = .returned (.bool (p (x0, x1, x2))) ∧ Below w1.heap.size w1 w2) :
    Calls Try.prog 56 #[.slice a n ca, .func (.func f) #[] bs] w fun e w' => ∃ a' m c', e = .returned (.slice a' m c') ∧ m ≤ n ∧ w'.ownsRow w.heap.size 59 3 (.slice a' m c') m (cells (xs.filter p)) ∧ Below w.heap.size w w' := by
  obtain ⟨i0, hi, hz0, hz1, hz2⟩ := info_parts FAct.info
  have HI : Hid (IsX w a n ca xs) := h
  have HL : Hid (xs.length = n) := h.len
  have HCL : Hid (∀ x0 x1 x2, (x0, x1, x2) ∈ xs → ∀ w1, Below w.heap.size w w1 → Calls Try.prog f (#[.agg #[.int .i64 x0, .int .i64 x1, .bool x2]] ++ bs) w1 fun e w2 => e = .returned (.bool (p (x0, x1, x2))) ∧ Below w1.heap.size w1 w2) := hcl
  have HEN : Hid (Enters Try.prog f) := hen
  clear h hcl hen
  go_enter Try.func56, Try.ntmps56
  go_wp2_with (at_make; refine wpList_make_own _ rfl _ _ 23 rfl w.heap.size 59 i0 (.agg #[.int .i64 0, .int .i64 0, .bool false]) 3 Try.underlying23 hi hz0 hz1 _ _ _ n rfl rfl rfl ?d2 ?d3 (Nat.le_refl _) ?_)
  case d2 => rw [hz2]; omega
  case d3 => unfold maxLen; omega
  intro w3 hown3 hgrow3
  have B3 : Hid (Below w.heap.size w w3) := below_make (Below.refl _ _) hgrow3 (Nat.le_refl _)
  have O3 : Hid (w3.ownsRow w.heap.size 59 3 (.slice (some ⟨w.heap.size, 0, none⟩) 0 n) 0 []) := hown3
  clear hown3 hgrow3
  go_wp2_with fail
  go_loopw [5, 13] (fun v i wr => ∃ (k m : Nat) (a' : Option Addr) (c' : Nat), k ≤ n ∧ m ≤ k ∧ i = .int .i64 k ∧ v = .slice a' m c' ∧ wr.ownsRow w.heap.size 59 3 (.slice a' m c') m (cells ((xs.take k).filter p)) ∧ Below w.heap.size w wr) (fun _ i _ => n - (intOf i).toNat)
  case atStart => exact ⟨0, 0, _, _, Nat.zero_le _, Nat.le_refl _, rfl, rfl, O3.out, B3.out⟩
  case round =>
    obtain ⟨k, m, a', c', hk, hmk, rfl, rfl, ho, hnx⟩ := hrel
    have HO : Hid (wr.ownsRow w.heap.size 59 3 (.slice a' m c') m (cells ((xs.take k).filter p))) := ho
    have HN : Hid (Below w.heap.size w wr) := hnx
    have hsr := hnx.size
    clear ho
    by_cases hlt : k < n
    · obtain ⟨b, off, x0, x1, x2, rfl, p0, p1, p2, hx⟩ := act_cells HI.out hnx hlt
      have hkl : k < xs.length := by rw [HL.out]; exact hlt
      have HF : Hid ((xs.take (k + 1)).filter p = (xs.take k).filter p ++ (if p (x0, x1, x2) then [(x0, x1, x2)] else [])) := by
        show _ = _
        rw [take_succ hkl, List.filter_append, List.filter_cons, hx]
        rfl
      have B1 : Hid (Below w.heap.size w (wr.alloc (.cells #[.int .i64 x0, .int .i64 x1, .bool x2] 59))) := hnx.alloc hsr _
      have HO1 : Hid ((wr.alloc (.cells #[.int .i64 x0, .int .i64 x1, .bool x2] 59)).ownsRow w.heap.size 59 3 (.slice a' m c') m (cells ((xs.take k).filter p))) := own_below HO.out ((Below.refl _ _).alloc (Nat.le_refl _) _)
      have CALL : Hid (Calls Try.prog f (#[.agg #[.int .i64 x0, .int .i64 x1, .bool x2]] ++ bs) (wr.alloc (.cells #[.int .i64 x0, .int .i64 x1, .bool x2] 59)) fun e w2 => e = .returned (.bool (p (x0, x1, x2))) ∧ Below (wr.alloc (.cells #[.int .i64 x0, .int .i64 x1, .bool x2] 59)).heap.size (wr.alloc (.cells #[.int .i64 x0, .int .i64 x1, .bool x2] 59)) w2) := HCL.out x0 x1 x2 (by rw [← hx]; exact getD_mem hkl) _ B1.out
      clear hnx hkl hx
      go_wp2_with fail
      rw [HEN.out]
      refine Calls.mono CALL.out ?_
      rintro e w2 ⟨rfl, hb2⟩
      have hs2 := hb2.size
      have HO2 : Hid (w2.ownsRow w.heap.size 59 3 (.slice a' m c') m (cells ((xs.take k).filter p))) := own_below HO1.out hb2
      have HN2 : Hid (Below w.heap.size w w2) := Frame.next B1.out hb2 B1.out.size
      have q0 : w2.cell? ⟨wr.heap.size, 0, none⟩ = some (.int .i64 (x0)) := by rw [(Frame.bcell hb2).1 _ _ (by simp)]; go_simp
      have q1 : w2.cell? ⟨wr.heap.size, 1, none⟩ = some (.int .i64 (x1)) := by rw [(Frame.bcell hb2).1 _ _ (by simp)]; go_simp
      have q2 : w2.cell? ⟨wr.heap.size, 2, none⟩ = some (.bool (x2)) := by rw [(Frame.bcell hb2).1 _ _ (by simp)]; go_simp
      clear hb2 CALL
      cases hv : p (x0, x1, x2)
      · have F : Hid ((xs.take (k + 1)).filter p = (xs.take k).filter p) := by show _ = _; rw [HF.out, hv]; exact List.append_nil _
        clear hv HF
        go_wp2_with fail
        go_roundw
        case rel => exact ⟨k + 1, m, a', c', by omega, by omega, by go_num, rfl, by rw [F.out]; exact HO2.out, HN2.out⟩
        case measure => simp [intOf]; omega
      · have F : Hid ((xs.take (k + 1)).filter p = (xs.take k).filter p ++ [(x0, x1, x2)]) := by show _ = _; rw [HF.out, hv]; rfl
        clear hv HF
        have HO3 : Hid ((w2.alloc (.cells #[.int .i64 x0, .int .i64 x1, .bool x2] 59)).ownsRow w.heap.size 59 3 (.slice a' m c') m (cells ((xs.take k).filter p))) := own_below HO2.out ((Below.refl _ _).alloc (Nat.le_refl _) _)
        have HN3 : Hid (Below w.heap.size w (w2.alloc (.cells #[.int .i64 x0, .int .i64 x1, .bool x2] 59))) := HN2.out.alloc HN2.out.size _
        have S3 : Hid (0 < 1 → ∃ ad, (some ⟨w2.heap.size, 0, none⟩ : Option Addr) = some ad ∧ ∀ j u, ([.int .i64 x0, .int .i64 x1, .bool x2] : List Value)[j]? = some u → (w2.alloc (.cells #[.int .i64 x0, .int .i64 x1, .bool x2] 59)).cell? (ad.add j) = some u) := news_alloc w2 _ rfl (x0, x1, x2) _
        go_wp2_with (at_builtin; refine App.wpList_append_all _ rfl _ _ 23 rfl w.heap.size 59 i0 (.agg #[.int .i64 0, .int .i64 0, .bool false]) 3 24 Try.underlying23 hi hz0 hz1 hz2 rfl (by decide) _ _ _ rfl HO3.out _ 1 _ [.int .i64 x0, .int .i64 x1, .bool x2] rfl rfl S3.out (by simp [Value.oneCell']) (by unfold maxLen; omega) (by omega) HN3.out.size ?_)
        intro a4 c4 w4 hown4 hgrow4
        have O4 : Hid (w4.ownsRow w.heap.size 59 3 (.slice a4 (m + 1) c4) (m + 1) (cells ((xs.take (k + 1)).filter p))) := by show World.ownsRow _ _ _ _ _ _ _; rw [F.out, cells_append]; simpa [cells, one] using hown4
        have N4 : Hid (Below w.heap.size w w4) := below_app HN3.out HO3.out hgrow4 HN3.out.size (Nat.le_refl _)
        clear hown4 hgrow4
        go_wp2
        go_roundw
        case rel => exact ⟨k + 1, m + 1, a4, c4, by omega, by omega, by go_num, rfl, O4.out, N4.out⟩
        case measure => simp [intOf]; omega
    · have F : Hid (wr.ownsRow w.heap.size 59 3 (.slice a' m c') m (cells (xs.filter p))) := by have := HO.out; rwa [List.take_of_length_le (by rw [HL.out]; omega)] at this
      clear hnx
      go_wp2
      go_ret
      exact ⟨_, _, _, rfl, by omega, F.out, HN.out⟩


end Go.Proofs.Yteihgbiifcgipaa.KAct
