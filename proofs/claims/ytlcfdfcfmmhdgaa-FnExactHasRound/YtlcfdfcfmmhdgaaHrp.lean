/-
  Who waits for whom, pure: ways that lead back, as the program and as the model go them.
-/
import Derived.Test.YtlcfdfcfmmhdgaaVal
import Derived.Test.YtlcfdfcfmmhdgaaMem
namespace Go.Proofs.Ytlcfdfcfmmhdgaa.Hrp
open Go.Proofs.Ytlcfdfcfmmhdgaa.Val Go.Proofs.Ytlcfdfcfmmhdgaa.Mem

def nx (W : List Int) (q : Int) : Int := W.getD q.toNat 0
abbrev St := List Int × Int
def pGo (s : St) : Bool := s.2 != -1 && !(decide (s.2 ∈ s.1))
def wstep (W : List Int) (s : St) : St := (s.1 ++ [s.2], nx W s.2)
def pRun (W : List Int) : Nat → St → St
  | 0, s => s
  | n + 1, s => bif pGo s then pRun W n (wstep W s) else s
def mGo (k : Int) (s : St) : Bool := decide (0 ≤ s.2) && (s.2 != k && decide (s.1.length ≤ 4))
def mRun (W : List Int) (k : Int) : Nat → St → St
  | 0, s => s
  | n + 1, s => bif mGo k s then mRun W k n (wstep W s) else s
def st0 (W : List Int) (k : Int) : St := ([k], nx W k)
def wayS (W : List Int) (k : Int) : St := pRun W 4 (st0 W k)
def backB (W : List Int) (k : Int) : Bool := (wayS W k).2 == k
def lastI (l : List Int) : Int := l.getD (l.length - 1) 0
def areB (W : List Int) : Bool := decide (W.length = 4) && W.all (fun z => inB z (-1) 3)
def firstB (W : List Int) : Nat → Nat → Option (List Int)
  | 0, _ => none
  | n + 1, k => bif backB W (k : Int) then some (wayS W (k : Int)).1 else firstB W n (k + 1)
def roundO (W : List Int) : Option (List Int) := if areB W then firstB W 4 0 else none
def roundB (W : List Int) : Bool := (roundO W).isSome
def roundV (W : List Int) : List Int := (roundO W).getD []

def okW (W : List Int) (k : Int) : Bool :=
  !(pGo (wayS W k)) && ((decide ((mRun W k 4 (st0 W k)).1.length ≤ 4) && (nx W (lastI (mRun W k 4 (st0 W k)).1) == k)) == backB W k && (!(backB W k) || decide ((mRun W k 4 (st0 W k)).1 = (wayS W k).1)))

set_option maxRecDepth 100000 in
theorem all_ok : ∀ a b c d : Fin 5, ∀ k : Fin 4, okW [(a.val : Int) - 1, (b.val : Int) - 1, (c.val : Int) - 1, (d.val : Int) - 1] (k.val : Int) = true := by decide +kernel

theorem fin_of {z : Int} (h : inB z (-1) 3 = true) : ∃ a : Fin 5, z = (a.val : Int) - 1 := by
  unfold inB at h
  rw [decide_eq_true_eq] at h
  exact ⟨⟨(z + 1).toNat, by omega⟩, by show z = ((z + 1).toNat : Int) - 1; omega⟩
theorem are_len {W : List Int} (h : areB W = true) : W.length = 4 := of_decide_eq_true (Bool.and_eq_true_iff.1 h).1
theorem are_mem {W : List Int} (h : areB W = true) : ∀ z ∈ W, -1 ≤ z ∧ z ≤ 3 := fun z hz => by
  have := List.all_eq_true.1 (Bool.and_eq_true_iff.1 h).2 z hz
  unfold inB at this
  rwa [decide_eq_true_eq] at this
theorem ok_of {W : List Int} (h : areB W = true) (k : Nat) (hk : k < 4) : okW W (k : Int) = true := by
  have hl := are_len h
  have ha := List.all_eq_true.1 (Bool.and_eq_true_iff.1 h).2
  match W, hl with
  | [x, y, z, t], _ =>
    obtain ⟨a, rfl⟩ := fin_of (ha x (by simp))
    obtain ⟨b, rfl⟩ := fin_of (ha y (by simp))
    obtain ⟨c, rfl⟩ := fin_of (ha z (by simp))
    obtain ⟨d, rfl⟩ := fin_of (ha t (by simp))
    exact all_ok a b c d ⟨k, hk⟩
theorem stop_of {W : List Int} (h : areB W = true) (k : Nat) (hk : k < 4) : pGo (wayS W (k : Int)) = false := by
  have := (Bool.and_eq_true_iff.1 (ok_of h k hk)).1
  simpa using this
theorem model_back {W : List Int} (h : areB W = true) (k : Nat) (hk : k < 4) : (decide ((mRun W k 4 (st0 W k)).1.length ≤ 4) && (nx W (lastI (mRun W k 4 (st0 W k)).1) == (k : Int))) = backB W k := by
  have := (Bool.and_eq_true_iff.1 (Bool.and_eq_true_iff.1 (ok_of h k hk)).2).1
  exact eq_of_beq this
theorem model_way {W : List Int} (h : areB W = true) (k : Nat) (hk : k < 4) (hb : backB W k = true) : (mRun W k 4 (st0 W k)).1 = (wayS W k).1 := by
  have := (Bool.and_eq_true_iff.1 (Bool.and_eq_true_iff.1 (ok_of h k hk)).2).2
  rw [hb] at this
  simpa using this
theorem nx_mem {W : List Int} (h : areB W = true) {q : Int} (h0 : 0 ≤ q) (h3 : q ≤ 3) : -1 ≤ nx W q ∧ nx W q ≤ 3 :=
  are_mem h _ (getD_mem (by rw [are_len h]; omega))

/-- A state on the way: its list within the dealers, as long as it was gone. -/
structure On (s : St) (j : Nat) : Prop where
  len : s.1.length = j + 1
  mem : ∀ z ∈ s.1, 0 ≤ z ∧ z ≤ 3
  lo : -1 ≤ s.2
  hi : s.2 ≤ 3
theorem on0 {W : List Int} (h : areB W = true) {k : Nat} (hk : k < 4) : On (st0 W k) 0 := by
  have hn := nx_mem h (q := (k : Int)) (by omega) (by omega)
  exact ⟨rfl, fun z hz => by have : z = (k : Int) := by simpa [st0] using hz
                             omega, hn.1, hn.2⟩
theorem on_step {W : List Int} (h : areB W = true) {s : St} {j : Nat} (ho : On s j) (h0 : 0 ≤ s.2) : On (wstep W s) (j + 1) := by
  have hn := nx_mem h h0 ho.hi
  refine ⟨by unfold wstep; rw [List.length_append, ho.len]; rfl, fun z hz => ?_, hn.1, hn.2⟩
  unfold wstep at hz
  rcases List.mem_append.1 hz with hz | hz
  · exact ho.mem z hz
  · have : z = s.2 := by simpa using hz
    have := ho.hi
    omega
theorem pGo_nonneg {s : St} {j : Nat} (ho : On s j) (h : pGo s = true) : 0 ≤ s.2 := by
  have := (Bool.and_eq_true_iff.1 h).1
  rw [bne_iff_ne] at this
  have := ho.lo
  omega
theorem pRun_step {W : List Int} {n : Nat} {s : St} (h : pGo s = true) : pRun W (n + 1) s = pRun W n (wstep W s) := by show (bif pGo s then pRun W n (wstep W s) else s) = _; rw [h]; rfl
theorem pRun_stop {W : List Int} {n : Nat} {s : St} (h : pGo s = false) : pRun W n s = s := by
  cases n with
  | zero => rfl
  | succ n => show (bif pGo s then pRun W n (wstep W s) else s) = _; rw [h]; rfl
theorem mRun_step {W : List Int} {k : Int} {n : Nat} {s : St} (h : mGo k s = true) : mRun W k (n + 1) s = mRun W k n (wstep W s) := by show (bif mGo k s then mRun W k n (wstep W s) else s) = _; rw [h]; rfl
theorem mRun_stop {W : List Int} {k : Int} {n : Nat} {s : St} (h : mGo k s = false) : mRun W k n s = s := by
  cases n with
  | zero => rfl
  | succ n => show (bif mGo k s then mRun W k n (wstep W s) else s) = _; rw [h]; rfl
theorem mGo_len {k : Int} {s : St} (h : mGo k s = true) : 0 ≤ s.2 ∧ s.1.length ≤ 4 := by
  have h1 := Bool.and_eq_true_iff.1 h
  have h2 := Bool.and_eq_true_iff.1 h1.2
  exact ⟨of_decide_eq_true h1.1, of_decide_eq_true h2.2⟩
theorem first_hit {W : List Int} {n k : Nat} (h : backB W (k : Int) = true) : firstB W (n + 1) k = some (wayS W (k : Int)).1 := by show (bif backB W (k : Int) then _ else _) = _; rw [h]; rfl
theorem first_miss {W : List Int} {n k : Nat} (h : backB W (k : Int) = false) : firstB W (n + 1) k = firstB W n (k + 1) := by show (bif backB W (k : Int) then _ else _) = _; rw [h]; rfl
theorem round_some {W : List Int} {v : List Int} (h : areB W = true) (e : firstB W 4 0 = some v) : roundB W = true ∧ roundV W = v := by
  unfold roundB roundV roundO
  rw [if_pos h, e]
  exact ⟨rfl, rfl⟩
theorem round_none {W : List Int} (h : areB W = true) (e : firstB W 4 0 = none) : roundB W = false ∧ roundV W = [] := by
  unfold roundB roundV roundO
  rw [if_pos h, e]
  exact ⟨rfl, rfl⟩
theorem round_bad {W : List Int} (h : areB W = false) : roundB W = false ∧ roundV W = [] := by
  unfold roundB roundV roundO
  rw [if_neg (by rw [h]; exact Bool.false_ne_true)]
  exact ⟨rfl, rfl⟩


end Go.Proofs.Ytlcfdfcfmmhdgaa.Hrp
