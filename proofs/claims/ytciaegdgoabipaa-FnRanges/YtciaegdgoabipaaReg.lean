/-
  Regions that draw their order, walked by hand from a goal 'wpAny ..' on: a run of operations that their guards pass over (wpAny_skips), one that yields in whatever world (wpAny_at).
-/
import Derived.Test.YtciaegdgoabipaaFrame
namespace Go.Proofs.Ytciaegdgoabipaa.Reg
open Go.RowKit

def skipOk (md : Region.Mode) (ops : Array Oper) : List (Nat × Nat) → Array Bool → Act → Bool
  | [], _, _ => true
  | i :: is, listed, a => match ops[i.1]? with
    | none => false
    | some o => decide (o.dst = some i.2) && (Region.free md ops listed i.1 && ((Region.ready md ops listed).contains i.1 && (! Region.wanted o (yielded ops a.tmps) && skipOk md ops is (listed.setIfInBounds i.1 true) (a.put (some i.2) undef))))

def skipAct : List (Nat × Nat) → Act → Act
  | [], a => a
  | i :: is, a => skipAct is (a.put (some i.2) undef)

def skipListed : List (Nat × Nat) → Array Bool → Array Bool
  | [], l => l
  | i :: is, l => skipListed is (l.setIfInBounds i.1 true)

theorem wpAny_skips {P : Program} {md : Region.Mode} {ops : Array Oper} {Q : Exit → Act → World → Prop} (hs : Region.noSelect ops = true)
    (hQ : ∀ (d : Nat) c a w, Q (.panic c) (a.put (some d) undef) w → Q (.panic c) a w) :
    ∀ (is : List (Nat × Nat)) {fuel : Nat} {listed : Array Bool} {a : Act} {w : World}, skipOk md ops is listed a = true →
      wpAny P md ops Q fuel (skipListed is listed) (skipAct is a) w → wpAny P md ops Q (fuel + is.length) listed a w
  | [], _, _, _, _, _, h => h
  | i :: is, fuel, listed, a, w, hok, h => by
    unfold skipOk at hok
    unfold skipAct skipListed at h
    cases hi : ops[i.1]? with
    | none => rw [hi] at hok; cases hok
    | some o =>
      rw [hi] at hok
      simp only [Bool.and_eq_true, Bool.not_eq_true', decide_eq_true_eq] at hok
      obtain ⟨h0, h1, h2, h3, h4⟩ := hok
      rw [← h0] at h4 h
      exact wpAny_take hi hs h1 h2 (fun c a w => by rw [h0]; exact hQ _ c a w) (Or.inr ⟨h3, rfl⟩) (wpAny_skips hs hQ is h4 h)

theorem wpAny_at {P : Program} {md : Region.Mode} {ops : Array Oper} {Q : Exit → Act → World → Prop} (i d : Nat) (v : Value) {oi : Oper} {fuel : Nat} {listed : Array Bool} {a : Act} {w : World} (hi : ops[i]? = some oi) (hd : oi.dst = some d)
    (hs : Region.noSelect ops = true) (hf : Region.free md ops listed i = true) (hr : (Region.ready md ops listed).contains i = true)
    (hQ : ∀ (d : Nat) c a w, Q (.panic c) (a.put (some d) v) w → Q (.panic c) a w) (hw : Region.wanted oi (yielded ops a.tmps) = true) (hy : ∀ w, (execOp a.eval oi).run P w = .ok (.value v) w)
    (h : wpAny P md ops Q fuel (listed.setIfInBounds i true) (a.put (some d) v) w) : wpAny P md ops Q (fuel + 1) listed a w := by
  rw [← hd] at h
  exact wpAny_take hi hs hf hr (fun c a w => by rw [hd]; exact hQ d c a w) (Or.inl ⟨hw, hy⟩) h


end Go.Proofs.Ytciaegdgoabipaa.Reg
