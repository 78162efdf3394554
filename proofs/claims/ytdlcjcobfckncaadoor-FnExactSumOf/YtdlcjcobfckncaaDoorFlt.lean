/-
  Whole numbers as floats: small ones are exact, so is their sum, and they come back. It speaks of no program.
-/
import Derived.WalkLawsBesides
namespace Go.Proofs.YtdlcjcobfckncaaDoor.Flt
open Ieee

/-- A datum that stands for a whole number that is not below nought. -/
def Stands (d : Datum) (n : Nat) : Prop := ∃ (m : Nat) (p : Int), d = .number false m p ∧ p ≤ 0 ∧ m = n * 2 ^ (-p).toNat

theorem cut_none (way : Toward) (n : Nat) : way.cut false n 0 = n := by
  unfold Toward.cut
  cases way <;> simp [Nat.mod_one]

theorem log2_shift (n j : Nat) (h : n ≠ 0) : (n * 2 ^ j).log2 = n.log2 + j := by
  induction j with
  | zero => simp
  | succ j ih =>
    rw [Nat.pow_succ, ← Nat.mul_assoc, Nat.mul_comm _ 2, Nat.log2_two_mul, ih]
    · omega
    · exact Nat.mul_ne_zero h (Nat.pos_iff_ne_zero.1 (Nat.two_pow_pos j))

theorem shift_zero {a b : Int} (h : a ≤ b) : (a - b).toNat = 0 := by omega

/-- The word of a number of at most 53 digits. -/
def rungOf (n : Nat) : Nat := (n.log2 + 1022) * 2 ^ 52 + n * 2 ^ (52 - n.log2)

theorem log2_53 {n : Nat} (h0 : n ≠ 0) (h : n < 2 ^ 53) : n.log2 ≤ 52 := by
  have := (Nat.log2_lt h0).2 h
  omega

set_option maxRecDepth 20000 in
theorem nearest_exact {n m : Nat} {p : Int} (h0 : n ≠ 0) (h : n < 2 ^ 53) (hp : p ≤ 0) (hm : m = n * 2 ^ (-p).toNat) : double.nearest false m p = rungOf n := by
  have hL := log2_53 h0 h
  have hm0 : m ≠ 0 := by rw [hm]; exact Nat.mul_ne_zero h0 (Nat.pos_iff_ne_zero.1 (Nat.two_pow_pos _))
  have hml : m.log2 = n.log2 + (-p).toNat := by rw [hm]; exact log2_shift _ _ h0
  unfold Format.nearest
  rw [if_neg hm0]
  have hleast : double.leastPlace = -1074 := by decide
  have hfr : double.fractionBits = 52 := rfl
  have hbin : double.binade = 2 ^ 52 := by decide
  have hinf : double.infRung = 2047 * 2 ^ 52 := by decide
  simp only [hleast, hfr, hbin, hinf, hml]
  have hlast : max (p + ((n.log2 + (-p).toNat : Nat) : Int) - ((52 : Nat) : Int)) (-1074) = (n.log2 : Int) - 52 := by omega
  rw [hlast]
  have hk : Toward.even.cut false (m <<< (p - ((n.log2 : Int) - 52)).toNat) (((n.log2 : Int) - 52) - p).toNat = n * 2 ^ (52 - n.log2) := by
    by_cases hc : (n.log2 : Int) - 52 ≤ p
    · rw [shift_zero hc, cut_none, Nat.shiftLeft_eq, hm, Nat.mul_assoc, ← Nat.pow_add]
      congr 2
      omega
    · rw [shift_zero (by omega), Nat.shiftLeft_zero]
      have e : m = n * 2 ^ (52 - n.log2) * 2 ^ (((n.log2 : Int) - 52) - p).toNat := by
        rw [hm, Nat.mul_assoc, ← Nat.pow_add]
        congr 2
        omega
      generalize (((n.log2 : Int) - 52) - p).toNat = d at e ⊢
      have hmd : d ≤ m.log2 := by
        rw [e, log2_shift _ _ (Nat.mul_ne_zero h0 (Nat.pos_iff_ne_zero.1 (Nat.two_pow_pos _)))]
        omega
      unfold Toward.cut
      have hmin : min d (m.log2 + 2) = d := by omega
      have hg : (1 <<< d : Nat) = 2 ^ d := by rw [Nat.shiftLeft_eq, Nat.one_mul]
      have hpd := Nat.two_pow_pos d
      simp only [hmin, hg]
      rw [e, Nat.mul_mod_left, Nat.mul_div_cancel _ hpd]
      have h1 : ¬ (2 ^ d < 2 * 0) := by omega
      have h2 : (2 ^ d == 2 * 0) = false := by rw [beq_eq_false_iff_ne]; omega
      simp [h2]
  rw [hk]
  have ht : ((n.log2 : Int) - 52 - -1074).toNat = n.log2 + 1022 := by omega
  rw [ht]
  have hub : n * 2 ^ (52 - n.log2) < 2 ^ 53 := by
    have h1 : n < 2 ^ (n.log2 + 1) := Nat.lt_log2_self
    have h2 : n * 2 ^ (52 - n.log2) < 2 ^ (n.log2 + 1) * 2 ^ (52 - n.log2) := Nat.mul_lt_mul_of_pos_right h1 (Nat.two_pow_pos _)
    rw [← Nat.pow_add, show n.log2 + 1 + (52 - n.log2) = 53 by omega] at h2
    exact h2
  have hb : (n.log2 + 1022) * 2 ^ 52 ≤ 1074 * 2 ^ 52 := Nat.mul_le_mul_right _ (by omega)
  have hmin : min ((n.log2 + 1022) * 2 ^ 52 + n * 2 ^ (52 - n.log2)) (2047 * 2 ^ 52) = rungOf n := by
    have key : ∀ q r : Nat, q ≤ 1074 * 2 ^ 52 → r < 2 ^ 53 → min (q + r) (2047 * 2 ^ 52) = q + r := fun q r h1 h2 => Nat.min_eq_left (by omega)
    exact key _ _ hb hub
  rw [hmin]
  rfl

set_option maxRecDepth 20000 in
theorem read_rung {n : Nat} (h0 : n ≠ 0) (h : n < 2 ^ 53) : Stands (double.read (rungOf n)) n := by
  have hL := log2_53 h0 h
  have h1 : n < 2 ^ (n.log2 + 1) := Nat.lt_log2_self
  have h1' : 2 ^ n.log2 ≤ n := Nat.log2_self_le h0
  have hub : n * 2 ^ (52 - n.log2) < 2 ^ 53 := by
    have h2 : n * 2 ^ (52 - n.log2) < 2 ^ (n.log2 + 1) * 2 ^ (52 - n.log2) := Nat.mul_lt_mul_of_pos_right h1 (Nat.two_pow_pos _)
    rw [← Nat.pow_add, show n.log2 + 1 + (52 - n.log2) = 53 by omega] at h2
    exact h2
  have hlb : 2 ^ 52 ≤ n * 2 ^ (52 - n.log2) := by
    have h2 : 2 ^ n.log2 * 2 ^ (52 - n.log2) ≤ n * 2 ^ (52 - n.log2) := Nat.mul_le_mul_right _ h1'
    rw [← Nat.pow_add, show n.log2 + (52 - n.log2) = 52 by omega] at h2
    exact h2
  unfold rungOf Format.read
  have hleast : double.leastPlace = -1074 := by decide
  have hbin : double.binade = 2 ^ 52 := by decide
  have hinf : double.infRung = 2047 * 2 ^ 52 := by decide
  have hsw : double.signWeight = 2 ^ 63 := by decide
  simp only [hleast, hbin, hinf, hsw]
  have hq : (-((n.log2 : Int) - 52)).toNat = 52 - n.log2 := by omega
  generalize hx : n * 2 ^ (52 - n.log2) = x at hub hlb ⊢
  obtain ⟨y, rfl⟩ : ∃ y, x = 2 ^ 52 + y := ⟨x - 2 ^ 52, by omega⟩
  have hr : ((n.log2 + 1022) * 2 ^ 52 + (2 ^ 52 + y)) = (n.log2 + 1023) * 2 ^ 52 + y := by omega
  rw [hr]
  have hlt : (n.log2 + 1023) * 2 ^ 52 + y < 2 ^ 63 := by
    have : (n.log2 + 1023) * 2 ^ 52 ≤ 1075 * 2 ^ 52 := Nat.mul_le_mul_right _ (by omega)
    omega
  have hdiv0 : ((n.log2 + 1023) * 2 ^ 52 + y) / 2 ^ 63 = 0 := Nat.div_eq_of_lt hlt
  have hmod0 : ((n.log2 + 1023) * 2 ^ 52 + y) % 2 ^ 63 = (n.log2 + 1023) * 2 ^ 52 + y := Nat.mod_eq_of_lt hlt
  rw [hdiv0, hmod0]
  have hy : y < 2 ^ 52 := by omega
  have hd : ((n.log2 + 1023) * 2 ^ 52 + y) / 2 ^ 52 = n.log2 + 1023 := by
    rw [Nat.add_comm, Nat.add_mul_div_right _ _ (Nat.two_pow_pos 52), Nat.div_eq_of_lt hy, Nat.zero_add]
  have hmo : ((n.log2 + 1023) * 2 ^ 52 + y) % 2 ^ 52 = y := by
    rw [Nat.add_comm, Nat.add_mul_mod_self_right, Nat.mod_eq_of_lt hy]
  rw [hd, hmo, if_neg (by omega), if_pos (by have : (n.log2 + 1023) * 2 ^ 52 ≤ 1075 * 2 ^ 52 := Nat.mul_le_mul_right _ (by omega)
                                             omega)]
  refine ⟨2 ^ 52 + y, -1074 + ((n.log2 + 1023 - 1 : Nat) : Int), rfl, by omega, ?_⟩
  rw [← hx]
  congr 2
  omega

/-- What 'float64' makes of a number that is not below nought. -/
def fb (n : Nat) : Nat := floatOfInt .f64 (n : Int)

theorem fb_is (n : Nat) : fb n = double.nearest false n 0 := by
  unfold fb floatOfInt FloatKind.nearest FloatKind.encode Format.write FloatKind.format
  have h1 : decide ((n : Int) < 0) = false := decide_eq_false (by omega)
  rw [h1, Int.natAbs_natCast]
theorem fb_zero : fb 0 = 0 := by rw [fb_is]; rfl
theorem fb_one : fb 1 = 4607182418800017408 := by rw [fb_is]; decide
theorem fb_rung {n : Nat} (h0 : n ≠ 0) (h : n < 2 ^ 53) : fb n = rungOf n := by
  rw [fb_is]
  exact nearest_exact h0 h (Int.le_refl _) (by simp)

theorem fb_stands {n : Nat} (h : n < 2 ^ 53) : Stands (double.read (fb n)) n := by
  by_cases h0 : n = 0
  · subst h0
    rw [fb_zero]
    exact ⟨0, -1074, by decide, by omega, (Nat.zero_mul _).symm⟩
  · rw [fb_rung h0 h]
    exact read_rung h0 h

theorem stands_sum {d e : Datum} {a b : Nat} (h1 : Stands d a) (h2 : Stands e b) : ∃ s, d.sum e = some s ∧ Stands s (a + b) := by
  obtain ⟨m, i, rfl, hi, hm⟩ := h1
  obtain ⟨n, j, rfl, hj, hn⟩ := h2
  have e1 : m <<< (i - min i j).toNat = a * 2 ^ (-(min i j)).toNat := by
    rw [Nat.shiftLeft_eq, hm, Nat.mul_assoc, ← Nat.pow_add]
    congr 2
    omega
  have e2 : n <<< (j - min i j).toNat = b * 2 ^ (-(min i j)).toNat := by
    rw [Nat.shiftLeft_eq, hn, Nat.mul_assoc, ← Nat.pow_add]
    congr 2
    omega
  have hs1 : signed false m (i - min i j).toNat = ((a * 2 ^ (-(min i j)).toNat : Nat) : Int) := by unfold signed; rw [e1]; rfl
  have hs2 : signed false n (j - min i j).toNat = ((b * 2 ^ (-(min i j)).toNat : Nat) : Int) := by unfold signed; rw [e2]; rfl
  refine ⟨_, rfl, ?_⟩
  simp only [hs1, hs2]
  refine ⟨(a + b) * 2 ^ (-(min i j)).toNat, min i j, ?_, by omega, rfl⟩
  have hneg : (if ((a * 2 ^ (-(min i j)).toNat : Nat) : Int) + ((b * 2 ^ (-(min i j)).toNat : Nat) : Int) = 0 then (false && false) else decide (((a * 2 ^ (-(min i j)).toNat : Nat) : Int) + ((b * 2 ^ (-(min i j)).toNat : Nat) : Int) < 0)) = false := by
    split
    · rfl
    · exact decide_eq_false (by omega)
  rw [hneg]
  congr 1
  rw [Nat.add_mul]
  omega

theorem stands_write {d : Datum} {n : Nat} (h : Stands d n) (hn : n < 2 ^ 53) : double.write d = fb n := by
  obtain ⟨m, p, rfl, hp, hm⟩ := h
  by_cases h0 : n = 0
  · subst h0
    rw [fb_zero, hm]
    simp [Format.write, Format.nearest, Format.word]
  · rw [fb_rung h0 hn]
    exact nearest_exact h0 hn hp hm

theorem add_fb {a b : Nat} (h : a + b < 2 ^ 53) : floatBits .add .f64 (fb a) (fb b) = some (fb (a + b)) := by
  obtain ⟨s, e, hs⟩ := stands_sum (fb_stands (show a < 2 ^ 53 by omega)) (fb_stands (show b < 2 ^ 53 by omega))
  show double.add (fb a) (fb b) = _
  unfold Format.add
  rw [e, Option.map_some, stands_write hs h]

theorem int_fb {n : Nat} (h : n < 2 ^ 53) : floatToIntVal .f64 (fb n) .i64 = some (n : Int) := by
  obtain ⟨m, p, e, hp, hm⟩ := fb_stands h
  unfold floatToIntVal
  have e1 : (FloatKind.f64.decode (fb n)).toInt .zero = some (n : Int) := by
    show (double.read (fb n)).toInt .zero = _
    rw [e]
    unfold Datum.toInt Datum.integral
    have hp0 : p.toNat = 0 := by omega
    simp only [hp0, Nat.shiftLeft_zero]
    have hc : Toward.zero.cut false m (-p).toNat = n := by
      by_cases hm0 : m = 0
      · have hn0 : n = 0 := by
          rw [hm] at hm0
          rcases Nat.mul_eq_zero.1 hm0 with h1 | h1
          · exact h1
          · exact absurd h1 (Nat.pos_iff_ne_zero.1 (Nat.two_pow_pos _))
        rw [hm0, hn0]
        unfold Toward.cut
        simp
      · have hn0 : n ≠ 0 := fun hz => hm0 (by rw [hm, hz]; simp)
        have hl : (-p).toNat ≤ m.log2 := by rw [hm, log2_shift _ _ hn0]; omega
        unfold Toward.cut
        have hmin : min (-p).toNat (m.log2 + 2) = (-p).toNat := by omega
        have hg : (1 <<< (-p).toNat : Nat) = 2 ^ (-p).toNat := by rw [Nat.shiftLeft_eq, Nat.one_mul]
        simp only [hmin, hg]
        rw [hm, Nat.mul_div_cancel _ (Nat.two_pow_pos _)]
        simp
    rw [hc]
    simp [signed]
  rw [e1]
  have h1 : IntKind.i64.min = -9223372036854775808 := rfl
  have h2 : IntKind.i64.max = 9223372036854775807 := rfl
  simp only [h1, h2]
  rw [if_pos (by omega)]

theorem sum_fb {a b c d : Nat} (h1 : a + c < 2 ^ 53) (h2 : b + d < 2 ^ 53) : cSumBits .add .f64 (fb a) (fb b) (fb c) (fb d) = some (fb (a + c), fb (b + d)) := by
  unfold cSumBits
  rw [add_fb h1, add_fb h2]
  rfl


end Go.Proofs.YtdlcjcobfckncaaDoor.Flt
