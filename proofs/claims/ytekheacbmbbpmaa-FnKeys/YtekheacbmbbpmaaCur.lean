/-
  The model's reader of choices: it moves on in its own block alone and tells some number; which one nothing asks.
-/
import Derived.Test.YtekheacbmbbpmaaMem
namespace Go.Proofs.Ytekheacbmbbpmaa.Cur
open Go.RowKit
open Go.Proofs.Ytekheacbmbbpmaa.Frame Go.Proofs.Ytekheacbmbbpmaa.Mem

/-- A reader at block b, moved on at most t times. -/
def Is (b : Nat) (t : Int) (w : World) : Prop :=
  ∃ (a : Option Addr) (len cap : Nat) (zs : List Int) (at_ seed : Int), IsRow .u8 w a len cap zs ∧ (∀ x, a = some x → 0 < len → x.block < b) ∧ w.cell? ⟨b, 0, none⟩ = some (.slice a len cap) ∧ w.cell? ⟨b, 1, none⟩ = some (.int .i64 at_) ∧
    w.cell? ⟨b, 2, none⟩ = some (.int .u64 seed) ∧ 0 ≤ at_ ∧ at_ ≤ t ∧ (Lit.int .u64 seed).wf = true ∧ w.frozen? ⟨b, 1, none⟩ = false ∧ w.frozen? ⟨b, 2, none⟩ = false

theorem wf_wrap64u (x : Int) : (Lit.int .u64 (IntKind.u64.wrap x)).wf = true := wf_wrap _ _

theorem low_byte (y : Int) (h0 : 0 ≤ y) (h1 : y ≤ 18446744073709551615) : 0 ≤ wrap64 (bits .and .u64 y 255) ∧ wrap64 (bits .and .u64 y 255) ≤ 255 := by
  have h := bits_and_u64_nat y.toNat 255 (by omega) (by omega)
  rw [Int.toNat_of_nonneg h0] at h
  have h2 : y.toNat &&& 255 ≤ 255 := Nat.and_le_right
  have h3 : bits .and .u64 y 255 = ((y.toNat &&& 255 : Nat) : Int) := h
  rw [h3]
  generalize y.toNat &&& 255 = z at *
  have e : wrap64 (z : Int) = (z : Int) := by unfold wrap64; omega
  rw [e]
  omega
theorem seed_div (x : Int) : 0 ≤ IntKind.u64.wrap x / 1099511627776 ∧ IntKind.u64.wrap x / 1099511627776 ≤ 18446744073709551615 := by
  have h := wf_wrap64u x
  generalize IntKind.u64.wrap x = y at *
  have h1 : IntKind.u64.min = 0 := rfl
  have h2 : IntKind.u64.max = 18446744073709551615 := rfl
  simp only [Lit.wf, Bool.and_eq_true, decide_eq_true_eq] at h
  omega

/-- Behind a move. -/
theorem moved {b : Nat} {t : Int} {w : World} {a : Option Addr} {len cap : Nat} {zs : List Int} {at_ seed s' : Int} {j k : Nat} (hr : IsRow .u8 w a len cap zs) (hne : ∀ x, a = some x → 0 < len → x.block < b) (c0 : w.cell? ⟨b, 0, none⟩ = some (.slice a len cap))
    (c1 : w.cell? ⟨b, 1, none⟩ = some (.int .i64 at_)) (c2 : w.cell? ⟨b, 2, none⟩ = some (.int .u64 seed)) (ha0 : 0 ≤ at_) (hat : at_ ≤ t) (hs : (Lit.int .u64 s').wf = true) (f1 : w.frozen? ⟨b, 1, none⟩ = false) (f2 : w.frozen? ⟨b, 2, none⟩ = false) :
    Is b (t + 1) ((((w.drewN j).setCell ⟨b, 1, none⟩ (.int .i64 (at_ + 1))).setCell ⟨b, 2, none⟩ (.int .u64 s')).drewN k) ∧ OnlyAt (some ⟨b, 0, none⟩) w ((((w.drewN j).setCell ⟨b, 1, none⟩ (.int .i64 (at_ + 1))).setCell ⟨b, 2, none⟩ (.int .u64 s')).drewN k) := by
  have o : OnlyAt (some ⟨b, 0, none⟩) w ((((w.drewN j).setCell ⟨b, 1, none⟩ (.int .i64 (at_ + 1))).setCell ⟨b, 2, none⟩ (.int .u64 s')).drewN k) :=
    ((((OnlyAt.refl _ w).drewN j).setCell (fun x hx => by cases hx; rfl) (by simp) _).setCell (fun x hx => by cases hx; rfl) (by simp) _).drewN k
  refine ⟨⟨a, len, cap, zs, at_ + 1, s', ?_, hne, ?_, ?_, ?_, by omega, by omega, hs, ?_, ?_⟩, o⟩
  · refine ⟨hr.len, hr.fits, hr.max, hr.wf, fun h0 => ?_⟩
    obtain ⟨bb, off, ha, hlt, hc⟩ := hr.cells h0
    refine ⟨bb, off, ha, Nat.lt_of_lt_of_le hlt o.size, fun i hi => ?_⟩
    rw [o.cell hlt (fun x hx => by cases hx; exact Nat.ne_of_lt (hne _ ha h0))]
    exact hc i hi
  all_goals simp [go_sem, *]

set_option maxHeartbeats 1600000 in
theorem next (b : Nat) (t : Int) (w : World) (h : Is b t w) (ht : t ≤ 1000000) :
    Calls Try.prog 71 #[.pointer (some ⟨b, 0, none⟩)] w fun e w' => ∃ x : Int, e = .returned (.int .i64 x) ∧ 0 ≤ x ∧ x ≤ 255 ∧ Is b (t + 1) w' ∧ OnlyAt (some ⟨b, 0, none⟩) w w' := by
  obtain ⟨a, len, cap, zs, at_, seed, hr, hne, c0, c1, c2, ha0, hat, hsd, f1, f2⟩ := h
  have hmax := hr.max
  have hfit := hr.fits
  unfold maxLen at hmax
  have HR : Hid (IsRow .u8 w a len cap zs) := hr
  have HNE : Hid (∀ x, a = some x → 0 < len → x.block < b) := hne
  clear hr hne hsd
  by_cases hlt : at_ < (len : Int)
  · obtain ⟨bb, off, rfl, hbl, hc⟩ := HR.out.cells (by omega)
    have hck := hc at_.toNat (by omega)
    have hx := HR.out.wf _ (getD_mem (zs := zs) (i := at_.toNat) (by rw [HR.out.len]; omega))
    generalize zs.getD at_.toNat 0 = x at hck hx
    have hx0 : 0 ≤ x ∧ x ≤ 255 := by
      have h1 : IntKind.u8.min = 0 := rfl
      have h2 : IntKind.u8.max = 255 := rfl
      simp only [Lit.wf, Bool.and_eq_true, decide_eq_true_eq] at hx
      omega
    obtain ⟨hx0, hx1⟩ := hx0
    clear hc hx
    have hle : at_ + 1 ≤ (len : Int) := by omega
    go_enter Try.func71, Try.ntmps71
    go_wp2_with fail
    go_quiet (fail)
    go_wp2_with fail
    go_quiet (fail)
    go_wp2_with fail
    go_quiet (fail)
    go_wp2
    go_ret
    refine ⟨x, rfl, hx0, hx1, ?_⟩
    exact moved HR.out HNE.out c0 c1 c2 ha0 hat (wf_wrap64u _) f1 f2
  · have hle : ¬ at_ + 1 ≤ (len : Int) := by omega
    have hltb : decide (at_ < (len : Int)) = false := decide_eq_false hlt
    have hleb : decide (at_ + 1 ≤ (len : Int)) = false := decide_eq_false hle
    go_enter Try.func71, Try.ntmps71
    go_wp2_with fail
    go_quiet (fail)
    go_wp2_with fail
    go_quiet (fail)
    go_wp2
    go_ret
    have hd := seed_div (IntKind.u64.wrap (IntKind.u64.wrap (seed * 6364136223846793005)) + 1442695040888963407)
    have hy := low_byte _ hd.1 hd.2
    exact ⟨_, rfl, hy.1, hy.2, moved HR.out HNE.out c0 c1 c2 ha0 hat (wf_wrap64u _) f1 f2⟩

theorem Is.below {b : Nat} {t : Int} {w w' : World} (h : Is b t w) (hb : Below w.heap.size w w') : Is b t w' := by
  obtain ⟨a, len, cap, zs, at_, seed, hr, hne, c0, c1, c2, ha0, hat, hsd, f1, f2⟩ := h
  have hl := cell_lt c0
  refine ⟨a, len, cap, zs, at_, seed, IsRow.below hr hb, hne, ?_, ?_, ?_, ha0, hat, hsd, ?_, ?_⟩
  · rw [hb.cell (p := ⟨b, 0, none⟩) hl]; exact c0
  · rw [hb.cell (p := ⟨b, 1, none⟩) hl]; exact c1
  · rw [hb.cell (p := ⟨b, 2, none⟩) hl]; exact c2
  · rw [hb.frozen (p := ⟨b, 1, none⟩) hl]; exact f1
  · rw [hb.frozen (p := ⟨b, 2, none⟩) hl]; exact f2
theorem Is.mono {b : Nat} {t t' : Int} {w : World} (h : Is b t w) (ht : t ≤ t') : Is b t' w := by
  obtain ⟨a, len, cap, zs, at_, seed, hr, hne, c0, c1, c2, ha0, hat, r⟩ := h
  exact ⟨a, len, cap, zs, at_, seed, hr, hne, c0, c1, c2, ha0, by omega, r⟩
theorem Is.lt {b : Nat} {t : Int} {w : World} (h : Is b t w) : b < w.heap.size := by
  obtain ⟨a, len, cap, zs, at_, seed, hr, hne, c0, r⟩ := h
  exact cell_lt c0

/-- What each of the reader's methods leaves. -/
def Moved (b : Nat) (t : Int) (w w' : World) : Prop := Is b t w' ∧ OnlyAt (some ⟨b, 0, none⟩) w w'

theorem Moved.next {b : Nat} {t t' : Int} {w w1 w2 : World} (h : Moved b t w w1) (k : Moved b t' w1 w2) : Moved b t' w w2 := ⟨k.1, h.2.trans k.2⟩

set_option maxHeartbeats 800000 in
theorem pick (b : Nat) (t : Int) (n : Int) (w : World) (h : Is b t w) (ht : t ≤ 900000) (h1 : 1 ≤ n) (h2 : n ≤ 1000000) :
    Calls Try.prog 54 #[.pointer (some ⟨b, 0, none⟩), .int .i64 n] w fun e w' => ∃ x : Int, e = .returned (.int .i64 x) ∧ 0 ≤ x ∧ x < n ∧ Moved b (t + 2) w w' := by
  have H : Hid (Is b t w) := h
  clear h
  by_cases hn : n ≤ 1
  · go_enter Try.func54, Try.ntmps54
    go_wp2
    go_ret
    exact ⟨0, rfl, by omega, by omega, H.out.mono (by omega), OnlyAt.refl _ _⟩
  · by_cases hb : 200 < n
    · go_enter Try.func54, Try.ntmps54
      go_wp2_with fail
      refine (next b t _ H.out (by omega)).mono ?_
      rintro e w1 ⟨x, rfl, hx0, hx1, hi1, ho1⟩
      have HI : Hid _ := hi1
      have HO : Hid _ := ho1
      clear hi1 ho1
      go_wp2_with fail
      refine (next b (t + 1) _ HI.out (by omega)).mono ?_
      rintro e w2 ⟨y, rfl, hy0, hy1, hi2, ho2⟩
      have HI2 : Hid _ := hi2
      have HO2 : Hid _ := HO.out.trans ho2
      clear hi2 ho2
      have e0 : (x * 256 + y) % n < n := Int.emod_lt_of_pos _ (by omega)
      have e1 : 0 ≤ (x * 256 + y) % n := Int.emod_nonneg _ (by omega)
      have E0 : Hid _ := e0
      have E1 : Hid _ := e1
      clear e0 e1
      go_wp2
      go_ret
      exact ⟨_, rfl, E1.out, E0.out, Is.mono HI2.out (by omega), HO2.out⟩
    · go_enter Try.func54, Try.ntmps54
      go_wp2_with fail
      refine (next b t _ H.out (by omega)).mono ?_
      rintro e w1 ⟨x, rfl, hx0, hx1, hi1, ho1⟩
      have HI : Hid _ := hi1
      have HO : Hid _ := ho1
      clear hi1 ho1
      have e0 : x % n < n := Int.emod_lt_of_pos _ (by omega)
      have e1 : 0 ≤ x % n := Int.emod_nonneg _ (by omega)
      have E0 : Hid _ := e0
      have E1 : Hid _ := e1
      clear e0 e1
      go_wp2
      go_ret
      exact ⟨_, rfl, E1.out, E0.out, Is.mono HI.out (by omega), HO.out⟩

theorem one (b : Nat) (t : Int) (n : Int) (w : World) (h : Is b t w) (ht : t ≤ 900000) (h1 : 1 ≤ n) (h2 : n ≤ 1000000) :
    Calls Try.prog 56 #[.pointer (some ⟨b, 0, none⟩), .int .i64 n] w fun e w' => ∃ x : Bool, e = .returned (.bool x) ∧ Moved b (t + 2) w w' := by
  have H : Hid (Is b t w) := h
  clear h
  go_enter Try.func56, Try.ntmps56
  go_wp2_with fail
  refine (pick b t n _ H.out (by omega) (by omega) (by omega)).mono ?_
  rintro e w1 ⟨x, rfl, hx0, hx1, hl⟩
  have HL : Hid _ := hl
  clear hl
  go_wp2
  go_ret
  exact ⟨_, rfl, HL.out⟩

theorem among (b : Nat) (t : Int) (a : Option Addr) (n cap : Nat) (zs : List Int) (w : World) (h : Is b t w) (hr : IsRow .i64 w a n cap zs) (hne : ∀ x, a = some x → x.block ≠ b) (ht : t ≤ 900000) (h1 : 1 ≤ n) (h2 : n ≤ 1000000) :
    Calls Try.prog 69 #[.pointer (some ⟨b, 0, none⟩), .slice a n cap] w fun e w' => ∃ x : Int, e = .returned (.int .i64 x) ∧ x ∈ zs ∧ Moved b (t + 2) w w' := by
  have H : Hid (Is b t w) := h
  have HR : Hid (IsRow .i64 w a n cap zs) := hr
  have HNE : Hid (∀ x, a = some x → x.block ≠ b) := hne
  obtain ⟨c, off, rfl, hlt, hc⟩ := hr.cells (by omega)
  have HC : Hid _ := hc
  clear h hr hne hc
  go_enter Try.func69, Try.ntmps69
  go_wp2_with fail
  refine (pick b t n _ H.out (by omega) (by omega) (by omega)).mono ?_
  rintro e w1 ⟨x, rfl, hx0, hx1, hl⟩
  have HL : Hid _ := hl
  have hcx : w1.cell? ⟨c, off + x.toNat, none⟩ = some (.int .i64 (zs.getD x.toNat 0)) := by
    rw [hl.2.cell hlt (fun y hy => by cases hy; exact HNE.out _ rfl)]
    exact HC.out _ (by omega)
  have HM : Hid (zs.getD x.toNat 0 ∈ zs) := getD_mem (by rw [HR.out.len]; omega)
  generalize zs.getD x.toNat 0 = z at hcx HM
  clear hl
  go_wp2
  go_ret
  exact ⟨z, rfl, HM.out, HL.out⟩


end Go.Proofs.Ytekheacbmbbpmaa.Cur
