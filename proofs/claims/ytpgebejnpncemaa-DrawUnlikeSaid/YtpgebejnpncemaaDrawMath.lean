/-
  Package draw: of two seeds that are unlike all draws are unlike. Numbers alone.
-/
import Derived.Test.YtpgebejnpncemaaDraw
namespace Go.Proofs.Ytpgebejnpncemaa
open Go.RowKit
set_option linter.unusedVariables false

theorem xor_zero {x y : Nat} (h : x ^^^ y = 0) : x = y := by
  have e : x = (x ^^^ y) ^^^ y := by rw [Nat.xor_assoc, Nat.xor_self, Nat.xor_zero]
  rw [h, Nat.zero_xor] at e
  exact e

theorem shift_inj (s : Nat) (hs : 1 ≤ s) (x y : Nat) (h : x ^^^ (x >>> s) = y ^^^ (y >>> s)) : x = y := by
  have hz : (x ^^^ y) = (x ^^^ y) >>> s := by
    rw [Nat.shiftRight_xor_distrib]
    have h1 : (x ^^^ (x >>> s)) ^^^ (y ^^^ (y >>> s)) = 0 := by rw [h]; exact Nat.xor_self _
    have h2 : (x ^^^ y) ^^^ ((x >>> s) ^^^ (y >>> s)) = 0 := by
      rw [← h1]
      ac_rfl
    exact xor_zero h2
  have h0 : x ^^^ y = 0 := by
    rcases Nat.eq_zero_or_pos (x ^^^ y) with h | h
    · exact h
    · exfalso
      rw [Nat.shiftRight_eq_div_pow] at hz
      have : (x ^^^ y) / 2 ^ s < x ^^^ y := Nat.div_lt_self h (Nat.one_lt_two_pow (by omega))
      omega
  exact xor_zero h0

theorem xs_inj (s : Nat) (hs : 1 ≤ s) (d : Int) (hd : d = ((2 ^ s : Nat) : Int)) (x y : Int) (hx : 0 ≤ x ∧ x < 18446744073709551616) (hy : 0 ≤ y ∧ y < 18446744073709551616)
    (h : bits .xor .u64 x (x / d) = bits .xor .u64 y (y / d)) : x = y := by
  obtain ⟨a, rfl⟩ := Int.eq_ofNat_of_zero_le hx.1
  obtain ⟨b, rfl⟩ := Int.eq_ofNat_of_zero_le hy.1
  subst hd
  have ha : a < 18446744073709551616 := by omega
  have hb : b < 18446744073709551616 := by omega
  have e1 : ((a : Int) / ((2 ^ s : Nat) : Int)) = ((a / 2 ^ s : Nat) : Int) := by rw [Int.natCast_ediv]
  have e2 : ((b : Int) / ((2 ^ s : Nat) : Int)) = ((b / 2 ^ s : Nat) : Int) := by rw [Int.natCast_ediv]
  have ha2 : a / 2 ^ s < 18446744073709551616 := Nat.lt_of_le_of_lt (Nat.div_le_self _ _) ha
  have hb2 : b / 2 ^ s < 18446744073709551616 := Nat.lt_of_le_of_lt (Nat.div_le_self _ _) hb
  rw [e1, e2, u64_xor_nat _ _ ha ha2, u64_xor_nat _ _ hb hb2] at h
  have h' : a ^^^ (a >>> s) = b ^^^ (b >>> s) := by
    rw [Nat.shiftRight_eq_div_pow, Nat.shiftRight_eq_div_pow]
    exact Int.ofNat_inj.1 h
  rw [shift_inj s hs a b h']

theorem mul_inj (c i q : Int) (hc : c * i = 1 + 18446744073709551616 * q) (x y : Int) (hx : 0 ≤ x ∧ x < 18446744073709551616) (hy : 0 ≤ y ∧ y < 18446744073709551616)
    (h : IntKind.u64.wrap (x * c) = IntKind.u64.wrap (y * c)) : x = y := by
  rw [IntKind.wrap_u64, IntKind.wrap_u64] at h
  have key : ∀ z : Int, (z * c) % 18446744073709551616 * i % 18446744073709551616 = z % 18446744073709551616 := by
    intro z
    rw [Int.mul_emod, Int.emod_emod, ← Int.mul_emod, Int.mul_assoc, hc, Int.mul_add, Int.mul_one]
    have : z * (18446744073709551616 * q) = 18446744073709551616 * (z * q) := by rw [Int.mul_left_comm]
    rw [this, Int.add_mul_emod_self_left]
  have h1 := key x
  have h2 := key y
  rw [h, h2] at h1
  omega

theorem mixA_range (n : Int) : 0 ≤ mixA n ∧ mixA n < 18446744073709551616 := by simp only [mixA, IntKind.wrap_u64]; omega
theorem mixB_range (n : Int) : 0 ≤ mixB n ∧ mixB n < 18446744073709551616 := by simp only [mixB, IntKind.wrap_u64]; omega

theorem mixed_inj (x y : Int) (hx : 0 ≤ x ∧ x < 18446744073709551616) (hy : 0 ≤ y ∧ y < 18446744073709551616) (h : mixed x = mixed y) : x = y := by
  have h3 := xs_inj 31 (by omega) 2147483648 (by decide) _ _ (mixB_range _) (mixB_range _) h
  have rx := mixA_range x
  have ry := mixA_range y
  have h2 := mul_inj _ 3573116690164977347 2077064247507883091 (by decide) _ _ (xor_range _ _ rx.1 rx.2 (by omega) (by omega)) (xor_range _ _ ry.1 ry.2 (by omega) (by omega)) h3
  have h2' := xs_inj 27 (by omega) 134217728 (by decide) _ _ rx ry h2
  have h1 := mul_inj _ 10871156337175269513 8125545580553827436 (by decide) _ _ (xor_range _ _ hx.1 hx.2 (by omega) (by omega)) (xor_range _ _ hy.1 hy.2 (by omega) (by omega)) h2'
  exact xs_inj 30 (by omega) 1073741824 (by decide) _ _ hx hy h1

theorem nth_inj (a b k : Int) (ha : 0 ≤ a ∧ a < 18446744073709551616) (hb : 0 ≤ b ∧ b < 18446744073709551616) (h : nth a k = nth b k) : a = b := by
  have h1 := mixed_inj _ _ (by simp only [IntKind.wrap_u64]; omega) (by simp only [IntKind.wrap_u64]; omega) h
  simp only [IntKind.wrap_u64] at h1
  omega
end Go.Proofs.Ytpgebejnpncemaa
