/-
  Numbers of bytes, the greatest first: plain mathematics.
-/
import Derived.Test.YtfhnfjfjmjopeaaDoorBase
namespace Go.Proofs.YtfhnfjfjmjopeaaDoor
open Go.RowKit
set_option linter.unusedVariables false

/-- The number that bytes are. -/
def beL (l : List UInt8) : Nat := l.foldl (fun n b => n * 256 + b.toNat) 0
theorem beL_nil : beL [] = 0 := rfl
theorem beL_snoc (l : List UInt8) (c : UInt8) : beL (l ++ [c]) = beL l * 256 + c.toNat := by
  unfold beL; rw [List.foldl_append]; rfl
theorem beL_lt : ∀ (n : Nat) (l : List UInt8), l.length = n → beL l < 256 ^ n
  | 0, [], _ => by simp [beL]
  | n + 1, l, h => by
    have hne : l ≠ [] := by intro e; subst e; simp at h
    have e := List.dropLast_concat_getLast hne
    rw [← e, beL_snoc]
    have := beL_lt n l.dropLast (by simp [h])
    have hc := (l.getLast hne).toNat_lt
    rw [Nat.pow_succ]
    omega
theorem take_snoc (s : ByteArray) (k : Nat) (h : k < s.size) : s.data.toList.take (k + 1) = s.data.toList.take k ++ [s[k]] := by
  rw [List.take_succ_eq_append_getElem (by simpa using h)]; rfl
theorem be_take (s : ByteArray) (k : Nat) (h : k < s.size) : beL (s.data.toList.take (k + 1)) = beL (s.data.toList.take k) * 256 + s[k].toNat := by
  rw [take_snoc s k h, beL_snoc]
theorem be_take_lt (s : ByteArray) (k : Nat) (h : k ≤ s.size) : beL (s.data.toList.take k) < 256 ^ k :=
  beL_lt k _ (by rw [List.length_take]; simp; omega)
/-- The bytes that a number is, so many of them. -/
def beB : Nat → Nat → List UInt8
  | 0, _ => []
  | k + 1, n => beB k (n / 256) ++ [UInt8.ofNat n]
theorem beB_length : ∀ k n : Nat, (beB k n).length = k
  | 0, _ => rfl
  | k + 1, n => by simp [beB, beB_length k]
theorem beL_beB : ∀ k n : Nat, n < 256 ^ k → beL (beB k n) = n
  | 0, n, h => by simp at h; subst h; rfl
  | k + 1, n, h => by
    rw [beB, beL_snoc, beL_beB k (n / 256) (by rw [Nat.pow_succ] at h; omega)]
    simp
    omega
theorem beB_beL : ∀ (k : Nat) (l : List UInt8), l.length = k → beB k (beL l) = l
  | 0, [], _ => rfl
  | k + 1, l, h => by
    have hne : l ≠ [] := by intro e; subst e; simp at h
    have e := List.dropLast_concat_getLast hne
    have hc := (l.getLast hne).toNat_lt
    have ih := beB_beL k l.dropLast (by simp [h])
    have h1 : beL l = beL l.dropLast * 256 + (l.getLast hne).toNat := by rw [← beL_snoc, e]
    rw [beB, h1, show (beL l.dropLast * 256 + (l.getLast hne).toNat) / 256 = beL l.dropLast by omega, ih]
    have h2 : UInt8.ofNat (beL l.dropLast * 256 + (l.getLast hne).toNat) = l.getLast hne := by
      apply UInt8.toNat_inj.1
      simp
    rw [h2]
    exact e
end Go.Proofs.YtfhnfjfjmjopeaaDoor
