/-
  Package lru: numbers without one of them; lengths.
-/
import Derived.Test.YtfbknjboceheaaaLruMade
namespace Go.Proofs.Ytfbknjboceheaaa
open Go.RowKit
set_option linter.unusedVariables false

theorem LL.length_le {n : Nat} {L : List Nat} (h : LL n L) : L.length ≤ 256 := by
  have h0 : (0 :: L).Nodup := List.nodup_cons.2 ⟨h.row.nz, h.row.nd⟩
  have h1 := nodup_le 257 (0 :: L) h0 (fun x hx => by
    rcases List.mem_cons.1 hx with rfl | hx
    · omega
    · have := h.le x hx; have := h.mx; omega)
  simp at h1
  omega
/-- All but p. -/
def flt (p : Int) (xs : List Int) : List Int := xs.filter (fun x => decide (x ≠ p))
theorem flt_nil (p : Int) : flt p [] = [] := rfl
theorem flt_keep {xs : List Int} {k : Nat} {x p : Int} (h : xs[k]? = some x) (hx : x ≠ p) : flt p (xs.take (k + 1)) = flt p (xs.take k) ++ [x] := by
  unfold flt
  rw [List.take_add_one, h, List.filter_append]
  simp [hx]
theorem flt_drop {xs : List Int} {k : Nat} {x p : Int} (h : xs[k]? = some x) (hx : x = p) : flt p (xs.take (k + 1)) = flt p (xs.take k) := by
  unfold flt
  rw [List.take_add_one, h, List.filter_append]
  simp [hx]
theorem flt_le (p : Int) (xs : List Int) : (flt p xs).length ≤ xs.length := List.length_filter_le _ _
theorem flt_out (p : Nat) (L : List Nat) : toInts (out (p + 1) L) = flt p (toInts L) := by
  unfold toInts out flt
  rw [List.filter_map]
  congr 1
  apply List.filter_congr
  intro x _
  simp
  omega
theorem toInts_length (L : List Nat) : (toInts L).length = L.length := by simp [toInts]
theorem toInts_snoc (p : Nat) (L : List Nat) : toInts (L ++ [p + 1]) = toInts L ++ [(p : Int)] := by
  simp [toInts]
theorem mem_toInts {p : Nat} {L : List Nat} : (p : Int) ∈ toInts L ↔ p + 1 ∈ L := by
  simp only [toInts, List.mem_map]
  constructor
  · rintro ⟨q, hq, he⟩
    have : q = p + 1 := by omega
    exact this ▸ hq
  · intro h
    exact ⟨p + 1, h, by omega⟩
end Go.Proofs.Ytfbknjboceheaaa
