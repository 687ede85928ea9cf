/-
  How much the laws of comp go over.
-/
import Derived.Test.YtfhnfjfjmjopeaaDoorCompOpen
namespace Go.Proofs.YtfhnfjfjmjopeaaDoor
open Go.RowKit
set_option linter.unusedVariables false
set_option linter.unusedSimpArgs false

theorem take_allI {α : Type} {P : α → Prop} {l : List α} {k : Nat} {z : α} (h : ∀ y ∈ l.take k, P y) (hz : l[k]? = some z) (hp : P z) : ∀ y ∈ l.take (k + 1), P y := by
  obtain ⟨hk, e⟩ := List.getElem?_eq_some_iff.1 hz
  rw [List.take_succ_eq_append_getElem hk, e]
  intro y hy
  rcases List.mem_append.1 hy with hy | hy
  · exact h y hy
  · rw [List.mem_singleton.1 hy]; exact hp
set_option maxRecDepth 1000000 in
set_option maxHeartbeats 3200000 in
theorem long04 (w : World) (A : Option Addr) (n c : Nat) (l : List It) (hl : l.length = n) (hr : Reads w w.heap.size 4 A n (itRow l)) (hn : n ≤ maxLen) (hsz : ∀ z ∈ l, okI z) :
    Calls Tryd.prog 13 #[.slice A n c] w fun e w' =>
      (e = .returned (.bool true) ∧ Still w w') ∨ (Hid (n ≤ 500 ∧ ∀ z ∈ l, z.nm.size < 8000) ∧ e = .returned (.bool false) ∧ Still w w') := by
  unfold maxLen at hn
  have HL := Lib.hid hl
  go_enter Tryd.func13, Tryd.ntmps13
  go_wp2_with fail
  go_loopw [3, 4] (fun i5 i6 wr => ∃ k m : Nat, k ≤ n ∧ i5 = .int .i64 m ∧ i6 = .int .i64 k ∧ m ≤ 16020 ∧ Hid (20 * k ≤ m ∧ ∀ z ∈ l.take k, min 8000 z.nm.size ≤ m) ∧ Still w wr) (fun _ i6 _ => n - (intOf i6).toNat)
  case atStart => exact ⟨0, 0, Nat.zero_le _, rfl, rfl, by omega, Lib.hid ⟨by omega, by simp⟩, Only.refl _ _⟩
  case round =>
    obtain ⟨k, m, hk, rfl, rfl, hm, hinv, hst⟩ := hrel
    by_cases hc : k < n ∧ m < 8000
    · obtain ⟨c1, c2⟩ := hc
      have hrr := hr.only hst (Nat.le_refl _) (fun _ _ h => h)
      obtain ⟨bl, off, z, hA, hbl, hlk, hz, x0, x1, x2, x3⟩ := it_cells hrr hl c1
      subst hA
      have d1 : decide ((k : Int) < n) = true := decide_eq_true (by omega)
      have d2 : decide ((m : Int) < 8000) = true := decide_eq_true (by omega)
      have zz := (hsz z hz).1
      unfold maxLen at zz
      have Hlk := Lib.hid hlk
      clear hlk hz
      go_wp2_with fail
      obtain ⟨i1, i2⟩ := hinv.out
      refine ⟨⟨k + 1, m + 20 + min 8000 z.nm.size, by omega, ?_, by go_num, by omega, Lib.hid ⟨by omega, ?_⟩, hst⟩, ?_⟩
      · split <;> (congr 1; omega)
      · exact take_allI (fun y hy => by have := i2 y hy; omega) Hlk.out (by omega)
      · simp [intOf]; omega
    · obtain ⟨i1, i2⟩ := hinv.out
      by_cases hm' : m < 8000
      · have hk' : k = n := by
          rcases Nat.lt_or_ge k n with h | h
          · exact absurd ⟨h, hm'⟩ hc
          · omega
        have d1 : ¬ k < n := by omega
        have d2 : decide ((m : Int) ≥ 8000) = false := decide_eq_false (by omega)
        rw [List.take_of_length_le (by omega)] at i2
        have HJ : Hid (n ≤ 500 ∧ ∀ z ∈ l, z.nm.size < 8000) := Lib.hid ⟨by omega, fun z hz => by have := i2 z hz; omega⟩
        clear i1 i2 hinv hc hk'
        go_wp2_with fail
        go_ret
        exact .inr ⟨HJ, rfl, hst⟩
      · have d2 : decide ((m : Int) ≥ 8000) = true := decide_eq_true (by omega)
        have d3 : decide ((m : Int) < 8000) = false := decide_eq_false (by omega)
        clear i1 i2 hinv hc
        by_cases hkn : k < n
        · go_wp2_with fail
          go_ret
          exact .inl ⟨rfl, hst⟩
        · go_wp2_with fail
          go_ret
          exact .inl ⟨rfl, hst⟩
end Go.Proofs.YtfhnfjfjmjopeaaDoor
