/-
  Split and Code; the examples are as they are told.
-/
import Derived.Test.YtbapnlgddekakaaDoorEdnsSame
namespace Go.Proofs.YtbapnlgddekakaaDoor
open Go.RowKit
set_option linter.unusedVariables false
set_option linter.unusedSimpArgs false

theorem and15_8 (c : Nat) (hc : c < 256) : bits .and .u8 (c : Int) 15 = ((c % 16 : Nat) : Int) := by
  have h : ∀ c : Fin 256, bits .and .u8 ((c.val : Nat) : Int) 15 = ((c.val % 16 : Nat) : Int) := by decide +kernel
  exact h ⟨c, hc⟩
theorem and15_64 (c : Nat) (hc : c < 4096) : bits .and .i64 (c : Int) 15 = ((c % 16 : Nat) : Int) := by
  have h15 : (BitVec.ofInt 64 15).toNat = 2 ^ 4 - 1 := by decide
  have key : (BitVec.ofInt 64 (c : Int) &&& BitVec.ofInt 64 15).toNat = ((c : Int) % ((2 ^ 64 : Nat) : Int)).toNat % 2 ^ 4 := by
    rw [BitVec.toNat_and, BitVec.toNat_ofInt, h15, Nat.and_two_pow_sub_one_eq_mod]
  show IntKind.i64.wrap ((BitVec.ofInt 64 (c : Int) &&& BitVec.ofInt 64 15).toNat : Nat) = _
  rw [key, IntKind.wrap_i64]
  omega
theorem or16 (x b : Nat) (hx : x < 256) (hb : b < 16) : bits .or .i64 ((x : Int) * 16) (b : Int) = (x : Int) * 16 + (b : Int) :=
  bits_join .i64 63 (by decide) (fun n h0 h1 => IntWalk.i64_in _ (by omega)) 4 _ _ (by omega) (by omega) (by omega) (by omega) (by omega) (by omega)
theorem code_any (c e : Nat) (hc : c < 256) (he : e < 256) (w : World) :
    Calls Tryd.prog 17 #[.int .u8 c, .int .u8 e] w fun ev w' => ev = .returned (.int .i64 ((e * 16 + c % 16 : Nat) : Int)) ∧ w = w' := by
  have h1 := and15_8 c hc
  have h2 := or16 e (c % 16) he (by omega)
  obtain ⟨m, hm⟩ : ∃ m, m = c % 16 := ⟨_, rfl⟩
  rw [← hm] at h1 h2 ⊢
  have hm16 : m < 16 := by omega
  have y1 : IntKind.i64.wrap (m : Int) = (m : Int) := IntWalk.i64_in _ (by omega)
  have y2 : IntKind.i64.wrap ((e : Int) * 16) = (e : Int) * 16 := IntWalk.i64_in _ (by omega)
  clear hm
  go_enter Tryd.func17, Tryd.ntmps17
  go_wp2_with fail
  go_ret
  exact ⟨ret_int (by push_cast; rfl), rfl⟩
theorem split_in (n : Nat) (hn : n < 4096) (w : World) :
    Calls Tryd.prog 13 #[.int .i64 n] w fun ev w' => ev = .returned (.tuple #[.int .u8 ((n % 16 : Nat) : Int), .int .u8 ((n / 16 : Nat) : Int), .int .i64 0]) ∧ w = w' := by
  have h1 := and15_64 n hn
  obtain ⟨m, hm⟩ : ∃ m, m = n % 16 := ⟨_, rfl⟩
  obtain ⟨d, hd⟩ : ∃ d, d = n / 16 := ⟨_, rfl⟩
  have hd' : (n : Int) / 16 = (d : Int) := by omega
  rw [← hm] at h1 ⊢
  rw [← hd]
  have hm16 : m < 16 := by omega
  have hd256 : d < 256 := by omega
  have y1 : IntKind.u8.wrap (m : Int) = (m : Int) := by rw [IntKind.wrap_u8]; omega
  have y2 : IntKind.u8.wrap (d : Int) = (d : Int) := by rw [IntKind.wrap_u8]; omega
  have h0 : ¬ (n : Int) < 0 := by omega
  have h4 : ¬ (4095 : Int) < (n : Int) := by omega
  clear hm hd
  go_enter Tryd.func13, Tryd.ntmps13
  go_wp2_with fail
  go_ret3
  exact ⟨rfl, rfl⟩
theorem split_out (n : Int) (hn : n < 0 ∨ 4095 < n) (w : World) :
    Calls Tryd.prog 13 #[.int .i64 n] w fun ev w' => ev = .returned (.tuple #[.int .u8 0, .int .u8 0, .int .i64 1]) ∧ w = w' := by
  by_cases h : n < 0
  · go_enter Tryd.func13, Tryd.ntmps13
    go_wp2_with fail
    go_ret3
    exact ⟨rfl, rfl⟩
  · have h2 : 4095 < n := by omega
    have d0 : decide (n < 0) = false := decide_eq_false h
    have hz : 0 ≤ n := by omega
    clear hn h
    go_enter Tryd.func13, Tryd.ntmps13
    go_wp2_with fail
    go_ret3
    exact ⟨rfl, rfl⟩
end Go.Proofs.YtbapnlgddekakaaDoor
