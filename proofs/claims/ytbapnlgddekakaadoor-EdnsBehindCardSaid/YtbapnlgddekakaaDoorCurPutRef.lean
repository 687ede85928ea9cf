/-
  The document's answer for putting a number, as a contract.
-/
import Derived.Test.YtbapnlgddekakaaDoorCurStr
namespace Go.Proofs.YtbapnlgddekakaaDoor
open Go.RowKit
set_option linter.unusedVariables false

set_option maxRecDepth 1000000 in
set_option maxHeartbeats 1600000 in
theorem put_ref (w : World) (x N : Nat) (hx : x < 18446744073709551616) (hN : N ≤ 8) :
    Calls Tryd.prog 21 #[.int .u64 x, .int .i64 N] w fun e w' => e = .returned (.string (str (beB N x))) ∧ Still w w' := by
  go_enter Tryd.func21, Tryd.ntmps21
  go_wp2_with fail
  go_loopw [0, 5, 6] (fun nn s i wr => ∃ k y : Nat, k ≤ N ∧ i = .int .i64 k ∧ nn = .int .u64 y ∧ y < 18446744073709551616 ∧ y = x / 256 ^ k ∧ s = .string (str (beB k x)) ∧ Hid (Still w wr)) (fun _ _ i _ => N - (intOf i).toNat)
  case atStart => exact ⟨0, x, by omega, rfl, rfl, hx, by simp, rfl, Lib.hid (Only.refl _ _)⟩
  case round =>
    obtain ⟨k, y, hk, rfl, rfl, hy, hyx, rfl, hst⟩ := hrel
    by_cases hlt : k < N
    · have hcons := beB_cons k x
      rw [← hyx] at hcons
      have hnext : x / 256 ^ (k + 1) = y / 256 := by rw [hyx, Nat.pow_succ, Nat.div_div_eq_div_mul]
      obtain ⟨b, hb⟩ : ∃ b, b = UInt8.ofNat y := ⟨_, rfl⟩
      have hbn : (b.toNat : Int) = (y : Int) % 256 := by rw [hb]; simp
      have e1 : (y : Int) % 256 % 256 = (y : Int) % 256 := by omega
      rw [← hb] at hcons
      have hcat : str [b] ++ str (beB k x) = str (beB (k + 1) x) := by rw [str_append, hcons]; rfl
      have hmx : ¬ 9223372036854775807 < (str [b]).size + (str (beB k x)).size := by rw [str_size, str_size, beB_length]; simp; omega
      have hcv := conv_one wr b ((y : Int) % 256) hbn.symm
      have Hnext := Lib.hid hnext
      clear hcons hbn hb hyx hnext
      go_wp2_with fail
      go_roundw
      case rel => exact ⟨k + 1, y / 256, by omega, by go_num, by go_num, by omega, Hnext.out.symm, rfl, Lib.hid (hst.out.alloc _)⟩
      case measure => simp [intOf]; omega
    · obtain rfl : N = k := by omega
      go_wp2_with fail
      go_ret
      exact ⟨rfl, hst.out⟩
end Go.Proofs.YtbapnlgddekakaaDoor
