/-
  Package comp: a table of messages, each read as it should be.
-/
import Derived.Test.YtfhnfjfjmjopeaaDoorCompFacts
namespace Go.Proofs.YtfhnfjfjmjopeaaDoor
open Go.RowKit
set_option linter.unusedVariables false
set_option linter.unusedSimpArgs false

def rq (k : Nat) : List UInt8 := (List.replicate k [(1 : UInt8), 97]).flatten
def rp (k : Nat) : List UInt8 := rq k ++ [0]
theorem rq_succ (k : Nat) : rq (k + 1) = rq k ++ [1, 97] := by
  unfold rq
  rw [List.replicate_succ', List.flatten_append]; rfl
theorem rq_len : ∀ k, (rq k).length = 2 * k
  | 0 => rfl
  | k + 1 => by rw [rq_succ, List.length_append, rq_len k]; simp; omega
set_option maxRecDepth 1000000 in
set_option maxHeartbeats 1600000 in
theorem many_any (w : World) (N : Nat) (hN : N ≤ 200) : Calls Tryd.prog 9 #[.int .i64 N] w fun e w' => e = .returned (.string (mk (rp N))) ∧ Still w w' := by
  go_enter Tryd.func9, Tryd.ntmps9
  go_wp2_with fail
  go_loopw [3, 4] (fun i3 i4 wr => ∃ (k : Nat) (S : ByteArray), k ≤ N ∧ i3 = .string S ∧ i4 = .int .i64 k ∧ Hid (S = mk (rq k)) ∧ Still w wr) (fun _ i4 _ => N - (intOf i4).toNat)
  case atStart => exact ⟨0, _, Nat.zero_le _, rfl, rfl, Lib.hid rfl, Only.refl _ _⟩
  case round =>
    obtain ⟨k, S, hk, rfl, rfl, hS, hst⟩ := hrel
    have zS : S.size ≤ 400 := by rw [hS.out, mk_size, rq_len]; omega
    by_cases hlt : k < N
    · obtain ⟨S', hS'⟩ : ∃ S', S ++ (⟨#[1, 97]⟩ : ByteArray) = S' := ⟨_, rfl⟩
      have HS' : Hid (S' = mk (rq (k + 1))) := Lib.hid (by rw [← hS', hS.out, rq_succ]; exact mk_app _ [1, 97])
      have hk1 : k + 1 ≤ N := hlt
      go_wp2_with fail
      go_roundw
      case rel => exact ⟨k + 1, S', hk1, rfl, by go_num, HS', hst⟩
      case measure => simp [intOf]; omega
    · have hkn : k = N := by omega
      obtain ⟨S', hS'⟩ : ∃ S', S ++ (⟨#[0]⟩ : ByteArray) = S' := ⟨_, rfl⟩
      have HS' : Hid (S' = mk (rp N)) := Lib.hid (by rw [← hS', hS.out, hkn]; exact mk_app _ [0])
      clear hkn
      go_wp2_with fail
      go_ret
      exact ⟨by rw [← HS'.out]; rfl, hst⟩
theorem val16 : readL (mk (rp 127)).data.toList 0 = (0, (mk (rp 127)).data.toList, 255) := by kernel_rfl
theorem row16 (w : World) (he : ErrT w) : Calls Tryd.prog 10 #[.string (mk (rp 127)), .int .i64 0] w fun e' w' => e' = .returned (.tuple #[.string (mk (rp 127)), .int .i64 255, .int .i64 0]) ∧ Still w w' :=
  read_c w _ 0 0 _ 255 0 255 0 he (by decide +kernel) (by decide +kernel) rfl val16 rfl rfl
theorem val17 : readL (mk (rp 128)).data.toList 0 = (5, (⟨#[]⟩ : ByteArray).data.toList, 0) := by kernel_rfl
theorem row17 (w : World) (he : ErrT w) : Calls Tryd.prog 10 #[.string (mk (rp 128)), .int .i64 0] w fun e' w' => e' = .returned (.tuple #[.string (⟨#[]⟩ : ByteArray), .int .i64 0, .int .i64 5]) ∧ Still w w' :=
  read_c w _ 0 0 _ 0 5 0 5 he (by decide +kernel) (by decide +kernel) rfl val17 rfl rfl
theorem val18 : readL (mk (rp 126 ++ [1, 98, 192, 0])).data.toList 253 = (0, (mk ([1, 98] ++ rp 126)).data.toList, 257) := by kernel_rfl
theorem row18 (w : World) (he : ErrT w) : Calls Tryd.prog 10 #[.string (mk (rp 126 ++ [1, 98, 192, 0])), .int .i64 253] w fun e' w' => e' = .returned (.tuple #[.string (mk ([1, 98] ++ rp 126)), .int .i64 257, .int .i64 0]) ∧ Still w w' :=
  read_c w _ 253 253 _ 257 0 257 0 he (by decide +kernel) (by decide +kernel) rfl val18 rfl rfl
theorem val19 : readL (mk (rp 127 ++ [1, 98, 192, 0])).data.toList 255 = (5, (⟨#[]⟩ : ByteArray).data.toList, 0) := by kernel_rfl
theorem row19 (w : World) (he : ErrT w) : Calls Tryd.prog 10 #[.string (mk (rp 127 ++ [1, 98, 192, 0])), .int .i64 255] w fun e' w' => e' = .returned (.tuple #[.string (⟨#[]⟩ : ByteArray), .int .i64 0, .int .i64 5]) ∧ Still w w' :=
  read_c w _ 255 255 _ 0 5 0 5 he (by decide +kernel) (by decide +kernel) rfl val19 rfl rfl

def tabC : Array Value := #[.string ⟨#[0]⟩, .int .i64 0, .string ⟨#[0]⟩, .int .i64 1, .int .i64 0, .string ⟨#[0]⟩, .int .i64 1, .string ⟨#[]⟩, .int .i64 0, .int .i64 4, .string ⟨#[0]⟩, .int .i64 2, .string ⟨#[]⟩, .int .i64 0, .int .i64 1, .string ⟨#[0]⟩, .int .i64 (-1), .string ⟨#[]⟩, .int .i64 0, .int .i64 1, .string ⟨#[1, 97, 0, 192, 0]⟩, .int .i64 3, .string ⟨#[1, 97, 0]⟩, .int .i64 5, .int .i64 0, .string ⟨#[1, 97, 0, 192, 1]⟩, .int .i64 3, .string ⟨#[]⟩, .int .i64 0, .int .i64 3, .string ⟨#[1, 2, 0, 192, 1]⟩, .int .i64 3, .string ⟨#[]⟩, .int .i64 0, .int .i64 4, .string ⟨#[1, 97, 0, 1, 98, 192, 0]⟩, .int .i64 3, .string ⟨#[1, 98, 1, 97, 0]⟩, .int .i64 7, .int .i64 0, .string ⟨#[1, 97, 0, 1, 98, 192, 3]⟩, .int .i64 3, .string ⟨#[]⟩, .int .i64 0, .int .i64 8, .string ⟨#[192]⟩, .int .i64 0, .string ⟨#[]⟩, .int .i64 0, .int .i64 4, .string ⟨#[128]⟩, .int .i64 0, .string ⟨#[]⟩, .int .i64 0, .int .i64 3, .string ⟨#[63]⟩, .int .i64 0, .string ⟨#[]⟩, .int .i64 0, .int .i64 4, .string ⟨#[1, 97, 192, 0]⟩, .int .i64 0, .string ⟨#[]⟩, .int .i64 0, .int .i64 8, .string ⟨#[0, 192, 0, 192, 1, 192, 3]⟩, .int .i64 5, .string ⟨#[0]⟩, .int .i64 7, .int .i64 0, .string ⟨#[0, 192, 0, 192, 3]⟩, .int .i64 3, .string ⟨#[]⟩, .int .i64 0, .int .i64 8, .string ⟨#[1, 97, 1, 98, 192, 0]⟩, .int .i64 2, .string ⟨#[]⟩, .int .i64 0, .int .i64 8, .string (mk (rp 127)), .int .i64 0, .string (mk (rp 127)), .int .i64 255, .int .i64 0, .string (mk (rp 128)), .int .i64 0, .string ⟨#[]⟩, .int .i64 0, .int .i64 5, .string (mk (rp 126 ++ [1, 98, 192, 0])), .int .i64 253, .string (mk ([1, 98] ++ rp 126)), .int .i64 257, .int .i64 0, .string (mk (rp 127 ++ [1, 98, 192, 0])), .int .i64 255, .string ⟨#[]⟩, .int .i64 0, .int .i64 5]
set_option maxRecDepth 1000000 in
theorem tab_row : ∀ k, k < 20 → ∃ (m : ByteArray) (a : Int) (n : ByteArray) (nx e : Int), tabC[k * 5]? = some (.string m) ∧ tabC[k * 5 + 1]? = some (.int .i64 a) ∧ tabC[k * 5 + 2]? = some (.string n) ∧ tabC[k * 5 + 3]? = some (.int .i64 nx) ∧ tabC[k * 5 + 4]? = some (.int .i64 e) ∧
    ∀ w, ErrT w → Calls Tryd.prog 10 #[.string m, .int .i64 a] w fun e' w' => e' = .returned (.tuple #[.string n, .int .i64 nx, .int .i64 e]) ∧ Still w w'
  | 0, _ => ⟨_, 0, _, 1, 0, rfl, rfl, rfl, rfl, rfl, fun w he => read_c w _ 0 0 _ 1 0 1 0 he (by decide) (by decide) rfl (by kernel_rfl) rfl rfl⟩
  | 1, _ => ⟨_, 1, _, 0, 4, rfl, rfl, rfl, rfl, rfl, fun w he => read_c w _ 1 1 _ 0 4 0 4 he (by decide) (by decide) rfl (by kernel_rfl) rfl rfl⟩
  | 2, _ => ⟨_, 2, _, 0, 1, rfl, rfl, rfl, rfl, rfl, fun w he => read_out w _ 2 he (.inr (by decide))⟩
  | 3, _ => ⟨_, (-1), _, 0, 1, rfl, rfl, rfl, rfl, rfl, fun w he => read_out w _ (-1) he (.inl (by decide))⟩
  | 4, _ => ⟨_, 3, _, 5, 0, rfl, rfl, rfl, rfl, rfl, fun w he => read_c w _ 3 3 _ 5 0 5 0 he (by decide) (by decide) rfl (by kernel_rfl) rfl rfl⟩
  | 5, _ => ⟨_, 3, _, 0, 3, rfl, rfl, rfl, rfl, rfl, fun w he => read_c w _ 3 3 _ 0 3 0 3 he (by decide) (by decide) rfl (by kernel_rfl) rfl rfl⟩
  | 6, _ => ⟨_, 3, _, 0, 4, rfl, rfl, rfl, rfl, rfl, fun w he => read_c w _ 3 3 _ 0 4 0 4 he (by decide) (by decide) rfl (by kernel_rfl) rfl rfl⟩
  | 7, _ => ⟨_, 3, _, 7, 0, rfl, rfl, rfl, rfl, rfl, fun w he => read_c w _ 3 3 _ 7 0 7 0 he (by decide) (by decide) rfl (by kernel_rfl) rfl rfl⟩
  | 8, _ => ⟨_, 3, _, 0, 8, rfl, rfl, rfl, rfl, rfl, fun w he => read_c w _ 3 3 _ 0 8 0 8 he (by decide) (by decide) rfl (by kernel_rfl) rfl rfl⟩
  | 9, _ => ⟨_, 0, _, 0, 4, rfl, rfl, rfl, rfl, rfl, fun w he => read_c w _ 0 0 _ 0 4 0 4 he (by decide) (by decide) rfl (by kernel_rfl) rfl rfl⟩
  | 10, _ => ⟨_, 0, _, 0, 3, rfl, rfl, rfl, rfl, rfl, fun w he => read_c w _ 0 0 _ 0 3 0 3 he (by decide) (by decide) rfl (by kernel_rfl) rfl rfl⟩
  | 11, _ => ⟨_, 0, _, 0, 4, rfl, rfl, rfl, rfl, rfl, fun w he => read_c w _ 0 0 _ 0 4 0 4 he (by decide) (by decide) rfl (by kernel_rfl) rfl rfl⟩
  | 12, _ => ⟨_, 0, _, 0, 8, rfl, rfl, rfl, rfl, rfl, fun w he => read_c w _ 0 0 _ 0 8 0 8 he (by decide) (by decide) rfl (by kernel_rfl) rfl rfl⟩
  | 13, _ => ⟨_, 5, _, 7, 0, rfl, rfl, rfl, rfl, rfl, fun w he => read_c w _ 5 5 _ 7 0 7 0 he (by decide) (by decide) rfl (by kernel_rfl) rfl rfl⟩
  | 14, _ => ⟨_, 3, _, 0, 8, rfl, rfl, rfl, rfl, rfl, fun w he => read_c w _ 3 3 _ 0 8 0 8 he (by decide) (by decide) rfl (by kernel_rfl) rfl rfl⟩
  | 15, _ => ⟨_, 2, _, 0, 8, rfl, rfl, rfl, rfl, rfl, fun w he => read_c w _ 2 2 _ 0 8 0 8 he (by decide) (by decide) rfl (by kernel_rfl) rfl rfl⟩
  | 16, _ => ⟨_, 0, _, 255, 0, rfl, rfl, rfl, rfl, rfl, row16⟩
  | 17, _ => ⟨_, 0, _, 0, 5, rfl, rfl, rfl, rfl, rfl, row17⟩
  | 18, _ => ⟨_, 253, _, 257, 0, rfl, rfl, rfl, rfl, rfl, row18⟩
  | 19, _ => ⟨_, 255, _, 0, 5, rfl, rfl, rfl, rfl, rfl, row19⟩
  | k + 20, h => absurd h (by omega)
end Go.Proofs.YtfhnfjfjmjopeaaDoor
