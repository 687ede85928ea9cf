/-
  Package repute: the examples.
-/
import Derived.Test.YtfbknjboceheaaaDoorRepLive
import Derived.Test.YtfbknjboceheaaaDoorLruInts
namespace Go.Proofs.YtfbknjboceheaaaDoor
open Go.RowKit
set_option linter.unusedVariables false
set_option linter.unusedSimpArgs false

def awL (k : Nat) : List Up := [⟨95 + k, k, 1, 0, false, 0, decide (k < 5)⟩, ⟨90, 0, 1, 0, false, 0, false⟩, ⟨100, 0, 0, 0, false, 0, false⟩]
theorem awL_next : ∀ k, k < 5 → upd (awL k) 0 (agreeUp 95) = awL (k + 1)
  | 0, _ => by kernel_rfl
  | 1, _ => by kernel_rfl
  | 2, _ => by kernel_rfl
  | 3, _ => by kernel_rfl
  | 4, _ => by kernel_rfl
  | n + 5, h => by omega

set_option maxRecDepth 1000000 in
set_option maxHeartbeats 6400000 in
theorem rep_awake (w : World) (hg : Gains w) : Calls Tryd.prog 9 #[] w fun e w' => e = .returned (.bool true) ∧ Still w w' := by
  have hok : BOK 3 95 10 := ⟨by omega, by omega, by omega, by omega, by omega, by omega⟩
  go_enter Tryd.func9, Tryd.ntmps9
  go_wp2_with fail
  refine (new_live w hg hok (by decide)).mono ?_
  rintro e w1 ⟨g, b, rfl, h1⟩
  go_wp2_with fail
  refine (dissent_live h1 0 4).mono ?_
  rintro e w2 ⟨rfl, h2, _⟩
  rw [show dissentL 95 10 3 0 4 (List.replicate 3 up1) = [⟨90, 0, 1, 0, true, 14, false⟩, ⟨100, 0, 0, 0, false, 0, false⟩, ⟨100, 0, 0, 0, false, 0, false⟩] by kernel_rfl] at h2
  clear h1
  have h1 := h2
  clear h2
  rw [show (if nowOk 4 ∧ (0 : Int) ≤ 0 ∧ (0 : Int) < (3 : Nat) then (0 : Int) else 1) = 0 by decide]
  go_wp2_with fail
  refine (score_in h1.bk 0 (u := ([⟨90, 0, 1, 0, true, 14, false⟩, ⟨100, 0, 0, 0, false, 0, false⟩, ⟨100, 0, 0, 0, false, 0, false⟩] : List Up)[0]) rfl).mono ?_
  rintro e w2 ⟨rfl, rfl⟩
  go_wp2_with fail
  refine (rests_in h1.bk 0 (u := ([⟨90, 0, 1, 0, true, 14, false⟩, ⟨100, 0, 0, 0, false, 0, false⟩, ⟨100, 0, 0, 0, false, 0, false⟩] : List Up)[0]) rfl).mono ?_
  rintro e w2 ⟨rfl, rfl⟩
  go_wp2_with fail
  refine (dissent_live h1 1 5).mono ?_
  rintro e w3 ⟨rfl, h2, _⟩
  rw [show dissentL 95 10 3 1 5 ([⟨90, 0, 1, 0, true, 14, false⟩, ⟨100, 0, 0, 0, false, 0, false⟩, ⟨100, 0, 0, 0, false, 0, false⟩]) = [⟨90, 0, 1, 0, true, 14, false⟩, ⟨90, 0, 1, 0, false, 0, false⟩, ⟨100, 0, 0, 0, false, 0, false⟩] by kernel_rfl] at h2
  clear h1
  have h1 := h2
  clear h2
  rw [show (if nowOk 5 ∧ (0 : Int) ≤ 1 ∧ (1 : Int) < (3 : Nat) then (0 : Int) else 1) = 0 by decide]
  go_wp2_with fail
  refine (score_in h1.bk 1 (u := ([⟨90, 0, 1, 0, true, 14, false⟩, ⟨90, 0, 1, 0, false, 0, false⟩, ⟨100, 0, 0, 0, false, 0, false⟩] : List Up)[1]) rfl).mono ?_
  rintro e w2 ⟨rfl, rfl⟩
  go_wp2_with fail
  refine (rests_in h1.bk 1 (u := ([⟨90, 0, 1, 0, true, 14, false⟩, ⟨90, 0, 1, 0, false, 0, false⟩, ⟨100, 0, 0, 0, false, 0, false⟩] : List Up)[1]) rfl).mono ?_
  rintro e w2 ⟨rfl, rfl⟩
  go_wp2_with fail
  refine (back_live h1 13).mono ?_
  rintro e w4 ⟨Aa, cc, rfl, hown, h2, _⟩
  rw [show ([⟨90, 0, 1, 0, true, 14, false⟩, ⟨90, 0, 1, 0, false, 0, false⟩, ⟨100, 0, 0, 0, false, 0, false⟩] : List Up).map (backOne 95 13) = [⟨90, 0, 1, 0, true, 14, false⟩, ⟨90, 0, 1, 0, false, 0, false⟩, ⟨100, 0, 0, 0, false, 0, false⟩] by kernel_rfl] at h2
  rw [show (backs 13 ([⟨90, 0, 1, 0, true, 14, false⟩, ⟨90, 0, 1, 0, false, 0, false⟩, ⟨100, 0, 0, 0, false, 0, false⟩] : List Up) 3).length = 0 by kernel_rfl]
  clear h1 hown
  have h1 := h2
  clear h2
  go_wp2_with fail
  refine (back_live h1 14).mono ?_
  rintro e w5 ⟨Aa, cc, rfl, hown, h2, _⟩
  rw [show ([⟨90, 0, 1, 0, true, 14, false⟩, ⟨90, 0, 1, 0, false, 0, false⟩, ⟨100, 0, 0, 0, false, 0, false⟩] : List Up).map (backOne 95 14) = awL 0 by kernel_rfl] at h2
  rw [show backs 14 ([⟨90, 0, 1, 0, true, 14, false⟩, ⟨90, 0, 1, 0, false, 0, false⟩, ⟨100, 0, 0, 0, false, 0, false⟩] : List Up) 3 = [0] by kernel_rfl] at hown ⊢
  clear h1
  have h1 := h2
  clear h2
  have hrow : Reads w5 w5.heap.size 1 Aa 1 (([0] : List Int).map (.int .i64)) := Reads.of_own hown
  have hr1 := hrow.alloc (Nat.le_refl _) (.cells #[.int .i64 0] 3)
  have hr2 := reads_made w5 3 .i64 [0] 1 rfl
  have h6 := h1.still (Still.new w5 (.cells #[.int .i64 0] 3))
  go_wp2_with fail
  refine (ints_any Aa (some ⟨w5.heap.size, 0, none⟩) 1 cc 1 1 w5.heap.size (w5.heap.size + 1) [0] [0] _ hr1 hr2 (by omega) (by omega)).mono ?_
  rintro e w7 ⟨rfl, q, rfl⟩
  have h7 := h6.still ((Only.refl (fun _ => False) _).drewN q)
  generalize (w5.alloc (.cells #[.int .i64 0] 3)).drewN q = w7 at *
  clear h6 hr1 hr2 hrow hown h1
  have h1 := h7
  clear h7
  go_wp2_with fail
  refine (trial_in h1.bk 0 (u := (awL 0 : List Up)[0]) rfl).mono ?_
  rintro e w2 ⟨rfl, rfl⟩
  go_wp2_with fail
  refine (score_in h1.bk 0 (u := (awL 0 : List Up)[0]) rfl).mono ?_
  rintro e w2 ⟨rfl, rfl⟩
  go_wp2_with fail
  go_loopw [0, 3] (fun _ i wr => ∃ k : Nat, k ≤ 5 ∧ i = .int .i64 k ∧ Live w wr g b 3 3 95 10 (awL k)) (fun _ i _ => 5 - (intOf i).toNat)
  case atStart => exact ⟨0, by omega, rfl, h1⟩
  case round =>
    clear h1
    obtain ⟨k, hk, rfl, h1⟩ := hrel
    by_cases hlt : k < 5
    · have Hn := Lib.hid (awL_next k hlt)
      go_wp2_with fail
      refine (agree_live h1 0).mono ?_
      rintro e w8 ⟨rfl, h2, _⟩
      rw [Hn.out] at h2
      rw [show (if (0 : Int) ≤ 0 ∧ (0 : Int) < (3 : Nat) then (0 : Int) else 1) = 0 by decide]
      go_wp2_with fail
      go_roundw
      case rel => exact ⟨_, _, _, _, _, _, _, _, _, ⟨k + 1, by omega, by go_num, h2⟩, rfl⟩
      case measure => simp [intOf]; omega
    · obtain rfl : k = 5 := by omega
      go_wp2_with fail
      refine (score_in h1.bk 0 (u := (awL 5 : List Up)[0]) rfl).mono ?_
      rintro e w2 ⟨rfl, rfl⟩
      go_wp2_with fail
      refine (trial_in h1.bk 0 (u := (awL 5 : List Up)[0]) rfl).mono ?_
      rintro e w2 ⟨rfl, rfl⟩
      go_wp2_with fail
      go_ret
      exact ⟨rfl, h1.st⟩
end Go.Proofs.YtfbknjboceheaaaDoor
