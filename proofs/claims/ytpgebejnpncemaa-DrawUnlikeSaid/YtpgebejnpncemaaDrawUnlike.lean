/-
  DrawUnlike: of two seeds that are unlike all draws, one by one, are unlike; for every two seeds.
-/
import Derived.Test.YtpgebejnpncemaaDrawAwake
import Derived.Test.YtpgebejnpncemaaDrawMath
namespace Go.Proofs.Ytpgebejnpncemaa
open Go.RowKit
set_option linter.unusedVariables false

theorem draw_none (seed : Int) (k : Nat) : draw seed [] k = nth seed (k + 1) := by
  simp [draw]

set_option maxRecDepth 1000000 in
set_option maxHeartbeats 1600000 in
theorem unlike_walk (a b : Int) (ha : 0 ≤ a ∧ a < 18446744073709551616) (hb : 0 ≤ b ∧ b < 18446744073709551616) (w : World) :
    Calls Try.prog 8 #[.int .u64 a, .int .u64 b] w fun e w' => e = .returned (.bool true) ∧ Still w w' := by
  obtain ⟨ha1, ha2⟩ := ha
  obtain ⟨hb1, hb2⟩ := hb
  go_enter Try.func8, Try.ntmps8
  go_wp2_with fail
  refine (new_any a none 0 0 [] _ Reads.none_ (fun _ => ⟨rfl, rfl⟩) (by omega) ha1 ha2 (by simp)).mono ?_
  rintro e w1 ⟨g, rfl, hg, ht, ho⟩
  go_wp2_with fail
  refine (new_any b none 0 0 [] _ Reads.none_ (fun _ => ⟨rfl, rfl⟩) (by omega) hb1 hb2 (by simp)).mono ?_
  rintro e w2 ⟨g', rfl, hg', hu, ho'⟩
  have hgg : g < g' := by
    have := ht.lt
    omega
  have ht := ht.still ho'
  have hst := ho.still ho'
  clear ho ho'
  go_wp2_with fail
  go_loopw [7] (fun i wr => ∃ k : Nat, k ≤ 30 ∧ i = .int .i64 k ∧ Tape wr g a [] k ∧ Tape wr g' b [] k ∧ Hid (Still w wr)) (fun i _ => 30 - (intOf i).toNat)
  case atStart => exact ⟨0, by omega, rfl, ht, hu, hst⟩
  case round =>
    clear ht hu hst
    obtain ⟨k, hk, rfl, ht, hu, hst⟩ := hrel
    by_cases hlt : k < 30
    · go_wp2_with fail
      refine (next_any ht (by omega)).mono ?_
      rintro e w3 ⟨rfl, ht3, ho3⟩
      have hu3 := hu.other ht ho3 (by omega)
      clear ht hu
      go_wp2_with fail
      refine (next_any hu3 (by omega)).mono ?_
      rintro e w4 ⟨rfl, hu4, ho4⟩
      have ht4 := ht3.other hu3 ho4 (by omega)
      have hst4 : Hid (Still w w4) := (hst.out.trans ho3 (fun i hi e => by omega)).trans ho4 (fun i hi e => by omega)
      clear ht3 hu3 hst ho3 ho4
      by_cases hab : a = b
      · subst hab
        go_wp2
        go_roundw
        case rel => exact ⟨k + 1, by omega, by go_num, ht4, hu4, hst4⟩
        case measure => simp [intOf]; omega
      · have h1 : (a == b) = false := by simp [hab]
        have h2 : (draw a [] k == draw b [] k) = false := by
          rw [beq_eq_false_iff_ne, draw_none, draw_none]
          exact fun h => hab (nth_inj a b _ ⟨ha1, ha2⟩ ⟨hb1, hb2⟩ h)
        go_wp2
        go_roundw
        case rel => exact ⟨k + 1, by omega, by go_num, ht4, hu4, hst4⟩
        case measure => simp [intOf]; omega
    · go_wp2_with fail
      refine (draw_awake _).mono ?_
      rintro e w3 ⟨rfl, ho3⟩
      go_wp2
      go_ret
      exact ⟨rfl, hst.out.still ho3⟩
end Go.Proofs.Ytpgebejnpncemaa
