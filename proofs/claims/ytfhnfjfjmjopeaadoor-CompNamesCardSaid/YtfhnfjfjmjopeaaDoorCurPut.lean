/-
  Package cursor: putting, as contracts.
-/
import Derived.Test.YtfhnfjfjmjopeaaDoorCur
import Derived.Test.YtfhnfjfjmjopeaaDoorNameFold
import Derived.Laws.CopyOwn
namespace Go.Proofs.YtfhnfjfjmjopeaaDoor
open Go.RowKit
set_option linter.unusedVariables false

/-- Bytes as cells. -/
theorem bv_set (l : List UInt8) (i : Nat) (b : UInt8) : bv (l.set i b) = (bv l).set i (.int .u8 b.toNat) := by simp [bv, List.map_set]
theorem beB_cons : ∀ k n : Nat, beB (k + 1) n = UInt8.ofNat (n / 256 ^ k) :: beB k n
  | 0, n => by simp [beB]
  | k + 1, n => by
    rw [beB, beB_cons k (n / 256)]
    rw [show beB (k + 1) n = beB k (n / 256) ++ [UInt8.ofNat n] from rfl, Nat.div_div_eq_div_mul, Nat.pow_succ, Nat.mul_comm 256]
    rfl
/-- The row behind k rounds. -/
def putRow (l : List UInt8) (N n k : Nat) : List UInt8 := l ++ (List.replicate (N - k) 0 ++ beB k n)
theorem putRow_length (l : List UInt8) (N n k : Nat) (h : k ≤ N) : (putRow l N n k).length = l.length + N := by
  simp [putRow, beB_length]; omega
theorem putRow_all (l : List UInt8) (N n : Nat) : putRow l N n N = l ++ beB N n := by simp [putRow]
theorem putRow_step (l : List UInt8) (N n k : Nat) (h : k < N) : (putRow l N n k).set (l.length + N - 1 - k) (UInt8.ofNat (n / 256 ^ k)) = putRow l N n (k + 1) := by
  unfold putRow
  rw [List.set_append_right _ _ (by omega), show l.length + N - 1 - k - l.length = N - k - 1 by omega]
  congr 1
  rw [List.set_append_left _ _ (by simp; omega), beB_cons, show N - k = (N - (k + 1)) + 1 by omega, List.replicate_succ']
  rw [List.set_append_right _ _ (by simp)]
  simp
theorem own_full {w : World} {base g n : Nat} {e : TypeId} {xs : List Value} (h : w.ownsRow base e 1 (.slice (some ⟨g, 0, none⟩) n n) n xs) : w.heap[g]? = some (.cells xs.toArray e (0, 0)) := by
  rcases h.2 with ⟨h1, _⟩ | ⟨g', cap, cur, h1, _, hg, _, _, hcs, ht⟩
  · simp at h1
  · simp only [Value.slice.injEq, Option.some.injEq, Addr.mk.injEq, and_true, true_and] at h1
    obtain ⟨rfl, rfl⟩ := h1
    rw [List.take_of_length_le (by rw [Array.length_toList]; omega)] at ht
    rw [hg, ← ht]
theorem own_of_full {w : World} {base g n : Nat} {e : TypeId} {xs : List Value} (h : w.heap[g]? = some (.cells xs.toArray e (0, 0))) (hb : base ≤ g) (hn : n ≤ maxLen) (hx : xs.length = n) : w.ownsRow base e 1 (.slice (some ⟨g, 0, none⟩) n n) n xs :=
  ⟨by omega, .inr ⟨g, n, xs.toArray, rfl, hb, h, Nat.le_refl _, hn, by simp [hx], by simp [← hx]⟩⟩
theorem made_bytes (n : Nat) : (madeCells #[Value.int .u8 0] n).toList = bv (List.replicate n 0) := by
  unfold bv
  rw [List.map_replicate]
  exact toList_madeCells_one _ _

theorem splice_start (l : List UInt8) (N x n : Nat) (hl : l.length = n) : splice (bv (List.replicate (n + N) 0)) 0 (bv l) = bv (putRow l N x 0) := by
  unfold splice putRow
  rw [bv_length, hl, List.take_zero, List.nil_append, Nat.zero_add, bv_append]
  congr 1
  unfold bv
  rw [List.map_replicate, List.drop_replicate, Nat.add_sub_cancel_left]
  simp [beB]
set_option maxRecDepth 1000000 in
set_option maxHeartbeats 6400000 in
theorem put_any (A : Option Addr) (n c : Nat) (l : List UInt8) (w : World) (hA : Reads w w.heap.size 1 A n (bv l)) (hn : n ≤ 1000000000000) (x N : Nat) (hx : x < 4294967296) (hN : N ≤ 4) :
    Calls Tryd.prog 28 #[.slice A n c, .int .u32 x, .int .i64 N] w fun e w' => ∃ g, e = .returned (.slice (some ⟨g, 0, none⟩) (n + N) (n + N)) ∧ w.heap.size ≤ g ∧ w'.ownsRow w.heap.size 5 1 (.slice (some ⟨g, 0, none⟩) (n + N) (n + N)) (n + N) (bv (l ++ beB N x)) ∧ Still w w' := by
  have hl : l.length = n := by have := hA.1; rw [bv_length] at this; omega
  obtain ⟨i0, hi, hz0, hz1, hz2⟩ := info_parts info_u8
  have Hl := Lib.hid hl
  clear hl
  go_enter Tryd.func28, Tryd.ntmps28
  go_wp2_with (at_make; refine wpList_make_full _ rfl _ _ 33 rfl w.heap.size 5 i0 (.int .u8 0) 1 Tryd.underlying33 hi hz0 hz1 _ _ _ _ (n + N) rfl rfl (by omega) (by omega) ?d1 ?d2 ?d3 ?_)
  case d1 => rw [hz2]; omega
  case d2 => unfold maxLen; omega
  case d3 => exact Nat.le_refl _
  intro w1 hown hgrow
  have hst1 : Still w w1 := (Only.refl _ _).grown hgrow (fun k hk => by cases hk)
  rw [made_bytes] at hown
  obtain ⟨β, hβ⟩ : ∃ β, β = w.heap.size := ⟨_, rfl⟩
  have hfull := own_full hown
  rw [← hβ] at hfull
  have hA1 := hA.only hst1 (Nat.le_refl _) (fun _ _ h => h)
  have hΒ := Lib.hid hβ
  clear hown hgrow
  rw [← hβ]
  clear hβ
  go_wp2_with (with_reducible refine wpList_copy_splice rfl (.tmp 14) (.tmp 15) 33 33 rfl 5 Tryd.underlying33 (by kernel_rfl) (some ⟨β, 0, none⟩) A (n + N) (n + N) n c rfl rfl β 0 (bv (List.replicate (n + N) 0)) 5 hfull (bv l) ?c1 ?c2 ?c3 ?c4 β w1 (Below.refl _ _) (Nat.le_refl _) ?_)
  case c1 => rw [bv_length, Hl.out]; exact (Nat.min_eq_left (by omega)).symm
  case c2 =>
    intro h0
    rw [bv_length, Hl.out] at h0
    obtain ⟨ad, rfl, _, hc⟩ := hA1.2 h0
    exact ⟨ad, rfl, hc⟩
  case c3 => simp [bv_length, Hl.out]
  case c4 => exact bv_one l
  intro w2 hfull2 hb2
  have hst2 : Still w w2 := hst1.below hb2 (fun k hk => .inr (by have := hΒ.out; omega))
  have hrow : Blk w2 β 5 (bv (putRow l N x 0)).toArray := by
    have := hfull2.out
    rw [splice_start l N x n Hl.out] at this
    exact this
  clear hfull2 hb2 hfull hst1 hA1
  go_wp2_with fail
  go_loopw [18] (fun i wr => ∃ k : Nat, k ≤ N ∧ i = .int .i64 k ∧ Blk wr β 5 (bv (putRow l N x k)).toArray ∧ Hid (Still w wr)) (fun i _ => N - (intOf i).toNat)
  case atStart => exact ⟨0, by omega, rfl, hrow, Lib.hid hst2⟩
  case round =>
    clear hrow hst2
    obtain ⟨k, hk, rfl, hrow, hst⟩ := hrel
    by_cases hlt : k < N
    · have hstep := putRow_step l N x k hlt
      have hlen := putRow_length l N x k hk
      rw [Hl.out] at hstep hlen
      obtain ⟨M, hM⟩ : ∃ M, M = n + N - 1 - k := ⟨_, rfl⟩
      rw [← hM] at hstep
      have hMi : (n : Int) + N - 1 - k = (M : Int) := by omega
      have hMlt : M < n + N := by omega
      have hMl2 : (M : Int) < (n : Int) + N := by omega
      have hset := hrow.set_ M (.int .u8 (UInt8.ofNat (x / 256 ^ k)).toNat)
      rw [List.setIfInBounds_toArray, ← bv_set, hstep] at hset
      have hc : ∃ v, wr.cell? ⟨β, M, none⟩ = some v := by
        rw [hrow.cell M]
        exact ⟨_, Array.getElem?_eq_getElem (by rw [List.size_toArray, bv_length, hlen]; exact hMlt)⟩
      obtain ⟨v, hc⟩ := hc
      have hf := hrow.frozen M
      have hst3 := hst.out.setCell (p := ⟨β, M, none⟩) (.inr (show w.heap.size ≤ β by have := hΒ.out; omega)) (.int .u8 (UInt8.ofNat (x / 256 ^ k)).toNat)
      have Hst3 := Lib.hid hst3
      have hbt : ((UInt8.ofNat (x / 256 ^ k)).toNat : Int) = (x : Int) / 256 ^ k % 256 := by simp
      clear hstep hlen hst3
      have hk4 : k = 0 ∨ k = 1 ∨ k = 2 ∨ k = 3 := by omega
      rcases hk4 with rfl | rfl | rfl | rfl
      · rw [hbt, show (x : Int) / 256 ^ 0 % 256 = (x : Int) % 256 by simp] at hset Hst3
        rw [show M = n + N - 1 by omega] at hset Hst3 hc hf
        clear hbt hMi hMl2 hM
        go_wp2_with fail
        go_roundw
        case rel => exact ⟨1, by omega, by go_num, hset, Hst3⟩
        case measure => simp [intOf]; omega
      · rw [hbt, show (x : Int) / 256 ^ 1 % 256 = (x : Int) / 256 % 256 by simp] at hset Hst3
        rw [show M = n + N - 1 - 1 by omega] at hset Hst3 hc hf
        clear hbt hMi hMl2 hM
        go_wp2_with fail
        go_roundw
        case rel => exact ⟨2, by omega, by go_num, hset, Hst3⟩
        case measure => simp [intOf]; omega
      · rw [hbt, show (x : Int) / 256 ^ 2 % 256 = (x : Int) / 65536 % 256 by simp] at hset Hst3
        rw [show M = n + N - 1 - 2 by omega] at hset Hst3 hc hf
        clear hbt hMi hMl2 hM
        go_wp2_with fail
        go_roundw
        case rel => exact ⟨3, by omega, by go_num, hset, Hst3⟩
        case measure => simp [intOf]; omega
      · rw [hbt, show (x : Int) / 256 ^ 3 % 256 = (x : Int) / 16777216 by simp; omega] at hset Hst3
        rw [show M = n + N - 1 - 3 by omega] at hset Hst3 hc hf
        clear hbt hMi hMl2 hM
        go_wp2_with fail
        go_roundw
        case rel => exact ⟨4, by omega, by go_num, hset, Hst3⟩
        case measure => simp [intOf]; omega
    · obtain rfl : N = k := by omega
      rw [putRow_all] at hrow
      have hown := own_of_full (n := n + N) hrow (base := w.heap.size) (by have := hΒ.out; omega) (by unfold maxLen; omega) (by rw [bv_length, List.length_append, Hl.out, beB_length])
      go_wp2_with fail
      go_ret
      exact ⟨β, rfl, by have := hΒ.out; omega, hown, hst.out⟩
theorem Put2_any (A : Option Addr) (n c : Nat) (l : List UInt8) (w : World) (hA : Reads w w.heap.size 1 A n (bv l)) (hn : n ≤ 1000000000000) (x : Nat) (hx : x < 65536) :
    Calls Tryd.prog 22 #[.slice A n c, .int .u16 x] w fun e w' => ∃ g, e = .returned (.slice (some ⟨g, 0, none⟩) (n + 2) (n + 2)) ∧ w.heap.size ≤ g ∧ w'.ownsRow w.heap.size 5 1 (.slice (some ⟨g, 0, none⟩) (n + 2) (n + 2)) (n + 2) (bv (l ++ beB 2 x)) ∧ Still w w' := by
  have y1 : (x : Int) % 4294967296 = (x : Int) := by omega
  go_enter Tryd.func22, Tryd.ntmps22
  go_wp2_with fail
  refine (put_any A n c l w hA hn x 2 (by omega) (by omega)).mono ?_
  rintro e w1 ⟨g, rfl, hg, hown, hst⟩
  go_wp2
  go_ret
  exact ⟨g, rfl, hg, hown, hst⟩
end Go.Proofs.YtfhnfjfjmjopeaaDoor
