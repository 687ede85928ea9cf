/-
  Package lru: the examples.
-/
import Derived.Test.YtfbknjboceheaaaLruMake
import Derived.Test.YtfbknjboceheaaaLruInts
namespace Go.Proofs.Ytfbknjboceheaaa
open Go.RowKit
set_option linter.unusedVariables false

theorem Lst.far {w w' : World} {g n : Nat} {L : List Nat} (h : Lst w g n L) (k : Still w w') : Lst w' g n L := h.still k
theorem LL.nil (n : Nat) (hn : n ≤ 256) : LL n [] := ⟨hn, ⟨List.nodup_nil, by simp, by simp⟩, by simp⟩
theorem LL.used {n : Nat} {L : List Nat} (h : LL n L) {p : Nat} (hp0 : p ≠ 0) (hpn : p ≤ n) : LL n (Proofs.Ytfbknjboceheaaa.out p L ++ [p]) := (h.out p).link hp0 hpn (out_not p L)
theorem Still.only {w w' w'' : World} {g : Nat} (h : Still w w') (k : Only (· = g) w' w'') (hg : w.heap.size ≤ g) : Still w w'' := h.trans k (fun i hi e => by omega)

set_option maxRecDepth 1000000 in
set_option maxHeartbeats 6400000 in
theorem lru_awake (w : World) : Calls Try.prog 9 #[] w fun e w' => e = .returned (.bool true) ∧ Still w w' := by
  go_enter Try.func9, Try.ntmps9
  go_wp2_with fail
  refine (New_in 4 (by omega)).mono ?_
  rintro e w1 ⟨g, rfl, hg, hb1, hs1⟩
  have l1 := LL.nil 4 (by omega)
  go_wp2_with fail
  refine (Use_in hb1 l1 2 3 rfl (by omega)).mono ?_
  rintro e w2 ⟨rfl, hb2, ho2⟩
  have l2 := l1.used (p := 3) (by omega) (by omega)
  rw [show out 3 [] ++ [3] = [3] by decide] at hb2 l2
  have hs2 : Still w w2 := hs1.trans ho2 (fun i hi e => by omega)
  clear hb1 hs1 ho2 l1
  go_wp2_with fail
  refine (Use_in hb2 l2 0 1 rfl (by omega)).mono ?_
  rintro e w3 ⟨rfl, hb3, ho3⟩
  have l3 := l2.used (p := 1) (by omega) (by omega)
  rw [show out 1 [3] ++ [1] = [3, 1] by decide] at hb3 l3
  have hs3 : Still w w3 := hs2.trans ho3 (fun i hi e => by omega)
  clear hb2 hs2 ho3 l2
  go_wp2_with fail
  refine (Use_in hb3 l3 2 3 rfl (by omega)).mono ?_
  rintro e w4 ⟨rfl, hb4, ho4⟩
  have l4 := l3.used (p := 3) (by omega) (by omega)
  rw [show out 3 [3, 1] ++ [3] = [1, 3] by decide] at hb4 l4
  have hs4 : Still w w4 := hs3.trans ho4 (fun i hi e => by omega)
  clear hb3 hs3 ho4 l3
  go_wp2_with fail
  refine (Row_any hb4 l4).mono ?_
  rintro e w5 ⟨A, c, rfl, hown, hs5⟩
  have hb5 := hb4.still hs5
  have hs5 := hs4.still hs5
  clear hb4 hs4
  have hrow : Reads w5 w5.heap.size 1 A 2 (([0, 2] : List Int).map (.int .i64)) := Reads.of_own hown
  have hr1 := hrow.alloc (Nat.le_refl _) (.cells #[.int .i64 0, .int .i64 2] 3)
  have hr2 := reads_made w5 3 .i64 [0, 2] 2 rfl
  have hb6 := hb5.alloc (.cells #[.int .i64 0, .int .i64 2] 3)
  have hs6 := hs5.alloc (.cells #[.int .i64 0, .int .i64 2] 3)
  go_wp2_with fail
  refine (ints_any A (some ⟨w5.heap.size, 0, none⟩) 2 c 2 2 w5.heap.size (w5.heap.size + 1) [0, 2] [0, 2] _ hr1 hr2 (by omega) (by omega)).mono ?_
  rintro e w7 ⟨rfl, q, rfl⟩
  have hb7 : Lst _ g 4 [1, 3] := Blk.drewN hb6 q
  have hs7 := hs6.drewN q
  generalize (w5.alloc (.cells #[.int .i64 0, .int .i64 2] 3)).drewN q = w7 at *
  clear hb6 hs6 hr1 hr2 hrow hown hb5 hs5
  go_wp2_with fail
  refine (Oldest_some hb7 l4).mono ?_
  rintro e w8 ⟨rfl, rfl⟩
  go_wp2_with fail
  refine (Drop_in hb7 l4 0 1 rfl (by omega)).mono ?_
  rintro e w8 ⟨rfl, hb8, ho8⟩
  have l8 := l4.out 1
  rw [show out 1 [1, 3] = [3] by decide] at hb8 l8
  have hs8 : Still w w8 := hs7.trans ho8 (fun i hi e => by omega)
  clear hb7 hs7 ho8 l4
  go_wp2_with fail
  refine (Drop_in hb8 l8 0 1 rfl (by omega)).mono ?_
  rintro e w9 ⟨rfl, hb9, ho9⟩
  have l9 := l8.out 1
  rw [show out 1 [3] = [3] by decide] at hb9 l9
  have hs9 : Still w w9 := hs8.trans ho9 (fun i hi e => by omega)
  clear hb8 hs8 ho9 l8
  go_wp2_with fail
  refine (Row_any hb9 l9).mono ?_
  rintro e w10 ⟨A, c, rfl, hown, hs10⟩
  have hb10 := hb9.still hs10
  have hs10 := hs9.still hs10
  clear hb9 hs9
  have hrow : Reads w10 w10.heap.size 1 A 1 (([2] : List Int).map (.int .i64)) := Reads.of_own hown
  have hr1 := hrow.alloc (Nat.le_refl _) (.cells #[.int .i64 2] 3)
  have hr2 := reads_made w10 3 .i64 [2] 1 rfl
  have hb11 := hb10.alloc (.cells #[.int .i64 2] 3)
  have hs11 := hs10.alloc (.cells #[.int .i64 2] 3)
  go_wp2_with fail
  refine (ints_any A (some ⟨w10.heap.size, 0, none⟩) 1 c 1 1 w10.heap.size (w10.heap.size + 1) [2] [2] _ hr1 hr2 (by omega) (by omega)).mono ?_
  rintro e w12 ⟨rfl, q, rfl⟩
  have hb12 : Lst _ g 4 [3] := Blk.drewN hb11 q
  have hs12 := hs11.drewN q
  generalize (w10.alloc (.cells #[.int .i64 2] 3)).drewN q = w12 at *
  clear hb11 hs11 hr1 hr2 hrow hown hb10 hs10
  go_wp2_with fail
  refine (Use_out hb12 4 (by omega)).mono ?_
  rintro e w13 ⟨rfl, rfl⟩
  go_wp2_with fail
  go_ret
  exact ⟨rfl, hs12⟩
end Go.Proofs.Ytfbknjboceheaaa
