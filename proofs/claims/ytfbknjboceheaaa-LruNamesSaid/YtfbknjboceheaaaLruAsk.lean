/-
  Package lru: Has, Oldest, Newest on a list in memory; nil.
-/
import Derived.Test.YtfbknjboceheaaaLruUse
namespace Go.Proofs.Ytfbknjboceheaaa
open Go.RowKit
set_option linter.unusedVariables false

set_option maxRecDepth 1000000 in
set_option maxHeartbeats 1600000 in
theorem Has_out {w : World} {g n : Nat} {L : List Nat} (hb : Lst w g n L) (p : Int) (hp : ¬ (0 ≤ p ∧ p < n)) :
    Calls Try.prog 15 #[.pointer (some ⟨g, 0, none⟩), .int .i64 p] w fun e w' => e = .returned (.bool false) ∧ w = w' := by
  have hi := is_any hb p
  rw [decide_eq_false hp] at hi
  go_enter Try.func15, Try.ntmps15
  go_wp2_with fail
  refine hi.mono ?_
  rintro e w1 ⟨rfl, rfl⟩
  go_wp2_with fail
  go_ret
  exact ⟨rfl, rfl⟩

set_option maxRecDepth 1000000 in
set_option maxHeartbeats 1600000 in
theorem Has_in {w : World} {g n : Nat} {L : List Nat} (hb : Lst w g n L) (hl : LL n L) (k p : Nat) (hp : p = k + 1) (hk : k < n) :
    Calls Try.prog 15 #[.pointer (some ⟨g, 0, none⟩), .int .i64 k] w fun e w' => e = .returned (.bool (decide (p ∈ L))) ∧ w = w' := by
  have hi := is_any hb (k : Int)
  rw [decide_eq_true (by omega)] at hi
  have hn := hl.mx
  have hp257 : p < 257 := by omega
  have hp0 : p ≠ 0 := by omega
  have c := hb.cf hn (q := p) (by omega)
  have hpi : (k : Int) + 1 = (p : Int) := by omega
  have hk63 : (k : Int) < 256 := by omega
  have ip : (p : Int) < 257 := by omega
  have hmem : decide (p ∈ L) = !((sc 0 L p : Int) == (p : Int)) := by
    by_cases hm : p ∈ L
    · have h1 := sc_ne hl.row hm
      have h2 : ¬ ((sc 0 L p : Int) = (p : Int)) := by omega
      simp [hm, h2]
    · have h1 := sc_not (a := 0) hp0 hm
      rw [h1]
      simp [hm]
  generalize hx : sc 0 L p = x at *
  rw [hmem]
  have Hp := Lib.hid hp
  clear hp hmem hx
  go_enter Try.func15, Try.ntmps15
  go_wp2_with fail
  refine hi.mono ?_
  rintro e w1 ⟨rfl, rfl⟩
  go_wp2_with fail
  go_ret
  exact ⟨rfl, rfl⟩

set_option maxRecDepth 1000000 in
theorem Oldest_none {w : World} {g n : Nat} (hb : Lst w g n []) (hn : n ≤ 256) :
    Calls Try.prog 12 #[.pointer (some ⟨g, 0, none⟩)] w fun e w' => e = .returned (.tuple #[.int .i64 0, .bool false]) ∧ w = w' := by
  have c : w.cell? ⟨g, 1, none⟩ = some (.int .i64 0) := hb.cf hn (q := 0) (by omega)
  go_enter Try.func12, Try.ntmps12
  go_wp2
  go_ret2
  exact ⟨rfl, rfl⟩
set_option maxRecDepth 1000000 in
theorem Oldest_some {w : World} {g n a : Nat} {r : List Nat} (hb : Lst w g n (a :: r)) (hl : LL n (a :: r)) :
    Calls Try.prog 12 #[.pointer (some ⟨g, 0, none⟩)] w fun e w' => e = .returned (.tuple #[.int .i64 ((a : Int) - 1), .bool true]) ∧ w = w' := by
  have c : w.cell? ⟨g, 1, none⟩ = some (.int .i64 a) := hb.cf hl.mx (q := 0) (by omega)
  have h0 : ¬ (a : Int) = 0 := by have := hl.row.b0; omega
  have h1 : (a : Int) < 257 := by have := hl.le a (by simp); have := hl.mx; omega
  go_enter Try.func12, Try.ntmps12
  go_wp2
  go_ret2
  exact ⟨rfl, rfl⟩
set_option maxRecDepth 1000000 in
theorem Newest_none {w : World} {g n : Nat} (hb : Lst w g n []) (hn : n ≤ 256) :
    Calls Try.prog 13 #[.pointer (some ⟨g, 0, none⟩)] w fun e w' => e = .returned (.tuple #[.int .i64 0, .bool false]) ∧ w = w' := by
  have c : w.cell? ⟨g, 258, none⟩ = some (.int .i64 0) := hb.ch hn (q := 0) (by omega)
  go_enter Try.func13, Try.ntmps13
  go_wp2
  go_ret2
  exact ⟨rfl, rfl⟩
set_option maxRecDepth 1000000 in
theorem Newest_some {w : World} {g n a : Nat} {L : List Nat} (hb : Lst w g n L) (hl : LL n L) (hne : L ≠ []) (ha : a = L.getLastD 0) :
    Calls Try.prog 13 #[.pointer (some ⟨g, 0, none⟩)] w fun e w' => e = .returned (.tuple #[.int .i64 ((a : Int) - 1), .bool true]) ∧ w = w' := by
  have c : w.cell? ⟨g, 258, none⟩ = some (.int .i64 (pd 0 L 0)) := hb.ch hl.mx (q := 0) (by omega)
  rw [pd_last 0 L hl.row.nz, ← ha] at c
  have hm : a ∈ L := by
    rw [ha]
    cases L with
    | nil => exact absurd rfl hne
    | cons b r => rw [List.getLastD_cons, ← List.getLast_eq_getLastD (List.cons_ne_nil b r)]; exact List.getLast_mem _
  have h0 : ¬ (a : Int) = 0 := by
    intro e
    have e0 : a = 0 := by omega
    rw [e0] at hm
    exact hl.row.nz hm
  have h1 : (a : Int) < 257 := by have := hl.le a hm; have := hl.mx; omega
  clear ha hm
  go_enter Try.func13, Try.ntmps13
  go_wp2
  go_ret2
  exact ⟨rfl, rfl⟩

/-! ### nil -/
set_option maxRecDepth 1000000 in
theorem Use_nil (p : Int) (w : World) : Calls Try.prog 11 #[.pointer none, .int .i64 p] w fun e w' => e = .returned (.int .i64 2) ∧ w = w' := by
  go_enter Try.func11, Try.ntmps11
  go_wp2
  go_ret
  exact ⟨rfl, rfl⟩
set_option maxRecDepth 1000000 in
theorem Drop_nil (p : Int) (w : World) : Calls Try.prog 16 #[.pointer none, .int .i64 p] w fun e w' => e = .returned (.bool false) ∧ w = w' := by
  go_enter Try.func16, Try.ntmps16
  go_wp2_with fail
  refine (is_nil p _).mono ?_
  rintro e w1 ⟨rfl, rfl⟩
  go_wp2
  go_ret
  exact ⟨rfl, rfl⟩
set_option maxRecDepth 1000000 in
theorem Has_nil (p : Int) (w : World) : Calls Try.prog 15 #[.pointer none, .int .i64 p] w fun e w' => e = .returned (.bool false) ∧ w = w' := by
  go_enter Try.func15, Try.ntmps15
  go_wp2_with fail
  refine (is_nil p _).mono ?_
  rintro e w1 ⟨rfl, rfl⟩
  go_wp2
  go_ret
  exact ⟨rfl, rfl⟩
set_option maxRecDepth 1000000 in
theorem Row_nil (w : World) : Calls Try.prog 17 #[.pointer none] w fun e w' => e = .returned (.slice none 0 0) ∧ w = w' := by
  go_enter Try.func17, Try.ntmps17
  go_wp2
  go_ret
  exact ⟨rfl, rfl⟩
set_option maxRecDepth 1000000 in
theorem Len_nil (w : World) : Calls Try.prog 14 #[.pointer none] w fun e w' => e = .returned (.int .i64 0) ∧ w = w' := by
  go_enter Try.func14, Try.ntmps14
  go_wp2_with fail
  refine (Row_nil _).mono ?_
  rintro e w1 ⟨rfl, rfl⟩
  go_wp2
  go_ret
  exact ⟨rfl, rfl⟩
set_option maxRecDepth 1000000 in
theorem Copy_nil (w : World) : Calls Try.prog 18 #[.pointer none] w fun e w' => e = .returned (.pointer none) ∧ w = w' := by
  go_enter Try.func18, Try.ntmps18
  go_wp2
  go_ret
  exact ⟨rfl, rfl⟩
set_option maxRecDepth 1000000 in
theorem Oldest_nil (w : World) : Calls Try.prog 12 #[.pointer none] w fun e w' => e = .returned (.tuple #[.int .i64 0, .bool false]) ∧ w = w' := by
  go_enter Try.func12, Try.ntmps12
  go_wp2
  go_ret2
  exact ⟨rfl, rfl⟩
set_option maxRecDepth 1000000 in
theorem Newest_nil (w : World) : Calls Try.prog 13 #[.pointer none] w fun e w' => e = .returned (.tuple #[.int .i64 0, .bool false]) ∧ w = w' := by
  go_enter Try.func13, Try.ntmps13
  go_wp2
  go_ret2
  exact ⟨rfl, rfl⟩
end Go.Proofs.Ytfbknjboceheaaa
