/-
  Package lru: New.
-/
import Derived.Test.YtfbknjboceheaaaLruNew
namespace Go.Proofs.Ytfbknjboceheaaa
open Go.RowKit
set_option linter.unusedVariables false

set_option maxRecDepth 1000000 in
theorem New_out {w : World} (n : Int) (hn : n < 0 ∨ 256 < n) :
    Calls Try.prog 10 #[.int .i64 n] w fun e w' => e = .returned (.tuple #[.pointer none, .int .i64 1]) ∧ w = w' := by
  go_enter Try.func10, Try.ntmps10
  by_cases h0 : n < 0
  · go_wp2
    go_ret2
    exact ⟨rfl, rfl⟩
  · have h1 : 256 < n := by omega
    go_wp2
    go_ret2
    exact ⟨rfl, rfl⟩

def upto (k : Nat) : Nat → Nat := fun q => if q < k then q else 0
theorem zlist_set (n : Int) : zlist.setIfInBounds 0 (.int .i64 n) = fcells n (upto 0) (upto 0) := by
  have e : ring (upto 0) = List.replicate 257 (Value.int .i64 0) := by kernel_rfl
  unfold fcells zlist
  rw [e, List.replicate_append_replicate, show (515 : Nat) = 514 + 1 from rfl, List.replicate_succ, List.setIfInBounds_toArray, List.set_cons_zero]
theorem upto_succ (k : Nat) : upd (upto k) k k = upto (k + 1) := by
  funext q
  unfold upd upto
  by_cases e : q = k
  · subst e; simp
  · have h1 : (q < k) = (q < k + 1) := by
      apply propext
      omega
    simp only [e, if_false, h1]
theorem upto_cut {n : Nat} (F : List Nat → Nat → Nat) (hF : ∀ q, F [] q = q) : upto (n + 1) = cut n (F []) := by
  funext q
  unfold upto cut
  rw [hF]
  have h1 : (q < n + 1) = (q ≤ n) := by
    apply propext
    omega
  simp only [h1]

set_option maxRecDepth 1000000 in
set_option maxHeartbeats 6400000 in
theorem New_in {w : World} (n : Nat) (hn : n ≤ 256) :
    Calls Try.prog 10 #[.int .i64 n] w fun e w' => ∃ g, e = .returned (.tuple #[.pointer (some ⟨g, 0, none⟩), .int .i64 0]) ∧ w.heap.size ≤ g ∧ Lst w' g n [] ∧ Still w w' := by
  have h1 : ¬ (256 : Int) < (n : Int) := by omega
  have h2 : ¬ (n : Int) < 0 := by omega
  have h2d : decide ((n : Int) < 0) = false := decide_eq_false h2
  have hz := zero_list w
  have hne : ¬ zlist = #[] := by intro e; have := congrArg Array.size e; simp [zlist] at this
  have hzs := zlist_set (n : Int)
  have hb0 : LB (w.alloc (.cells (fcells (n : Int) (upto 0) (upto 0)) 35)) w.heap.size n (upto 0) (upto 0) := Blk.new w _ _
  have hs0 := Still.new w (.cells (fcells (n : Int) (upto 0) (upto 0)) 35)
  generalize hZ : fcells (n : Int) (upto 0) (upto 0) = Z at *
  clear hZ
  have hn257 : (n : Int) < 257 := by omega
  go_enter Try.func10, Try.ntmps10
  go_wp2_with fail
  generalize w.alloc (.cells Z 35) = w1 at *
  obtain ⟨g, hg⟩ : ∃ g, g = w.heap.size := ⟨_, rfl⟩
  rw [← hg] at hb0 ⊢
  have hgw : w.heap.size ≤ g := by omega
  clear hg hz hzs
  go_loopw [5, 17] (fun _ c wr => ∃ k : Nat, k ≤ n + 1 ∧ c = .int .i64 k ∧ LB wr g n (upto k) (upto k) ∧ Hid (Still w wr)) (fun _ c _ => n + 1 - (intOf c).toNat)
  case atStart => exact ⟨0, by omega, rfl, hb0, Lib.hid hs0⟩
  case round =>
    clear hb0 hs0
    obtain ⟨k, hk, rfl, hb, hst⟩ := hrel
    by_cases hlt : k < n + 1
    · have hk257 : k < 257 := by omega
      have ik : (k : Int) < 257 := by omega
      have ikn : (k : Int) < (n : Int) + 1 := by omega
      have k1 := hb.cf hk257
      have k2 := hb.ch hk257
      have j1 := Blk.frozen hb (1 + k)
      have j2 := Blk.frozen hb (258 + k)
      have hne1 : ¬ (258 + k = 1 + k) := by omega
      have hne2 : ¬ (1 + k = 258 + k) := by omega
      have k3 : (wr.setCell ⟨g, 1 + k, none⟩ (.int .i64 (k : Int))).cell? ⟨g, 258 + k, none⟩ = _ := (World.cell?_setCell_other _ _ _ _ (fun e => by injection e; omega)).trans k2
      have k4 : (wr.setCell ⟨g, 258 + k, none⟩ (.int .i64 (k : Int))).cell? ⟨g, 1 + k, none⟩ = _ := (World.cell?_setCell_other _ _ _ _ (fun e => by injection e; omega)).trans k1
      have hb' := Blk.drew ((hb.setF k hk257).setH k hk257)
      rw [upto_succ] at hb'
      have hs' := ((hst.out.setCell (p := ⟨g, 1 + k, none⟩) (.inr hgw) (.int .i64 (k : Int))).setCell (p := ⟨g, 258 + k, none⟩) (.inr hgw) (.int .i64 (k : Int))).drew
      go_wp2_with fail
      go_region
      all_goals
        go_wp2_with fail
        go_roundw
        case rel => exact ⟨k + 1, by omega, by go_num, hb', Lib.hid hs'⟩
        case measure => simp [intOf]; omega
    · have hkn : k = n + 1 := by omega
      subst hkn
      have hb' : Lst wr g n [] := by
        unfold Lst
        rw [← upto_cut (fun L q => sc 0 L q) (fun q => by simp [sc]; omega), ← upto_cut (fun L q => pd 0 L q) (fun q => by simp [pd]; omega)]
        exact hb
      go_wp2_with fail
      go_ret2
      exact ⟨g, rfl, hgw, hb', hst.out⟩
end Go.Proofs.Ytfbknjboceheaaa
