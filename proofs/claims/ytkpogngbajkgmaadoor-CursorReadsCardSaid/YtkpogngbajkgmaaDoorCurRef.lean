/-
  hustingsref02: a cursor by its words, as contracts.
-/
import Derived.Test.YtkpogngbajkgmaaDoorCurLaw
namespace Go.Proofs.YtkpogngbajkgmaaDoor
open Go.RowKit
set_option linter.unusedVariables false

def RCur (w : World) (g : Nat) (s : ByteArray) (at_ : Nat) : Prop := Blk w g 28 #[.string s, .int .i64 at_]
section
variable {w w' : World} {g : Nat} {s : ByteArray} {a : Nat}
theorem RCur.only {S : Nat → Prop} (h : RCur w g s a) (ho : Only S w w') (hg : ¬ S g) : RCur w' g s a := Blk.only h ho hg
theorem RCur.still (h : RCur w g s a) (ho : Still w w') : RCur w' g s a := Blk.only h ho (fun h => h)
theorem RCur.lt (h : RCur w g s a) : g < w.heap.size := Blk.lt h
theorem RCur.ne_err (h : RCur w g s a) (he : ErrT w) : g ≠ 1 := by
  rintro rfl
  have h1 := Blk.cell h 0
  unfold ErrT at he
  rw [he] at h1
  simp at h1
theorem ErrT.by_rcur (he : ErrT w) (h : RCur w g s a) (ho : Only (· = g) w w') : ErrT w' := he.only ho (fun e => h.ne_err he e.symm)

/-! ### Number -/
theorem rnumber_short (h : RCur w g s a) (ha : a ≤ s.size) (hs : s.size ≤ maxLen) (n : Int) (hn : (s.size : Int) - a < n) :
    Calls Tryd.prog 58 #[.pointer (some ⟨g, 0, none⟩), .int .i64 n] w fun e w' => e = .returned (.tuple #[.int .u64 0, .int .i64 4]) ∧ ∃ q, w' = w.drewN q := by
  unfold maxLen at hs
  have c0 := Blk.cell h 0
  have c1 := Blk.cell h 1
  simp at c0 c1
  have y1 : IntKind.i64.wrap ((s.size : Int) - a) = (s.size : Int) - a := IntWalk.i64_in _ (by omega)
  go_enter Tryd.func58, Tryd.ntmps58
  go_wp2_with fail
  go_quiet (fail)
  go_wp2
  go_ret2
  exact ⟨rfl, _, rfl⟩
theorem ext_list (s : ByteArray) (a b : Nat) : (s.extract a b).data.toList = (s.data.toList.drop a).take (b - a) := by
  simp [ByteArray.data_extract, List.take_drop]
theorem num_snoc (s : ByteArray) (a k : Nat) (h : a + k < s.size) : numAt s a (k + 1) = numAt s a k * 256 + s[a + k].toNat := by
  unfold numAt
  have h' : a + k < s.data.toList.length := by simpa using h
  rw [← beL_snoc, ext_list, ext_list, show a + (k + 1) - a = k + 1 by omega, show a + k - a = k by omega, List.take_succ_eq_append_getElem (by rw [List.length_drop]; omega)]
  congr 2
  rw [List.getElem_drop]
  rfl
set_option maxRecDepth 100000 in
set_option maxHeartbeats 6400000 in
theorem rnumber_in (h : RCur w g s a) (ha : a ≤ s.size) (hs : s.size ≤ 1000000000000) (n : Nat) (hn4 : n ≤ 4) (hn : a + n ≤ s.size) :
    Calls Tryd.prog 58 #[.pointer (some ⟨g, 0, none⟩), .int .i64 n] w fun e w' => e = .returned (.tuple #[.int .u64 (numAt s a n), .int .i64 0]) ∧ RCur w' g s (a + n) ∧ Only (· = g) w w' := by
  have c0 := Blk.cell h 0
  have c1 := Blk.cell h 1
  simp at c0 c1
  have hn1 : ¬ (s.size : Int) - a < (n : Int) := by omega
  have hn2 : decide ((s.size : Int) - a < (n : Int)) = false := decide_eq_false hn1
  have y1 : IntKind.i64.wrap ((s.size : Int) - a) = (s.size : Int) - a := IntWalk.i64_in _ (by omega)
  go_enter Tryd.func58, Tryd.ntmps58
  go_wp2_with fail
  go_quiet (fail)
  generalize hW : w.drewN _ = w1
  have h1 : RCur w1 g s a := by rw [← hW]; exact Blk.drewN h _
  have ho1 : Only (· = g) w w1 := by rw [← hW]; exact (Only.refl _ _).drewN _
  clear hW y1 c0 c1
  go_wp2_with fail
  go_loopw [6, 7] (fun v i wr => ∃ k q : Nat, k ≤ n ∧ i = .int .i64 k ∧ v = .int .u64 (numAt s a k) ∧ wr = w1.drewN q) (fun _ i _ => n - (intOf i).toNat)
  case atStart => exact ⟨0, 0, by omega, rfl, by simp [numAt, beL], rfl⟩
  case round =>
    obtain ⟨k, q, hk, rfl, rfl, rfl⟩ := hrel
    have c0 := Blk.cell h1 0
    have c1 := Blk.cell h1 1
    simp at c0 c1
    by_cases hlt : k < n
    · have hak : a + k < s.size := by omega
      have hsn := num_snoc s a k hak
      have hlt2 := beL_len s a k (by omega)
      have hp : 256 ^ k ≤ 16777216 := by
        have : k ≤ 3 := by omega
        calc 256 ^ k ≤ 256 ^ 3 := Nat.pow_le_pow_right (by omega) this
          _ = 16777216 := by decide
      have hb8 : s[a + k].toNat < 256 := UInt8.toNat_lt _
      have Hsn := Lib.hid hsn
      generalize numAt s a k = x at *
      have hx : x < 16777216 := by omega
      have y1 : IntKind.i64.wrap ((a : Int) + k) = (a : Int) + k := IntWalk.i64_in _ (by omega)
      have y2 : IntKind.u64.wrap (256 * (x : Int)) = 256 * (x : Int) := by rw [IntKind.wrap_u64]; omega
      have y3 : ((a : Int) + k).toNat = a + k := by omega
      have y4 : (0 : Int) ≤ (a : Int) + k := by omega
      have y5 : (a : Int) + k < (s.size : Int) := by omega
      have y6 : IntKind.u64.wrap ((s[a + k].toNat : Nat) : Int) = ((s[a + k].toNat : Nat) : Int) := by rw [IntKind.wrap_u64]; omega
      have y7 : IntKind.u64.wrap (256 * (x : Int) + ((s[a + k].toNat : Nat) : Int)) = 256 * (x : Int) + ((s[a + k].toNat : Nat) : Int) := by rw [IntKind.wrap_u64]; omega
      clear hsn hlt2 hp
      go_wp2_with fail
      go_quiet (fail)
      go_wp2_with fail
      go_roundw
      case rel => exact ⟨k + 1, _, by omega, by go_num, by rw [Hsn.out]; go_num, rfl⟩
      case measure => simp [intOf]; omega
    · obtain rfl : n = k := by omega
      have h2 : RCur (w1.drewN q) g s a := Blk.drewN h1 q
      have ho2 := ho1.drewN q
      have f1 := Blk.frozen h2 1
      have y2 : ((a : Int) + n) = ((a + n : Nat) : Int) := by omega
      have h3 := Blk.set_ h2 1 (.int .i64 ((a : Int) + n))
      have ho3 := ho2.setCell (p := ⟨g, 1, none⟩) (.inl rfl) (.int .i64 ((a : Int) + n))
      clear y2
      generalize w1.drewN q = w2 at *
      have c1' := Blk.cell h2 1
      simp at c1'
      clear c0 c1
      go_wp2_with fail
      go_ret2
      refine ⟨rfl, ?_, ho3⟩
      unfold RCur
      rw [show ((a + n : Nat) : Int) = (a : Int) + n by omega]
      simpa using h3

/-! ### Take -/
theorem rtake_neg (h : RCur w g s a) (n : Int) (hn : n < 0) :
    Calls Tryd.prog 59 #[.pointer (some ⟨g, 0, none⟩), .int .i64 n] w fun e w' => e = .returned (.tuple #[.string ⟨#[]⟩, .int .i64 1]) ∧ w = w' := by
  go_enter Tryd.func59, Tryd.ntmps59
  go_wp2
  go_ret2
  exact ⟨rfl, rfl⟩
theorem rtake_short (h : RCur w g s a) (ha : a ≤ s.size) (hs : s.size ≤ maxLen) (n : Int) (hn : (s.size : Int) - a < n) :
    Calls Tryd.prog 59 #[.pointer (some ⟨g, 0, none⟩), .int .i64 n] w fun e w' => e = .returned (.tuple #[.string ⟨#[]⟩, .int .i64 4]) ∧ ∃ q, w' = w.drewN q := by
  unfold maxLen at hs
  have c0 := Blk.cell h 0
  have c1 := Blk.cell h 1
  simp at c0 c1
  have hn0 : ¬ n < 0 := by omega
  have y1 : IntKind.i64.wrap ((s.size : Int) - a) = (s.size : Int) - a := IntWalk.i64_in _ (by omega)
  go_enter Tryd.func59, Tryd.ntmps59
  go_wp2_with fail
  go_quiet (fail)
  go_wp2
  go_ret2
  exact ⟨rfl, _, rfl⟩
theorem rtake_in (h : RCur w g s a) (ha : a ≤ s.size) (hs : s.size ≤ maxLen) (n : Nat) (hn : a + n ≤ s.size) :
    Calls Tryd.prog 59 #[.pointer (some ⟨g, 0, none⟩), .int .i64 n] w fun e w' => e = .returned (.tuple #[.string (s.extract a (a + n)), .int .i64 0]) ∧ RCur w' g s (a + n) ∧ Only (· = g) w w' := by
  unfold maxLen at hs
  have c0 := Blk.cell h 0
  have c1 := Blk.cell h 1
  simp at c0 c1
  have hn0 : ¬ (n : Int) < 0 := by omega
  have hn1 : ¬ (s.size : Int) - a < (n : Int) := by omega
  have hn2 : decide ((s.size : Int) - a < (n : Int)) = false := decide_eq_false hn1
  have y1 : IntKind.i64.wrap ((s.size : Int) - a) = (s.size : Int) - a := IntWalk.i64_in _ (by omega)
  have y2 : IntKind.i64.wrap ((a : Int) + n) = (a : Int) + n := IntWalk.i64_in _ (by omega)
  have y3 : ((a : Int) + n).toNat = a + n := by omega
  have y4 : (a : Int) ≤ (a : Int) + n := by omega
  have y5 : (a : Int) + n ≤ (s.size : Int) := by omega
  have y6 : (0 : Int) ≤ (a : Int) + n := by omega
  go_enter Tryd.func59, Tryd.ntmps59
  go_wp2_with fail
  go_quiet (fail)
  go_wp2_with fail
  generalize hW : w.drewN _ = w1
  have h1 : RCur w1 g s a := by rw [← hW]; exact Blk.drewN h _
  have ho1 : Only (· = g) w w1 := by rw [← hW]; exact (Only.refl _ _).drewN _
  have c0 := Blk.cell h1 0
  have c1 := Blk.cell h1 1
  simp at c0 c1
  have f1 := Blk.frozen h1 1
  clear hW
  go_quiet (fail)
  go_wp2_with fail
  go_ret2
  refine ⟨rfl, ?_, (ho1.drewN _).setCell (p := ⟨g, 1, none⟩) (.inl rfl) _⟩
  have h2 := (Blk.drewN h1 nq).set_ 1 (.int .i64 ((a : Int) + n))
  unfold RCur
  rw [show ((a + n : Nat) : Int) = (a : Int) + n by omega]
  simpa using h2

/-! ### Seek -/
theorem rseek_out (h : RCur w g s a) (n : Int) (hn : n < 0 ∨ (s.size : Int) < n) :
    Calls Tryd.prog 60 #[.pointer (some ⟨g, 0, none⟩), .int .i64 n] w fun e w' => e = .returned (.int .i64 1) ∧ w = w' := by
  have c0 := Blk.cell h 0
  simp at c0
  by_cases h0 : n < 0
  · go_enter Tryd.func60, Tryd.ntmps60
    go_wp2
    go_ret
    exact ⟨rfl, rfl⟩
  · have h1 : (s.size : Int) < n := by omega
    have hd : decide (n < 0) = false := decide_eq_false h0
    go_enter Tryd.func60, Tryd.ntmps60
    go_wp2
    go_ret
    exact ⟨rfl, rfl⟩
theorem rseek_in (h : RCur w g s a) (n : Nat) (hn : n ≤ s.size) :
    Calls Tryd.prog 60 #[.pointer (some ⟨g, 0, none⟩), .int .i64 n] w fun e w' => e = .returned (.int .i64 0) ∧ RCur w' g s n ∧ Only (· = g) w w' := by
  have c0 := Blk.cell h 0
  have c1 := Blk.cell h 1
  have f1 := Blk.frozen h 1
  simp at c0 c1
  have h0 : ¬ (n : Int) < 0 := by omega
  have h1 : ¬ (s.size : Int) < (n : Int) := by omega
  have hd : decide ((n : Int) < 0) = false := decide_eq_false h0
  have h2 := Blk.set_ h 1 (.int .i64 n)
  have ho := (Only.refl (· = g) w).setCell (p := ⟨g, 1, none⟩) (.inl rfl) (.int .i64 n)
  go_enter Tryd.func60, Tryd.ntmps60
  go_wp2
  go_ret
  exact ⟨rfl, by unfold RCur; simpa using h2, ho⟩
end
end Go.Proofs.YtkpogngbajkgmaaDoor
