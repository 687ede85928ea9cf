/-
  Package cursor: reading, as contracts.
-/
import Derived.Test.YtfhnfjfjmjopeaaDoorErrno
import Derived.Test.YtfhnfjfjmjopeaaDoorCurMath
import Derived.Laws.BitsLemmas
namespace Go.Proofs.YtfhnfjfjmjopeaaDoor
open Go.RowKit
set_option linter.unusedVariables false

def Cur (w : World) (g : Nat) (s : ByteArray) (at_ : Nat) : Prop := Blk w g 64 #[.string s, .int .i64 at_]
theorem Cur.only {w w' : World} {g : Nat} {s : ByteArray} {a : Nat} {S : Nat → Prop} (h : Cur w g s a) (ho : Only S w w') (hg : ¬ S g) : Cur w' g s a := Blk.only h ho hg
theorem Cur.still {w w' : World} {g : Nat} {s : ByteArray} {a : Nat} (h : Cur w g s a) (ho : Still w w') : Cur w' g s a := Blk.only h ho (fun h => h)
theorem Cur.lt {w : World} {g : Nat} {s : ByteArray} {a : Nat} (h : Cur w g s a) : g < w.heap.size := Blk.lt h
theorem Cur.ne_err {w : World} {g : Nat} {s : ByteArray} {a : Nat} (h : Cur w g s a) (he : ErrT w) : g ≠ 0 := by
  rintro rfl
  have h1 := Blk.cell h 0
  unfold ErrT at he
  rw [he] at h1
  simp at h1
/-- A cursor's own turn leaves the variable. -/
theorem ErrT.by_cur {w w' : World} {g : Nat} {s : ByteArray} {a : Nat} (he : ErrT w) (h : Cur w g s a) (ho : Only (· = g) w w') : ErrT w' := he.only ho (fun e => h.ne_err he e.symm)

def fail (n : Int) : Value := .iface 76 (.agg #[.int .i64 n])

theorem cur_new (s : ByteArray) (w : World) :
    Calls Tryd.prog 17 #[.string s] w fun e w' => ∃ g, e = .returned (.pointer (some ⟨g, 0, none⟩)) ∧ w.heap.size ≤ g ∧ Cur w' g s 0 ∧ Still w w' := by
  go_enter Tryd.func17, Tryd.ntmps17
  go_wp2
  go_ret
  exact ⟨_, rfl, Nat.le_refl _, Blk.new _ _ _, Still.new _ _⟩

theorem take_nil (n : Int) (w : World) :
    Calls Tryd.prog 37 #[.pointer none, .int .i64 n] w fun e w' => e = .returned (.tuple #[.string ⟨#[]⟩, fail 2]) ∧ w = w' := by
  go_enter Tryd.func37, Tryd.ntmps37
  go_wp2
  go_ret2
  exact ⟨rfl, rfl⟩
section
variable {w : World} {g : Nat} {s : ByteArray} {a : Nat}
theorem take_neg (h : Cur w g s a) (n : Int) (hn : n < 0) :
    Calls Tryd.prog 37 #[.pointer (some ⟨g, 0, none⟩), .int .i64 n] w fun e w' => e = .returned (.tuple #[.string ⟨#[]⟩, fail 1]) ∧ w = w' := by
  go_enter Tryd.func37, Tryd.ntmps37
  go_wp2
  go_ret2
  exact ⟨rfl, rfl⟩
theorem take_short (h : Cur w g s a) (ha : a ≤ s.size) (hs : s.size ≤ maxLen) (n : Int) (hn : (s.size : Int) - a < n) :
    Calls Tryd.prog 37 #[.pointer (some ⟨g, 0, none⟩), .int .i64 n] w fun e w' => e = .returned (.tuple #[.string ⟨#[]⟩, fail 4]) ∧ ∃ q, w' = w.drewN q := by
  unfold maxLen at hs
  have c0 := Blk.cell h 0
  have c1 := Blk.cell h 1
  simp at c0 c1
  have hn0 : ¬ n < 0 := by omega
  have y1 : IntKind.i64.wrap ((s.size : Int) - a) = (s.size : Int) - a := IntWalk.i64_in _ (by omega)
  go_enter Tryd.func37, Tryd.ntmps37
  go_wp2_with fail
  go_quiet (fail)
  go_wp2
  go_ret2
  exact ⟨rfl, _, rfl⟩
theorem take_in (h : Cur w g s a) (ha : a ≤ s.size) (hs : s.size ≤ maxLen) (n : Nat) (hn : a + n ≤ s.size) :
    Calls Tryd.prog 37 #[.pointer (some ⟨g, 0, none⟩), .int .i64 n] w fun e w' => e = .returned (.tuple #[.string (s.extract a (a + n)), .nilIface]) ∧ Cur w' g s (a + n) ∧ Only (· = g) w w' := by
  unfold maxLen at hs
  have c0 := Blk.cell h 0
  have c1 := Blk.cell h 1
  simp at c0 c1
  have f1 := Blk.frozen h 1
  have hn0 : ¬ (n : Int) < 0 := by omega
  have hn1 : ¬ (s.size : Int) - a < (n : Int) := by omega
  have hn2 : decide ((s.size : Int) - a < (n : Int)) = false := decide_eq_false hn1
  have y1 : IntKind.i64.wrap ((s.size : Int) - a) = (s.size : Int) - a := IntWalk.i64_in _ (by omega)
  have y2 : IntKind.i64.wrap ((a : Int) + n) = (a : Int) + n := IntWalk.i64_in _ (by omega)
  have y3 : ((a : Int) + n).toNat = a + n := by omega
  have y4 : (a : Int) ≤ (a : Int) + n := by omega
  have y5 : (a : Int) + n ≤ (s.size : Int) := by omega
  have y6 : (0 : Int) ≤ (a : Int) + n := by omega
  go_enter Tryd.func37, Tryd.ntmps37
  go_wp2_with fail
  go_quiet (fail)
  go_wp2_with fail
  generalize hW : w.drewN _ = w1
  have h1 : Cur w1 g s a := by rw [← hW]; exact Blk.drewN h _
  have ho1 : Only (· = g) w w1 := by rw [← hW]; exact (Only.refl _ _).drewN _
  have c0 := Blk.cell h1 0
  have c1 := Blk.cell h1 1
  simp at c0 c1
  have f1 := Blk.frozen h1 1
  clear hW
  go_quiet (fail)
  go_wp2_with fail
  go_ret2
  refine ⟨rfl, ?_, (ho1.drewN _).setCell (p := ⟨g, 1, none⟩) (.inl rfl) _⟩
  have h2 := (Blk.drewN h1 nq).set_ 1 (.int .i64 ((a : Int) + n))
  unfold Cur
  rw [show ((a + n : Nat) : Int) = (a : Int) + n by omega]
  simpa using h2

/-! ### number -/
theorem or256 (x b : Nat) (hx : x < 16777216) (hb : b < 256) : bits .or .u32 ((x : Int) * 256) (b : Int) = (x : Int) * 256 + (b : Int) :=
  bits_join .u32 32 (by decide) (fun n h0 h1 => by rw [IntKind.wrap_u32]; omega) 8 _ _ (by omega) (by omega) (by omega) (by omega) (by omega) (by omega)

theorem number_nil (k : Int) (w : World) :
    Calls Tryd.prog 30 #[.pointer none, .int .i64 k] w fun e w' => e = .returned (.tuple #[.int .u32 0, fail 2]) ∧ w = w' := by
  go_enter Tryd.func30, Tryd.ntmps30
  go_wp2_with fail
  refine (take_nil k w).mono ?_
  rintro e w' ⟨rfl, rfl⟩
  unfold fail
  go_wp2_with fail
  refine wp_loop_rounds 1 ?_
  rw [rounds_succ]
  go_wp2
  go_ret2
  exact ⟨rfl, rfl⟩
theorem number_short (h : Cur w g s a) (ha : a ≤ s.size) (hs : s.size ≤ maxLen) (n : Int) (hn : (s.size : Int) - a < n) :
    Calls Tryd.prog 30 #[.pointer (some ⟨g, 0, none⟩), .int .i64 n] w fun e w' => e = .returned (.tuple #[.int .u32 0, fail 4]) ∧ ∃ q, w' = w.drewN q := by
  go_enter Tryd.func30, Tryd.ntmps30
  go_wp2_with fail
  refine (take_short h ha hs n hn).mono ?_
  rintro e w' ⟨rfl, q, rfl⟩
  unfold fail
  go_wp2_with fail
  refine wp_loop_rounds 1 ?_
  rw [rounds_succ]
  go_wp2
  go_ret2
  exact ⟨rfl, q, rfl⟩
/-- The number at a place. -/
def numAt (s : ByteArray) (a k : Nat) : Nat := beL (s.extract a (a + k)).data.toList
set_option maxRecDepth 100000 in
theorem number_in (h : Cur w g s a) (ha : a ≤ s.size) (hs : s.size ≤ maxLen) (n : Nat) (hn4 : n ≤ 4) (hn : a + n ≤ s.size) :
    Calls Tryd.prog 30 #[.pointer (some ⟨g, 0, none⟩), .int .i64 n] w fun e w' => e = .returned (.tuple #[.int .u32 (numAt s a n), .nilIface]) ∧ Cur w' g s (a + n) ∧ Only (· = g) w w' := by
  go_enter Tryd.func30, Tryd.ntmps30
  go_wp2_with fail
  refine (take_in h ha hs n hn).mono ?_
  rintro e w1 ⟨rfl, h1, ho1⟩
  have hts : (s.extract a (a + n)).size = n := by rw [ByteArray.size_extract]; omega
  have hnum : numAt s a n = beL (s.extract a (a + n)).data.toList := rfl
  generalize s.extract a (a + n) = t at *
  have Hnum := Lib.hid hnum
  obtain rfl : t.size = n := hts
  clear hnum
  go_wp2_with fail
  go_loop [8, 18] (fun v i => ∃ k : Nat, k ≤ t.size ∧ i = .int .i64 k ∧ v = .int .u32 (beL (t.data.toList.take k))) (fun _ i => t.size - (intOf i).toNat)
  case atStart => exact ⟨0, by omega, rfl, rfl⟩
  case round =>
    obtain ⟨k, hk, rfl, rfl⟩ := hrel
    by_cases hlt : k < t.size
    · have hsn := be_take t k hlt
      have hlt2 := be_take_lt t k hk
      have hp : 256 ^ k ≤ 16777216 := by
        have : k ≤ 3 := by omega
        calc 256 ^ k ≤ 256 ^ 3 := Nat.pow_le_pow_right (by omega) this
          _ = 16777216 := by decide
      have hor := or256 (beL (t.data.toList.take k)) t[k].toNat (by omega) (UInt8.toNat_lt _)
      have Hsn := Lib.hid hsn
      generalize beL (t.data.toList.take k) = x at *
      have hx : x < 16777216 := by omega
      have y1 : IntKind.u32.wrap ((x : Int) * 256) = (x : Int) * 256 := by rw [IntKind.wrap_u32]; omega
      have hb8 : t[k].toNat < 256 := UInt8.toNat_lt _
      have y2 : ((t[k].toNat : Nat) : Int) % 4294967296 = ((t[k].toNat : Nat) : Int) := by omega
      clear hsn hlt2 hp
      go_wp2_with fail
      go_round
      case rel => exact ⟨k + 1, by omega, by go_num, by rw [Hsn.out]; go_num⟩
      case measure => simp [intOf]; omega
    · obtain rfl : t.size = k := by omega
      rw [List.take_of_length_le (by simp)]
      go_wp2_with fail
      go_ret2
      rw [Hnum.out]
      exact ⟨rfl, h1, ho1⟩
end

/-! ### Byte, Two, Four, Take -/
section
variable {w : World} {g : Nat} {s : ByteArray} {a : Nat}
theorem beL_len (s : ByteArray) (a k : Nat) (h : a + k ≤ s.size) : numAt s a k < 256 ^ k := by
  refine beL_lt k _ (by simp; omega)
theorem Byte_nil (w : World) (he : ErrT w) :
    Calls Tryd.prog 25 #[.pointer none] w fun e w' => e = .returned (.tuple #[.int .u8 0, .int .i64 2]) ∧ Still w w' := by
  go_enter Tryd.func25, Tryd.ntmps25
  go_wp2_with fail
  refine (number_nil 1 w).mono ?_
  rintro e w' ⟨rfl, rfl⟩
  unfold fail
  go_wp2_with fail
  refine (errno_hit 2 _ he).mono ?_
  rintro e w' ⟨rfl, hs⟩
  go_wp2
  go_ret2
  exact ⟨rfl, hs⟩
theorem Byte_short (h : Cur w g s a) (he : ErrT w) (ha : a ≤ s.size) (hs : s.size ≤ maxLen) (hn : s.size < a + 1) :
    Calls Tryd.prog 25 #[.pointer (some ⟨g, 0, none⟩)] w fun e w' => e = .returned (.tuple #[.int .u8 0, .int .i64 4]) ∧ Still w w' := by
  go_enter Tryd.func25, Tryd.ntmps25
  go_wp2_with fail
  refine (number_short h ha hs 1 (by omega)).mono ?_
  rintro e w' ⟨rfl, q, rfl⟩
  have he1 := he.still ((Only.refl (fun _ => False) w).drewN q)
  have hst := ((Only.refl (fun _ => False) w).drewN q)
  generalize w.drewN q = w1 at *
  unfold fail
  go_wp2_with fail
  refine (errno_hit 4 _ he1).mono ?_
  rintro e w' ⟨rfl, hs⟩
  go_wp2
  go_ret2
  exact ⟨rfl, hst.still hs⟩
theorem Byte_in (h : Cur w g s a) (ha : a ≤ s.size) (hs : s.size ≤ maxLen) (hn : a + 1 ≤ s.size) :
    Calls Tryd.prog 25 #[.pointer (some ⟨g, 0, none⟩)] w fun e w' => e = .returned (.tuple #[.int .u8 (numAt s a 1), .int .i64 0]) ∧ Cur w' g s (a + 1) ∧ Only (· = g) w w' := by
  have hlt := beL_len s a 1 hn
  go_enter Tryd.func25, Tryd.ntmps25
  go_wp2_with fail
  refine (number_in h ha hs 1 (by omega) hn).mono ?_
  rintro e w1 ⟨he, h1, ho1⟩
  obtain ⟨x, hx⟩ : ∃ x, x = numAt s a 1 := ⟨_, rfl⟩
  rw [← hx] at he hlt
  subst he
  have Hx := Lib.hid hx
  clear hx
  have y1 : (x : Int) % 256 = (x : Int) := by omega
  go_wp2_with fail
  refine (errno_nil _).mono ?_
  rintro e w2 ⟨rfl, hs2⟩
  have h2 := h1.still hs2
  have ho2 := ho1.still hs2
  clear h1 ho1 hs2
  go_wp2
  go_ret2
  rw [← Hx.out]
  exact ⟨rfl, h2, ho2⟩
theorem Take_nil (n : Int) (w : World) (he : ErrT w) :
    Calls Tryd.prog 32 #[.pointer none, .int .i64 n] w fun e w' => e = .returned (.tuple #[.string ⟨#[]⟩, .int .i64 2]) ∧ Still w w' := by
  go_enter Tryd.func32, Tryd.ntmps32
  go_wp2_with fail
  refine (take_nil n w).mono ?_
  rintro e w' ⟨rfl, rfl⟩
  unfold fail
  go_wp2_with fail
  refine (errno_hit 2 _ he).mono ?_
  rintro e w' ⟨rfl, hs⟩
  go_wp2
  go_ret2
  exact ⟨rfl, hs⟩
theorem Take_neg (h : Cur w g s a) (he : ErrT w) (n : Int) (hn : n < 0) :
    Calls Tryd.prog 32 #[.pointer (some ⟨g, 0, none⟩), .int .i64 n] w fun e w' => e = .returned (.tuple #[.string ⟨#[]⟩, .int .i64 1]) ∧ Still w w' := by
  go_enter Tryd.func32, Tryd.ntmps32
  go_wp2_with fail
  refine (take_neg h n hn).mono ?_
  rintro e w' ⟨rfl, rfl⟩
  unfold fail
  go_wp2_with fail
  refine (errno_hit 1 _ he).mono ?_
  rintro e w' ⟨rfl, hs⟩
  go_wp2
  go_ret2
  exact ⟨rfl, hs⟩
theorem Take_short (h : Cur w g s a) (he : ErrT w) (ha : a ≤ s.size) (hs : s.size ≤ maxLen) (n : Int) (hn : (s.size : Int) - a < n) :
    Calls Tryd.prog 32 #[.pointer (some ⟨g, 0, none⟩), .int .i64 n] w fun e w' => e = .returned (.tuple #[.string ⟨#[]⟩, .int .i64 4]) ∧ Still w w' := by
  go_enter Tryd.func32, Tryd.ntmps32
  go_wp2_with fail
  refine (take_short h ha hs n hn).mono ?_
  rintro e w' ⟨rfl, q, rfl⟩
  have he1 := he.still ((Only.refl (fun _ => False) w).drewN q)
  have hst := ((Only.refl (fun _ => False) w).drewN q)
  generalize w.drewN q = w1 at *
  unfold fail
  go_wp2_with fail
  refine (errno_hit 4 _ he1).mono ?_
  rintro e w' ⟨rfl, hs⟩
  go_wp2
  go_ret2
  exact ⟨rfl, hst.still hs⟩
theorem Take_in (h : Cur w g s a) (ha : a ≤ s.size) (hs : s.size ≤ maxLen) (n : Nat) (hn : a + n ≤ s.size) :
    Calls Tryd.prog 32 #[.pointer (some ⟨g, 0, none⟩), .int .i64 n] w fun e w' => e = .returned (.tuple #[.string (s.extract a (a + n)), .int .i64 0]) ∧ Cur w' g s (a + n) ∧ Only (· = g) w w' := by
  go_enter Tryd.func32, Tryd.ntmps32
  go_wp2_with fail
  refine (take_in h ha hs n hn).mono ?_
  rintro e w1 ⟨rfl, h1, ho1⟩
  go_wp2_with fail
  refine (errno_nil _).mono ?_
  rintro e w2 ⟨rfl, hs2⟩
  have h2 := h1.still hs2
  have ho2 := ho1.still hs2
  clear h1 ho1 hs2
  go_wp2
  go_ret2
  exact ⟨rfl, h2, ho2⟩

/-! ### At, Left, Seek -/
theorem At_nil (w : World) :
    Calls Tryd.prog 38 #[.pointer none] w fun e w' => e = .returned (.int .i64 0) ∧ w = w' := by
  go_enter Tryd.func38, Tryd.ntmps38
  go_wp2
  go_ret
  exact ⟨rfl, rfl⟩
theorem At_any (h : Cur w g s a) :
    Calls Tryd.prog 38 #[.pointer (some ⟨g, 0, none⟩)] w fun e w' => e = .returned (.int .i64 a) ∧ w = w' := by
  have c1 := Blk.cell h 1
  simp at c1
  go_enter Tryd.func38, Tryd.ntmps38
  go_wp2
  go_ret
  exact ⟨rfl, rfl⟩
theorem seek_nil (n : Int) (w : World) :
    Calls Tryd.prog 24 #[.pointer none, .int .i64 n] w fun e w' => e = .returned (fail 2) ∧ w = w' := by
  go_enter Tryd.func24, Tryd.ntmps24
  go_wp2
  go_ret
  exact ⟨rfl, rfl⟩
theorem seek_out (h : Cur w g s a) (n : Int) (hn : n < 0 ∨ (s.size : Int) < n) :
    Calls Tryd.prog 24 #[.pointer (some ⟨g, 0, none⟩), .int .i64 n] w fun e w' => e = .returned (fail 1) ∧ w = w' := by
  have c0 := Blk.cell h 0
  simp at c0
  by_cases h0 : n < 0
  · go_enter Tryd.func24, Tryd.ntmps24
    go_wp2
    go_ret
    exact ⟨rfl, rfl⟩
  · have h1 : (s.size : Int) < n := by omega
    have hd : decide (n < 0) = false := decide_eq_false h0
    go_enter Tryd.func24, Tryd.ntmps24
    go_wp2
    go_ret
    exact ⟨rfl, rfl⟩
theorem seek_in (h : Cur w g s a) (n : Nat) (hn : n ≤ s.size) :
    Calls Tryd.prog 24 #[.pointer (some ⟨g, 0, none⟩), .int .i64 n] w fun e w' => e = .returned .nilIface ∧ Cur w' g s n ∧ Only (· = g) w w' := by
  have c0 := Blk.cell h 0
  have c1 := Blk.cell h 1
  have f1 := Blk.frozen h 1
  simp at c0 c1
  have h0 : ¬ (n : Int) < 0 := by omega
  have h1 : ¬ (s.size : Int) < (n : Int) := by omega
  have hd : decide ((n : Int) < 0) = false := decide_eq_false h0
  have h2 := Blk.set_ h 1 (.int .i64 n)
  have ho := (Only.refl (· = g) w).setCell (p := ⟨g, 1, none⟩) (.inl rfl) (.int .i64 n)
  go_enter Tryd.func24, Tryd.ntmps24
  go_wp2
  go_ret
  exact ⟨rfl, by unfold Cur; simpa using h2, ho⟩
theorem Seek_nil (n : Int) (w : World) (he : ErrT w) :
    Calls Tryd.prog 18 #[.pointer none, .int .i64 n] w fun e w' => e = .returned (.int .i64 2) ∧ Still w w' := by
  go_enter Tryd.func18, Tryd.ntmps18
  go_wp2_with fail
  refine (seek_nil n w).mono ?_
  rintro e w' ⟨rfl, rfl⟩
  unfold fail
  go_wp2_with fail
  refine (errno_hit 2 _ he).mono ?_
  rintro e w' ⟨rfl, hs⟩
  go_wp2
  go_ret
  exact ⟨rfl, hs⟩
theorem Seek_out (h : Cur w g s a) (he : ErrT w) (n : Int) (hn : n < 0 ∨ (s.size : Int) < n) :
    Calls Tryd.prog 18 #[.pointer (some ⟨g, 0, none⟩), .int .i64 n] w fun e w' => e = .returned (.int .i64 1) ∧ Still w w' := by
  go_enter Tryd.func18, Tryd.ntmps18
  go_wp2_with fail
  refine (seek_out h n hn).mono ?_
  rintro e w' ⟨rfl, rfl⟩
  unfold fail
  go_wp2_with fail
  refine (errno_hit 1 _ he).mono ?_
  rintro e w' ⟨rfl, hs⟩
  go_wp2
  go_ret
  exact ⟨rfl, hs⟩
theorem Seek_in (h : Cur w g s a) (n : Nat) (hn : n ≤ s.size) :
    Calls Tryd.prog 18 #[.pointer (some ⟨g, 0, none⟩), .int .i64 n] w fun e w' => e = .returned (.int .i64 0) ∧ Cur w' g s n ∧ Only (· = g) w w' := by
  go_enter Tryd.func18, Tryd.ntmps18
  go_wp2_with fail
  refine (seek_in h n hn).mono ?_
  rintro e w1 ⟨rfl, h1, ho1⟩
  go_wp2_with fail
  refine (errno_nil _).mono ?_
  rintro e w2 ⟨rfl, hs2⟩
  have h2 := h1.still hs2
  have ho2 := ho1.still hs2
  clear h1 ho1 hs2
  go_wp2
  go_ret
  exact ⟨rfl, h2, ho2⟩
end
end Go.Proofs.YtfhnfjfjmjopeaaDoor
