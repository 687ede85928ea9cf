/-
  Package comp: a name that is being read; its parts.
-/
import Derived.Test.YtfhnfjfjmjopeaaDoorCompMath
import Derived.Test.YtfhnfjfjmjopeaaDoorCurStr
import Derived.Lib.AppendStr
namespace Go.Proofs.YtfhnfjfjmjopeaaDoor
open Go.RowKit
set_option linter.unusedVariables false
set_option linter.unusedSimpArgs false

structure Rdg (w : World) (base g cg : Nat) (m : ByteArray) (a b nx : Nat) (acc : List UInt8) (A : Option Addr) (c : Nat) : Prop where
  hg : base ≤ g
  hc : base ≤ cg
  blk : Blk w g 56 #[.pointer (some ⟨cg, 0, none⟩), .slice A acc.length c, .int .i64 b, .int .i64 nx]
  cur : Cur w cg m a
  own : w.ownsRow base 5 1 (.slice A acc.length c) acc.length (bv acc)
section
variable {w w' : World} {base g cg : Nat} {m : ByteArray} {a b nx : Nat} {acc : List UInt8} {A : Option Addr} {c : Nat}
theorem Rdg.still (h : Rdg w base g cg m a b nx acc A c) (o : Still w w') : Rdg w' base g cg m a b nx acc A c :=
  ⟨h.hg, h.hc, h.blk.only o (fun h => h), h.cur.still o, own_only h.own o (fun _ _ h => h)⟩
theorem Rdg.ne (h : Rdg w base g cg m a b nx acc A c) : g ≠ cg := Blk.ne_ h.blk h.cur (by decide)
/-- The cursor alone was moved. -/
theorem Rdg.moved {a' : Nat} (h : Rdg w base g cg m a b nx acc A c) (o : Only (· = cg) w w') (hc : Cur w' cg m a') : Rdg w' base g cg m a' b nx acc A c :=
  ⟨h.hg, h.hc, h.blk.only o h.ne, hc, own_only h.own o (fun k hk e => by
    have e' : k = cg := e
    subst e'
    exact own_blk_ne h.own h.cur (by decide) hk)⟩
theorem Rdg.setNx (h : Rdg w base g cg m a b nx acc A c) (v : Nat) : Rdg (w.setCell ⟨g, 3, none⟩ (.int .i64 v)) base g cg m a b v acc A c := by
  have ho : Only (· = g) w (w.setCell ⟨g, 3, none⟩ (.int .i64 v)) := (Only.refl (· = g) w).setCell (p := ⟨g, 3, none⟩) (.inl rfl) _
  have hb := h.blk.set_ 3 (.int .i64 v)
  simp at hb
  exact ⟨h.hg, h.hc, hb, h.cur.only ho (fun e => h.ne e.symm), own_only h.own ho (fun k hk e => by
    have e' : k = g := e
    subst e'
    exact own_blk_ne h.own h.blk (by decide) hk)⟩
theorem Rdg.setB (h : Rdg w base g cg m a b nx acc A c) (v : Nat) : Rdg (w.setCell ⟨g, 2, none⟩ (.int .i64 v)) base g cg m a v nx acc A c := by
  have ho : Only (· = g) w (w.setCell ⟨g, 2, none⟩ (.int .i64 v)) := (Only.refl (· = g) w).setCell (p := ⟨g, 2, none⟩) (.inl rfl) _
  have hb := h.blk.set_ 2 (.int .i64 v)
  simp at hb
  exact ⟨h.hg, h.hc, hb, h.cur.only ho (fun e => h.ne e.symm), own_only h.own ho (fun k hk e => by
    have e' : k = g := e
    subst e'
    exact own_blk_ne h.own h.blk (by decide) hk)⟩
theorem blk4 {w : World} {g : Nat} {t : TypeId} {v0 v1 v2 v3 : Value} (h : Blk w g t #[v0, v1, v2, v3]) :
    w.cell? ⟨g, 0, none⟩ = some v0 ∧ w.cell? ⟨g, 1, none⟩ = some v1 ∧ w.cell? ⟨g, 2, none⟩ = some v2 ∧ w.cell? ⟨g, 3, none⟩ = some v3 := ⟨h.cell 0, h.cell 1, h.cell 2, h.cell 3⟩
theorem frz4 {w : World} {g : Nat} {t : TypeId} {v0 v1 v2 v3 : Value} (h : Blk w g t #[v0, v1, v2, v3]) :
    w.frozen? ⟨g, 0, none⟩ = false ∧ w.frozen? ⟨g, 1, none⟩ = false ∧ w.frozen? ⟨g, 2, none⟩ = false ∧ w.frozen? ⟨g, 3, none⟩ = false := ⟨h.frozen 0, h.frozen 1, h.frozen 2, h.frozen 3⟩

theorem passed_any (h : Rdg w base g cg m a b nx acc A c) (hnx : nx ≤ 1000000000000000) :
    Calls Tryd.prog 31 #[.pointer (some ⟨g, 0, none⟩)] w fun e w' => e = .returned (.tuple #[]) ∧ Rdg w' base g cg m a b (if nx = 0 then a else nx) acc A c ∧ Only (· = g) w w' := by
  obtain ⟨c0, c1, c2, c3⟩ := blk4 h.blk
  obtain ⟨f0, f1, f2, f3⟩ := frz4 h.blk
  have hcur := h.cur
  have h1 := h.setNx a
  have o1 : Only (· = g) w (w.setCell ⟨g, 3, none⟩ (.int .i64 a)) := (Only.refl (· = g) w).setCell (p := ⟨g, 3, none⟩) (.inl rfl) _
  have H := Lib.hid h
  clear h
  go_enter Tryd.func31, Tryd.ntmps31
  by_cases hz : nx = 0
  · subst hz
    go_wp2_with fail
    refine (At_any hcur).mono ?_
    rintro e w1 ⟨rfl, rfl⟩
    go_wp2_with fail
    go_end0
    exact ⟨rfl, h1, o1⟩
  · have hd : ((nx : Int) == 0) = false := by rw [beq_eq_false_iff_ne]; omega
    have hd2 : decide ((nx : Int) = 0) = false := decide_eq_false (by omega)
    rw [if_neg hz]
    go_wp2_with fail
    go_end0
    exact ⟨rfl, H.out, Only.refl _ _⟩
end
def bitsAll : Bool := (List.range 256).all (fun c => decide (bits .and .u8 (c : Int) 192 = (if 192 ≤ c then 192 else if c < 64 then 0 else if c < 128 then 64 else 128))) && (List.range 64).all (fun c => decide (bits .andNot .u8 ((c + 192 : Nat) : Int) 192 = (c : Int)))
theorem bitsAll_true : bitsAll = true := by kernel_rfl
theorem and192 {c : Nat} (h : c < 256) : bits .and .u8 (c : Int) 192 = (if 192 ≤ c then 192 else if c < 64 then 0 else if c < 128 then 64 else 128) := by
  have := bitsAll_true
  unfold bitsAll at this
  rw [Bool.and_eq_true, List.all_eq_true] at this
  exact of_decide_eq_true (this.1 c (List.mem_range.2 h))
theorem not192 {c : Nat} (h : 192 ≤ c) (h' : c < 256) : bits .andNot .u8 (c : Int) 192 = ((c - 192 : Nat) : Int) := by
  have := bitsAll_true
  unfold bitsAll at this
  rw [Bool.and_eq_true, List.all_eq_true, List.all_eq_true] at this
  have := of_decide_eq_true (this.2 (c - 192) (List.mem_range.2 (by omega)))
  rw [show c - 192 + 192 = c by omega] at this
  exact this
end Go.Proofs.YtfhnfjfjmjopeaaDoor
