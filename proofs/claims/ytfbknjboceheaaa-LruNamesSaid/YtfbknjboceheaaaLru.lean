/-
  Package lru: a list in memory; unlinking a place.
-/
import Derived.Test.YtfbknjboceheaaaLruMath
import Derived.Test.YtfbknjboceheaaaBase
import Derived.BigRegion
import Derived.Deep.RegionHeld3
import Derived.StillTailTactics
import Derived.Deep.CutRange
import Derived.Deep.DeepCutAuto
import Derived.KernelRfl
namespace Go.Proofs.Ytfbknjboceheaaa
open Go.RowKit
set_option linter.unusedVariables false

def ring (f : Nat → Nat) : List Value := (List.range 257).map fun q => Value.int .i64 (f q : Int)
def fcells (n : Int) (f h : Nat → Nat) : Array Value := (Value.int .i64 n :: (ring f ++ ring h)).toArray
def upd (f : Nat → Nat) (q v : Nat) : Nat → Nat := fun x => if x = q then v else f x
theorem ring_len (f : Nat → Nat) : (ring f).length = 257 := by simp [ring]
theorem ring_at (f : Nat → Nat) {q : Nat} (hq : q < 257) : (ring f)[q]? = some (.int .i64 (f q)) := by
  unfold ring
  rw [List.getElem?_map, List.getElem?_range hq]
  rfl
theorem ring_ext {f f' : Nat → Nat} (h : ∀ q, q < 257 → f q = f' q) : ring f = ring f' := by
  unfold ring
  refine List.map_congr_left fun q hq => ?_
  rw [h q (List.mem_range.1 hq)]
theorem ring_set (f : Nat → Nat) {q : Nat} (v : Nat) (hq : q < 257) : (ring f).set q (.int .i64 (v : Int)) = ring (upd f q v) := by
  refine List.ext_getElem? fun i => ?_
  rw [List.getElem?_set]
  by_cases hi : i < 257
  · rw [ring_at _ hi, ring_at _ hi]
    unfold upd
    by_cases e : q = i
    · subst e
      simp [ring_len, hq]
    · have e' : ¬ i = q := fun x => e x.symm
      simp [e, e']
  · have h1 : (ring f)[i]? = none := by rw [List.getElem?_eq_none]; rw [ring_len]; omega
    have h2 : (ring (upd f q v))[i]? = none := by rw [List.getElem?_eq_none]; rw [ring_len]; omega
    rw [h1, h2]
    have e : ¬ q = i := by omega
    simp [e]
section
variable {n : Int} {f h : Nat → Nat} {q : Nat}
theorem fc_0 : (fcells n f h)[0]? = some (.int .i64 n) := by simp [fcells]
theorem fc_f (hq : q < 257) : (fcells n f h)[1 + q]? = some (.int .i64 (f q)) := by
  unfold fcells
  rw [List.getElem?_toArray, Nat.add_comm, List.getElem?_cons_succ, List.getElem?_append_left (by rw [ring_len]; exact hq)]
  exact ring_at f hq
theorem fc_h (hq : q < 257) : (fcells n f h)[258 + q]? = some (.int .i64 (h q)) := by
  unfold fcells
  rw [List.getElem?_toArray, show 258 + q = (257 + q) + 1 by omega, List.getElem?_cons_succ, List.getElem?_append_right (by rw [ring_len]; omega), ring_len, show 257 + q - 257 = q by omega]
  exact ring_at h hq
theorem fc_set_f (v : Nat) (hq : q < 257) : (fcells n f h).setIfInBounds (1 + q) (.int .i64 (v : Int)) = fcells n (upd f q v) h := by
  unfold fcells
  rw [List.setIfInBounds_toArray, Nat.add_comm, List.set_cons_succ, List.set_append_left _ _ (by rw [ring_len]; exact hq), ring_set f v hq]
theorem fc_set_h (v : Nat) (hq : q < 257) : (fcells n f h).setIfInBounds (258 + q) (.int .i64 (v : Int)) = fcells n f (upd h q v) := by
  unfold fcells
  rw [List.setIfInBounds_toArray, show 258 + q = (257 + q) + 1 by omega, List.set_cons_succ, List.set_append_right _ _ (by rw [ring_len]; omega), ring_len, show 257 + q - 257 = q by omega, ring_set h v hq]
theorem fc_ext {f' h' : Nat → Nat} (hf : ∀ q, q < 257 → f q = f' q) (hh : ∀ q, q < 257 → h q = h' q) : fcells n f h = fcells n f' h' := by
  unfold fcells
  rw [ring_ext hf, ring_ext hh]
end
/-- A list in block g. -/
def LB (w : World) (g : Nat) (n : Int) (f h : Nat → Nat) : Prop := Blk w g 35 (fcells n f h)

theorem LB.setF {w : World} {g : Nat} {n : Int} {f h : Nat → Nat} (hb : LB w g n f h) {q : Nat} (v : Nat) (hq : q < 257) : LB (w.setCell ⟨g, 1 + q, none⟩ (.int .i64 (v : Int))) g n (upd f q v) h := by
  have := Blk.set_ hb (1 + q) (.int .i64 (v : Int))
  rw [fc_set_f v hq] at this
  exact this
theorem LB.setH {w : World} {g : Nat} {n : Int} {f h : Nat → Nat} (hb : LB w g n f h) {q : Nat} (v : Nat) (hq : q < 257) : LB (w.setCell ⟨g, 258 + q, none⟩ (.int .i64 (v : Int))) g n f (upd h q v) := by
  have := Blk.set_ hb (258 + q) (.int .i64 (v : Int))
  rw [fc_set_h v hq] at this
  exact this
theorem LB.cf {w : World} {g : Nat} {n : Int} {f h : Nat → Nat} (hb : LB w g n f h) {q : Nat} (hq : q < 257) : w.cell? ⟨g, 1 + q, none⟩ = some (.int .i64 (f q)) := (Blk.cell hb _).trans (fc_f hq)
theorem LB.ch {w : World} {g : Nat} {n : Int} {f h : Nat → Nat} (hb : LB w g n f h) {q : Nat} (hq : q < 257) : w.cell? ⟨g, 258 + q, none⟩ = some (.int .i64 (h q)) := (Blk.cell hb _).trans (fc_h hq)

set_option maxRecDepth 1000000 in
set_option maxHeartbeats 1600000 in
theorem unlink_any {w : World} {g : Nat} {n : Int} {f h : Nat → Nat} {p : Nat} (hb : LB w g n f h) (hp : p < 257) (hf : f p < 257) (hh : h p < 257) :
    Calls Try.prog 28 #[.pointer (some ⟨g, 0, none⟩), .int .i64 p] w fun e w' => e = .returned (.tuple #[]) ∧ LB w' g n (upd (upd f (h p) (f p)) p p) (upd (upd h (f p) (h p)) p p) ∧ Only (· = g) w w' := by
  have c1 := hb.cf hp
  have c2 := hb.ch hp
  obtain ⟨a, ha⟩ : ∃ a, a = f p := ⟨_, rfl⟩
  obtain ⟨b, hb'⟩ : ∃ b, b = h p := ⟨_, rfl⟩
  rw [← ha] at c1 hf ⊢
  rw [← hb'] at c2 hh ⊢
  clear ha hb'
  have ia : (a : Int) < 257 := by omega
  have ib : (b : Int) < 257 := by omega
  have ip : (p : Int) < 257 := by omega
  go_enter Try.func28, Try.ntmps28
  go_wp2_with fail
  go_quiet (fail)
  go_wp2_with fail
  have hb1 : LB (w.drewN nq) g n f h := Blk.drewN hb nq
  have ho1 : Only (· = g) w (w.drewN nq) := (Only.refl _ _).drewN nq
  generalize w.drewN nq = w1 at *
  clear hb c1 c2
  have k1 := hb1.cf hh
  have k2 := hb1.ch hf
  have j1 := Blk.frozen hb1 (1 + b)
  have j2 := Blk.frozen hb1 (258 + a)
  have hne : ¬ (258 + a = 1 + b) := by omega
  have hne' : ¬ (1 + b = 258 + a) := by omega
  have k3 : (w1.setCell ⟨g, 1 + b, none⟩ (.int .i64 (a : Int))).cell? ⟨g, 258 + a, none⟩ = some (.int .i64 (h a)) := (World.cell?_setCell_other _ _ _ _ (fun e => by injection e; omega)).trans k2
  have k4 : (w1.setCell ⟨g, 258 + a, none⟩ (.int .i64 (b : Int))).cell? ⟨g, 1 + b, none⟩ = some (.int .i64 (f b)) := (World.cell?_setCell_other _ _ _ _ (fun e => by injection e; omega)).trans k1
  go_cut [] from 18 to 29 (fun wx => wx = ((w1.setCell ⟨g, 1 + b, none⟩ (.int .i64 (a : Int))).setCell ⟨g, 258 + a, none⟩ (.int .i64 (b : Int))).drew)
  case first =>
    go_region
    all_goals (go_wp2_with fail; go_meet; rfl)
  subst hcut
  have hb2 : LB ((w1.setCell ⟨g, 1 + b, none⟩ (.int .i64 (a : Int))).setCell ⟨g, 258 + a, none⟩ (.int .i64 (b : Int))).drew g n (upd f b a) (upd h a b) := Blk.drew ((hb1.setF a hh).setH b hf)
  have ho2 : Only (· = g) w ((w1.setCell ⟨g, 1 + b, none⟩ (.int .i64 (a : Int))).setCell ⟨g, 258 + a, none⟩ (.int .i64 (b : Int))).drew := ((ho1.setCell (p := ⟨g, 1 + b, none⟩) (.inl rfl) _).setCell (p := ⟨g, 258 + a, none⟩) (.inl rfl) _).drew
  generalize ((w1.setCell ⟨g, 1 + b, none⟩ (.int .i64 (a : Int))).setCell ⟨g, 258 + a, none⟩ (.int .i64 (b : Int))).drew = w2 at *
  clear hb1 ho1 k1 k2 k3 k4 j1 j2
  have k1 := hb2.cf hp
  have k2 := hb2.ch hp
  have j1 := Blk.frozen hb2 (1 + p)
  have j2 := Blk.frozen hb2 (258 + p)
  have hne : ¬ (258 + p = 1 + p) := by omega
  have hne' : ¬ (1 + p = 258 + p) := by omega
  generalize hF : upd f b a = F at *
  generalize hH : upd h a b = H at *
  have HF := Lib.hid hF
  have HH := Lib.hid hH
  clear hF hH
  have k3 : (w2.setCell ⟨g, 1 + p, none⟩ (.int .i64 (p : Int))).cell? ⟨g, 258 + p, none⟩ = some (.int .i64 (H p)) := (World.cell?_setCell_other _ _ _ _ (fun e => by injection e; omega)).trans k2
  have k4 : (w2.setCell ⟨g, 258 + p, none⟩ (.int .i64 (p : Int))).cell? ⟨g, 1 + p, none⟩ = some (.int .i64 (F p)) := (World.cell?_setCell_other _ _ _ _ (fun e => by injection e; omega)).trans k1
  go_wp2_with fail
  have hb3 := Blk.drew ((hb2.setF p hp).setH p hp)
  have ho3 := ((ho2.setCell (p := ⟨g, 1 + p, none⟩) (.inl rfl) (.int .i64 (p : Int))).setCell (p := ⟨g, 258 + p, none⟩) (.inl rfl) (.int .i64 (p : Int))).drew
  go_region
  all_goals
    go_wp2_with fail
    go_end0
    first
    | exact ⟨rfl, hb3, ho3⟩
    | (rw [HF.out, HH.out]; exact ⟨rfl, hb3, ho3⟩)
end Go.Proofs.Ytfbknjboceheaaa
