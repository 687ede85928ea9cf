/-
  Package repute: what its functions come to, as contracts: asking.
-/
import Derived.Test.YtdcogjlcbdkdcaaDoorRows
import Derived.Test.YtdcogjlcbdkdcaaDoorRepMath
import Derived.StillTailTactics
import Derived.Deep.RegionHeld3
namespace Go.Proofs.YtdcogjlcbdkdcaaDoor
open Go.RowKit
set_option linter.unusedVariables false

/-- A book in memory. -/
structure Bk (w : World) (g b n c : Nat) (lim rst : Int) (us : List Up) : Prop where
  blk : Blk w g 49 #[.slice (some ⟨b, 0, none⟩) n c, .int .i64 lim, .int .i64 rst]
  len : us.length = n
  own : w.ownsRow 0 81 7 (.slice (some ⟨b, 0, none⟩) n c) n (rowC us)
/-- The numbers of a book that may be. -/
structure BOK (n : Nat) (lim rst : Int) : Prop where
  n1 : 1 ≤ n
  n9 : n ≤ 9
  l1 : 1 ≤ lim
  l2 : lim ≤ 100
  r1 : 1 ≤ rst
  r2 : rst ≤ 100000
/-- The numbers of an upstream that may be. -/
structure UOK (u : Up) : Prop where
  s0 : 0 ≤ u.score
  s1 : u.score ≤ 100
  a0 : 0 ≤ u.ag
  a1 : u.ag ≤ 65535
  d0 : 0 ≤ u.ds
  d1 : u.ds ≤ 65535
  i0 : 0 ≤ u.si
  i1 : u.si ≤ 65535
  t0 : 0 ≤ u.til
  t1 : u.til ≤ 2199023255552
/-- The variable with what a deed gains. -/
structure Gains (w : World) : Prop where
  g0 : w.cell? ⟨0, 0, none⟩ = some (.int .i64 1)
  g1 : w.cell? ⟨0, 1, none⟩ = some (.int .i64 (-10))
  g2 : w.cell? ⟨0, 2, none⟩ = some (.int .i64 (-2))

section
variable {w w' : World} {g b n c : Nat} {lim rst : Int} {us : List Up} {S : Nat → Prop}
theorem Gains.lt (h : Gains w) : 0 < w.heap.size := World.block_lt_of_cell? w _ h.g0
theorem Gains.only (h : Gains w) (ho : Only S w w') (hS : ¬ S 0) : Gains w' := ⟨ho.cell_some hS h.g0, ho.cell_some hS h.g1, ho.cell_some hS h.g2⟩
theorem Gains.still (h : Gains w) (ho : Still w w') : Gains w' := h.only ho (fun h => h)
theorem Bk.lt (h : Bk w g b n c lim rst us) : g < w.heap.size := h.blk.lt
theorem Bk.blt (h : Bk w g b n c lim rst us) : b < w.heap.size := (h.own.lt b rfl).2
theorem Bk.ne (h : Bk w g b n c lim rst us) : b ≠ g := by
  rintro rfl
  rcases h.own.2 with ⟨h1, _⟩ | ⟨g', cap, cur, h1, _, hh, _⟩
  · simp at h1
  · simp only [Value.slice.injEq, Option.some.injEq, Addr.mk.injEq, and_true, true_and] at h1
    obtain ⟨rfl, rfl⟩ := h1
    exact Blk.ne_ (t := 81) hh h.blk (by decide) rfl
theorem Bk.only (h : Bk w g b n c lim rst us) (ho : Only S w w') (hg : ¬ S g) (hb : ¬ S b) : Bk w' g b n c lim rst us :=
  ⟨h.blk.only ho hg, h.len, own_only h.own ho (fun k hk => by simp [Value.ownBlock] at hk; subst hk; exact hb)⟩
theorem Bk.still (h : Bk w g b n c lim rst us) (ho : Still w w') : Bk w' g b n c lim rst us := h.only ho (fun h => h) (fun h => h)
theorem Bk.at_ (h : Bk w g b n c lim rst us) {i : Nat} {u : Up} (hi : us[i]? = some u) (j : Nat) {v : Value} (hv : (upC u)[j]? = some v) : w.cell? ⟨b, i * 7 + j, none⟩ = some v := by
  have hj : j < 7 := by
    rcases Nat.lt_or_ge j 7 with hj | hj
    · exact hj
    · rw [List.getElem?_eq_none (by rw [upC_length]; exact hj)] at hv; cases hv
  have := h.own.cells (g := b) rfl (i * 7 + j) v (by rw [rowC_at hi j hj]; exact hv)
  have hadd : (⟨b, 0, none⟩ : Addr).add (i * 7 + j) = ⟨b, i * 7 + j, none⟩ := by unfold Addr.add; split <;> simp_all
  rwa [hadd] at this
theorem Bk.set_ (h : Bk w g b n c lim rst us) {i : Nat} {u u' : Up} (hi : us[i]? = some u) (j : Nat) (hj : j < 7) {v : Value} (hu : (upC u).set j v = upC u') : Bk (w.setCell ⟨b, i * 7 + j, none⟩ v) g b n c lim rst (us.set i u') := by
  refine ⟨h.blk.far (p := ⟨b, i * 7 + j, none⟩) (fun e => h.ne e.symm) v, by rw [List.length_set]; exact h.len, ?_⟩
  rw [← rowC_set hi hj hu]
  exact (h.own.stored (i * 7 + j) v).1
theorem Bk.get (h : Bk w g b n c lim rst us) {i : Nat} (hi : i < n) : ∃ u, us[i]? = some u := ⟨_, List.getElem?_eq_getElem (by rw [h.len]; exact hi)⟩
theorem Bk.drew (h : Bk w g b n c lim rst us) : Bk w.drew g b n c lim rst us := h.still (Only.refl _ _).drew
theorem Bk.drewN (h : Bk w g b n c lim rst us) (k : Nat) : Bk (w.drewN k) g b n c lim rst us := h.still ((Only.refl _ _).drewN k)
end

section
variable {w : World} {g b n c : Nat} {lim rst : Int} {us : List Up}

theorem is_any (h : Bk w g b n c lim rst us) (i : Int) :
    Calls Tryd.prog 45 #[.pointer (some ⟨g, 0, none⟩), .int .i64 i] w fun e w' => e = .returned (.bool (decide (0 ≤ i ∧ i < n))) ∧ w = w' := by
  have c0 := h.blk.cell 0
  simp at c0
  by_cases h0 : 0 ≤ i
  · have hd : decide (0 ≤ i) = true := decide_eq_true h0
    go_enter Tryd.func45, Tryd.ntmps45
    go_wp2
    go_ret
    exact ⟨ret_bool (decide_eq_decide.2 (by omega)), rfl⟩
  · have hd : decide (0 ≤ i) = false := decide_eq_false h0
    go_enter Tryd.func45, Tryd.ntmps45
    go_wp2
    go_ret
    exact ⟨rfl, rfl⟩
theorem is_in (h : Bk w g b n c lim rst us) (i : Nat) (hi : i < n) :
    Calls Tryd.prog 45 #[.pointer (some ⟨g, 0, none⟩), .int .i64 i] w fun e w' => e = .returned (.bool true) ∧ w = w' := by
  refine (is_any h i).mono ?_
  rintro e w' ⟨rfl, rfl⟩
  exact ⟨ret_bool (decide_eq_true (by omega)), rfl⟩
theorem is_out (h : Bk w g b n c lim rst us) (i : Int) (hi : ¬ (0 ≤ i ∧ i < n)) :
    Calls Tryd.prog 45 #[.pointer (some ⟨g, 0, none⟩), .int .i64 i] w fun e w' => e = .returned (.bool false) ∧ w = w' := by
  refine (is_any h i).mono ?_
  rintro e w' ⟨rfl, rfl⟩
  exact ⟨ret_bool (decide_eq_false hi), rfl⟩
theorem is_nil (i : Int) (w : World) :
    Calls Tryd.prog 45 #[.pointer none, .int .i64 i] w fun e w' => e = .returned (.bool false) ∧ w = w' := by
  go_enter Tryd.func45, Tryd.ntmps45
  go_wp2
  go_ret
  exact ⟨rfl, rfl⟩

theorem score_in (h : Bk w g b n c lim rst us) (i : Nat) {u : Up} (hu : us[i]? = some u) :
    Calls Tryd.prog 22 #[.pointer (some ⟨g, 0, none⟩), .int .i64 i] w fun e w' => e = .returned (.int .i64 u.score) ∧ w = w' := by
  have hi : i < n := by rw [← h.len]; exact (List.getElem?_eq_some_iff.1 hu).1
  have c0 := h.blk.cell 0
  simp at c0
  have k0 := h.at_ hu 0 (v := .int .i64 u.score) rfl
  simp only [Nat.add_zero] at k0
  have Hu := Lib.hid hu
  clear hu
  go_enter Tryd.func22, Tryd.ntmps22
  go_wp2_with fail
  refine (is_in h i hi).mono ?_
  rintro e w' ⟨rfl, rfl⟩
  go_wp2
  go_ret
  exact ⟨rfl, rfl⟩
theorem score_out (h : Bk w g b n c lim rst us) (i : Int) (hi : ¬ (0 ≤ i ∧ i < n)) :
    Calls Tryd.prog 22 #[.pointer (some ⟨g, 0, none⟩), .int .i64 i] w fun e w' => e = .returned (.int .i64 0) ∧ w = w' := by
  go_enter Tryd.func22, Tryd.ntmps22
  go_wp2_with fail
  refine (is_out h i hi).mono ?_
  rintro e w' ⟨rfl, rfl⟩
  go_wp2
  go_ret
  exact ⟨rfl, rfl⟩
theorem rests_in (h : Bk w g b n c lim rst us) (i : Nat) {u : Up} (hu : us[i]? = some u) :
    Calls Tryd.prog 19 #[.pointer (some ⟨g, 0, none⟩), .int .i64 i] w fun e w' => e = .returned (.bool u.rests) ∧ w = w' := by
  have hi : i < n := by rw [← h.len]; exact (List.getElem?_eq_some_iff.1 hu).1
  have c0 := h.blk.cell 0
  simp at c0
  have k0 := h.at_ hu 4 (v := .bool u.rests) rfl
  have Hu := Lib.hid hu
  clear hu
  go_enter Tryd.func19, Tryd.ntmps19
  go_wp2_with fail
  refine (is_in h i hi).mono ?_
  rintro e w' ⟨rfl, rfl⟩
  go_wp2
  go_ret
  exact ⟨rfl, rfl⟩
theorem trial_in (h : Bk w g b n c lim rst us) (i : Nat) {u : Up} (hu : us[i]? = some u) :
    Calls Tryd.prog 21 #[.pointer (some ⟨g, 0, none⟩), .int .i64 i] w fun e w' => e = .returned (.bool u.trial) ∧ w = w' := by
  have hi : i < n := by rw [← h.len]; exact (List.getElem?_eq_some_iff.1 hu).1
  have c0 := h.blk.cell 0
  simp at c0
  have k0 := h.at_ hu 6 (v := .bool u.trial) rfl
  have Hu := Lib.hid hu
  clear hu
  go_enter Tryd.func21, Tryd.ntmps21
  go_wp2_with fail
  refine (is_in h i hi).mono ?_
  rintro e w' ⟨rfl, rfl⟩
  go_wp2
  go_ret
  exact ⟨rfl, rfl⟩
end
end Go.Proofs.YtdcogjlcbdkdcaaDoor
