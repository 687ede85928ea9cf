/-
  Package order: one candidate ahead of another one; the library's stable sort, of 20 at most.
-/
import Derived.Test.YtdcogjlcbdkdcaaDoorRows
import Derived.Test.YtdcogjlcbdkdcaaDoorOrdMath
import Derived.Test.YtdcogjlcbdkdcaaDoorBase
import Derived.Test.YtdcogjlcbdkdcaaDoorTake
import Derived.Test.YtdcogjlcbdkdcaaDoorRowW
import Derived.Test.YtdcogjlcbdkdcaaDoorRowsOpen
import Derived.Test.YtdcogjlcbdkdcaaDoorRowAt
import Derived.BigRegion
import Derived.Handy
namespace Go.Proofs.YtdcogjlcbdkdcaaDoor
open Go.RowKit
set_option linter.unusedVariables false
set_option linter.unusedSimpArgs false

theorem compare_any (x y : Int) (w : World) :
    Calls Tryd.prog 54 #[.int .i64 x, .int .i64 y] w fun e w' => ∃ r : Int, e = .returned (.int .i64 r) ∧ (r < 0 ↔ x < y) ∧ w = w' := by
  by_cases h : x < y
  · go_enter Tryd.func54, Tryd.ntmps54
    go_wp2_with go_in
    go_ret
    exact ⟨-1, rfl, by omega, rfl⟩
  · by_cases h' : y < x
    · go_enter Tryd.func54, Tryd.ntmps54
      go_wp2_with go_in
      go_ret
      exact ⟨1, rfl, by omega, rfl⟩
    · go_enter Tryd.func54, Tryd.ntmps54
      go_wp2_with go_in
      go_ret
      exact ⟨0, rfl, by omega, rfl⟩

def cA (c : Cnd) : Value := .agg #[.int .i64 c.1, .int .i64 c.2.1, .bool c.2.2]
theorem cmp_any (a b : Cnd) (a0 : 0 ≤ a.2.1) (a1 : a.2.1 ≤ 100) (b0 : 0 ≤ b.2.1) (b1 : b.2.1 ≤ 100) (w : World) :
    Calls Tryd.prog 40 #[cA a, cA b] w fun e w' => ∃ r : Int, e = .returned (.int .i64 r) ∧ (r < 0 ↔ key b < key a) ∧ Still w w' := by
  obtain ⟨au, asc, at_⟩ := a
  obtain ⟨bu, bsc, bt⟩ := b
  simp only at a0 a1 b0 b1
  unfold cA key
  simp only
  rcases at_ with _ | _ <;> rcases bt with _ | _
  · go_enter Tryd.func40, Tryd.ntmps40
    go_wp2_with fail
    refine (compare_any _ _ _).mono ?_
    rintro e w1 ⟨r, rfl, hr, rfl⟩
    go_wp2_with fail
    go_ret
    exact ⟨r, rfl, by simp [hr], ((Only.refl _ w).alloc _).alloc _⟩
  · go_enter Tryd.func40, Tryd.ntmps40
    go_wp2_with fail
    go_ret
    exact ⟨-1, rfl, by simp; omega, ((Only.refl _ w).alloc _).alloc _⟩
  · go_enter Tryd.func40, Tryd.ntmps40
    go_wp2_with fail
    go_ret
    exact ⟨1, rfl, by simp; omega, ((Only.refl _ w).alloc _).alloc _⟩
  · go_enter Tryd.func40, Tryd.ntmps40
    go_wp2_with fail
    refine (compare_any _ _ _).mono ?_
    rintro e w1 ⟨r, rfl, hr, rfl⟩
    go_wp2_with fail
    go_ret
    exact ⟨r, rfl, by simp [hr], ((Only.refl _ w).alloc _).alloc _⟩

theorem cRow_at {l : List Cnd} {i : Nat} {c : Cnd} (h : l[i]? = some c) (j : Nat) (hj : j < 3) : (cRow l)[i * 3 + j]? = (cC c)[j]? := by
  unfold cRow
  rw [flatten_getElem? _ i j (by intro r hr; simp only [List.mem_map] at hr; obtain ⟨_, _, rfl⟩ := hr; rfl) hj, List.getElem?_map, h]
  rfl
theorem cRow_set : ∀ (l : List Cnd) (i : Nat) (c : Cnd), i < l.length → (((cRow l).set (i * 3) (.int .i64 c.1)).set (i * 3 + 1) (.int .i64 c.2.1)).set (i * 3 + 2) (.bool c.2.2) = cRow (l.set i c)
  | [], i, c, h => by simp at h
  | x :: l, 0, c, h => rfl
  | x :: l, i + 1, c, h => by
    have hi := cRow_set l i c (by simpa using h)
    have e : ∀ l : List Cnd, cRow (x :: l) = (.int .i64 x.1) :: (.int .i64 x.2.1) :: (.bool x.2.2) :: cRow l := fun _ => rfl
    rw [List.set_cons_succ, e, e, ← hi, show (i + 1) * 3 = i * 3 + 3 by omega, show i * 3 + 3 + 1 = (i * 3 + 1) + 3 by omega, show i * 3 + 3 + 2 = (i * 3 + 2) + 3 by omega]
    rfl

/-- A row of candidates in memory. -/
structure CR (w : World) (B b n c : Nat) (l : List Cnd) : Prop where
  own : w.ownsRow B 74 3 (.slice (some ⟨b, 0, none⟩) n c) n (cRow l)
  len : l.length = n
section
variable {w w' : World} {B b n c : Nat} {l : List Cnd} {S : Nat → Prop}
theorem CR.cells (h : CR w B b n c l) {i : Nat} (hi : i < n) :
    w.cell? ⟨b, i * 3, none⟩ = some (.int .i64 (cAt l i).1) ∧ w.cell? ⟨b, i * 3 + 1, none⟩ = some (.int .i64 (cAt l i).2.1) ∧ w.cell? ⟨b, i * 3 + 2, none⟩ = some (.bool (cAt l i).2.2) := by
  have hg := cAt_get (L := l) (k := i) (by rw [h.len]; exact hi)
  have hc : ∀ j, j < 3 → ∀ v, (cC (cAt l i))[j]? = some v → w.cell? ⟨b, i * 3 + j, none⟩ = some v := by
    intro j hj v hv
    have := h.own.cells (g := b) rfl (i * 3 + j) v ((cRow_at hg j hj).trans hv)
    have e : (⟨b, 0, none⟩ : Addr).add (i * 3 + j) = ⟨b, i * 3 + j, none⟩ := by unfold Addr.add; split <;> simp_all
    rwa [e] at this
  exact ⟨hc 0 (by omega) _ rfl, hc 1 (by omega) _ rfl, hc 2 (by omega) _ rfl⟩
theorem CR.only (h : CR w B b n c l) (ho : Only S w w') (hb : ¬ S b) : CR w' B b n c l :=
  ⟨own_only h.own ho (fun k hk => by simp [Value.ownBlock] at hk; subst hk; exact hb), h.len⟩
theorem CR.still (h : CR w B b n c l) (ho : Still w w') : CR w' B b n c l := h.only ho (fun h => h)
theorem CR.set_ (h : CR w B b n c l) {i : Nat} (hi : i < n) (x : Cnd) :
    CR (((w.setCell ⟨b, i * 3, none⟩ (.int .i64 x.1)).setCell ⟨b, i * 3 + 1, none⟩ (.int .i64 x.2.1)).setCell ⟨b, i * 3 + 2, none⟩ (.bool x.2.2)) B b n c (l.set i x) := by
  refine ⟨?_, by rw [List.length_set]; exact h.len⟩
  rw [← cRow_set l i x (by rw [h.len]; exact hi)]
  exact ((((h.own.stored (i * 3) _).1).stored (i * 3 + 1) _).1.stored (i * 3 + 2) _).1
theorem CR.frozen (h : CR w B b n c l) (i : Nat) : w.frozen? ⟨b, i, none⟩ = false := h.own.frozenAt i
end

/-- The scores are such as may be. -/
def cOK (l : List Cnd) : Prop := ∀ i, 0 ≤ (cAt l i).2.1 ∧ (cAt l i).2.1 ≤ 100
theorem cOK_swp {L : List Cnd} (h : cOK L) {j : Nat} (hj : j < L.length) (h1 : 1 ≤ j) : cOK (swpC L j) := by
  intro i
  rw [swpC_at hj h1]
  split
  · exact h _
  · split
    · exact h _
    · exact h _

set_option maxRecDepth 1000000 in
set_option maxHeartbeats 6400000 in
theorem inssort_any {w : World} {B b n c : Nat} {l : List Cnd} (h : CR w B b n c l) (hok : cOK l) (hn : n ≤ 20) :
    Calls Tryd.prog 58 #[.slice (some ⟨b, 0, none⟩) n c, .int .i64 0, .int .i64 n, .func (.func 40) #[] #[]] w fun e w' => e = .returned (.tuple #[]) ∧ CR w' B b n c (isrt l) ∧ Only (· = b) w w' := by
  go_enter Tryd.func58, Tryd.ntmps58
  go_wp2_with fail
  go_loopw [8, 9] (fun i _ wr => ∃ (k : Nat) (L : List Cnd), i = .int .i64 (k : Int) ∧ 1 ≤ k ∧ (k = 1 ∨ k ≤ n) ∧ CR wr B b n c L ∧ Hid (cOK L ∧ (∀ v, L.filter (fun c => decide (key c = v)) = l.filter (fun c => decide (key c = v))) ∧ ∀ a b, a < b → b < k → key (cAt L b) ≤ key (cAt L a)) ∧ Hid (Only (· = b) w wr)) (fun i _ _ => n - (intOf i).toNat)
  case atStart => exact ⟨1, l, rfl, Nat.le_refl _, Or.inl rfl, h, Lib.hid ⟨hok, fun _ => rfl, fun a b h1 h2 => by omega⟩, Lib.hid (Only.refl _ _)⟩
  case round =>
    obtain ⟨k, L, rfl, hk1, hk, hC, hL, hst⟩ := hrel
    by_cases hlt : k < n
    · have hlt' : (k : Int) < (n : Int) := by omega
      go_wp2_with fail
      go_loopw [9] (fun q wr => ∃ (j : Nat) (L : List Cnd), q = .int .i64 (j : Int) ∧ j ≤ k ∧ CR wr B b n c L ∧ Hid (cOK L ∧ (∀ v, L.filter (fun c => decide (key c = v)) = l.filter (fun c => decide (key c = v))) ∧ Under L k j) ∧ Hid (Only (· = b) w wr)) (fun q _ => (intOf q).toNat)
      case atStart => exact ⟨k, L, rfl, Nat.le_refl _, hC, Lib.hid ⟨hL.out.1, hL.out.2.1, under_up hL.out.2.2⟩, hst⟩
      case round =>
        clear hC hL hst
        obtain ⟨j, L, rfl, hj, hC, hL, hst⟩ := hrel
        by_cases hj0 : j = 0
        · subst hj0
          have d0 : decide ((0:Int) < 0) = false := by decide
          go_wp2_with fail
          refine wp_region_held_drew (S := fun w' => Still wr w') (by kernel_rfl) ((Only.refl (fun _ => False) wr).drew) (fun hS => ?_)
          (refine take_p (i := 0) (v := ?_) rfl (by kernel_rfl) (by kernel_rfl) (by kernel_rfl) (fun _ _ _ h => h) (Or.inl ⟨by rfl, ?_⟩) hS ?_; rotate_left; (focus (intro w0 hSw; go_simp; try with_reducible rfl)); try simp only [Act.put, List.setIfInBounds_toArray, List.set_cons_zero, List.set_cons_succ])
          (refine take_p (i := 1) (v := ?_) rfl (by kernel_rfl) (by kernel_rfl) (by kernel_rfl) (fun _ _ _ h => h) (Or.inl ⟨by rfl, ?_⟩) hS ?_; rotate_left; (focus (intro w0 hSw; go_simp; try with_reducible rfl)); try simp only [Act.put, List.setIfInBounds_toArray, List.set_cons_zero, List.set_cons_succ])
          (refine take_p (i := 2) (v := ?_) rfl (by kernel_rfl) (by kernel_rfl) (by kernel_rfl) (fun _ _ _ h => h) (Or.inl ⟨by rfl, ?_⟩) hS ?_; rotate_left; (focus (intro w0 hSw; go_simp; try with_reducible rfl)); try simp only [Act.put, List.setIfInBounds_toArray, List.set_cons_zero, List.set_cons_succ])
          (refine take_p (i := 3) (v := ?_) rfl (by kernel_rfl) (by kernel_rfl) (by kernel_rfl) (fun _ _ _ h => h) (Or.inl ⟨by rfl, ?_⟩) hS ?_; rotate_left; (focus (intro w0 hSw; go_simp; try with_reducible rfl)); try simp only [Act.put, List.setIfInBounds_toArray, List.set_cons_zero, List.set_cons_succ])
          (refine take_p (i := 4) (v := undef) rfl (by kernel_rfl) (by kernel_rfl) (by kernel_rfl) (fun _ _ _ h => h) (Or.inr ⟨by rfl, rfl⟩) hS ?_; try simp only [Act.put, List.setIfInBounds_toArray, List.set_cons_zero, List.set_cons_succ])
          (refine take_p (i := 5) (v := undef) rfl (by kernel_rfl) (by kernel_rfl) (by kernel_rfl) (fun _ _ _ h => h) (Or.inr ⟨by rfl, rfl⟩) hS ?_; try simp only [Act.put, List.setIfInBounds_toArray, List.set_cons_zero, List.set_cons_succ])
          (refine take_p (i := 6) (v := undef) rfl (by kernel_rfl) (by kernel_rfl) (by kernel_rfl) (fun _ _ _ h => h) (Or.inr ⟨by rfl, rfl⟩) hS ?_; try simp only [Act.put, List.setIfInBounds_toArray, List.set_cons_zero, List.set_cons_succ])
          (refine take_p (i := 7) (v := undef) rfl (by kernel_rfl) (by kernel_rfl) (by kernel_rfl) (fun _ _ _ h => h) (Or.inr ⟨by rfl, rfl⟩) hS ?_; try simp only [Act.put, List.setIfInBounds_toArray, List.set_cons_zero, List.set_cons_succ])
          (refine take_p (i := 8) (v := undef) rfl (by kernel_rfl) (by kernel_rfl) (by kernel_rfl) (fun _ _ _ h => h) (Or.inr ⟨by rfl, rfl⟩) hS ?_; try simp only [Act.put, List.setIfInBounds_toArray, List.set_cons_zero, List.set_cons_succ])
          (refine take_p (i := 9) (v := undef) rfl (by kernel_rfl) (by kernel_rfl) (by kernel_rfl) (fun _ _ _ h => h) (Or.inr ⟨by rfl, rfl⟩) hS ?_; try simp only [Act.put, List.setIfInBounds_toArray, List.set_cons_zero, List.set_cons_succ])
          (refine take_p (i := 10) (v := undef) rfl (by kernel_rfl) (by kernel_rfl) (by kernel_rfl) (fun _ _ _ h => h) (Or.inr ⟨by rfl, rfl⟩) hS ?_; try simp only [Act.put, List.setIfInBounds_toArray, List.set_cons_zero, List.set_cons_succ])
          (refine take_p (i := 11) (v := undef) rfl (by kernel_rfl) (by kernel_rfl) (by kernel_rfl) (fun _ _ _ h => h) (Or.inr ⟨by rfl, rfl⟩) hS ?_; try simp only [Act.put, List.setIfInBounds_toArray, List.set_cons_zero, List.set_cons_succ])
          (refine take_p (i := 12) (v := undef) rfl (by kernel_rfl) (by kernel_rfl) (by kernel_rfl) (fun _ _ _ h => h) (Or.inr ⟨by rfl, rfl⟩) hS ?_; try simp only [Act.put, List.setIfInBounds_toArray, List.set_cons_zero, List.set_cons_succ])
          (refine take_p (i := 13) (v := undef) rfl (by kernel_rfl) (by kernel_rfl) (by kernel_rfl) (fun _ _ _ h => h) (Or.inr ⟨by rfl, rfl⟩) hS ?_; try simp only [Act.put, List.setIfInBounds_toArray, List.set_cons_zero, List.set_cons_succ])
          (refine take_p (i := 14) (v := undef) rfl (by kernel_rfl) (by kernel_rfl) (by kernel_rfl) (fun _ _ _ h => h) (Or.inr ⟨by rfl, rfl⟩) hS ?_; try simp only [Act.put, List.setIfInBounds_toArray, List.set_cons_zero, List.set_cons_succ])
          (refine take_p (i := 15) (v := undef) rfl (by kernel_rfl) (by kernel_rfl) (by kernel_rfl) (fun _ _ _ h => h) (Or.inr ⟨by rfl, rfl⟩) hS ?_; try simp only [Act.put, List.setIfInBounds_toArray, List.set_cons_zero, List.set_cons_succ])
          (refine take_p (i := 16) (v := ?_) rfl (by kernel_rfl) (by kernel_rfl) (by kernel_rfl) (fun _ _ _ h => h) (Or.inl ⟨by rfl, ?_⟩) hS ?_; rotate_left; (focus (intro w0 hSw; go_simp; try with_reducible rfl)); try simp only [Act.put, List.setIfInBounds_toArray, List.set_cons_zero, List.set_cons_succ])
          refine wpAnyH_done (by kernel_rfl) ?_ _
          go_wp2_with fail
          go_roundw
          case rel => exact ⟨k + 1, L, by go_num, by omega, Or.inr (by omega), hC.still (Only.refl (fun _ => False) wr).drew, Lib.hid ⟨hL.out.1, hL.out.2.1, under_zero hL.out.2.2⟩, Lib.hid hst.out.drew⟩
          case measure => simp [intOf]; omega
        · obtain ⟨p, hp⟩ : ∃ p, j = p + 1 := ⟨j - 1, by omega⟩
          obtain ⟨x0, x1, x2⟩ := hC.cells (i := j) (by omega)
          obtain ⟨y0, y1, y2⟩ := hC.cells (i := p) (by omega)
          have ox := hL.out.1 j
          have oy := hL.out.1 p
          obtain ⟨X, hX⟩ : ∃ X, X = cAt L j := ⟨_, rfl⟩
          obtain ⟨Y, hY⟩ : ∃ Y, Y = cAt L p := ⟨_, rfl⟩
          rw [← hX] at x0 x1 x2 ox
          rw [← hY] at y0 y1 y2 oy
          obtain ⟨ox0, ox1⟩ := ox
          obtain ⟨oy0, oy1⟩ := oy
          have hpj : j - 1 = p := by omega
          have HX := Lib.hid hX
          have HY := Lib.hid hY
          have Hpj := Lib.hid hpj
          have hpn : j < n := by omega
          have hpn' : p < n := by omega
          have d1 : decide ((0:Int) < (j : Int)) = true := decide_eq_true (by omega)
          have d2 : decide (0 < j) = true := decide_eq_true (by omega)
          have i1 : (j : Int) < (n : Int) := by omega
          have i3 : (p : Int) < (n : Int) := by omega
          have e1 : (j : Int) - 1 = (p : Int) := by omega
          have ew : IntKind.i64.wrap (p : Int) = (p : Int) := IntWalk.i64_in _ (by omega)
          have HP := Lib.hid hp
          clear hX hY hj0 hp hpj
          go_wp2_with fail
          refine wp_region_held_drew (S := fun w' => Still wr w') (by kernel_rfl) ((Only.refl (fun _ => False) wr).drew) (fun hS => ?_)
          (refine take_p (i := 0) (v := ?_) rfl (by kernel_rfl) (by kernel_rfl) (by kernel_rfl) (fun _ _ _ h => h) (Or.inl ⟨by rfl, ?_⟩) hS ?_; rotate_left; (focus (intro w0 hSw; go_simp; try with_reducible rfl)); try simp only [Act.put, List.setIfInBounds_toArray, List.set_cons_zero, List.set_cons_succ])
          (refine take_p (i := 1) (v := ?_) rfl (by kernel_rfl) (by kernel_rfl) (by kernel_rfl) (fun _ _ _ h => h) (Or.inl ⟨by rfl, ?_⟩) hS ?_; rotate_left; (focus (intro w0 hSw; go_simp; try with_reducible rfl)); try simp only [Act.put, List.setIfInBounds_toArray, List.set_cons_zero, List.set_cons_succ])
          (refine take_p (i := 2) (v := ?_) rfl (by kernel_rfl) (by kernel_rfl) (by kernel_rfl) (fun _ _ _ h => h) (Or.inl ⟨by rfl, ?_⟩) hS ?_; rotate_left; (focus (intro w0 hSw; go_simp; try with_reducible rfl)); try simp only [Act.put, List.setIfInBounds_toArray, List.set_cons_zero, List.set_cons_succ])
          (refine take_p (i := 3) (v := ?_) rfl (by kernel_rfl) (by kernel_rfl) (by kernel_rfl) (fun _ _ _ h => h) (Or.inl ⟨by rfl, ?_⟩) hS ?_; rotate_left; (focus (intro w0 hSw; go_simp; try with_reducible rfl)); try simp only [Act.put, List.setIfInBounds_toArray, List.set_cons_zero, List.set_cons_succ])
          (refine take_p (i := 4) (v := ?_) rfl (by kernel_rfl) (by kernel_rfl) (by kernel_rfl) (fun _ _ _ h => h) (Or.inl ⟨by rfl, ?_⟩) hS ?_; rotate_left; (focus (intro w0 hSw; go_simp; try with_reducible rfl)); try simp only [Act.put, List.setIfInBounds_toArray, List.set_cons_zero, List.set_cons_succ])
          (refine take_p (i := 5) (v := ?_) rfl (by kernel_rfl) (by kernel_rfl) (by kernel_rfl) (fun _ _ _ h => h) (Or.inl ⟨by rfl, ?_⟩) hS ?_; rotate_left; (focus (intro w0 hSw; go_simp; try with_reducible rfl)); try simp only [Act.put, List.setIfInBounds_toArray, List.set_cons_zero, List.set_cons_succ])
          (refine take_p (i := 6) (v := ?_) rfl (by kernel_rfl) (by kernel_rfl) (by kernel_rfl) (fun _ _ _ h => h) (Or.inl ⟨by rfl, ?_⟩) hS ?_; rotate_left; (focus (intro w0 hSw; go_simp; try with_reducible rfl)); try simp only [Act.put, List.setIfInBounds_toArray, List.set_cons_zero, List.set_cons_succ])
          (refine take_p (i := 7) (v := ?_) rfl (by kernel_rfl) (by kernel_rfl) (by kernel_rfl) (fun _ _ _ h => h) (Or.inl ⟨by rfl, ?_⟩) hS ?_; rotate_left; (focus (intro w0 hSw; go_simp; try with_reducible rfl)); try simp only [Act.put, List.setIfInBounds_toArray, List.set_cons_zero, List.set_cons_succ])
          refine take_p (i := 8) (v := .agg ([.int .i64 X.1, .int .i64 X.2.1, .bool X.2.2] : List Value).toArray) rfl (by kernel_rfl) (by kernel_rfl) (by kernel_rfl) (fun _ _ _ h => h) ?_ hS ?_
          · exact yieldsIf_load_at rfl 74 (.tmp 25) rfl b (j * 3) rfl [.int .i64 X.1, .int .i64 X.2.1, .bool X.2.2] _ (fun _ hSw j v hv => hSw.cell_some (fun h => h) ((cells3 x0 x1 x2) j v hv)) Tryd.underlying74 rfl (by kernel_rfl)
          try simp only [Act.put, List.setIfInBounds_toArray, List.set_cons_zero, List.set_cons_succ]
          (refine take_p (i := 9) (v := ?_) rfl (by kernel_rfl) (by kernel_rfl) (by kernel_rfl) (fun _ _ _ h => h) (Or.inl ⟨by rfl, ?_⟩) hS ?_; rotate_left; (focus (intro w0 hSw; go_simp; try with_reducible rfl)); try simp only [Act.put, List.setIfInBounds_toArray, List.set_cons_zero, List.set_cons_succ])
          (refine take_p (i := 10) (v := ?_) rfl (by kernel_rfl) (by kernel_rfl) (by kernel_rfl) (fun _ _ _ h => h) (Or.inl ⟨by rfl, ?_⟩) hS ?_; rotate_left; (focus (intro w0 hSw; go_simp; try with_reducible rfl)); try simp only [Act.put, List.setIfInBounds_toArray, List.set_cons_zero, List.set_cons_succ])
          (refine take_p (i := 11) (v := ?_) rfl (by kernel_rfl) (by kernel_rfl) (by kernel_rfl) (fun _ _ _ h => h) (Or.inl ⟨by rfl, ?_⟩) hS ?_; rotate_left; (focus (intro w0 hSw; go_simp; try with_reducible rfl)); try simp only [Act.put, List.setIfInBounds_toArray, List.set_cons_zero, List.set_cons_succ])
          (refine take_p (i := 12) (v := ?_) rfl (by kernel_rfl) (by kernel_rfl) (by kernel_rfl) (fun _ _ _ h => h) (Or.inl ⟨by rfl, ?_⟩) hS ?_; rotate_left; (focus (intro w0 hSw; go_simp; try with_reducible rfl)); try simp only [Act.put, List.setIfInBounds_toArray, List.set_cons_zero, List.set_cons_succ])
          refine take_p (i := 13) (v := .agg ([.int .i64 Y.1, .int .i64 Y.2.1, .bool Y.2.2] : List Value).toArray) rfl (by kernel_rfl) (by kernel_rfl) (by kernel_rfl) (fun _ _ _ h => h) ?_ hS ?_
          · exact yieldsIf_load_at rfl 74 (.tmp 30) rfl b (p * 3) rfl [.int .i64 Y.1, .int .i64 Y.2.1, .bool Y.2.2] _ (fun _ hSw j v hv => hSw.cell_some (fun h => h) ((cells3 y0 y1 y2) j v hv)) Tryd.underlying74 rfl (by kernel_rfl)
          try simp only [Act.put, List.setIfInBounds_toArray, List.set_cons_zero, List.set_cons_succ]
          refine wpAnyH_ready (rs := [14]) (by kernel_rfl) (by simp) ?_
          refine cons_p rfl (fun K hK => ?_) AllReadyH.nil
          go_simp
          refine (cmp_any X Y (by omega) (by omega) (by omega) (by omega) _).mono ?_
          rintro e w9 ⟨r, rfl, hr, hs9⟩
          have hS' := ((Only.refl (fun _ => False) wr).drew).still hs9
          refine hK.out _ _ hS' (fun hHeld => ?_)
          clear hK K hHeld hS
          have hS := hS'
          try simp only [Act.put, List.setIfInBounds_toArray, List.set_cons_zero, List.set_cons_succ]
          (refine take_p (i := 15) (v := ?_) rfl (by kernel_rfl) (by kernel_rfl) (by kernel_rfl) (fun _ _ _ h => h) (Or.inl ⟨by rfl, ?_⟩) hS ?_; rotate_left; (focus (intro w0 hSw; go_simp; try with_reducible rfl)); try simp only [Act.put, List.setIfInBounds_toArray, List.set_cons_zero, List.set_cons_succ])
          (refine take_p (i := 16) (v := ?_) rfl (by kernel_rfl) (by kernel_rfl) (by kernel_rfl) (fun _ _ _ h => h) (Or.inl ⟨by rfl, ?_⟩) hS ?_; rotate_left; (focus (intro w0 hSw; go_simp; try with_reducible rfl)); try simp only [Act.put, List.setIfInBounds_toArray, List.set_cons_zero, List.set_cons_succ])
          refine wpAnyH_done (by kernel_rfl) ?_ _
          have hC9 := hC.still hS
          have hst9 := hst.out.still hS
          by_cases hr0 : r < 0
          · have hkey := hr.1 hr0
            have Hr := Lib.hid hr
            obtain ⟨x0, x1, x2⟩ := hC9.cells (i := j) hpn
            obtain ⟨y0, y1, y2⟩ := hC9.cells (i := p) hpn'
            rw [← HX.out] at x0 x1 x2
            rw [← HY.out] at y0 y1 y2
            clear hS hs9 hC hst hr
            have f0 := hC9.frozen (j * 3)
            have f1 := hC9.frozen (j * 3 + 1)
            have f2 := hC9.frozen (j * 3 + 2)
            have f3 := hC9.frozen (p * 3)
            have f4 := hC9.frozen (p * 3 + 1)
            have f5 := hC9.frozen (p * 3 + 2)
            go_wp2_with fail
            go_region
            generalize hW : ((((((w9.setCell ⟨b, j * 3, none⟩ (.int .i64 Y.1)).setCell ⟨b, j * 3 + 1, none⟩ (.int .i64 Y.2.1)).setCell ⟨b, j * 3 + 2, none⟩ (.bool Y.2.2)).setCell ⟨b, p * 3, none⟩ (.int .i64 X.1)).setCell ⟨b, p * 3 + 1, none⟩ (.int .i64 X.2.1)).setCell ⟨b, p * 3 + 2, none⟩ (.bool X.2.2)).drew = wz
            go_wp2_with fail
            go_roundw
            case rel =>
              subst hW
              have hjL : j < L.length := by rw [hC9.len]; exact hpn
              have hp1 : 1 ≤ j := by have := HP.out; omega
              have hk' : key (cAt L (j - 1)) < key (cAt L j) := by rw [Hpj.out, ← HX.out, ← HY.out]; exact hkey
              have h1 := (hC9.set_ hpn Y).set_ hpn' X
              have h2 : Only (· = b) w9 (((((((w9.setCell ⟨b, j * 3, none⟩ (.int .i64 Y.1)).setCell ⟨b, j * 3 + 1, none⟩ (.int .i64 Y.2.1)).setCell ⟨b, j * 3 + 2, none⟩ (.bool Y.2.2)).setCell ⟨b, p * 3, none⟩ (.int .i64 X.1)).setCell ⟨b, p * 3 + 1, none⟩ (.int .i64 X.2.1)).setCell ⟨b, p * 3 + 2, none⟩ (.bool X.2.2)).drew) :=
                (((((((Only.refl (· = b) w9).setCell (p := ⟨b, j * 3, none⟩) (.inl rfl) _).setCell (p := ⟨b, j * 3 + 1, none⟩) (.inl rfl) _).setCell (p := ⟨b, j * 3 + 2, none⟩) (.inl rfl) _).setCell (p := ⟨b, p * 3, none⟩) (.inl rfl) _).setCell (p := ⟨b, p * 3 + 1, none⟩) (.inl rfl) _).setCell (p := ⟨b, p * 3 + 2, none⟩) (.inl rfl) _).drew
              have h3 : (L.set j Y).set p X = swpC L j := by unfold swpC; rw [Hpj.out, ← HX.out, ← HY.out]
              rw [h3] at h1
              exact ⟨p, swpC L j, rfl, by omega, h1.still (Only.refl (fun _ => False) _).drew, Lib.hid ⟨cOK_swp hL.out.1 hjL hp1, fun v => (swpC_row hjL hp1 hk' v).trans (hL.out.2.1 v), by have := under_next hL.out.2.2 hjL hp1 hk'; rwa [Hpj.out] at this⟩, Lib.hid (hst9.trans h2 (fun _ _ h => h))⟩
            case measure => have := HP.out; simp [intOf]; omega
          · have hkey : ¬ key Y < key X := fun h => hr0 (hr.2 h)
            have Hkey := Lib.hid hkey
            go_wp2_with fail
            go_roundw
            case rel => exact ⟨k + 1, L, by go_num, by omega, Or.inr (by omega), hC9, Lib.hid ⟨hL.out.1, hL.out.2.1, under_end hL.out.2.2 (by have := HP.out; omega) (by rw [Hpj.out, ← HX.out, ← HY.out]; exact Hkey.out)⟩, Lib.hid hst9⟩
            case measure => simp [intOf]; omega
    · have hlt' : ¬ (k : Int) < (n : Int) := by omega
      have hfin : L = isrt l := done_eq (l := l) (L := L) hL.out.2.1 (fun a b h1 h2 => hL.out.2.2 a b h1 (by have := hC.len; omega))
      have Hfin := Lib.hid hfin
      clear hfin
      go_wp2_with fail
      go_end0
      exact ⟨rfl, Hfin.out ▸ hC, hst.out⟩

set_option maxRecDepth 1000000 in
set_option maxHeartbeats 6400000 in
theorem stable_any {w : World} {B b n c : Nat} {l : List Cnd} (h : CR w B b n c l) (hok : cOK l) (hn : n < 20) :
    Calls Tryd.prog 53 #[.slice (some ⟨b, 0, none⟩) n c, .int .i64 n, .func (.func 40) #[] #[]] w fun e w' => e = .returned (.tuple #[]) ∧ CR w' B b n c (isrt l) ∧ Only (· = b) w w' := by
  have h1 : ¬ (20 : Int) ≤ (n : Int) := by omega
  have h2 : ¬ (20 : Int) < (n : Int) := by omega
  go_enter Tryd.func53, Tryd.ntmps53
  go_wp2_with fail
  go_loopw [7, 8] (fun a b wr => a = .int .i64 0 ∧ b = .int .i64 20 ∧ wr = w) (fun _ _ _ => 0)
  case atStart => exact ⟨rfl, rfl, rfl⟩
  case round =>
    obtain ⟨rfl, rfl, rfl⟩ := hrel
    go_wp2_with fail
    refine (inssort_any h hok (by omega)).mono ?_
    rintro e w1 ⟨rfl, hC, ho⟩
    go_wp2_with fail
    go_loopw [6, 7, 8, 9] (fun a _ _ _ wr => a = .int .i64 20 ∧ wr = w1) (fun _ _ _ _ _ => 0)
    case atStart => exact ⟨rfl, rfl⟩
    case round =>
      obtain ⟨rfl, rfl⟩ := hrel
      go_wp2_with fail
      go_end0
      exact ⟨rfl, hC, ho⟩

theorem sort_any {w : World} {B b n c : Nat} {l : List Cnd} (h : CR w B b n c l) (hok : cOK l) (hn : n < 20) :
    Calls Tryd.prog 39 #[.slice (some ⟨b, 0, none⟩) n c, .func (.func 40) #[] #[]] w fun e w' => e = .returned (.tuple #[]) ∧ CR w' B b n c (isrt l) ∧ Only (· = b) w w' := by
  go_enter Tryd.func39, Tryd.ntmps39
  go_wp2_with fail
  refine (stable_any h hok hn).mono ?_
  rintro e w1 ⟨rfl, hC, ho⟩
  go_wp2_with fail
  go_end0
  exact ⟨rfl, hC, ho⟩
end Go.Proofs.YtdcogjlcbdkdcaaDoor
