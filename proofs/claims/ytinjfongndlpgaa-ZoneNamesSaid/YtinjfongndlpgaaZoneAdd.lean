/-
  Package zone: a table of maps; a zone is put into it.
-/
import Derived.Test.YtinjfongndlpgaaZoneMath
import Derived.Test.YtinjfongndlpgaaNameS
import Derived.Test.YtinjfongndlpgaaTake
import Derived.Test.YtinjfongndlpgaaRowW
import Derived.Deep.RegionHeld3
import Derived.Maps.OwnSet
import Derived.StillTailTactics
namespace Go.Proofs.Ytinjfongndlpgaa
open Go.RowKit
open Go.Maps (Keyed)
set_option linter.unusedVariables false
set_option linter.unusedSimpArgs false

theorem klaw_int : Keyed Try.prog 3 := Maps.int_keyed Try.underlying3
theorem klaw_str : Keyed Try.prog 9 := Maps.string_keyed Try.underlying9
theorem zero_in (w : World) : (zeroValue 58).run Try.prog w = .ok (.map none) w := by kernel_rfl
theorem zero_zn (w : World) : (zeroValue 35).run Try.prog w = .ok (.agg #[.string ⟨#[]⟩, .int .u8 0, .int .u16 0]) w := by kernel_rfl
abbrev zNo : Value := .agg #[.string ⟨#[]⟩, .int .u8 0, .int .u16 0]

theorem eql_some (b : Nat) (w : World) : (binOp .eql 58 (.map (some b)) (.map none)).run Try.prog w = .ok (.bool false) w := by kernel_rfl
theorem eql_none (w : World) : (binOp .eql 58 (.map none) (.map none)).run Try.prog w = .ok (.bool true) w := by kernel_rfl

structure TabB (w : World) (base t bo no : Nat) (β : Nat → Nat) (Z : List Zn) : Prop where
  ht : base ≤ t
  hb : base ≤ bo
  blk : Blk w t 43 #[.map (some bo)]
  hn : no ≤ Z.length
  out : MapIs w Try.prog 3 bo no (outAt Z β)
  inn : ∀ L, hasL Z L = true → base ≤ β L ∧ β L ≠ bo ∧ MapIs w Try.prog 9 (β L) (cntL Z L) (inAt Z L)
  inj : ∀ L L', hasL Z L = true → hasL Z L' = true → β L = β L' → L = L'
def Tab (w : World) (base t : Nat) (Z : List Zn) : Prop := ∃ bo no β, TabB w base t bo no β Z

theorem blk_map_ne {w : World} {t b n : Nat} {T k : TypeId} {cs : Array Value} {M : Lit → Option Value} (h : Blk w t T cs) (m : MapIs w Try.prog k b n M) : t ≠ b := by
  rintro rfl
  obtain ⟨D, ⟨es, clock, hb, _⟩, _⟩ := m
  unfold Blk at h
  rw [h] at hb
  cases hb
section
variable {w w' : World} {base t bo no : Nat} {β : Nat → Nat} {Z : List Zn}
theorem TabB.only {S : Nat → Prop} (h : TabB w base t bo no β Z) (o : Only S w w') (hS : ∀ i, base ≤ i → ¬ S i) : TabB w' base t bo no β Z :=
  ⟨h.ht, h.hb, h.blk.only o (hS _ h.ht), h.hn, h.out.only o (hS _ h.hb), fun L hL => ⟨(h.inn L hL).1, (h.inn L hL).2.1, (h.inn L hL).2.2.only o (hS _ (h.inn L hL).1)⟩, h.inj⟩
theorem TabB.still (h : TabB w base t bo no β Z) (o : Still w w') : TabB w' base t bo no β Z := h.only o (fun _ _ h => h)
theorem Tab.still (h : Tab w base t Z) (o : Still w w') : Tab w' base t Z := by
  obtain ⟨bo, no, β, h⟩ := h
  exact ⟨bo, no, β, h.still o⟩
theorem Tab.lower (h : Tab w base t Z) {b : Nat} (hb : b ≤ base) : Tab w b t Z := by
  obtain ⟨bo, no, β, h⟩ := h
  exact ⟨bo, no, β, by have := h.ht; omega, by have := h.hb; omega, h.blk, h.hn, h.out, fun L hL => ⟨by have := (h.inn L hL).1; omega, (h.inn L hL).2⟩, h.inj⟩
theorem TabB.look_out (h : TabB w base t bo no β Z) {L : Nat} (hL : L ≤ 1000) :
    (Instr.lookup 41 (.map (some bo)) (.int .i64 L) false).run Try.prog w = .ok (.map (if hasL Z L = true then some (β L) else none)) w := by
  have := h.out.look klaw_int Try.underlying41 (zero_in w) (key_int Try.underlying3 (n := L) (by unfold maxLen; omega)) false
  rw [outAt_nat] at this
  rw [this]
  by_cases e : hasL Z L = true
  · rw [if_pos e, if_pos e]; rfl
  · rw [if_neg e, if_neg e]; rfl
theorem TabB.look_in (h : TabB w base t bo no β Z) {s : ByteArray} (hs : s.size ≤ 30000) :
    (Instr.lookup 58 (.map (if hasL Z (nl s) = true then some (β (nl s)) else none)) (.string s) true).run Try.prog w = .ok (.tuple #[((ofN Z s).map zV).getD zNo, .bool (hasN Z s)]) w := by
  by_cases e : hasL Z (nl s) = true
  · have := (h.inn _ e).2.2.look klaw_str Try.underlying58 (zero_zn w) (key_str Try.underlying9 (s := s) (by unfold maxLen; omega)) true
    rw [inAt_nl] at this
    rw [if_pos e, this, Option.isSome_map, ofN_has]
    rfl
  · have e' : hasL Z (nl s) = false := by simpa using e
    rw [if_neg e, Maps.look_nil true klaw_str Try.underlying58 (zero_zn w) (key_str Try.underlying9 (s := s) (by unfold maxLen; omega)), ← ofN_has, ofN_noL e']
    rfl
theorem TabB.look_no (h : TabB w base t bo no β Z) {s : ByteArray} (hs : s.size ≤ 30000) (hN : ofN Z s = none) :
    (Instr.lookup 58 (.map (if hasL Z (nl s) = true then some (β (nl s)) else none)) (.string s) true).run Try.prog w = .ok (.tuple #[.agg #[.string ⟨#[]⟩, .int .u8 0, .int .u16 0], .bool false]) w := by
  rw [h.look_in hs, ← ofN_has, hN]; rfl
theorem TabB.look_yes (h : TabB w base t bo no β Z) {s : ByteArray} {y : Zn} (hs : s.size ≤ 30000) (hN : ofN Z s = some y) :
    (Instr.lookup 58 (.map (if hasL Z (nl s) = true then some (β (nl s)) else none)) (.string s) true).run Try.prog w = .ok (.tuple #[.agg #[.string y.nm, .int .u8 y.pol, .int .u16 y.tr], .bool true]) w := by
  rw [h.look_in hs, ← ofN_has, hN]; rfl
theorem look_old (h : MapIs w Try.prog 3 bo no (outAt Z β)) {L : Nat} (e : hasL Z L = true) (hL : L ≤ 1000) :
    (Instr.lookup 41 (.map (some bo)) (.int .i64 L) false).run Try.prog w = .ok (.map (some (β L))) w := by
  have := h.look klaw_int Try.underlying41 (zero_in w) (key_int Try.underlying3 (n := L) (by unfold maxLen; omega)) false
  rw [outAt_nat, if_pos e] at this
  exact this
theorem look_new {M : Lit → Option Value} {L g : Nat} (h : MapIs w Try.prog 3 bo no (upd M (.int .i64 L) (.map (some g)))) (hL : L ≤ 1000) :
    (Instr.lookup 41 (.map (some bo)) (.int .i64 L) false).run Try.prog w = .ok (.map (some g)) w := by
  have := h.look klaw_int Try.underlying41 (zero_in w) (key_int Try.underlying3 (n := L) (by unfold maxLen; omega)) false
  have e : upd M (.int .i64 L) (.map (some g)) (.int .i64 L) = some (.map (some g)) := by unfold upd; rw [if_pos (WideAt.sameKey_self (by trivial))]
  rw [e] at this
  exact this
theorem TabB.put_old {z : Zn} (h : TabB w base t bo no β Z) (hN : hasN Z z.nm = false) (hL : hasL Z (nl z.nm) = true)
    (hm : MapIs w' Try.prog 9 (β (nl z.nm)) (cntL Z (nl z.nm) + 1) (upd (inAt Z (nl z.nm)) (.string z.nm.data.toList) (zV z))) (ho : Only (· = β (nl z.nm)) w w') : TabB w' base t bo no β (Z ++ [z]) := by
  obtain ⟨i1, i2, i3⟩ := h.inn _ hL
  have hasE : ∀ L, hasL (Z ++ [z]) L = true → hasL Z L = true := fun L hh => by
    rw [hasL_app, Bool.or_eq_true] at hh
    rcases hh with hh | hh
    · exact hh
    · rw [← of_decide_eq_true hh]; exact hL
  refine ⟨h.ht, h.hb, h.blk.only ho (blk_map_ne h.blk i3), by rw [List.length_append]; have := h.hn; omega, (h.out.only ho (Ne.symm i2)).turn (outAt_keep hL β), fun L hh => ?_, fun L L' hh hh' e => h.inj L L' (hasE L hh) (hasE L' hh') e⟩
  obtain ⟨j1, j2, j3⟩ := h.inn L (hasE L hh)
  refine ⟨j1, j2, ?_⟩
  by_cases e : nl z.nm = L
  · subst e
    rw [cntL_app, if_pos rfl]
    exact hm.turn (inAt_put hN)
  · rw [cntL_app, if_neg e]
    exact (j3.only ho (fun e' => e (h.inj _ _ hL (hasE L hh) e'.symm))).turn (inAt_keep Z e)
theorem TabB.put_new {z : Zn} {g : Nat} (h : TabB w base t bo no β Z) (hL : hasL Z (nl z.nm) = false) (hb : base ≤ w.heap.size) (hg : w.heap.size ≤ g)
    (hout : MapIs w' Try.prog 3 bo (no + 1) (upd (outAt Z β) (.int .i64 (nl z.nm)) (.map (some g))))
    (hm : MapIs w' Try.prog 9 g 1 (upd (fun _ => none) (.string z.nm.data.toList) (zV z))) (ho : Only (fun i => i = bo ∨ i = g) w w') :
    TabB w' base t bo (no + 1) (fun L => if L = nl z.nm then g else β L) (Z ++ [z]) := by
  have hbo := h.out.lt
  have hN : hasN Z z.nm = false := by
    rw [← ofN_has, ofN_noL hL]; rfl
  have hasE : ∀ L, L ≠ nl z.nm → hasL (Z ++ [z]) L = true → hasL Z L = true := fun L hne hh => by
    rw [hasL_app, Bool.or_eq_true] at hh
    rcases hh with hh | hh
    · exact hh
    · exact absurd (of_decide_eq_true hh).symm hne
  have hlt : ∀ L, hasL Z L = true → β L < g := fun L hh => by have := (h.inn L hh).2.2.lt; omega
  have htn := h.blk.lt
  refine ⟨h.ht, h.hb, h.blk.only ho (fun e => e.elim (blk_map_ne h.blk h.out) (fun e => by omega)), by rw [List.length_append]; have := h.hn; simp; omega, hout.turn (outAt_put Z z β g), fun L hh => ?_, fun L L' hh hh' e => ?_⟩
  · by_cases e : L = nl z.nm
    · subst e
      simp only [if_true]
      refine ⟨by omega, by omega, ?_⟩
      rw [cntL_app, if_pos rfl, cntL_zero hL]
      refine hm.turn (fun kl => ?_)
      rw [← inAt_put hN kl]
      unfold upd
      rw [inAt_zero hL]
    · simp only [if_neg e]
      obtain ⟨j1, j2, j3⟩ := h.inn L (hasE L e hh)
      refine ⟨j1, j2, ?_⟩
      have e' : ¬ nl z.nm = L := fun x => e x.symm
      rw [cntL_app, if_neg e']
      exact (j3.only ho (fun x => x.elim j2 (fun x => by have := hlt L (hasE L e hh); omega))).turn (inAt_keep Z e')
  · by_cases a : L = nl z.nm <;> by_cases b : L' = nl z.nm
    · rw [a, b]
    · simp only [if_pos a, if_neg b] at e
      have := hlt L' (hasE L' b hh')
      omega
    · simp only [if_neg a, if_pos b] at e
      have := hlt L (hasE L a hh)
      omega
    · simp only [if_neg a, if_neg b] at e
      exact h.inj L L' (hasE L a hh) (hasE L' b hh') e
end

set_option maxRecDepth 1000000 in
set_option maxHeartbeats 6400000 in
theorem add_any (w : World) (base t : Nat) (Z : List Zn) (z : Zn) (hT : Tab w base t Z) (hb : base ≤ w.heap.size) (hZ : Z.length ≤ 16) (hz : z.nm.size ≤ 30000) (hp : z.pol < 256) (ht : z.tr < 65536) :
    Calls Try.prog 21 #[.pointer (some ⟨t, 0, none⟩), zV z] w fun e w' =>
      e = .returned (.int .i64 (add1 Z z : Nat)) ∧ Tab w' base t (if add1 Z z = 0 then Z ++ [z] else Z) ∧ Only (fun i => base ≤ i) w w' := by
  obtain ⟨bo, no, β, hB⟩ := hT
  obtain ⟨r, hr⟩ : ∃ r, r = add1 Z z := ⟨_, rfl⟩
  obtain ⟨Z', hZ'⟩ : ∃ Z', Z' = if r = 0 then Z ++ [z] else Z := ⟨_, rfl⟩
  rw [← hr, ← hZ']
  have HR := Lib.hid hr
  have HZ := Lib.hid hZ'
  clear hr hZ'
  unfold zV
  go_enter Try.func21, Try.ntmps21
  have hs0 := Still.new w (.cells #[.string z.nm, .int .u8 z.pol, .int .u16 z.tr] 35)
  have hx0 := Blk.new w 35 #[.string z.nm, .int .u8 z.pol, .int .u16 z.tr]
  have hB0 := hB.still hs0
  go_wp2_with fail
  generalize w.alloc (.cells #[.string z.nm, .int .u8 z.pol, .int .u16 z.tr] 35) = w0 at *
  generalize w.heap.size = q at *
  have x0 := hx0.cell 0
  have x1 := hx0.cell 1
  have x2 := hx0.cell 2
  simp at x0 x1 x2
  have hS0 : Only (fun i => base ≤ i) w w0 := Only.of_still hs0 _
  rcases hma : mayN z.nm.data.toList with _ | _
  · skip
    refine wp_region_held_drew (S := fun w' => Still w0.drew w') (by kernel_rfl) (Only.refl _ _) (fun hS => ?_)
    (refine take_p (i := 0) (v := ?_) rfl (by kernel_rfl) (by kernel_rfl) (by kernel_rfl) (fun _ _ _ h => h) (Or.inl ⟨by rfl, ?_⟩) hS ?_; rotate_left; (focus (intro w0_ hSw; go_simp; try with_reducible rfl)); try simp only [Act.put, List.setIfInBounds_toArray, List.set_cons_zero, List.set_cons_succ])
    (refine take_p (i := 1) (v := ?_) rfl (by kernel_rfl) (by kernel_rfl) (by kernel_rfl) (fun _ _ _ h => h) (Or.inl ⟨by rfl, ?_⟩) hS ?_; rotate_left; (focus (intro w0_ hSw; have z0_ := hSw.cell_some (fun h => h) x0; go_simp; try with_reducible rfl)); try simp only [Act.put, List.setIfInBounds_toArray, List.set_cons_zero, List.set_cons_succ])
    refine wpAnyH_ready (rs := [2]) (by kernel_rfl) (by simp) ?_
    refine cons_p rfl (fun K_ hK => ?_) AllReadyH.nil
    go_simp
    refine (may_s z.nm hz _).mono ?_
    rintro e w6 ⟨rfl, hs6⟩
    rw [hma]
    refine hK.out _ _ (hS.still hs6) (fun hHeld => ?_)
    replace hS := hS.still hs6
    clear hK K_ hHeld hs6
    try simp only [Act.put, List.setIfInBounds_toArray, List.set_cons_zero, List.set_cons_succ]
    (refine take_p (i := 3) (v := ?_) rfl (by kernel_rfl) (by kernel_rfl) (by kernel_rfl) (fun _ _ _ h => h) (Or.inl ⟨by rfl, ?_⟩) hS ?_; rotate_left; (focus (intro w0_ hSw; go_simp; try with_reducible rfl)); try simp only [Act.put, List.setIfInBounds_toArray, List.set_cons_zero, List.set_cons_succ])
    (refine take_p (i := 4) (v := ?_) rfl (by kernel_rfl) (by kernel_rfl) (by kernel_rfl) (fun _ _ _ h => h) (Or.inl ⟨by rfl, ?_⟩) hS ?_; rotate_left; (focus (intro w0_ hSw; go_simp; try with_reducible rfl)); try simp only [Act.put, List.setIfInBounds_toArray, List.set_cons_zero, List.set_cons_succ])
    (refine take_p (i := 5) (v := undef) rfl (by kernel_rfl) (by kernel_rfl) (by kernel_rfl) (fun _ _ _ h => h) (Or.inr ⟨by rfl, rfl⟩) hS ?_; try simp only [Act.put, List.setIfInBounds_toArray, List.set_cons_zero, List.set_cons_succ])
    (refine take_p (i := 6) (v := undef) rfl (by kernel_rfl) (by kernel_rfl) (by kernel_rfl) (fun _ _ _ h => h) (Or.inr ⟨by rfl, rfl⟩) hS ?_; try simp only [Act.put, List.setIfInBounds_toArray, List.set_cons_zero, List.set_cons_succ])
    (refine take_p (i := 7) (v := undef) rfl (by kernel_rfl) (by kernel_rfl) (by kernel_rfl) (fun _ _ _ h => h) (Or.inr ⟨by rfl, rfl⟩) hS ?_; try simp only [Act.put, List.setIfInBounds_toArray, List.set_cons_zero, List.set_cons_succ])
    (refine take_p (i := 8) (v := undef) rfl (by kernel_rfl) (by kernel_rfl) (by kernel_rfl) (fun _ _ _ h => h) (Or.inr ⟨by rfl, rfl⟩) hS ?_; try simp only [Act.put, List.setIfInBounds_toArray, List.set_cons_zero, List.set_cons_succ])
    (refine take_p (i := 9) (v := undef) rfl (by kernel_rfl) (by kernel_rfl) (by kernel_rfl) (fun _ _ _ h => h) (Or.inr ⟨by rfl, rfl⟩) hS ?_; try simp only [Act.put, List.setIfInBounds_toArray, List.set_cons_zero, List.set_cons_succ])
    (refine take_p (i := 10) (v := undef) rfl (by kernel_rfl) (by kernel_rfl) (by kernel_rfl) (fun _ _ _ h => h) (Or.inr ⟨by rfl, rfl⟩) hS ?_; try simp only [Act.put, List.setIfInBounds_toArray, List.set_cons_zero, List.set_cons_succ])
    (refine take_p (i := 11) (v := ?_) rfl (by kernel_rfl) (by kernel_rfl) (by kernel_rfl) (fun _ _ _ h => h) (Or.inl ⟨by rfl, ?_⟩) hS ?_; rotate_left; (focus (intro w0_ hSw; go_simp; try with_reducible rfl)); try simp only [Act.put, List.setIfInBounds_toArray, List.set_cons_zero, List.set_cons_succ])
    (refine take_p (i := 12) (v := ?_) rfl (by kernel_rfl) (by kernel_rfl) (by kernel_rfl) (fun _ _ _ h => h) (Or.inl ⟨by rfl, ?_⟩) hS ?_; rotate_left; (focus (intro w0_ hSw; go_simp; try with_reducible rfl)); try simp only [Act.put, List.setIfInBounds_toArray, List.set_cons_zero, List.set_cons_succ])
    (refine take_p (i := 13) (v := undef) rfl (by kernel_rfl) (by kernel_rfl) (by kernel_rfl) (fun _ _ _ h => h) (Or.inr ⟨by rfl, rfl⟩) hS ?_; try simp only [Act.put, List.setIfInBounds_toArray, List.set_cons_zero, List.set_cons_succ])
    (refine take_p (i := 14) (v := undef) rfl (by kernel_rfl) (by kernel_rfl) (by kernel_rfl) (fun _ _ _ h => h) (Or.inr ⟨by rfl, rfl⟩) hS ?_; try simp only [Act.put, List.setIfInBounds_toArray, List.set_cons_zero, List.set_cons_succ])
    (refine take_p (i := 15) (v := undef) rfl (by kernel_rfl) (by kernel_rfl) (by kernel_rfl) (fun _ _ _ h => h) (Or.inr ⟨by rfl, rfl⟩) hS ?_; try simp only [Act.put, List.setIfInBounds_toArray, List.set_cons_zero, List.set_cons_succ])
    (refine take_p (i := 16) (v := ?_) rfl (by kernel_rfl) (by kernel_rfl) (by kernel_rfl) (fun _ _ _ h => h) (Or.inl ⟨by rfl, ?_⟩) hS ?_; rotate_left; (focus (intro w0_ hSw; go_simp; try with_reducible rfl)); try simp only [Act.put, List.setIfInBounds_toArray, List.set_cons_zero, List.set_cons_succ])
    (refine take_p (i := 17) (v := ?_) rfl (by kernel_rfl) (by kernel_rfl) (by kernel_rfl) (fun _ _ _ h => h) (Or.inl ⟨by rfl, ?_⟩) hS ?_; rotate_left; (focus (intro w0_ hSw; go_simp; try with_reducible rfl)); try simp only [Act.put, List.setIfInBounds_toArray, List.set_cons_zero, List.set_cons_succ])
    (refine take_p (i := 18) (v := undef) rfl (by kernel_rfl) (by kernel_rfl) (by kernel_rfl) (fun _ _ _ h => h) (Or.inr ⟨by rfl, rfl⟩) hS ?_; try simp only [Act.put, List.setIfInBounds_toArray, List.set_cons_zero, List.set_cons_succ])
    (refine take_p (i := 19) (v := undef) rfl (by kernel_rfl) (by kernel_rfl) (by kernel_rfl) (fun _ _ _ h => h) (Or.inr ⟨by rfl, rfl⟩) hS ?_; try simp only [Act.put, List.setIfInBounds_toArray, List.set_cons_zero, List.set_cons_succ])
    (refine take_p (i := 20) (v := undef) rfl (by kernel_rfl) (by kernel_rfl) (by kernel_rfl) (fun _ _ _ h => h) (Or.inr ⟨by rfl, rfl⟩) hS ?_; try simp only [Act.put, List.setIfInBounds_toArray, List.set_cons_zero, List.set_cons_succ])
    (refine take_p (i := 21) (v := ?_) rfl (by kernel_rfl) (by kernel_rfl) (by kernel_rfl) (fun _ _ _ h => h) (Or.inl ⟨by rfl, ?_⟩) hS ?_; rotate_left; (focus (intro w0_ hSw; go_simp; try with_reducible rfl)); try simp only [Act.put, List.setIfInBounds_toArray, List.set_cons_zero, List.set_cons_succ])
    refine wpAnyH_done (by kernel_rfl) ?_ _
    have hadd : add1 Z z = 3 := by
      unfold add1 good
      simp_all
    have hSz := ((Only.refl _ w0).drew : Still w0 w0.drew).still hS
    go_wp2_with fail
    go_ret
    exact ⟨ret_int (by rw [HR.out, hadd]; rfl), by rw [HZ.out, HR.out, hadd]; exact ⟨bo, no, β, hB0.still hSz⟩, hS0.still hSz⟩
  · by_cases hf : foldS z.nm = z.nm
    · have hff : ((foldS z.nm).toList == z.nm.toList) = true := by rw [list_beq, decide_eq_true hf]
      by_cases hp1 : 1 ≤ z.pol
      · have d1 : decide ((z.pol : Int) < 1) = false := decide_eq_false (by omega)
        by_cases hp4 : z.pol ≤ 4
        · have d4 : decide ((z.pol : Int) > 4) = false := decide_eq_false (by omega)
          refine wp_region_held_drew (S := fun w' => Still w0.drew w') (by kernel_rfl) (Only.refl _ _) (fun hS => ?_)
          (refine take_p (i := 0) (v := ?_) rfl (by kernel_rfl) (by kernel_rfl) (by kernel_rfl) (fun _ _ _ h => h) (Or.inl ⟨by rfl, ?_⟩) hS ?_; rotate_left; (focus (intro w0_ hSw; go_simp; try with_reducible rfl)); try simp only [Act.put, List.setIfInBounds_toArray, List.set_cons_zero, List.set_cons_succ])
          (refine take_p (i := 1) (v := ?_) rfl (by kernel_rfl) (by kernel_rfl) (by kernel_rfl) (fun _ _ _ h => h) (Or.inl ⟨by rfl, ?_⟩) hS ?_; rotate_left; (focus (intro w0_ hSw; have z0_ := hSw.cell_some (fun h => h) x0; go_simp; try with_reducible rfl)); try simp only [Act.put, List.setIfInBounds_toArray, List.set_cons_zero, List.set_cons_succ])
          refine wpAnyH_ready (rs := [2]) (by kernel_rfl) (by simp) ?_
          refine cons_p rfl (fun K_ hK => ?_) AllReadyH.nil
          go_simp
          refine (may_s z.nm hz _).mono ?_
          rintro e w6 ⟨rfl, hs6⟩
          rw [hma]
          refine hK.out _ _ (hS.still hs6) (fun hHeld => ?_)
          replace hS := hS.still hs6
          clear hK K_ hHeld hs6
          try simp only [Act.put, List.setIfInBounds_toArray, List.set_cons_zero, List.set_cons_succ]
          (refine take_p (i := 3) (v := ?_) rfl (by kernel_rfl) (by kernel_rfl) (by kernel_rfl) (fun _ _ _ h => h) (Or.inl ⟨by rfl, ?_⟩) hS ?_; rotate_left; (focus (intro w0_ hSw; go_simp; try with_reducible rfl)); try simp only [Act.put, List.setIfInBounds_toArray, List.set_cons_zero, List.set_cons_succ])
          (refine take_p (i := 4) (v := ?_) rfl (by kernel_rfl) (by kernel_rfl) (by kernel_rfl) (fun _ _ _ h => h) (Or.inl ⟨by rfl, ?_⟩) hS ?_; rotate_left; (focus (intro w0_ hSw; go_simp; try with_reducible rfl)); try simp only [Act.put, List.setIfInBounds_toArray, List.set_cons_zero, List.set_cons_succ])
          (refine take_p (i := 5) (v := ?_) rfl (by kernel_rfl) (by kernel_rfl) (by kernel_rfl) (fun _ _ _ h => h) (Or.inl ⟨by rfl, ?_⟩) hS ?_; rotate_left; (focus (intro w0_ hSw; go_simp; try with_reducible rfl)); try simp only [Act.put, List.setIfInBounds_toArray, List.set_cons_zero, List.set_cons_succ])
          (refine take_p (i := 6) (v := ?_) rfl (by kernel_rfl) (by kernel_rfl) (by kernel_rfl) (fun _ _ _ h => h) (Or.inl ⟨by rfl, ?_⟩) hS ?_; rotate_left; (focus (intro w0_ hSw; have z0_ := hSw.cell_some (fun h => h) x0; go_simp; try with_reducible rfl)); try simp only [Act.put, List.setIfInBounds_toArray, List.set_cons_zero, List.set_cons_succ])
          (refine take_p (i := 8) (v := ?_) rfl (by kernel_rfl) (by kernel_rfl) (by kernel_rfl) (fun _ _ _ h => h) (Or.inl ⟨by rfl, ?_⟩) hS ?_; rotate_left; (focus (intro w0_ hSw; go_simp; try with_reducible rfl)); try simp only [Act.put, List.setIfInBounds_toArray, List.set_cons_zero, List.set_cons_succ])
          (refine take_p (i := 9) (v := ?_) rfl (by kernel_rfl) (by kernel_rfl) (by kernel_rfl) (fun _ _ _ h => h) (Or.inl ⟨by rfl, ?_⟩) hS ?_; rotate_left; (focus (intro w0_ hSw; have z0_ := hSw.cell_some (fun h => h) x0; go_simp; try with_reducible rfl)); try simp only [Act.put, List.setIfInBounds_toArray, List.set_cons_zero, List.set_cons_succ])
          refine wpAnyH_ready (rs := [7]) (by kernel_rfl) (by simp) ?_
          refine cons_p rfl (fun K_ hK => ?_) AllReadyH.nil
          go_simp
          refine (fold_s z.nm hz _).mono ?_
          rintro e w7 ⟨rfl, hs7⟩
          refine hK.out _ _ (hS.still hs7) (fun hHeld => ?_)
          replace hS := hS.still hs7
          clear hK K_ hHeld hs7
          try simp only [Act.put, List.setIfInBounds_toArray, List.set_cons_zero, List.set_cons_succ]
          (refine take_p (i := 10) (v := ?_) rfl (by kernel_rfl) (by kernel_rfl) (by kernel_rfl) (fun _ _ _ h => h) (Or.inl ⟨by rfl, ?_⟩) hS ?_; rotate_left; (focus (intro w0_ hSw; go_simp; try with_reducible rfl)); try simp only [Act.put, List.setIfInBounds_toArray, List.set_cons_zero, List.set_cons_succ])
          (refine take_p (i := 11) (v := ?_) rfl (by kernel_rfl) (by kernel_rfl) (by kernel_rfl) (fun _ _ _ h => h) (Or.inl ⟨by rfl, ?_⟩) hS ?_; rotate_left; (focus (intro w0_ hSw; go_simp; try with_reducible rfl)); try simp only [Act.put, List.setIfInBounds_toArray, List.set_cons_zero, List.set_cons_succ])
          (refine take_p (i := 12) (v := ?_) rfl (by kernel_rfl) (by kernel_rfl) (by kernel_rfl) (fun _ _ _ h => h) (Or.inl ⟨by rfl, ?_⟩) hS ?_; rotate_left; (focus (intro w0_ hSw; go_simp; try with_reducible rfl)); try simp only [Act.put, List.setIfInBounds_toArray, List.set_cons_zero, List.set_cons_succ])
          (refine take_p (i := 13) (v := ?_) rfl (by kernel_rfl) (by kernel_rfl) (by kernel_rfl) (fun _ _ _ h => h) (Or.inl ⟨by rfl, ?_⟩) hS ?_; rotate_left; (focus (intro w0_ hSw; go_simp; try with_reducible rfl)); try simp only [Act.put, List.setIfInBounds_toArray, List.set_cons_zero, List.set_cons_succ])
          (refine take_p (i := 14) (v := ?_) rfl (by kernel_rfl) (by kernel_rfl) (by kernel_rfl) (fun _ _ _ h => h) (Or.inl ⟨by rfl, ?_⟩) hS ?_; rotate_left; (focus (intro w0_ hSw; have z0_ := hSw.cell_some (fun h => h) x1; go_simp; try with_reducible rfl)); try simp only [Act.put, List.setIfInBounds_toArray, List.set_cons_zero, List.set_cons_succ])
          (refine take_p (i := 15) (v := ?_) rfl (by kernel_rfl) (by kernel_rfl) (by kernel_rfl) (fun _ _ _ h => h) (Or.inl ⟨by rfl, ?_⟩) hS ?_; rotate_left; (focus (intro w0_ hSw; go_simp; try with_reducible rfl)); try simp only [Act.put, List.setIfInBounds_toArray, List.set_cons_zero, List.set_cons_succ])
          (refine take_p (i := 16) (v := ?_) rfl (by kernel_rfl) (by kernel_rfl) (by kernel_rfl) (fun _ _ _ h => h) (Or.inl ⟨by rfl, ?_⟩) hS ?_; rotate_left; (focus (intro w0_ hSw; go_simp; try with_reducible rfl)); try simp only [Act.put, List.setIfInBounds_toArray, List.set_cons_zero, List.set_cons_succ])
          (refine take_p (i := 17) (v := ?_) rfl (by kernel_rfl) (by kernel_rfl) (by kernel_rfl) (fun _ _ _ h => h) (Or.inl ⟨by rfl, ?_⟩) hS ?_; rotate_left; (focus (intro w0_ hSw; go_simp; try with_reducible rfl)); try simp only [Act.put, List.setIfInBounds_toArray, List.set_cons_zero, List.set_cons_succ])
          (refine take_p (i := 18) (v := ?_) rfl (by kernel_rfl) (by kernel_rfl) (by kernel_rfl) (fun _ _ _ h => h) (Or.inl ⟨by rfl, ?_⟩) hS ?_; rotate_left; (focus (intro w0_ hSw; go_simp; try with_reducible rfl)); try simp only [Act.put, List.setIfInBounds_toArray, List.set_cons_zero, List.set_cons_succ])
          (refine take_p (i := 19) (v := ?_) rfl (by kernel_rfl) (by kernel_rfl) (by kernel_rfl) (fun _ _ _ h => h) (Or.inl ⟨by rfl, ?_⟩) hS ?_; rotate_left; (focus (intro w0_ hSw; have z0_ := hSw.cell_some (fun h => h) x1; go_simp; try with_reducible rfl)); try simp only [Act.put, List.setIfInBounds_toArray, List.set_cons_zero, List.set_cons_succ])
          (refine take_p (i := 20) (v := ?_) rfl (by kernel_rfl) (by kernel_rfl) (by kernel_rfl) (fun _ _ _ h => h) (Or.inl ⟨by rfl, ?_⟩) hS ?_; rotate_left; (focus (intro w0_ hSw; go_simp; try with_reducible rfl)); try simp only [Act.put, List.setIfInBounds_toArray, List.set_cons_zero, List.set_cons_succ])
          (refine take_p (i := 21) (v := ?_) rfl (by kernel_rfl) (by kernel_rfl) (by kernel_rfl) (fun _ _ _ h => h) (Or.inl ⟨by rfl, ?_⟩) hS ?_; rotate_left; (focus (intro w0_ hSw; go_simp; try with_reducible rfl)); try simp only [Act.put, List.setIfInBounds_toArray, List.set_cons_zero, List.set_cons_succ])
          refine wpAnyH_done (by kernel_rfl) ?_ _
          have hSz : Still w0 w7 := ((Only.refl _ w0).drew : Still w0 w0.drew).still hS
          have hgd : good z = true := by unfold good; simp [hma, hf, hp1, hp4]
          have hx7 := hx0.only hSz (fun h => h)
          have hB7 := hB0.still hSz
          have hO7 := hS0.still hSz
          have h1000 : nl z.nm ≤ 1000 := by have := nl_le z.nm; omega
          clear hS hs0 hx0 hB0 hS0 x0 x1 x2 hSz
          have x0 := hx7.cell 0
          have x1 := hx7.cell 1
          have x2 := hx7.cell 2
          simp at x0 x1 x2
          go_wp2_with (go_at_call 24; refine (labels_c z.nm hz _).mono ?_; rintro e w8 ⟨A, c, rfl, hs8⟩)
          have hx8 := hx7.only hs8 (fun h => h)
          have hB8 := hB7.still hs8
          have hO8 := hO7.still hs8
          clear hs8 hx7 hB7 hO7 x0 x1 x2
          have x0 := hx8.cell 0
          have x1 := hx8.cell 1
          have x2 := hx8.cell 2
          have c0 := hB8.blk.cell 0
          simp at x0 x1 x2 c0
          rcases hN : ofN Z z.nm with _ | y
          · skip
            have hs_w9 : Still w8 w8.drew := (Only.refl _ _).drew
            obtain ⟨w9, hw9⟩ : ∃ w9, w9 = w8.drew := ⟨_, rfl⟩
            refine wp_region_held_drew (S := fun w' => Still w8.drew w') (by kernel_rfl) (Only.refl _ _) (fun hS => ?_)
            rw [← hw9] at hs_w9 hS ⊢
            clear hw9
            have hx9 := hx8.only hs_w9 (fun h => h)
            have hB9 := hB8.still hs_w9
            have hO9 := hO8.still hs_w9
            clear hs_w9 hx8 hB8 hO8 x0 x1 x2 c0
            have x0 := hx9.cell 0
            have x1 := hx9.cell 1
            have x2 := hx9.cell 2
            have c0 := hB9.blk.cell 0
            simp at x0 x1 x2 c0
            (refine take_p (i := 0) (v := ?_) rfl (by kernel_rfl) (by kernel_rfl) (by kernel_rfl) (fun _ _ _ h => h) (Or.inl ⟨by rfl, ?_⟩) hS ?_; rotate_left; (focus (intro w0_ hSw; go_simp; try with_reducible rfl)); try simp only [Act.put, List.setIfInBounds_toArray, List.set_cons_zero, List.set_cons_succ])
            (refine take_p (i := 1) (v := ?_) rfl (by kernel_rfl) (by kernel_rfl) (by kernel_rfl) (fun _ _ _ h => h) (Or.inl ⟨by rfl, ?_⟩) hS ?_; rotate_left; (focus (intro w0_ hSw; go_simp; try with_reducible rfl)); try simp only [Act.put, List.setIfInBounds_toArray, List.set_cons_zero, List.set_cons_succ])
            (refine take_p (i := 2) (v := ?_) rfl (by kernel_rfl) (by kernel_rfl) (by kernel_rfl) (fun _ _ _ h => h) (Or.inl ⟨by rfl, ?_⟩) hS ?_; rotate_left; (focus (intro w0_ hSw; go_simp; try with_reducible rfl)); try simp only [Act.put, List.setIfInBounds_toArray, List.set_cons_zero, List.set_cons_succ])
            (refine take_p (i := 3) (v := ?_) rfl (by kernel_rfl) (by kernel_rfl) (by kernel_rfl) (fun _ _ _ h => h) (Or.inl ⟨by rfl, ?_⟩) hS ?_; rotate_left; (focus (intro w0_ hSw; have z0_ := hSw.cell_some (fun h => h) c0; go_simp; try with_reducible rfl)); try simp only [Act.put, List.setIfInBounds_toArray, List.set_cons_zero, List.set_cons_succ])
            (refine take_p (i := 4) (v := ?_) rfl (by kernel_rfl) (by kernel_rfl) (by kernel_rfl) (fun _ _ _ h => h) (Or.inl ⟨by rfl, ?_⟩) hS ?_; rotate_left; (focus (intro w0_ hSw; go_simp; try with_reducible rfl)); try simp only [Act.put, List.setIfInBounds_toArray, List.set_cons_zero, List.set_cons_succ])
            (refine take_p (i := 5) (v := ?_) rfl (by kernel_rfl) (by kernel_rfl) (by kernel_rfl) (fun _ _ _ h => h) (Or.inl ⟨by rfl, ?_⟩) hS ?_; rotate_left; (focus (intro w0_ hSw; have l1_ := (hB9.still hSw).look_out (L := nl z.nm) h1000; go_simp; try with_reducible rfl)); try simp only [Act.put, List.setIfInBounds_toArray, List.set_cons_zero, List.set_cons_succ])
            (refine take_p (i := 6) (v := ?_) rfl (by kernel_rfl) (by kernel_rfl) (by kernel_rfl) (fun _ _ _ h => h) (Or.inl ⟨by rfl, ?_⟩) hS ?_; rotate_left; (focus (intro w0_ hSw; go_simp; try with_reducible rfl)); try simp only [Act.put, List.setIfInBounds_toArray, List.set_cons_zero, List.set_cons_succ])
            (refine take_p (i := 7) (v := ?_) rfl (by kernel_rfl) (by kernel_rfl) (by kernel_rfl) (fun _ _ _ h => h) (Or.inl ⟨by rfl, ?_⟩) hS ?_; rotate_left; (focus (intro w0_ hSw; have z0_ := hSw.cell_some (fun h => h) x0; go_simp; try with_reducible rfl)); try simp only [Act.put, List.setIfInBounds_toArray, List.set_cons_zero, List.set_cons_succ])
            (refine take_p (i := 8) (v := ?_) rfl (by kernel_rfl) (by kernel_rfl) (by kernel_rfl) (fun _ _ _ h => h) (Or.inl ⟨by rfl, ?_⟩) hS ?_; rotate_left; (focus (intro w0_ hSw; have l2_ := (hB9.still hSw).look_no (s := z.nm) hz hN; go_simp; try with_reducible rfl)); try simp only [Act.put, List.setIfInBounds_toArray, List.set_cons_zero, List.set_cons_succ])
            (refine take_p (i := 9) (v := ?_) rfl (by kernel_rfl) (by kernel_rfl) (by kernel_rfl) (fun _ _ _ h => h) (Or.inl ⟨by rfl, ?_⟩) hS ?_; rotate_left; (focus (intro w0_ hSw; go_simp; try with_reducible rfl)); try simp only [Act.put, List.setIfInBounds_toArray, List.set_cons_zero, List.set_cons_succ])
            (refine take_p (i := 10) (v := ?_) rfl (by kernel_rfl) (by kernel_rfl) (by kernel_rfl) (fun _ _ _ h => h) (Or.inl ⟨by rfl, ?_⟩) hS ?_; rotate_left; (focus (intro w0_ hSw; go_simp; try with_reducible rfl)); try simp only [Act.put, List.setIfInBounds_toArray, List.set_cons_zero, List.set_cons_succ])
            (refine take_p (i := 11) (v := ?_) rfl (by kernel_rfl) (by kernel_rfl) (by kernel_rfl) (fun _ _ _ h => h) (Or.inl ⟨by rfl, ?_⟩) hS ?_; rotate_left; (focus (intro w0_ hSw; go_simp; try with_reducible rfl)); try simp only [Act.put, List.setIfInBounds_toArray, List.set_cons_zero, List.set_cons_succ])
            refine wpAnyH_ready (rs := [12]) (by kernel_rfl) (by simp) ?_
            refine cons_p rfl (fun K_ hK => ?_) AllReadyH.nil
            go_simp
            have hsn := Still.new w9 (.cells #[.string ⟨#[]⟩, .int .u8 0, .int .u16 0] 35)
            have hBn := Blk.new w9 35 #[.string ⟨#[]⟩, .int .u8 0, .int .u16 0]
            refine hK.out _ _ (Only.alloc hS _) (fun hHeld => ?_)
            clear hK K_ hHeld
            try simp only [Act.put, List.setIfInBounds_toArray, List.set_cons_zero, List.set_cons_succ]
            replace hS := Only.alloc hS (.cells #[.string ⟨#[]⟩, .int .u8 0, .int .u16 0] 35)
            obtain ⟨w10, hw10⟩ : ∃ w10, w10 = w9.alloc (.cells #[.string ⟨#[]⟩, .int .u8 0, .int .u16 0] 35) := ⟨_, rfl⟩
            obtain ⟨K, hK⟩ : ∃ K, K = w9.heap.size := ⟨_, rfl⟩
            rw [← hw10] at hsn hBn hS ⊢
            rw [← hK] at hBn ⊢
            have hKq : w9.heap.size ≤ K := by omega
            clear hw10 hK
            refine wpAnyH_ready (rs := [13]) (by kernel_rfl) (by simp) ?_
            refine cons_p rfl (fun K_ hK => ?_) AllReadyH.nil
            refine step_store_blk rfl 35 (.tmp 6) (.tmp 44) rfl K rfl #[.string ⟨#[]⟩, .int .u8 0, .int .u16 0] rfl 35 _ hBn (by kernel_rfl) rfl (by kernel_rfl) ?_
            intro w11 hBS hoS
            have hS' : Still w9 w11 := hS.trans hoS (fun i hi e => by have e' : i = K := e; omega)
            refine hK.out _ _ (hS') (fun hHeld => ?_)
            clear hK K_ hHeld
            try simp only [Act.put, List.setIfInBounds_toArray, List.set_cons_zero, List.set_cons_succ]
            replace hS := hS'
            (refine take_p (i := 14) (v := ?_) rfl (by kernel_rfl) (by kernel_rfl) (by kernel_rfl) (fun _ _ _ h => h) (Or.inl ⟨by rfl, ?_⟩) hS ?_; rotate_left; (focus (intro w0_ hSw; go_simp; try with_reducible rfl)); try simp only [Act.put, List.setIfInBounds_toArray, List.set_cons_zero, List.set_cons_succ])
            refine wpAnyH_done (by kernel_rfl) ?_ _
            have hx11 := hx9.only hS' (fun h => h)
            have hB11 := hB9.still hS'
            have hO11 := hO9.still hS'
            have x0 := hx11.cell 0
            have x1 := hx11.cell 1
            have x2 := hx11.cell 2
            have c0 := hB11.blk.cell 0
            simp at x0 x1 x2 c0
            have hN' : hasN Z z.nm = false := by rw [← ofN_has, hN]; rfl
            have l1 := hB11.look_out (L := nl z.nm) h1000
            have l2 := eql_some (β (nl z.nm))
            have l3 := eql_none
            have hadd : add1 Z z = 0 := by
              unfold add1
              rw [if_neg (by rw [hgd]; decide), if_neg (by rw [hN']; decide)]
            by_cases hL : hasL Z (nl z.nm) = true
            · rw [if_pos hL] at l1
              go_wp2_with fail
              have hs_w12 : Still w11 w11.drew := (Only.refl _ _).drew
              obtain ⟨w12, hw12⟩ : ∃ w12, w12 = w11.drew := ⟨_, rfl⟩
              refine wp_region_held_drew (S := fun w' => Only (· = (β (nl z.nm))) w11.drew w') (by kernel_rfl) (Only.refl _ _) (fun hS => ?_)
              rw [← hw12] at hs_w12 hS ⊢
              clear hw12
              have hx12 := hx11.only hs_w12 (fun h => h)
              have hB12 := hB11.still hs_w12
              have hO12 := hO11.still hs_w12
              obtain ⟨i1, i2, hg12⟩ := hB12.inn _ hL
              have hb12 := hB12.blk
              have hou12 := hB12.out
              have nq := blk_map_ne hx12 hg12
              have nt := blk_map_ne hb12 hg12
              have c0 := hb12.cell 0
              have x0 := hx12.cell 0
              simp at x0 c0
              (refine take_p (i := 0) (v := ?_) rfl (by kernel_rfl) (by kernel_rfl) (by kernel_rfl) (fun _ _ _ h => h) (Or.inl ⟨by rfl, ?_⟩) hS ?_; rotate_left; (focus (intro w0_ hSw; go_simp; try with_reducible rfl)); try simp only [Act.put, List.setIfInBounds_toArray, List.set_cons_zero, List.set_cons_succ])
              (refine take_p (i := 1) (v := ?_) rfl (by kernel_rfl) (by kernel_rfl) (by kernel_rfl) (fun _ _ _ h => h) (Or.inl ⟨by rfl, ?_⟩) hS ?_; rotate_left; (focus (intro w0_ hSw; go_simp; try with_reducible rfl)); try simp only [Act.put, List.setIfInBounds_toArray, List.set_cons_zero, List.set_cons_succ])
              (refine take_p (i := 2) (v := ?_) rfl (by kernel_rfl) (by kernel_rfl) (by kernel_rfl) (fun _ _ _ h => h) (Or.inl ⟨by rfl, ?_⟩) hS ?_; rotate_left; (focus (intro w0_ hSw; go_simp; try with_reducible rfl)); try simp only [Act.put, List.setIfInBounds_toArray, List.set_cons_zero, List.set_cons_succ])
              (refine take_p (i := 3) (v := ?_) rfl (by kernel_rfl) (by kernel_rfl) (by kernel_rfl) (fun _ _ _ h => h) (Or.inl ⟨by rfl, ?_⟩) hS ?_; rotate_left; (focus (intro w0_ hSw; have z0_ := hSw.cell_some (nt) c0; go_simp; try with_reducible rfl)); try simp only [Act.put, List.setIfInBounds_toArray, List.set_cons_zero, List.set_cons_succ])
              (refine take_p (i := 4) (v := ?_) rfl (by kernel_rfl) (by kernel_rfl) (by kernel_rfl) (fun _ _ _ h => h) (Or.inl ⟨by rfl, ?_⟩) hS ?_; rotate_left; (focus (intro w0_ hSw; go_simp; try with_reducible rfl)); try simp only [Act.put, List.setIfInBounds_toArray, List.set_cons_zero, List.set_cons_succ])
              (refine take_p (i := 5) (v := ?_) rfl (by kernel_rfl) (by kernel_rfl) (by kernel_rfl) (fun _ _ _ h => h) (Or.inl ⟨by rfl, ?_⟩) hS ?_; rotate_left; (focus (intro w0_ hSw; have l1_ := look_old (hou12.only hSw (Ne.symm i2)) hL h1000; go_simp; try with_reducible rfl)); try simp only [Act.put, List.setIfInBounds_toArray, List.set_cons_zero, List.set_cons_succ])
              (refine take_p (i := 6) (v := ?_) rfl (by kernel_rfl) (by kernel_rfl) (by kernel_rfl) (fun _ _ _ h => h) (Or.inl ⟨by rfl, ?_⟩) hS ?_; rotate_left; (focus (intro w0_ hSw; go_simp; try with_reducible rfl)); try simp only [Act.put, List.setIfInBounds_toArray, List.set_cons_zero, List.set_cons_succ])
              (refine take_p (i := 7) (v := ?_) rfl (by kernel_rfl) (by kernel_rfl) (by kernel_rfl) (fun _ _ _ h => h) (Or.inl ⟨by rfl, ?_⟩) hS ?_; rotate_left; (focus (intro w0_ hSw; have z0_ := hSw.cell_some (nq) x0; go_simp; try with_reducible rfl)); try simp only [Act.put, List.setIfInBounds_toArray, List.set_cons_zero, List.set_cons_succ])
              refine take_p (i := 8) (v := .agg #[.string z.nm, .int .u8 z.pol, .int .u16 z.tr]) rfl (by kernel_rfl) (by kernel_rfl) (by kernel_rfl) (fun _ _ _ h => h) ?_ hS ?_
              · exact yieldsIf_load_blk (by rfl) 35 (.tmp 3) rfl q rfl 35 _ _ (fun w_ hSw => hx12.only hSw nq) Try.underlying35 rfl (by kernel_rfl)
              try simp only [Act.put, List.setIfInBounds_toArray, List.set_cons_zero, List.set_cons_succ]
              refine wpAnyH_ready (rs := [9]) (by kernel_rfl) (by simp) ?_
              refine cons_p rfl (fun K_ hK => ?_) AllReadyH.nil
              refine step_mapPut _ rfl (.tmp 65) (.tmp 67) (.tmp 68) 58 rfl 9 35 klaw_str Try.underlying58 (β (nl z.nm)) (cntL Z (nl z.nm)) _ rfl hg12 (by unfold maxLen; have := cntL_le Z (nl z.nm); omega) _ _ _ rfl rfl (key_str Try.underlying9 (s := z.nm) (by unfold maxLen; omega)) ?_
              intro w17 hm17 ho17 hz17
              refine hK.out _ _ (ho17) (fun hHeld => ?_)
              clear hK K_ hHeld
              try simp only [Act.put, List.setIfInBounds_toArray, List.set_cons_zero, List.set_cons_succ]
              replace hS := ho17
              refine wpAnyH_done (by kernel_rfl) ?_ _
              go_wp2_with fail
              go_ret
              rw [if_neg (by rw [inAt_nl, hN]; simp)] at hm17
              exact ⟨ret_int (by rw [HR.out, hadd]; rfl), by rw [HZ.out, HR.out, hadd]; exact ⟨bo, no, β, hB12.put_old hN' hL hm17 ho17⟩, hO12.trans ho17 (fun i hi e => by have e' : i = β (nl z.nm) := e; show base ≤ i; omega)⟩
            · rw [if_neg hL] at l1
              have hmk : (Instr.makeMap 58 none).run Try.prog w11 = .ok (.map (some w11.heap.size)) (w11.alloc (.map #[] 0)) := rfl
              have hsm := Still.new w11 (.map #[] 0)
              have hgm := MapIs.made w11 Try.prog 9
              have hB14 := hB11.still hsm
              have hx14 := hx11.only hsm (fun h => h)
              go_wp2_with (at_mapUpdate; refine wpList_mapPut _ rfl _ _ _ 41 rfl 3 58 klaw_int Try.underlying41 bo no _ rfl hB14.out (by unfold maxLen; have := hB11.hn; omega) _ _ _ rfl rfl (key_int Try.underlying3 (n := nl z.nm) (by unfold maxLen; omega)) ?_; intro w15 hou15 hoo15 hz15)
              obtain ⟨G, hG⟩ : ∃ G, G = w11.heap.size := ⟨_, rfl⟩
              rw [← hG] at hgm ⊢
              have hboG := hB11.out.lt
              rw [← hG] at hboG
              have nbo : ¬ bo = G := by omega
              have hg15 := hgm.only hoo15 (fun e => nbo e.symm)
              have hx15 := hx14.only hoo15 (blk_map_ne hx14 hB14.out)
              have hb15 := hB14.blk.only hoo15 (blk_map_ne hB14.blk hB14.out)
              replace hou15 : MapIs w15 Try.prog 3 bo (no + 1) (upd (outAt Z β) (.int .i64 (nl z.nm)) (.map (some G))) := by
                rw [outAt_nat, if_neg hL, if_neg (by simp)] at hou15
                rw [hG]
                exact hou15
              have ho15 : Only (fun i => i = bo ∨ i = G) w11 w15 := (Only.of_still hsm _).trans hoo15 (fun i _ e => .inl e)
              have HG := Lib.hid hG
              clear hG hz15 hgm hx14 hB14 hoo15 hsm l1 l2 l3 c0 x0 x1 x2
              have hs_w16 : Still w15 w15.drew := (Only.refl _ _).drew
              obtain ⟨w16, hw16⟩ : ∃ w16, w16 = w15.drew := ⟨_, rfl⟩
              refine wp_region_held_drew (S := fun w' => Only (· = G) w15.drew w') (by kernel_rfl) (Only.refl _ _) (fun hS => ?_)
              rw [← hw16] at hs_w16 hS ⊢
              clear hw16
              have hx12 := hx15.only hs_w16 (fun h => h)
              have hb12 := hb15.only hs_w16 (fun h => h)
              have hou12 := hou15.still hs_w16
              have hg12 := hg15.still hs_w16
              have nq := blk_map_ne hx12 hg12
              have nt := blk_map_ne hb12 hg12
              have c0 := hb12.cell 0
              have x0 := hx12.cell 0
              simp at x0 c0
              (refine take_p (i := 0) (v := ?_) rfl (by kernel_rfl) (by kernel_rfl) (by kernel_rfl) (fun _ _ _ h => h) (Or.inl ⟨by rfl, ?_⟩) hS ?_; rotate_left; (focus (intro w0_ hSw; go_simp; try with_reducible rfl)); try simp only [Act.put, List.setIfInBounds_toArray, List.set_cons_zero, List.set_cons_succ])
              (refine take_p (i := 1) (v := ?_) rfl (by kernel_rfl) (by kernel_rfl) (by kernel_rfl) (fun _ _ _ h => h) (Or.inl ⟨by rfl, ?_⟩) hS ?_; rotate_left; (focus (intro w0_ hSw; go_simp; try with_reducible rfl)); try simp only [Act.put, List.setIfInBounds_toArray, List.set_cons_zero, List.set_cons_succ])
              (refine take_p (i := 2) (v := ?_) rfl (by kernel_rfl) (by kernel_rfl) (by kernel_rfl) (fun _ _ _ h => h) (Or.inl ⟨by rfl, ?_⟩) hS ?_; rotate_left; (focus (intro w0_ hSw; go_simp; try with_reducible rfl)); try simp only [Act.put, List.setIfInBounds_toArray, List.set_cons_zero, List.set_cons_succ])
              (refine take_p (i := 3) (v := ?_) rfl (by kernel_rfl) (by kernel_rfl) (by kernel_rfl) (fun _ _ _ h => h) (Or.inl ⟨by rfl, ?_⟩) hS ?_; rotate_left; (focus (intro w0_ hSw; have z0_ := hSw.cell_some (nt) c0; go_simp; try with_reducible rfl)); try simp only [Act.put, List.setIfInBounds_toArray, List.set_cons_zero, List.set_cons_succ])
              (refine take_p (i := 4) (v := ?_) rfl (by kernel_rfl) (by kernel_rfl) (by kernel_rfl) (fun _ _ _ h => h) (Or.inl ⟨by rfl, ?_⟩) hS ?_; rotate_left; (focus (intro w0_ hSw; go_simp; try with_reducible rfl)); try simp only [Act.put, List.setIfInBounds_toArray, List.set_cons_zero, List.set_cons_succ])
              (refine take_p (i := 5) (v := ?_) rfl (by kernel_rfl) (by kernel_rfl) (by kernel_rfl) (fun _ _ _ h => h) (Or.inl ⟨by rfl, ?_⟩) hS ?_; rotate_left; (focus (intro w0_ hSw; have l1_ := look_new (hou12.only hSw nbo) h1000; go_simp; try with_reducible rfl)); try simp only [Act.put, List.setIfInBounds_toArray, List.set_cons_zero, List.set_cons_succ])
              (refine take_p (i := 6) (v := ?_) rfl (by kernel_rfl) (by kernel_rfl) (by kernel_rfl) (fun _ _ _ h => h) (Or.inl ⟨by rfl, ?_⟩) hS ?_; rotate_left; (focus (intro w0_ hSw; go_simp; try with_reducible rfl)); try simp only [Act.put, List.setIfInBounds_toArray, List.set_cons_zero, List.set_cons_succ])
              (refine take_p (i := 7) (v := ?_) rfl (by kernel_rfl) (by kernel_rfl) (by kernel_rfl) (fun _ _ _ h => h) (Or.inl ⟨by rfl, ?_⟩) hS ?_; rotate_left; (focus (intro w0_ hSw; have z0_ := hSw.cell_some (nq) x0; go_simp; try with_reducible rfl)); try simp only [Act.put, List.setIfInBounds_toArray, List.set_cons_zero, List.set_cons_succ])
              refine take_p (i := 8) (v := .agg #[.string z.nm, .int .u8 z.pol, .int .u16 z.tr]) rfl (by kernel_rfl) (by kernel_rfl) (by kernel_rfl) (fun _ _ _ h => h) ?_ hS ?_
              · exact yieldsIf_load_blk (by rfl) 35 (.tmp 3) rfl q rfl 35 _ _ (fun w_ hSw => hx12.only hSw nq) Try.underlying35 rfl (by kernel_rfl)
              try simp only [Act.put, List.setIfInBounds_toArray, List.set_cons_zero, List.set_cons_succ]
              refine wpAnyH_ready (rs := [9]) (by kernel_rfl) (by simp) ?_
              refine cons_p rfl (fun K_ hK => ?_) AllReadyH.nil
              refine step_mapPut _ rfl (.tmp 65) (.tmp 67) (.tmp 68) 58 rfl 9 35 klaw_str Try.underlying58 G 0 _ rfl hg12 (by unfold maxLen; omega) _ _ _ rfl rfl (key_str Try.underlying9 (s := z.nm) (by unfold maxLen; omega)) ?_
              intro w17 hm17 ho17 hz17
              refine hK.out _ _ (ho17) (fun hHeld => ?_)
              clear hK K_ hHeld
              try simp only [Act.put, List.setIfInBounds_toArray, List.set_cons_zero, List.set_cons_succ]
              replace hS := ho17
              refine wpAnyH_done (by kernel_rfl) ?_ _
              go_wp2_with fail
              go_ret
              rw [if_neg (by simp)] at hm17
              have ho16 := (ho15.still hs_w16).trans ho17 (fun i _ e => .inr e)
              have hL' : hasL Z (nl z.nm) = false := by simpa using hL
              have hput := hB11.put_new hL' (by have := hB11.hb; have := hB11.out.lt; omega) (Nat.le_of_eq HG.out.symm) (hou12.only ho17 nbo) hm17 ho16
              have hbb := hB11.hb
              exact ⟨ret_int (by rw [HR.out, hadd]; rfl), by rw [HZ.out, HR.out, hadd]; exact ⟨bo, _, _, hput⟩, hO11.trans ho16 (fun i hi e => by show base ≤ i; have := HG.out; have := hB11.out.lt; rcases e with e | e <;> omega)⟩
          · skip
            have hs_w9 : Still w8 w8.drew := (Only.refl _ _).drew
            obtain ⟨w9, hw9⟩ : ∃ w9, w9 = w8.drew := ⟨_, rfl⟩
            refine wp_region_held_drew (S := fun w' => Still w8.drew w') (by kernel_rfl) (Only.refl _ _) (fun hS => ?_)
            rw [← hw9] at hs_w9 hS ⊢
            clear hw9
            have hx9 := hx8.only hs_w9 (fun h => h)
            have hB9 := hB8.still hs_w9
            have hO9 := hO8.still hs_w9
            clear hs_w9 hx8 hB8 hO8 x0 x1 x2 c0
            have x0 := hx9.cell 0
            have x1 := hx9.cell 1
            have x2 := hx9.cell 2
            have c0 := hB9.blk.cell 0
            simp at x0 x1 x2 c0
            (refine take_p (i := 0) (v := ?_) rfl (by kernel_rfl) (by kernel_rfl) (by kernel_rfl) (fun _ _ _ h => h) (Or.inl ⟨by rfl, ?_⟩) hS ?_; rotate_left; (focus (intro w0_ hSw; go_simp; try with_reducible rfl)); try simp only [Act.put, List.setIfInBounds_toArray, List.set_cons_zero, List.set_cons_succ])
            (refine take_p (i := 1) (v := ?_) rfl (by kernel_rfl) (by kernel_rfl) (by kernel_rfl) (fun _ _ _ h => h) (Or.inl ⟨by rfl, ?_⟩) hS ?_; rotate_left; (focus (intro w0_ hSw; go_simp; try with_reducible rfl)); try simp only [Act.put, List.setIfInBounds_toArray, List.set_cons_zero, List.set_cons_succ])
            (refine take_p (i := 2) (v := ?_) rfl (by kernel_rfl) (by kernel_rfl) (by kernel_rfl) (fun _ _ _ h => h) (Or.inl ⟨by rfl, ?_⟩) hS ?_; rotate_left; (focus (intro w0_ hSw; go_simp; try with_reducible rfl)); try simp only [Act.put, List.setIfInBounds_toArray, List.set_cons_zero, List.set_cons_succ])
            (refine take_p (i := 3) (v := ?_) rfl (by kernel_rfl) (by kernel_rfl) (by kernel_rfl) (fun _ _ _ h => h) (Or.inl ⟨by rfl, ?_⟩) hS ?_; rotate_left; (focus (intro w0_ hSw; have z0_ := hSw.cell_some (fun h => h) c0; go_simp; try with_reducible rfl)); try simp only [Act.put, List.setIfInBounds_toArray, List.set_cons_zero, List.set_cons_succ])
            (refine take_p (i := 4) (v := ?_) rfl (by kernel_rfl) (by kernel_rfl) (by kernel_rfl) (fun _ _ _ h => h) (Or.inl ⟨by rfl, ?_⟩) hS ?_; rotate_left; (focus (intro w0_ hSw; go_simp; try with_reducible rfl)); try simp only [Act.put, List.setIfInBounds_toArray, List.set_cons_zero, List.set_cons_succ])
            (refine take_p (i := 5) (v := ?_) rfl (by kernel_rfl) (by kernel_rfl) (by kernel_rfl) (fun _ _ _ h => h) (Or.inl ⟨by rfl, ?_⟩) hS ?_; rotate_left; (focus (intro w0_ hSw; have l1_ := (hB9.still hSw).look_out (L := nl z.nm) h1000; go_simp; try with_reducible rfl)); try simp only [Act.put, List.setIfInBounds_toArray, List.set_cons_zero, List.set_cons_succ])
            (refine take_p (i := 6) (v := ?_) rfl (by kernel_rfl) (by kernel_rfl) (by kernel_rfl) (fun _ _ _ h => h) (Or.inl ⟨by rfl, ?_⟩) hS ?_; rotate_left; (focus (intro w0_ hSw; go_simp; try with_reducible rfl)); try simp only [Act.put, List.setIfInBounds_toArray, List.set_cons_zero, List.set_cons_succ])
            (refine take_p (i := 7) (v := ?_) rfl (by kernel_rfl) (by kernel_rfl) (by kernel_rfl) (fun _ _ _ h => h) (Or.inl ⟨by rfl, ?_⟩) hS ?_; rotate_left; (focus (intro w0_ hSw; have z0_ := hSw.cell_some (fun h => h) x0; go_simp; try with_reducible rfl)); try simp only [Act.put, List.setIfInBounds_toArray, List.set_cons_zero, List.set_cons_succ])
            (refine take_p (i := 8) (v := ?_) rfl (by kernel_rfl) (by kernel_rfl) (by kernel_rfl) (fun _ _ _ h => h) (Or.inl ⟨by rfl, ?_⟩) hS ?_; rotate_left; (focus (intro w0_ hSw; have l2_ := (hB9.still hSw).look_yes (s := z.nm) hz hN; go_simp; try with_reducible rfl)); try simp only [Act.put, List.setIfInBounds_toArray, List.set_cons_zero, List.set_cons_succ])
            (refine take_p (i := 9) (v := ?_) rfl (by kernel_rfl) (by kernel_rfl) (by kernel_rfl) (fun _ _ _ h => h) (Or.inl ⟨by rfl, ?_⟩) hS ?_; rotate_left; (focus (intro w0_ hSw; go_simp; try with_reducible rfl)); try simp only [Act.put, List.setIfInBounds_toArray, List.set_cons_zero, List.set_cons_succ])
            (refine take_p (i := 10) (v := ?_) rfl (by kernel_rfl) (by kernel_rfl) (by kernel_rfl) (fun _ _ _ h => h) (Or.inl ⟨by rfl, ?_⟩) hS ?_; rotate_left; (focus (intro w0_ hSw; go_simp; try with_reducible rfl)); try simp only [Act.put, List.setIfInBounds_toArray, List.set_cons_zero, List.set_cons_succ])
            (refine take_p (i := 11) (v := ?_) rfl (by kernel_rfl) (by kernel_rfl) (by kernel_rfl) (fun _ _ _ h => h) (Or.inl ⟨by rfl, ?_⟩) hS ?_; rotate_left; (focus (intro w0_ hSw; go_simp; try with_reducible rfl)); try simp only [Act.put, List.setIfInBounds_toArray, List.set_cons_zero, List.set_cons_succ])
            refine wpAnyH_ready (rs := [12]) (by kernel_rfl) (by simp) ?_
            refine cons_p rfl (fun K_ hK => ?_) AllReadyH.nil
            go_simp
            have hsn := Still.new w9 (.cells #[.string ⟨#[]⟩, .int .u8 0, .int .u16 0] 35)
            have hBn := Blk.new w9 35 #[.string ⟨#[]⟩, .int .u8 0, .int .u16 0]
            refine hK.out _ _ (Only.alloc hS _) (fun hHeld => ?_)
            clear hK K_ hHeld
            try simp only [Act.put, List.setIfInBounds_toArray, List.set_cons_zero, List.set_cons_succ]
            replace hS := Only.alloc hS (.cells #[.string ⟨#[]⟩, .int .u8 0, .int .u16 0] 35)
            obtain ⟨w10, hw10⟩ : ∃ w10, w10 = w9.alloc (.cells #[.string ⟨#[]⟩, .int .u8 0, .int .u16 0] 35) := ⟨_, rfl⟩
            obtain ⟨K, hK⟩ : ∃ K, K = w9.heap.size := ⟨_, rfl⟩
            rw [← hw10] at hsn hBn hS ⊢
            rw [← hK] at hBn ⊢
            have hKq : w9.heap.size ≤ K := by omega
            clear hw10 hK
            refine wpAnyH_ready (rs := [13]) (by kernel_rfl) (by simp) ?_
            refine cons_p rfl (fun K_ hK => ?_) AllReadyH.nil
            refine step_store_blk rfl 35 (.tmp 6) (.tmp 44) rfl K rfl #[.string y.nm, .int .u8 y.pol, .int .u16 y.tr] rfl 35 _ hBn (by kernel_rfl) rfl (by kernel_rfl) ?_
            intro w11 hBS hoS
            have hS' : Still w9 w11 := hS.trans hoS (fun i hi e => by have e' : i = K := e; omega)
            refine hK.out _ _ (hS') (fun hHeld => ?_)
            clear hK K_ hHeld
            try simp only [Act.put, List.setIfInBounds_toArray, List.set_cons_zero, List.set_cons_succ]
            replace hS := hS'
            (refine take_p (i := 14) (v := ?_) rfl (by kernel_rfl) (by kernel_rfl) (by kernel_rfl) (fun _ _ _ h => h) (Or.inl ⟨by rfl, ?_⟩) hS ?_; rotate_left; (focus (intro w0_ hSw; go_simp; try with_reducible rfl)); try simp only [Act.put, List.setIfInBounds_toArray, List.set_cons_zero, List.set_cons_succ])
            refine wpAnyH_done (by kernel_rfl) ?_ _
            have hx11 := hx9.only hS' (fun h => h)
            have hB11 := hB9.still hS'
            have hO11 := hO9.still hS'
            have x0 := hx11.cell 0
            have x1 := hx11.cell 1
            have x2 := hx11.cell 2
            have c0 := hB11.blk.cell 0
            simp at x0 x1 x2 c0
            have hadd : add1 Z z = 7 := by
              unfold add1
              rw [if_neg (by rw [hgd]; decide), if_pos (by rw [← ofN_has, hN]; rfl)]
            go_wp2_with fail
            all_goals (go_ret; exact ⟨ret_int (by rw [HR.out, hadd]; rfl), by rw [HZ.out, HR.out, hadd]; exact ⟨bo, no, β, hB11⟩, hO11⟩)
        · have d4 : decide ((z.pol : Int) > 4) = true := decide_eq_true (by omega)
          refine wp_region_held_drew (S := fun w' => Still w0.drew w') (by kernel_rfl) (Only.refl _ _) (fun hS => ?_)
          (refine take_p (i := 0) (v := ?_) rfl (by kernel_rfl) (by kernel_rfl) (by kernel_rfl) (fun _ _ _ h => h) (Or.inl ⟨by rfl, ?_⟩) hS ?_; rotate_left; (focus (intro w0_ hSw; go_simp; try with_reducible rfl)); try simp only [Act.put, List.setIfInBounds_toArray, List.set_cons_zero, List.set_cons_succ])
          (refine take_p (i := 1) (v := ?_) rfl (by kernel_rfl) (by kernel_rfl) (by kernel_rfl) (fun _ _ _ h => h) (Or.inl ⟨by rfl, ?_⟩) hS ?_; rotate_left; (focus (intro w0_ hSw; have z0_ := hSw.cell_some (fun h => h) x0; go_simp; try with_reducible rfl)); try simp only [Act.put, List.setIfInBounds_toArray, List.set_cons_zero, List.set_cons_succ])
          refine wpAnyH_ready (rs := [2]) (by kernel_rfl) (by simp) ?_
          refine cons_p rfl (fun K_ hK => ?_) AllReadyH.nil
          go_simp
          refine (may_s z.nm hz _).mono ?_
          rintro e w6 ⟨rfl, hs6⟩
          rw [hma]
          refine hK.out _ _ (hS.still hs6) (fun hHeld => ?_)
          replace hS := hS.still hs6
          clear hK K_ hHeld hs6
          try simp only [Act.put, List.setIfInBounds_toArray, List.set_cons_zero, List.set_cons_succ]
          (refine take_p (i := 3) (v := ?_) rfl (by kernel_rfl) (by kernel_rfl) (by kernel_rfl) (fun _ _ _ h => h) (Or.inl ⟨by rfl, ?_⟩) hS ?_; rotate_left; (focus (intro w0_ hSw; go_simp; try with_reducible rfl)); try simp only [Act.put, List.setIfInBounds_toArray, List.set_cons_zero, List.set_cons_succ])
          (refine take_p (i := 4) (v := ?_) rfl (by kernel_rfl) (by kernel_rfl) (by kernel_rfl) (fun _ _ _ h => h) (Or.inl ⟨by rfl, ?_⟩) hS ?_; rotate_left; (focus (intro w0_ hSw; go_simp; try with_reducible rfl)); try simp only [Act.put, List.setIfInBounds_toArray, List.set_cons_zero, List.set_cons_succ])
          (refine take_p (i := 5) (v := ?_) rfl (by kernel_rfl) (by kernel_rfl) (by kernel_rfl) (fun _ _ _ h => h) (Or.inl ⟨by rfl, ?_⟩) hS ?_; rotate_left; (focus (intro w0_ hSw; go_simp; try with_reducible rfl)); try simp only [Act.put, List.setIfInBounds_toArray, List.set_cons_zero, List.set_cons_succ])
          (refine take_p (i := 6) (v := ?_) rfl (by kernel_rfl) (by kernel_rfl) (by kernel_rfl) (fun _ _ _ h => h) (Or.inl ⟨by rfl, ?_⟩) hS ?_; rotate_left; (focus (intro w0_ hSw; have z0_ := hSw.cell_some (fun h => h) x0; go_simp; try with_reducible rfl)); try simp only [Act.put, List.setIfInBounds_toArray, List.set_cons_zero, List.set_cons_succ])
          (refine take_p (i := 8) (v := ?_) rfl (by kernel_rfl) (by kernel_rfl) (by kernel_rfl) (fun _ _ _ h => h) (Or.inl ⟨by rfl, ?_⟩) hS ?_; rotate_left; (focus (intro w0_ hSw; go_simp; try with_reducible rfl)); try simp only [Act.put, List.setIfInBounds_toArray, List.set_cons_zero, List.set_cons_succ])
          (refine take_p (i := 9) (v := ?_) rfl (by kernel_rfl) (by kernel_rfl) (by kernel_rfl) (fun _ _ _ h => h) (Or.inl ⟨by rfl, ?_⟩) hS ?_; rotate_left; (focus (intro w0_ hSw; have z0_ := hSw.cell_some (fun h => h) x0; go_simp; try with_reducible rfl)); try simp only [Act.put, List.setIfInBounds_toArray, List.set_cons_zero, List.set_cons_succ])
          refine wpAnyH_ready (rs := [7]) (by kernel_rfl) (by simp) ?_
          refine cons_p rfl (fun K_ hK => ?_) AllReadyH.nil
          go_simp
          refine (fold_s z.nm hz _).mono ?_
          rintro e w7 ⟨rfl, hs7⟩
          refine hK.out _ _ (hS.still hs7) (fun hHeld => ?_)
          replace hS := hS.still hs7
          clear hK K_ hHeld hs7
          try simp only [Act.put, List.setIfInBounds_toArray, List.set_cons_zero, List.set_cons_succ]
          (refine take_p (i := 10) (v := ?_) rfl (by kernel_rfl) (by kernel_rfl) (by kernel_rfl) (fun _ _ _ h => h) (Or.inl ⟨by rfl, ?_⟩) hS ?_; rotate_left; (focus (intro w0_ hSw; go_simp; try with_reducible rfl)); try simp only [Act.put, List.setIfInBounds_toArray, List.set_cons_zero, List.set_cons_succ])
          (refine take_p (i := 11) (v := ?_) rfl (by kernel_rfl) (by kernel_rfl) (by kernel_rfl) (fun _ _ _ h => h) (Or.inl ⟨by rfl, ?_⟩) hS ?_; rotate_left; (focus (intro w0_ hSw; go_simp; try with_reducible rfl)); try simp only [Act.put, List.setIfInBounds_toArray, List.set_cons_zero, List.set_cons_succ])
          (refine take_p (i := 12) (v := ?_) rfl (by kernel_rfl) (by kernel_rfl) (by kernel_rfl) (fun _ _ _ h => h) (Or.inl ⟨by rfl, ?_⟩) hS ?_; rotate_left; (focus (intro w0_ hSw; go_simp; try with_reducible rfl)); try simp only [Act.put, List.setIfInBounds_toArray, List.set_cons_zero, List.set_cons_succ])
          (refine take_p (i := 13) (v := ?_) rfl (by kernel_rfl) (by kernel_rfl) (by kernel_rfl) (fun _ _ _ h => h) (Or.inl ⟨by rfl, ?_⟩) hS ?_; rotate_left; (focus (intro w0_ hSw; go_simp; try with_reducible rfl)); try simp only [Act.put, List.setIfInBounds_toArray, List.set_cons_zero, List.set_cons_succ])
          (refine take_p (i := 14) (v := ?_) rfl (by kernel_rfl) (by kernel_rfl) (by kernel_rfl) (fun _ _ _ h => h) (Or.inl ⟨by rfl, ?_⟩) hS ?_; rotate_left; (focus (intro w0_ hSw; have z0_ := hSw.cell_some (fun h => h) x1; go_simp; try with_reducible rfl)); try simp only [Act.put, List.setIfInBounds_toArray, List.set_cons_zero, List.set_cons_succ])
          (refine take_p (i := 15) (v := ?_) rfl (by kernel_rfl) (by kernel_rfl) (by kernel_rfl) (fun _ _ _ h => h) (Or.inl ⟨by rfl, ?_⟩) hS ?_; rotate_left; (focus (intro w0_ hSw; go_simp; try with_reducible rfl)); try simp only [Act.put, List.setIfInBounds_toArray, List.set_cons_zero, List.set_cons_succ])
          (refine take_p (i := 16) (v := ?_) rfl (by kernel_rfl) (by kernel_rfl) (by kernel_rfl) (fun _ _ _ h => h) (Or.inl ⟨by rfl, ?_⟩) hS ?_; rotate_left; (focus (intro w0_ hSw; go_simp; try with_reducible rfl)); try simp only [Act.put, List.setIfInBounds_toArray, List.set_cons_zero, List.set_cons_succ])
          (refine take_p (i := 17) (v := ?_) rfl (by kernel_rfl) (by kernel_rfl) (by kernel_rfl) (fun _ _ _ h => h) (Or.inl ⟨by rfl, ?_⟩) hS ?_; rotate_left; (focus (intro w0_ hSw; go_simp; try with_reducible rfl)); try simp only [Act.put, List.setIfInBounds_toArray, List.set_cons_zero, List.set_cons_succ])
          (refine take_p (i := 18) (v := ?_) rfl (by kernel_rfl) (by kernel_rfl) (by kernel_rfl) (fun _ _ _ h => h) (Or.inl ⟨by rfl, ?_⟩) hS ?_; rotate_left; (focus (intro w0_ hSw; go_simp; try with_reducible rfl)); try simp only [Act.put, List.setIfInBounds_toArray, List.set_cons_zero, List.set_cons_succ])
          (refine take_p (i := 19) (v := ?_) rfl (by kernel_rfl) (by kernel_rfl) (by kernel_rfl) (fun _ _ _ h => h) (Or.inl ⟨by rfl, ?_⟩) hS ?_; rotate_left; (focus (intro w0_ hSw; have z0_ := hSw.cell_some (fun h => h) x1; go_simp; try with_reducible rfl)); try simp only [Act.put, List.setIfInBounds_toArray, List.set_cons_zero, List.set_cons_succ])
          (refine take_p (i := 20) (v := ?_) rfl (by kernel_rfl) (by kernel_rfl) (by kernel_rfl) (fun _ _ _ h => h) (Or.inl ⟨by rfl, ?_⟩) hS ?_; rotate_left; (focus (intro w0_ hSw; go_simp; try with_reducible rfl)); try simp only [Act.put, List.setIfInBounds_toArray, List.set_cons_zero, List.set_cons_succ])
          (refine take_p (i := 21) (v := ?_) rfl (by kernel_rfl) (by kernel_rfl) (by kernel_rfl) (fun _ _ _ h => h) (Or.inl ⟨by rfl, ?_⟩) hS ?_; rotate_left; (focus (intro w0_ hSw; go_simp; try with_reducible rfl)); try simp only [Act.put, List.setIfInBounds_toArray, List.set_cons_zero, List.set_cons_succ])
          refine wpAnyH_done (by kernel_rfl) ?_ _
          have hadd : add1 Z z = 3 := by
            unfold add1 good
            simp_all
          have hSz := ((Only.refl _ w0).drew : Still w0 w0.drew).still hS
          go_wp2_with fail
          go_ret
          exact ⟨ret_int (by rw [HR.out, hadd]; rfl), by rw [HZ.out, HR.out, hadd]; exact ⟨bo, no, β, hB0.still hSz⟩, hS0.still hSz⟩
      · have d1 : decide ((z.pol : Int) < 1) = true := decide_eq_true (by omega)
        refine wp_region_held_drew (S := fun w' => Still w0.drew w') (by kernel_rfl) (Only.refl _ _) (fun hS => ?_)
        (refine take_p (i := 0) (v := ?_) rfl (by kernel_rfl) (by kernel_rfl) (by kernel_rfl) (fun _ _ _ h => h) (Or.inl ⟨by rfl, ?_⟩) hS ?_; rotate_left; (focus (intro w0_ hSw; go_simp; try with_reducible rfl)); try simp only [Act.put, List.setIfInBounds_toArray, List.set_cons_zero, List.set_cons_succ])
        (refine take_p (i := 1) (v := ?_) rfl (by kernel_rfl) (by kernel_rfl) (by kernel_rfl) (fun _ _ _ h => h) (Or.inl ⟨by rfl, ?_⟩) hS ?_; rotate_left; (focus (intro w0_ hSw; have z0_ := hSw.cell_some (fun h => h) x0; go_simp; try with_reducible rfl)); try simp only [Act.put, List.setIfInBounds_toArray, List.set_cons_zero, List.set_cons_succ])
        refine wpAnyH_ready (rs := [2]) (by kernel_rfl) (by simp) ?_
        refine cons_p rfl (fun K_ hK => ?_) AllReadyH.nil
        go_simp
        refine (may_s z.nm hz _).mono ?_
        rintro e w6 ⟨rfl, hs6⟩
        rw [hma]
        refine hK.out _ _ (hS.still hs6) (fun hHeld => ?_)
        replace hS := hS.still hs6
        clear hK K_ hHeld hs6
        try simp only [Act.put, List.setIfInBounds_toArray, List.set_cons_zero, List.set_cons_succ]
        (refine take_p (i := 3) (v := ?_) rfl (by kernel_rfl) (by kernel_rfl) (by kernel_rfl) (fun _ _ _ h => h) (Or.inl ⟨by rfl, ?_⟩) hS ?_; rotate_left; (focus (intro w0_ hSw; go_simp; try with_reducible rfl)); try simp only [Act.put, List.setIfInBounds_toArray, List.set_cons_zero, List.set_cons_succ])
        (refine take_p (i := 4) (v := ?_) rfl (by kernel_rfl) (by kernel_rfl) (by kernel_rfl) (fun _ _ _ h => h) (Or.inl ⟨by rfl, ?_⟩) hS ?_; rotate_left; (focus (intro w0_ hSw; go_simp; try with_reducible rfl)); try simp only [Act.put, List.setIfInBounds_toArray, List.set_cons_zero, List.set_cons_succ])
        (refine take_p (i := 5) (v := ?_) rfl (by kernel_rfl) (by kernel_rfl) (by kernel_rfl) (fun _ _ _ h => h) (Or.inl ⟨by rfl, ?_⟩) hS ?_; rotate_left; (focus (intro w0_ hSw; go_simp; try with_reducible rfl)); try simp only [Act.put, List.setIfInBounds_toArray, List.set_cons_zero, List.set_cons_succ])
        (refine take_p (i := 6) (v := ?_) rfl (by kernel_rfl) (by kernel_rfl) (by kernel_rfl) (fun _ _ _ h => h) (Or.inl ⟨by rfl, ?_⟩) hS ?_; rotate_left; (focus (intro w0_ hSw; have z0_ := hSw.cell_some (fun h => h) x0; go_simp; try with_reducible rfl)); try simp only [Act.put, List.setIfInBounds_toArray, List.set_cons_zero, List.set_cons_succ])
        (refine take_p (i := 8) (v := ?_) rfl (by kernel_rfl) (by kernel_rfl) (by kernel_rfl) (fun _ _ _ h => h) (Or.inl ⟨by rfl, ?_⟩) hS ?_; rotate_left; (focus (intro w0_ hSw; go_simp; try with_reducible rfl)); try simp only [Act.put, List.setIfInBounds_toArray, List.set_cons_zero, List.set_cons_succ])
        (refine take_p (i := 9) (v := ?_) rfl (by kernel_rfl) (by kernel_rfl) (by kernel_rfl) (fun _ _ _ h => h) (Or.inl ⟨by rfl, ?_⟩) hS ?_; rotate_left; (focus (intro w0_ hSw; have z0_ := hSw.cell_some (fun h => h) x0; go_simp; try with_reducible rfl)); try simp only [Act.put, List.setIfInBounds_toArray, List.set_cons_zero, List.set_cons_succ])
        refine wpAnyH_ready (rs := [7]) (by kernel_rfl) (by simp) ?_
        refine cons_p rfl (fun K_ hK => ?_) AllReadyH.nil
        go_simp
        refine (fold_s z.nm hz _).mono ?_
        rintro e w7 ⟨rfl, hs7⟩
        refine hK.out _ _ (hS.still hs7) (fun hHeld => ?_)
        replace hS := hS.still hs7
        clear hK K_ hHeld hs7
        try simp only [Act.put, List.setIfInBounds_toArray, List.set_cons_zero, List.set_cons_succ]
        (refine take_p (i := 10) (v := ?_) rfl (by kernel_rfl) (by kernel_rfl) (by kernel_rfl) (fun _ _ _ h => h) (Or.inl ⟨by rfl, ?_⟩) hS ?_; rotate_left; (focus (intro w0_ hSw; go_simp; try with_reducible rfl)); try simp only [Act.put, List.setIfInBounds_toArray, List.set_cons_zero, List.set_cons_succ])
        (refine take_p (i := 11) (v := ?_) rfl (by kernel_rfl) (by kernel_rfl) (by kernel_rfl) (fun _ _ _ h => h) (Or.inl ⟨by rfl, ?_⟩) hS ?_; rotate_left; (focus (intro w0_ hSw; go_simp; try with_reducible rfl)); try simp only [Act.put, List.setIfInBounds_toArray, List.set_cons_zero, List.set_cons_succ])
        (refine take_p (i := 12) (v := ?_) rfl (by kernel_rfl) (by kernel_rfl) (by kernel_rfl) (fun _ _ _ h => h) (Or.inl ⟨by rfl, ?_⟩) hS ?_; rotate_left; (focus (intro w0_ hSw; go_simp; try with_reducible rfl)); try simp only [Act.put, List.setIfInBounds_toArray, List.set_cons_zero, List.set_cons_succ])
        (refine take_p (i := 13) (v := ?_) rfl (by kernel_rfl) (by kernel_rfl) (by kernel_rfl) (fun _ _ _ h => h) (Or.inl ⟨by rfl, ?_⟩) hS ?_; rotate_left; (focus (intro w0_ hSw; go_simp; try with_reducible rfl)); try simp only [Act.put, List.setIfInBounds_toArray, List.set_cons_zero, List.set_cons_succ])
        (refine take_p (i := 14) (v := ?_) rfl (by kernel_rfl) (by kernel_rfl) (by kernel_rfl) (fun _ _ _ h => h) (Or.inl ⟨by rfl, ?_⟩) hS ?_; rotate_left; (focus (intro w0_ hSw; have z0_ := hSw.cell_some (fun h => h) x1; go_simp; try with_reducible rfl)); try simp only [Act.put, List.setIfInBounds_toArray, List.set_cons_zero, List.set_cons_succ])
        (refine take_p (i := 15) (v := ?_) rfl (by kernel_rfl) (by kernel_rfl) (by kernel_rfl) (fun _ _ _ h => h) (Or.inl ⟨by rfl, ?_⟩) hS ?_; rotate_left; (focus (intro w0_ hSw; go_simp; try with_reducible rfl)); try simp only [Act.put, List.setIfInBounds_toArray, List.set_cons_zero, List.set_cons_succ])
        (refine take_p (i := 16) (v := ?_) rfl (by kernel_rfl) (by kernel_rfl) (by kernel_rfl) (fun _ _ _ h => h) (Or.inl ⟨by rfl, ?_⟩) hS ?_; rotate_left; (focus (intro w0_ hSw; go_simp; try with_reducible rfl)); try simp only [Act.put, List.setIfInBounds_toArray, List.set_cons_zero, List.set_cons_succ])
        (refine take_p (i := 17) (v := ?_) rfl (by kernel_rfl) (by kernel_rfl) (by kernel_rfl) (fun _ _ _ h => h) (Or.inl ⟨by rfl, ?_⟩) hS ?_; rotate_left; (focus (intro w0_ hSw; go_simp; try with_reducible rfl)); try simp only [Act.put, List.setIfInBounds_toArray, List.set_cons_zero, List.set_cons_succ])
        (refine take_p (i := 18) (v := undef) rfl (by kernel_rfl) (by kernel_rfl) (by kernel_rfl) (fun _ _ _ h => h) (Or.inr ⟨by rfl, rfl⟩) hS ?_; try simp only [Act.put, List.setIfInBounds_toArray, List.set_cons_zero, List.set_cons_succ])
        (refine take_p (i := 19) (v := undef) rfl (by kernel_rfl) (by kernel_rfl) (by kernel_rfl) (fun _ _ _ h => h) (Or.inr ⟨by rfl, rfl⟩) hS ?_; try simp only [Act.put, List.setIfInBounds_toArray, List.set_cons_zero, List.set_cons_succ])
        (refine take_p (i := 20) (v := undef) rfl (by kernel_rfl) (by kernel_rfl) (by kernel_rfl) (fun _ _ _ h => h) (Or.inr ⟨by rfl, rfl⟩) hS ?_; try simp only [Act.put, List.setIfInBounds_toArray, List.set_cons_zero, List.set_cons_succ])
        (refine take_p (i := 21) (v := ?_) rfl (by kernel_rfl) (by kernel_rfl) (by kernel_rfl) (fun _ _ _ h => h) (Or.inl ⟨by rfl, ?_⟩) hS ?_; rotate_left; (focus (intro w0_ hSw; go_simp; try with_reducible rfl)); try simp only [Act.put, List.setIfInBounds_toArray, List.set_cons_zero, List.set_cons_succ])
        refine wpAnyH_done (by kernel_rfl) ?_ _
        have hadd : add1 Z z = 3 := by
          unfold add1 good
          simp_all
        have hSz := ((Only.refl _ w0).drew : Still w0 w0.drew).still hS
        go_wp2_with fail
        go_ret
        exact ⟨ret_int (by rw [HR.out, hadd]; rfl), by rw [HZ.out, HR.out, hadd]; exact ⟨bo, no, β, hB0.still hSz⟩, hS0.still hSz⟩
    · have hff : ((foldS z.nm).toList == z.nm.toList) = false := by rw [list_beq, decide_eq_false hf]
      refine wp_region_held_drew (S := fun w' => Still w0.drew w') (by kernel_rfl) (Only.refl _ _) (fun hS => ?_)
      (refine take_p (i := 0) (v := ?_) rfl (by kernel_rfl) (by kernel_rfl) (by kernel_rfl) (fun _ _ _ h => h) (Or.inl ⟨by rfl, ?_⟩) hS ?_; rotate_left; (focus (intro w0_ hSw; go_simp; try with_reducible rfl)); try simp only [Act.put, List.setIfInBounds_toArray, List.set_cons_zero, List.set_cons_succ])
      (refine take_p (i := 1) (v := ?_) rfl (by kernel_rfl) (by kernel_rfl) (by kernel_rfl) (fun _ _ _ h => h) (Or.inl ⟨by rfl, ?_⟩) hS ?_; rotate_left; (focus (intro w0_ hSw; have z0_ := hSw.cell_some (fun h => h) x0; go_simp; try with_reducible rfl)); try simp only [Act.put, List.setIfInBounds_toArray, List.set_cons_zero, List.set_cons_succ])
      refine wpAnyH_ready (rs := [2]) (by kernel_rfl) (by simp) ?_
      refine cons_p rfl (fun K_ hK => ?_) AllReadyH.nil
      go_simp
      refine (may_s z.nm hz _).mono ?_
      rintro e w6 ⟨rfl, hs6⟩
      rw [hma]
      refine hK.out _ _ (hS.still hs6) (fun hHeld => ?_)
      replace hS := hS.still hs6
      clear hK K_ hHeld hs6
      try simp only [Act.put, List.setIfInBounds_toArray, List.set_cons_zero, List.set_cons_succ]
      (refine take_p (i := 3) (v := ?_) rfl (by kernel_rfl) (by kernel_rfl) (by kernel_rfl) (fun _ _ _ h => h) (Or.inl ⟨by rfl, ?_⟩) hS ?_; rotate_left; (focus (intro w0_ hSw; go_simp; try with_reducible rfl)); try simp only [Act.put, List.setIfInBounds_toArray, List.set_cons_zero, List.set_cons_succ])
      (refine take_p (i := 4) (v := ?_) rfl (by kernel_rfl) (by kernel_rfl) (by kernel_rfl) (fun _ _ _ h => h) (Or.inl ⟨by rfl, ?_⟩) hS ?_; rotate_left; (focus (intro w0_ hSw; go_simp; try with_reducible rfl)); try simp only [Act.put, List.setIfInBounds_toArray, List.set_cons_zero, List.set_cons_succ])
      (refine take_p (i := 5) (v := ?_) rfl (by kernel_rfl) (by kernel_rfl) (by kernel_rfl) (fun _ _ _ h => h) (Or.inl ⟨by rfl, ?_⟩) hS ?_; rotate_left; (focus (intro w0_ hSw; go_simp; try with_reducible rfl)); try simp only [Act.put, List.setIfInBounds_toArray, List.set_cons_zero, List.set_cons_succ])
      (refine take_p (i := 6) (v := ?_) rfl (by kernel_rfl) (by kernel_rfl) (by kernel_rfl) (fun _ _ _ h => h) (Or.inl ⟨by rfl, ?_⟩) hS ?_; rotate_left; (focus (intro w0_ hSw; have z0_ := hSw.cell_some (fun h => h) x0; go_simp; try with_reducible rfl)); try simp only [Act.put, List.setIfInBounds_toArray, List.set_cons_zero, List.set_cons_succ])
      (refine take_p (i := 8) (v := ?_) rfl (by kernel_rfl) (by kernel_rfl) (by kernel_rfl) (fun _ _ _ h => h) (Or.inl ⟨by rfl, ?_⟩) hS ?_; rotate_left; (focus (intro w0_ hSw; go_simp; try with_reducible rfl)); try simp only [Act.put, List.setIfInBounds_toArray, List.set_cons_zero, List.set_cons_succ])
      (refine take_p (i := 9) (v := ?_) rfl (by kernel_rfl) (by kernel_rfl) (by kernel_rfl) (fun _ _ _ h => h) (Or.inl ⟨by rfl, ?_⟩) hS ?_; rotate_left; (focus (intro w0_ hSw; have z0_ := hSw.cell_some (fun h => h) x0; go_simp; try with_reducible rfl)); try simp only [Act.put, List.setIfInBounds_toArray, List.set_cons_zero, List.set_cons_succ])
      refine wpAnyH_ready (rs := [7]) (by kernel_rfl) (by simp) ?_
      refine cons_p rfl (fun K_ hK => ?_) AllReadyH.nil
      go_simp
      refine (fold_s z.nm hz _).mono ?_
      rintro e w7 ⟨rfl, hs7⟩
      refine hK.out _ _ (hS.still hs7) (fun hHeld => ?_)
      replace hS := hS.still hs7
      clear hK K_ hHeld hs7
      try simp only [Act.put, List.setIfInBounds_toArray, List.set_cons_zero, List.set_cons_succ]
      (refine take_p (i := 10) (v := ?_) rfl (by kernel_rfl) (by kernel_rfl) (by kernel_rfl) (fun _ _ _ h => h) (Or.inl ⟨by rfl, ?_⟩) hS ?_; rotate_left; (focus (intro w0_ hSw; go_simp; try with_reducible rfl)); try simp only [Act.put, List.setIfInBounds_toArray, List.set_cons_zero, List.set_cons_succ])
      (refine take_p (i := 11) (v := ?_) rfl (by kernel_rfl) (by kernel_rfl) (by kernel_rfl) (fun _ _ _ h => h) (Or.inl ⟨by rfl, ?_⟩) hS ?_; rotate_left; (focus (intro w0_ hSw; go_simp; try with_reducible rfl)); try simp only [Act.put, List.setIfInBounds_toArray, List.set_cons_zero, List.set_cons_succ])
      (refine take_p (i := 12) (v := ?_) rfl (by kernel_rfl) (by kernel_rfl) (by kernel_rfl) (fun _ _ _ h => h) (Or.inl ⟨by rfl, ?_⟩) hS ?_; rotate_left; (focus (intro w0_ hSw; go_simp; try with_reducible rfl)); try simp only [Act.put, List.setIfInBounds_toArray, List.set_cons_zero, List.set_cons_succ])
      (refine take_p (i := 13) (v := undef) rfl (by kernel_rfl) (by kernel_rfl) (by kernel_rfl) (fun _ _ _ h => h) (Or.inr ⟨by rfl, rfl⟩) hS ?_; try simp only [Act.put, List.setIfInBounds_toArray, List.set_cons_zero, List.set_cons_succ])
      (refine take_p (i := 14) (v := undef) rfl (by kernel_rfl) (by kernel_rfl) (by kernel_rfl) (fun _ _ _ h => h) (Or.inr ⟨by rfl, rfl⟩) hS ?_; try simp only [Act.put, List.setIfInBounds_toArray, List.set_cons_zero, List.set_cons_succ])
      (refine take_p (i := 15) (v := undef) rfl (by kernel_rfl) (by kernel_rfl) (by kernel_rfl) (fun _ _ _ h => h) (Or.inr ⟨by rfl, rfl⟩) hS ?_; try simp only [Act.put, List.setIfInBounds_toArray, List.set_cons_zero, List.set_cons_succ])
      (refine take_p (i := 16) (v := ?_) rfl (by kernel_rfl) (by kernel_rfl) (by kernel_rfl) (fun _ _ _ h => h) (Or.inl ⟨by rfl, ?_⟩) hS ?_; rotate_left; (focus (intro w0_ hSw; go_simp; try with_reducible rfl)); try simp only [Act.put, List.setIfInBounds_toArray, List.set_cons_zero, List.set_cons_succ])
      (refine take_p (i := 17) (v := ?_) rfl (by kernel_rfl) (by kernel_rfl) (by kernel_rfl) (fun _ _ _ h => h) (Or.inl ⟨by rfl, ?_⟩) hS ?_; rotate_left; (focus (intro w0_ hSw; go_simp; try with_reducible rfl)); try simp only [Act.put, List.setIfInBounds_toArray, List.set_cons_zero, List.set_cons_succ])
      (refine take_p (i := 18) (v := undef) rfl (by kernel_rfl) (by kernel_rfl) (by kernel_rfl) (fun _ _ _ h => h) (Or.inr ⟨by rfl, rfl⟩) hS ?_; try simp only [Act.put, List.setIfInBounds_toArray, List.set_cons_zero, List.set_cons_succ])
      (refine take_p (i := 19) (v := undef) rfl (by kernel_rfl) (by kernel_rfl) (by kernel_rfl) (fun _ _ _ h => h) (Or.inr ⟨by rfl, rfl⟩) hS ?_; try simp only [Act.put, List.setIfInBounds_toArray, List.set_cons_zero, List.set_cons_succ])
      (refine take_p (i := 20) (v := undef) rfl (by kernel_rfl) (by kernel_rfl) (by kernel_rfl) (fun _ _ _ h => h) (Or.inr ⟨by rfl, rfl⟩) hS ?_; try simp only [Act.put, List.setIfInBounds_toArray, List.set_cons_zero, List.set_cons_succ])
      (refine take_p (i := 21) (v := ?_) rfl (by kernel_rfl) (by kernel_rfl) (by kernel_rfl) (fun _ _ _ h => h) (Or.inl ⟨by rfl, ?_⟩) hS ?_; rotate_left; (focus (intro w0_ hSw; go_simp; try with_reducible rfl)); try simp only [Act.put, List.setIfInBounds_toArray, List.set_cons_zero, List.set_cons_succ])
      refine wpAnyH_done (by kernel_rfl) ?_ _
      have hadd : add1 Z z = 3 := by
        unfold add1 good
        simp_all
      have hSz := ((Only.refl _ w0).drew : Still w0 w0.drew).still hS
      go_wp2_with fail
      go_ret
      exact ⟨ret_int (by rw [HR.out, hadd]; rfl), by rw [HZ.out, HR.out, hadd]; exact ⟨bo, no, β, hB0.still hSz⟩, hS0.still hSz⟩
end Go.Proofs.Ytinjfongndlpgaa
