/-
  CursorPlaces: At and Left together are how many bytes there are; what is read moves the place, what is refused does not; for every text of at most 20000 bytes and at most 300 acts.
-/
import Derived.Test.YtkpogngbajkgmaaDoorCurStep
namespace Go.Proofs.YtkpogngbajkgmaaDoor
open Go.RowKit
set_option linter.unusedVariables false

set_option maxRecDepth 1000000 in
set_option maxHeartbeats 6400000 in
theorem places_walk (w : World) (he : ErrT w) (s : ByteArray) (hs : s.size ≤ 20000) (C : Option Addr) (m cc : Nat) (l : List (Int × Int)) (hm : m ≤ 300) (hl : l.length = m) (hr : Reads w w.heap.size 2 C m (actCells l))
    (hw : ∀ p ∈ l, (Lit.int .u8 p.1).wf = true ∧ (Lit.int .i64 p.2).wf = true) :
    Calls Tryd.prog 8 #[.string s, .slice C m cc] w fun e w' => e = .returned (.bool true) ∧ Still w w' := by
  have h20 : ¬ (20000 : Int) < (s.size : Int) := by omega
  have h20d : decide ((20000 : Int) < (s.size : Int)) = false := decide_eq_false h20
  have h300 : ¬ (300 : Int) < (m : Int) := by omega
  have hmax : s.size ≤ maxLen := by unfold maxLen; omega
  have Hl := Lib.hid hl
  have Hw := Lib.hid hw
  clear hl hw
  go_enter Tryd.func8, Tryd.ntmps8
  go_wp2_with fail
  refine (cur_awake _ he).mono ?_
  rintro e w0 ⟨rfl, hs0⟩
  have he0 := he.still hs0
  clear he
  go_wp2_with fail
  refine (cur_new _ _).mono ?_
  rintro e w1 ⟨g, rfl, hg, h1, hst⟩
  have he1 := he0.still hst
  have hgw : w.heap.size ≤ g := by have := hs0.size; omega
  have hs1 := hs0.still hst
  clear he0 hs0 hst hg
  go_wp2_with fail
  go_loopw [6] (fun i wr => ∃ k a : Nat, k ≤ m ∧ i = .int .i64 k ∧ a ≤ s.size ∧ Cur wr g s a ∧ ErrT wr ∧ Hid (Still w wr)) (fun i _ => m - (intOf i).toNat)
  case atStart => exact ⟨0, 0, by omega, rfl, by omega, h1, he1, Lib.hid hs1⟩
  case round =>
    clear h1 he1 hs1
    obtain ⟨k, a, hk, rfl, ha, hc, heT, hst⟩ := hrel
    by_cases hlt : k < m
    · have hrr := hr.only hst.out (Nat.le_refl _) (fun _ _ h => h)
      obtain ⟨bl, off, what, n, rfl, hbl, hlk, c0, c1⟩ := act_cells hrr Hl.out hlt
      have hwa := Hw.out _ (List.mem_of_getElem? hlk)
      have hw0 : 0 ≤ what ∧ what < 256 := wf_u8 hwa.1
      obtain ⟨hw0, hw1⟩ := hw0
      have hbg : ¬ bl = g := by omega
      have hle := stepS_le s.size a what n ha
      have hbad := stepS_bad s.size a what n
      have hgood := stepS_good s.size a what n
      have hseek := stepS_seek s.size a what n
      have hee := stepS_e s.size a what n
      obtain ⟨N, E, b, hsp⟩ : ∃ N E b, stepS s.size a what n = (N, E, b) := ⟨_, _, _, rfl⟩
      rw [hsp] at hle hbad hgood hseek hee
      simp only at hle hbad hgood hseek hee
      have Hsp := Lib.hid hsp
      have Hbad := Lib.hid hbad
      have Hgood := Lib.hid hgood
      have Hseek := Lib.hid hseek
      obtain ⟨hE0, hE4⟩ := hee
      clear hsp hbad hgood hseek hwa hlk hrr
      go_wp2_with fail
      refine (At_any hc).mono ?_
      rintro e w2 ⟨rfl, rfl⟩
      go_wp2_with fail
      refine (step_any hc heT ha (by omega) what n).mono ?_
      rintro e w2 ⟨he2, hc2, ho2⟩
      rw [Hsp.out] at he2 hc2
      simp only at he2 hc2
      subst he2
      have heT2 := heT.by_cur hc ho2
      have hst2 := hst.out.trans ho2 (fun i hi e => by omega)
      have k0 := ho2.cell_some (p := ⟨bl, off + k * 2, none⟩) hbg c0
      have k1 := ho2.cell_some (p := ⟨bl, off + k * 2 + 1, none⟩) hbg c1
      have hbz : (b : Int) + ((s.size : Int) - b) = (s.size : Int) := by omega
      clear hc heT ho2 c0 c1 hst
      by_cases hE : E = 0
      · subst hE
        by_cases hw4 : what < 4
        · obtain ⟨hb, hN0⟩ := Hgood.out hw4 hw0 rfl
          have y1 : IntKind.i64.wrap ((a : Int) + N) = (b : Int) := by rw [IntWalk.i64_in _ (by omega)]; omega
          have y2 : IntKind.i64.wrap ((b : Int) + ((s.size : Int) - b)) = (s.size : Int) := by rw [IntWalk.i64_in _ (by omega)]; omega
          have d1 : decide (what < 4) = true := decide_eq_true hw4
          have d2 : decide (4 ≤ what) = false := decide_eq_false (by omega)
          have d3 : decide (3 < what) = false := decide_eq_false (by omega)
          have hw3 : ¬ 3 < what := by omega
          have Hb := Lib.hid hb
          clear hbz hb
          go_wp2_with fail
          go_quiet ((first
            | (go_at_call 25; exact quiet_left (At_any (hc2.still ((Only.refl _ _).drewN _))))
            | (go_at_call 26; exact quiet_draws (Left_any (hc2.still ((Only.refl _ _).drewN _)) (by omega) hmax))))
          have hc3 := hc2.still ((Only.refl (fun _ => False) w2).drewN nq)
          have heT3 := heT2.still ((Only.refl (fun _ => False) w2).drewN nq)
          have hst3 := hst2.drewN nq
          have k0' : (w2.drewN nq).cell? ⟨bl, off + k * 2, none⟩ = some (.int .u8 what) := k0
          have k1' : (w2.drewN nq).cell? ⟨bl, off + k * 2 + 1, none⟩ = some (.int .i64 n) := k1
          generalize w2.drewN nq = w3 at *
          clear hc2 heT2 hst2 k0 k1
          go_wp2_with fail
          refine (Seek_in hc3 a ha).mono ?_
          rintro e w4 ⟨rfl, hc4, ho4⟩
          have heT4 := heT3.by_cur hc3 ho4
          have hst4 : Still w w4 := hst3.trans ho4 (fun i hi e => by omega)
          have k0 := ho4.cell_some (p := ⟨bl, off + k * 2, none⟩) hbg k0'
          have k1 := ho4.cell_some (p := ⟨bl, off + k * 2 + 1, none⟩) hbg k1'
          clear hc3 heT3 hst3 k0' k1' ho4
          go_wp2_with fail
          refine (step_any hc4 heT4 ha (by omega) what n).mono ?_
          rintro e w5 ⟨he5, hc5, ho5⟩
          rw [Hsp.out] at he5 hc5
          simp only at he5 hc5
          subst he5
          have heT5 := heT4.by_cur hc4 ho5
          have hst5 : Still w w5 := hst4.trans ho5 (fun i hi e => by omega)
          clear hc4 heT4 hst4 ho5 k0 k1
          go_wp2_with fail
          go_roundw
          case rel => exact ⟨k + 1, b, by omega, by go_num, hle, hc5, heT5, Lib.hid hst5⟩
          case measure => simp [intOf]; omega
        · have d1 : decide (what < 4) = false := decide_eq_false hw4
          have d2 : decide (4 ≤ what) = true := decide_eq_true (by omega)
          have d3 : 3 < what := by omega
          have d4 : decide (3 < what) = true := decide_eq_true d3
          have y2 : IntKind.i64.wrap ((b : Int) + ((s.size : Int) - b)) = (s.size : Int) := by rw [IntWalk.i64_in _ (by omega)]; omega
          have hbn := Hseek.out (by omega) rfl
          subst hbn
          clear hbz
          go_wp2_with fail
          go_quiet ((first
            | (go_at_call 25; exact quiet_left (At_any (hc2.still ((Only.refl _ _).drewN _))))
            | (go_at_call 26; exact quiet_draws (Left_any (hc2.still ((Only.refl _ _).drewN _)) (by omega) hmax))))
          have hc3 := hc2.still ((Only.refl (fun _ => False) w2).drewN nq)
          have heT3 := heT2.still ((Only.refl (fun _ => False) w2).drewN nq)
          have hst3 := hst2.drewN nq
          have k0' : (w2.drewN nq).cell? ⟨bl, off + k * 2, none⟩ = some (.int .u8 what) := k0
          have k1' : (w2.drewN nq).cell? ⟨bl, off + k * 2 + 1, none⟩ = some (.int .i64 (b : Int)) := k1
          generalize w2.drewN nq = w3 at *
          clear hc2 heT2 hst2 k0 k1
          go_wp2_with fail
          go_roundw
          case rel => exact ⟨k + 1, b, by omega, by go_num, hle, hc3, heT3, Lib.hid hst3⟩
          case measure => simp [intOf]; omega
      · have hba := Hbad.out hE
        subst hba
        have hEb : (E != 0) = true := by simp [hE]
        have hEb2 : (E == 0) = false := by simp [hE]
        have y1 : IntKind.i64.wrap ((b : Int) + 0) = (b : Int) := by rw [IntWalk.i64_in _ (by omega)]; omega
        have y2 : IntKind.i64.wrap ((b : Int) + ((s.size : Int) - b)) = (s.size : Int) := by rw [IntWalk.i64_in _ (by omega)]; omega
        clear hbz hE
        by_cases hw4 : what < 4
        · have d1 : decide (what < 4) = true := decide_eq_true hw4
          have d2 : decide (4 ≤ what) = false := decide_eq_false (by omega)
          have d3 : decide (3 < what) = false := decide_eq_false (by omega)
          have hw3 : ¬ 3 < what := by omega
          go_wp2_with fail
          go_quiet ((first
            | (go_at_call 25; exact quiet_left (At_any (hc2.still ((Only.refl _ _).drewN _))))
            | (go_at_call 26; exact quiet_draws (Left_any (hc2.still ((Only.refl _ _).drewN _)) (by omega) hmax))))
          have hc3 := hc2.still ((Only.refl (fun _ => False) w2).drewN nq)
          have heT3 := heT2.still ((Only.refl (fun _ => False) w2).drewN nq)
          have hst3 := hst2.drewN nq
          have k0' : (w2.drewN nq).cell? ⟨bl, off + k * 2, none⟩ = some (.int .u8 what) := k0
          have k1' : (w2.drewN nq).cell? ⟨bl, off + k * 2 + 1, none⟩ = some (.int .i64 n) := k1
          generalize w2.drewN nq = w3 at *
          clear hc2 heT2 hst2 k0 k1
          go_wp2_with fail
          go_roundw
          case rel => exact ⟨k + 1, b, by omega, by go_num, hle, hc3, heT3, Lib.hid hst3⟩
          case measure => simp [intOf]; omega
        · have d1 : decide (what < 4) = false := decide_eq_false hw4
          have d2 : decide (4 ≤ what) = true := decide_eq_true (by omega)
          have d3 : 3 < what := by omega
          have d4 : decide (3 < what) = true := decide_eq_true d3
          go_wp2_with fail
          go_quiet ((first
            | (go_at_call 25; exact quiet_left (At_any (hc2.still ((Only.refl _ _).drewN _))))
            | (go_at_call 26; exact quiet_draws (Left_any (hc2.still ((Only.refl _ _).drewN _)) (by omega) hmax))))
          have hc3 := hc2.still ((Only.refl (fun _ => False) w2).drewN nq)
          have heT3 := heT2.still ((Only.refl (fun _ => False) w2).drewN nq)
          have hst3 := hst2.drewN nq
          have k0' : (w2.drewN nq).cell? ⟨bl, off + k * 2, none⟩ = some (.int .u8 what) := k0
          have k1' : (w2.drewN nq).cell? ⟨bl, off + k * 2 + 1, none⟩ = some (.int .i64 n) := k1
          generalize w2.drewN nq = w3 at *
          clear hc2 heT2 hst2 k0 k1
          go_wp2_with fail
          go_roundw
          case rel => exact ⟨k + 1, b, by omega, by go_num, hle, hc3, heT3, Lib.hid hst3⟩
          case measure => simp [intOf]; omega
    · go_wp2_with fail
      go_ret
      exact ⟨rfl, hst.out⟩

theorem places_long (w : World) (he : ErrT w) (s : ByteArray) (C : Option Addr) (m cc : Nat) (h : 20000 < s.size ∨ 300 < m) :
    Calls Tryd.prog 8 #[.string s, .slice C m cc] w fun e w' => e = .returned (.bool true) ∧ Still w w' := by
  by_cases h1 : 20000 < s.size
  · have h20 : (20000 : Int) < (s.size : Int) := by omega
    go_enter Tryd.func8, Tryd.ntmps8
    go_wp2_with fail
    refine (cur_awake _ he).mono ?_
    rintro e w0 ⟨rfl, ho0⟩
    go_wp2
    go_ret
    exact ⟨rfl, ho0⟩
  · have h20 : ¬ (20000 : Int) < (s.size : Int) := by omega
    have h20d : decide ((20000 : Int) < (s.size : Int)) = false := decide_eq_false h20
    have h3 : (300 : Int) < (m : Int) := by omega
    go_enter Tryd.func8, Tryd.ntmps8
    go_wp2_with fail
    refine (cur_awake _ he).mono ?_
    rintro e w0 ⟨rfl, ho0⟩
    go_wp2
    go_ret
    exact ⟨rfl, ho0⟩

theorem places_all (w : World) (s : ByteArray) (hs : s.size ≤ maxLen) (C : Option Addr) (m cc : Nat) (l : List (Int × Int)) (hmc : m ≤ cc) (hc : cc ≤ maxLen) (hl : l.length = m) (hr : Reads w w.heap.size 2 C m (actCells l))
    (hw : ∀ p ∈ l, (Lit.int .u8 p.1).wf = true ∧ (Lit.int .i64 p.2).wf = true) (he : ErrT w) :
    Calls Tryd.prog 8 #[.string s, .slice C m cc] w fun e w' => e = .returned (.bool true) ∧ Still w w' := by
  by_cases h : 20000 < s.size ∨ 300 < m
  · exact places_long w he s C m cc h
  · exact places_walk w he s (by omega) C m cc l (by omega) hl hr hw
end Go.Proofs.YtkpogngbajkgmaaDoor
