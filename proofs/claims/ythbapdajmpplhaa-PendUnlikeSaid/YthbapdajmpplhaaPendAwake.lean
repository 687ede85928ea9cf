/-
  law29: awake.
-/
import Derived.Test.YthbapdajmpplhaaPendDoes
namespace Go.Proofs.Ythbapdajmpplhaa
open Go.RowKit
open Go.Maps (Keyed)
set_option linter.unusedVariables false
set_option linter.unusedSimpArgs false

def tapeX : List Int := [5, 65541, 65535, 131071, 5]
def oA : List Out := []
def oB : List Out := [⟨0, 1, 5⟩]
def oC : List Out := [⟨0, 1, 5⟩, ⟨0, 2, 6⟩]
def oD : List Out := [⟨0, 1, 5⟩, ⟨0, 2, 6⟩, ⟨0, 3, 65535⟩]
def oE : List Out := [⟨0, 1, 5⟩, ⟨0, 2, 6⟩, ⟨0, 3, 65535⟩, ⟨0, 4, 0⟩]
def oF : List Out := [⟨0, 1, 5⟩, ⟨0, 3, 65535⟩, ⟨0, 4, 0⟩]
theorem nA : nextO oA 0 (low16 (draw 0 tapeX 0)) = 5 := by
  rw [show low16 (draw 0 tapeX 0) = 5 from by kernel_rfl]
  exact (nextO_of 0 (by omega) (by kernel_rfl) (fun j hj => by omega)).2
theorem nB : nextO oB 0 (low16 (draw 0 tapeX 1)) = 6 := by
  rw [show low16 (draw 0 tapeX 1) = 5 from by kernel_rfl]
  exact (nextO_of 1 (by omega) (by kernel_rfl) (fun j hj => by obtain rfl : j = 0 := (by omega); kernel_rfl)).2
theorem nC : nextO oC 0 (low16 (draw 0 tapeX 2)) = 65535 := by
  rw [show low16 (draw 0 tapeX 2) = 65535 from by kernel_rfl]
  exact (nextO_of 0 (by omega) (by kernel_rfl) (fun j hj => by omega)).2
theorem nD : nextO oD 0 (low16 (draw 0 tapeX 3)) = 0 := by
  rw [show low16 (draw 0 tapeX 3) = 65535 from by kernel_rfl]
  exact (nextO_of 1 (by omega) (by kernel_rfl) (fun j hj => by obtain rfl : j = 0 := (by omega); kernel_rfl)).2
theorem nF : nextO oF 0 (low16 (draw 0 tapeX 4)) = 6 := by
  rw [show low16 (draw 0 tapeX 4) = 5 from by kernel_rfl]
  exact (nextO_of 1 (by omega) (by kernel_rfl) (fun j hj => by obtain rfl : j = 0 := (by omega); kernel_rfl)).2
theorem eql_tape (g : Nat) (w : World) : (binOp .eql 27 (.pointer (some ⟨g, 0, none⟩)) (.pointer none)).run Try.prog w = .ok (.bool false) w := by kernel_rfl

/-- The rounds: the table, the tape's number, what is drawn. -/
def rnd : Nat → List Out
  | 0 => oA | 1 => oB | 2 => oC | 3 => oD | _ => oE
def wnt : Nat → Nat
  | 0 => 5 | 1 => 6 | 2 => 65535 | _ => 0
theorem rnd_next (k : Nat) (hk : k < 4) : nextO (rnd k) 0 (low16 (draw 0 tapeX k)) = wnt k ∧ rnd k ++ [⟨0, (k : Int) + 1, wnt k⟩] = rnd (k + 1) := by
  match k, hk with
  | 0, _ => exact ⟨nA, rfl⟩
  | 1, _ => exact ⟨nB, rfl⟩
  | 2, _ => exact ⟨nC, rfl⟩
  | 3, _ => exact ⟨nD, rfl⟩
theorem rnd_len (k : Nat) (hk : k < 5) : (rnd k).length ≤ 10 := by
  match k, hk with
  | 0, _ => decide
  | 1, _ => decide
  | 2, _ => decide
  | 3, _ => decide
  | 4, _ => decide

theorem wc0 : (#[Value.int .u16 5, .int .u16 6, .int .u16 65535, .int .u16 0] : Array Value)[0]? = some (.int .u16 ((wnt 0 : Nat) : Int)) := by kernel_rfl
theorem wc1 : (#[Value.int .u16 5, .int .u16 6, .int .u16 65535, .int .u16 0] : Array Value)[1]? = some (.int .u16 ((wnt 1 : Nat) : Int)) := by kernel_rfl
theorem wc2 : (#[Value.int .u16 5, .int .u16 6, .int .u16 65535, .int .u16 0] : Array Value)[2]? = some (.int .u16 ((wnt 2 : Nat) : Int)) := by kernel_rfl
theorem wc3 : (#[Value.int .u16 5, .int .u16 6, .int .u16 65535, .int .u16 0] : Array Value)[3]? = some (.int .u16 ((wnt 3 : Nat) : Int)) := by kernel_rfl
theorem wnt_cell : ∀ (k : Nat) (hk : k < 4), (#[Value.int .u16 5, .int .u16 6, .int .u16 65535, .int .u16 0] : Array Value)[k]? = some (.int .u16 (wnt k : Nat))
  | 0, _ => wc0
  | 1, _ => wc1
  | 2, _ => wc2
  | 3, _ => wc3
  | n + 4, h => absurd h (by omega)
set_option maxRecDepth 1000000 in
set_option maxHeartbeats 6400000 in
theorem pend_awake (w : World) : Calls Try.prog 9 #[] w fun e w' => e = .returned (.bool true) ∧ Still w w' := by
  have hq := eql_tape
  go_enter Try.func9, Try.ntmps9
  go_wp2_with (go_at_call 10; refine (new_pend w 2 (by omega) (by omega)).mono ?_; rintro e w1 ⟨t, bs, rfl, hlen, hP1, ht1, hb1, hst1⟩)
  have hs2 := Still.new w1 (.cells #[.int .u64 5, .int .u64 65541, .int .u64 65535, .int .u64 131071, .int .u64 5] 29)
  have hr := Reads.of_own (World.ownsRow_lit (e := 29) (size := 1) (base := 0) w1 #[.int .u64 5, .int .u64 65541, .int .u64 65535, .int .u64 131071, .int .u64 5] 5 (Nat.zero_le _) (by unfold maxLen; omega) rfl)
  go_wp2_with (go_at_call 11; refine (new_any 0 _ 5 5 tapeX _ hr (by simp) (by omega) (by omega) (by omega) (by unfold tapeX; simp)).mono ?_; rintro e w3 ⟨g, rfl, hg, hT3, hst3⟩)
  have hP3 := (hP1.still hs2).still hst3
  have hS3 := (hst1.still hs2).still hst3
  have hgw : w.heap.size ≤ g := by have := hst1.size; have := hs2.size; omega
  clear hP1 hs2 hr hst3 hst1 hg
  have hs4 := Still.new w3 (.cells #[.int .u16 5, .int .u16 6, .int .u16 65535, .int .u16 0] 32)
  have hB := Blk.new w3 32 #[.int .u16 5, .int .u16 6, .int .u16 65535, .int .u16 0]
  have hP4 := hP3.still hs4
  have hT4 := hT3.still hs4
  have hS4 := hS3.still hs4
  obtain ⟨w4, hw4⟩ : ∃ w4, w4 = w3.alloc (.cells #[.int .u16 5, .int .u16 6, .int .u16 65535, .int .u16 0] 32) := ⟨_, rfl⟩
  obtain ⟨q, hq'⟩ : ∃ q, q = w3.heap.size := ⟨_, rfl⟩
  have hgq : g < q := by have := hT3.lt; omega
  have hbq : ∀ b ∈ bs, b < q := fun b hb => by have := hP3.b_lt hb; omega
  rw [← hw4] at hB hP4 hT4 hS4 ⊢
  rw [← hq'] at hB ⊢
  clear hw4 hq' hs4 hP3 hT3 hS3
  have Hlen := Lib.hid hlen
  clear hlen
  go_loopw [4, 5, 28] (fun _ _ i wr => ∃ k : Nat, k ≤ 4 ∧ i = .int .i64 k ∧ PT wr t bs (rnd k) ∧ Tape wr g 0 tapeX k ∧ Blk wr q 32 #[.int .u16 5, .int .u16 6, .int .u16 65535, .int .u16 0] ∧ Hid (Still w wr)) (fun _ _ i _ => 4 - (intOf i).toNat)
  case atStart => exact ⟨0, by omega, rfl, hP4, hT4, hB, Lib.hid hS4⟩
  case round =>
    clear hP4 hT4 hB hS4
    obtain ⟨k, hk, rfl, hP, hT, hB, hst⟩ := hrel
    by_cases hlt : k < 4
    · have hn := Lib.hid (rnd_next k hlt)
      have hcell : wr.cell? ⟨q, k, none⟩ = some (.int .u16 (wnt k : Nat)) := by
        rw [hB.cell k]; exact wnt_cell k hlt
      have hl := rnd_len k (by omega)
      go_wp2_with (go_at_call 12; refine (draw_in hP hT (by omega) 0 ((k : Int) + 1) (by have := Hlen.out; omega) (by omega) (by have := lenO_le (rnd k) 0; omega)).mono ?_; rintro e w5 ⟨rfl, r1, r2, r3⟩; rw [hn.out.1] at r1 ⊢; rw [hn.out.2] at r1)
      go_roundw
      case rel => exact ⟨k + 1, hlt, by go_num, r1, r2, hB.only r3 (fun e => e.elim (fun e => by have := hbq q e; omega) (fun e => by omega)), Lib.hid (hst.out.trans r3 (fun i hi e => e.elim (fun e => by have := hb1 i e; omega) (fun e => by omega)))⟩
      case measure => simp [intOf]; omega
    · obtain rfl : k = 4 := by omega
      have hP : PT wr t bs oE := hP
      have h2 : bs.length = 2 := Hlen.out
      have e1 : findI bs.length oE 0 6 = some 2 := by unfold findI; rw [if_pos (by omega)]; rfl
      have e2 : findI bs.length oE 1 6 = none := by unfold findI; rw [if_pos (by omega)]; rfl
      have E1 := Lib.hid e1
      have E2 := Lib.hid e2
      have H2 := Lib.hid h2
      clear e1 e2 h2
      go_wp2_with fail
      refine (find_any hP 0 6 (by omega)).mono ?_
      rintro e w5 ⟨rfl, rfl⟩
      rw [E1.out]
      dsimp only [Option.getD, Option.isSome]
      go_wp2_with fail
      refine (find_any hP 1 6 (by omega)).mono ?_
      rintro e w5 ⟨rfl, rfl⟩
      rw [E2.out]
      dsimp only [Option.getD, Option.isSome]
      go_wp2_with fail
      refine (free_any hP 2 (by decide)).mono ?_
      rintro e w5 ⟨rfl, r1, r3⟩
      rw [show freeO 2 oE = oF from by decide] at r1 ⊢
      rw [show (oE.length - oF.length : Nat) = 1 from by decide]
      have hT5 := hT.maps hP r3
      have hS5 : Hid (Still w w5) := Lib.hid (hst.out.trans r3 (fun i hi e => by have := hb1 i e; omega))
      go_wp2_with fail
      refine (draw_in r1 hT5 (by omega) 0 9 (by have := H2.out; omega) (by omega) (by decide)).mono ?_
      rintro e w6 ⟨rfl, q1, q2, q3⟩
      rw [nF] at q1 ⊢
      go_wp2_with fail
      refine (len_any q1 0).mono ?_
      rintro e w7 ⟨rfl, rfl⟩
      rw [show lenI bs.length (oF ++ [⟨0, 9, 6⟩]) 0 = 4 from by unfold lenI; rw [if_pos (by have := H2.out; omega)]; rfl]
      go_wp2_with fail
      go_ret
      exact ⟨rfl, hS5.out.trans q3 (fun i hi e => e.elim (fun e => by have := hb1 i e; omega) (fun e => by omega))⟩
end Go.Proofs.Ythbapdajmpplhaa
