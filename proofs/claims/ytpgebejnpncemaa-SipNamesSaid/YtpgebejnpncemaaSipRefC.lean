/-
  The reference of package sip: the number of 8 bytes; Sum.
-/
import Derived.Test.YtpgebejnpncemaaSipRefB
import Derived.LoopN
import Derived.Handy
namespace Go.Proofs.Ytpgebejnpncemaa
open Go.RowKit
set_option linter.unusedVariables false

theorem str_at {t : ByteArray} {bs : List Int} (hb : byts t = bs) (i : Nat) {x : Int} (h0 : 0 ≤ i) (hi : i < bs.length) (hx : (byts t).getD i 0 = x) (W : World) :
    (Instr.index 9 (.string t) (.int .i64 i)).run Try.prog W = .ok (.int .u8 x) W := by
  have hlt : i < t.size := by rw [← byts_len, hb]; exact hi
  rw [run_index_string W _ t _ i Try.underlying9, dif_pos ⟨by omega, by omega⟩, ← hx, byts_getD t i hlt]
  rfl

set_option maxRecDepth 1000000 in
set_option maxHeartbeats 1600000 in
theorem refnumber_any {w : World} {t : ByteArray} {b0 b1 b2 b3 b4 b5 b6 b7 : Int} (hb : byts t = [b0, b1, b2, b3, b4, b5, b6, b7]) :
    Calls Try.prog 40 #[.string t] w fun e w' => e = .returned (.int .u64 (num [b0, b1, b2, b3, b4, b5, b6, b7])) ∧ w = w' := by
  have hr := byts_ok t
  rw [hb] at hr
  have g0 : 0 ≤ b0 ∧ b0 < 256 := hr b0 (by simp)
  have g1 : 0 ≤ b1 ∧ b1 < 256 := hr b1 (by simp)
  have g2 : 0 ≤ b2 ∧ b2 < 256 := hr b2 (by simp)
  have g3 : 0 ≤ b3 ∧ b3 < 256 := hr b3 (by simp)
  have g4 : 0 ≤ b4 ∧ b4 < 256 := hr b4 (by simp)
  have g5 : 0 ≤ b5 ∧ b5 < 256 := hr b5 (by simp)
  have g6 : 0 ≤ b6 ∧ b6 < 256 := hr b6 (by simp)
  have g7 : 0 ≤ b7 ∧ b7 < 256 := hr b7 (by simp)
  have i0 : ∀ W, (Instr.index 9 (.string t) (.int .i64 0)).run Try.prog W = .ok (.int .u8 b0) W := fun W => str_at hb 0 (by omega) (by simp) (by rw [hb]; rfl) W
  have i1 : ∀ W, (Instr.index 9 (.string t) (.int .i64 1)).run Try.prog W = .ok (.int .u8 b1) W := fun W => str_at hb 1 (by omega) (by simp) (by rw [hb]; rfl) W
  have i2 : ∀ W, (Instr.index 9 (.string t) (.int .i64 2)).run Try.prog W = .ok (.int .u8 b2) W := fun W => str_at hb 2 (by omega) (by simp) (by rw [hb]; rfl) W
  have i3 : ∀ W, (Instr.index 9 (.string t) (.int .i64 3)).run Try.prog W = .ok (.int .u8 b3) W := fun W => str_at hb 3 (by omega) (by simp) (by rw [hb]; rfl) W
  have i4 : ∀ W, (Instr.index 9 (.string t) (.int .i64 4)).run Try.prog W = .ok (.int .u8 b4) W := fun W => str_at hb 4 (by omega) (by simp) (by rw [hb]; rfl) W
  have i5 : ∀ W, (Instr.index 9 (.string t) (.int .i64 5)).run Try.prog W = .ok (.int .u8 b5) W := fun W => str_at hb 5 (by omega) (by simp) (by rw [hb]; rfl) W
  have i6 : ∀ W, (Instr.index 9 (.string t) (.int .i64 6)).run Try.prog W = .ok (.int .u8 b6) W := fun W => str_at hb 6 (by omega) (by simp) (by rw [hb]; rfl) W
  have i7 : ∀ W, (Instr.index 9 (.string t) (.int .i64 7)).run Try.prog W = .ok (.int .u8 b7) W := fun W => str_at hb 7 (by omega) (by simp) (by rw [hb]; rfl) W
  clear hr hb
  go_enter Try.func40, Try.ntmps40
  go_wp2
  refine wp_loop_rounds 9 ?_
  iterate 9 (rw [rounds_succ]; go_wp2)
  go_ret
  exact ⟨ret_int (by simp only [num]; omega), rfl⟩

/-! ### the chunks -/
def cfn (v L : List Int) : Nat → List Int
  | 0 => v
  | k + 1 => mix (cfn v L k) (num ((L.drop (8 * k)).take 8))
theorem cfn_append (v x y : List Int) : ∀ k, 8 * k ≤ x.length → cfn v (x ++ y) k = cfn v x k
  | 0, _ => rfl
  | k + 1, h => by
    have e : ((x ++ y).drop (8 * k)).take 8 = (x.drop (8 * k)).take 8 := by
      rw [List.drop_append_of_le_length (by omega), List.take_append_of_le_length (by rw [List.length_drop]; omega)]
    simp only [cfn, cfn_append v x y k (by omega), e]
theorem cfn_ok {v L : List Int} (hv : Ok v) (hL : Byts L) : ∀ k, 8 * k ≤ L.length → Ok (cfn v L k)
  | 0, _ => hv
  | k + 1, h => by
    have ho : Oct ((L.drop (8 * k)).take 8) := ⟨by rw [List.length_take, List.length_drop]; omega, fun x hx => hL x (List.mem_of_mem_drop (List.mem_of_mem_take hx))⟩
    exact mix_ok (cfn_ok hv hL k (by omega)) ho.num64

structure Chunks (k0 k1 : Int) (bs : List Int) : Prop where
  v : ((st0 k0 k1).eat bs).v = cfn (beg k0 k1) bs (bs.length / 8)
  l : ((st0 k0 k1).eat bs).l.take (bs.length % 8) = bs.drop (8 * (bs.length / 8))
  n : ((st0 k0 k1).eat bs).n = bs.length
  len : ((st0 k0 k1).eat bs).l.length = 8
theorem chunks (k0 k1 : Int) (bs : List Int) : Chunks k0 k1 bs := by
  have hn : ∀ bs, ((st0 k0 k1).eat bs).n = bs.length := fun bs => by rw [St.eat_n]; exact Nat.zero_add _
  generalize hm : bs.length = m
  induction m generalizing bs with
  | zero =>
    obtain rfl := List.eq_nil_of_length_eq_zero hm
    exact ⟨rfl, rfl, rfl, rfl⟩
  | succ m ih =>
    obtain ⟨xs, b, rfl⟩ : ∃ xs b, bs = xs ++ [b] := by
      have hne : bs ≠ [] := by intro e; subst e; cases hm
      exact ⟨bs.dropLast, bs.getLast hne, (List.dropLast_concat_getLast hne).symm⟩
    have hx : xs.length = m := by simpa using hm
    have h := ih xs hx
    have hs : (st0 k0 k1).eat (xs ++ [b]) = ((st0 k0 k1).eat xs).step b := St.eat_snoc _ _ _
    have hlen : (xs ++ [b]).length = xs.length + 1 := by simp
    have hln := h.len
    have hl := h.l
    have hv := h.v
    have hnn := h.n
    have hnew := hn (xs ++ [b])
    rw [hs] at hnew
    refine ⟨?_, ?_, hn _, ?_⟩
    all_goals rw [hs]
    · rw [hlen]
      show (if (_ + 1) % 8 = 0 then _ else _) = _
      rw [hnn]
      by_cases e : (xs.length + 1) % 8 = 0
      · rw [if_pos e, hv]
        have e1 : (xs.length + 1) / 8 = xs.length / 8 + 1 := by omega
        have e7 : xs.length % 8 = 7 := by omega
        rw [e1]
        simp only [cfn]
        rw [cfn_append _ _ _ _ (by omega)]
        congr 2
        rw [e7] at hl ⊢
        rw [List.drop_append_of_le_length (by omega), ← hl]
        generalize ((st0 k0 k1).eat xs).l = l at hln
        match l, hln with
        | [a0, a1, a2, a3, a4, a5, a6, a7], _ => rfl
      · rw [if_neg e, hv]
        have e1 : (xs.length + 1) / 8 = xs.length / 8 := by omega
        rw [e1, cfn_append _ _ _ _ (by omega)]
    · rw [hlen]
      show (List.set _ _ b).take _ = _
      rw [hnn]
      by_cases e : (xs.length + 1) % 8 = 0
      · rw [e]
        have e1 : (xs.length + 1) / 8 = xs.length / 8 + 1 := by omega
        rw [e1, List.take_zero, List.drop_of_length_le (by rw [hlen]; omega)]
      · have e1 : (xs.length + 1) / 8 = xs.length / 8 := by omega
        have e2 : (xs.length + 1) % 8 = xs.length % 8 + 1 := by omega
        rw [e1, e2, List.drop_append_of_le_length (by omega), ← hl]
        have h8 : xs.length % 8 < 7 := by omega
        generalize ((st0 k0 k1).eat xs).l = l at hln
        generalize xs.length % 8 = M at h8
        match l, hln with
        | [a0, a1, a2, a3, a4, a5, a6, a7], _ =>
          match M, h8 with
          | 0, _ => rfl
          | 1, _ => rfl
          | 2, _ => rfl
          | 3, _ => rfl
          | 4, _ => rfl
          | 5, _ => rfl
          | 6, _ => rfl
    · show (List.set _ _ b).length = 8
      rw [List.length_set]; exact hln

/-- The padded text. -/
def pad (bs : List Int) : List Int := bs ++ List.replicate (7 - bs.length % 8) 0 ++ [((bs.length % 256 : Nat) : Int)]
theorem pad_len (bs : List Int) : (pad bs).length = 8 * (bs.length / 8 + 1) := by
  unfold pad
  simp only [List.length_append, List.length_replicate, List.length_cons, List.length_nil]
  omega
theorem pad_ok {bs : List Int} (h : Byts bs) : Byts (pad bs) := by
  intro x hx
  unfold pad at hx
  simp only [List.mem_append, List.mem_replicate, List.mem_singleton] at hx
  rcases hx with (hx | hx) | hx
  · exact h x hx
  · rw [hx.2]; omega
  · rw [hx]; omega
def refSum (k0 k1 : Int) (bs : List Int) : Int :=
  let u := cfn (beg k0 k1) (pad bs) (bs.length / 8 + 1)
  xors (rd (rd (rd (rd (u.set 2 (bits .xor .u64 (u.getD 2 0) 255))))))
theorem refSum_hash (k0 k1 : Int) (bs : List Int) : refSum k0 k1 bs = hash k0 k1 bs := by
  have h := chunks k0 k1 bs
  have e : mix ((st0 k0 k1).eat bs).v (num ((st0 k0 k1).eat bs).last) = cfn (beg k0 k1) (pad bs) (bs.length / 8 + 1) := by
    simp only [cfn]
    have e1 : cfn (beg k0 k1) (pad bs) (bs.length / 8) = cfn (beg k0 k1) bs (bs.length / 8) := by
      unfold pad
      rw [List.append_assoc, cfn_append _ _ _ _ (by omega)]
    rw [e1, h.v]
    congr 2
    have e2 : ((pad bs).drop (8 * (bs.length / 8))).take 8 = (pad bs).drop (8 * (bs.length / 8)) := by
      rw [List.take_of_length_le (by rw [List.length_drop, pad_len]; omega)]
    rw [e2]
    unfold St.last pad
    rw [h.n, h.l, List.append_assoc, List.append_assoc, List.drop_append_of_le_length (by omega)]
  unfold refSum hash St.sum St.fin
  simp only
  rw [e]
end Go.Proofs.Ytpgebejnpncemaa
