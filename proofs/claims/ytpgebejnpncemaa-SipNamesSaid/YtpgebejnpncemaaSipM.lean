/-
  Package sip: the mixing of a block; numbers.
-/
import Derived.Test.YtpgebejnpncemaaSipN
namespace Go.Proofs.Ytpgebejnpncemaa
open Go.RowKit
set_option linter.unusedVariables false

/-- A list of bytes as a number, the lowest first. -/
def num : List Int → Int
  | [] => 0
  | b :: r => b + 256 * num r

theorem orr_add {a b : Int} (i : Nat) (ha : 0 ≤ a) (ha1 : a < (2 ^ i : Nat)) (hb : 0 ≤ b) (hb1 : b < 18446744073709551616) (hbi : b % (2 ^ i : Nat) = 0) (hi : i < 64) : bits .or .u64 a b = a + b := by
  have ha2 : a < 18446744073709551616 := by
    have h := Nat.pow_lt_pow_right (a := 2) (by omega) hi
    have : ((2 ^ i : Nat) : Int) < ((2 ^ 64 : Nat) : Int) := by exact_mod_cast h
    have e : ((2 ^ 64 : Nat) : Int) = 18446744073709551616 := by decide
    omega
  rw [u64_or a b ha ha2 hb hb1, Nat.or_comm, nat_join i b.toNat a.toNat (by
    have h : ((b.toNat % 2 ^ i : Nat) : Int) = 0 := by rw [Int.natCast_emod, Int.toNat_of_nonneg hb]; exact hbi
    exact_mod_cast h) (by omega)]
  omega
theorem numG_num (b0 b1 b2 b3 b4 b5 b6 b7 : Int) (h0 : 0 ≤ b0 ∧ b0 < 256) (h1 : 0 ≤ b1 ∧ b1 < 256) (h2 : 0 ≤ b2 ∧ b2 < 256) (h3 : 0 ≤ b3 ∧ b3 < 256) (h4 : 0 ≤ b4 ∧ b4 < 256) (h5 : 0 ≤ b5 ∧ b5 < 256) (h6 : 0 ≤ b6 ∧ b6 < 256) (h7 : 0 ≤ b7 ∧ b7 < 256) :
    numG b0 b1 b2 b3 b4 b5 b6 b7 = num [b0, b1, b2, b3, b4, b5, b6, b7] := by
  have e0 : bits .or .u64 0 b0 = b0 := by rw [orr_add 0 (by omega) (by decide) h0.1 (by omega) (by simp [Int.emod_one]) (by omega)]; omega
  unfold numG
  rw [e0]
  rw [orr_add (a := b0) 8 (by omega) (by simp; omega) (by omega) (by omega) (by simp) (by omega)]
  rw [orr_add (a := b0 + b1 * 256) 16 (by omega) (by simp; omega) (by omega) (by omega) (by simp) (by omega)]
  rw [orr_add (a := b0 + b1 * 256 + b2 * 65536) 24 (by omega) (by simp; omega) (by omega) (by omega) (by simp) (by omega)]
  rw [orr_add (a := b0 + b1 * 256 + b2 * 65536 + b3 * 16777216) 32 (by omega) (by simp; omega) (by omega) (by omega) (by simp) (by omega)]
  rw [orr_add (a := b0 + b1 * 256 + b2 * 65536 + b3 * 16777216 + b4 * 4294967296) 40 (by omega) (by simp; omega) (by omega) (by omega) (by simp) (by omega)]
  rw [orr_add (a := b0 + b1 * 256 + b2 * 65536 + b3 * 16777216 + b4 * 4294967296 + b5 * 1099511627776) 48 (by omega) (by simp; omega) (by omega) (by omega) (by simp) (by omega)]
  rw [orr_add (a := b0 + b1 * 256 + b2 * 65536 + b3 * 16777216 + b4 * 4294967296 + b5 * 1099511627776 + b6 * 281474976710656) 56 (by omega) (by simp; omega) (by omega) (by omega) (by simp) (by omega)]
  simp only [num]
  omega

/-- Bytes: 8 of them. -/
structure Oct (l : List Int) : Prop where
  len : l.length = 8
  rg : ∀ x ∈ l, 0 ≤ x ∧ x < 256
theorem Oct.cases {l : List Int} (h : Oct l) : ∃ b0 b1 b2 b3 b4 b5 b6 b7, l = [b0, b1, b2, b3, b4, b5, b6, b7] := by
  have h1 := h.len
  match l, h1 with
  | [a, b, c, d, e, f, g, i], _ => exact ⟨a, b, c, d, e, f, g, i, rfl⟩
theorem num_range : ∀ l : List Int, (∀ x ∈ l, 0 ≤ x ∧ x < 256) → 0 ≤ num l ∧ num l < 256 ^ l.length
  | [], _ => by simp [num]
  | b :: r, h => by
    have hb := h b (by simp)
    have hr := num_range r (fun x hx => h x (by simp [hx]))
    have e : (256 : Int) ^ (b :: r).length = 256 * 256 ^ r.length := by rw [List.length_cons, Int.pow_succ, Int.mul_comm]
    rw [e]
    unfold num
    omega
theorem Oct.num64 {l : List Int} (h : Oct l) : 0 ≤ num l ∧ num l < 18446744073709551616 := by
  have := num_range l h.rg
  rw [h.len] at this
  exact this

theorem number_oct {l : List Int} (h : Oct l) (w : World) :
    Calls Try.prog 45 #[.agg (l.map (Value.int .u8)).toArray] w fun e w' => e = .returned (.int .u64 (num l)) ∧ Still w w' := by
  obtain ⟨b0, b1, b2, b3, b4, b5, b6, b7, rfl⟩ := h.cases
  have r := h.rg
  have g0 := r b0 (by simp); have g1 := r b1 (by simp); have g2 := r b2 (by simp); have g3 := r b3 (by simp)
  have g4 := r b4 (by simp); have g5 := r b5 (by simp); have g6 := r b6 (by simp); have g7 := r b7 (by simp)
  have h1 := number_any b0 b1 b2 b3 b4 b5 b6 b7 w g0 g1 g2 g3 g4 g5 g6 g7
  rw [numG_num b0 b1 b2 b3 b4 b5 b6 b7 g0 g1 g2 g3 g4 g5 g6 g7] at h1
  exact h1

/-! ### mixing -/
def mix (v : List Int) (n : Int) : List Int :=
  let u := rd (rd (v.set 3 (bits .xor .u64 (v.getD 3 0) n)))
  u.set 0 (bits .xor .u64 (u.getD 0 0) n)
theorem mix1_ok {v : List Int} (h : Ok v) {n : Int} (hn : 0 ≤ n ∧ n < 18446744073709551616) : Ok (v.set 3 (bits .xor .u64 (v.getD 3 0) n)) := h.set 3 _ (xor64 _ _ (h.rg 3 (by omega)) hn)
theorem mix_ok {v : List Int} (h : Ok v) {n : Int} (hn : 0 ≤ n ∧ n < 18446744073709551616) : Ok (mix v n) := by
  have h2 := rd_ok (rd_ok (mix1_ok h hn))
  unfold mix
  generalize rd (rd (v.set 3 (bits .xor .u64 (v.getD 3 0) n))) = u at h2 ⊢
  exact h2.set 0 _ (xor64 _ _ (h2.rg 0 (by omega)) hn)

set_option maxRecDepth 1000000 in
set_option maxHeartbeats 1600000 in
theorem mix_blk {w : World} {g o : Nat} {t : TypeId} {pre post : List Value} {v : List Int} {n : Int} (hbk : Blk w g t (lay pre v post)) (ho : pre.length = o) (hv : Ok v) (hn : 0 ≤ n ∧ n < 18446744073709551616) :
    Calls Try.prog 44 #[.pointer (some ⟨g, o, none⟩), .int .u64 n] w fun e w' => e = .returned (.tuple #[]) ∧ Blk w' g t (lay pre (mix v n) post) ∧ Only (· = g) w w' := by
  have hm1 := mix1_ok hv hn
  have c1 := (hbk.cell (o + 3)).trans (lay_get ho hv (by omega))
  have f1 := hbk.frozen (o + 3)
  obtain ⟨x, hx⟩ : ∃ x, x = v.getD 3 0 := ⟨_, rfl⟩
  rw [← hx] at c1 hm1
  have Hx := Lib.hid hx
  clear hx
  go_enter Try.func44, Try.ntmps44
  go_wp2_with fail
  go_still_tail 8, (by kernel_rfl)
  have hb2 := laid_rot (i := 3) (x := x) hbk ho hv (by omega) (bits .xor .u64 x n)
  have ho2 : Only (· = g) w (w.setCell ⟨g, o + 3, none⟩ (.int .u64 (bits .xor .u64 x n))) := (Only.refl (· = g) _).setCell (p := ⟨g, o + 3, none⟩) (.inl rfl) _
  go_wp2_with fail
  generalize w.setCell ⟨g, o + 3, none⟩ (.int .u64 (bits .xor .u64 x n)) = w2 at *
  obtain ⟨v1, hv1⟩ : ∃ v1, v1 = v.set 3 (bits .xor .u64 x n) := ⟨_, rfl⟩
  rw [← hv1] at hb2 hm1
  have Hv1 := Lib.hid hv1
  clear hv1 c1 f1 hbk
  refine (round_blk hb2.drew ho hm1).mono ?_
  rintro e w3 ⟨rfl, hb3, ho3⟩
  have hm3 := rd_ok hm1
  have ho3' := ho2.drew.trans ho3 (fun _ _ h => h)
  clear hb2 ho2 ho3
  go_wp2_with fail
  refine (round_blk hb3 ho hm3).mono ?_
  rintro e w4 ⟨rfl, hb4, ho4⟩
  have hm4 := rd_ok hm3
  have ho4' := ho3'.trans ho4 (fun _ _ h => h)
  clear hb3 ho3' ho4
  have c4 := (hb4.cell (o + 0)).trans (lay_get ho hm4 (by omega))
  have f4 := hb4.frozen (o + 0)
  rw [Nat.add_zero] at c4 f4
  obtain ⟨y, hy⟩ : ∃ y, y = (rd (rd v1)).getD 0 0 := ⟨_, rfl⟩
  rw [← hy] at c4
  have Hy := Lib.hid hy
  clear hy
  go_wp2_with fail
  go_still_tail 8, (by kernel_rfl)
  have hb5 := laid_rot (i := 0) (x := y) hb4 ho hm4 (by omega) (bits .xor .u64 y n)
  have ho5 : Only (· = g) w (w4.setCell ⟨g, o, none⟩ (.int .u64 (bits .xor .u64 y n))) := ho4'.setCell (p := ⟨g, o, none⟩) (.inl rfl) _
  rw [Nat.add_zero] at hb5
  go_wp2_with fail
  go_end0
  refine ⟨rfl, ?_, ho5.drew⟩
  have e : mix v n = (rd (rd v1)).set 0 (bits .xor .u64 y n) := by
    rw [Hy.out, Hv1.out, Hx.out]
    rfl
  rw [e]
  exact hb5.drew
end Go.Proofs.Ytpgebejnpncemaa
