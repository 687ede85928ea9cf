/-
  HeadBits: with one bit of the flags turned one part of the header alone is another one; for all flags and every bit.
-/
import Derived.Test.YtccdccclklidaaaDoorHeadL
import Derived.Test.YtccdccclklidaaaDoorHeadOpen
import Derived.Deep.Cut
namespace Go.Proofs.YtccdccclklidaaaDoor
open Go.RowKit
set_option linter.unusedVariables false
set_option linter.unusedSimpArgs false

def trues (l : List Bool) : Nat := (l.filter id).length
theorem trues_snoc (l : List Bool) (k : Nat) (hk : k < l.length) : trues (l.take (k + 1)) = trues (l.take k) + one (l.getD k false) := by
  unfold trues
  rw [List.take_succ_eq_append_getElem hk, List.filter_append, List.length_append]
  have : l.getD k false = l[k] := by rw [List.getD_eq_getElem?_getD, List.getElem?_eq_getElem hk]; rfl
  rw [this]
  cases l[k] <;> rfl
set_option maxRecDepth 1000000 in
set_option maxHeartbeats 3200000 in
theorem unlike_any (x0 : Int) (x1 : Bool) (x2 : Int) (x3 : Bool) (x4 : Bool) (x5 : Bool) (x6 : Bool) (x7 : Bool) (x8 : Bool) (x9 : Bool) (x10 : Int) (y0 : Int) (y1 : Bool) (y2 : Int) (y3 : Bool) (y4 : Bool) (y5 : Bool) (y6 : Bool) (y7 : Bool) (y8 : Bool) (y9 : Bool) (y10 : Int) (w : World) :
    Calls Tryd.prog 39 #[.agg #[.int .u16 x0, .bool x1, .int .u8 x2, .bool x3, .bool x4, .bool x5, .bool x6, .bool x7, .bool x8, .bool x9, .int .u8 x10], .agg #[.int .u16 y0, .bool y1, .int .u8 y2, .bool y3, .bool y4, .bool y5, .bool y6, .bool y7, .bool y8, .bool y9, .int .u8 y10]] w fun e w' => e = .returned (.int .i64 (trues [(x0 != y0), !(x1 == y1), (x2 != y2), !(x3 == y3), !(x4 == y4), !(x5 == y5), !(x6 == y6), !(x7 == y7), !(x8 == y8), !(x9 == y9), (x10 != y10)] : Int)) ∧ Still w w' := by
  have hst := (Still.new w (.cells #[.int .u16 x0, .bool x1, .int .u8 x2, .bool x3, .bool x4, .bool x5, .bool x6, .bool x7, .bool x8, .bool x9, .int .u8 x10] 61)).alloc (.cells #[.int .u16 y0, .bool y1, .int .u8 y2, .bool y3, .bool y4, .bool y5, .bool y6, .bool y7, .bool y8, .bool y9, .int .u8 y10] 61)
  have hA := (Blk.new w 61 #[.int .u16 x0, .bool x1, .int .u8 x2, .bool x3, .bool x4, .bool x5, .bool x6, .bool x7, .bool x8, .bool x9, .int .u8 x10]).alloc (.cells #[.int .u16 y0, .bool y1, .int .u8 y2, .bool y3, .bool y4, .bool y5, .bool y6, .bool y7, .bool y8, .bool y9, .int .u8 y10] 61)
  have hB := Blk.at_ (w.alloc (.cells #[.int .u16 x0, .bool x1, .int .u8 x2, .bool x3, .bool x4, .bool x5, .bool x6, .bool x7, .bool x8, .bool x9, .int .u8 x10] 61)) 61 #[.int .u16 y0, .bool y1, .int .u8 y2, .bool y3, .bool y4, .bool y5, .bool y6, .bool y7, .bool y8, .bool y9, .int .u8 y10] (g := w.heap.size + 1) (by simp)
  obtain ⟨L, hL⟩ : ∃ L, L = [(x0 != y0), !(x1 == y1), (x2 != y2), !(x3 == y3), !(x4 == y4), !(x5 == y5), !(x6 == y6), !(x7 == y7), !(x8 == y8), !(x9 == y9), (x10 != y10)] := ⟨_, rfl⟩
  rw [← hL]
  have HLL := Lib.hid hL
  clear hL
  go_enter Tryd.func39, Tryd.ntmps39
  go_upto_region 1 with fail
  generalize (w.alloc (.cells #[.int .u16 x0, .bool x1, .int .u8 x2, .bool x3, .bool x4, .bool x5, .bool x6, .bool x7, .bool x8, .bool x9, .int .u8 x10] 61)).alloc (.cells #[.int .u16 y0, .bool y1, .int .u8 y2, .bool y3, .bool y4, .bool y5, .bool y6, .bool y7, .bool y8, .bool y9, .int .u8 y10] 61) = w1 at *
  obtain ⟨g, hg⟩ : ∃ g, w.heap.size = g := ⟨_, rfl⟩
  rw [hg] at hA hB
  rw [hg]
  clear hg
  have a0 : w1.cell? ⟨g, 0, none⟩ = some (.int .u16 x0) := hA.cell 0
  have a1 : w1.cell? ⟨g, 1, none⟩ = some (.bool x1) := hA.cell 1
  have a2 : w1.cell? ⟨g, 2, none⟩ = some (.int .u8 x2) := hA.cell 2
  have a3 : w1.cell? ⟨g, 3, none⟩ = some (.bool x3) := hA.cell 3
  have a4 : w1.cell? ⟨g, 4, none⟩ = some (.bool x4) := hA.cell 4
  have a5 : w1.cell? ⟨g, 5, none⟩ = some (.bool x5) := hA.cell 5
  have a6 : w1.cell? ⟨g, 6, none⟩ = some (.bool x6) := hA.cell 6
  have a7 : w1.cell? ⟨g, 7, none⟩ = some (.bool x7) := hA.cell 7
  have a8 : w1.cell? ⟨g, 8, none⟩ = some (.bool x8) := hA.cell 8
  have a9 : w1.cell? ⟨g, 9, none⟩ = some (.bool x9) := hA.cell 9
  have a10 : w1.cell? ⟨g, 10, none⟩ = some (.int .u8 x10) := hA.cell 10
  have b0 : w1.cell? ⟨g + 1, 0, none⟩ = some (.int .u16 y0) := hB.cell 0
  have b1 : w1.cell? ⟨g + 1, 1, none⟩ = some (.bool y1) := hB.cell 1
  have b2 : w1.cell? ⟨g + 1, 2, none⟩ = some (.int .u8 y2) := hB.cell 2
  have b3 : w1.cell? ⟨g + 1, 3, none⟩ = some (.bool y3) := hB.cell 3
  have b4 : w1.cell? ⟨g + 1, 4, none⟩ = some (.bool y4) := hB.cell 4
  have b5 : w1.cell? ⟨g + 1, 5, none⟩ = some (.bool y5) := hB.cell 5
  have b6 : w1.cell? ⟨g + 1, 6, none⟩ = some (.bool y6) := hB.cell 6
  have b7 : w1.cell? ⟨g + 1, 7, none⟩ = some (.bool y7) := hB.cell 7
  have b8 : w1.cell? ⟨g + 1, 8, none⟩ = some (.bool y8) := hB.cell 8
  have b9 : w1.cell? ⟨g + 1, 9, none⟩ = some (.bool y9) := hB.cell 9
  have b10 : w1.cell? ⟨g + 1, 10, none⟩ = some (.int .u8 y10) := hB.cell 10

  clear hA hB
  have hL := HLL.out
  have hl : L.length = 11 := by rw [hL]; rfl
  have hD : Blk (w1.alloc (.cells #[.bool (x0 != y0), .bool !(x1 == y1), .bool (x2 != y2), .bool !(x3 == y3), .bool !(x4 == y4), .bool !(x5 == y5), .bool !(x6 == y6), .bool !(x7 == y7), .bool !(x8 == y8), .bool !(x9 == y9), .bool (x10 != y10)] 4)) w1.heap.size 4 (L.map Value.bool).toArray := by rw [hL]; exact Blk.new w1 4 #[.bool (x0 != y0), .bool !(x1 == y1), .bool (x2 != y2), .bool !(x3 == y3), .bool !(x4 == y4), .bool !(x5 == y5), .bool !(x6 == y6), .bool !(x7 == y7), .bool !(x8 == y8), .bool !(x9 == y9), .bool (x10 != y10)]
  have hst := hst.alloc (.cells #[.bool (x0 != y0), .bool !(x1 == y1), .bool (x2 != y2), .bool !(x3 == y3), .bool !(x4 == y4), .bool !(x5 == y5), .bool !(x6 == y6), .bool !(x7 == y7), .bool !(x8 == y8), .bool !(x9 == y9), .bool (x10 != y10)] 4)
  clear hL
  go_wp2_with fail
  generalize w1.alloc (.cells #[.bool (x0 != y0), .bool !(x1 == y1), .bool (x2 != y2), .bool !(x3 == y3), .bool !(x4 == y4), .bool !(x5 == y5), .bool !(x6 == y6), .bool !(x7 == y7), .bool !(x8 == y8), .bool !(x9 == y9), .bool (x10 != y10)] 4) = w2 at *
  generalize w1.heap.size = p at *
  clear a0 b0 a1 b1 a2 b2 a3 b3 a4 b4 a5 b5 a6 b6 a7 b7 a8 b8 a9 b9 a10 b10
  have Hl := Lib.hid hl
  clear hl
  go_loop [5, 65] (fun v i => ∃ k : Nat, k ≤ 11 ∧ i = .int .i64 k ∧ v = .int .i64 (trues (L.take k))) (fun _ i => 11 - (intOf i).toNat)
  case atStart => exact ⟨0, by omega, rfl, rfl⟩
  case round =>
    obtain ⟨k, hk, rfl, rfl⟩ := hrel
    by_cases hlt : k < 11
    · have hkk : (k : Int) < 11 := by omega
      have hc : w2.cell? ⟨p, k, none⟩ = some (.bool (L.getD k false)) := by
        rw [hD.cell k, List.getElem?_toArray, List.getElem?_map, List.getD_eq_getElem?_getD]
        rw [List.getElem?_eq_getElem (by rw [Hl.out]; exact hlt)]
        rfl
      have ht := trues_snoc L k (by rw [Hl.out]; exact hlt)
      have hm : trues (L.take k) ≤ 11 := by unfold trues; have h1 := List.length_filter_le id (L.take k); rw [List.length_take] at h1; omega
      have Ht := Lib.hid ht
      clear ht
      generalize trues (L.take k) = n at *
      rcases hB : L.getD k false with _ | _
      · rw [hB] at hc Ht
        clear hB
        go_wp2_with fail
        go_round
        case rel => exact ⟨k + 1, by omega, by go_num, by rw [Ht.out]; simp [one]⟩
        case measure => simp [intOf]; omega
      · rw [hB] at hc Ht
        clear hB
        go_wp2_with fail
        go_round
        case rel => exact ⟨k + 1, by omega, by go_num, by rw [Ht.out]; simp [one]⟩
        case measure => simp [intOf]; omega
    · obtain rfl : k = 11 := by omega
      rw [List.take_of_length_le (by rw [Hl.out]; exact Nat.le_refl _)]
      go_wp2_with fail
      go_ret
      exact ⟨rfl, hst⟩
theorem xor_ne (x c : Nat) (h : c ≠ 0) : ¬ x = x ^^^ c := by
  intro e
  have e := e.symm
  have h2 : x ^^^ (x ^^^ c) = x ^^^ x := congrArg (x ^^^ ·) e
  rw [← Nat.xor_assoc, Nat.xor_self, Nat.zero_xor] at h2
  exact h h2
theorem xor_op (f g : Nat) : (f ^^^ g) / 2048 % 16 = (f / 2048 % 16) ^^^ (g / 2048 % 16) := by
  have e := Nat.shiftRight_xor_distrib (a := f) (b := g) (i := 11)
  rw [Nat.shiftRight_eq_div_pow, Nat.shiftRight_eq_div_pow, Nat.shiftRight_eq_div_pow] at e
  rw [show (2048 : Nat) = 2 ^ 11 from rfl, e, show (16 : Nat) = 2 ^ 4 from rfl, Nat.xor_mod_two_pow]
theorem xor_code (f g : Nat) : (f ^^^ g) % 16 = (f % 16) ^^^ (g % 16) := by
  rw [show (16 : Nat) = 2 ^ 4 from rfl, Nat.xor_mod_two_pow]
theorem tb (f j k : Nat) : (f ^^^ 2 ^ k).testBit j = (f.testBit j != decide (k = j)) := by
  rw [Nat.testBit_xor, Nat.testBit_two_pow]
def dl (f g : Nat) : List Bool := [((0 : Int) != 0), !(f.testBit 15 == g.testBit 15), ((f : Int) / 2048 % 16 != (g : Int) / 2048 % 16), !(f.testBit 10 == g.testBit 10), !(f.testBit 9 == g.testBit 9), !(f.testBit 8 == g.testBit 8), !(f.testBit 7 == g.testBit 7), !(f.testBit 6 == g.testBit 6), !(f.testBit 5 == g.testBit 5), !(f.testBit 4 == g.testBit 4), ((f : Int) % 16 != (g : Int) % 16)]
theorem same_bit (b : Bool) : (!(b == (b != false))) = false := by cases b <;> rfl
theorem other_bit (b : Bool) : (!(b == (b != true))) = true := by cases b <;> rfl
theorem op_bool (f g : Nat) : ((f : Int) / 2048 % 16 != (g : Int) / 2048 % 16) = decide (f / 2048 % 16 ≠ g / 2048 % 16) := by
  rw [Bool.eq_iff_iff, bne_iff_ne, decide_eq_true_iff]
  omega
theorem code_bool (f g : Nat) : ((f : Int) % 16 != (g : Int) % 16) = decide (f % 16 ≠ g % 16) := by
  rw [Bool.eq_iff_iff, bne_iff_ne, decide_eq_true_iff]
  omega
theorem dl_one (f k : Nat) (hk : k < 16) : trues (dl f (f ^^^ 2 ^ k)) = 1 := by
  unfold dl
  rw [op_bool, code_bool, xor_op, xor_code]
  simp only [tb]
  have : k = 0 ∨ k = 1 ∨ k = 2 ∨ k = 3 ∨ k = 4 ∨ k = 5 ∨ k = 6 ∨ k = 7 ∨ k = 8 ∨ k = 9 ∨ k = 10 ∨ k = 11 ∨ k = 12 ∨ k = 13 ∨ k = 14 ∨ k = 15 := by omega
  rcases this with rfl | rfl | rfl | rfl | rfl | rfl | rfl | rfl | rfl | rfl | rfl | rfl | rfl | rfl | rfl | rfl
  case inl => simp [trues, same_bit, other_bit, xor_ne]
  all_goals (simp [trues, same_bit, other_bit, xor_ne])
set_option maxRecDepth 1000000 in
theorem bits_walk (f k : Nat) (hf : f < 65536) (hk : k < 256) (w : World) (hb : BitsT w) :
    Calls Tryd.prog 14 #[.int .u16 f, .int .u8 k] w fun e w' => e = .returned (.bool true) ∧ Still w w' := by
  have h2 : 2 ^ (k % 16) < 65536 := Nat.lt_of_lt_of_le (Nat.pow_lt_pow_right (by decide) (Nat.mod_lt _ (by decide))) (by decide)
  have hx : bits .xor .u16 (f : Int) (IntKind.u16.wrap (2 ^ (k % 16))) = ((f ^^^ 2 ^ (k % 16) : Nat) : Int) := by
    have e : IntKind.u16.wrap (2 ^ (k % 16)) = ((2 ^ (k % 16) : Nat) : Int) := by
      rw [IntKind.wrap_u16, Int.natCast_pow]
      have : ((2 ^ (k % 16) : Nat) : Int) < 65536 := by omega
      rw [Int.natCast_pow] at this
      have h0 : (0 : Int) ≤ ((2 ^ (k % 16) : Nat) : Int) := Int.natCast_nonneg _
      rw [Int.natCast_pow] at h0
      exact Int.emod_eq_of_lt h0 this
    rw [e, u16_xor_nat f _ hf h2]
  have hone := dl_one f (k % 16) (Nat.mod_lt _ (by decide))
  have hlt : f ^^^ 2 ^ (k % 16) < 65536 := Nat.xor_lt_two_pow (n := 16) hf h2
  generalize f ^^^ 2 ^ (k % 16) = F at *
  unfold dl at hone
  have Hone := Lib.hid hone
  clear hone h2
  go_enter Tryd.func14, Tryd.ntmps14
  go_wp2_with fail
  refine (from_any f hf _ hb).mono ?_
  rintro e w1 ⟨rfl, hs1⟩
  go_wp2_with fail
  refine (from_any F hlt _ (hb.still hs1)).mono ?_
  rintro e w2 ⟨rfl, hs2⟩
  have hst := hs1.still hs2
  go_wp2_with fail
  refine (unlike_any _ _ _ _ _ _ _ _ _ _ _ _ _ _ _ _ _ _ _ _ _ _ _).mono ?_
  rintro e w3 ⟨hee, hs3⟩
  have hst := hst.still hs3
  rw [Hone.out] at hee
  subst hee
  go_wp2_with fail
  refine (head_awake _ (hb.still hst)).mono ?_
  rintro e w4 ⟨rfl, hs4⟩
  go_wp2_with fail
  go_ret
  exact ⟨rfl, hst.still hs4⟩
theorem bits_all (w : World) (f : Int) (wf : (Lit.int .u16 f).wf = true) (k : Int) (wk : (Lit.int .u8 k).wf = true) (hb : BitsT w) :
    Calls Tryd.prog 14 #[.int .u16 f, .int .u8 k] w fun e w' => e = .returned (.bool true) ∧ Still w w' := by
  have bf := wf_u16 wf
  have bk := wf_u8 wk
  obtain ⟨f, rfl⟩ : ∃ n : Nat, f = (n : Int) := ⟨f.toNat, by omega⟩
  obtain ⟨k, rfl⟩ : ∃ n : Nat, k = (n : Int) := ⟨k.toNat, by omega⟩
  exact bits_walk f k (by omega) (by omega) w hb
end Go.Proofs.YtccdccclklidaaaDoor
