/-
  Package edns: EdnsParts.
-/
import Derived.Test.YtbapnlgddekakaaDoorEdnsWr
namespace Go.Proofs.YtbapnlgddekakaaDoor
open Go.RowKit
set_option linter.unusedVariables false
set_option linter.unusedSimpArgs false

theorem and_u32 (a m : Nat) (ha : a < 4294967296) (hm : m < 4294967296) : bits .and .u32 (a : Int) (m : Int) = ((a &&& m : Nat) : Int) := by
  have h1 : ((a : Int) % ((2 ^ 32 : Nat) : Int)).toNat = a := by omega
  have h2 : ((m : Int) % ((2 ^ 32 : Nat) : Int)).toNat = m := by omega
  have key : (BitVec.ofInt 32 (a : Int) &&& BitVec.ofInt 32 (m : Int)).toNat = a &&& m := by rw [BitVec.toNat_and, BitVec.toNat_ofInt, BitVec.toNat_ofInt, h1, h2]
  show IntKind.u32.wrap ((BitVec.ofInt 32 (a : Int) &&& BitVec.ofInt 32 (m : Int)).toNat : Nat) = _
  have := Nat.and_le_left (n := a) (m := m)
  rw [key, IntKind.wrap_u32]
  omega
theorem or_u32 (a m : Nat) (ha : a < 4294967296) (hm : m < 4294967296) : bits .or .u32 (a : Int) (m : Int) = ((a ||| m : Nat) : Int) := by
  have h1 : ((a : Int) % ((2 ^ 32 : Nat) : Int)).toNat = a := by omega
  have h2 : ((m : Int) % ((2 ^ 32 : Nat) : Int)).toNat = m := by omega
  have key : (BitVec.ofInt 32 (a : Int) ||| BitVec.ofInt 32 (m : Int)).toNat = a ||| m := by rw [BitVec.toNat_or, BitVec.toNat_ofInt, BitVec.toNat_ofInt, h1, h2]
  show IntKind.u32.wrap ((BitVec.ofInt 32 (a : Int) ||| BitVec.ofInt 32 (m : Int)).toNat : Nat) = _
  have : a ||| m < 2 ^ 32 := Nat.or_lt_two_pow ha hm
  rw [key, IntKind.wrap_u32]
  omega
theorem mix_field (a m b m' s k : Nat) : (((a &&& m) ||| (b &&& m')) >>> s) % 2 ^ k = (((a >>> s) % 2 ^ k) &&& ((m >>> s) % 2 ^ k)) ||| (((b >>> s) % 2 ^ k) &&& ((m' >>> s) % 2 ^ k)) := by
  rw [Nat.shiftRight_or_distrib, Nat.shiftRight_and_distrib, Nat.shiftRight_and_distrib, Nat.or_mod_two_pow, Nat.and_mod_two_pow, Nat.and_mod_two_pow]
theorem mix_left {a m b m' s k : Nat} (h1 : (m >>> s) % 2 ^ k = 2 ^ k - 1) (h2 : (m' >>> s) % 2 ^ k = 0) : (((a &&& m) ||| (b &&& m')) / 2 ^ s) % 2 ^ k = a / 2 ^ s % 2 ^ k := by
  rw [← Nat.shiftRight_eq_div_pow, mix_field, h1, h2, Nat.and_zero, Nat.or_zero, Nat.and_two_pow_sub_one_eq_mod, Nat.mod_mod, Nat.shiftRight_eq_div_pow]
theorem mix_right {a m b m' s k : Nat} (h1 : (m >>> s) % 2 ^ k = 0) (h2 : (m' >>> s) % 2 ^ k = 2 ^ k - 1) : (((a &&& m) ||| (b &&& m')) / 2 ^ s) % 2 ^ k = b / 2 ^ s % 2 ^ k := by
  rw [← Nat.shiftRight_eq_div_pow, mix_field, h1, h2, Nat.and_zero, Nat.zero_or, Nat.and_two_pow_sub_one_eq_mod, Nat.mod_mod, Nat.shiftRight_eq_div_pow]
/-- One TTL's bits where m has them, another's elsewhere. -/
def mixT (a m b m' : Nat) : Nat := (a &&& m) ||| (b &&& m')
theorem mix_u32 (a m b m' : Nat) (ha : a < 4294967296) (hm : m < 4294967296) (hb : b < 4294967296) (hm' : m' < 4294967296) :
    mixT a m b m' < 4294967296 ∧ bits .or .u32 (bits .and .u32 (a : Int) (m : Int)) (bits .and .u32 (b : Int) (m' : Int)) = ((mixT a m b m' : Nat) : Int) := by
  have l1 := Nat.and_le_left (n := a) (m := m)
  have l2 := Nat.and_le_left (n := b) (m := m')
  refine ⟨Nat.or_lt_two_pow (n := 32) (by omega) (by omega), ?_⟩
  rw [and_u32 a m ha hm, and_u32 b m' hb hm', or_u32 _ _ (by omega) (by omega)]
  rfl
theorem opts_none : optsOf ⟨#[]⟩ = some [] := by kernel_rfl

set_option maxRecDepth 1000000 in
set_option maxHeartbeats 6400000 in
theorem parts_walk (w : World) (he : ErrT w) (cl x v f O : Nat) (hcl : cl < 65536) (hx : x < 256) (hv : v < 256) (hf : f < 65536) (hO : O < 4294967296) :
    Calls Tryd.prog 8 #[.int .u16 cl, .int .u8 x, .int .u8 v, .int .u16 f, .int .u32 O] w fun e w' => e = .returned (.bool true) ∧ Still w w' := by
  have HO := Lib.hid opts_none
  obtain ⟨T, hT⟩ : ∃ T, T = ttlOf x v f := ⟨_, rfl⟩
  have hTl : T < 4294967296 := by rw [hT]; unfold ttlOf; omega
  have t1 : (T : Int) / 16777216 = (x : Int) := by rw [hT]; unfold ttlOf; omega
  have t2 : (T : Int) / 65536 % 256 = (v : Int) := by rw [hT]; unfold ttlOf; omega
  have t3 : IntKind.u16.wrap (T : Int) = (f : Int) := by rw [hT, IntKind.wrap_u16]; unfold ttlOf; omega
  have n1 : T / 2 ^ 24 % 2 ^ 8 = x := by rw [hT]; unfold ttlOf; omega
  have n2 : T / 2 ^ 16 % 2 ^ 8 = v := by rw [hT]; unfold ttlOf; omega
  have n3 : T / 2 ^ 0 % 2 ^ 16 = f := by rw [hT]; unfold ttlOf; omega
  obtain ⟨p, hp⟩ : ∃ p, p = O / 2 ^ 24 % 2 ^ 8 := ⟨_, rfl⟩
  obtain ⟨q, hq⟩ : ∃ q, q = O / 2 ^ 16 % 2 ^ 8 := ⟨_, rfl⟩
  obtain ⟨r, hr⟩ : ∃ r, r = O / 2 ^ 0 % 2 ^ 16 := ⟨_, rfl⟩
  have hp8 : p < 256 := by omega
  have hq8 : q < 256 := by omega
  have hr16 : r < 65536 := by omega
  have o1 : (O : Int) / 16777216 = (p : Int) := by omega
  have o2 : (O : Int) / 65536 % 256 = (q : Int) := by omega
  have o3 : IntKind.u16.wrap (O : Int) = (r : Int) := by rw [IntKind.wrap_u16]; omega
  obtain ⟨hY, ey⟩ := mix_u32 T 16777215 O 4278190080 hTl (by decide) hO (by decide)
  obtain ⟨hZ, ez_⟩ := mix_u32 T 4278255615 O 16711680 hTl (by decide) hO (by decide)
  obtain ⟨hU, eu⟩ := mix_u32 T 4294901760 O 65535 hTl (by decide) hO (by decide)
  have y1 : mixT T 16777215 O 4278190080 / 2 ^ 24 % 2 ^ 8 = p := (mix_right (by decide) (by decide)).trans hp.symm
  have y2 : mixT T 16777215 O 4278190080 / 2 ^ 16 % 2 ^ 8 = v := (mix_left (by decide) (by decide)).trans n2
  have y3 : mixT T 16777215 O 4278190080 / 2 ^ 0 % 2 ^ 16 = f := (mix_left (by decide) (by decide)).trans n3
  have z1 : mixT T 4278255615 O 16711680 / 2 ^ 24 % 2 ^ 8 = x := (mix_left (by decide) (by decide)).trans n1
  have z2 : mixT T 4278255615 O 16711680 / 2 ^ 16 % 2 ^ 8 = q := (mix_right (by decide) (by decide)).trans hq.symm
  have z3 : mixT T 4278255615 O 16711680 / 2 ^ 0 % 2 ^ 16 = f := (mix_left (by decide) (by decide)).trans n3
  have u1 : mixT T 4294901760 O 65535 / 2 ^ 24 % 2 ^ 8 = x := (mix_left (by decide) (by decide)).trans n1
  have u2 : mixT T 4294901760 O 65535 / 2 ^ 16 % 2 ^ 8 = v := (mix_left (by decide) (by decide)).trans n2
  have u3 : mixT T 4294901760 O 65535 / 2 ^ 0 % 2 ^ 16 = r := (mix_right (by decide) (by decide)).trans hr.symm
  have HT := Lib.hid hT
  replace ey : bits .or .u32 (bits .and .u32 (T : Int) 16777215) (bits .and .u32 (O : Int) 4278190080) = _ := ey
  replace ez_ : bits .or .u32 (bits .and .u32 (T : Int) 4278255615) (bits .and .u32 (O : Int) 16711680) = _ := ez_
  replace eu : bits .or .u32 (bits .and .u32 (T : Int) 4294901760) (bits .and .u32 (O : Int) 65535) = _ := eu
  generalize mixT T 16777215 O 4278190080 = Y at *
  generalize mixT T 4278255615 O 16711680 = Z at *
  generalize mixT T 4294901760 O 65535 = U at *
  have YY := Lib.hid (And.intro y1 (And.intro y2 y3))
  have ZZ := Lib.hid (And.intro z1 (And.intro z2 z3))
  have UU := Lib.hid (And.intro u1 (And.intro u2 u3))
  clear hp hq hr n1 n2 n3 y1 y2 y3 z1 z2 z3 u1 u2 u3 hT
  have hS0 := Still.new w (.cells #[.int .u16 cl, .int .u8 x, .int .u8 v, .int .u16 f, .slice none 0 0] 25)
  have he0 := he.still hS0
  clear he
  go_enter Tryd.func8, Tryd.ntmps8
  go_wp2_with fail
  obtain ⟨w0, hw0⟩ : ∃ w0, w0 = w.alloc (.cells #[.int .u16 cl, .int .u8 x, .int .u8 v, .int .u16 f, .slice none 0 0] 25) := ⟨_, rfl⟩
  rw [← hw0] at he0 hS0 ⊢
  clear hw0
  refine (write_any w0 cl x v f hcl hx hv hf none 0 0 [] rfl (by omega) (fun _ h => by cases h) Reads.none_).mono ?_
  rintro e w2 (⟨_, rfl, hs2⟩ | ⟨hbad, _, _⟩)
  rotate_left
  · exact absurd hbad.out (by decide)
  rw [← HT.out]
  have he2 := he0.still hs2
  have hS2 := hS0.still hs2
  clear he0 hS0 hs2
  go_wp2_with fail
  refine (edns_awake w2 he2).mono ?_
  rintro e w4 ⟨rfl, hs4⟩
  have he4 := he2.still hs4
  have hS4 := hS2.still hs4
  clear he2 hS2 hs4
  go_wp2_with fail
  refine (read_any w4 he4 cl Y hY p v f (by have := YY.out; omega) (by have := YY.out; omega) (by have := YY.out; rw [IntKind.wrap_u16]; omega) ⟨#[]⟩ (by decide)).mono ?_
  rintro e w5 (⟨os, A1, c1, hos, rfl, -, hs5⟩ | ⟨hos, -, -⟩)
  rotate_left
  · cases hos.out.symm.trans HO.out
  obtain rfl : os = [] := Option.some.inj (hos.out.symm.trans HO.out)
  unfold eA
  have hsn := hs5.alloc (.cells #[.int .u16 cl, .int .u8 p, .int .u8 v, .int .u16 f, .slice A1 0 c1] 25)
  have he6 := he4.still hsn
  have hS6 := hS4.still hsn
  have hB1 := Blk.new w5 25 #[.int .u16 cl, .int .u8 p, .int .u8 v, .int .u16 f, .slice A1 0 c1]
  clear hos he4 hS4 hs5
  go_wp2_with fail
  obtain ⟨w6, hw6⟩ : ∃ w6, w6 = w5.alloc (.cells #[.int .u16 cl, .int .u8 p, .int .u8 v, .int .u16 f, .slice A1 0 c1] 25) := ⟨_, rfl⟩
  rw [← hw6] at he6 hS6 hB1 ⊢
  obtain ⟨K1, hK1⟩ : ∃ K1, K1 = w5.heap.size := ⟨_, rfl⟩
  rw [← hK1] at hB1 ⊢
  clear hw6 hK1 hsn
  refine (read_any w6 he6 cl Z hZ x q f (by have := ZZ.out; omega) (by have := ZZ.out; omega) (by have := ZZ.out; rw [IntKind.wrap_u16]; omega) ⟨#[]⟩ (by decide)).mono ?_
  rintro e w7 (⟨os, A2, c2, hos, rfl, -, hs7⟩ | ⟨hos, -, -⟩)
  rotate_left
  · cases hos.out.symm.trans HO.out
  obtain rfl : os = [] := Option.some.inj (hos.out.symm.trans HO.out)
  unfold eA
  have hsn := hs7.alloc (.cells #[.int .u16 cl, .int .u8 x, .int .u8 q, .int .u16 f, .slice A2 0 c2] 25)
  have he8 := he6.still hsn
  have hS8 := hS6.still hsn
  have hB2 := Blk.new w7 25 #[.int .u16 cl, .int .u8 x, .int .u8 q, .int .u16 f, .slice A2 0 c2]
  replace hB1 := hB1.only hsn (fun h => h)
  clear hos he6 hS6 hs7
  go_wp2_with fail
  obtain ⟨w8, hw8⟩ : ∃ w8, w8 = w7.alloc (.cells #[.int .u16 cl, .int .u8 x, .int .u8 q, .int .u16 f, .slice A2 0 c2] 25) := ⟨_, rfl⟩
  rw [← hw8] at he8 hS8 hB1 hB2 ⊢
  obtain ⟨K2, hK2⟩ : ∃ K2, K2 = w7.heap.size := ⟨_, rfl⟩
  rw [← hK2] at hB2 ⊢
  clear hw8 hK2 hsn
  refine (read_any w8 he8 cl U hU x v r (by have := UU.out; omega) (by have := UU.out; omega) (by have := UU.out; rw [IntKind.wrap_u16]; omega) ⟨#[]⟩ (by decide)).mono ?_
  rintro e w9 (⟨os, A3, c3, hos, rfl, -, hs9⟩ | ⟨hos, -, -⟩)
  rotate_left
  · cases hos.out.symm.trans HO.out
  obtain rfl : os = [] := Option.some.inj (hos.out.symm.trans HO.out)
  unfold eA
  have hsn := hs9.alloc (.cells #[.int .u16 cl, .int .u8 x, .int .u8 v, .int .u16 r, .slice A3 0 c3] 25)
  have he10 := he8.still hsn
  have hS10 := hS8.still hsn
  have hB3 := Blk.new w9 25 #[.int .u16 cl, .int .u8 x, .int .u8 v, .int .u16 r, .slice A3 0 c3]
  replace hB1 := hB1.only hsn (fun h => h)
  replace hB2 := hB2.only hsn (fun h => h)
  clear hos he8 hS8 hs9
  obtain ⟨a0, a1, a2, a3, a4⟩ := blk5 hB1
  obtain ⟨b0, b1, b2, b3, b4⟩ := blk5 hB2
  have HS := Lib.hid hS10
  clear hsn he10 hS10 hB1 hB2 hB3 ey ez_ eu
  go_wp2_with fail
  go_ret
  exact ⟨rfl, HS.out⟩

theorem parts_int (w : World) (he : ErrT w) (cl x v f O : Int) (hcl : 0 ≤ cl ∧ cl < 65536) (hx : 0 ≤ x ∧ x < 256) (hv : 0 ≤ v ∧ v < 256) (hf : 0 ≤ f ∧ f < 65536) (hO : 0 ≤ O ∧ O < 4294967296) :
    Calls Tryd.prog 8 #[.int .u16 cl, .int .u8 x, .int .u8 v, .int .u16 f, .int .u32 O] w fun e w' => e = .returned (.bool true) ∧ Still w w' := by
  obtain ⟨cl, rfl⟩ : ∃ c : Nat, cl = c := ⟨cl.toNat, by omega⟩
  obtain ⟨x, rfl⟩ : ∃ c : Nat, x = c := ⟨x.toNat, by omega⟩
  obtain ⟨v, rfl⟩ : ∃ c : Nat, v = c := ⟨v.toNat, by omega⟩
  obtain ⟨f, rfl⟩ : ∃ c : Nat, f = c := ⟨f.toNat, by omega⟩
  obtain ⟨O, rfl⟩ : ∃ c : Nat, O = c := ⟨O.toNat, by omega⟩
  exact parts_walk w he cl x v f O (by omega) (by omega) (by omega) (by omega) (by omega)
end Go.Proofs.YtbapnlgddekakaaDoor
