/-
  Package head: what is written is read so, and the other way about: the numbers, and the contracts for it.
-/
import Derived.Test.YtkoejogmcoigoaaDoorHeadL
namespace Go.Proofs.YtkoejogmcoigoaaDoor
open Go.RowKit
set_option linter.unusedVariables false
set_option linter.unusedSimpArgs false

theorem one_tb (f j : Nat) : one (f.testBit j) = f / 2 ^ j % 2 := by
  rw [Nat.testBit_eq_decide_div_mod_eq]
  have : f / 2 ^ j % 2 = 0 ∨ f / 2 ^ j % 2 = 1 := by omega
  rcases this with h | h <;> simp [one, h]
theorem tb_one (N j : Nat) (b : Bool) (h : N / 2 ^ j % 2 = one b) : N.testBit j = b := by
  rw [Nat.testBit_eq_decide_div_mod_eq, h]
  cases b <;> rfl
theorem flags_back (f : Nat) (hf : f < 65536) : flagsN (f.testBit 15) (f / 2048 % 16) (f.testBit 10) (f.testBit 9) (f.testBit 8) (f.testBit 7) (f.testBit 6) (f.testBit 5) (f.testBit 4) (f % 16) = f := by
  rw [flags_sum, one_tb, one_tb, one_tb, one_tb, one_tb, one_tb, one_tb, one_tb]
  omega
theorem back_bits (qr : Bool) (op : Nat) (aa tc rd ra z ad cd : Bool) (code N : Nat) (h0 : op ≤ 15) (h : code ≤ 15) (hN : flagsN qr op aa tc rd ra z ad cd code = N) :
    N < 65536 ∧ N.testBit 15 = qr ∧ (N : Int) / 2048 % 16 = op ∧ N.testBit 10 = aa ∧ N.testBit 9 = tc ∧ N.testBit 8 = rd ∧ N.testBit 7 = ra ∧ N.testBit 6 = z ∧ N.testBit 5 = ad ∧ N.testBit 4 = cd ∧ (N : Int) % 16 = code := by
  rw [flags_sum] at hN
  have o_qr := one_le qr
  have o_aa := one_le aa
  have o_tc := one_le tc
  have o_rd := one_le rd
  have o_ra := one_le ra
  have o_z := one_le z
  have o_ad := one_le ad
  have o_cd := one_le cd
  generalize he_qr : one qr = p_qr at *
  generalize he_aa : one aa = p_aa at *
  generalize he_tc : one tc = p_tc at *
  generalize he_rd : one rd = p_rd at *
  generalize he_ra : one ra = p_ra at *
  generalize he_z : one z = p_z at *
  generalize he_ad : one ad = p_ad at *
  generalize he_cd : one cd = p_cd at *
  refine ⟨by omega, tb_one _ 15 _ (by rw [he_qr]; omega), by omega, tb_one _ 10 _ (by rw [he_aa]; omega), tb_one _ 9 _ (by rw [he_tc]; omega), tb_one _ 8 _ (by rw [he_rd]; omega), tb_one _ 7 _ (by rw [he_ra]; omega), tb_one _ 6 _ (by rw [he_z]; omega), tb_one _ 5 _ (by rw [he_ad]; omega), tb_one _ 4 _ (by rw [he_cd]; omega), by omega⟩
theorem numAt_str (l m r : List UInt8) (a k : Nat) (hl : l.length = a) (hm : m.length = k) : numAt (str (l ++ (m ++ r))) a k = beL m := by
  unfold numAt
  rw [extract_list, str_list, show a + k - a = k by omega, List.drop_append_of_le_length (by omega), List.drop_of_length_le (by omega), List.nil_append, List.take_append_of_le_length (by omega), List.take_of_length_le (by omega)]
theorem numAt_beB (l r : List UInt8) (a n : Nat) (hl : l.length = a) (hn : n < 65536) : numAt (str (l ++ (beB 2 n ++ r))) a 2 = n := by
  rw [numAt_str l (beB 2 n) r a 2 hl (beB_length 2 n), beL_beB 2 n hn]
theorem writeV_ok (id : Nat) (qr : Bool) (op : Nat) (aa tc rd ra z ad cd : Bool) (code : Nat) (c : List Int) (h0 : op ≤ 15) (h : code ≤ 15) (hc : c.all okC = true) : writeV id qr op aa tc rd ra z ad cd code c = (str (beB 2 id ++ beB 2 (flagsN qr op aa tc rd ra z ad cd code) ++ cntB c 4), 0) := by
  have hv : flagsV qr op aa tc rd ra z ad cd code = ((flagsN qr op aa tc rd ra z ad cd code : Int), 0) := by unfold flagsV; rw [if_pos ⟨h0, h⟩]
  unfold writeV
  rw [hv, if_pos ⟨rfl, hc⟩]
  rfl
theorem writeV_err (id : Nat) (qr : Bool) (op : Nat) (aa tc rd ra z ad cd : Bool) (code : Nat) (c : List Int) (h : (writeV id qr op aa tc rd ra z ad cd code c).2 = 0) : op ≤ 15 ∧ code ≤ 15 ∧ c.all okC = true := by
  unfold writeV at h
  split at h
  · rename_i hc
    have h1 := hc.1
    unfold flagsV at h1
    split at h1
    · rename_i h2; exact ⟨h2.1, h2.2, hc.2⟩
    · cases h1
  · cases h
theorem okC_nat {x : Int} (h : okC x = true) : ∃ n : Nat, x = (n : Int) ∧ n < 65536 := by
  have hx : 0 ≤ x ∧ x ≤ 65535 := of_decide_eq_true h
  exact ⟨x.toNat, by omega, by omega⟩
/-- What was written is read as it was. -/
theorem read_back (id : Nat) (qr : Bool) (op : Nat) (aa tc rd ra z ad cd : Bool) (code : Nat) (n0 n1 n2 n3 : Nat) (h0 : op ≤ 15) (h : code ≤ 15) (hid : id < 65536) (l0 : n0 < 65536) (l1 : n1 < 65536) (l2 : n2 < 65536) (l3 : n3 < 65536) (w : World) (hb : BitsT w) :
    Calls Tryd.prog 13 #[.string (writeV id qr op aa tc rd ra z ad cd code [(n0 : Int), (n1 : Int), (n2 : Int), (n3 : Int)]).1] w fun e w' => e = .returned (.tuple #[.agg #[.int .u16 id, .bool qr, .int .u8 op, .bool aa, .bool tc, .bool rd, .bool ra, .bool z, .bool ad, .bool cd, .int .u8 code], .agg #[.int .i64 (n0 : Int), .int .i64 (n1 : Int), .int .i64 (n2 : Int), .int .i64 (n3 : Int)], .int .i64 0]) ∧ Still w w' := by
  obtain ⟨N, hN⟩ : ∃ N, flagsN qr op aa tc rd ra z ad cd code = N := ⟨_, rfl⟩
  obtain ⟨hlt, b15, bop, b10, b9, b8, b7, b6, b5, b4, bc⟩ := back_bits qr op aa tc rd ra z ad cd code N h0 h hN
  have hall : [(n0 : Int), (n1 : Int), (n2 : Int), (n3 : Int)].all okC = true := by
    have e : ∀ n : Nat, n < 65536 → okC (n : Int) = true := fun n hn => decide_eq_true (by omega)
    simp [e n0 l0, e n1 l1, e n2 l2, e n3 l3]
  rw [writeV_ok id qr op aa tc rd ra z ad cd code _ h0 h hall, hN]
  have hc : cntB [(n0 : Int), (n1 : Int), (n2 : Int), (n3 : Int)] 4 = beB 2 n0 ++ (beB 2 n1 ++ (beB 2 n2 ++ beB 2 n3)) := by simp [cntB]
  have e0 : beB 2 id ++ beB 2 N ++ cntB [(n0 : Int), (n1 : Int), (n2 : Int), (n3 : Int)] 4 = [] ++ (beB 2 id ++ (beB 2 N ++ (beB 2 n0 ++ (beB 2 n1 ++ (beB 2 n2 ++ beB 2 n3))))) := by rw [hc]; simp
  have e1 : beB 2 id ++ beB 2 N ++ cntB [(n0 : Int), (n1 : Int), (n2 : Int), (n3 : Int)] 4 = beB 2 id ++ (beB 2 N ++ (beB 2 n0 ++ (beB 2 n1 ++ (beB 2 n2 ++ beB 2 n3)))) := by rw [hc]; simp
  have e2 : beB 2 id ++ beB 2 N ++ cntB [(n0 : Int), (n1 : Int), (n2 : Int), (n3 : Int)] 4 = (beB 2 id ++ beB 2 N) ++ (beB 2 n0 ++ (beB 2 n1 ++ (beB 2 n2 ++ beB 2 n3))) := by rw [hc]
  have e3 : beB 2 id ++ beB 2 N ++ cntB [(n0 : Int), (n1 : Int), (n2 : Int), (n3 : Int)] 4 = (beB 2 id ++ beB 2 N ++ beB 2 n0) ++ (beB 2 n1 ++ (beB 2 n2 ++ beB 2 n3)) := by rw [hc]; simp
  have e4 : beB 2 id ++ beB 2 N ++ cntB [(n0 : Int), (n1 : Int), (n2 : Int), (n3 : Int)] 4 = (beB 2 id ++ beB 2 N ++ beB 2 n0 ++ beB 2 n1) ++ (beB 2 n2 ++ beB 2 n3) := by rw [hc]; simp
  have e5 : beB 2 id ++ beB 2 N ++ cntB [(n0 : Int), (n1 : Int), (n2 : Int), (n3 : Int)] 4 = (beB 2 id ++ beB 2 N ++ beB 2 n0 ++ beB 2 n1 ++ beB 2 n2) ++ (beB 2 n3 ++ []) := by rw [hc]; simp
  have hsz : (str (beB 2 id ++ beB 2 N ++ cntB [(n0 : Int), (n1 : Int), (n2 : Int), (n3 : Int)] 4)).size = 12 := by rw [str_size]; simp [cntB_length, beB_length]
  refine (read_long _ (by rw [hsz]; exact Nat.le_refl _) (by rw [hsz]; unfold maxLen; decide) w hb id N n0 n1 n2 n3 ?_ ?_ ?_ ?_ ?_ ?_).mono ?_
  · rw [e0]; exact numAt_beB _ _ _ _ rfl hid
  · rw [e1]; exact numAt_beB _ _ _ _ (by simp [beB_length]) hlt
  · rw [e2]; exact numAt_beB _ _ _ _ (by simp [beB_length]) l0
  · rw [e3]; exact numAt_beB _ _ _ _ (by simp [beB_length]) l1
  · rw [e4]; exact numAt_beB _ _ _ _ (by simp [beB_length]) l2
  · rw [e5]; exact numAt_beB _ _ _ _ (by simp [beB_length]) l3
  · rintro e w' ⟨rfl, hs⟩
    refine ⟨?_, hs⟩
    rw [b15, bop, b10, b9, b8, b7, b6, b5, b4, bc]
theorem from_back (id : Nat) (qr : Bool) (op : Nat) (aa tc rd ra z ad cd : Bool) (code : Nat) (N : Nat) (h0 : op ≤ 15) (h : code ≤ 15) (hN : flagsN qr op aa tc rd ra z ad cd code = N) (w : World) (hb : BitsT w) :
    Calls Tryd.prog 12 #[.int .u16 N] w fun e w' => e = .returned (.agg #[.int .u16 0, .bool qr, .int .u8 op, .bool aa, .bool tc, .bool rd, .bool ra, .bool z, .bool ad, .bool cd, .int .u8 code]) ∧ Still w w' := by
  obtain ⟨hlt, b15, bop, b10, b9, b8, b7, b6, b5, b4, bc⟩ := back_bits qr op aa tc rd ra z ad cd code N h0 h hN
  refine (from_any N hlt w hb).mono ?_
  rintro e w' ⟨rfl, hs⟩
  refine ⟨?_, hs⟩
  rw [b15, bop, b10, b9, b8, b7, b6, b5, b4, bc]
theorem flags_from (f : Nat) (hf : f < 65536) (id : Int) (w : World) (hb : BitsT w) :
    Calls Tryd.prog 10 #[.agg #[.int .u16 id, .bool (f.testBit 15), .int .u8 ((f : Int) / 2048 % 16), .bool (f.testBit 10), .bool (f.testBit 9), .bool (f.testBit 8), .bool (f.testBit 7), .bool (f.testBit 6), .bool (f.testBit 5), .bool (f.testBit 4), .int .u8 ((f : Int) % 16)]] w fun e w' => e = .returned (.tuple #[.int .u16 (f : Int), .int .i64 0]) ∧ Still w w' := by
  have h1 : (f : Int) / 2048 % 16 = ((f / 2048 % 16 : Nat) : Int) := by omega
  have h2 : (f : Int) % 16 = ((f % 16 : Nat) : Int) := by omega
  rw [h1, h2]
  refine (flags_ok id (f.testBit 15) (f / 2048 % 16) (f.testBit 10) (f.testBit 9) (f.testBit 8) (f.testBit 7) (f.testBit 6) (f.testBit 5) (f.testBit 4) (f % 16) w hb (by omega) (by omega)).mono ?_
  rintro e w' ⟨rfl, hs⟩
  rw [flags_back f hf]
  exact ⟨rfl, hs⟩
theorem extract_parts (s : ByteArray) (h : 12 ≤ s.size) (id f n0 n1 n2 n3 : Nat) (hid : numAt s 0 2 = id) (hf : numAt s 2 2 = f) (hn0 : numAt s 4 2 = n0) (hn1 : numAt s 6 2 = n1) (hn2 : numAt s 8 2 = n2) (hn3 : numAt s 10 2 = n3) :
    str (beB 2 id ++ beB 2 f ++ cntB [(n0 : Int), (n1 : Int), (n2 : Int), (n3 : Int)] 4) = s.extract 0 12 := by
  have hl : s.data.toList.length = s.size := by rw [Array.length_toList]; rfl
  have hp : ∀ a n, a + 2 ≤ 12 → numAt s a 2 = n → beB 2 n = (s.data.toList.drop a).take 2 := fun a n ha hn => by
    rw [← hn]
    unfold numAt
    rw [extract_list, show a + 2 - a = 2 by omega]
    exact beB_beL 2 _ (by rw [List.length_take, List.length_drop, hl]; omega)
  have hc : cntB [(n0 : Int), (n1 : Int), (n2 : Int), (n3 : Int)] 4 = beB 2 n0 ++ (beB 2 n1 ++ (beB 2 n2 ++ beB 2 n3)) := by simp [cntB]
  rw [hc, hp 0 id (by omega) hid, hp 2 f (by omega) hf, hp 4 n0 (by omega) hn0, hp 6 n1 (by omega) hn1, hp 8 n2 (by omega) hn2, hp 10 n3 (by omega) hn3]
  rw [← str_of (s.extract 0 12), extract_list]
  congr 1
  rw [List.drop_zero, show 12 - 0 = 2 + (2 + (2 + (2 + (2 + 2)))) from rfl, List.take_add, List.take_add, List.take_add, List.take_add, List.take_add, List.drop_drop, List.drop_drop, List.drop_drop, List.drop_drop]
  simp
/-- What was read is written as it was. -/
theorem write_back (s : ByteArray) (h : 12 ≤ s.size) (id f n0 n1 n2 n3 : Nat) (hid : numAt s 0 2 = id) (hf : numAt s 2 2 = f) (hn0 : numAt s 4 2 = n0) (hn1 : numAt s 6 2 = n1) (hn2 : numAt s 8 2 = n2) (hn3 : numAt s 10 2 = n3) (w : World) (hb : BitsT w) :
    Calls Tryd.prog 11 #[.agg #[.int .u16 (id : Int), .bool (f.testBit 15), .int .u8 ((f : Int) / 2048 % 16), .bool (f.testBit 10), .bool (f.testBit 9), .bool (f.testBit 8), .bool (f.testBit 7), .bool (f.testBit 6), .bool (f.testBit 5), .bool (f.testBit 4), .int .u8 ((f : Int) % 16)], .agg #[.int .i64 (n0 : Int), .int .i64 (n1 : Int), .int .i64 (n2 : Int), .int .i64 (n3 : Int)]] w fun e w' => e = .returned (.tuple #[.string (s.extract 0 12), .int .i64 0]) ∧ Still w w' := by
  have lid : id < 65536 := by rw [← hid]; exact beL_len s 0 2 (by omega)
  have lf : f < 65536 := by rw [← hf]; exact beL_len s 2 2 (by omega)
  have l0 : n0 < 65536 := by rw [← hn0]; exact beL_len s 4 2 (by omega)
  have l1 : n1 < 65536 := by rw [← hn1]; exact beL_len s 6 2 (by omega)
  have l2 : n2 < 65536 := by rw [← hn2]; exact beL_len s 8 2 (by omega)
  have l3 : n3 < 65536 := by rw [← hn3]; exact beL_len s 10 2 (by omega)
  have hall : [(n0 : Int), (n1 : Int), (n2 : Int), (n3 : Int)].all okC = true := by
    have e : ∀ n : Nat, n < 65536 → okC (n : Int) = true := fun n hn => decide_eq_true (by omega)
    simp [e n0 l0, e n1 l1, e n2 l2, e n3 l3]
  have h1 : (f : Int) / 2048 % 16 = ((f / 2048 % 16 : Nat) : Int) := by omega
  have h2 : (f : Int) % 16 = ((f % 16 : Nat) : Int) := by omega
  rw [h1, h2]
  refine (write_any id (f.testBit 15) (f / 2048 % 16) (f.testBit 10) (f.testBit 9) (f.testBit 8) (f.testBit 7) (f.testBit 6) (f.testBit 5) (f.testBit 4) (f % 16) _ _ _ _ w hb (by omega) (by omega) lid).mono ?_
  rintro e w' ⟨rfl, hs⟩
  rw [writeV_ok id (f.testBit 15) (f / 2048 % 16) (f.testBit 10) (f.testBit 9) (f.testBit 8) (f.testBit 7) (f.testBit 6) (f.testBit 5) (f.testBit 4) (f % 16) _ (by omega) (by omega) hall, flags_back f lf, extract_parts s h id f n0 n1 n2 n3 hid hf hn0 hn1 hn2 hn3]
  exact ⟨rfl, hs⟩
end Go.Proofs.YtkoejogmcoigoaaDoor
