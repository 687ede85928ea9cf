/-
  The reference of package head: flags, and the header of flags; numbers of two bytes.
-/
import Derived.Test.YtkoejogmcoigoaaDoorHeadFlags
import Derived.Test.YtkoejogmcoigoaaDoorCurPartsM
namespace Go.Proofs.YtkoejogmcoigoaaDoor
open Go.RowKit
set_option linter.unusedVariables false
set_option linter.unusedSimpArgs false

theorem ret_pair {k : IntKind} {a b : Int} {v : Value} (h : a = b) : Ending.returned (.tuple #[.int k a, v]) = .returned (.tuple #[.int k b, v]) := by rw [h]
theorem bit_any (b : Bool) (n : Int) (w : World) :
    Calls Tryd.prog 24 #[.bool b, .int .i64 n] w fun e w' => e = .returned (.int .i64 ((one b : Int) * n)) ∧ w = w' := by
  cases b
  · go_enter Tryd.func24, Tryd.ntmps24
    go_wp2
    go_ret
    exact ⟨ret_int (by simp [one]), rfl⟩
  · go_enter Tryd.func24, Tryd.ntmps24
    go_wp2
    go_ret
    exact ⟨ret_int (by simp [one]), rfl⟩
def flagsV (qr : Bool) (op : Nat) (aa tc rd ra z ad cd : Bool) (code : Nat) : Int × Int := if op ≤ 15 ∧ code ≤ 15 then ((flagsN qr op aa tc rd ra z ad cd code : Int), 0) else (0, 1)
theorem flags_all (id : Int) (qr : Bool) (op : Nat) (aa tc rd ra z ad cd : Bool) (code : Nat) (w : World) (hb : BitsT w) (h0 : op < 256) (h : code < 256) :
    Calls Tryd.prog 10 #[.agg #[.int .u16 id, .bool qr, .int .u8 op, .bool aa, .bool tc, .bool rd, .bool ra, .bool z, .bool ad, .bool cd, .int .u8 code]] w fun e w' => e = .returned (.tuple #[.int .u16 (flagsV qr op aa tc rd ra z ad cd code).1, .int .i64 (flagsV qr op aa tc rd ra z ad cd code).2]) ∧ Still w w' := by
  unfold flagsV
  by_cases c0 : op ≤ 15
  · by_cases c1 : code ≤ 15
    · rw [if_pos ⟨c0, c1⟩]; exact flags_ok id qr op aa tc rd ra z ad cd code w hb c0 c1
    · rw [if_neg (by omega)]; exact flags_code id qr op aa tc rd ra z ad cd code w c0 (by omega) h
  · rw [if_neg (by omega)]; exact flags_op id qr op aa tc rd ra z ad cd code w (by omega) h0
theorem rflags_op (id : Int) (qr : Bool) (op : Nat) (aa tc rd ra z ad cd : Bool) (code : Nat) (w : World) (h : 15 < op) (ho : op < 256) :
    Calls Tryd.prog 16 #[.agg #[.int .u16 id, .bool qr, .int .u8 op, .bool aa, .bool tc, .bool rd, .bool ra, .bool z, .bool ad, .bool cd, .int .u8 code]] w fun e w' => e = .returned (.tuple #[.int .u16 0, .int .i64 1]) ∧ Still w w' := by
  have h1 : (15 : Int) < (op : Int) := by omega
  have hst := Still.new w (.cells #[.int .u16 id, .bool qr, .int .u8 op, .bool aa, .bool tc, .bool rd, .bool ra, .bool z, .bool ad, .bool cd, .int .u8 code] 25)
  go_enter Tryd.func16, Tryd.ntmps16
  go_wp2
  go_ret2
  exact ⟨rfl, hst⟩
theorem rflags_code (id : Int) (qr : Bool) (op : Nat) (aa tc rd ra z ad cd : Bool) (code : Nat) (w : World) (h0 : op ≤ 15) (h : 15 < code) (ho : code < 256) :
    Calls Tryd.prog 16 #[.agg #[.int .u16 id, .bool qr, .int .u8 op, .bool aa, .bool tc, .bool rd, .bool ra, .bool z, .bool ad, .bool cd, .int .u8 code]] w fun e w' => e = .returned (.tuple #[.int .u16 0, .int .i64 1]) ∧ Still w w' := by
  have h1 : ¬ (15 : Int) < (op : Int) := by omega
  have h1' : decide ((15 : Int) < (op : Int)) = false := decide_eq_false h1
  have h2 : (15 : Int) < (code : Int) := by omega
  have hst := Still.new w (.cells #[.int .u16 id, .bool qr, .int .u8 op, .bool aa, .bool tc, .bool rd, .bool ra, .bool z, .bool ad, .bool cd, .int .u8 code] 25)
  go_enter Tryd.func16, Tryd.ntmps16
  go_wp2
  go_ret2
  exact ⟨rfl, hst⟩
set_option maxRecDepth 1000000 in
set_option maxHeartbeats 1600000 in
theorem rflags_ok (id : Int) (qr : Bool) (op : Nat) (aa tc rd ra z ad cd : Bool) (code : Nat) (w : World) (h0 : op ≤ 15) (h : code ≤ 15) :
    Calls Tryd.prog 16 #[.agg #[.int .u16 id, .bool qr, .int .u8 op, .bool aa, .bool tc, .bool rd, .bool ra, .bool z, .bool ad, .bool cd, .int .u8 code]] w fun e w' => e = .returned (.tuple #[.int .u16 (flagsN qr op aa tc rd ra z ad cd code : Int), .int .i64 0]) ∧ Still w w' := by
  have h1 : ¬ (15 : Int) < (op : Int) := by omega
  have h1' : decide ((15 : Int) < (op : Int)) = false := decide_eq_false h1
  have h2 : ¬ (15 : Int) < (code : Int) := by omega
  have h2' : decide ((15 : Int) < (code : Int)) = false := decide_eq_false h2
  have hst := Still.new w (.cells #[.int .u16 id, .bool qr, .int .u8 op, .bool aa, .bool tc, .bool rd, .bool ra, .bool z, .bool ad, .bool cd, .int .u8 code] 25)
  have hfin := flags_sum qr op aa tc rd ra z ad cd code
  have o_qr := one_le qr
  have o_aa := one_le aa
  have o_tc := one_le tc
  have o_rd := one_le rd
  have o_ra := one_le ra
  have o_z := one_le z
  have o_ad := one_le ad
  have o_cd := one_le cd
  obtain ⟨p_qr, e_qr⟩ : ∃ p : Nat, (one qr : Int) * 32768 = (p : Int) := ⟨one qr * 32768, by omega⟩
  obtain ⟨p_aa, e_aa⟩ : ∃ p : Nat, (one aa : Int) * 1024 = (p : Int) := ⟨one aa * 1024, by omega⟩
  obtain ⟨p_tc, e_tc⟩ : ∃ p : Nat, (one tc : Int) * 512 = (p : Int) := ⟨one tc * 512, by omega⟩
  obtain ⟨p_rd, e_rd⟩ : ∃ p : Nat, (one rd : Int) * 256 = (p : Int) := ⟨one rd * 256, by omega⟩
  obtain ⟨p_ra, e_ra⟩ : ∃ p : Nat, (one ra : Int) * 128 = (p : Int) := ⟨one ra * 128, by omega⟩
  obtain ⟨p_z, e_z⟩ : ∃ p : Nat, (one z : Int) * 64 = (p : Int) := ⟨one z * 64, by omega⟩
  obtain ⟨p_ad, e_ad⟩ : ∃ p : Nat, (one ad : Int) * 32 = (p : Int) := ⟨one ad * 32, by omega⟩
  obtain ⟨p_cd, e_cd⟩ : ∃ p : Nat, (one cd : Int) * 16 = (p : Int) := ⟨one cd * 16, by omega⟩
  have hsum : flagsN qr op aa tc rd ra z ad cd code = p_qr + op * 2048 + p_aa + p_tc + p_rd + p_ra + p_z + p_ad + p_cd + code := by omega
  have hlt : p_qr + op * 2048 + p_aa + p_tc + p_rd + p_ra + p_z + p_ad + p_cd + code < 65536 := by omega
  have y0 : IntKind.i64.wrap ((op : Int) * 2048) = (op : Int) * 2048 := IntWalk.i64_in _ (by omega)
  have y1 : IntKind.i64.wrap ((p_qr : Int) + (op : Int) * 2048) = ((p_qr : Int) + (op : Int) * 2048) := IntWalk.i64_in _ (by omega)
  have y2 : IntKind.i64.wrap (((p_qr : Int) + (op : Int) * 2048) + (p_aa : Int)) = (((p_qr : Int) + (op : Int) * 2048) + (p_aa : Int)) := IntWalk.i64_in _ (by omega)
  have y3 : IntKind.i64.wrap ((((p_qr : Int) + (op : Int) * 2048) + (p_aa : Int)) + (p_tc : Int)) = ((((p_qr : Int) + (op : Int) * 2048) + (p_aa : Int)) + (p_tc : Int)) := IntWalk.i64_in _ (by omega)
  have y4 : IntKind.i64.wrap (((((p_qr : Int) + (op : Int) * 2048) + (p_aa : Int)) + (p_tc : Int)) + (p_rd : Int)) = (((((p_qr : Int) + (op : Int) * 2048) + (p_aa : Int)) + (p_tc : Int)) + (p_rd : Int)) := IntWalk.i64_in _ (by omega)
  have y5 : IntKind.i64.wrap ((((((p_qr : Int) + (op : Int) * 2048) + (p_aa : Int)) + (p_tc : Int)) + (p_rd : Int)) + (p_ra : Int)) = ((((((p_qr : Int) + (op : Int) * 2048) + (p_aa : Int)) + (p_tc : Int)) + (p_rd : Int)) + (p_ra : Int)) := IntWalk.i64_in _ (by omega)
  have y6 : IntKind.i64.wrap (((((((p_qr : Int) + (op : Int) * 2048) + (p_aa : Int)) + (p_tc : Int)) + (p_rd : Int)) + (p_ra : Int)) + (p_z : Int)) = (((((((p_qr : Int) + (op : Int) * 2048) + (p_aa : Int)) + (p_tc : Int)) + (p_rd : Int)) + (p_ra : Int)) + (p_z : Int)) := IntWalk.i64_in _ (by omega)
  have y7 : IntKind.i64.wrap ((((((((p_qr : Int) + (op : Int) * 2048) + (p_aa : Int)) + (p_tc : Int)) + (p_rd : Int)) + (p_ra : Int)) + (p_z : Int)) + (p_ad : Int)) = ((((((((p_qr : Int) + (op : Int) * 2048) + (p_aa : Int)) + (p_tc : Int)) + (p_rd : Int)) + (p_ra : Int)) + (p_z : Int)) + (p_ad : Int)) := IntWalk.i64_in _ (by omega)
  have y8 : IntKind.i64.wrap (((((((((p_qr : Int) + (op : Int) * 2048) + (p_aa : Int)) + (p_tc : Int)) + (p_rd : Int)) + (p_ra : Int)) + (p_z : Int)) + (p_ad : Int)) + (p_cd : Int)) = (((((((((p_qr : Int) + (op : Int) * 2048) + (p_aa : Int)) + (p_tc : Int)) + (p_rd : Int)) + (p_ra : Int)) + (p_z : Int)) + (p_ad : Int)) + (p_cd : Int)) := IntWalk.i64_in _ (by omega)
  have y9 : IntKind.i64.wrap ((((((((((p_qr : Int) + (op : Int) * 2048) + (p_aa : Int)) + (p_tc : Int)) + (p_rd : Int)) + (p_ra : Int)) + (p_z : Int)) + (p_ad : Int)) + (p_cd : Int)) + (code : Int)) = ((((((((((p_qr : Int) + (op : Int) * 2048) + (p_aa : Int)) + (p_tc : Int)) + (p_rd : Int)) + (p_ra : Int)) + (p_z : Int)) + (p_ad : Int)) + (p_cd : Int)) + (code : Int)) := IntWalk.i64_in _ (by omega)
  have yz : ((((((((((p_qr : Int) + (op : Int) * 2048) + (p_aa : Int)) + (p_tc : Int)) + (p_rd : Int)) + (p_ra : Int)) + (p_z : Int)) + (p_ad : Int)) + (p_cd : Int)) + (code : Int)) % 65536 = ((((((((((p_qr : Int) + (op : Int) * 2048) + (p_aa : Int)) + (p_tc : Int)) + (p_rd : Int)) + (p_ra : Int)) + (p_z : Int)) + (p_ad : Int)) + (p_cd : Int)) + (code : Int)) := by omega
  have yw : IntKind.u16.wrap ((((((((((p_qr : Int) + (op : Int) * 2048) + (p_aa : Int)) + (p_tc : Int)) + (p_rd : Int)) + (p_ra : Int)) + (p_z : Int)) + (p_ad : Int)) + (p_cd : Int)) + (code : Int)) = ((((((((((p_qr : Int) + (op : Int) * 2048) + (p_aa : Int)) + (p_tc : Int)) + (p_rd : Int)) + (p_ra : Int)) + (p_z : Int)) + (p_ad : Int)) + (p_cd : Int)) + (code : Int)) := by rw [IntKind.wrap_u16]; exact yz
  have Hsum := Lib.hid hsum
  have b_qr := bit_any qr
  have b_aa := bit_any aa
  have b_tc := bit_any tc
  have b_rd := bit_any rd
  have b_ra := bit_any ra
  have b_z := bit_any z
  have b_ad := bit_any ad
  have b_cd := bit_any cd
  clear hfin hsum hlt o_qr o_aa o_tc o_rd o_ra o_z o_ad o_cd
  have c_qr : ∀ w, Calls Tryd.prog 24 #[.bool qr, .int .i64 32768] w fun e w' => e = .returned (.int .i64 (p_qr : Int)) ∧ w = w' := by
    intro w; rw [← e_qr]; exact b_qr 32768 w
  have C_qr := Lib.hid c_qr
  clear b_qr c_qr e_qr
  have c_aa : ∀ w, Calls Tryd.prog 24 #[.bool aa, .int .i64 1024] w fun e w' => e = .returned (.int .i64 (p_aa : Int)) ∧ w = w' := by
    intro w; rw [← e_aa]; exact b_aa 1024 w
  have C_aa := Lib.hid c_aa
  clear b_aa c_aa e_aa
  have c_tc : ∀ w, Calls Tryd.prog 24 #[.bool tc, .int .i64 512] w fun e w' => e = .returned (.int .i64 (p_tc : Int)) ∧ w = w' := by
    intro w; rw [← e_tc]; exact b_tc 512 w
  have C_tc := Lib.hid c_tc
  clear b_tc c_tc e_tc
  have c_rd : ∀ w, Calls Tryd.prog 24 #[.bool rd, .int .i64 256] w fun e w' => e = .returned (.int .i64 (p_rd : Int)) ∧ w = w' := by
    intro w; rw [← e_rd]; exact b_rd 256 w
  have C_rd := Lib.hid c_rd
  clear b_rd c_rd e_rd
  have c_ra : ∀ w, Calls Tryd.prog 24 #[.bool ra, .int .i64 128] w fun e w' => e = .returned (.int .i64 (p_ra : Int)) ∧ w = w' := by
    intro w; rw [← e_ra]; exact b_ra 128 w
  have C_ra := Lib.hid c_ra
  clear b_ra c_ra e_ra
  have c_z : ∀ w, Calls Tryd.prog 24 #[.bool z, .int .i64 64] w fun e w' => e = .returned (.int .i64 (p_z : Int)) ∧ w = w' := by
    intro w; rw [← e_z]; exact b_z 64 w
  have C_z := Lib.hid c_z
  clear b_z c_z e_z
  have c_ad : ∀ w, Calls Tryd.prog 24 #[.bool ad, .int .i64 32] w fun e w' => e = .returned (.int .i64 (p_ad : Int)) ∧ w = w' := by
    intro w; rw [← e_ad]; exact b_ad 32 w
  have C_ad := Lib.hid c_ad
  clear b_ad c_ad e_ad
  have c_cd : ∀ w, Calls Tryd.prog 24 #[.bool cd, .int .i64 16] w fun e w' => e = .returned (.int .i64 (p_cd : Int)) ∧ w = w' := by
    intro w; rw [← e_cd]; exact b_cd 16 w
  have C_cd := Lib.hid c_cd
  clear b_cd c_cd e_cd
  go_enter Tryd.func16, Tryd.ntmps16
  go_wp2_with fail
  have hB := Blk.new w 25 #[.int .u16 id, .bool qr, .int .u8 op, .bool aa, .bool tc, .bool rd, .bool ra, .bool z, .bool ad, .bool cd, .int .u8 code]
  generalize w.alloc (.cells #[.int .u16 id, .bool qr, .int .u8 op, .bool aa, .bool tc, .bool rd, .bool ra, .bool z, .bool ad, .bool cd, .int .u8 code] 25) = w1 at *
  generalize w.heap.size = g at *
  have d1 : w1.cell? ⟨g, 1, none⟩ = some (.bool qr) := hB.cell 1
  have d2 : w1.cell? ⟨g, 2, none⟩ = some (.int .u8 op) := hB.cell 2
  have d3 : w1.cell? ⟨g, 3, none⟩ = some (.bool aa) := hB.cell 3
  have d4 : w1.cell? ⟨g, 4, none⟩ = some (.bool tc) := hB.cell 4
  have d5 : w1.cell? ⟨g, 5, none⟩ = some (.bool rd) := hB.cell 5
  have d6 : w1.cell? ⟨g, 6, none⟩ = some (.bool ra) := hB.cell 6
  have d7 : w1.cell? ⟨g, 7, none⟩ = some (.bool z) := hB.cell 7
  have d8 : w1.cell? ⟨g, 8, none⟩ = some (.bool ad) := hB.cell 8
  have d9 : w1.cell? ⟨g, 9, none⟩ = some (.bool cd) := hB.cell 9
  have d10 : w1.cell? ⟨g, 10, none⟩ = some (.int .u8 code) := hB.cell 10
  clear hB
  go_quiet ((go_at_call 24; first | exact quiet_left (C_qr.out _) | exact quiet_left (C_aa.out _) | exact quiet_left (C_tc.out _) | exact quiet_left (C_rd.out _) | exact quiet_left (C_ra.out _) | exact quiet_left (C_z.out _) | exact quiet_left (C_ad.out _) | exact quiet_left (C_cd.out _)))
  go_wp2_with fail
  go_ret2
  rw [Hsum.out]
  exact ⟨ret_pair (by omega), hst.drewN _⟩
theorem rflags_all (id : Int) (qr : Bool) (op : Nat) (aa tc rd ra z ad cd : Bool) (code : Nat) (w : World) (h0 : op < 256) (h : code < 256) :
    Calls Tryd.prog 16 #[.agg #[.int .u16 id, .bool qr, .int .u8 op, .bool aa, .bool tc, .bool rd, .bool ra, .bool z, .bool ad, .bool cd, .int .u8 code]] w fun e w' => e = .returned (.tuple #[.int .u16 (flagsV qr op aa tc rd ra z ad cd code).1, .int .i64 (flagsV qr op aa tc rd ra z ad cd code).2]) ∧ Still w w' := by
  unfold flagsV
  by_cases c0 : op ≤ 15
  · by_cases c1 : code ≤ 15
    · rw [if_pos ⟨c0, c1⟩]; exact rflags_ok id qr op aa tc rd ra z ad cd code w c0 c1
    · rw [if_neg (by omega)]; exact rflags_code id qr op aa tc rd ra z ad cd code w c0 (by omega) h
  · rw [if_neg (by omega)]; exact rflags_op id qr op aa tc rd ra z ad cd code w (by omega) h0

theorem div_bit (f k : Nat) (hf : f < 65536) : ((f : Int) / ((2 ^ k : Nat) : Int) % 2 == 1) = f.testBit k := by
  rw [Nat.testBit_eq_decide_div_mod_eq]
  generalize 2 ^ k = p
  rw [Bool.eq_iff_iff, beq_iff_eq, decide_eq_true_iff]
  omega
theorem rfrom_any (f : Nat) (hf : f < 65536) (w : World) :
    Calls Tryd.prog 17 #[.int .u16 f] w fun e w' => e = .returned (.agg #[.int .u16 0, .bool (f.testBit 15), .int .u8 ((f : Int) / 2048 % 16), .bool (f.testBit 10), .bool (f.testBit 9), .bool (f.testBit 8), .bool (f.testBit 7), .bool (f.testBit 6), .bool (f.testBit 5), .bool (f.testBit 4), .int .u8 ((f : Int) % 16)]) ∧ Still w w' := by
  have b0 : ((f : Int) / 32768 == 1) = f.testBit 15 := by
    have := div_bit f 15 hf
    rw [show ((2 ^ 15 : Nat) : Int) = 32768 from rfl] at this
    rw [← this, Bool.eq_iff_iff, beq_iff_eq, beq_iff_eq]
    omega
  have b10 := div_bit f 10 hf
  rw [show ((2 ^ 10 : Nat) : Int) = 1024 from rfl] at b10
  have b9 := div_bit f 9 hf
  rw [show ((2 ^ 9 : Nat) : Int) = 512 from rfl] at b9
  have b8 := div_bit f 8 hf
  rw [show ((2 ^ 8 : Nat) : Int) = 256 from rfl] at b8
  have b7 := div_bit f 7 hf
  rw [show ((2 ^ 7 : Nat) : Int) = 128 from rfl] at b7
  have b6 := div_bit f 6 hf
  rw [show ((2 ^ 6 : Nat) : Int) = 64 from rfl] at b6
  have b5 := div_bit f 5 hf
  rw [show ((2 ^ 5 : Nat) : Int) = 32 from rfl] at b5
  have b4 := div_bit f 4 hf
  rw [show ((2 ^ 4 : Nat) : Int) = 16 from rfl] at b4
  go_enter Tryd.func17, Tryd.ntmps17
  go_wp2_with fail
  refine bodyPost_ret (results_cell_row rfl _ _ _ _ _ (0, 0) _ rfl (Blk.new w 25 #[.int .u16 0, .bool (f.testBit 15), .int .u8 ((f : Int) / 2048 % 16), .bool (f.testBit 10), .bool (f.testBit 9), .bool (f.testBit 8), .bool (f.testBit 7), .bool (f.testBit 6), .bool (f.testBit 5), .bool (f.testBit 4), .int .u8 ((f : Int) % 16)]) (Tryd.underlying25) rfl (by kernel_rfl)) rfl ?_
  exact ⟨rfl, Still.new w _⟩
theorem conv_two (w : World) (b c : UInt8) (x y : Int) (hx : x = (b.toNat : Int)) (hy : y = (c.toNat : Int)) :
    (convert 37 9 (.slice (some ⟨w.heap.size, 0, none⟩) 2 2)).run Tryd.prog (w.alloc (.cells #[.int .u8 x, .int .u8 y] 5)) = .ok (.string (str [b, c])) (w.alloc (.cells #[.int .u8 x, .int .u8 y] 5)) := by
  subst hx hy
  exact conv_own (own_of_full (base := w.heap.size) (xs := bv [b, c]) (by
    show (w.heap.push (.cells _ _ _))[w.heap.size]? = _
    simp [bv]) (Nat.le_refl _) (by decide) rfl)
theorem numAt_one (s : ByteArray) (k : Nat) (h : k < s.size) : numAt s k 1 = s[k].toNat := by
  unfold numAt
  have hl : s.data.toList.length = s.size := by rw [Array.length_toList]; rfl
  rw [extract_list, show k + 1 - k = 1 by omega, List.drop_eq_getElem_cons (by omega)]
  simp [beL]
  rfl
theorem numAt_two (s : ByteArray) (k : Nat) (h : k + 1 < s.size) : numAt s k 2 = s[k].toNat * 256 + s[k + 1].toNat := by
  rw [show (2 : Nat) = 1 + 1 from rfl, numAt_add s k 1 1 (by omega), numAt_one s k (by omega), numAt_one s (k + 1) h]
set_option maxRecDepth 1000000 in
theorem two_any (n : Nat) (hn : n < 65536) (w : World) :
    Calls Tryd.prog 23 #[.int .i64 n] w fun e w' => e = .returned (.string (str (beB 2 n))) ∧ Still w w' := by
  have hcv := conv_two w (UInt8.ofNat (n / 256)) (UInt8.ofNat n) ((n : Int) / 256) ((n : Int) % 256) (by simp; omega) (by simp)
  have hbb : beB 2 n = [UInt8.ofNat (n / 256), UInt8.ofNat n] := rfl
  rw [← hbb] at hcv
  clear hbb
  go_enter Tryd.func23, Tryd.ntmps23
  go_wp2_with fail
  go_ret
  exact ⟨rfl, Still.new _ _⟩
theorem number_ref (s : ByteArray) (k : Nat) (hs : s.size ≤ maxLen) (hk : k + 1 < s.size) (w : World) :
    Calls Tryd.prog 22 #[.string s, .int .i64 k] w fun e w' => e = .returned (.int .i64 (numAt s k 2 : Int)) ∧ ∃ q, w' = w.drewN q := by
  unfold maxLen at hs
  have h1 : (k : Int) < (s.size : Int) := by omega
  have h2 : (k : Int) + 1 < (s.size : Int) := by omega
  have h0 : (0 : Int) ≤ (k : Int) + 1 := by omega
  have y1 : IntKind.i64.wrap ((k : Int) + 1) = (k : Int) + 1 := IntWalk.i64_in _ (by omega)
  have y2 : ((k : Int) + 1).toNat = k + 1 := by omega
  go_enter Tryd.func22, Tryd.ntmps22
  go_wp2_with fail
  go_quiet (fail)
  go_wp2_with fail
  go_ret
  have hb1 : s[k].toNat < 256 := UInt8.toNat_lt _
  have hb2 : s[k + 1].toNat < 256 := UInt8.toNat_lt _
  exact ⟨ret_int (by rw [numAt_two s k hk]; unfold wrap64; omega), _, rfl⟩
end Go.Proofs.YtkoejogmcoigoaaDoor
