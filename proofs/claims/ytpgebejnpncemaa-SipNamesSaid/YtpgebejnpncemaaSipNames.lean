/-
  SipNames: the examples; blocks at their ends; keys that are 0; what nobody made, and nil.
-/
import Derived.Test.YtpgebejnpncemaaSipZ
namespace Go.Proofs.Ytpgebejnpncemaa
open Go.RowKit
set_option linter.unusedVariables false

def wideCells : Array Value := (List.replicate 256 (Value.int .u8 0)).toArray
theorem info_u8 : (Try.prog.info? 5).map (fun i => (i.zero, i.size, i.bytes)) = some (some (.int .u8 0), 1, 1) := by kernel_rfl
set_option maxRecDepth 1000000 in
theorem make_wide (W : World) : (Instr.makeSlice 54 (.int .i64 256) (.int .i64 256)).run Try.prog W = .ok (.slice (some ⟨W.heap.size, 0, none⟩) 256 256) (W.alloc (.cells wideCells 5)) := by
  obtain ⟨i1, hi, hz0, hz1, hz2⟩ := info_parts info_u8
  have h := run_makeSlice (P := Try.prog) W 54 5 i1 (.int .u8 0) Try.underlying54 hi hz0 .i64 .i64 256 256 (by omega) (by omega) (by rw [hz1]; decide) (by rw [hz2]; decide) (by omega)
  rw [hz1] at h
  exact h.trans (by
    have e : madeCells (Value.int .u8 0).cells ((256 : Int).toNat * 1) = wideCells := by kernel_rfl
    rw [e]
    rfl)
def wide : ByteArray := strOfNums (List.replicate 256 0)
theorem wide_size : wide.size = 256 := (strOfNums_size _).trans (List.length_replicate)
theorem conv_wide (W : World) : (convert 54 9 (.slice (some ⟨W.heap.size, 0, none⟩) 256 256)).run Try.prog (W.alloc (.cells wideCells 5)) = .ok (.string wide) (W.alloc (.cells wideCells 5)) :=
  run_convert_bytes_arg _ _ _ Try.underlying54 Try.underlying5 W.heap.size 0 256 256 (List.replicate 256 0) (List.length_replicate) (fun i hi => by
    have h := (Blk.new W 5 wideCells).cell (0 + i)
    rw [h]
    unfold wideCells
    rw [Nat.zero_add, List.getElem?_toArray, List.getElem?_replicate, if_pos hi, List.getD_eq_getElem?_getD, List.getElem?_replicate, if_pos hi]
    rfl) _ Try.underlying9
theorem Hsh.kept {w w' : World} {g : Nat} {s : St} (h : Hsh w g s) (k : Still w w') : Hsh w' g s := Blk.only h k (fun h => h)

set_option maxRecDepth 1000000 in
set_option maxHeartbeats 6400000 in
theorem sipNames_walk (w : World) : Calls Try.prog 10 #[] w fun e w' => e = .returned (.bool true) ∧ Still w w' := by
  go_enter Try.func10, Try.ntmps10
  go_wp2_with fail
  refine (sip_awake _).mono ?_
  rintro e w1 ⟨rfl, hs1⟩
  go_wp2_with fail
  go_loopw [1, 2] (fun x i wr => ∃ (k : Nat) (J : ByteArray), k ≤ 40 ∧ i = .int .i64 k ∧ x = .string J ∧ J.size = k ∧ Hid (Still w wr)) (fun _ i _ => 40 - (intOf i).toNat)
  case atStart => exact ⟨0, _, by omega, rfl, rfl, rfl, Lib.hid hs1⟩
  case round =>
    clear hs1
    obtain ⟨k, J, hk, rfl, rfl, hJ, hst⟩ := hrel
    have HJ := Lib.hid hJ
    have hJs : J.size < 100 := by omega
    clear hJ
    by_cases hlt : k < 40
    · have hlti : (k : Int) < 40 := by omega
      obtain ⟨z, hz⟩ : ∃ z, z = 7 * k % 256 := ⟨_, rfl⟩
      have hzw : IntKind.u8.wrap (7 * (k : Int)) = (z : Int) := by rw [IntKind.wrap_u8]; omega
      clear hz
      go_wp2_with fail
      refine (SumTop_any (by omega) (by omega) J (by omega)).mono ?_
      rintro e w2 ⟨rfl, hs2⟩
      have hs2 := hst.out.still hs2
      go_wp2_with fail
      refine (refSum_any (by omega) (by omega) J (by omega)).mono ?_
      rintro e w3 ⟨rfl, hs3⟩
      have hs3 := hs2.still hs3
      clear hs2 hst
      have hcv : (convert 54 9 (.slice (some ⟨w3.heap.size, 0, none⟩) 1 1)).run Try.prog (w3.alloc (.cells #[.int .u8 (z : Int)] 5)) = .ok (.string (strOfNums [(z : Int)])) (w3.alloc (.cells #[.int .u8 (z : Int)] 5)) :=
        run_convert_bytes_arg _ _ _ Try.underlying54 Try.underlying5 w3.heap.size 0 1 1 [(z : Int)] rfl (fun i hi => by
          have : i = 0 := by omega
          subst this
          exact (Blk.new w3 5 #[.int .u8 (z : Int)]).cell 0) _ Try.underlying9
      have hq1 : (strOfNums [(z : Int)]).size = 1 := strOfNums_size _
      have hs4 := hs3.alloc (.cells #[.int .u8 (z : Int)] 5)
      go_wp2_with fail
      go_roundw
      case rel => exact ⟨k + 1, _, by omega, by go_num, rfl, by rw [ByteArray.size_append, hq1, HJ.out], Lib.hid hs4⟩
      case measure => simp [intOf]; omega
    · have hkn : k = 40 := by omega
      subst hkn
      clear HJ hJs
      have hmk := make_wide wr
      have hcv := conv_wide wr
      have hs1 := hst.out.alloc (.cells wideCells 5)
      clear hst
      go_wp2_with fail
      generalize wr.alloc (.cells wideCells 5) = w1 at *
      clear hmk hcv
      refine (SumTop_any (by omega) (by omega) wide (by rw [wide_size]; omega)).mono ?_
      rintro e w2 ⟨rfl, hs2⟩
      have hs2 := hs1.still hs2
      clear hs1
      go_wp2_with fail
      refine (refSum_any (by omega) (by omega) wide (by rw [wide_size]; omega)).mono ?_
      rintro e w3 ⟨rfl, hs3⟩
      have hs3 := hs2.still hs3
      clear hs2
      have hz := Blk.new w3 60 zcells
      have hs4 := hs3.alloc (.cells zcells 60)
      have hgz : w.heap.size ≤ w3.heap.size := hs3.size
      have hgz' : w3.heap.size < (w3.alloc (.cells zcells 60)).heap.size := by simp
      generalize hGe : w3.heap.size = G at *
      go_wp2_with fail
      generalize hW4 : w3.alloc (.cells zcells 60) = w4 at hz hs4 hgz'
      have hW4 : w3.alloc (.cells #[.bool false, .int .u64 0, .int .u64 0, .int .u64 0, .int .u64 0, .int .u8 0, .int .u8 0, .int .u8 0, .int .u8 0, .int .u8 0, .int .u8 0, .int .u8 0, .int .u8 0, .int .i64 0] 60) = w4 := hW4
      generalize w3.alloc (.cells #[.bool false, .int .u64 0, .int .u64 0, .int .u64 0, .int .u64 0, .int .u8 0, .int .u8 0, .int .u8 0, .int .u8 0, .int .u8 0, .int .u8 0, .int .u8 0, .int .u8 0, .int .i64 0] 60) = w4' at hW4 ⊢
      subst hW4
      clear hGe hs3
      refine (New_any (by omega) (by omega)).mono ?_
      rintro e w5 ⟨g2, rfl, hg2, hb5, hs5⟩
      have hb5 : Hsh w5 g2 (st0 0 0) := hb5
      have hz5 := hz.only hs5 (fun h => h)
      have hs5 := hs4.still hs5
      have hne : G ≠ g2 := by omega
      have hg2w : w.heap.size ≤ g2 := by have := hs4.size; omega
      have ok0 : (st0 0 0).Ok := st0_ok (by omega) (by omega)
      have hn0 : ((st0 0 0).n : Int) = 0 := rfl
      have Hn0 := Lib.hid hn0
      obtain ⟨s0, hs0⟩ : ∃ s0, s0 = st0 0 0 := ⟨_, rfl⟩
      rw [← hs0] at hb5 ok0 hn0
      have hkz := key_zero hz5
      rw [← hs0] at hkz
      have Hs0 := Lib.hid hs0
      clear hs0 hs4 hz hgz'
      go_wp2_with fail
      refine (Sum_gen hkz ok0 (by omega)).mono ?_
      rintro e w6 ⟨rfl, wm, ha, ho, hst⟩
      have ha6 := ha.kept hst
      have hbm : Hsh wm g2 s0 := Blk.only hb5 ho (fun e => hne e.symm)
      have hb6 := hbm.kept hst
      have hs6 := (hs5.trans ho (fun i hi e => by omega)).still hst
      clear ha ho hst hb5 hs5 hkz hz5
      go_wp2_with fail
      refine (Sum_any hb6 ok0 (by omega)).mono ?_
      rintro e w7 ⟨rfl, ht7⟩
      have ha7 := ha6.kept ht7
      have hb7 := hb6.kept ht7
      have hs7 := hs6.still ht7
      clear ha6 hb6 hs6 ht7
      go_wp2_with fail
      refine (Len_any ha7 ok0).mono ?_
      rintro e w8 ⟨rfl, rfl⟩
      go_wp2_with fail
      have hnn : s0.n = 0 := by omega
      have habc : (⟨#[97, 98, 99]⟩ : ByteArray).size = 3 := rfl
      refine (Write_any ha7 ok0 ⟨#[97, 98, 99]⟩ (by omega)).mono ?_
      rintro e w8 ⟨rfl, ha8, ho8⟩
      have hb8 : Hsh w8 g2 s0 := Blk.only hb7 ho8 (fun e => hne e.symm)
      have hs8 := hs7.trans ho8 (fun i hi e => by omega) (S := fun _ => False)
      clear ha7 hb7 hs7 ho8
      go_wp2_with fail
      refine (Write_any hb8 ok0 ⟨#[97, 98, 99]⟩ (by omega)).mono ?_
      rintro e w9 ⟨rfl, hb9, ho9⟩
      have ha9 : Hsh w9 G (s0.eat (byts ⟨#[97, 98, 99]⟩)) := Blk.only ha8 ho9 hne
      have hs9 := hs8.trans ho9 (fun i hi e => by omega) (S := fun _ => False)
      have ok9 := St.eat_ok ok0 _ (byts_ok ⟨#[97, 98, 99]⟩)
      have hn9 : ((s0.eat (byts ⟨#[97, 98, 99]⟩)).n : Int) = 3 := by rw [St.eat_n, byts_len, hnn]; rfl
      clear ha8 hb8 hs8 ho9
      generalize s0.eat (byts ⟨#[97, 98, 99]⟩) = s3 at *
      have hn3 : s3.n < 1000000000 := by omega
      go_wp2_with fail
      refine (Sum_any ha9 ok9 hn3).mono ?_
      rintro e w10 ⟨rfl, ht⟩
      have ha10 := ha9.kept ht
      have hb10 := hb9.kept ht
      have hs10 := hs9.still ht
      clear ha9 hb9 hs9 ht
      go_wp2_with fail
      refine (Sum_any hb10 ok9 hn3).mono ?_
      rintro e w11 ⟨rfl, ht⟩
      have ha11 := ha10.kept ht
      have hs11 := hs10.still ht
      clear ha10 hb10 hs10 ht
      go_wp2_with fail
      refine (Len_any ha11 ok9).mono ?_
      rintro e w12 ⟨rfl, rfl⟩
      go_wp2_with fail
      refine (Write_nil _ _).mono ?_
      rintro e w12 ⟨rfl, rfl⟩
      go_wp2_with fail
      refine (Sum_nil _).mono ?_
      rintro e w12 ⟨rfl, rfl⟩
      go_wp2_with fail
      refine (Len_nil _).mono ?_
      rintro e w12 ⟨rfl, rfl⟩
      go_wp2_with fail
      refine (SCopy_nil _).mono ?_
      rintro e w12 ⟨rfl, rfl⟩
      go_wp2_with fail
      go_ret
      exact ⟨rfl, hs11⟩
end Go.Proofs.Ytpgebejnpncemaa
