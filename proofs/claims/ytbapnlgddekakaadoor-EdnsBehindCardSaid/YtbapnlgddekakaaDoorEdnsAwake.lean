/-
  Package edns: the examples are as they are told.
-/
import Derived.Test.YtbapnlgddekakaaDoorEdnsCode
namespace Go.Proofs.YtbapnlgddekakaaDoor
open Go.RowKit
set_option linter.unusedVariables false
set_option linter.unusedSimpArgs false

set_option maxRecDepth 1000000 in
set_option maxHeartbeats 6400000 in
theorem edns_awake (w : World) (he : ErrT w) : Calls Tryd.prog 10 #[] w fun e w' => e = .returned (.bool true) ∧ Still w w' := by
  go_enter Tryd.func10, Tryd.ntmps10
  go_wp2_with fail
  refine (read_any w he 1232 32768 (by omega) 0 0 32768 (by decide) (by decide) (by decide) ⟨#[0, 10, 0, 2, 97, 98]⟩ (by decide)).mono ?_
  have ho1 : optsOf ⟨#[0, 10, 0, 2, 97, 98]⟩ = some [(10, ⟨#[97, 98]⟩)] := by kernel_rfl
  have ho2 : optsOf ⟨#[0, 10, 0, 3, 97, 98]⟩ = none := by kernel_rfl
  have ho3 : optsOf ⟨#[0, 10, 0]⟩ = none := by kernel_rfl
  have HO1 := Lib.hid ho1
  have HO2 := Lib.hid ho2
  have HO3 := Lib.hid ho3
  clear ho1 ho2 ho3
  rintro e w1 (⟨os, A, c, hos, rfl, hown, hs1⟩ | ⟨hos, rfl, hs1⟩)
  · obtain rfl : os = [(10, ⟨#[97, 98]⟩)] := Option.some.inj (hos.out.symm.trans HO1.out)
    have he1 := he.still hs1
    clear hos he
    unfold eA
    have hs2 := hs1.alloc (.cells #[.int .u16 1232, .int .u8 0, .int .u8 0, .int .u16 32768, .slice A 1 c] 25)
    have he2 := he1.still (Still.new w1 (.cells #[.int .u16 1232, .int .u8 0, .int .u8 0, .int .u16 32768, .slice A 1 c] 25))
    have hB2 := Blk.new w1 25 #[.int .u16 1232, .int .u8 0, .int .u8 0, .int .u16 32768, .slice A 1 c]
    have hown := hown.alloc (.cells #[.int .u16 1232, .int .u8 0, .int .u8 0, .int .u16 32768, .slice A 1 c] 25)
    have hrd := Reads.of_own hown
    change Reads _ _ 2 A 1 (oRow [(10, ⟨#[97, 98]⟩)]) at hrd
    clear hown he1 hs1
    go_wp2_with fail
    generalize w1.alloc (.cells #[.int .u16 1232, .int .u8 0, .int .u8 0, .int .u16 32768, .slice A 1 c] 25) = w2 at *
    obtain ⟨K, hK⟩ : ∃ K, K = w1.heap.size := ⟨_, rfl⟩
    rw [← hK] at hB2 ⊢
    clear hK
    refine (read_any w2 he2 0 0 (by omega) 0 0 0 (by decide) (by decide) (by decide) ⟨#[0, 10, 0, 3, 97, 98]⟩ (by decide)).mono ?_
    rintro e w3 (⟨os, A', c', hos, rfl, _, hs3⟩ | ⟨_, rfl, hs3⟩)
    · cases hos.out.symm.trans HO2.out
    · unfold ez
      have hs3' := (hs2.still hs3).alloc (.cells #[.int .u16 0, .int .u8 0, .int .u8 0, .int .u16 0, .slice none 0 0] 25)
      have hst3 := hs3.alloc (.cells #[.int .u16 0, .int .u8 0, .int .u8 0, .int .u16 0, .slice none 0 0] 25)
      have he3 := he2.still hst3
      have hB3 := hB2.only hst3 (fun h => h)
      have hrd := (hrd.only hst3 (Nat.le_refl _) (fun _ _ h => h)).more hst3.size
      clear hs2 hs3 hst3 he2 hB2
      go_wp2_with fail
      generalize w3.alloc (.cells #[.int .u16 0, .int .u8 0, .int .u8 0, .int .u16 0, .slice none 0 0] 25) = w4 at *
      refine (read_any w4 he3 0 0 (by omega) 0 0 0 (by decide) (by decide) (by decide) ⟨#[0, 10, 0]⟩ (by decide)).mono ?_
      rintro e w5 (⟨os, A', c', hos, rfl, _, hs5⟩ | ⟨_, rfl, hs5⟩)
      · cases hos.out.symm.trans HO3.out
      · unfold ez
        have hst5 := hs5.alloc (.cells #[.int .u16 0, .int .u8 0, .int .u8 0, .int .u16 0, .slice none 0 0] 25)
        have hs5' := hs3'.still hst5
        have hB5 := hB3.only hst5 (fun h => h)
        have hrd := (hrd.only hst5 (Nat.le_refl _) (fun _ _ h => h)).more hst5.size
        clear hs3' hs5 hst5 he3 hB3
        go_wp2_with fail
        generalize w5.alloc (.cells #[.int .u16 0, .int .u8 0, .int .u8 0, .int .u16 0, .slice none 0 0] 25) = w6 at *
        refine (split_in 16 (by omega) _).mono ?_
        rintro e wx ⟨rfl, rfl⟩
        go_wp2_with fail
        refine (split_out 4096 (by omega) _).mono ?_
        rintro e wx ⟨rfl, rfl⟩
        obtain ⟨d0, d1, d2, d3, d4⟩ := blk5 hB5
        have hr2 := Reads.of_own (World.ownsRow_lit (e := 40) (size := 2) (base := 0) w6 #[.int .u16 10, .string ⟨#[97, 98]⟩] 1 (Nat.zero_le _) (by unfold maxLen; omega) rfl)
        change Reads _ _ 2 _ 1 (oRow [(10, ⟨#[97, 98]⟩)]) at hr2
        have hs7 := hs5'.alloc (.cells #[.int .u16 10, .string ⟨#[97, 98]⟩] 40)
        have hsn := Still.new w6 (.cells #[.int .u16 10, .string ⟨#[97, 98]⟩] 40)
        have hrd := (hrd.only hsn (Nat.le_refl _) (fun _ _ h => h)).more hsn.size
        clear hB5 hs5' hsn
        go_wp2_with fail
        refine (rsame_any _ 1232 0 0 32768 1232 0 0 32768 A _ 1 c 1 1 _ _ _ _ rfl rfl hrd hr2 (Nat.le_refl _) (Nat.le_refl _) (by omega) (by omega)).mono ?_
        rintro e w8 ⟨rfl, hs8⟩
        have hs8 := hs7.still hs8
        go_wp2_with fail
        refine (code_any 0 1 (by omega) (by omega) _).mono ?_
        rintro e wx ⟨rfl, rfl⟩
        go_wp2_with fail
        go_ret
        exact ⟨rfl, hs8⟩
  · cases hos.out.symm.trans HO1.out
set_option maxRecDepth 1000000 in
set_option maxHeartbeats 6400000 in
theorem codes_walk (w : World) (he : ErrT w) (c e : Nat) (hc : c < 256) (he_ : e < 256) (n : Int) :
    Calls Tryd.prog 7 #[.int .u8 c, .int .u8 e, .int .i64 n] w fun e w' => e = .returned (.bool true) ∧ Still w w' := by
  have ha := and15_8 c hc
  obtain ⟨N, hN⟩ : ∃ N : Nat, IntKind.u64.wrap n % 4096 = (N : Int) := ⟨(IntKind.u64.wrap n % 4096).toNat, by omega⟩
  have hN2 : (IntKind.u64.wrap n).tmod 4096 = (N : Int) := by rw [Int.tmod_eq_emod_of_nonneg (by rw [IntKind.wrap_u64]; omega)]; exact hN
  have hN4 : N < 4096 := by omega
  have y1 : IntKind.i64.wrap (N : Int) = (N : Int) := IntWalk.i64_in _ (by omega)
  clear hN
  go_enter Tryd.func7, Tryd.ntmps7
  go_wp2_with fail
  refine (code_any c e hc he_ _).mono ?_
  rintro ev wx ⟨rfl, rfl⟩
  go_wp2_with fail
  refine (split_in (e * 16 + c % 16) (by omega) _).mono ?_
  rintro ev wx ⟨rfl, rfl⟩
  have q1 : (e * 16 + c % 16) % 16 = c % 16 := by omega
  have q2 : (e * 16 + c % 16) / 16 = e := by omega
  rw [q1, q2]
  obtain ⟨m, hm⟩ : ∃ m, m = c % 16 := ⟨_, rfl⟩
  rw [← hm] at ha ⊢
  have hm2 : m % 16 = m := by omega
  have hm16 : m < 16 := by omega
  clear q1 q2
  have Hm := Lib.hid hm
  clear hm
  go_wp2_with fail
  refine (edns_awake _ he).mono ?_
  rintro ev w1 ⟨rfl, hs1⟩
  go_wp2_with fail
  refine (code_any c e hc he_ _).mono ?_
  rintro ev wx ⟨rfl, rfl⟩
  rw [← Hm.out]
  go_wp2_with fail
  refine (code_any m e (by omega) he_ _).mono ?_
  rintro ev wx ⟨rfl, rfl⟩
  rw [hm2]
  go_wp2_with fail
  refine (split_in N hN4 _).mono ?_
  rintro ev wx ⟨rfl, rfl⟩
  have i1 : ((N % 16 : Nat) : Int) < 16 := by omega
  have i2 : N % 16 < 16 := by omega
  have hNN : (N / 16 * 16 + N % 16 % 16 : Nat) = N := by omega
  have HNN := Lib.hid hNN
  obtain ⟨r, hr⟩ : ∃ r, r = N % 16 := ⟨_, rfl⟩
  obtain ⟨d, hd⟩ : ∃ d, d = N / 16 := ⟨_, rfl⟩
  rw [← hr] at i1 i2 HNN ⊢
  rw [← hd] at HNN ⊢
  have hd256 : d < 256 := by omega
  clear hr hd hNN
  go_wp2_with fail
  refine (code_any r d (by omega) hd256 _).mono ?_
  rintro ev wx ⟨rfl, rfl⟩
  rw [HNN.out]
  go_wp2_with fail
  go_ret
  exact ⟨rfl, hs1⟩
theorem codes_int (w : World) (he : ErrT w) (a b : Int) (ha : 0 ≤ a ∧ a < 256) (hb : 0 ≤ b ∧ b < 256) (n : Int) :
    Calls Tryd.prog 7 #[.int .u8 a, .int .u8 b, .int .i64 n] w fun e w' => e = .returned (.bool true) ∧ Still w w' := by
  obtain ⟨c, rfl⟩ : ∃ c : Nat, a = c := ⟨a.toNat, by omega⟩
  obtain ⟨e, rfl⟩ : ∃ e : Nat, b = e := ⟨b.toNat, by omega⟩
  exact codes_walk w he c e (by omega) (by omega) n
end Go.Proofs.YtbapnlgddekakaaDoor
