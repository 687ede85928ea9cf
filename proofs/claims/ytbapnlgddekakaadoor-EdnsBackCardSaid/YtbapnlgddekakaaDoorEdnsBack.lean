/-
  Package edns: EdnsBack.
-/
import Derived.Test.YtbapnlgddekakaaDoorEdnsBackM
namespace Go.Proofs.YtbapnlgddekakaaDoor
open Go.RowKit
set_option linter.unusedVariables false
set_option linter.unusedSimpArgs false

set_option maxRecDepth 1000000 in
set_option maxHeartbeats 6400000 in
theorem back_walk (w : World) (he : ErrT w) (cl x v f : Nat) (hcl : cl < 65536) (hx : x < 256) (hv : v < 256) (hf : f < 65536) (A : Option Addr) (n c : Nat) (os : List Opt) (hl : os.length = n) (hnm : n ≤ maxLen) (hr : Reads w w.heap.size 2 A n (oRow os)) (hcd : ∀ o ∈ os, o.1 < 65536)
    (C T : Nat) (hC : C < 65536) (hT : T < 4294967296) (s : ByteArray) (hs : s.size ≤ maxLen) :
    Calls Tryd.prog 5 #[.agg (eA cl x v f A n c), .int .u16 C, .int .u32 T, .string s] w fun e w' => e = .returned (.bool true) ∧ Still w w' := by
  unfold maxLen at hs
  have Hcd := Lib.hid hcd
  obtain ⟨X, hXe⟩ : ∃ X, X = T / 16777216 := ⟨_, rfl⟩
  obtain ⟨V, hVe⟩ : ∃ V, V = T / 65536 % 256 := ⟨_, rfl⟩
  obtain ⟨F, hFe⟩ : ∃ F, F = T % 65536 := ⟨_, rfl⟩
  have hX : X < 256 := by omega
  have hV : V < 256 := by omega
  have hF : F < 65536 := by omega
  have t1 : (T : Int) / 16777216 = (X : Int) := by omega
  have t2 : (T : Int) / 65536 % 256 = (V : Int) := by omega
  have t3 : IntKind.u16.wrap (T : Int) = (F : Int) := by rw [IntKind.wrap_u16]; omega
  have hTT : ttlOf X V F = T := by unfold ttlOf; omega
  have HTT := Lib.hid hTT
  obtain ⟨U, hU⟩ : ∃ U, U = ttlOf x v f := ⟨_, rfl⟩
  have hUl : U < 4294967296 := by rw [hU]; unfold ttlOf; omega
  have u1 : (U : Int) / 16777216 = (x : Int) := by rw [hU]; unfold ttlOf; omega
  have u2 : (U : Int) / 65536 % 256 = (v : Int) := by rw [hU]; unfold ttlOf; omega
  have u3 : IntKind.u16.wrap (U : Int) = (f : Int) := by rw [hU, IntKind.wrap_u16]; unfold ttlOf; omega
  have HU := Lib.hid hU
  clear hcd hXe hVe hFe hTT hU
  have hS1 := Still.new w (.cells #[.int .u16 cl, .int .u8 x, .int .u8 v, .int .u16 f, .slice A n c] 25)
  have he1 := he.still hS1
  have hr1 := (hr.only hS1 (Nat.le_refl _) (fun _ _ h => h)).more hS1.size
  have hB1 := Blk.new w 25 #[.int .u16 cl, .int .u8 x, .int .u8 v, .int .u16 f, .slice A n c]
  clear hr he
  unfold eA
  go_enter Tryd.func5, Tryd.ntmps5
  obtain ⟨b0, b1, b2, b3, b4⟩ := blk5 hB1
  go_wp2_with fail
  clear b0 b1 b2 b3 b4
  obtain ⟨w1, hw1⟩ : ∃ w1, w1 = w.alloc (.cells #[.int .u16 cl, .int .u8 x, .int .u8 v, .int .u16 f, .slice A n c] 25) := ⟨_, rfl⟩
  rw [← hw1] at hS1 he1 hr1 hB1 ⊢
  obtain ⟨K, hK⟩ : ∃ K, K = w.heap.size := ⟨_, rfl⟩
  rw [← hK] at hB1 ⊢
  clear hw1 hK
  refine (long_any w1 cl x v f A n c w1.heap.size os hl hr1 (Nat.le_refl _) hnm).mono ?_
  rintro e w2 (⟨rfl, hs2⟩ | ⟨hsh, rfl, hs2⟩)
  · have hS2 := hS1.still hs2
    have he2 := he1.still hs2
    go_wp2_with fail
    refine (edns_awake w2 he2).mono ?_
    rintro e w3 ⟨rfl, hs3⟩
    go_wp2_with fail
    go_ret
    exact ⟨rfl, hS2.still hs3⟩
  have hS2 := hS1.still hs2
  have he2 := he1.still hs2
  have hr2 := (hr1.only hs2 (Nat.le_refl _) (fun _ _ h => h)).more hs2.size
  have hB2 := hB1.only hs2 (fun h => h)
  have hn3 : n ≤ 1000000 := by have := hsh.out.1; omega
  have hco : codesOk os := fun o ho => ⟨Hcd.out o ho, hsh.out.2 o ho⟩
  have Hco := Lib.hid hco
  clear hS1 he1 hr1 hB1 hs2 hco
  by_cases h20 : 20000 < s.size
  · have h20' : (20000 : Int) < (s.size : Int) := by omega
    go_wp2_with fail
    refine (edns_awake w2 he2).mono ?_
    rintro e w3 ⟨rfl, hs3⟩
    go_wp2_with fail
    go_ret
    exact ⟨rfl, hS2.still hs3⟩
  have h20' : ¬ (20000 : Int) < (s.size : Int) := by omega
  have h65' : ¬ (65535 : Int) < (s.size : Int) := by omega
  go_wp2_with fail
  refine (edns_awake w2 he2).mono ?_
  rintro e w3 ⟨rfl, hs3⟩
  have hS3 := hS2.still hs3
  have he3 := he2.still hs3
  have hr3 := (hr2.only hs3 (Nat.le_refl _) (fun _ _ h => h)).more hs3.size
  have hB3 := hB2.only hs3 (fun h => h)
  clear hS2 he2 hr2 hB2 hs3
  obtain ⟨b0, b1, b2, b3, b4⟩ := blk5 hB3
  go_wp2_with fail
  clear b0 b1 b2 b3 b4
  refine (write_any w3 cl x v f hcl hx hv hf A n c os hl hn3 Hco.out hr3).mono ?_
  rintro e w4 (⟨hle, rfl, hs4⟩ | ⟨-, rfl, hs4⟩)
  · rw [← HU.out]
    have hos : optsOf (str (wB os)) = some os := optsOf_wB os (fits_of_len Hcd.out hle.out)
    have HO := Lib.hid hos
    have hsz : (str (wB os)).size ≤ 1000000 := by rw [str_size]; have := hle.out; omega
    have hS4 := hS3.still hs4
    have he4 := he3.still hs4
    have hr4 := (hr3.only hs4 (Nat.le_refl _) (fun _ _ h => h)).more hs4.size
    have hB4 := hB3.only hs4 (fun h => h)
    generalize str (wB os) = D at *
    clear hS3 he3 hr3 hB3 hs4 hos
    go_wp2_with fail
    refine (read_any w4 he4 cl U hUl x v f u1 u2 u3 D hsz).mono ?_
    rintro e w5 (⟨os', A', c', hos, rfl, hown, hs5⟩ | ⟨hos, -, -⟩)
    rotate_left
    · cases hos.out.symm.trans HO.out
    obtain rfl : os = os' := Option.some.inj (HO.out.symm.trans hos.out)
    unfold eA
    rw [hl] at hown ⊢
    have hsn := hs5.alloc (.cells #[.int .u16 cl, .int .u8 x, .int .u8 v, .int .u16 f, .slice A' n c'] 25)
    have hS6 := hS4.still hsn
    have he6 := he4.still hsn
    have hr6 := (hr4.only hsn (Nat.le_refl _) (fun _ _ h => h)).more hsn.size
    have hB6 := hB4.only hsn (fun h => h)
    have hry := Reads.of_own (hown.alloc (.cells #[.int .u16 cl, .int .u8 x, .int .u8 v, .int .u16 f, .slice A' n c'] 25))
    have hBy := Blk.new w5 25 #[.int .u16 cl, .int .u8 x, .int .u8 v, .int .u16 f, .slice A' n c']
    clear hos hown hS4 he4 hr4 hB4 hs5 hsn
    obtain ⟨b0, b1, b2, b3, b4⟩ := blk5 hB6
    obtain ⟨d0, d1, d2, d3, d4⟩ := blk5 hBy
    go_wp2_with fail
    clear b0 b1 b2 b3 b4 d0 d1 d2 d3 d4
    obtain ⟨w6, hw6⟩ : ∃ w6, w6 = w5.alloc (.cells #[.int .u16 cl, .int .u8 x, .int .u8 v, .int .u16 f, .slice A' n c'] 25) := ⟨_, rfl⟩
    rw [← hw6] at hS6 he6 hr6 hB6 hry hBy ⊢
    obtain ⟨Ky, hKy⟩ : ∃ Ky, Ky = w5.heap.size := ⟨_, rfl⟩
    rw [← hKy] at hBy ⊢
    clear hw6 hKy
    refine (rsame_any w6 cl x v f cl x v f A A' n c n c' w6.heap.size w6.heap.size os os hl hl hr6 hry (Nat.le_refl _) (Nat.le_refl _) hn3 hn3).mono ?_
    rintro e w7 ⟨hev, hs7⟩
    obtain rfl : e = .returned (.bool true) := hev.trans (ret_bool (decide_eq_true ⟨rfl, rfl, rfl, rfl, rfl⟩))
    have hS7 := hS6.still hs7
    have he7 := he6.still hs7
    have hr7 := (hr6.only hs7 (Nat.le_refl _) (fun _ _ h => h)).more hs7.size
    have hry7 := (hry.only hs7 (Nat.le_refl _) (fun _ _ h => h)).more hs7.size
    have hB7 := hB6.only hs7 (fun h => h)
    have hBy7 := hBy.only hs7 (fun h => h)
    clear hev hS6 he6 hr6 hry hB6 hBy hs7
    obtain ⟨b0, b1, b2, b3, b4⟩ := blk5 hB7
    obtain ⟨d0, d1, d2, d3, d4⟩ := blk5 hBy7
    go_wp2_with fail
    clear b0 b1 b2 b3 b4 d0 d1 d2 d3 d4
    refine (same_any w7 cl x v f cl x v f A A' n c n c' w7.heap.size w7.heap.size os os hl hl hr7 hry7 (Nat.le_refl _) (Nat.le_refl _) hn3 hn3).mono ?_
    rintro e w8 ⟨hev, hs8⟩
    obtain rfl : e = .returned (.bool true) := hev.trans (ret_bool (decide_eq_true ⟨rfl, rfl, rfl, rfl, rfl⟩))
    have hS8 := hS7.still hs8
    have he8 := he7.still hs8
    clear hev hS7 he7 hr7 hry7 hB7 hBy7 hs8 HU
    go_wp2_with fail
    refine (read_any w8 he8 C T hT X V F t1 t2 t3 s (by omega)).mono ?_
    rintro e w9 (⟨os2, A2, c2, hos2, rfl, hown, hs9⟩ | ⟨-, rfl, hs9⟩)
    · have hbk := optsOf_back hos2.out
      have Hbk := Lib.hid hbk
      unfold eA
      have hr2 := Reads.of_own (hown.alloc (.cells #[.int .u16 C, .int .u8 X, .int .u8 V, .int .u16 F, .slice A2 os2.length c2] 25))
      have hS10 := (hS8.still hs9).alloc (.cells #[.int .u16 C, .int .u8 X, .int .u8 V, .int .u16 F, .slice A2 os2.length c2] 25)
      have hB2 := Blk.new w9 25 #[.int .u16 C, .int .u8 X, .int .u8 V, .int .u16 F, .slice A2 os2.length c2]
      obtain ⟨b0, b1, b2, b3, b4⟩ := blk5 hB2
      have hn2 := wB_many os2
      have hn2' : os2.length ≤ 1000000 := by have := hbk.2.1; omega
      have hco2 : codesOk os2 := fun o ho => ⟨(hbk.2.2 o ho).1, by have := (hbk.2.2 o ho).2; omega⟩
      have hle2 : (wB os2).length ≤ 65535 := by have := hbk.2.1; omega
      have Hle2 := Lib.hid hle2
      have Hco2 := Lib.hid hco2
      clear hos2 hown hS8 hs9 he8 hB2 hbk hn2 hle2 hco2
      go_wp2_with fail
      clear b0 b1 b2 b3 b4
      refine (write_any _ C X V F hC hX hV hF A2 os2.length c2 os2 rfl hn2' Hco2.out hr2).mono ?_
      rintro e w11 (⟨-, rfl, hs11⟩ | ⟨hbad, -, -⟩)
      rotate_left
      · exact absurd Hle2.out (by have := hbad.out; omega)
      have hS11 := hS10.still hs11
      rw [Hbk.out.1, HTT.out]
      clear hr2 hs11 hS10
      go_wp2_with fail
      go_ret
      exact ⟨rfl, hS11⟩
    · unfold ez
      have hS10 := (hS8.still hs9).alloc (.cells #[.int .u16 0, .int .u8 0, .int .u8 0, .int .u16 0, .slice none 0 0] 25)
      have hB2 := Blk.new w9 25 #[.int .u16 0, .int .u8 0, .int .u8 0, .int .u16 0, .slice none 0 0]
      obtain ⟨b0, b1, b2, b3, b4⟩ := blk5 hB2
      clear hS8 hs9 he8 hB2
      go_wp2_with fail
      clear b0 b1 b2 b3 b4
      refine (rsame_any _ 0 0 0 0 0 0 0 0 none none 0 0 0 0 0 0 [] [] rfl rfl Reads.none_ Reads.none_ (Nat.zero_le _) (Nat.zero_le _) (by omega) (by omega)).mono ?_
      rintro e w11 ⟨hev, hs11⟩
      obtain rfl : e = .returned (.bool true) := hev.trans (ret_bool (decide_eq_true ⟨rfl, rfl, rfl, rfl, rfl⟩))
      clear hev
      have hS11 := hS10.still hs11
      go_wp2_with fail
      go_ret
      exact ⟨rfl, hS11⟩
  · have hS4 := hS3.still hs4
    have he4 := he3.still hs4
    clear hS3 he3 hr3 hB3 hs4 HU
    go_wp2_with fail
    refine (read_any w4 he4 C T hT X V F t1 t2 t3 s (by omega)).mono ?_
    rintro e w5 (⟨os2, A2, c2, hos2, rfl, hown, hs5⟩ | ⟨-, rfl, hs5⟩)
    · have hbk := optsOf_back hos2.out
      have Hbk := Lib.hid hbk
      unfold eA
      have hr2 := Reads.of_own (hown.alloc (.cells #[.int .u16 C, .int .u8 X, .int .u8 V, .int .u16 F, .slice A2 os2.length c2] 25))
      have hS6 := (hS4.still hs5).alloc (.cells #[.int .u16 C, .int .u8 X, .int .u8 V, .int .u16 F, .slice A2 os2.length c2] 25)
      have hB2 := Blk.new w5 25 #[.int .u16 C, .int .u8 X, .int .u8 V, .int .u16 F, .slice A2 os2.length c2]
      obtain ⟨b0, b1, b2, b3, b4⟩ := blk5 hB2
      have hn2 := wB_many os2
      have hn2' : os2.length ≤ 1000000 := by have := hbk.2.1; omega
      have hco2 : codesOk os2 := fun o ho => ⟨(hbk.2.2 o ho).1, by have := (hbk.2.2 o ho).2; omega⟩
      have hle2 : (wB os2).length ≤ 65535 := by have := hbk.2.1; omega
      have Hle2 := Lib.hid hle2
      have Hco2 := Lib.hid hco2
      clear hos2 hown hS4 hs5 he4 hB2 hbk hn2 hle2 hco2
      go_wp2_with fail
      clear b0 b1 b2 b3 b4
      refine (write_any _ C X V F hC hX hV hF A2 os2.length c2 os2 rfl hn2' Hco2.out hr2).mono ?_
      rintro e w7 (⟨-, rfl, hs7⟩ | ⟨hbad, -, -⟩)
      rotate_left
      · exact absurd Hle2.out (by have := hbad.out; omega)
      have hS7 := hS6.still hs7
      rw [Hbk.out.1, HTT.out]
      clear hr2 hs7 hS6
      go_wp2_with fail
      go_ret
      exact ⟨rfl, hS7⟩
    · unfold ez
      have hS6 := (hS4.still hs5).alloc (.cells #[.int .u16 0, .int .u8 0, .int .u8 0, .int .u16 0, .slice none 0 0] 25)
      have hB2 := Blk.new w5 25 #[.int .u16 0, .int .u8 0, .int .u8 0, .int .u16 0, .slice none 0 0]
      obtain ⟨b0, b1, b2, b3, b4⟩ := blk5 hB2
      clear hS4 hs5 he4 hB2
      go_wp2_with fail
      clear b0 b1 b2 b3 b4
      refine (rsame_any _ 0 0 0 0 0 0 0 0 none none 0 0 0 0 0 0 [] [] rfl rfl Reads.none_ Reads.none_ (Nat.zero_le _) (Nat.zero_le _) (by omega) (by omega)).mono ?_
      rintro e w7 ⟨hev, hs7⟩
      obtain rfl : e = .returned (.bool true) := hev.trans (ret_bool (decide_eq_true ⟨rfl, rfl, rfl, rfl, rfl⟩))
      clear hev
      have hS7 := hS6.still hs7
      go_wp2_with fail
      go_ret
      exact ⟨rfl, hS7⟩
theorem back_all (w : World) (cl x v f : Nat) (A : Option Addr) (n c : Nat) (os : List Opt) (hcl : cl < 65536) (hx : x < 256) (hv : v < 256) (hf : f < 65536) (hnm : n ≤ maxLen) (hl : os.length = n) (hr : Reads w w.heap.size 2 A n (oRow os)) (hcd : ∀ o ∈ os, o.1 < 65536)
    (C : Int) (wC : (Lit.int .u16 C).wf = true) (T : Int) (wT : (Lit.int .u32 T).wf = true) (s : ByteArray) (hs : s.size ≤ maxLen) (he : ErrT w) :
    Calls Tryd.prog 5 #[.agg (eA cl x v f A n c), .int .u16 C, .int .u32 T, .string s] w fun e w' => e = .returned (.bool true) ∧ Still w w' := by
  have hC := wf_u16 wC
  have hT := wf_u32 wT
  obtain ⟨C, rfl⟩ : ∃ c : Nat, C = c := ⟨C.toNat, by omega⟩
  obtain ⟨T, rfl⟩ : ∃ c : Nat, T = c := ⟨T.toNat, by omega⟩
  exact back_walk w he cl x v f hcl hx hv hf A n c os hl hnm hr hcd C T (by omega) (by omega) s hs
end Go.Proofs.YtbapnlgddekakaaDoor
