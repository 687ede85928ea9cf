/-
  CursorNames: the examples; numbers at their ends; nothing; nobody's cursor.
-/
import Derived.Test.YtkpogngbajkgmaaDoorCurLaw
import Derived.Lib.SlBytesConst
namespace Go.Proofs.YtkpogngbajkgmaaDoor
open Go.RowKit
set_option linter.unusedVariables false

set_option maxRecDepth 1000000 in
set_option maxHeartbeats 6400000 in
theorem curNames_walk (w : World) (he : ErrT w) : Calls Tryd.prog 5 #[] w fun e w' => e = .returned (.bool true) ∧ Still w w' := by
  have kc := fun (w : World) (C : Array Value) (n c : Nat) => Lib.run_convert_bytes_const (P := Tryd.prog) w 34 5 C n c Tryd.underlying34 Tryd.underlying5
  have Kc := Lib.hid kc
  clear kc
  go_enter Tryd.func5, Tryd.ntmps5
  go_wp2_with fail
  refine (cur_awake _ he).mono ?_
  rintro e w0 ⟨rfl, hs0⟩
  have he0 := he.still hs0
  clear he
  go_wp2_with fail
  refine (cur_new _ _).mono ?_
  rintro e w1 ⟨g, rfl, hg, h1, hst⟩
  have he1 := he0.still hst
  have hgw : w.heap.size ≤ g := by have := hs0.size; omega
  have hs1 := hs0.still hst
  clear he0 hs0 hst hg
  obtain ⟨s, hs⟩ : ∃ s : ByteArray, s = ⟨#[255, 255, 255, 255, 255, 255, 255]⟩ := ⟨_, rfl⟩
  rw [← hs] at h1
  have hz : s.size = 7 := by rw [hs]; rfl
  have hm : s.size ≤ maxLen := by rw [hz]; unfold maxLen; omega
  have n1 : numAt s 0 4 = 4294967295 := by rw [hs]; kernel_rfl
  have n2 : numAt s 4 2 = 65535 := by rw [hs]; kernel_rfl
  have n3 : numAt s 6 1 = 255 := by rw [hs]; kernel_rfl
  have n4 : s.extract 7 (7 + 0) = ⟨#[]⟩ := by rw [hs]; kernel_rfl
  have Hz := Lib.hid hz
  have N1 := Lib.hid n1
  have N2 := Lib.hid n2
  have N3 := Lib.hid n3
  have N4 := Lib.hid n4
  clear n1 n2 n3 n4 hs hz
  go_wp2_with fail
  refine (Four_in h1 (by omega) hm (by rw [Hz.out]; decide)).mono ?_
  rintro e w2 ⟨hee, h2, ho2⟩
  rw [N1.out] at hee
  subst hee
  have hs2 := hs1.trans ho2 (fun i hi e => by omega)
  have he2 := he1.by_cur h1 ho2
  clear h1 hs1 he1 ho2
  go_wp2_with fail
  refine (Two_in h2 (by rw [Hz.out]; decide) hm (by rw [Hz.out]; decide)).mono ?_
  rintro e w3 ⟨hee, h3, ho3⟩
  rw [show 0 + 4 = 4 from rfl, N2.out] at hee
  subst hee
  have hs3 := hs2.trans ho3 (fun i hi e => by omega)
  have he3 := he2.by_cur h2 ho3
  clear h2 hs2 he2 ho3
  go_wp2_with fail
  refine (Byte_in h3 (by rw [Hz.out]; decide) hm (by rw [Hz.out]; decide)).mono ?_
  rintro e w4 ⟨hee, h4, ho4⟩
  rw [show 0 + 4 + 2 = 6 from rfl, N3.out] at hee
  subst hee
  have hs4 := hs3.trans ho4 (fun i hi e => by omega)
  have he4 := he3.by_cur h3 ho4
  clear h3 hs3 he3 ho4
  go_wp2_with fail
  refine (Take_in h4 (by rw [Hz.out]; decide) hm 0 (by rw [Hz.out]; decide)).mono ?_
  rintro e w5 ⟨hee, h5, ho5⟩
  rw [show 0 + 4 + 2 + 1 = 7 from rfl, N4.out] at hee
  rw [show 0 + 4 + 2 + 1 + 0 = 7 from rfl] at h5
  subst hee
  have hs5 := hs4.trans ho5 (fun i hi e => by omega)
  have he5 := he4.by_cur h4 ho5
  clear h4 hs4 he4 ho5
  go_wp2_with fail
  refine (Take_short h5 he5 (by rw [Hz.out]; decide) hm 1 (by rw [Hz.out]; decide)).mono ?_
  rintro e w6 ⟨rfl, hst⟩
  have h6 := h5.still hst
  have he6 := he5.still hst
  have hs6 := hs5.still hst
  clear h5 hs5 he5 hst
  go_wp2_with fail
  refine (Take_neg h6 he6 (-1) (by decide)).mono ?_
  rintro e w7 ⟨rfl, hst⟩
  have h7 := h6.still hst
  have he7 := he6.still hst
  have hs7 := hs6.still hst
  clear h6 hs6 he6 hst
  go_wp2_with fail
  refine (Take_short h7 he7 (by rw [Hz.out]; decide) hm 9223372036854775807 (by rw [Hz.out]; decide)).mono ?_
  rintro e w8 ⟨rfl, hst⟩
  have h8 := h7.still hst
  have he8 := he7.still hst
  have hs8 := hs7.still hst
  clear h7 hs7 he7 hst
  go_wp2_with fail
  refine (At_any h8).mono ?_
  rintro e w9 ⟨rfl, rfl⟩
  go_wp2_with fail
  refine (Left_any h8 (by rw [Hz.out]; decide) hm).mono ?_
  rintro e w9 ⟨hee, q, rfl⟩
  rw [Hz.out] at hee
  subst hee
  have h9 := h8.still ((Only.refl (fun _ => False) w8).drewN q)
  have he9 := he8.still ((Only.refl (fun _ => False) w8).drewN q)
  have hs9 := hs8.drewN q
  generalize w8.drewN q = w9 at *
  clear h8 hs8 he8
  go_wp2_with fail
  refine (Seek_out h9 he9 (-1) (.inl (by decide))).mono ?_
  rintro e w10 ⟨rfl, hst⟩
  have h10 := h9.still hst
  have he10 := he9.still hst
  have hs10 := hs9.still hst
  clear h9 hs9 he9 hst
  go_wp2_with fail
  refine (Seek_in h10 0 (by omega)).mono ?_
  rintro e w11 ⟨rfl, h11, ho11⟩
  have hs11 := hs10.trans ho11 (fun i hi e => by omega)
  have he11 := he10.by_cur h10 ho11
  clear h10 hs10 he10 ho11
  go_wp2_with fail
  refine (At_any h11).mono ?_
  rintro e w12 ⟨rfl, rfl⟩
  go_wp2_with fail
  refine (Left_any h11 (by omega) hm).mono ?_
  rintro e w12 ⟨hee, q, rfl⟩
  rw [Hz.out] at hee
  subst hee
  have he12 := he11.still ((Only.refl (fun _ => False) w11).drewN q)
  have hs12 := hs11.drewN q
  generalize w11.drewN q = w12 at *
  clear h11 hs11 he11 hm Hz N1 N2 N3 N4
  go_wp2_with fail
  refine (cur_new _ _).mono ?_
  rintro e w13 ⟨g2, rfl, hg2, h13, hst⟩
  have he13 := he12.still hst
  have hgw2 : w.heap.size ≤ g2 := by have := hs12.size; omega
  have hs13 := hs12.still hst
  clear he12 hs12 hst hg2
  have hm0 : (⟨#[]⟩ : ByteArray).size ≤ maxLen := by unfold maxLen; decide
  go_wp2_with fail
  refine (Byte_short h13 he13 (by decide) hm0 (by decide)).mono ?_
  rintro e w14 ⟨rfl, hst⟩
  have h14 := h13.still hst
  have he14 := he13.still hst
  have hs14 := hs13.still hst
  clear h13 hs13 he13 hst
  go_wp2_with fail
  refine (Take_in h14 (by decide) hm0 0 (by decide)).mono ?_
  rintro e w15 ⟨rfl, h15, ho15⟩
  have hs15 := hs14.trans ho15 (fun i hi e => by omega)
  have he15 := he14.by_cur h14 ho15
  clear h14 hs14 he14 ho15
  go_wp2_with fail
  refine (Byte_nil _ he15).mono ?_
  rintro e w16 ⟨rfl, hst⟩
  have he16 := he15.still hst
  have hs16 := hs15.still hst
  clear hs15 he15 hst
  go_wp2_with fail
  refine (Two_nil _ he16).mono ?_
  rintro e w17 ⟨rfl, hst⟩
  have he17 := he16.still hst
  have hs17 := hs16.still hst
  clear hs16 he16 hst
  go_wp2_with fail
  refine (Four_nil _ he17).mono ?_
  rintro e w18 ⟨rfl, hst⟩
  have he18 := he17.still hst
  have hs18 := hs17.still hst
  clear hs17 he17 hst
  go_wp2_with fail
  refine (Take_nil 0 _ he18).mono ?_
  rintro e w19 ⟨rfl, hst⟩
  have he19 := he18.still hst
  have hs19 := hs18.still hst
  clear hs18 he18 hst
  go_wp2_with fail
  refine (Seek_nil 0 _ he19).mono ?_
  rintro e w20 ⟨rfl, hst⟩
  have hs20 := hs19.still hst
  clear hs19 he19 hst
  go_wp2_with fail
  refine (At_nil _).mono ?_
  rintro e w21 ⟨rfl, rfl⟩
  go_wp2_with fail
  refine (Left_nil _).mono ?_
  rintro e w21 ⟨rfl, rfl⟩
  have kc := Kc.out
  have hrA : Reads (w20.alloc (Obj.cells #[Value.int .u8 97] 5 (1, 2))) (w20.alloc (Obj.cells #[Value.int .u8 97] 5 (1, 2))).heap.size 1 (some ⟨w20.heap.size, 0, none⟩) 1 (bv [97]) := by
    refine ⟨rfl, fun _ => ⟨_, rfl, by simp, fun j u hu => ?_⟩⟩
    have hj : j = 0 := by
      rcases Nat.lt_or_ge j 1 with h | h
      · omega
      · rw [List.getElem?_eq_none (by simpa [bv] using h)] at hu; cases hu
    subst hj
    simp [bv] at hu
    subst hu
    have hk := cell_of_row (w20.alloc (Obj.cells #[Value.int .u8 97] 5 (1, 2))) w20.heap.size 0 #[Value.int .u8 97] 5 (1, 2) (heap_alloc_new w20 _)
    simpa [Addr.add] using hk
  have hs21 := hs20.alloc (Obj.cells #[Value.int .u8 97] 5 (1, 2))
  clear hs20
  go_wp2_with fail
  refine (Put1_any _ _ _ _ _ hrA (by omega) 0 (by omega)).mono ?_
  rintro e w22 ⟨b, rfl, hb, hown, hst⟩
  have hs22 := hs21.still hst
  have hcv := conv_own hown
  rw [show str ([97] ++ beB 1 0) = ⟨#[97, 0]⟩ by kernel_rfl] at hcv
  clear hs21 hst hrA kc hown
  go_wp2_with fail
  refine (Put2_any none 0 0 [] _ (Reads.nil_bytes _ _) (by omega) 65535 (by omega)).mono ?_
  rintro e w23 ⟨b, rfl, hb, hown, hst⟩
  have hs23 := hs22.still hst
  have hcv2 := conv_own hown
  rw [show str ([] ++ beB 2 65535) = ⟨#[255, 255]⟩ by kernel_rfl] at hcv2
  clear hs22 hst hown hcv
  go_wp2_with fail
  refine (Put4_any none 0 0 [] _ (Reads.nil_bytes _ _) (by omega) 2147483648 (by omega)).mono ?_
  rintro e w24 ⟨b, rfl, hb, hown, hst⟩
  have hs24 := hs23.still hst
  have hcv3 := conv_own hown
  rw [show str ([] ++ beB 4 2147483648) = ⟨#[128, 0, 0, 0]⟩ by kernel_rfl] at hcv3
  clear hs23 hst hown hcv2
  go_wp2_with fail
  go_ret
  exact ⟨rfl, hs24⟩
end Go.Proofs.YtkpogngbajkgmaaDoor
