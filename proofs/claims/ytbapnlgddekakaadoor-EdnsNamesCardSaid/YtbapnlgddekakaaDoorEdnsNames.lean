/-
  Package edns: EdnsNames.
-/
import Derived.Test.YtbapnlgddekakaaDoorEdnsLong
namespace Go.Proofs.YtbapnlgddekakaaDoor
open Go.RowKit
set_option linter.unusedVariables false
set_option linter.unusedSimpArgs false

theorem ret_true {b : Bool} (h : b = true) : Ending.returned (.bool b) = .returned (.bool true) := by rw [h]
set_option maxRecDepth 1000000 in
set_option maxHeartbeats 6400000 in
theorem ednsnames_walk (w : World) (he : ErrT w) : Calls Tryd.prog 4 #[] w fun e w' => e = .returned (.bool true) ∧ Still w w' := by
  have ho1 : optsOf ⟨#[0, 0, 0, 0, 255, 255, 0, 0]⟩ = some [(0, ⟨#[]⟩), (65535, ⟨#[]⟩)] := by kernel_rfl
  have ho3 : optsOf ⟨#[0]⟩ = none := by kernel_rfl
  have HO1 := Lib.hid ho1
  have HO2 := Lib.hid opts_none
  have HO3 := Lib.hid ho3
  have hw1 : str (wB [(0, ⟨#[]⟩), (65535, ⟨#[]⟩)]) = ⟨#[0, 0, 0, 0, 255, 255, 0, 0]⟩ := by kernel_rfl
  have HW1 := Lib.hid hw1
  have hf : ∃ F : List UInt8, F.length = 65531 ∧ F = List.replicate 65531 0 := ⟨_, List.length_replicate .., rfl⟩
  obtain ⟨F, hF, hFr⟩ := hf
  have hsz : (str F).size = 65531 := by rw [str_size, hF]
  have hsza : (str F ++ ⟨#[97]⟩).size = 65532 := by rw [ByteArray.size_append, hsz]; rfl
  have hszb : (str F ++ ⟨#[49, 50, 51, 52, 53]⟩).size = 65536 := by rw [ByteArray.size_append, hsz]; rfl
  have ha : (wB [(0, str F)]).length = 65535 := by simp [wB, optB_length, hsz]
  have hb : (wB [(0, str F ++ ⟨#[97]⟩)]).length = 65536 := by simp only [wB, List.map_cons, List.map_nil, List.flatten_cons, List.flatten_nil, List.append_nil, optB_length, hsza]
  have hc : (wB [(0, str F), (0, ⟨#[]⟩)]).length = 65539 := by
    simp only [wB, List.map_cons, List.map_nil, List.flatten_cons, List.flatten_nil, List.append_nil, List.length_append, optB_length, hsz]
    rfl
  have hd : (wB [(0, str F ++ ⟨#[49, 50, 51, 52, 53]⟩)]).length = 65540 := by simp only [wB, List.map_cons, List.map_nil, List.flatten_cons, List.flatten_nil, List.append_nil, optB_length, hszb]
  have Ha := Lib.hid ha
  have Hb := Lib.hid hb
  have Hc := Lib.hid hc
  have Hd := Lib.hid hd
  have HF := Lib.hid hFr
  have ca : codesOk [(0, str F)] := fun o h => by rw [List.mem_singleton.mp h]; exact ⟨(by decide : 0 < 65536), by show (str F).size ≤ _; omega⟩
  have cb : codesOk [(0, str F ++ ⟨#[97]⟩)] := fun o h => by rw [List.mem_singleton.mp h]; exact ⟨(by decide : 0 < 65536), by show (str F ++ _).size ≤ _; omega⟩
  have cc : codesOk [(0, str F), (0, ⟨#[]⟩)] := fun o h => by
    rcases List.mem_cons.mp h with rfl | h
    · exact ⟨(by decide : 0 < 65536), by show (str F).size ≤ _; omega⟩
    · rw [List.mem_singleton.mp h]; exact ⟨by decide, by decide⟩
  have cd : codesOk [(0, str F ++ ⟨#[49, 50, 51, 52, 53]⟩)] := fun o h => by rw [List.mem_singleton.mp h]; exact ⟨(by decide : 0 < 65536), by show (str F ++ _).size ≤ _; omega⟩
  have c2 : codesOk [(0, ⟨#[]⟩), (65535, ⟨#[]⟩)] := fun o h => by
    rcases List.mem_cons.mp h with rfl | h
    · exact ⟨by decide, by decide⟩
    · rw [List.mem_singleton.mp h]; exact ⟨by decide, by decide⟩
  have Ca := Lib.hid ca
  have Cb := Lib.hid cb
  have Cc := Lib.hid cc
  have Cd := Lib.hid cd
  have C2 := Lib.hid c2
  clear ho1 ho3 hw1 hF hFr hsza hszb ha hb hc hd ca cb cc cd c2
  go_enter Tryd.func4, Tryd.ntmps4
  go_wp2_with fail
  refine (edns_awake w he).mono ?_
  rintro e w0 ⟨rfl, hS0⟩
  have he0 := he.still hS0
  clear he
  go_wp2_with fail
  refine (read_any w0 he0 65535 4294967295 (by omega) 255 255 65535 (by decide) (by decide) (by decide) ⟨#[0, 0, 0, 0, 255, 255, 0, 0]⟩ (by decide)).mono ?_
  rintro e w1 (⟨os, A, c, hos, rfl, hown, hs1⟩ | ⟨hos, -, -⟩)
  rotate_left
  · cases hos.out.symm.trans HO1.out
  obtain rfl : os = [(0, ⟨#[]⟩), (65535, ⟨#[]⟩)] := Option.some.inj (hos.out.symm.trans HO1.out)
  unfold eA
  have hr := Reads.of_own (hown.alloc (.cells #[.int .u16 65535, .int .u8 255, .int .u8 255, .int .u16 65535, .slice A 2 c] 25))
  change Reads _ _ 2 A 2 (oRow [(0, ⟨#[]⟩), (65535, ⟨#[]⟩)]) at hr
  have hS2 := (hS0.still hs1).alloc (.cells #[.int .u16 65535, .int .u8 255, .int .u8 255, .int .u16 65535, .slice A 2 c] 25)
  have he2 := he0.still (hs1.alloc (.cells #[.int .u16 65535, .int .u8 255, .int .u8 255, .int .u16 65535, .slice A 2 c] 25))
  have hB := Blk.new w1 25 #[.int .u16 65535, .int .u8 255, .int .u8 255, .int .u16 65535, .slice A 2 c]
  clear hos hown hs1 hS0 he0
  go_wp2_with fail
  obtain ⟨w2, hw2⟩ : ∃ w2, w2 = w1.alloc (.cells #[.int .u16 65535, .int .u8 255, .int .u8 255, .int .u16 65535, .slice A 2 c] 25) := ⟨_, rfl⟩
  rw [← hw2] at hS2 he2 hB hr ⊢
  obtain ⟨K, hK⟩ : ∃ K, K = w1.heap.size := ⟨_, rfl⟩
  rw [← hK] at hB ⊢
  clear hw2 hK
  refine (read_any w2 he2 0 0 (by omega) 0 0 0 (by decide) (by decide) (by decide) ⟨#[]⟩ (by decide)).mono ?_
  rintro e w3 (⟨os, A0, c0, hos, rfl, -, hs3⟩ | ⟨hos, -, -⟩)
  rotate_left
  · cases hos.out.symm.trans HO2.out
  obtain rfl : os = [] := Option.some.inj (hos.out.symm.trans HO2.out)
  unfold eA
  have hsn := hs3.alloc (.cells #[.int .u16 0, .int .u8 0, .int .u8 0, .int .u16 0, .slice A0 0 c0] 25)
  have hS4 := hS2.still hsn
  have he4 := he2.still hsn
  have hr := (hr.only hsn (Nat.le_refl _) (fun _ _ h => h)).more hsn.size
  have hB := hB.only hsn (fun h => h)
  have hBb := Blk.new w3 25 #[.int .u16 0, .int .u8 0, .int .u8 0, .int .u16 0, .slice A0 0 c0]
  clear hos hs3 hS2 he2
  go_wp2_with fail
  obtain ⟨w4, hw4⟩ : ∃ w4, w4 = w3.alloc (.cells #[.int .u16 0, .int .u8 0, .int .u8 0, .int .u16 0, .slice A0 0 c0] 25) := ⟨_, rfl⟩
  rw [← hw4] at hS4 he4 hB hBb hr ⊢
  obtain ⟨Kb, hKb⟩ : ∃ Kb, Kb = w3.heap.size := ⟨_, rfl⟩
  rw [← hKb] at hBb ⊢
  clear hw4 hKb hsn
  refine (read_any w4 he4 0 0 (by omega) 0 0 0 (by decide) (by decide) (by decide) ⟨#[0]⟩ (by decide)).mono ?_
  rintro e w5 (⟨os, A', c', hos, -, -, -⟩ | ⟨-, rfl, hs5⟩)
  · cases hos.out.symm.trans HO3.out
  unfold ez
  have hsn := hs5.alloc (.cells #[.int .u16 0, .int .u8 0, .int .u8 0, .int .u16 0, .slice none 0 0] 25)
  have hS6 := hS4.still hsn
  have hr := (hr.only hsn (Nat.le_refl _) (fun _ _ h => h)).more hsn.size
  have hB := hB.only hsn (fun h => h)
  have hBb := hBb.only hsn (fun h => h)
  clear hs5 hS4 he4
  clear hsn
  obtain ⟨d0, d1, d2, d3, d4⟩ := blk5 hB
  obtain ⟨b0, b1, b2, b3, b4⟩ := blk5 hBb
  have hr2 := Reads.of_own (World.ownsRow_lit (e := 40) (size := 2) (base := 0) (w5.alloc (.cells #[.int .u16 0, .int .u8 0, .int .u8 0, .int .u16 0, .slice none 0 0] 25)) #[.int .u16 0, .string ⟨#[]⟩, .int .u16 65535, .string ⟨#[]⟩] 2 (Nat.zero_le _) (by unfold maxLen; omega) rfl)
  change Reads _ _ 2 _ 2 (oRow [(0, ⟨#[]⟩), (65535, ⟨#[]⟩)]) at hr2
  have hsn := Still.new (w5.alloc (.cells #[.int .u16 0, .int .u8 0, .int .u8 0, .int .u16 0, .slice none 0 0] 25)) (.cells #[.int .u16 0, .string ⟨#[]⟩, .int .u16 65535, .string ⟨#[]⟩] 40)
  have hS7 := hS6.still hsn
  have hr := (hr.only hsn (Nat.le_refl _) (fun _ _ h => h)).more hsn.size
  have hB := hB.only hsn (fun h => h)
  have hBb := hBb.only hsn (fun h => h)
  clear hS6 hsn
  have hz5 : (w5.alloc (.cells #[.int .u16 0, .int .u8 0, .int .u8 0, .int .u16 0, .slice none 0 0] 25)).heap.size = w5.heap.size + 1 := by simp
  rw [hz5] at hr2
  clear hz5
  go_wp2_with fail
  clear d0 d1 d2 d3 d4 b0 b1 b2 b3 b4
  obtain ⟨w7, hw7⟩ : ∃ w7, w7 = (w5.alloc (.cells #[.int .u16 0, .int .u8 0, .int .u8 0, .int .u16 0, .slice none 0 0] 25)).alloc (.cells #[.int .u16 0, .string ⟨#[]⟩, .int .u16 65535, .string ⟨#[]⟩] 40) := ⟨_, rfl⟩
  rw [← hw7] at hS7 hB hBb hr hr2 ⊢
  clear hw7
  refine (rsame_any w7 65535 255 255 65535 65535 255 255 65535 A _ 2 c 2 2 w7.heap.size w7.heap.size [(0, ⟨#[]⟩), (65535, ⟨#[]⟩)] [(0, ⟨#[]⟩), (65535, ⟨#[]⟩)] rfl rfl hr hr2 (Nat.le_refl _) (Nat.le_refl _) (by omega) (by omega)).mono ?_
  rintro e w8 ⟨hev, hs8⟩
  obtain rfl : e = .returned (.bool true) := hev.trans (ret_bool (decide_eq_true ⟨rfl, rfl, rfl, rfl, rfl⟩))
  clear hev
  have hS8 := hS7.still hs8
  have hr := (hr.only hs8 (Nat.le_refl _) (fun _ _ h => h)).more hs8.size
  have hB := hB.only hs8 (fun h => h)
  have hBb := hBb.only hs8 (fun h => h)
  clear hs8 hS7 hr2
  obtain ⟨b0, b1, b2, b3, b4⟩ := blk5 hBb
  go_wp2_with fail
  clear b0 b1 b2 b3 b4 hBb
  refine (rsame_any w8 0 0 0 0 0 0 0 0 A0 none 0 c0 0 0 w8.heap.size w8.heap.size [] [] rfl rfl ⟨rfl, fun h => absurd h (by omega)⟩ Reads.none_ (Nat.le_refl _) (Nat.le_refl _) (by omega) (by omega)).mono ?_
  rintro e w9 ⟨hev, hs9⟩
  obtain rfl : e = .returned (.bool true) := hev.trans (ret_bool (decide_eq_true ⟨rfl, rfl, rfl, rfl, rfl⟩))
  clear hev
  have hS9 := hS8.still hs9
  have hr := (hr.only hs9 (Nat.le_refl _) (fun _ _ h => h)).more hs9.size
  have hB := hB.only hs9 (fun h => h)
  clear hs9 hS8
  obtain ⟨d0, d1, d2, d3, d4⟩ := blk5 hB
  go_wp2_with fail
  clear d0 d1 d2 d3 d4 hB
  refine (write_any w9 65535 255 255 65535 (by omega) (by omega) (by omega) (by omega) A 2 c [(0, ⟨#[]⟩), (65535, ⟨#[]⟩)] rfl (by omega) C2.out hr).mono ?_
  rintro e w10 (⟨-, rfl, hs10⟩ | ⟨hbad, -, -⟩)
  rotate_left
  · exact absurd hbad.out (by decide)
  rw [HW1.out]
  have hS10 := hS9.still hs10
  have ht : ttlOf 255 255 65535 = 4294967295 := by decide
  rw [ht]
  clear ht hS9 hs10 hr
  obtain ⟨i0, hi, hz0, hz1, hz2⟩ := info_parts info_byte
  go_wp2_with (at_make; refine wpList_make_full _ rfl _ _ 41 rfl w10.heap.size 5 i0 (.int .u8 0) 1 Tryd.underlying41 hi hz0 hz1 _ _ _ _ 65531 rfl rfl rfl rfl ?q1 ?q2 ?q3 ?_)
  case q1 => rw [hz2]; omega
  case q2 => unfold maxLen; omega
  case q3 => exact Nat.le_refl _
  intro w11 hown hgrow
  have hS11 := hS10.grown hgrow (fun k hk => by cases hk)
  rw [made_bytes, ← HF.out] at hown
  have hcv := conv_own hown
  clear hgrow hown hS10 HF
  go_wp2_with fail
  clear hcv
  have hr11 := Reads.of_own (World.ownsRow_lit (e := 40) (size := 2) (base := 0) w11 #[.int .u16 0, .string (str F)] 1 (Nat.zero_le _) (by unfold maxLen; omega) rfl)
  change Reads _ _ 2 _ 1 (oRow [(0, str F)]) at hr11
  have hsn11 := hS11.alloc (.cells #[.int .u16 0, .string (str F)] 40)
  refine (write_any (w11.alloc (.cells #[.int .u16 0, .string (str F)] 40)) 0 0 0 0 (by omega) (by omega) (by omega) (by omega) (some ⟨w11.heap.size, 0, none⟩) 1 1 [(0, str F)] rfl (by omega) Ca.out hr11).mono ?_
  rintro e w12 (⟨-, rfl, hs12⟩ | ⟨hbad, -, -⟩)
  rotate_left
  · exact absurd hbad.out (by rw [Ha.out]; decide)
  have hS12 := hsn11.still hs12
  clear hr11 hsn11 hS11 hs12
  go_wp2_with fail
  have hr12 := Reads.of_own (World.ownsRow_lit (e := 40) (size := 2) (base := 0) w12 #[.int .u16 0, .string (str F ++ ⟨#[97]⟩)] 1 (Nat.zero_le _) (by unfold maxLen; omega) rfl)
  change Reads _ _ 2 _ 1 (oRow [(0, str F ++ ⟨#[97]⟩)]) at hr12
  have hsn12 := hS12.alloc (.cells #[.int .u16 0, .string (str F ++ ⟨#[97]⟩)] 40)
  refine (write_any (w12.alloc (.cells #[.int .u16 0, .string (str F ++ ⟨#[97]⟩)] 40)) 0 0 0 0 (by omega) (by omega) (by omega) (by omega) (some ⟨w12.heap.size, 0, none⟩) 1 1 [(0, str F ++ ⟨#[97]⟩)] rfl (by omega) Cb.out hr12).mono ?_
  rintro e w13 (⟨hbad, -, -⟩ | ⟨-, rfl, hs13⟩)
  · exact absurd hbad.out (by rw [Hb.out]; decide)
  have hS13 := hsn12.still hs13
  clear hr12 hsn12 hS12 hs13
  go_wp2_with fail
  have hr13 := Reads.of_own (World.ownsRow_lit (e := 40) (size := 2) (base := 0) w13 #[.int .u16 0, .string (str F), .int .u16 0, .string ⟨#[]⟩] 2 (Nat.zero_le _) (by unfold maxLen; omega) rfl)
  change Reads _ _ 2 _ 2 (oRow [(0, str F), (0, ⟨#[]⟩)]) at hr13
  have hsn13 := hS13.alloc (.cells #[.int .u16 0, .string (str F), .int .u16 0, .string ⟨#[]⟩] 40)
  refine (write_any (w13.alloc (.cells #[.int .u16 0, .string (str F), .int .u16 0, .string ⟨#[]⟩] 40)) 0 0 0 0 (by omega) (by omega) (by omega) (by omega) (some ⟨w13.heap.size, 0, none⟩) 2 2 [(0, str F), (0, ⟨#[]⟩)] rfl (by omega) Cc.out hr13).mono ?_
  rintro e w14 (⟨hbad, -, -⟩ | ⟨-, rfl, hs14⟩)
  · exact absurd hbad.out (by rw [Hc.out]; decide)
  have hS14 := hsn13.still hs14
  clear hr13 hsn13 hS13 hs14
  go_wp2_with fail
  have hr14 := Reads.of_own (World.ownsRow_lit (e := 40) (size := 2) (base := 0) w14 #[.int .u16 0, .string (str F ++ ⟨#[49, 50, 51, 52, 53]⟩)] 1 (Nat.zero_le _) (by unfold maxLen; omega) rfl)
  change Reads _ _ 2 _ 1 (oRow [(0, str F ++ ⟨#[49, 50, 51, 52, 53]⟩)]) at hr14
  have hsn14 := hS14.alloc (.cells #[.int .u16 0, .string (str F ++ ⟨#[49, 50, 51, 52, 53]⟩)] 40)
  refine (write_any (w14.alloc (.cells #[.int .u16 0, .string (str F ++ ⟨#[49, 50, 51, 52, 53]⟩)] 40)) 0 0 0 0 (by omega) (by omega) (by omega) (by omega) (some ⟨w14.heap.size, 0, none⟩) 1 1 [(0, str F ++ ⟨#[49, 50, 51, 52, 53]⟩)] rfl (by omega) Cd.out hr14).mono ?_
  rintro e w15 (⟨hbad, -, -⟩ | ⟨-, rfl, hs15⟩)
  · exact absurd hbad.out (by rw [Hd.out]; decide)
  have hS15 := hsn14.still hs15
  clear hr14 hsn14 hS14 hs15
  have hlen : (str (wB [(0, str F)])).size = 65535 := by rw [str_size]; exact Ha.out
  generalize str (wB [(0, str F)]) = D at *
  clear Ha Hb Hc Hd Ca Cb Cc Cd C2 hsz
  go_wp2_with fail
  refine (split_in 4095 (by omega) _).mono ?_
  rintro e wx ⟨rfl, rfl⟩
  go_wp2_with fail
  refine (split_out (-1) (by omega) _).mono ?_
  rintro e wx ⟨rfl, rfl⟩
  go_wp2_with fail
  refine (split_in 0 (by omega) _).mono ?_
  rintro e wx ⟨rfl, rfl⟩
  go_wp2_with fail
  refine (code_any 255 255 (by omega) (by omega) _).mono ?_
  rintro e wx ⟨rfl, rfl⟩
  go_wp2_with fail
  refine (code_any 16 0 (by omega) (by omega) _).mono ?_
  rintro e wx ⟨rfl, rfl⟩
  go_wp2_with fail
  go_ret
  exact ⟨rfl, hS15⟩
end Go.Proofs.YtbapnlgddekakaaDoor
