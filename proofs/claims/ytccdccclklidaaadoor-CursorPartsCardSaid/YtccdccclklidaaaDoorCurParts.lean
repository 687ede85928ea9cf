/-
  CursorParts: four bytes are twice two, two bytes are twice one, and what is taken together is what is taken in two parts; for every text of at most 20000 bytes, any place and any two counts.
-/
import Derived.Test.YtccdccclklidaaaDoorCurPartsM
import Derived.Test.YtccdccclklidaaaDoorCurLaw
import Derived.Deep.CutRange
import Derived.Deep.DeepCutAuto
namespace Go.Proofs.YtccdccclklidaaaDoor
open Go.RowKit
set_option linter.unusedVariables false

theorem w64n (a : Nat) (h : a ≤ 1000000) : wrap64 (a : Int) = (a : Int) := by unfold wrap64; omega
theorem i64n (a : Nat) (h : a ≤ 1000000) : IntKind.i64.wrap (a : Int) = (a : Int) := IntWalk.i64_in _ (by omega)
theorem sum50 (N M : Nat) (h : N < 50) (h' : M < 50) : IntKind.i64.wrap ((N : Int) + M) = ((N + M : Nat) : Int) := by rw [IntWalk.i64_in _ (by omega)]; omega
theorem sum3 (a N M : Nat) {S : Nat} (h : a + N + M ≤ S) (hs : S ≤ 20000) : IntKind.i64.wrap ((a : Int) + N) = (a : Int) + N ∧ IntKind.i64.wrap ((a : Int) + N + M) = (a : Int) + N + M ∧ ((a : Int) + N + M).toNat = a + N + M ∧ (a : Int) ≤ (a : Int) + N + M ∧ (a : Int) + N + M ≤ (S : Int) :=
  ⟨IntWalk.i64_in _ (by omega), IntWalk.i64_in _ (by omega), by omega, by omega, by omega⟩
theorem extract_small (s : ByteArray) (a N M : Nat) (hs : s.size ≤ 20000) : ¬ 9223372036854775807 < (s.extract a (a + N)).size + (s.extract (a + N) (a + N + M)).size := by
  rw [ByteArray.size_extract, ByteArray.size_extract]; omega
theorem Tak.two {s : ByteArray} {a a2 a3 a4 N M : Nat} {t2 t3 t4 : ByteArray} {e2 e3 e4 : Int} (h4 : Tak s a (N + M) t4 e4 a4) (h2 : Tak s a N t2 e2 a2) (h3 : Tak s a2 M t3 e3 a3) :
    (e4 = 0 ∧ e2 = 0 ∧ e3 = 0 ∧ a + N + M ≤ s.size ∧ t2 = s.extract a (a + N) ∧ t3 = s.extract (a + N) (a + N + M) ∧ t4 = s.extract a (a + (N + M))) ∨ (e4 = 4 ∧ e2 = 0 ∧ e3 = 4) ∨ (e4 = 4 ∧ e2 = 4) := by
  rcases h2 with ⟨g2, rfl, rfl, rfl⟩ | ⟨g2, rfl, rfl⟩
  · rcases h3 with ⟨g3, rfl, rfl, rfl⟩ | ⟨g3, rfl, rfl⟩
    · rcases h4 with ⟨g4, rfl, rfl, rfl⟩ | ⟨g4, rfl, rfl⟩
      · exact .inl ⟨rfl, rfl, rfl, by omega, rfl, rfl, rfl⟩
      · omega
    · rcases h4 with ⟨g4, rfl, rfl, rfl⟩ | ⟨g4, rfl, rfl⟩
      · omega
      · exact .inr (.inl ⟨rfl, rfl, rfl⟩)
  · rcases h4 with ⟨g4, rfl, rfl, rfl⟩ | ⟨g4, rfl, rfl⟩
    · omega
    · exact .inr (.inr ⟨rfl, rfl⟩)
theorem Num.four {s : ByteArray} {a v4 a4 v2 a2 v3 a3 : Nat} {e4 e2 e3 : Int} (h4 : Num s a 4 v4 e4 a4) (h2 : Num s a 2 v2 e2 a2) (h3 : Num s a2 2 v3 e3 a3) :
    (e4 = 0 ∧ e2 = 0 ∧ e3 = 0 ∧ v4 = v2 * 65536 + v3 ∧ v2 < 65536 ∧ v3 < 65536) ∨ (e4 = 4 ∧ e2 = 0 ∧ e3 = 4) ∨ (e4 = 4 ∧ e2 = 4 ∧ e3 = 4) := by
  rcases h2 with ⟨g2, rfl, rfl, rfl⟩ | ⟨g2, rfl, rfl⟩
  · rcases h3 with ⟨g3, rfl, rfl, rfl⟩ | ⟨g3, rfl, rfl⟩
    · rcases h4 with ⟨g4, rfl, rfl, rfl⟩ | ⟨g4, rfl, rfl⟩
      · exact .inl ⟨rfl, rfl, rfl, numAt_add s a 2 2 (by omega), beL_len s a 2 (by omega), beL_len s (a + 2) 2 (by omega)⟩
      · omega
    · rcases h4 with ⟨g4, rfl, rfl, rfl⟩ | ⟨g4, rfl, rfl⟩
      · omega
      · exact .inr (.inl ⟨rfl, rfl, rfl⟩)
  · rcases h3 with ⟨g3, rfl, rfl, rfl⟩ | ⟨g3, rfl, rfl⟩
    · omega
    · rcases h4 with ⟨g4, rfl, rfl, rfl⟩ | ⟨g4, rfl, rfl⟩
      · omega
      · exact .inr (.inr ⟨rfl, rfl, rfl⟩)
theorem Num.two {s : ByteArray} {a v4 a4 v2 a2 v3 a3 : Nat} {e4 e2 e3 : Int} (h4 : Num s a 2 v4 e4 a4) (h2 : Num s a 1 v2 e2 a2) (h3 : Num s a2 1 v3 e3 a3) :
    (e4 = 0 ∧ e2 = 0 ∧ e3 = 0 ∧ v4 = v2 * 256 + v3 ∧ v2 < 256 ∧ v3 < 256) ∨ (e4 = 4 ∧ e2 = 0 ∧ e3 = 4) ∨ (e4 = 4 ∧ e2 = 4 ∧ e3 = 4) := by
  rcases h2 with ⟨g2, rfl, rfl, rfl⟩ | ⟨g2, rfl, rfl⟩
  · rcases h3 with ⟨g3, rfl, rfl, rfl⟩ | ⟨g3, rfl, rfl⟩
    · rcases h4 with ⟨g4, rfl, rfl, rfl⟩ | ⟨g4, rfl, rfl⟩
      · exact .inl ⟨rfl, rfl, rfl, numAt_add s a 1 1 (by omega), beL_len s a 1 (by omega), beL_len s (a + 1) 1 (by omega)⟩
      · omega
    · rcases h4 with ⟨g4, rfl, rfl, rfl⟩ | ⟨g4, rfl, rfl⟩
      · omega
      · exact .inr (.inl ⟨rfl, rfl, rfl⟩)
  · rcases h3 with ⟨g3, rfl, rfl, rfl⟩ | ⟨g3, rfl, rfl⟩
    · omega
    · rcases h4 with ⟨g4, rfl, rfl, rfl⟩ | ⟨g4, rfl, rfl⟩
      · omega
      · exact .inr (.inr ⟨rfl, rfl, rfl⟩)

set_option maxRecDepth 1000000 in
set_option maxHeartbeats 1600000 in
theorem parts_walk (w : World) (he : ErrT w) (s : ByteArray) (hs : s.size ≤ 20000) (at_ n m : Int) :
    Calls Tryd.prog 7 #[.string s, .int .i64 at_, .int .i64 n, .int .i64 m] w fun e w' => e = .returned (.bool true) ∧ Still w w' := by
  have h20 : ¬ (20000 : Int) < (s.size : Int) := by omega
  have hmax : s.size ≤ maxLen := by unfold maxLen; omega
  obtain ⟨U, hU⟩ : ∃ U : Int, IntKind.u64.wrap at_ = U := ⟨_, rfl⟩
  have hU0 : 0 ≤ U := by rw [← hU, IntKind.wrap_u64]; omega
  have hz1 : IntKind.u64.wrap ((s.size : Int) + 1) = (s.size : Int) + 1 := by rw [IntKind.wrap_u64]; omega
  obtain ⟨a, ha⟩ : ∃ a : Nat, U.tmod ((s.size : Int) + 1) = (a : Int) := ⟨(U % ((s.size : Int) + 1)).toNat, by have := Int.emod_nonneg U (b := (s.size : Int) + 1) (by omega); rw [Int.tmod_eq_emod_of_nonneg hU0]; omega⟩
  have hle : a ≤ s.size := by have := Int.emod_lt_of_pos U (b := (s.size : Int) + 1) (by omega); rw [Int.tmod_eq_emod_of_nonneg hU0] at ha; omega
  obtain ⟨V, hV⟩ : ∃ V : Int, IntKind.u64.wrap n = V := ⟨_, rfl⟩
  have hV0 : 0 ≤ V := by rw [← hV, IntKind.wrap_u64]; omega
  obtain ⟨N, hN⟩ : ∃ N : Nat, V.tmod 50 = (N : Int) := ⟨(V % 50).toNat, by rw [Int.tmod_eq_emod_of_nonneg hV0]; omega⟩
  have hN50 : N < 50 := by rw [Int.tmod_eq_emod_of_nonneg hV0] at hN; omega
  obtain ⟨V', hV'⟩ : ∃ V : Int, IntKind.u64.wrap m = V := ⟨_, rfl⟩
  have hV0' : 0 ≤ V' := by rw [← hV', IntKind.wrap_u64]; omega
  obtain ⟨M, hM⟩ : ∃ M : Nat, V'.tmod 50 = (M : Int) := ⟨(V' % 50).toNat, by rw [Int.tmod_eq_emod_of_nonneg hV0']; omega⟩
  have hM50 : M < 50 := by rw [Int.tmod_eq_emod_of_nonneg hV0'] at hM; omega
  have k1 : a ≤ 1000000 := Nat.le_trans hle (Nat.le_trans hs (by decide))
  have k2 : N ≤ 1000000 := Nat.le_trans (Nat.le_of_lt hN50) (by decide)
  have k3 : M ≤ 1000000 := Nat.le_trans (Nat.le_of_lt hM50) (by decide)
  have j1 : wrap64 (a : Int) = (a : Int) := w64n _ k1
  have j2 : wrap64 (N : Int) = (N : Int) := w64n _ k2
  have j3 : wrap64 (M : Int) = (M : Int) := w64n _ k3
  have i1 : IntKind.i64.wrap (a : Int) = (a : Int) := i64n _ k1
  have i2 : IntKind.i64.wrap (N : Int) = (N : Int) := i64n _ k2
  have i3 : IntKind.i64.wrap (M : Int) = (M : Int) := i64n _ k3
  have hUg : IntKind.u64.wrap at_ = U := hU
  clear hU0 hV0 hV0' k1 k2 k3
  go_enter Tryd.func7, Tryd.ntmps7
  go_wp2_with fail
  refine (cur_awake _ he).mono ?_
  rintro e w0 ⟨rfl, hs0⟩
  have he0 := he.still hs0
  go_wp2_with fail
  refine (cur_new s _).mono ?_
  rintro e w1 ⟨g, rfl, hg, h1, hs1⟩
  have he1 := he0.still hs1
  go_wp2_with fail
  refine (cur_new s _).mono ?_
  rintro e w2 ⟨g', rfl, hg', h2', hs2⟩
  have he2 := he1.still hs2
  have h2 := h1.still hs2
  have hst : Still w w2 := (hs0.still hs1).still hs2
  have hne : g' ≠ g := by have := h1.lt; omega
  have hgw : w.heap.size ≤ g := by have := hs0.size; omega
  have hgw' : w.heap.size ≤ g' := by have := (hs0.still hs1).size; omega
  have Hst := Lib.hid hst
  clear hs0 hs1 hs2 hst he0 he1 h1 hg hg'
  go_wp2_with fail
  refine (Seek_in h2 a hle).mono ?_
  rintro e w3 ⟨rfl, h3, ho3⟩
  have h3' := h2'.only ho3 hne
  have he3 := he2.by_cur h2 ho3
  go_wp2_with fail
  refine (Seek_in h3' a hle).mono ?_
  rintro e w4 ⟨rfl, h4', ho4⟩
  have h4 := h3.only ho4 (fun e => hne e.symm)
  have he4 := he3.by_cur h3' ho4
  have Hst4 : Hid (Still w w4) := Lib.hid ((Hst.out.trans ho3 (fun i hi e => by omega)).trans ho4 (fun i hi e => by omega))
  clear h2 h2' ho3 ho4 he2 h3 h3' he3 Hst
  go_wp2_with fail
  refine (Four_l h4 he4 hle hmax).mono ?_
  rintro e w5 ⟨v4, e4, a4, rfl, h5, ho5, he5, hl4, n4⟩
  have h5' := h4'.only ho5 hne
  go_wp2_with fail
  refine (Two_l h5' he5 hle hmax).mono ?_
  rintro e w6 ⟨v2, e2, a2, rfl, h6', ho6, he6, hl2, n2⟩
  have h6 := h5.only ho6 (fun e => hne e.symm)
  go_wp2_with fail
  refine (Two_l h6' he6 hl2 hmax).mono ?_
  rintro e w7 ⟨v3, e3, a3, rfl, h7', ho7, he7, hl3, n3⟩
  have h7 := h6.only ho7 (fun e => hne e.symm)
  have Hst7 : Hid (Still w w7) := Lib.hid (((Hst4.out.trans ho5 (fun i hi e => by omega)).trans ho6 (fun i hi e => by omega)).trans ho7 (fun i hi e => by omega))
  clear h4 h4' h5 h5' h6 h6' ho5 ho6 ho7 he4 he5 he6 Hst4
  have r1 := n4.four n2 n3
  clear n4 n2 n3
  go_upto_region 10 with fail
  go_cut [90] from 68 to 90 (fun t wx => t = .bool false ∧ wx = w7)
  case first =>
    rcases r1 with ⟨rfl, rfl, rfl, rfl, x1, x2⟩ | ⟨rfl, rfl, rfl⟩ | ⟨rfl, rfl, rfl⟩
    · go_wp2_with fail
      go_meet
      exact ⟨rfl, rfl⟩
    · go_wp2_with fail
      go_meet
      exact ⟨rfl, rfl⟩
    · go_wp2_with fail
      go_meet
      exact ⟨rfl, rfl⟩
  case rest =>
    obtain ⟨rfl, rfl⟩ := hcut
    clear r1
    go_wp2_with fail
    refine (Seek_in h7 a hle).mono ?_
    rintro e x1 ⟨rfl, k1, ko1⟩
    have k1' := h7'.only ko1 hne
    have ke1 := he7.by_cur h7 ko1
    go_wp2_with fail
    refine (Seek_in k1' a hle).mono ?_
    rintro e x2 ⟨rfl, k2', ko2⟩
    have k2 := k1.only ko2 (fun e => hne e.symm)
    have ke2 := ke1.by_cur k1' ko2
    have Hst8 : Hid (Still w x2) := Lib.hid ((Hst7.out.trans ko1 (fun i hi e => by omega)).trans ko2 (fun i hi e => by omega))
    clear h7 h7' he7 k1 ko1 k1' ke1 ko2 Hst7
    go_wp2_with fail
    refine (Two_l k2 ke2 hle hmax).mono ?_
    rintro e w8 ⟨v4, e4, a4, rfl, h5, ho5, he5, hl4, n4⟩
    have h5' := k2'.only ho5 hne
    go_wp2_with fail
    refine (Byte_l h5' he5 hle hmax).mono ?_
    rintro e w9 ⟨v2, e2, a2, rfl, h6', ho6, he6, hl2, n2⟩
    have h6 := h5.only ho6 (fun e => hne e.symm)
    go_wp2_with fail
    refine (Byte_l h6' he6 hl2 hmax).mono ?_
    rintro e w10 ⟨v3, e3, a3, rfl, h8', ho7, he8, hl3, n3⟩
    have h8 := h6.only ho7 (fun e => hne e.symm)
    have Hst9 : Hid (Still w w10) := Lib.hid (((Hst8.out.trans ho5 (fun i hi e => by omega)).trans ho6 (fun i hi e => by omega)).trans ho7 (fun i hi e => by omega))
    clear k2 k2' ke2 h5 h5' h6 h6' ho5 ho6 ho7 he5 he6 Hst8
    have r1 := n4.two n2 n3
    clear n4 n2 n3
    go_upto_region 17 with fail
    go_cut [134] from 112 to 134 (fun t wx => t = .bool false ∧ wx = w10)
    case first =>
      rcases r1 with ⟨rfl, rfl, rfl, rfl, x1, x2⟩ | ⟨rfl, rfl, rfl⟩ | ⟨rfl, rfl, rfl⟩
      · go_wp2_with fail
        go_meet
        exact ⟨rfl, rfl⟩
      · go_wp2_with fail
        go_meet
        exact ⟨rfl, rfl⟩
      · go_wp2_with fail
        go_meet
        exact ⟨rfl, rfl⟩
    case rest =>
    obtain ⟨rfl, rfl⟩ := hcut
    clear r1
    go_wp2_with fail
    refine (Seek_in h8 a hle).mono ?_
    rintro e x1 ⟨rfl, k1, ko1⟩
    have k1' := h8'.only ko1 hne
    have ke1 := he8.by_cur h8 ko1
    go_wp2_with fail
    refine (Seek_in k1' a hle).mono ?_
    rintro e x2 ⟨rfl, k2', ko2⟩
    have k2 := k1.only ko2 (fun e => hne e.symm)
    have ke2 := ke1.by_cur k1' ko2
    have HstA : Hid (Still w x2) := Lib.hid ((Hst9.out.trans ko1 (fun i hi e => by omega)).trans ko2 (fun i hi e => by omega))
    clear h8 h8' he8 k1 ko1 k1' ke1 ko2 Hst9
    have y1 := sum50 N M hN50 hM50
    go_wp2_with fail
    rw [← Int.natCast_add]
    refine (Take_l k2 ke2 hle hmax (N + M)).mono ?_
    rintro e w11 ⟨t4, e4, a4, rfl, h5, ho5, he5, hl4, n4⟩
    have h5' := k2'.only ho5 hne
    go_wp2_with fail
    refine (Take_l h5' he5 hle hmax N).mono ?_
    rintro e w12 ⟨t2, e2, a2, rfl, h6', ho6, he6, hl2, n2⟩
    have h6 := h5.only ho6 (fun e => hne e.symm)
    go_wp2_with fail
    refine (Take_l h6' he6 hl2 hmax M).mono ?_
    rintro e w13 ⟨t3, e3, a3, rfl, h7', ho7, he7, hl3, n3⟩
    have HstB : Hid (Still w w13) := Lib.hid (((HstA.out.trans ho5 (fun i hi e => by omega)).trans ho6 (fun i hi e => by omega)).trans ho7 (fun i hi e => by omega))
    clear k2 k2' ke2 h5 h5' h6 h6' h7' ho5 ho6 ho7 he5 he6 he7 HstA y1
    have r1 := n4.two n2 n3
    clear n4 n2 n3
    rcases r1 with ⟨rfl, rfl, rfl, hsum, rfl, rfl, rfl⟩ | ⟨rfl, rfl, rfl⟩ | ⟨rfl, rfl⟩
    · have q1 := extract_add s a N M
      have hz := extract_small s a N M hs
      have z1 := sum3 a N M hsum hs
      obtain ⟨z2, z3, z4, z5, z6⟩ := z1
      go_wp2_with fail
      go_ret
      exact ⟨ret_bool (by rw [Nat.add_assoc]; simp), HstB.out⟩
    · go_wp2_with fail
      go_ret
      exact ⟨rfl, HstB.out⟩
    · go_wp2_with fail
      go_ret
      exact ⟨rfl, HstB.out⟩
set_option maxRecDepth 100000 in
theorem parts_long (w : World) (he : ErrT w) (s : ByteArray) (hs : 20000 < s.size) (at_ n m : Int) :
    Calls Tryd.prog 7 #[.string s, .int .i64 at_, .int .i64 n, .int .i64 m] w fun e w' => e = .returned (.bool true) ∧ Still w w' := by
  have h20 : (20000 : Int) < (s.size : Int) := by omega
  go_enter Tryd.func7, Tryd.ntmps7
  go_wp2_with fail
  refine (cur_awake _ he).mono ?_
  rintro e w0 ⟨rfl, hs0⟩
  go_wp2_with fail
  go_ret
  exact ⟨rfl, hs0⟩
theorem parts_all (w : World) (s : ByteArray) (ws : s.size ≤ maxLen) (at_ : Int) (w1 : (Lit.int .i64 at_).wf = true) (n : Int) (w2 : (Lit.int .i64 n).wf = true) (m : Int) (w3 : (Lit.int .i64 m).wf = true) (he : ErrT w) :
    Calls Tryd.prog 7 #[.string s, .int .i64 at_, .int .i64 n, .int .i64 m] w fun e w' => e = .returned (.bool true) ∧ Still w w' := by
  rcases Nat.lt_or_ge 20000 s.size with h | h
  · exact parts_long w he s h at_ n m
  · exact parts_walk w he s h at_ n m
end Go.Proofs.YtccdccclklidaaaDoor
