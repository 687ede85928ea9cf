/-
  The reference of package sip: Sum.
-/
import Derived.Test.YtpgebejnpncemaaSipRefC
import Derived.Laws.BytesArg
namespace Go.Proofs.Ytpgebejnpncemaa
open Go.RowKit
set_option linter.unusedVariables false

theorem refround_ok {w : World} {v : List Int} (hv : Ok v) :
    Calls Try.prog 41 #[.agg (v.map (Value.int .u64)).toArray] w fun e w' => e = .returned (.agg ((rd v).map (Value.int .u64)).toArray) ∧ Still w w' := by
  obtain ⟨a, b, c, d, rfl⟩ := hv.cases
  exact refround_any a b c d (hv.rg 0 (by omega)) (hv.rg 1 (by omega)) (hv.rg 2 (by omega)) (hv.rg 3 (by omega))
theorem refround_l {w : World} {v : List Int} {r0 r1 r2 r3 : Int} (hv : Ok v) (hR : rd v = [r0, r1, r2, r3]) :
    Calls Try.prog 41 #[.agg (v.map (Value.int .u64)).toArray] w fun e w' => e = .returned (.agg #[.int .u64 r0, .int .u64 r1, .int .u64 r2, .int .u64 r3]) ∧ Still w w' := by
  have h := refround_ok (w := w) hv
  rw [hR] at h
  exact h
theorem byts_extract (t : ByteArray) (i j : Nat) : byts (t.extract i j) = ((byts t).drop i).take (j - i) := by
  unfold byts
  rw [ByteArray.toList_eq, ByteArray.toList_eq, ByteArray.data_extract, Array.toList_extract]
  simp [List.extract, List.map_drop, List.map_take]
theorem refnumber_oct {w : World} {t : ByteArray} (h : (byts t).length = 8) :
    Calls Try.prog 40 #[.string t] w fun e w' => e = .returned (.int .u64 (num (byts t))) ∧ w = w' := by
  have ho : Oct (byts t) := ⟨h, byts_ok t⟩
  obtain ⟨b0, b1, b2, b3, b4, b5, b6, b7, hb⟩ := ho.cases
  rw [hb]
  exact refnumber_any hb
theorem byts_strOf {xs : List Int} (h : Byts xs) : byts (strOfNums xs) = xs := by
  unfold byts
  rw [ByteArray.toList_eq, strOfNums_data, List.map_map]
  conv => rhs; rw [← List.map_id xs]
  refine List.map_congr_left fun x hx => ?_
  have := h x hx
  have e : x.toNat % 256 = x.toNat := by omega
  simp [e]
  omega
theorem byts_app (s t : ByteArray) : byts (s ++ t) = byts s ++ byts t := by
  unfold byts
  simp [ByteArray.toList_eq]
def strLen : Value → Nat
  | .string s => s.size
  | _ => 0

set_option maxRecDepth 1000000 in
set_option maxHeartbeats 6400000 in
theorem refSum_any {w : World} {k0 k1 : Int} (h0 : 0 ≤ k0 ∧ k0 < 18446744073709551616) (h1 : 0 ≤ k1 ∧ k1 < 18446744073709551616) (t : ByteArray) (hn : t.size < 1000000) :
    Calls Try.prog 30 #[.int .u64 k0, .int .u64 k1, .string t] w fun e w' => e = .returned (.int .u64 (hash k0 k1 (byts t))) ∧ Still w w' := by
  have hb0 := Blk.new w 56 (lay [] (beg k0 k1) [])
  have hs0 := Still.new w (.cells (lay [] (beg k0 k1) []) 56)
  have ok0 := beg_ok h0 h1
  obtain ⟨n, hnn⟩ : ∃ n, n = t.size := ⟨_, rfl⟩
  go_enter Try.func30, Try.ntmps30
  go_wp2_with fail
  generalize hW1 : w.alloc (.cells (lay [] (beg k0 k1) []) 56) = w1 at hb0 hs0
  have hW1 : w.alloc (.cells #[.int .u64 (bits .xor .u64 k0 8317987319222330741), .int .u64 (bits .xor .u64 k1 7237128888997146477), .int .u64 (bits .xor .u64 k0 7816392313619706465), .int .u64 (bits .xor .u64 k1 8387220255154660723)] 56) = w1 := hW1
  generalize w.alloc (.cells #[.int .u64 (bits .xor .u64 k0 8317987319222330741), .int .u64 (bits .xor .u64 k1 7237128888997146477), .int .u64 (bits .xor .u64 k0 7816392313619706465), .int .u64 (bits .xor .u64 k1 8387220255154660723)] 56) = w1' at hW1 ⊢
  subst hW1
  obtain ⟨g, hg⟩ : ∃ g, w.heap.size = g := ⟨_, rfl⟩
  rw [hg] at hb0 ⊢
  have hgw : w.heap.size ≤ g := by omega
  clear hg
  have Hnn := Lib.hid hnn
  rw [← hnn] at hn ⊢
  clear hnn
  have hlt : n + (7 - n % 8) < 1000008 := by omega
  go_loop [2] (fun x => ∃ (j : Nat) (S : ByteArray), j ≤ 7 - n % 8 ∧ x = .string S ∧ S.size = n + j ∧ Hid (byts S = byts t ++ List.replicate j 0)) (fun x => n + 8 - strLen x)
  case atStart => exact ⟨0, t, by omega, rfl, by rw [Hnn.out]; rfl, Lib.hid (by simp)⟩
  case round =>
    obtain ⟨j, S, hj, rfl, hS, hB⟩ := hrel
    have HS := Lib.hid hS
    have hSs : S.size < 1000008 := by omega
    by_cases hlast : j = 7 - n % 8
    · have hm : (S.size : Int) % 8 = 7 := by omega
      have hpad : byts S ++ [((n % 256 : Nat) : Int)] = pad (byts t) := by
        unfold pad
        rw [byts_len, ← Hnn.out, hB.out, hlast]
      have Hpad := Lib.hid hpad
      obtain ⟨z, hz⟩ : ∃ z, z = n % 256 := ⟨_, rfl⟩
      have hz256 : (n : Int).tmod 256 = (z : Int) := by rw [Int.tmod_eq_emod_of_nonneg (by omega)]; omega
      have hzl : (z : Int) < 256 := by omega
      have Hz := Lib.hid hz
      clear hS hlast hpad hB hz
      have hcv : (convert 54 9 (.slice (some ⟨w1'.heap.size, 0, none⟩) 1 1)).run Try.prog (w1'.alloc (.cells #[.int .u8 (z : Int)] 5)) = .ok (.string (strOfNums [(z : Int)])) (w1'.alloc (.cells #[.int .u8 (z : Int)] 5)) :=
        run_convert_bytes_arg _ _ _ Try.underlying54 Try.underlying5 w1'.heap.size 0 1 1 [(z : Int)] rfl (fun i hi => by
          have : i = 0 := by omega
          subst this
          exact (Blk.new w1' 5 #[.int .u8 (z : Int)]).cell 0) _ Try.underlying9
      have hT : byts (S ++ strOfNums [(z : Int)]) = pad (byts t) := by
        rw [byts_app, byts_strOf (by intro x hx; simp at hx; omega), ← Hpad.out, Hz.out]
      have hTs : (S ++ strOfNums [(z : Int)]).size = 8 * (n / 8 + 1) := by
        rw [← byts_len, hT, pad_len, byts_len, ← Hnn.out]
      have hTb := pad_ok (byts_ok t)
      have hs2 := hs0.alloc (.cells #[.int .u8 (z : Int)] 5)
      have hb2 := hb0.alloc (.cells #[.int .u8 (z : Int)] 5)
      have hq1 : (strOfNums [(z : Int)]).size = 1 := strOfNums_size _
      have HT := Lib.hid hT
      have HTs := Lib.hid hTs
      clear hT hTs hs0 hb0 Hpad Hz
      go_wp2_with fail
      generalize w1'.alloc (.cells #[.int .u8 (z : Int)] 5) = w2 at *
      generalize S ++ strOfNums [(z : Int)] = T at *
      have hPl := pad_len (byts t)
      rw [byts_len, ← Hnn.out] at hPl
      generalize hP : pad (byts t) = P at *
      have HP := Lib.hid hP
      have HPl := Lib.hid hPl
      clear hP hPl hcv
      obtain ⟨Q, hQ⟩ : ∃ Q, Q = n / 8 + 1 := ⟨_, rfl⟩
      have hTQ : T.size = 8 * Q := by rw [HTs.out, hQ]
      have hQl : Q < 1000000 := by omega
      have HQ := Lib.hid hQ
      have HTQ := Lib.hid hTQ
      have hTQi : (T.size : Int) = 8 * (Q : Int) := by omega
      clear hQ hTQ
      go_loopw [9, 10] (fun a _ wr => ∃ k : Nat, k ≤ Q ∧ a = .int .i64 (8 * (k : Int)) ∧ Blk wr g 56 (lay [] (cfn (beg k0 k1) P k) []) ∧ Hid (Still w wr)) (fun a _ _ => 8 * Q - (intOf a).toNat)
      case atStart => exact ⟨0, by omega, rfl, hb2, Lib.hid hs2⟩
      case round =>
        clear hb2 hs2
        obtain ⟨k, hk, rfl, hb, hst⟩ := hrel
        have hok : Ok (cfn (beg k0 k1) P k) := cfn_ok ok0 hTb k (by rw [HPl.out, ← HQ.out]; omega)
        by_cases hlt : k < Q
        · have h8 : (P.drop (8 * k)).take 8 = byts (T.extract (8 * k) (8 * k + 8)) := by
            rw [byts_extract, HT.out, show 8 * k + 8 - 8 * k = 8 by omega]
          have h8l : (byts (T.extract (8 * k) (8 * k + 8))).length = 8 := by
            rw [← h8, List.length_take, List.length_drop, HPl.out, ← HQ.out]; omega
          have hnext : cfn (beg k0 k1) P (k + 1) = mix (cfn (beg k0 k1) P k) (num (byts (T.extract (8 * k) (8 * k + 8)))) := by simp only [cfn]; rw [h8]
          have hlti : (k : Int) < (Q : Int) := by omega
          have H8 := Lib.hid h8
          have Hnext := Lib.hid hnext
          clear h8 hnext
          have hX64 : 0 ≤ num (byts (T.extract (8 * k) (8 * k + 8))) ∧ num (byts (T.extract (8 * k) (8 * k + 8))) < 18446744073709551616 := Oct.num64 ⟨h8l, byts_ok _⟩
          obtain ⟨X, hX⟩ : ∃ X, X = num (byts (T.extract (8 * k) (8 * k + 8))) := ⟨_, rfl⟩
          have hcn := fun W => refnumber_oct (w := W) h8l
          rw [← hX] at hX64 hcn
          have HX := Lib.hid hX
          clear hX
          have hm1 := mix1_ok hok hX64
          have hmm := mix_ok hok hX64
          obtain ⟨V, hV⟩ : ∃ V, V = cfn (beg k0 k1) P k := ⟨_, rfl⟩
          rw [← hV] at hok hb hm1 hmm
          have HV := Lib.hid hV
          clear hV
          obtain ⟨a, b, c, d, hVe⟩ := hok.cases
          subst hVe
          obtain ⟨x, ex⟩ : ∃ x, bits .xor .u64 d X = x := ⟨_, rfl⟩
          have hm1 : Ok [a, b, c, x] := by rw [← ex]; exact hm1
          have c0 : wr.cell? ⟨g, 0, none⟩ = some (.int .u64 a) := hb.cell 0
          have c1 : wr.cell? ⟨g, 1, none⟩ = some (.int .u64 b) := hb.cell 1
          have c2 : wr.cell? ⟨g, 2, none⟩ = some (.int .u64 c) := hb.cell 2
          have c3 : wr.cell? ⟨g, 3, none⟩ = some (.int .u64 d) := hb.cell 3
          have f0 : wr.frozen? ⟨g, 0, none⟩ = false := hb.frozen 0
          have f1 : wr.frozen? ⟨g, 1, none⟩ = false := hb.frozen 1
          have f2 : wr.frozen? ⟨g, 2, none⟩ = false := hb.frozen 2
          have f3 : wr.frozen? ⟨g, 3, none⟩ = false := hb.frozen 3
          have hb3 : Blk (wr.setCell ⟨g, 3, none⟩ (.int .u64 x)) g 56 (lay [] [a, b, c, x] []) := hb.set_ 3 (.int .u64 x)
          have hs3 : Still w (wr.setCell ⟨g, 3, none⟩ (.int .u64 x)) := hst.out.setCell (p := ⟨g, 3, none⟩) (.inr hgw) _
          go_wp2_with fail
          refine (hcn _).mono ?_
          rintro e w3 ⟨rfl, rfl⟩
          go_wp2_with fail
          generalize wr.setCell ⟨g, 3, none⟩ (.int .u64 x) = w3 at *
          refine (refround_ok (v := [a, b, c, x]) hm1).mono ?_
          rintro e w4 ⟨rfl, hs4⟩
          have hb4 := hb3.only hs4 (fun h => h)
          have hs4 := hs3.still hs4
          clear c0 c1 c2 c3 f0 f1 f2 f3 hb3 hs3 hb hst
          go_wp2_with fail
          obtain ⟨r0, r1, r2, r3, hR⟩ := (rd_ok (rd_ok hm1)).cases
          refine (refround_l (rd_ok hm1) hR).mono ?_
          rintro e w5 ⟨rfl, hs5⟩
          have hb5 := hb4.only hs5 (fun h => h)
          have hs5 := hs4.still hs5
          have HR := Lib.hid hR
          clear hb4 hR
          have c0 : w5.cell? ⟨g, 0, none⟩ = some (.int .u64 a) := hb5.cell 0
          have c1 : w5.cell? ⟨g, 1, none⟩ = some (.int .u64 b) := hb5.cell 1
          have c2 : w5.cell? ⟨g, 2, none⟩ = some (.int .u64 c) := hb5.cell 2
          have c3 : w5.cell? ⟨g, 3, none⟩ = some (.int .u64 x) := hb5.cell 3
          have f0 : w5.frozen? ⟨g, 0, none⟩ = false := hb5.frozen 0
          have f1 : w5.frozen? ⟨g, 1, none⟩ = false := hb5.frozen 1
          have f2 : w5.frozen? ⟨g, 2, none⟩ = false := hb5.frozen 2
          have f3 : w5.frozen? ⟨g, 3, none⟩ = false := hb5.frozen 3
          obtain ⟨y, ey⟩ : ∃ y, bits .xor .u64 r0 X = y := ⟨_, rfl⟩
          have hb6 := ((((hb5.set_ 0 (.int .u64 r0)).set_ 1 (.int .u64 r1)).set_ 2 (.int .u64 r2)).set_ 3 (.int .u64 r3)).set_ 0 (.int .u64 y)
          have hs6 := ((((hs5.setCell (p := ⟨g, 0, none⟩) (.inr hgw) (.int .u64 r0)).setCell (p := ⟨g, 1, none⟩) (.inr hgw) (.int .u64 r1)).setCell (p := ⟨g, 2, none⟩) (.inr hgw) (.int .u64 r2)).setCell (p := ⟨g, 3, none⟩) (.inr hgw) (.int .u64 r3)).setCell (p := ⟨g, 0, none⟩) (.inr hgw) (.int .u64 y)
          go_wp2_with fail
          go_roundw
          case rel =>
            refine ⟨k + 1, by omega, by go_num, ?_, Lib.hid hs6⟩
            have e : cfn (beg k0 k1) P (k + 1) = [y, r1, r2, r3] := by
              rw [Hnext.out, ← HX.out, ← HV.out, ← ey]
              have e1 : mix [a, b, c, d] X = (rd (rd [a, b, c, x])).set 0 (bits .xor .u64 ((rd (rd [a, b, c, x])).getD 0 0) X) := by rw [← ex]; rfl
              rw [e1, HR.out]
              rfl
            rw [e]
            exact hb6
          case measure => simp [intOf]; omega
        · have hkQ : k = Q := by omega
          subst hkQ
          obtain ⟨V, hV⟩ : ∃ V, V = cfn (beg k0 k1) P k := ⟨_, rfl⟩
          rw [← hV] at hok hb
          have HV := Lib.hid hV
          clear hV
          obtain ⟨a, b, c, d, hVe⟩ := hok.cases
          subst hVe
          have rc := hok.rg 2 (by omega)
          obtain ⟨x, ex⟩ : ∃ x, bits .xor .u64 c 255 = x := ⟨_, rfl⟩
          have hm1 : Ok [a, b, x, d] := by rw [← ex]; exact hok.set 2 _ (xor64 c 255 rc (by omega))
          have c0 : wr.cell? ⟨g, 0, none⟩ = some (.int .u64 a) := hb.cell 0
          have c1 : wr.cell? ⟨g, 1, none⟩ = some (.int .u64 b) := hb.cell 1
          have c2 : wr.cell? ⟨g, 2, none⟩ = some (.int .u64 c) := hb.cell 2
          have c3 : wr.cell? ⟨g, 3, none⟩ = some (.int .u64 d) := hb.cell 3
          have f0 : wr.frozen? ⟨g, 0, none⟩ = false := hb.frozen 0
          have f1 : wr.frozen? ⟨g, 1, none⟩ = false := hb.frozen 1
          have f2 : wr.frozen? ⟨g, 2, none⟩ = false := hb.frozen 2
          have f3 : wr.frozen? ⟨g, 3, none⟩ = false := hb.frozen 3
          have hb3 : Blk (wr.setCell ⟨g, 2, none⟩ (.int .u64 x)) g 56 (lay [] [a, b, x, d] []) := hb.set_ 2 (.int .u64 x)
          have hs3 : Still w (wr.setCell ⟨g, 2, none⟩ (.int .u64 x)) := hst.out.setCell (p := ⟨g, 2, none⟩) (.inr hgw) _
          go_wp2_with fail
          generalize wr.setCell ⟨g, 2, none⟩ (.int .u64 x) = w3 at *
          refine (refround_ok (v := [a, b, x, d]) hm1).mono ?_
          rintro e w4 ⟨rfl, hs4⟩
          have hb4 := hb3.only hs4 (fun h => h)
          have hs4 := hs3.still hs4
          clear c0 c1 c2 c3 f0 f1 f2 f3 hb3 hs3 hb hst
          go_wp2_with fail
          refine (refround_ok (rd_ok hm1)).mono ?_
          rintro e w5 ⟨rfl, hs5⟩
          have hb5 := hb4.only hs5 (fun h => h)
          have hs5 := hs4.still hs5
          clear hb4
          go_wp2_with fail
          refine (refround_ok (rd_ok (rd_ok hm1))).mono ?_
          rintro e w6 ⟨rfl, hs6⟩
          have hb6 := hb5.only hs6 (fun h => h)
          have hs6 := hs5.still hs6
          clear hb5
          go_wp2_with fail
          obtain ⟨r0, r1, r2, r3, hR⟩ := (rd_ok (rd_ok (rd_ok (rd_ok hm1)))).cases
          refine (refround_l (rd_ok (rd_ok (rd_ok hm1))) hR).mono ?_
          rintro e w7 ⟨rfl, hs7⟩
          have hb7 := hb6.only hs7 (fun h => h)
          have hs7 := hs6.still hs7
          have HR := Lib.hid hR
          clear hb6 hR
          have c0 : w7.cell? ⟨g, 0, none⟩ = some (.int .u64 a) := hb7.cell 0
          have c1 : w7.cell? ⟨g, 1, none⟩ = some (.int .u64 b) := hb7.cell 1
          have c2 : w7.cell? ⟨g, 2, none⟩ = some (.int .u64 x) := hb7.cell 2
          have c3 : w7.cell? ⟨g, 3, none⟩ = some (.int .u64 d) := hb7.cell 3
          have f0 : w7.frozen? ⟨g, 0, none⟩ = false := hb7.frozen 0
          have f1 : w7.frozen? ⟨g, 1, none⟩ = false := hb7.frozen 1
          have f2 : w7.frozen? ⟨g, 2, none⟩ = false := hb7.frozen 2
          have f3 : w7.frozen? ⟨g, 3, none⟩ = false := hb7.frozen 3
          have hs8 := (((hs7.setCell (p := ⟨g, 0, none⟩) (.inr hgw) (.int .u64 r0)).setCell (p := ⟨g, 1, none⟩) (.inr hgw) (.int .u64 r1)).setCell (p := ⟨g, 2, none⟩) (.inr hgw) (.int .u64 r2)).setCell (p := ⟨g, 3, none⟩) (.inr hgw) (.int .u64 r3)
          have Ex := Lib.hid ex
          clear ex
          go_wp2_with fail
          go_ret
          refine ⟨ret_int ?_, hs8⟩
          rw [← refSum_hash]
          have e : refSum k0 k1 (byts t) = xors [r0, r1, r2, r3] := by
            unfold refSum
            simp only []
            rw [HP.out, byts_len, ← Hnn.out, ← HQ.out, ← HV.out]
            have e1 : ([a, b, c, d] : List Int).set 2 (bits .xor .u64 (([a, b, c, d] : List Int).getD 2 0) 255) = [a, b, x, d] := by rw [← Ex.out]; rfl
            rw [e1, HR.out]
          rw [e]
          rfl
    · have hm : ¬ (S.size : Int) % 8 = 7 := by omega
      have hB' : byts (S ++ ⟨#[0]⟩) = byts t ++ List.replicate (j + 1) 0 := by
        have e : byts (S ++ ⟨#[0]⟩) = byts S ++ [0] := by unfold byts; simp [ByteArray.toList_eq]
        rw [e, hB.out, List.replicate_succ', List.append_assoc]
      have hB' := Lib.hid hB'
      clear hS
      go_wp2_with fail
      go_round
      case rel => exact ⟨j + 1, _, by omega, rfl, by rw [ByteArray.size_append, HS.out]; rfl, hB'⟩
      case measure =>
        have e : (S ++ ⟨#[0]⟩ : ByteArray).size = S.size + 1 := by rw [ByteArray.size_append]; rfl
        show n + 8 - (S ++ ⟨#[0]⟩ : ByteArray).size < n + 8 - S.size
        have := HS.out
        rw [e]
        omega
end Go.Proofs.Ytpgebejnpncemaa
