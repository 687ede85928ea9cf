/-
  OrderAgain: by the same draws the order is the same.
-/
import Derived.Test.YtdcogjlcbdkdcaaDoorOrdCase
namespace Go.Proofs.YtdcogjlcbdkdcaaDoor
open Go.RowKit
set_option linter.unusedVariables false
set_option linter.unusedSimpArgs false

theorem blk6 {w : World} {g : Nat} {t : TypeId} {v0 v1 v2 v3 v4 v5 : Value} (h : Blk w g t #[v0, v1, v2, v3, v4, v5]) :
    w.cell? ⟨g, 0, none⟩ = some v0 ∧ w.cell? ⟨g, 1, none⟩ = some v1 ∧ w.cell? ⟨g, 2, none⟩ = some v2 ∧ w.cell? ⟨g, 3, none⟩ = some v3 ∧ w.cell? ⟨g, 4, none⟩ = some v4 ∧ w.cell? ⟨g, 5, none⟩ = some v5 := by
  have c0 := h.cell 0
  have c1 := h.cell 1
  have c2 := h.cell 2
  have c3 := h.cell 3
  have c4 := h.cell 4
  have c5 := h.cell 5
  simp at c0 c1 c2 c3 c4 c5
  exact ⟨c0, c1, c2, c3, c4, c5⟩
set_option maxRecDepth 1000000 in
set_option maxHeartbeats 6400000 in
theorem again_walk (w : World) (hg : Gains w) (u lim rst seed : Int) (A F : Option Addr) (m cc kf fc : Nat) (l : List A3) (xs : List Int) (hc : CaseIn w u lim rst seed A F m cc kf fc l xs) :
    Calls Tryd.prog 7 #[.agg #[.int .i64 u, .int .i64 lim, .int .i64 rst, .slice A m cc, .int .u64 seed, .slice F kf fc]] w fun e w' => e = .returned (.bool true) ∧ Still w w' := by
  have hs0 := Still.new w (.cells #[.int .i64 u, .int .i64 lim, .int .i64 rst, .slice A m cc, .int .u64 seed, .slice F kf fc] 26)
  have hB0 := Blk.new w 26 #[.int .i64 u, .int .i64 lim, .int .i64 rst, .slice A m cc, .int .u64 seed, .slice F kf fc]
  go_enter Tryd.func7, Tryd.ntmps7
  go_wp2_with fail
  refine (long_any _ u lim rst seed A F m cc kf fc).mono ?_
  rintro e w1 ⟨rfl, hs1'⟩
  have hs1 := hs0.still hs1'
  have hB1 := hB0.only hs1' (fun h => h)
  have hg1 := hg.still hs1
  generalize w.heap.size = K at hB1 ⊢
  by_cases hL : 500 < m ∨ 500 < kf
  · rw [decide_eq_true hL]
    go_wp2_with fail
    refine (order_awake _ hg1).mono ?_
    rintro e w2 ⟨rfl, hs2⟩
    go_wp2_with fail
    go_ret
    exact ⟨rfl, hs1.still hs2⟩
  · rw [decide_eq_false hL]
    have hm : m ≤ 500 := by omega
    have hkf : kf ≤ 500 := by omega
    clear hL
    go_wp2_with fail
    refine (order_awake _ hg1).mono ?_
    rintro e w2 ⟨rfl, hs2'⟩
    have hs2 := hs1.still hs2'
    have hB2 := hB1.only hs2' (fun h => h)
    have hg2 := hg.still hs2
    have hc2 := hc.still hs2
    obtain ⟨b0, b1, b2, b3, b4, b5⟩ := blk6 hB2
    clear hs0 hB0 hs1 hB1 hg1 hg hc
    go_wp2_with fail
    by_cases hb : bookOk u lim rst
    · refine (book_ok w2 hg2 hb hc2.rd hc2.ll hm).mono ?_
      rintro e w3 ⟨g, b, c, x, bx, cx, n, Hn, rfl, hBo⟩
      clear b0 b1 b2 b3 b4 b5
      obtain ⟨b0, b1, b2, b3, b4, b5⟩ := blk6 (hB2.only hBo.live.st (fun h => h))
      have hc3 := hc2.still hBo.live.st
      generalize acts3 lim rst n (List.replicate n up1) l = us at hBo
      have h1 := hBo.live
      have hmay : 1 ≤ (mayL us).length := by rw [may_len]; have := hBo.inv.may; omega
      have hmay9 : (mayL us).length ≤ 9 := by
        have h2 := mayK_le us us.length
        have h3 := h1.bk.len
        have h4 := h1.ok.n9
        unfold mayL; omega
      have n1 := h1.ok.n1
      have n9 := h1.ok.n9
      go_wp2_with fail
      refine (new_any seed F kf fc xs _ hc3.rx hc3.fn (by omega) hc3.s0 hc3.s1 hc3.xr).mono ?_
      rintro e w4 ⟨t, rfl, ht0, ht4, hs4⟩
      have h4 := h1.still hs4
      have ht2 : w2.heap.size ≤ t := by have := h1.st.size; omega
      clear h1 hBo b0 b1 b2 b3 b4 b5 hc3
      go_wp2_with fail
      refine (next_any ht4 (by omega)).mono ?_
      rintro e w5 ⟨rfl, ht5, ho5⟩
      obtain ⟨ngt, nbt⟩ := h4.not_tape ht4
      have h5 := h4.tape ho5 ht2 ngt nbt
      have hdr := ht4.range 0
      generalize draw seed xs 0 = dr at *
      clear h4 ht4 ho5 hs4
      go_wp2_with fail
      refine (copy_any ht5).mono ?_
      rintro e w6 ⟨t', rfl, ht0', ht6', hs6⟩
      have htl := ht5.lt
      have ht6 := ht5.still hs6
      have h6 := h5.still hs6
      have ht2' : w2.heap.size ≤ t' := by have := h5.st.size; omega
      have hne : t' ≠ t := by omega
      clear h5 ht5 hs6 ht0'
      go_wp2_with fail
      refine (order_any h6 ht6 ht2 (by omega) hmay).mono ?_
      rintro e w7 ⟨A1, c1, rfl, hown1, h7, ht7, ho7⟩
      have ht7' := ht6'.other ht6 ho7 hne
      have ht6l := ht6'.lt
      clear h6 ht6 ht6'
      generalize hL1 : ordL (draw seed xs) (0 + 1) us = L1 at *
      have HL1 := Lib.hid hL1
      clear hL1
      go_wp2_with fail
      refine (Copy_any h7.bk n9 n1).mono ?_
      rintro e w8 ⟨g', b', c', rfl, hg8, hb8, hbk8, hs8⟩
      have ht8 := ht7.still hs8
      have ht8' := ht7'.still hs8
      have hown1 := own_only hown1 hs8 (fun _ _ h => h)
      have hsz7 := h7.st.size
      have h8 : Live w2 w8 g' b' n c' lim rst us := ⟨hbk8, h7.ok, hg2, h7.us, by omega, by omega, h7.st.still hs8⟩
      clear hbk8 hs8 ht7 ht7' h7
      go_wp2_with fail
      refine (order_any h8 ht8' ht2' (by omega) hmay).mono ?_
      rintro e w9 ⟨A2, c2, rfl, hown2, h9, ht9', ho9⟩
      rw [HL1.out] at hown2
      have ht9 := ht8.other ht8' ho9 (fun e => hne e.symm)
      have hrd1 := Reads.of_own (own_only hown1 ho9 (fun q hq e => by have h1 := (hown1.lt q hq).1; have e' : q = t' := e; omega))
      clear hown1
      have hrd2 := Reads.of_own hown2
      clear hown2 ho9 h8 ht8 ht8'
      generalize (mayL us).length = M at *
      generalize hQ : 0 + 1 + (M - 1) = Q at *
      have hQ9 : Q ≤ 10 := by omega
      clear hQ
      go_wp2_with fail
      refine (ints_any A1 A2 M c1 M c2 _ _ L1 L1 _ hrd1 hrd2 (by omega) (by omega)).mono ?_
      rintro e w10 ⟨rfl, q, rfl⟩
      have h10 := h9.still ((Only.refl (fun _ => False) w9).drewN q)
      have htA := ht9.still ((Only.refl (fun _ => False) w9).drewN q)
      have htB := ht9'.still ((Only.refl (fun _ => False) w9).drewN q)
      generalize w9.drewN q = w10 at *
      clear hrd1 hrd2 ht9 ht9' h9
      rw [decide_eq_true (rfl : L1 = L1)]
      go_wp2_with fail
      refine (used_any htA).mono ?_
      rintro e wu ⟨rfl, rfl⟩
      go_wp2_with fail
      refine (used_any htB).mono ?_
      rintro e wu ⟨rfl, rfl⟩
      go_wp2_with fail
      refine (next_any htA (by omega)).mono ?_
      rintro e w11 ⟨rfl, htC, ho11⟩
      have htD := htB.other htA ho11 hne
      have hst11 := h10.st.trans ho11 (fun i hi e => by omega)
      clear htA htB h10
      go_wp2_with fail
      refine (next_any htD (by omega)).mono ?_
      rintro e w12 ⟨rfl, _, ho12⟩
      have hst12 := hst11.trans ho12 (fun i hi e => by omega)
      go_wp2_with fail
      go_ret
      exact ⟨rfl, hs2.still hst12⟩
    · refine (book_bad w2 hc2.hu hb).mono ?_
      rintro e w3 ⟨rfl, hs3⟩
      go_wp2_with fail
      go_ret
      exact ⟨rfl, hs2.still hs3⟩
end Go.Proofs.YtdcogjlcbdkdcaaDoor
