/-
  The reference of names: Compare.
-/
import Derived.Test.YtjenabcjikdnaaaNameRef3
namespace Go.Proofs.Ytjenabcjikdnaaa
open Go.RowKit
set_option linter.unusedVariables false
set_option linter.unusedSimpArgs false

theorem fold_at (L : List Lab) (k : Nat) (h : k < L.length) : (fold L)[k]'(by rw [fold_len]; exact h) = L[k].map low := by
  unfold fold; rw [List.getElem_map]
theorem less_lexc : ∀ a b : List UInt8, Op.bytesLess a b = decide (lexc cmp8 a b = -1)
  | [], [] => rfl
  | [], _ :: _ => rfl
  | _ :: _, [] => by simp [Op.bytesLess, lexc]
  | a :: r, b :: t => by
      have ih := less_lexc r t
      simp only [Op.bytesLess, lexc, cmp8]
      by_cases h1 : a < b
      · simp [h1]
      · by_cases h2 : b < a
        · have h3 : ¬ a = b := by rintro rfl; exact h1 h2
          simp [h1, h2, h3]
        · have h3 : a = b := UInt8.le_antisymm (UInt8.not_lt.1 h2) (UInt8.not_lt.1 h1)
          subst h3
          simp [h1, ih]
theorem less_mk (a b : List UInt8) : Op.bytesLess (mk a).toList (mk b).toList = decide (cmpB a b = -1) := by
  rw [ByteArray.toList_eq, ByteArray.toList_eq, mk_list, mk_list]
  exact less_lexc a b
theorem beq_cmp (a b : List UInt8) : ((mk a).toList == (mk b).toList) = decide (cmpB a b = 0) := by
  rw [mk_beq]
  by_cases e : a = b
  · rw [decide_eq_true e, decide_eq_true ((cmpB_ok.zero a b).2 e)]
  · rw [decide_eq_false e, decide_eq_false (fun h => e ((cmpB_ok.zero a b).1 h))]

set_option maxRecDepth 1000000 in
set_option maxHeartbeats 3200000 in
theorem rcompare_any (a b : ByteArray) (ha : a.size ≤ 3000) (hb : b.size ≤ 3000) (w : World) :
    Calls Try.prog 32 #[.string a, .string b] w fun e w' => e = .returned (.int .i64 (cmpS a b)) ∧ Still w w' := by
  go_enter Try.func32, Try.ntmps32
  go_wp2_with fail
  refine (rlabels_any a ha w).mono ?_
  rintro e w1 (⟨hm, rfl, h1⟩ | ⟨L, A, c, hm, rfl, oA, h1⟩)
  · have hf : Hid (0 = cmpS a b) := Lib.hid (cmpS_no (.inl hm.out)).symm
    clear hm
    go_wp2_with fail
    refine (rlabels_any b hb w1).mono ?_
    rintro e w2 (⟨hm, rfl, h2⟩ | ⟨M, B, d, hm, rfl, oB, h2⟩)
    · have h2 := h1.still h2
      clear hm
      go_wp2_with fail
      go_ret
      exact ⟨ret_int hf.out, h2⟩
    · have h2 := h1.still h2
      clear hm oB
      go_wp2_with fail
      go_ret
      exact ⟨ret_int hf.out, h2⟩
  · go_wp2_with fail
    refine (rlabels_any b hb w1).mono ?_
    rintro e w2 (⟨hm', rfl, h2⟩ | ⟨M, B, d, hm', rfl, oB, h2⟩)
    · have hf : Hid (0 = cmpS a b) := Lib.hid (cmpS_no (.inr hm'.out)).symm
      have h2 := h1.still h2
      clear hm oA hm'
      go_wp2_with fail
      go_ret
      exact ⟨ret_int hf.out, h2⟩
    have oA := own_only oA h2 (fun _ _ h => h)
    have h2 := h1.still h2
    have H : Hid (cmpS a b = lexc cmpB (fold L).reverse (fold M).reverse) := Lib.hid (by rw [hm.out.2, hm'.out.2]; exact cmpS_enc hm.out.1 hm'.out.1)
    have lF := hm.out.1.len
    have lY := hm'.out.1.len
    have xL := Lib.hid (fun k hk => hm.out.1.lab k hk)
    have xM := Lib.hid (fun k hk => hm'.out.1.lab k hk)
    clear hm hm' h1
    obtain ⟨ri, hri⟩ : ∃ r, r = cmpS a b := ⟨_, rfl⟩
    rw [← hri] at H
    have HRI := Lib.hid hri
    clear hri
    go_wp2_with fail
    go_loopw [9] (fun i wr => ∃ (k : Nat), k ≤ L.length ∧ k ≤ M.length ∧ i = .int .i64 ((k + 1 : Nat) : Int) ∧ Hid (ri = lexc cmpB ((fold L).reverse.drop k) ((fold M).reverse.drop k)) ∧ Still w2 wr) (fun i _ => 300 - (intOf i).toNat)
    case atStart => exact ⟨0, by omega, by omega, rfl, H, Only.refl _ _⟩
    case round =>
      obtain ⟨k, hkF, hkY, rfl, hri, hs6⟩ := hrel
      clear H
      have hst := h2.still hs6
      have oA := own_only oA hs6 (fun _ _ h => h)
      have oB := own_only oB hs6 (fun _ _ h => h)
      by_cases hk : k < L.length ∧ k < M.length
      · obtain ⟨hk1, hk2⟩ := hk
        obtain ⟨gA, rfl, gA1, gA2, gA3, gA4, cA'⟩ := row_at oA (by omega)
        obtain ⟨gB, rfl, gB1, gB2, gB3, gB4, cB'⟩ := row_at oB (by omega)
        have hx := cA' (L.length - 1 - k) (by omega)
        have hy := cB' (M.length - 1 - k) (by omega)
        have zx := xL.out (L.length - 1 - k) (by omega)
        have zy := xM.out (M.length - 1 - k) (by omega)
        have i1 : (k : Int) + 1 ≤ (L.length : Int) := by omega
        have i2 : (k : Int) + 1 ≤ (M.length : Int) := by omega
        have i3 : IntKind.i64.wrap ((L.length : Int) - ((k : Int) + 1)) = ((L.length - 1 - k : Nat) : Int) := by rw [IntWalk.i64_in _ (by omega)]; omega
        have i4 : IntKind.i64.wrap ((M.length : Int) - ((k : Int) + 1)) = ((M.length - 1 - k : Nat) : Int) := by rw [IntWalk.i64_in _ (by omega)]; omega
        have i5 : L.length - 1 - k < L.length := by omega
        have i6 : M.length - 1 - k < M.length := by omega
        have i7 : IntKind.i64.wrap ((k : Int) + 1 + 1) = ((k + 1 + 1 : Nat) : Int) := by rw [IntWalk.i64_in _ (by omega)]; push_cast; rfl
        have hl := lexc_drop (c := cmpB) (X := (fold L).reverse) (Y := (fold M).reverse) (k := k) (by simpa [fold_len] using hk1) (by simpa [fold_len] using hk2)
        rw [List.getElem_reverse, List.getElem_reverse] at hl
        have e1 : (fold L).length - 1 - k = L.length - 1 - k := by rw [fold_len]
        have e2 : (fold M).length - 1 - k = M.length - 1 - k := by rw [fold_len]
        have f1 := fold_at L (L.length - 1 - k) i5
        have f2 := fold_at M (M.length - 1 - k) i6
        simp only [e1, e2, f1, f2] at hl
        obtain ⟨x, hxx⟩ : ∃ x, x = L[L.length - 1 - k] := ⟨_, rfl⟩
        obtain ⟨y, hyy⟩ : ∃ y, y = M[M.length - 1 - k] := ⟨_, rfl⟩
        rw [← hxx] at hx zx
        rw [← hyy] at hy zy
        rw [← hxx, ← hyy] at hl
        obtain ⟨r, hr⟩ : ∃ r, r = cmpB (x.map low) (y.map low) := ⟨_, rfl⟩
        rw [← hr] at hl
        have HR := Lib.hid hr
        have HL := Lib.hid hl
        obtain ⟨m, hm⟩ : ∃ m, m = L.length - 1 - k := ⟨_, rfl⟩
        obtain ⟨n, hn⟩ : ∃ n, n = M.length - 1 - k := ⟨_, rfl⟩
        rw [← hm] at hx i3 i5
        rw [← hn] at hy i4 i6
        have hm1 : (m : Int) < (L.length : Int) := by omega
        have hn1 : (n : Int) < (M.length : Int) := by omega
        clear cA' cB' oA oB hl hr hxx hyy hm hn e1 e2 f1 f2
        go_wp2_with fail
        have hsd : Still wr wr.drew := (Only.refl _ _).drew
        have dx := hsd.cell_some (fun h => h) hx
        have dy := hsd.cell_some (fun h => h) hy
        have hst := hst.still hsd
        have hs6 := hs6.still hsd
        clear hx hy
        refine wp_region_held_drew (S := fun w' => Still wr.drew w') (by kernel_rfl) (Only.refl _ _) (fun hS => ?_)
        generalize wr.drew = wd at *
        (refine take_p (i := 0) (v := ?_) rfl (by kernel_rfl) (by kernel_rfl) (by kernel_rfl) (fun _ _ _ h => h) (Or.inl ⟨by rfl, ?_⟩) hS ?_; rotate_left; (focus (intro w0 hSw; go_simp; try with_reducible rfl)); try simp only [Act.put, List.setIfInBounds_toArray, List.set_cons_zero, List.set_cons_succ])
        (refine take_p (i := 1) (v := ?_) rfl (by kernel_rfl) (by kernel_rfl) (by kernel_rfl) (fun _ _ _ h => h) (Or.inl ⟨by rfl, ?_⟩) hS ?_; rotate_left; (focus (intro w0 hSw; go_simp; try with_reducible rfl)); try simp only [Act.put, List.setIfInBounds_toArray, List.set_cons_zero, List.set_cons_succ])
        (refine take_p (i := 2) (v := ?_) rfl (by kernel_rfl) (by kernel_rfl) (by kernel_rfl) (fun _ _ _ h => h) (Or.inl ⟨by rfl, ?_⟩) hS ?_; rotate_left; (focus (intro w0 hSw; go_simp; try with_reducible rfl)); try simp only [Act.put, List.setIfInBounds_toArray, List.set_cons_zero, List.set_cons_succ])
        (refine take_p (i := 3) (v := ?_) rfl (by kernel_rfl) (by kernel_rfl) (by kernel_rfl) (fun _ _ _ h => h) (Or.inl ⟨by rfl, ?_⟩) hS ?_; rotate_left; (focus (intro w0 hSw; go_simp; try with_reducible rfl)); try simp only [Act.put, List.setIfInBounds_toArray, List.set_cons_zero, List.set_cons_succ])
        (refine take_p (i := 4) (v := ?_) rfl (by kernel_rfl) (by kernel_rfl) (by kernel_rfl) (fun _ _ _ h => h) (Or.inl ⟨by rfl, ?_⟩) hS ?_; rotate_left; (focus (intro w0 hSw; go_simp; try with_reducible rfl)); try simp only [Act.put, List.setIfInBounds_toArray, List.set_cons_zero, List.set_cons_succ])
        (refine take_p (i := 5) (v := ?_) rfl (by kernel_rfl) (by kernel_rfl) (by kernel_rfl) (fun _ _ _ h => h) (Or.inl ⟨by rfl, ?_⟩) hS ?_; rotate_left; (focus (intro w0 hSw; go_simp; try with_reducible rfl)); try simp only [Act.put, List.setIfInBounds_toArray, List.set_cons_zero, List.set_cons_succ])
        (refine take_p (i := 6) (v := ?_) rfl (by kernel_rfl) (by kernel_rfl) (by kernel_rfl) (fun _ _ _ h => h) (Or.inl ⟨by rfl, ?_⟩) hS ?_; rotate_left; (focus (intro w0 hSw; have q_ := hSw.cell_some (fun h => h) dx; go_simp; try with_reducible rfl)); try simp only [Act.put, List.setIfInBounds_toArray, List.set_cons_zero, List.set_cons_succ])
        (refine take_p (i := 8) (v := ?_) rfl (by kernel_rfl) (by kernel_rfl) (by kernel_rfl) (fun _ _ _ h => h) (Or.inl ⟨by rfl, ?_⟩) hS ?_; rotate_left; (focus (intro w0 hSw; go_simp; try with_reducible rfl)); try simp only [Act.put, List.setIfInBounds_toArray, List.set_cons_zero, List.set_cons_succ])
        (refine take_p (i := 9) (v := ?_) rfl (by kernel_rfl) (by kernel_rfl) (by kernel_rfl) (fun _ _ _ h => h) (Or.inl ⟨by rfl, ?_⟩) hS ?_; rotate_left; (focus (intro w0 hSw; go_simp; try with_reducible rfl)); try simp only [Act.put, List.setIfInBounds_toArray, List.set_cons_zero, List.set_cons_succ])
        (refine take_p (i := 10) (v := ?_) rfl (by kernel_rfl) (by kernel_rfl) (by kernel_rfl) (fun _ _ _ h => h) (Or.inl ⟨by rfl, ?_⟩) hS ?_; rotate_left; (focus (intro w0 hSw; go_simp; try with_reducible rfl)); try simp only [Act.put, List.setIfInBounds_toArray, List.set_cons_zero, List.set_cons_succ])
        (refine take_p (i := 11) (v := ?_) rfl (by kernel_rfl) (by kernel_rfl) (by kernel_rfl) (fun _ _ _ h => h) (Or.inl ⟨by rfl, ?_⟩) hS ?_; rotate_left; (focus (intro w0 hSw; go_simp; try with_reducible rfl)); try simp only [Act.put, List.setIfInBounds_toArray, List.set_cons_zero, List.set_cons_succ])
        (refine take_p (i := 12) (v := ?_) rfl (by kernel_rfl) (by kernel_rfl) (by kernel_rfl) (fun _ _ _ h => h) (Or.inl ⟨by rfl, ?_⟩) hS ?_; rotate_left; (focus (intro w0 hSw; go_simp; try with_reducible rfl)); try simp only [Act.put, List.setIfInBounds_toArray, List.set_cons_zero, List.set_cons_succ])
        (refine take_p (i := 13) (v := ?_) rfl (by kernel_rfl) (by kernel_rfl) (by kernel_rfl) (fun _ _ _ h => h) (Or.inl ⟨by rfl, ?_⟩) hS ?_; rotate_left; (focus (intro w0 hSw; go_simp; try with_reducible rfl)); try simp only [Act.put, List.setIfInBounds_toArray, List.set_cons_zero, List.set_cons_succ])
        (refine take_p (i := 14) (v := ?_) rfl (by kernel_rfl) (by kernel_rfl) (by kernel_rfl) (fun _ _ _ h => h) (Or.inl ⟨by rfl, ?_⟩) hS ?_; rotate_left; (focus (intro w0 hSw; have q_ := hSw.cell_some (fun h => h) dy; go_simp; try with_reducible rfl)); try simp only [Act.put, List.setIfInBounds_toArray, List.set_cons_zero, List.set_cons_succ])
        refine wpAnyH_ready (rs := [7]) (by kernel_rfl) (by simp) ?_
        refine cons_p rfl (fun K_ hK => ?_) AllReadyH.nil
        go_simp
        refine (low_any (mk x) (by rw [mk_size]; omega) _).mono ?_
        rintro e wa ⟨rfl, ha'⟩
        rw [mk_list]
        refine hK.out _ _ (hS.still ha') (fun hHeld => ?_)
        clear hK K_ hHeld
        try simp only [Act.put, List.setIfInBounds_toArray, List.set_cons_zero, List.set_cons_succ]
        replace hS := hS.still ha'
        refine wpAnyH_ready (rs := [15]) (by kernel_rfl) (by simp) ?_
        refine cons_p rfl (fun K_ hK => ?_) AllReadyH.nil
        go_simp
        refine (low_any (mk y) (by rw [mk_size]; omega) _).mono ?_
        rintro e wb ⟨rfl, hb'⟩
        rw [mk_list]
        refine hK.out _ _ (hS.still hb') (fun hHeld => ?_)
        clear hK K_ hHeld
        try simp only [Act.put, List.setIfInBounds_toArray, List.set_cons_zero, List.set_cons_succ]
        replace hS := hS.still hb'
        (refine take_p (i := 16) (v := ?_) rfl (by kernel_rfl) (by kernel_rfl) (by kernel_rfl) (fun _ _ _ h => h) (Or.inl ⟨by rfl, ?_⟩) hS ?_; rotate_left; (focus (intro w0 hSw; go_simp; try with_reducible rfl)); try simp only [Act.put, List.setIfInBounds_toArray, List.set_cons_zero, List.set_cons_succ])
        (refine take_p (i := 17) (v := ?_) rfl (by kernel_rfl) (by kernel_rfl) (by kernel_rfl) (fun _ _ _ h => h) (Or.inl ⟨by rfl, ?_⟩) hS ?_; rotate_left; (focus (intro w0 hSw; go_simp; try with_reducible rfl)); try simp only [Act.put, List.setIfInBounds_toArray, List.set_cons_zero, List.set_cons_succ])
        refine wpAnyH_done (by kernel_rfl) ?_ _
        have hst := hst.still hS
        have hs6 := hs6.still hS
        generalize x.map low = X at *
        generalize y.map low = Y at *
        clear dx dy hS ha' hb'
        have hl1 := less_mk X Y
        have hq1 := beq_cmp X Y
        rw [← HR.out] at hl1 hq1
        have hrng := cmpB_ok.rng X Y
        rw [← HR.out] at hrng
        generalize mk X = SX at *
        generalize mk Y = SY at *
        rcases hrng with h0 | h0 | h0
        · rw [h0] at hl1 hq1
          have hl2 : Op.bytesLess SX.toList SY.toList = true := hl1
          have hn := HL.out
          rw [if_neg (by omega)] at hn
          have Hn : Hid (-1 = cmpS a b) := Lib.hid (by rw [← HRI.out, hri.out, hn, h0])
          clear hn HL hri hl1 hq1 HR h0
          go_wp2_with fail
          go_ret
          exact ⟨ret_int Hn.out, hst⟩
        · rw [h0] at hl1 hq1
          have hl2 : Op.bytesLess SX.toList SY.toList = false := hl1
          have hq2 : (SX.toList == SY.toList) = true := hq1
          have hn := HL.out
          rw [if_pos h0] at hn
          have Hn := Lib.hid (hri.out.trans hn)
          clear hn HL hri hl1 hq1 HR h0
          go_wp2_with fail
          exact ⟨⟨k + 1, by omega, by omega, by push_cast; rfl, Hn, hs6⟩, by simp [intOf]; omega⟩
        · rw [h0] at hl1 hq1
          have hl2 : Op.bytesLess SX.toList SY.toList = false := hl1
          have hq2 : (SX.toList == SY.toList) = false := hq1
          have hn := HL.out
          rw [if_neg (by omega)] at hn
          have Hn : Hid (1 = cmpS a b) := Lib.hid (by rw [← HRI.out, hri.out, hn, h0])
          clear hn HL hri hl1 hq1 HR h0
          go_wp2_with fail
          go_ret
          exact ⟨ret_int Hn.out, hst⟩
      · have hend := lexc_end (c := cmpB) (X := (fold L).reverse) (Y := (fold M).reverse) (k := k) (by simpa [fold_len] using hkF) (by simpa [fold_len] using hkY) (by simp [fold_len]; omega)
        rw [List.length_reverse, List.length_reverse, fold_len, fold_len] at hend
        unfold Lib.compareInt at hend
        have Hn := Lib.hid ((HRI.out.symm.trans (hri.out.trans hend)).symm)
        clear hend hri oA oB
        have i1 : k = L.length ∨ (k < L.length ∧ k = M.length) := by omega
        rcases Nat.lt_trichotomy L.length M.length with h | h | h
        · have j1 : (L.length : Int) < (M.length : Int) := by omega
          have Hf : Hid (-1 = cmpS a b) := Lib.hid (by have := Hn.out; rw [if_pos j1] at this; exact this)
          rcases i1 with e | ⟨e1, e2⟩
          · have i2 : ¬ (k : Int) + 1 ≤ (L.length : Int) := by omega
            clear e
            go_wp2_with fail
            go_ret
            exact ⟨ret_int Hf.out, hst⟩
          · omega
        · have j1 : ¬ (L.length : Int) < (M.length : Int) := by omega
          have j2 : ¬ (M.length : Int) < (L.length : Int) := by omega
          have Hf : Hid (0 = cmpS a b) := Lib.hid (by have := Hn.out; rw [if_neg j1, if_neg (by omega)] at this; exact this)
          have i2 : ¬ (k : Int) + 1 ≤ (L.length : Int) := by omega
          clear i1 h
          go_wp2_with fail
          go_ret
          exact ⟨ret_int Hf.out, hst⟩
        · have j1 : ¬ (L.length : Int) < (M.length : Int) := by omega
          have j2 : (M.length : Int) < (L.length : Int) := by omega
          have Hf : Hid (1 = cmpS a b) := Lib.hid (by have := Hn.out; rw [if_neg j1, if_pos (by omega)] at this; exact this)
          have i2 : (k : Int) + 1 ≤ (L.length : Int) := by omega
          have i3 : ¬ (k : Int) + 1 ≤ (M.length : Int) := by omega
          clear i1 h
          go_wp2_with fail
          go_ret
          exact ⟨ret_int Hf.out, hst⟩
end Go.Proofs.Ytjenabcjikdnaaa
