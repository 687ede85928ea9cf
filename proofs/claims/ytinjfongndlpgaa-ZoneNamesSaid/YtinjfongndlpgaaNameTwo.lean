/-
  Package name: Same, Within, Compare.
-/
import Derived.Test.YtinjfongndlpgaaNameLab

namespace Go.Proofs.Ytinjfongndlpgaa
open Go.RowKit
set_option linter.unusedVariables false
set_option linter.unusedSimpArgs false

theorem foldS_enc {L : List Lab} (h : okL L) : foldS (mk (enc L)) = mk (enc (fold L)) := by
  unfold foldS
  rw [show mayN (mk (enc L)).data.toList = true from may_enc h, if_pos rfl, mk_list, enc_fold h.1]
theorem foldS_no {s : ByteArray} (h : mayN s.data.toList = false) : foldS s = mk [] := by
  unfold foldS; rw [h]; rfl
/-- Are two the same? -/
def sameS (a b : ByteArray) : Bool := mayN a.data.toList && mayN b.data.toList && decide (foldS a = foldS b)
theorem sameS_enc {L M : List Lab} (hL : okL L) (hM : okL M) : sameS (mk (enc L)) (mk (enc M)) = decide (fold L = fold M) := by
  unfold sameS
  rw [show mayN (mk (enc L)).data.toList = true from may_enc hL, show mayN (mk (enc M)).data.toList = true from may_enc hM, foldS_enc hL, foldS_enc hM]
  simp only [Bool.true_and]
  by_cases e : fold L = fold M
  · rw [decide_eq_true e, e, decide_eq_true rfl]
  · rw [decide_eq_false e, decide_eq_false (fun h => e (enc_inj hL.fold hM.fold (mk_inj h)))]
theorem list_beq (a b : ByteArray) : (a.toList == b.toList) = decide (a = b) := by
  by_cases e : a = b
  · rw [decide_eq_true e, e]; exact beq_self_eq_true _
  · rw [decide_eq_false e]
    exact not_list (l := b.toList) (by
      rw [ByteArray.toList_eq]; exact e)
theorem sameS_l {a b : ByteArray} (h : mayN a.data.toList = false) : false = sameS a b := by unfold sameS; rw [h]; rfl
theorem sameS_r {a b : ByteArray} (h : mayN b.data.toList = false) : false = sameS a b := by unfold sameS; rw [h]; simp
theorem sameS_b {a b : ByteArray} (h : mayN a.data.toList = true) (k : mayN b.data.toList = true) : ((foldS a).toList == (foldS b).toList) = sameS a b := by unfold sameS; rw [h, k, list_beq]; rfl

set_option maxRecDepth 1000000 in
set_option maxHeartbeats 1600000 in
theorem within_no (a b : ByteArray) (ha : a.size ≤ maxLen) (hb : b.size ≤ maxLen) (hm : mayN a.data.toList = false ∨ mayN b.data.toList = false) (w : World) :
    Calls Try.prog 17 #[.string a, .string b] w fun e w' => e = .returned (.bool false) ∧ Still w w' := by
  go_enter Try.func17, Try.ntmps17
  rcases hma : mayN a.data.toList with _ | _
  · go_wp2_with fail
    refine (may_any a ha w).mono ?_
    rintro e w' ⟨rfl, q, rfl⟩
    rw [hma]
    go_wp2_with fail
    go_ret
    exact ⟨rfl, Still.quiet _ _⟩
  · have hmb : mayN b.data.toList = false := by
      rcases hm with h | h
      · rw [hma] at h; cases h
      · exact h
    clear hm
    go_wp2_with fail
    refine (may_any a ha w).mono ?_
    rintro e w' ⟨rfl, q, rfl⟩
    rw [hma]
    have h1 := Still.quiet w q
    generalize w.drewN q = w1 at h1 ⊢
    go_wp2_with fail
    refine (may_any b hb _).mono ?_
    rintro e w' ⟨rfl, q, rfl⟩
    rw [hmb]
    have h2 := h1.still (Still.quiet w1 q)
    go_wp2_with fail
    go_ret
    exact ⟨rfl, h2⟩
theorem enc_size {L : List Lab} (h : okL L) : (mk (enc L)).size ≤ maxLen := by rw [mk_size, enc_len]; have := h.2; unfold maxLen; omega
theorem may_b {L : List Lab} (h : okL L) : mayN (mk (enc L)).data.toList = true := may_enc h
theorem okL.suf {D R : List Lab} (h : okL (D ++ R)) : okL R := ⟨fun y hy => h.1 y (List.mem_append_right _ hy), by have := h.2; rw [sz_app] at this; omega⟩

set_option maxRecDepth 1000000 in
set_option maxHeartbeats 1600000 in
theorem within_any (L Z : List Lab) (hL : okL L) (hZ : okL Z) (w : World) :
    Calls Try.prog 17 #[.string (mk (enc L)), .string (mk (enc Z))] w fun e w' => e = .returned (.bool (inN L Z)) ∧ Still w w' := by
  have hma := may_b hL
  have hmb := may_b hZ
  have hfa := foldS_enc hL
  have hfb := foldS_enc hZ
  have hsa := enc_size hL
  have hsb := enc_size hZ
  have H : Hid (inN L Z = decide (fold Z <:+ fold L)) := Lib.hid rfl
  have hF := hL.fold
  have hY := hZ.fold
  obtain ⟨ri, hri⟩ : ∃ r, r = inN L Z := ⟨_, rfl⟩
  rw [← hri] at H ⊢
  clear hri
  generalize mk (enc L) = a at *
  generalize mk (enc Z) = b at *
  generalize fold L = F at *
  generalize fold Z = Y at *
  go_enter Try.func17, Try.ntmps17
  go_wp2_with fail
  refine (may_any a hsa w).mono ?_
  rintro e w' ⟨rfl, q, rfl⟩
  rw [hma]
  have h1 := Still.quiet w q
  generalize w.drewN q = w1 at h1 ⊢
  go_wp2_with fail
  refine (may_any b hsb _).mono ?_
  rintro e w' ⟨rfl, q, rfl⟩
  rw [hmb]
  have h2 := h1.still (Still.quiet w1 q)
  generalize w1.drewN q = w2 at h2 ⊢
  go_wp2_with fail
  refine (fold_any a hsa _).mono ?_
  rintro e w3 ⟨rfl, h3⟩
  have h3 := h2.still h3
  rw [hfa]
  go_wp2_with fail
  refine (fold_any b hsb _).mono ?_
  rintro e w4 ⟨rfl, h4⟩
  have h4 := h3.still h4
  rw [hfb]
  go_wp2_with fail
  clear hma hmb hfa hfb h1 h2 h3
  have HF := Lib.hid hF
  have HY := Lib.hid hY
  clear hF hY
  go_loopw [0] (fun i0 wr => ∃ (D R : List Lab), Hid (F = D ++ R) ∧ i0 = .string (mk (enc R)) ∧ Hid (Y <:+ F → Y <:+ R) ∧ wr = w4) (fun i0 _ => strLen i0)
  case atStart => exact ⟨[], F, Lib.hid rfl, rfl, Lib.hid (fun h => h), rfl⟩
  case round =>
    obtain ⟨D, R, hDR, rfl, hsu, rfl⟩ := hrel
    have hR : okL R := by have h := HF.out; rw [hDR.out] at h; exact h.suf
    by_cases hgt : (mk (enc Y)).size < (mk (enc R)).size
    · cases R with
      | nil => rw [mk_size, mk_size, enc_len, enc_len] at hgt; simp [sz] at hgt
      | cons x r =>
          obtain ⟨h0, h1, h2, h3, h4', h5, h6⟩ := enc_parts x r hR
          have hsr : (mk (enc r)).size < (mk (enc (x :: r))).size := by rw [mk_size, mk_size, enc_len, enc_len]; simp only [sz]; omega
          have hnx : Hid (Y <:+ F → Y <:+ r) := Lib.hid (fun h => by
            rcases List.suffix_cons_iff.1 (hsu.out h) with e | e
            · rw [e] at hgt; omega
            · exact e)
          generalize mk (enc (x :: r)) = S at *
          have g1 : ((mk (enc Y)).size : Int) < (S.size : Int) := by omega
          clear h6 hsu hR h4'
          go_wp2_with fail
          refine ⟨⟨D ++ [x], r, Lib.hid (by rw [hDR.out]; simp), by rw [h5], hnx, by first | rfl | trivial⟩, ?_⟩
          first | (simpa [strLen] using hsr) | (simp [strLen]; omega)
    · have g1 : ¬ ((mk (enc Y)).size : Int) < ((mk (enc R)).size : Int) := by omega
      have hq : ((mk (enc R)).toList == (mk (enc Y)).toList) = decide (R = Y) := by
        rw [list_beq]
        by_cases e : R = Y
        · rw [e]; simp
        · rw [decide_eq_false e, decide_eq_false (fun h => e (enc_inj hR HY.out (mk_inj h)))]
      have hfin : decide (R = Y) = ri := by
        rw [H.out]
        by_cases e : R = Y
        · rw [decide_eq_true e]
          symm
          apply decide_eq_true
          rw [← e, hDR.out]
          exact List.suffix_append D R
        · rw [decide_eq_false e]
          symm
          apply decide_eq_false
          intro h
          obtain ⟨P, hP⟩ := hsu.out h
          have h1 := hgt
          rw [mk_size, mk_size, enc_len, enc_len, ← hP, sz_app] at h1
          cases P with
          | nil => exact e hP.symm
          | cons x P => simp only [sz] at h1; omega
      have Hfin := Lib.hid hfin
      clear hfin hsu hR
      go_wp2_with fail
      go_ret
      first | exact ⟨ret_bool (hq.trans Hfin.out), h4⟩ | exact ⟨ret_bool Hfin.out, h4⟩
end Go.Proofs.Ytinjfongndlpgaa
