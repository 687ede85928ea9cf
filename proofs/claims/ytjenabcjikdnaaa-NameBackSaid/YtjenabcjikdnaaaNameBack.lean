/-
  NameBack.
-/
import Derived.Test.YtjenabcjikdnaaaNameBackM
namespace Go.Proofs.Ytjenabcjikdnaaa
open Go.RowKit
set_option linter.unusedVariables false
set_option linter.unusedSimpArgs false

theorem beq_refl_list (s : ByteArray) : (s.toList == s.toList) = true := beq_self_eq_true _
set_option maxRecDepth 1000000 in
set_option maxHeartbeats 6400000 in
/-- The second half: any text. -/
theorem back_walk (w : World) (n : ByteArray) (hn : n.size ≤ maxLen) (s : ByteArray) (hs : s.size ≤ maxLen) :
    Calls Try.prog 7 #[.string n, .string s] w fun e w' => e = .returned (.bool true) ∧ Still w w' := by
  clear hn hs
  have hS : Still w w := Only.refl _ _
  go_enter Try.func7, Try.ntmps7
  by_cases zn : 1000 < n.size
  · have i_n : (1000 : Int) < (n.size : Int) := by omega
    go_wp2_with (first | (go_at_call 12; refine (name_awake _).mono ?_; rintro e w' ⟨rfl, hst⟩; have hS := hS.still hst; clear hst) | (go_at_call 13; refine (may_s _ (by assumption) _).mono ?_; rintro e w' ⟨rfl, hst⟩; have hS := hS.still hst; clear hst) | (go_at_call 21; refine (same_s _ _ (by assumption) (by assumption) _).mono ?_; rintro e w' ⟨rfl, hst⟩; have hS := hS.still hst; clear hst) | (go_at_call 22; refine (compare_s _ _ (by assumption) (by assumption) _).mono ?_; rintro e w' ⟨rfl, hst⟩; have hS := hS.still hst; clear hst) | (go_at_call 30; refine (within_s _ _ (by assumption) (by assumption) _).mono ?_; rintro e w' ⟨rfl, hst⟩; have hS := hS.still hst; clear hst) | (go_at_call 23; refine (fold_s _ (by assumption) _).mono ?_; rintro e w' ⟨rfl, hst⟩; have hS := hS.still hst; clear hst))
    go_ret
    exact ⟨rfl, hS⟩
  have i_n : ¬ (1000 : Int) < (n.size : Int) := by omega
  by_cases zs : 3000 < s.size
  · have i_s : (3000 : Int) < (s.size : Int) := by omega
    go_wp2_with (first | (go_at_call 12; refine (name_awake _).mono ?_; rintro e w' ⟨rfl, hst⟩; have hS := hS.still hst; clear hst) | (go_at_call 13; refine (may_s _ (by assumption) _).mono ?_; rintro e w' ⟨rfl, hst⟩; have hS := hS.still hst; clear hst) | (go_at_call 21; refine (same_s _ _ (by assumption) (by assumption) _).mono ?_; rintro e w' ⟨rfl, hst⟩; have hS := hS.still hst; clear hst) | (go_at_call 22; refine (compare_s _ _ (by assumption) (by assumption) _).mono ?_; rintro e w' ⟨rfl, hst⟩; have hS := hS.still hst; clear hst) | (go_at_call 30; refine (within_s _ _ (by assumption) (by assumption) _).mono ?_; rintro e w' ⟨rfl, hst⟩; have hS := hS.still hst; clear hst) | (go_at_call 23; refine (fold_s _ (by assumption) _).mono ?_; rintro e w' ⟨rfl, hst⟩; have hS := hS.still hst; clear hst))
    go_ret
    exact ⟨rfl, hS⟩
  have i_s : ¬ (3000 : Int) < (s.size : Int) := by omega
  have sn : n.size ≤ 3000 := by omega
  have hpar := parse_any s (by omega)
  have hp2 := parse_two s.data.toList
  obtain ⟨PB, hPB⟩ : ∃ x, x = parseB s.data.toList := ⟨_, rfl⟩
  obtain ⟨PE, hPE⟩ : ∃ x, x = parseE s.data.toList := ⟨_, rfl⟩
  rw [← hPB, ← hPE] at hpar hp2
  have HPAR := Lib.hid hpar
  clear hpar hPB hPE zn zs
  rcases mn : mayN n.data.toList with _ | _
  · have HP2 := Lib.hid hp2
    clear hp2
    go_wp2_with (first | (go_at_call 12; refine (name_awake _).mono ?_; rintro e w' ⟨rfl, hst⟩; have hS := hS.still hst; clear hst) | (go_at_call 13; refine (may_s _ (by assumption) _).mono ?_; rintro e w' ⟨rfl, hst⟩; have hS := hS.still hst; clear hst) | (go_at_call 21; refine (same_s _ _ (by assumption) (by assumption) _).mono ?_; rintro e w' ⟨rfl, hst⟩; have hS := hS.still hst; clear hst) | (go_at_call 22; refine (compare_s _ _ (by assumption) (by assumption) _).mono ?_; rintro e w' ⟨rfl, hst⟩; have hS := hS.still hst; clear hst) | (go_at_call 30; refine (within_s _ _ (by assumption) (by assumption) _).mono ?_; rintro e w' ⟨rfl, hst⟩; have hS := hS.still hst; clear hst) | (go_at_call 23; refine (fold_s _ (by assumption) _).mono ?_; rintro e w' ⟨rfl, hst⟩; have hS := hS.still hst; clear hst))
    refine (HPAR.out _).mono ?_
    rintro e wa ⟨rfl, ha⟩
    have hS := hS.still ha
    clear ha HPAR
    rcases HP2.out with ⟨rfl, M, hM, rfl⟩ | ⟨hne, rfl⟩
    · have hT := text_any M hM
      have hPT := parse_any (mk (textL M)) (by rw [mk_size]; have := text_size hM; omega)
      rw [mk_list, (parse_text hM).1, (parse_text hM).2] at hPT
      have mm := may_b hM
      have sm : (mk (enc M)).size ≤ 3000 := by rw [mk_size, enc_len]; have := hM.2; omega
      obtain ⟨p, hp⟩ := text_last M
      have hsz : (mk (textL M)).size = p.length + 1 := by rw [mk_size, hp]; simp
      have hlast : ∀ h, ((mk (textL M))[p.length]'h) = 46 := by
        intro h
        rw [mk_get]
        simp [hp]
      have hbm := beq_refl_list (mk (enc M))
      have hbt := beq_refl_list (mk (textL M))
      have hpl : p.length ≤ 1020 := by have := text_size hM; rw [hp] at this; simp at this; omega
      have HT := Lib.hid hT
      have HPT := Lib.hid hPT
      clear HP2 hp hT hPT hM
      generalize mk (enc M) = m at *
      generalize mk (textL M) = t at *
      have hl2 : t[p.length]'(by omega) = 46 := hlast _
      have y1 : IntKind.i64.wrap ((p.length : Int) + 1 - 1) = (p.length : Int) := by rw [IntWalk.i64_in _ (by omega)]; omega
      have y2 : IntKind.i64.wrap (p.length : Int) = (p.length : Int) := by rw [IntWalk.i64_in _ (by omega)]
      clear hlast
      go_wp2_with fail
      refine (HT.out _).mono ?_
      rintro e wb ⟨rfl, hb⟩
      have hS := hS.still hb
      clear hb
      go_wp2_with fail
      refine (HPT.out _).mono ?_
      rintro e wc ⟨rfl, hc⟩
      have hS := hS.still hc
      clear hc HPT
      go_wp2_with fail
      refine (may_s _ sm _).mono ?_
      rintro e wd ⟨rfl, hd⟩
      have hS := hS.still hd
      clear hd
      go_wp2_with fail
      refine (HT.out _).mono ?_
      rintro e we ⟨rfl, he⟩
      have hS := hS.still he
      clear he HT
      go_wp2_with fail
      go_ret
      exact ⟨rfl, hS⟩
    · have hne' : (PE == 0) = false := by rw [beq_eq_false_iff_ne]; exact hne
      have hbe : ((mk []).toList == []) = true := eq_list []
      clear HP2
      go_wp2_with fail
      go_ret
      exact ⟨rfl, hS⟩
  · have HP2 := Lib.hid hp2
    clear hp2
    obtain ⟨L, hL, rfl⟩ := may_mk mn
    have hT := text_any L hL
    have hPT := parse_any (mk (textL L)) (by rw [mk_size]; have := text_size hL; omega)
    rw [mk_list, (parse_text hL).1, (parse_text hL).2] at hPT
    have hLa := labels_any L hL
    have hLl := hL.len
    have hJ := fun A c w hr => join_any A L.length c L rfl (by omega) w hr
    rw [(join_ok hL).1, (join_ok hL).2] at hJ
    have HT := Lib.hid hT
    have HPT := Lib.hid hPT
    have HLa := Lib.hid hLa
    have HJ := Lib.hid hJ
    clear hT hPT hLa hJ hL
    have hbq := beq_refl_list (mk (enc L))
    generalize mk (enc L) = n at *
    generalize mk (textL L) = t at *
    go_wp2_with (first | (go_at_call 12; refine (name_awake _).mono ?_; rintro e w' ⟨rfl, hst⟩; have hS := hS.still hst; clear hst) | (go_at_call 13; refine (may_s _ (by assumption) _).mono ?_; rintro e w' ⟨rfl, hst⟩; have hS := hS.still hst; clear hst) | (go_at_call 21; refine (same_s _ _ (by assumption) (by assumption) _).mono ?_; rintro e w' ⟨rfl, hst⟩; have hS := hS.still hst; clear hst) | (go_at_call 22; refine (compare_s _ _ (by assumption) (by assumption) _).mono ?_; rintro e w' ⟨rfl, hst⟩; have hS := hS.still hst; clear hst) | (go_at_call 30; refine (within_s _ _ (by assumption) (by assumption) _).mono ?_; rintro e w' ⟨rfl, hst⟩; have hS := hS.still hst; clear hst) | (go_at_call 23; refine (fold_s _ (by assumption) _).mono ?_; rintro e w' ⟨rfl, hst⟩; have hS := hS.still hst; clear hst))
    refine (HT.out _).mono ?_
    rintro e w2 ⟨rfl, h2⟩
    have hS := hS.still h2
    clear h2
    go_wp2_with fail
    refine (HPT.out _).mono ?_
    rintro e w3 ⟨rfl, h3⟩
    have hS := hS.still h3
    clear h3
    go_wp2_with fail
    refine (HLa.out _).mono ?_
    rintro e w4 ⟨A, c, rfl, hown, h4⟩
    have hS := hS.still h4
    have hrd := Reads.of_own hown
    clear h4 hown
    go_wp2_with fail
    refine (HJ.out A c w4 hrd).mono ?_
    rintro e w5 ⟨rfl, h5⟩
    have hS := hS.still h5
    clear h5 hrd HT HPT HLa HJ
    go_wp2_with fail
    refine (HPAR.out _).mono ?_
    rintro e wa ⟨rfl, ha⟩
    have hS := hS.still ha
    clear ha HPAR
    rcases HP2.out with ⟨rfl, M, hM, rfl⟩ | ⟨hne, rfl⟩
    · have hT := text_any M hM
      have hPT := parse_any (mk (textL M)) (by rw [mk_size]; have := text_size hM; omega)
      rw [mk_list, (parse_text hM).1, (parse_text hM).2] at hPT
      have mm := may_b hM
      have sm : (mk (enc M)).size ≤ 3000 := by rw [mk_size, enc_len]; have := hM.2; omega
      obtain ⟨p, hp⟩ := text_last M
      have hsz : (mk (textL M)).size = p.length + 1 := by rw [mk_size, hp]; simp
      have hlast : ∀ h, ((mk (textL M))[p.length]'h) = 46 := by
        intro h
        rw [mk_get]
        simp [hp]
      have hbm := beq_refl_list (mk (enc M))
      have hbt := beq_refl_list (mk (textL M))
      have hpl : p.length ≤ 1020 := by have := text_size hM; rw [hp] at this; simp at this; omega
      have HT := Lib.hid hT
      have HPT := Lib.hid hPT
      clear HP2 hp hT hPT hM
      generalize mk (enc M) = m at *
      generalize mk (textL M) = t at *
      have hl2 : t[p.length]'(by omega) = 46 := hlast _
      have y1 : IntKind.i64.wrap ((p.length : Int) + 1 - 1) = (p.length : Int) := by rw [IntWalk.i64_in _ (by omega)]; omega
      have y2 : IntKind.i64.wrap (p.length : Int) = (p.length : Int) := by rw [IntWalk.i64_in _ (by omega)]
      clear hlast
      go_wp2_with fail
      refine (HT.out _).mono ?_
      rintro e wb ⟨rfl, hb⟩
      have hS := hS.still hb
      clear hb
      go_wp2_with fail
      refine (HPT.out _).mono ?_
      rintro e wc ⟨rfl, hc⟩
      have hS := hS.still hc
      clear hc HPT
      go_wp2_with fail
      refine (may_s _ sm _).mono ?_
      rintro e wd ⟨rfl, hd⟩
      have hS := hS.still hd
      clear hd
      go_wp2_with fail
      refine (HT.out _).mono ?_
      rintro e we ⟨rfl, he⟩
      have hS := hS.still he
      clear he HT
      go_wp2_with fail
      go_ret
      exact ⟨rfl, hS⟩
    · have hne' : (PE == 0) = false := by rw [beq_eq_false_iff_ne]; exact hne
      have hbe : ((mk []).toList == []) = true := eq_list []
      clear HP2
      go_wp2_with fail
      go_ret
      exact ⟨rfl, hS⟩
end Go.Proofs.Ytjenabcjikdnaaa
