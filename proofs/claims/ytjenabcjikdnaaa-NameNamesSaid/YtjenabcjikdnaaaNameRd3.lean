/-
  Package name: the reader takes a rune; the reader ends.
-/
import Derived.Test.YtjenabcjikdnaaaNameRd2
namespace Go.Proofs.Ytjenabcjikdnaaa
open Go.RowKit
set_option linter.unusedVariables false
set_option linter.unusedSimpArgs false

/-- What the labels are when a text ends. -/
def fin (s : St) : Option (List Lab) := if s.sl = true then none else if (if s.lab.length = 0 then s.ls else s.ls ++ [s.lab]).length = 0 then none else some (if s.lab.length = 0 then s.ls else s.ls ++ [s.lab])

set_option maxRecDepth 1000000 in
set_option maxHeartbeats 3200000 in
theorem take_any (b base : Nat) (s : St) (r : Nat) (hr : r ≤ 1114111) (hl : s.lab.length ≤ 1000000) (hls : s.ls.length ≤ 1000000) (w : World) (h : Rdr w b base s) :
    Calls Try.prog 37 #[.pointer (some ⟨b, 0, none⟩), .int .i32 (r : Int)] w fun e w' => (Hid (step s r = none) ∧ e = .returned (.bool false) ∧ Only (Fr b base) w w') ∨ (∃ t, Hid (step s r = some t) ∧ e = .returned (.bool true) ∧ Rdr w' b base t ∧ Only (Fr b base) w w') := by
  obtain ⟨i0, hi, hz0, hz1, hz2⟩ := info_parts info_u8
  have H := Lib.hid h
  obtain ⟨hlt, hle, hok, v1, v2, hB, ho1, ho2⟩ := h
  have Hok := Lib.hid hok
  clear hok
  obtain ⟨c0, c1, c2, c3, c4⟩ := blk5 hB
  obtain ⟨f0, f1, f2, f3, f4⟩ := frz5 hB
  obtain ⟨A, cA, hv⟩ := own_shape ho1
  subst hv
  obtain ⟨B, cB, hv⟩ := own_shape ho2
  subst hv
  go_enter Try.func37, Try.ntmps37
  by_cases h1 : r < 33
  · have i1 : (r : Int) < 33 := by omega
    have Hst : Hid (step s r = none) := Lib.hid (by unfold step; rw [if_pos (.inl h1)])
    clear hB ho1 ho2
    go_wp2_with fail
    go_ret
    first | exact .inl ⟨Hst, rfl, Only.refl _ _⟩ | exact .inl ⟨rfl, Only.refl _ _⟩
  have i1 : ¬ (r : Int) < 33 := by omega
  by_cases h2 : 126 < r
  · have i2 : (126 : Int) < (r : Int) := by omega
    have Hst : Hid (step s r = none) := Lib.hid (by unfold step; rw [if_pos (.inr h2)])
    clear hB ho1 ho2
    go_wp2_with fail
    go_ret
    first | exact .inl ⟨Hst, rfl, Only.refl _ _⟩ | exact .inl ⟨rfl, Only.refl _ _⟩
  have i2 : ¬ (126 : Int) < (r : Int) := by omega
  have hE : step s r = if s.sl = true then stepE s r else if r = 92 then some ⟨s.ls, s.lab, true, s.d, s.code⟩ else if r = 46 then (if s.lab.length = 0 then none else some ⟨s.ls ++ [s.lab], [], s.sl, s.d, s.code⟩) else some ⟨s.ls, s.lab ++ [UInt8.ofNat r], s.sl, s.d, s.code⟩ := by
    rw [step, if_neg (by omega)]
  have HE := Lib.hid hE
  clear hE
  rcases hsl : s.sl with _ | _
  · have h0 : ¬ s.sl = true := by rw [hsl]; simp
    have HS0 := Lib.hid h0
    clear h0
    by_cases h3 : r = 92
    · have i3 : ((r : Int) == 92) = true := by rw [beq_iff_eq]; omega
      have hst : step s r = some ⟨s.ls, s.lab, true, s.d, s.code⟩ := by rw [HE.out, if_neg HS0.out, if_pos h3]
      have hok' := step_ok Hok.out hst
      have Hst := Lib.hid hst
      have hBf := hB.set_ 2 (.bool true)
      simp at hBf
      have hos : Only (· = b) w (w.setCell ⟨b, 2, none⟩ (.bool true)) := (Only.refl (· = b) w).setCell (p := ⟨b, 2, none⟩) (.inl rfl) _
      have oaf := own_only ho1 hos (fun k hk e => by
        have e' : k = b := e
        subst e'
        exact own_blk_ne ho1 hB (by decide) hk)
      have obf := own_only ho2 hos (fun k hk e => by
        have e' : k = b := e
        subst e'
        exact own_blk_ne ho2 hB (by decide) hk)
      have hR : Rdr (w.setCell ⟨b, 2, none⟩ (.bool true)) b base ⟨s.ls, s.lab, true, s.d, s.code⟩ := ⟨hlt, Nat.le_trans hle hos.size, hok', _, _, hBf, oaf, obf⟩
      have HR := Lib.hid hR
      have hoF : Only (Fr b base) w (w.setCell ⟨b, 2, none⟩ (.bool true)) := hos.mono (fun _ _ e => .inl e)
      clear hB hBf ho1 ho2 oaf obf hos hR hst hok' h3
      go_wp2_with fail
      go_ret
      first | exact .inr ⟨_, Hst, rfl, HR.out, hoF⟩ | exact .inr ⟨_, rfl, HR.out, hoF⟩
    · have i3 : ((r : Int) == 92) = false := by rw [beq_eq_false_iff_ne]; omega
      by_cases h4 : r = 46
      · have i4 : ((r : Int) == 46) = true := by rw [beq_iff_eq]; omega
        by_cases h5 : s.lab.length = 0
        · have Hst : Hid (step s r = none) := Lib.hid (by rw [HE.out, if_neg HS0.out, if_neg h3, if_pos h4, if_pos h5])
          have HL5 := Lib.hid h5
          clear hB ho1 ho2 h3 h4 h5
          go_wp2_with fail
          refine (endLabel_no b base s HL5.out w H.out).mono ?_
          rintro e w2 ⟨rfl, rfl⟩
          go_wp2_with fail
          go_ret
          first | exact .inl ⟨Hst, rfl, Only.refl _ _⟩ | exact .inl ⟨rfl, Only.refl _ _⟩
        · have Hst : Hid (step s r = some ⟨s.ls ++ [s.lab], [], s.sl, s.d, s.code⟩) := Lib.hid (by rw [HE.out, if_neg HS0.out, if_neg h3, if_pos h4, if_neg h5])
          have HL5 := Lib.hid h5
          clear hB ho1 ho2 h3 h4 h5
          go_wp2_with fail
          refine (endLabel_any b base s (by have := HL5.out; omega) hls w H.out).mono ?_
          rintro e w2 ⟨rfl, hR, hF⟩
          have HR := Lib.hid hR
          clear hR
          go_wp2_with fail
          go_ret
          first | exact .inr ⟨_, Hst, rfl, HR.out, hF⟩ | exact .inr ⟨_, rfl, HR.out, hF⟩
      · have i4 : ((r : Int) == 46) = false := by rw [beq_eq_false_iff_ne]; omega
        have hst : step s r = some ⟨s.ls, s.lab ++ [UInt8.ofNat r], s.sl, s.d, s.code⟩ := by rw [HE.out, if_neg HS0.out, if_neg h3, if_neg h4]
        have hok' := step_ok Hok.out hst
        have Hst := Lib.hid hst
        have Hok' := Lib.hid hok'
        have yC : IntKind.u8.wrap (r : Int) = (r : Int) := IntWalk.u8_in _ (by omega)
        have HRb : Hid (((UInt8.ofNat r).toNat : Int) = (r : Int)) := Lib.hid (by simp [UInt8.toNat_ofNat']; omega)
        clear hst hok' h3 h4
        have hrd := Reads.of_own (World.ownsRow_lit (e := 5) (size := 1) (base := 0) w #[.int .u8 (r : Int)] 1 (Nat.zero_le _) (by unfold maxLen; omega) rfl)
        have hs3 := Still.new w (.cells #[.int .u8 (r : Int)] 5)
        have hB3 := hB.only hs3 (fun h => h)
        have oa3 := own_only ho1 hs3 (fun _ _ h => h)
        have ob3 := own_only ho2 hs3 (fun _ _ h => h)
        have hz3 : (w.alloc (.cells #[.int .u8 (r : Int)] 5)).heap.size = w.heap.size + 1 := by simp
        go_wp2_with (at_builtin; refine wpList_append_any _ rfl (.tmp 9) (.tmp 12) 42 rfl base 5 i0 (.int .u8 0) 1 1 Try.underlying42 hi hz0 hz1 hz2 rfl (by decide) _ _ _ rfl ob3 _ (some _) 1 1 [.int .u8 (r : Int)] rfl hrd (by first | rfl | (intro u hu; simp at hu; subst hu; rfl)) (by unfold maxLen; omega) (by omega) (by omega) ?_)
        intro v' wg hown' hgrow hblk
        obtain ⟨A', c', hv⟩ := own_shape hown'
        subst hv
        have hog : Only (fun k => base ≤ k) (w.alloc (.cells #[.int .u8 (r : Int)] 5)) wg := (Only.refl _ _).grown hgrow (fun k hk => .inl (ob3.lt k hk).1)
        have hBg := hB3.only hog (by omega)
        have oag := own_only oa3 (show Only (fun k => (Value.slice B s.lab.length cB).ownBlock = some k ∨ (w.alloc (.cells #[.int .u8 (r : Int)] 5)).heap.size ≤ k) (w.alloc (.cells #[.int .u8 (r : Int)] 5)) wg from (Only.refl _ _).grown hgrow (fun k hk => .inl (.inl hk))) (fun k hk e => by
          rcases e with e | e
          · exact own_own_ne oa3 ob3 (by decide) k hk e
          · have := (oa3.lt k hk).2
            omega)
        have hBf := (hBg.set_ 1 (.slice A' (s.lab.length + 1) c'))
        simp at hBf
        have hos : Only (· = b) wg (wg.setCell ⟨b, 1, none⟩ (.slice A' (s.lab.length + 1) c')) := ((Only.refl (· = b) wg).setCell (p := ⟨b, 1, none⟩) (.inl rfl) (.slice A' (s.lab.length + 1) c'))
        have oaf := own_only oag hos (fun k hk e => by
          have e' : k = b := e
          subst e'
          exact own_blk_ne oag hBg (by decide) hk)
        have obf := own_only hown' hos (fun k hk e => by
          have e' : k = b := e
          subst e'
          exact own_blk_ne hown' hBg (by decide) hk)
        have hFf := (((Only.refl (Fr b base) w).still hs3).trans hog (fun i _ h => .inr h)).trans hos (fun i _ h => .inl h)
        have hrow : bv s.lab ++ [Value.int .u8 (r : Int)] = bv (s.lab ++ [UInt8.ofNat r]) := by
          rw [bv_append, ← HRb.out]
          rfl
        rw [hrow] at obf
        have hR : Rdr (wg.setCell ⟨b, 1, none⟩ (.slice A' (s.lab.length + 1) c')) b base ⟨s.ls, s.lab ++ [UInt8.ofNat r], s.sl, s.d, s.code⟩ := ⟨hlt, Nat.le_trans hle hFf.size, Hok'.out, _, _, hBf, oaf, (by simpa using obf)⟩
        have HR := Lib.hid hR
        clear c0 c1 c2 c3 c4 f0 f1 f2 f3 f4
        obtain ⟨c0, c1, c2, c3, c4⟩ := blk5 hBg
        obtain ⟨f0, f1, f2, f3, f4⟩ := frz5 hBg
        clear hB hB3 hBg hBf ho1 ho2 oa3 ob3 oag oaf obf hown' hgrow hblk hog hos hrow hR hrd hs3 hz3
        go_wp2_with fail
        go_ret
        first | exact .inr ⟨_, Hst, rfl, HR.out, hFf⟩ | exact .inr ⟨_, rfl, HR.out, hFf⟩
  · have hst : step s r = stepE s r := by rw [HE.out, if_pos hsl]
    have Hst := Lib.hid hst
    have HSL := Lib.hid hsl
    clear hB ho1 ho2 hst
    go_wp2_with fail
    refine (takeE_any b base s r HSL.out ⟨by omega, by omega⟩ hl w H.out).mono ?_
    rintro e w2 (⟨h5, rfl, hF⟩ | ⟨t, h5, rfl, hR, hF⟩)
    · have Hst' : Hid (step s r = none) := Lib.hid (Hst.out.trans h5.out)
      clear h5
      go_wp2_with fail
      go_ret
      first | exact .inl ⟨Hst', rfl, hF⟩ | exact .inl ⟨rfl, hF⟩
    · have Hst' : Hid (step s r = some t) := Lib.hid (Hst.out.trans h5.out)
      have HR := Lib.hid hR
      clear hR h5
      go_wp2_with fail
      go_ret
      first | exact .inr ⟨_, Hst', rfl, HR.out, hF⟩ | exact .inr ⟨_, rfl, HR.out, hF⟩

set_option maxRecDepth 1000000 in
set_option maxHeartbeats 3200000 in
theorem end_any (b base : Nat) (s : St) (hls : s.ls.length ≤ 1000000) (w : World) (h : Rdr w b base s) :
    Calls Try.prog 38 #[.pointer (some ⟨b, 0, none⟩)] w fun e w' => (Hid (fin s = none) ∧ e = .returned (.bool false) ∧ Only (Fr b base) w w') ∨ (∃ L, Hid (fin s = some L) ∧ e = .returned (.bool true) ∧ Rdr w' b base ⟨L, [], false, s.d, s.code⟩ ∧ Only (Fr b base) w w') := by
  have H := Lib.hid h
  obtain ⟨hlt, hle, hok, v1, v2, hB, ho1, ho2⟩ := h
  obtain ⟨c0, c1, c2, c3, c4⟩ := blk5 hB
  obtain ⟨A, cA, hv⟩ := own_shape ho1
  subst hv
  obtain ⟨B, cB, hv⟩ := own_shape ho2
  subst hv
  clear hok hB ho1 ho2
  go_enter Try.func38, Try.ntmps38
  rcases hsl : s.sl with _ | _
  · have h0 : ¬ s.sl = true := by rw [hsl]; simp
    have HS0 := Lib.hid h0
    have HSL := Lib.hid hsl
    clear h0
    by_cases h5 : s.lab.length = 0
    · have i5 : ¬ (0 : Int) < (s.lab.length : Int) := by omega
      have hlab : s.lab = [] := List.eq_nil_of_length_eq_zero h5
      by_cases h6 : s.ls.length = 0
      · have i6 : ¬ (0 : Int) < (s.ls.length : Int) := by omega
        have k6 : decide (0 < s.ls.length) = false := decide_eq_false (by omega)
        have Hst : Hid (fin s = none) := Lib.hid (by unfold fin; rw [if_neg HS0.out, if_pos h5, if_pos h6])
        clear h5 h6 hlab
        go_wp2_with fail
        go_ret
        first | exact .inl ⟨Hst, rfl, Only.refl _ _⟩ | exact .inl ⟨rfl, Only.refl _ _⟩
      · have i6 : (0 : Int) < (s.ls.length : Int) := by omega
        have k6 : decide (0 < s.ls.length) = true := decide_eq_true (by omega)
        have Hst : Hid (fin s = some s.ls) := Lib.hid (by unfold fin; rw [if_neg HS0.out, if_pos h5, if_neg h6])
        have hR : Rdr w b base ⟨s.ls, [], false, s.d, s.code⟩ := by
          have := H.out
          obtain ⟨ls, lab, sl, d, code⟩ := s
          simp at hlab
          have e : sl = false := HSL.out
          subst hlab; subst e
          exact this
        have HR := Lib.hid hR
        clear h5 h6 hlab hR
        go_wp2_with fail
        go_ret
        first | exact .inr ⟨_, Hst, rfl, HR.out, Only.refl _ _⟩ | exact .inr ⟨_, rfl, HR.out, Only.refl _ _⟩
    · have i5 : (0 : Int) < (s.lab.length : Int) := by omega
      have Hst : Hid (fin s = some (s.ls ++ [s.lab])) := Lib.hid (by unfold fin; rw [if_neg HS0.out, if_neg h5, if_neg (by simp)])
      have hp : 0 < s.lab.length := by omega
      go_wp2_with fail
      refine (endLabel_any b base s hp hls w H.out).mono ?_
      rintro e w2 ⟨rfl, hR, hF⟩
      have hR2 : Rdr w2 b base ⟨s.ls ++ [s.lab], [], false, s.d, s.code⟩ := by rw [← HSL.out]; exact hR
      have HR := Lib.hid hR2
      obtain ⟨_, _, _, u1, u2, hB, hoL, _⟩ := hR
      obtain ⟨c0', _⟩ := blk5 hB
      obtain ⟨A', cA', hv⟩ := own_shape hoL
      subst hv
      have i6 : (0 : Int) < ((s.ls ++ [s.lab]).length : Int) := by simp only [List.length_append, List.length_cons, List.length_nil]; omega
      clear hR2 hB hoL c0 c1 c2 c3 c4
      go_wp2_with fail
      go_ret
      first | exact .inr ⟨_, Hst, rfl, HR.out, hF⟩ | exact .inr ⟨_, rfl, HR.out, hF⟩
  · have Hst : Hid (fin s = none) := Lib.hid (by unfold fin; rw [if_pos hsl])
    go_wp2_with fail
    go_ret
    first | exact .inl ⟨Hst, rfl, Only.refl _ _⟩ | exact .inl ⟨rfl, Only.refl _ _⟩
end Go.Proofs.Ytjenabcjikdnaaa
