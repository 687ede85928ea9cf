/-
  The reference of names: letter, Parse.
-/
import Derived.Test.YtjenabcjikdnaaaNameRef6
namespace Go.Proofs.Ytjenabcjikdnaaa
open Go.RowKit
set_option linter.unusedVariables false
set_option linter.unusedSimpArgs false

def letC (l : List UInt8) : Nat := match letP l with
  | none => 0
  | some (c, _) => c.toNat
def letN (l : List UInt8) : Nat := match letP l with
  | none => 0
  | some (_, n) => n
theorem let_none {l : List UInt8} (h : letP l = none) : letC l = 0 ∧ letN l = 0 := by unfold letC letN; rw [h]; exact ⟨rfl, rfl⟩
theorem let_some {l : List UInt8} {c : UInt8} {n : Nat} (h : letP l = some (c, n)) : letC l = c.toNat ∧ letN l = n := by unfold letC letN; rw [h]; exact ⟨rfl, rfl⟩
theorem drop_get {s : ByteArray} {a : Nat} (h : a < s.size) : s.data.toList.drop a = s[a] :: s.data.toList.drop (a + 1) := by
  have hl : a < s.data.toList.length := by rw [Array.length_toList]; exact h
  rw [List.drop_eq_getElem_cons hl, Array.getElem_toList]; rfl
theorem drop_end {s : ByteArray} {a : Nat} (h : s.size ≤ a) : s.data.toList.drop a = [] := List.drop_of_length_le (by rw [Array.length_toList]; exact h)

set_option maxRecDepth 1000000 in
set_option maxHeartbeats 6400000 in
theorem letter_any (s : ByteArray) (hs : s.size ≤ 3000) (k : Nat) (hk : k < s.size) (w : World) :
    Calls Try.prog 48 #[.string s, .int .i64 k] w fun e w' => e = .returned (.tuple #[.int .u8 (letC (s.data.toList.drop k)), .int .i64 (letN (s.data.toList.drop k))]) ∧ Still w w' := by
  have hd0 := drop_get hk
  have i0 : (k : Int) < (s.size : Int) := by omega
  have y1 : IntKind.i64.wrap ((k : Int) + 1) = ((k + 1 : Nat) : Int) := by rw [IntWalk.i64_in _ (by omega)]; push_cast; rfl
  have y2 : IntKind.i64.wrap ((k : Int) + 2) = ((k + 2 : Nat) : Int) := by rw [IntWalk.i64_in _ (by omega)]; push_cast; rfl
  have y3 : IntKind.i64.wrap ((k : Int) + 3) = ((k + 3 : Nat) : Int) := by rw [IntWalk.i64_in _ (by omega)]; push_cast; rfl
  obtain ⟨R, hR⟩ : ∃ R, R = s.data.toList.drop k := ⟨_, rfl⟩
  rw [← hR] at hd0 ⊢
  obtain ⟨x, hx⟩ : ∃ x, x = s[k] := ⟨_, rfl⟩
  have ex : s[k] = x := hx.symm
  rw [← hx] at hd0
  have hx8 : x.toNat < 256 := UInt8.toNat_lt _
  have HD0 := Lib.hid hd0
  clear hd0 hR hx
  have hnone : letP R = none → letC R = 0 ∧ letN R = 0 := let_none
  have hsome : ∀ c n, letP R = some (c, n) → letC R = c.toNat ∧ letN R = n := fun c n h => let_some h
  generalize hC : letC R = C at *
  generalize hN : letN R = N at *
  clear hC hN
  have HNo := Lib.hid hnone
  have HSo := Lib.hid hsome
  clear hnone hsome
  go_enter Try.func48, Try.ntmps48
  by_cases h1 : x.toNat < 33
  · have H := Lib.hid (HNo.out (by rw [HD0.out, letP_cons, if_pos (.inl h1)]))
    have i1 : (x.toNat : Int) < 33 := by omega
    go_wp2_with fail
    go_ret2
    exact ⟨by rw [H.out.1, H.out.2]; rfl, Only.refl _ _⟩
  have i1 : ¬ (x.toNat : Int) < 33 := by omega
  by_cases h2 : 126 < x.toNat
  · have H := Lib.hid (HNo.out (by rw [HD0.out, letP_cons, if_pos (.inr h2)]))
    have i2 : (126 : Int) < (x.toNat : Int) := by omega
    go_wp2_with fail
    go_ret2
    exact ⟨by rw [H.out.1, H.out.2]; rfl, Only.refl _ _⟩
  have i2 : ¬ (126 : Int) < (x.toNat : Int) := by omega
  have h12 : ¬ (x.toNat < 33 ∨ 126 < x.toNat) := by omega
  have H12 := Lib.hid h12
  clear h12
  by_cases h3 : ¬ x.toNat = 92
  · have H := Lib.hid (HSo.out x 1 (by rw [HD0.out, letP_cons, if_neg H12.out, if_pos h3]))
    have i3 : ((x.toNat : Int) == 92) = false := by rw [beq_eq_false_iff_ne]; omega
    clear h3
    go_wp2_with fail
    go_ret2
    exact ⟨by rw [H.out.1, H.out.2]; rfl, Only.refl _ _⟩
  have i3 : ((x.toNat : Int) == 92) = true := by rw [beq_iff_eq]; omega
  have H3 := Lib.hid h3
  clear h3
  by_cases z1 : s.size ≤ k + 1
  · have H := Lib.hid (HNo.out (by rw [HD0.out, drop_end z1, letP_cons, if_neg H12.out, if_neg H3.out]; rfl))
    have i4 : ¬ ((k + 1 : Nat) : Int) < (s.size : Int) := by omega
    have i5 : ¬ ((k + 3 : Nat) : Int) < (s.size : Int) := by omega
    have i4' : ¬ (k : Int) + 1 < (s.size : Int) := by omega
    have i5' : ¬ (k : Int) + 3 < (s.size : Int) := by omega
    go_wp2_with fail
    go_ret2
    exact ⟨by rw [H.out.1, H.out.2]; rfl, Only.refl _ _⟩
  have l1 : k + 1 < s.size := by omega
  have i4 : (k : Int) + 1 < (s.size : Int) := by omega
  have HD1 := Lib.hid (drop_get l1)
  obtain ⟨a, ha⟩ : ∃ a, a = s[k + 1] := ⟨_, rfl⟩
  have ea : s[k + 1] = a := ha.symm
  rw [← ha] at HD1
  have ha8 : a.toNat < 256 := UInt8.toNat_lt _
  have t1 : ((k : Int) + 1).toNat = k + 1 := by omega
  clear ha z1
  by_cases h4 : digB a = false ∧ 33 ≤ a.toNat ∧ a.toNat ≤ 126
  · have H := Lib.hid (HSo.out a 2 (by rw [HD0.out, HD1.out, letP_cons, if_neg H12.out, if_neg H3.out, letQ_cons, if_pos h4]))
    obtain ⟨d1, d2, d3⟩ := h4
    have j1 : (33 : Int) ≤ (a.toNat : Int) := by omega
    have j2 : (a.toNat : Int) ≤ 126 := by omega
    go_wp2_with fail
    refine (digit_any a _).mono ?_
    rintro e w_ ⟨rfl, rfl⟩
    rw [d1]
    go_wp2_with fail
    go_ret2
    exact ⟨by rw [H.out.1, H.out.2]; rfl, Only.refl _ _⟩
  have H4 := Lib.hid h4
  have hcase : digB a = true ∨ (digB a = false ∧ (a.toNat < 33 ∨ (33 ≤ a.toNat ∧ 126 < a.toNat))) := by
    cases hd : digB a with
    | true => exact .inl rfl
    | false =>
        refine .inr ⟨rfl, ?_⟩
        rw [hd] at h4
        simp at h4
        omega
  clear h4
  have hno : digB a = false → letP R = none := fun h => by
    rw [HD0.out, HD1.out, letP_cons, if_neg H12.out, if_neg H3.out, letQ_cons, if_neg H4.out]
    rcases s.data.toList.drop (k + 1 + 1) with _ | ⟨b, _ | ⟨d, t⟩⟩
    · rfl
    · rfl
    · rw [letR_cons, if_neg (fun q => by rw [h] at q; exact absurd q.1.1 (by simp))]
  have HNO := Lib.hid hno
  clear hno
  rcases hcase with d1 | ⟨d1, d2⟩
  · by_cases z3 : s.size ≤ k + 3
    · have H := Lib.hid (HNo.out (by
        rw [HD0.out, HD1.out, letP_cons, if_neg H12.out, if_neg H3.out, letQ_cons, if_neg H4.out]
        have hlen : (s.data.toList.drop (k + 1 + 1)).length ≤ 1 := by
          rw [List.length_drop, Array.length_toList]
          show s.size - (k + 1 + 1) ≤ 1
          omega
        rcases hdr : s.data.toList.drop (k + 1 + 1) with _ | ⟨b, _ | ⟨d, t⟩⟩
        · rfl
        · rfl
        · rw [hdr] at hlen; simp at hlen))
      have i5 : ¬ (k : Int) + 3 < (s.size : Int) := by omega
      go_wp2_with fail
      refine (digit_any a _).mono ?_
      rintro e w_ ⟨rfl, rfl⟩
      rw [d1]
      go_wp2_with fail
      go_ret2
      exact ⟨by rw [H.out.1, H.out.2]; rfl, Only.refl _ _⟩
    have i5 : (k : Int) + 3 < (s.size : Int) := by omega
    have l2 : k + 2 < s.size := by omega
    have l3 : k + 3 < s.size := by omega
    have i6 : (k : Int) + 2 < (s.size : Int) := by omega
    have t2 : ((k : Int) + 2).toNat = k + 2 := by omega
    have t3 : ((k : Int) + 3).toNat = k + 3 := by omega
    have HD2 := Lib.hid (drop_get l2)
    have HD3 := Lib.hid (drop_get l3)
    obtain ⟨b, hb⟩ : ∃ b, b = s[k + 2] := ⟨_, rfl⟩
    obtain ⟨d, hd⟩ : ∃ d, d = s[k + 3] := ⟨_, rfl⟩
    have eb : s[k + 2] = b := hb.symm
    have ed : s[k + 3] = d := hd.symm
    rw [← hb] at HD2
    rw [← hd] at HD3
    have hb8 : b.toNat < 256 := UInt8.toNat_lt _
    have hd8 : d.toNat < 256 := UInt8.toNat_lt _
    clear hb hd z3
    have hval : letP R = if (digB a = true ∧ digB b = true ∧ digB d = true) ∧ val3 a b d ≤ 255 then some (UInt8.ofNat (val3 a b d), 4) else none := by
      rw [HD0.out, HD1.out, show k + 1 + 1 = k + 2 from rfl, HD2.out, show k + 2 + 1 = k + 3 from rfl, HD3.out, letP_cons, if_neg H12.out, if_neg H3.out, letQ_cons, if_neg H4.out, letR_cons]
    have HV := Lib.hid hval
    clear hval
    rcases d2 : digB b with _ | _
    · have H := Lib.hid (HNo.out (by rw [HV.out, if_neg (fun q => by rw [d2] at q; exact absurd q.1.2.1 (by simp))]))
      go_wp2_with fail
      refine (digit_any a _).mono ?_
      rintro e w_ ⟨rfl, rfl⟩
      rw [d1]
      go_wp2_with fail
      refine (digit_any a _).mono ?_
      rintro e w_ ⟨rfl, rfl⟩
      rw [d1]
      go_wp2_with fail
      refine (digit_any b _).mono ?_
      rintro e w_ ⟨rfl, rfl⟩
      rw [d2]
      go_wp2_with fail
      go_ret2
      exact ⟨by rw [H.out.1, H.out.2]; rfl, Only.refl _ _⟩
    rcases d3 : digB d with _ | _
    · have H := Lib.hid (HNo.out (by rw [HV.out, if_neg (fun q => by rw [d3] at q; exact absurd q.1.2.2 (by simp))]))
      go_wp2_with fail
      refine (digit_any a _).mono ?_
      rintro e w_ ⟨rfl, rfl⟩
      rw [d1]
      go_wp2_with fail
      refine (digit_any a _).mono ?_
      rintro e w_ ⟨rfl, rfl⟩
      rw [d1]
      go_wp2_with fail
      refine (digit_any b _).mono ?_
      rintro e w_ ⟨rfl, rfl⟩
      rw [d2]
      go_wp2_with fail
      refine (digit_any d _).mono ?_
      rintro e w_ ⟨rfl, rfl⟩
      rw [d3]
      go_wp2_with fail
      go_ret2
      exact ⟨by rw [H.out.1, H.out.2]; rfl, Only.refl _ _⟩
    have q1 := (digB_iff a).1 d1
    have q2 := (digB_iff b).1 d2
    have q3 := (digB_iff d).1 d3
    have hdd : digB a = true ∧ digB b = true ∧ digB d = true := ⟨d1, d2, d3⟩
    obtain ⟨V, hV⟩ : ∃ V, V = val3 a b d := ⟨_, rfl⟩
    rw [← hV] at HV
    have hV' : V = 100 * (a.toNat - 48) + 10 * (b.toNat - 48) + (d.toNat - 48) := hV
    have u1 : IntKind.u8.wrap ((a.toNat : Int) - 48) = ((a.toNat - 48 : Nat) : Int) := by rw [IntWalk.u8_in _ (by omega)]; omega
    have u2 : IntKind.u8.wrap ((b.toNat : Int) - 48) = ((b.toNat - 48 : Nat) : Int) := by rw [IntWalk.u8_in _ (by omega)]; omega
    have u3 : IntKind.u8.wrap ((d.toNat : Int) - 48) = ((d.toNat - 48 : Nat) : Int) := by rw [IntWalk.u8_in _ (by omega)]; omega
    obtain ⟨pa, hpa⟩ : ∃ p : Nat, p = a.toNat - 48 := ⟨_, rfl⟩
    obtain ⟨pb, hpb⟩ : ∃ p : Nat, p = b.toNat - 48 := ⟨_, rfl⟩
    obtain ⟨pd, hpd⟩ : ∃ p : Nat, p = d.toNat - 48 := ⟨_, rfl⟩
    rw [← hpa] at u1 hV'
    rw [← hpb] at u2 hV'
    rw [← hpd] at u3 hV'
    have m1 : IntKind.i64.wrap (100 * (pa : Int)) = 100 * (pa : Int) := IntWalk.i64_in _ (by omega)
    have m2 : IntKind.i64.wrap (10 * (pb : Int)) = 10 * (pb : Int) := IntWalk.i64_in _ (by omega)
    have m3 : IntKind.i64.wrap (100 * (pa : Int) + 10 * (pb : Int)) = 100 * (pa : Int) + 10 * (pb : Int) := IntWalk.i64_in _ (by omega)
    have m4 : IntKind.i64.wrap (100 * (pa : Int) + 10 * (pb : Int) + (pd : Int)) = (V : Int) := by rw [IntWalk.i64_in _ (by omega)]; omega
    have m5 : IntKind.i64.wrap (pa : Int) = (pa : Int) := IntWalk.i64_in _ (by omega)
    have m6 : IntKind.i64.wrap (pb : Int) = (pb : Int) := IntWalk.i64_in _ (by omega)
    have m7 : IntKind.i64.wrap (pd : Int) = (pd : Int) := IntWalk.i64_in _ (by omega)
    have HDD := Lib.hid hdd
    clear hV hV' hpa hpb hpd hdd
    by_cases hv : V ≤ 255
    · have H := Lib.hid (HSo.out _ _ (by rw [HV.out, if_pos ⟨HDD.out, hv⟩]))
      have v1 : (V : Int) ≤ 255 := by omega
      have v2 : IntKind.u8.wrap (V : Int) = (V : Int) := IntWalk.u8_in _ (by omega)
      have HB : Hid (((UInt8.ofNat V).toNat : Int) = (V : Int)) := Lib.hid (by simp [UInt8.toNat_ofNat']; omega)
      go_wp2_with fail
      refine (digit_any a _).mono ?_
      rintro e w_ ⟨rfl, rfl⟩
      rw [d1]
      go_wp2_with fail
      refine (digit_any a _).mono ?_
      rintro e w_ ⟨rfl, rfl⟩
      rw [d1]
      go_wp2_with fail
      refine (digit_any b _).mono ?_
      rintro e w_ ⟨rfl, rfl⟩
      rw [d2]
      go_wp2_with fail
      refine (digit_any d _).mono ?_
      rintro e w_ ⟨rfl, rfl⟩
      rw [d3]
      go_wp2_with fail
      go_quiet (fail)
      go_wp2_with fail
      go_ret2
      exact ⟨by rw [H.out.1, H.out.2, HB.out]; rfl, Still.quiet _ _⟩
    · have H := Lib.hid (HNo.out (by rw [HV.out, if_neg (fun q => hv q.2)]))
      have v1 : ¬ (V : Int) ≤ 255 := by omega
      go_wp2_with fail
      refine (digit_any a _).mono ?_
      rintro e w_ ⟨rfl, rfl⟩
      rw [d1]
      go_wp2_with fail
      refine (digit_any a _).mono ?_
      rintro e w_ ⟨rfl, rfl⟩
      rw [d1]
      go_wp2_with fail
      refine (digit_any b _).mono ?_
      rintro e w_ ⟨rfl, rfl⟩
      rw [d2]
      go_wp2_with fail
      refine (digit_any d _).mono ?_
      rintro e w_ ⟨rfl, rfl⟩
      rw [d3]
      go_wp2_with fail
      go_quiet (fail)
      go_wp2_with fail
      go_ret2
      exact ⟨by rw [H.out.1, H.out.2]; rfl, Still.quiet _ _⟩
  · have H := Lib.hid (HNo.out (HNO.out d1))
    rcases d2 with d2 | ⟨d2, d3⟩
    · have j1 : ¬ (33 : Int) ≤ (a.toNat : Int) := by omega
      by_cases i5 : (k : Int) + 3 < (s.size : Int)
      · go_wp2_with fail
        refine (digit_any a _).mono ?_
        rintro e w_ ⟨rfl, rfl⟩
        rw [d1]
        go_wp2_with fail
        refine (digit_any a _).mono ?_
        rintro e w_ ⟨rfl, rfl⟩
        rw [d1]
        go_wp2_with fail
        go_ret2
        exact ⟨by rw [H.out.1, H.out.2]; rfl, Only.refl _ _⟩
      · go_wp2_with fail
        refine (digit_any a _).mono ?_
        rintro e w_ ⟨rfl, rfl⟩
        rw [d1]
        go_wp2_with fail
        go_ret2
        exact ⟨by rw [H.out.1, H.out.2]; rfl, Only.refl _ _⟩
    · have j1 : (33 : Int) ≤ (a.toNat : Int) := by omega
      have j2 : ¬ (a.toNat : Int) ≤ 126 := by omega
      by_cases i5 : (k : Int) + 3 < (s.size : Int)
      · go_wp2_with fail
        refine (digit_any a _).mono ?_
        rintro e w_ ⟨rfl, rfl⟩
        rw [d1]
        go_wp2_with fail
        refine (digit_any a _).mono ?_
        rintro e w_ ⟨rfl, rfl⟩
        rw [d1]
        go_wp2_with fail
        go_ret2
        exact ⟨by rw [H.out.1, H.out.2]; rfl, Only.refl _ _⟩
      · go_wp2_with fail
        refine (digit_any a _).mono ?_
        rintro e w_ ⟨rfl, rfl⟩
        rw [d1]
        go_wp2_with fail
        go_ret2
        exact ⟨by rw [H.out.1, H.out.2]; rfl, Only.refl _ _⟩
end Go.Proofs.Ytjenabcjikdnaaa
