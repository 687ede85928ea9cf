/-
  The reference's book: Agree, Silent.
-/
import Derived.Test.YtdcogjlcbdkdcaaDoorRefBook
namespace Go.Proofs.YtdcogjlcbdkdcaaDoor
open Go.RowKit
set_option linter.unusedVariables false
set_option linter.unusedSimpArgs false

section
variable {w w' : World} {x b n c : Nat} {lim rst : Int} {us : List Up}
theorem mn_eq {a : Int} (h0 : 0 ≤ a) : (if a + 1 < (65535 : Int) then a + 1 else (65535 : Int)) = mn a := by unfold mn; split <;> split <;> omega
theorem cl_up {s : Int} (h0 : 0 ≤ s) : (if s + 1 < (100 : Int) then s + 1 else (100 : Int)) = cl (s + 1) := by unfold cl; repeat' split <;> omega
theorem cl_down {s k : Int} (h0 : s ≤ 100) (hk : 0 ≤ k) : (if k < s then s - k else (0 : Int)) = cl (s + -k) := by unfold cl; repeat' split <;> omega
set_option maxRecDepth 1000000 in
set_option maxHeartbeats 6400000 in
theorem ragree_in (h : RBk w x b n c lim rst us) (ho : BOK n lim rst) (i : Nat) {u : Up} (hu : us[i]? = some u) (huo : UOK u) :
    Calls Tryd.prog 32 #[.pointer (some ⟨x, 0, none⟩), .int .i64 i] w fun e w' => e = .returned (.int .i64 0) ∧ RBk w' x b n c lim rst (us.set i (agreeUp lim u)) ∧ Only (· = b) w w' := by
  have hi : i < n := by rw [← h.len]; exact (List.getElem?_eq_some_iff.1 hu).1
  have hi' : (i : Int) < (n : Int) := by omega
  have a0 := huo.a0
  have a1 := huo.a1
  have s0 := huo.s0
  have s1 := huo.s1
  have d0 := huo.d0
  have d1 := huo.d1
  have i0 := huo.i0
  have i1 := huo.i1
  have l1 := ho.l1
  have l2 := ho.l2
  have n9 := ho.n9
  go_enter Tryd.func32, Tryd.ntmps32
  go_wp2_with fail
  refine (ris_in h i hi).mono ?_
  rintro e w0 ⟨rfl, rfl⟩
  go_wp2_with fail
  obtain ⟨c0, c1, c2⟩ := h.head
  obtain ⟨k0, k1, k2, k3, k4, k5, k6⟩ := h.seven hu
  have fz := h.own.frozenAt (i * 7 + 1)
  have hm := mn_eq a0
  have y1 : IntKind.i64.wrap (u.ag + 1) = u.ag + 1 := IntWalk.i64_in _ (by omega)
  go_still_tail 17, (by kernel_rfl)
  change wpList _ _ _ _ _ w.drew
  have hk1 : RBk ((w.setCell ⟨b, i * 7 + 1, none⟩ (.int .i64 (mn u.ag))).drew) x b n c lim rst (us.set i ({ u with ag := mn u.ag })) := by
    have := (h.set_ (u' := { u with ag := mn u.ag }) (v := .int .i64 (mn u.ag)) hu 1 (by omega) rfl).drew
    exact this
  have ho1 : Only (· = b) w ((w.setCell ⟨b, i * 7 + 1, none⟩ (.int .i64 (mn u.ag))).drew) := ((Only.refl (· = b) w).setCell (p := ⟨b, i * 7 + 1, none⟩) (.inl rfl) _).drew
  have hu1 := get_set hu ({ u with ag := mn u.ag })
  go_wp2_with fail
  generalize (w.setCell ⟨b, i * 7 + 1, none⟩ (.int .i64 (mn u.ag))).drew = w1 at *
  clear k0 k1 k2 k3 k4 k5 k6 c0 c1 c2 fz
  clear hm y1
  obtain ⟨c0, c1, c2⟩ := hk1.head
  obtain ⟨k0, k1, k2, k3, k4, k5, k6⟩ := hk1.seven hu1
  have fz := hk1.own.frozenAt (i * 7)
  have hm := cl_up s0
  have y2 : IntKind.i64.wrap (u.score + 1) = u.score + 1 := IntWalk.i64_in _ (by omega)
  go_still_tail 17, (by kernel_rfl)
  change wpList _ _ _ _ _ w1.drew
  have hk2 : RBk ((w1.setCell ⟨b, i * 7, none⟩ (.int .i64 (cl (u.score + 1)))).drew) x b n c lim rst (us.set i ({ { u with ag := mn u.ag } with score := cl (u.score + 1) })) := by
    have := (hk1.set_ (u' := { { u with ag := mn u.ag } with score := cl (u.score + 1) }) (v := .int .i64 (cl (u.score + 1))) hu1 0 (by omega) rfl).drew
    rwa [set_set] at this
  have ho2 : Only (· = b) w ((w1.setCell ⟨b, i * 7, none⟩ (.int .i64 (cl (u.score + 1)))).drew) := (ho1.setCell (p := ⟨b, i * 7, none⟩) (.inl rfl) _).drew
  have hu2 := get_set hu ({ { u with ag := mn u.ag } with score := cl (u.score + 1) })
  go_wp2_with fail
  generalize (w1.setCell ⟨b, i * 7, none⟩ (.int .i64 (cl (u.score + 1)))).drew = w2 at *
  clear k0 k1 k2 k3 k4 k5 k6 c0 c1 c2 fz
  clear hm y2 hk1 hu1 ho1
  refine (look_any hk2 ho i hu2).mono ?_
  rintro e w3 ⟨rfl, hk3, ho3⟩
  rw [set_set] at hk3
  go_wp2_with fail
  go_ret
  exact ⟨rfl, hk3, ho2.trans ho3 (fun _ _ h => h)⟩
set_option maxRecDepth 1000000 in
set_option maxHeartbeats 6400000 in
theorem rsilent_in (h : RBk w x b n c lim rst us) (ho : BOK n lim rst) (i : Nat) {u : Up} (hu : us[i]? = some u) (huo : UOK u) (htr : u.trial = true → u.score < top lim) :
    Calls Tryd.prog 35 #[.pointer (some ⟨x, 0, none⟩), .int .i64 i] w fun e w' => e = .returned (.int .i64 0) ∧ RBk w' x b n c lim rst (us.set i (silentUp lim u)) ∧ Only (· = b) w w' := by
  have hsame : silentUp lim u = { { u with si := mn u.si } with score := cl (u.score + -2) } := by
    unfold silentUp
    refine endTrial_same (fun ht => ?_)
    have h1 := htr ht
    have h0 := huo.s0
    show cl (u.score + -2) < top lim
    have h2 : 0 < top lim := by have := ho.l1; unfold top; split <;> omega
    unfold cl
    repeat' split <;> omega
  have Hs := Lib.hid hsame
  clear hsame htr
  have hi : i < n := by rw [← h.len]; exact (List.getElem?_eq_some_iff.1 hu).1
  have hi' : (i : Int) < (n : Int) := by omega
  have a0 := huo.a0
  have a1 := huo.a1
  have s0 := huo.s0
  have s1 := huo.s1
  have d0 := huo.d0
  have d1 := huo.d1
  have i0 := huo.i0
  have i1 := huo.i1
  have l1 := ho.l1
  have l2 := ho.l2
  have n9 := ho.n9
  go_enter Tryd.func35, Tryd.ntmps35
  go_wp2_with fail
  refine (ris_in h i hi).mono ?_
  rintro e w0 ⟨rfl, rfl⟩
  go_wp2_with fail
  obtain ⟨c0, c1, c2⟩ := h.head
  obtain ⟨k0, k1, k2, k3, k4, k5, k6⟩ := h.seven hu
  have fz := h.own.frozenAt (i * 7 + 3)
  have hm := mn_eq i0
  have y1 : IntKind.i64.wrap (u.si + 1) = u.si + 1 := IntWalk.i64_in _ (by omega)
  go_still_tail 17, (by kernel_rfl)
  change wpList _ _ _ _ _ w.drew
  have hk1 : RBk ((w.setCell ⟨b, i * 7 + 3, none⟩ (.int .i64 (mn u.si))).drew) x b n c lim rst (us.set i ({ u with si := mn u.si })) := by
    have := (h.set_ (u' := { u with si := mn u.si }) (v := .int .i64 (mn u.si)) hu 3 (by omega) rfl).drew
    exact this
  have ho1 : Only (· = b) w ((w.setCell ⟨b, i * 7 + 3, none⟩ (.int .i64 (mn u.si))).drew) := ((Only.refl (· = b) w).setCell (p := ⟨b, i * 7 + 3, none⟩) (.inl rfl) _).drew
  have hu1 := get_set hu ({ u with si := mn u.si })
  go_wp2_with fail
  generalize (w.setCell ⟨b, i * 7 + 3, none⟩ (.int .i64 (mn u.si))).drew = w1 at *
  clear k0 k1 k2 k3 k4 k5 k6 c0 c1 c2 fz
  clear hm y1
  obtain ⟨c0, c1, c2⟩ := hk1.head
  obtain ⟨k0, k1, k2, k3, k4, k5, k6⟩ := hk1.seven hu1
  have fz := hk1.own.frozenAt (i * 7)
  have hm := cl_down (k := 2) s1 (by omega)
  have y2 : IntKind.i64.wrap (u.score - 2) = u.score - 2 := IntWalk.i64_in _ (by omega)
  go_still_tail 17, (by kernel_rfl)
  change wpList _ _ _ _ _ w1.drew
  have hk2 : RBk ((w1.setCell ⟨b, i * 7, none⟩ (.int .i64 (cl (u.score + -2)))).drew) x b n c lim rst (us.set i ({ { u with si := mn u.si } with score := cl (u.score + -2) })) := by
    have := (hk1.set_ (u' := { { u with si := mn u.si } with score := cl (u.score + -2) }) (v := .int .i64 (cl (u.score + -2))) hu1 0 (by omega) rfl).drew
    rwa [set_set] at this
  have ho2 : Only (· = b) w ((w1.setCell ⟨b, i * 7, none⟩ (.int .i64 (cl (u.score + -2)))).drew) := (ho1.setCell (p := ⟨b, i * 7, none⟩) (.inl rfl) _).drew
  have hu2 := get_set hu ({ { u with si := mn u.si } with score := cl (u.score + -2) })
  go_wp2_with fail
  generalize (w1.setCell ⟨b, i * 7, none⟩ (.int .i64 (cl (u.score + -2)))).drew = w2 at *
  clear k0 k1 k2 k3 k4 k5 k6 c0 c1 c2 fz
  clear hm y2 hk1 hu1 ho1
  go_ret
  rw [Hs.out]
  exact ⟨rfl, hk2, ho2⟩
set_option maxRecDepth 100000 in
theorem ragree_out (h : RBk w x b n c lim rst us) (i : Int) (hi : ¬ (0 ≤ i ∧ i < n)) :
    Calls Tryd.prog 32 #[.pointer (some ⟨x, 0, none⟩), .int .i64 i] w fun e w' => e = .returned (.int .i64 1) ∧ w = w' := by
  go_enter Tryd.func32, Tryd.ntmps32
  go_wp2_with fail
  refine (ris_out h i hi).mono ?_
  rintro e w0 ⟨rfl, rfl⟩
  go_wp2_with fail
  go_ret
  exact ⟨rfl, rfl⟩
set_option maxRecDepth 100000 in
theorem rsilent_out (h : RBk w x b n c lim rst us) (i : Int) (hi : ¬ (0 ≤ i ∧ i < n)) :
    Calls Tryd.prog 35 #[.pointer (some ⟨x, 0, none⟩), .int .i64 i] w fun e w' => e = .returned (.int .i64 1) ∧ w = w' := by
  go_enter Tryd.func35, Tryd.ntmps35
  go_wp2_with fail
  refine (ris_out h i hi).mono ?_
  rintro e w0 ⟨rfl, rfl⟩
  go_wp2_with fail
  go_ret
  exact ⟨rfl, rfl⟩
end
end Go.Proofs.YtdcogjlcbdkdcaaDoor
