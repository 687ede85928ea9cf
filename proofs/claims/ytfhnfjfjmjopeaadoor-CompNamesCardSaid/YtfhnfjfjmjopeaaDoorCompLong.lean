/-
  Package comp: the longest ending that the table has; endings that are made known.
-/
import Derived.Test.YtfhnfjfjmjopeaaDoorCompTab
namespace Go.Proofs.YtfhnfjfjmjopeaaDoor
open Go.RowKit
open Go.Maps (Keyed)
set_option linter.unusedVariables false
set_option linter.unusedSimpArgs false

set_option maxRecDepth 1000000 in
set_option maxHeartbeats 3200000 in
theorem longest_any {w : World} {t : Nat} {mb : Option Nat} {K : Kn} (hT : CTB w t mb K) (L : List Lab) (hL : okL L) (s : ByteArray) (hs : s = mk (enc L)) :
    Calls Tryd.prog 20 #[.pointer (some ⟨t, 0, none⟩), .string s] w fun e w' => e = .returned (.tuple #[.int .i64 ((lg K 0 L).1 : Nat), .int .i64 ((lg K 0 L).2.1 : Nat), .bool (lg K 0 L).2.2]) ∧ Still w w' := by
  have hsz : s.size ≤ 255 := by rw [hs, mk_size, enc_len]; have := hL.2; omega
  have hsm : s.size ≤ maxLen := by unfold maxLen; omega
  obtain ⟨R, hR⟩ : ∃ R, R = lg K 0 L := ⟨_, rfl⟩
  rw [← hR]
  have HR := Lib.hid hR
  clear hR
  obtain ⟨k, o, i⟩ := R
  go_enter Tryd.func20, Tryd.ntmps20
  go_wp2_with fail
  go_loopw [7] (fun i7 wr => ∃ (P Q : List Lab) (a : Nat), Hid (L = P ++ Q ∧ (k, o, i) = lg K a Q) ∧ i7 = .int .i64 a ∧ Hid (a = sz P) ∧ Still w wr) (fun i7 _ => s.size - (intOf i7).toNat)
  case atStart => exact ⟨[], L, 0, Lib.hid ⟨rfl, HR.out⟩, rfl, Lib.hid rfl, Only.refl _ _⟩
  case round =>
    obtain ⟨P, Q, a, hPQ, rfl, ha, hst⟩ := hrel
    obtain ⟨hLP, hlg⟩ := hPQ.out
    cases Q with
    | nil =>
      rw [List.append_nil] at hLP
      obtain ⟨h0, h1, h2⟩ := at_end P (hLP ▸ hL) s (by rw [hs, hLP]) a ha.out
      rw [lg] at hlg
      have h3 : (s.size : Int) = (a : Int) + 1 := by omega
      injection hlg with e1 e2
      injection e2 with e2 e3
      subst e1 e2 e3
      have HS := Lib.hid h2
      clear h2 h3 hLP hs
      go_wp2_with fail
      go_ret3
      exact ⟨by rw [HS.out]; rfl, hst⟩
    | cons x r =>
      obtain ⟨h0, h1, h2, h3⟩ := at_parts P x r (hLP ▸ hL) s (by rw [hs, hLP]) a ha.out
      have hx : okLab x := by
        have h := hL.1
        rw [hLP] at h
        exact h x (List.mem_append_right _ List.mem_cons_self)
      have hx1 := hx.1
      have hx2 := hx.2
      have hxs : (mk (enc (x :: r))).size ≤ maxLen := by rw [← h3, ByteArray.size_extract]; omega
      obtain ⟨E, hE⟩ : ∃ E, E = mk (enc (x :: r)) := ⟨_, rfl⟩
      rw [← hE] at h3 hxs
      have hEe : E.data.toList = enc (x :: r) := by rw [hE, mk_list]
      have lesz : a ≤ s.size := by omega
      have d0 : ((s[a]'h0).toNat : Int) = (x.length : Int) := by rw [h1]
      have d1 : ¬ (x.length : Int) = 0 := by omega
      have d2 : decide ((x.length : Int) = 0) = false := decide_eq_false d1
      rw [lg] at hlg
      have HLP := Lib.hid hLP
      have Hk : Hid (lookK K (enc (x :: r)) = lookK K (enc (x :: r))) := Lib.hid rfl
      clear hLP hs hE
      rcases hlk : lookK K (enc (x :: r)) with _ | o1
      · rw [hlk] at hlg
        have hg := Lib.hid hlg
        clear hlg Hk
        go_wp2_with fail
        have hs_wz : Still wr wr.drew := (Only.refl _ _).drew
        obtain ⟨wz, hwz⟩ : ∃ wz, wz = wr.drew := ⟨_, rfl⟩
        refine wp_region_held_drew (S := fun w' => Still wr.drew w') (by kernel_rfl) (Only.refl _ _) (fun hS => ?_)
        rw [← hwz] at hs_wz hS ⊢
        clear hwz
        have hTz := (hT.still hst).still hs_wz
        have hSz := hst.still hs_wz
        have c0 := hTz.blk.cell 0
        simp at c0
        clear hs_wz
        (refine take_p (i := 0) (v := ?_) rfl (by kernel_rfl) (by kernel_rfl) (by kernel_rfl) (fun _ _ _ h => h) (Or.inl ⟨by rfl, ?_⟩) hS ?_; rotate_left; (focus (intro w0_ hSw; go_simp; try with_reducible rfl)); try simp only [Act.put, List.setIfInBounds_toArray, List.set_cons_zero, List.set_cons_succ])
        (refine take_p (i := 1) (v := ?_) rfl (by kernel_rfl) (by kernel_rfl) (by kernel_rfl) (fun _ _ _ h => h) (Or.inl ⟨by rfl, ?_⟩) hS ?_; rotate_left; (focus (intro w0_ hSw; go_simp; try with_reducible rfl)); try simp only [Act.put, List.setIfInBounds_toArray, List.set_cons_zero, List.set_cons_succ])
        (refine take_p (i := 2) (v := ?_) rfl (by kernel_rfl) (by kernel_rfl) (by kernel_rfl) (fun _ _ _ h => h) (Or.inl ⟨by rfl, ?_⟩) hS ?_; rotate_left; (focus (intro w0_ hSw; go_simp; try with_reducible rfl)); try simp only [Act.put, List.setIfInBounds_toArray, List.set_cons_zero, List.set_cons_succ])
        (refine take_p (i := 3) (v := ?_) rfl (by kernel_rfl) (by kernel_rfl) (by kernel_rfl) (fun _ _ _ h => h) (Or.inl ⟨by rfl, ?_⟩) hS ?_; rotate_left; (focus (intro w0_ hSw; have z0_ := hSw.cell_some (fun h => h) c0; go_simp; try with_reducible rfl)); try simp only [Act.put, List.setIfInBounds_toArray, List.set_cons_zero, List.set_cons_succ])
        (refine take_p (i := 4) (v := ?_) rfl (by kernel_rfl) (by kernel_rfl) (by kernel_rfl) (fun _ _ _ h => h) (Or.inl ⟨by rfl, ?_⟩) hS ?_; rotate_left; (focus (intro w0_ hSw; go_simp; try with_reducible rfl)); try simp only [Act.put, List.setIfInBounds_toArray, List.set_cons_zero, List.set_cons_succ])
        (refine take_p (i := 5) (v := ?_) rfl (by kernel_rfl) (by kernel_rfl) (by kernel_rfl) (fun _ _ _ h => h) (Or.inl ⟨by rfl, ?_⟩) hS ?_; rotate_left; (focus (intro w0_ hSw; go_simp; try with_reducible rfl)); try simp only [Act.put, List.setIfInBounds_toArray, List.set_cons_zero, List.set_cons_succ])
        (refine take_p (i := 6) (v := ?_) rfl (by kernel_rfl) (by kernel_rfl) (by kernel_rfl) (fun _ _ _ h => h) (Or.inl ⟨by rfl, ?_⟩) hS ?_; rotate_left; (focus (intro w0_ hSw; go_simp; try with_reducible rfl)); try simp only [Act.put, List.setIfInBounds_toArray, List.set_cons_zero, List.set_cons_succ])
        (refine take_p (i := 7) (v := ?_) rfl (by kernel_rfl) (by kernel_rfl) (by kernel_rfl) (fun _ _ _ h => h) (Or.inl ⟨by rfl, ?_⟩) hS ?_; rotate_left; (focus (intro w0_ hSw; have lk_ := (hTz.still hSw).look hxs; rw [hEe, hlk] at lk_; go_simp; try with_reducible rfl)); try simp only [Act.put, List.setIfInBounds_toArray, List.set_cons_zero, List.set_cons_succ])
        (refine take_p (i := 8) (v := ?_) rfl (by kernel_rfl) (by kernel_rfl) (by kernel_rfl) (fun _ _ _ h => h) (Or.inl ⟨by rfl, ?_⟩) hS ?_; rotate_left; (focus (intro w0_ hSw; go_simp; try with_reducible rfl)); try simp only [Act.put, List.setIfInBounds_toArray, List.set_cons_zero, List.set_cons_succ])
        (refine take_p (i := 9) (v := ?_) rfl (by kernel_rfl) (by kernel_rfl) (by kernel_rfl) (fun _ _ _ h => h) (Or.inl ⟨by rfl, ?_⟩) hS ?_; rotate_left; (focus (intro w0_ hSw; go_simp; try with_reducible rfl)); try simp only [Act.put, List.setIfInBounds_toArray, List.set_cons_zero, List.set_cons_succ])
        (refine take_p (i := 10) (v := ?_) rfl (by kernel_rfl) (by kernel_rfl) (by kernel_rfl) (fun _ _ _ h => h) (Or.inl ⟨by rfl, ?_⟩) hS ?_; rotate_left; (focus (intro w0_ hSw; go_simp; try with_reducible rfl)); try simp only [Act.put, List.setIfInBounds_toArray, List.set_cons_zero, List.set_cons_succ])
        (refine take_p (i := 11) (v := ?_) rfl (by kernel_rfl) (by kernel_rfl) (by kernel_rfl) (fun _ _ _ h => h) (Or.inl ⟨by rfl, ?_⟩) hS ?_; rotate_left; (focus (intro w0_ hSw; go_simp; try with_reducible rfl)); try simp only [Act.put, List.setIfInBounds_toArray, List.set_cons_zero, List.set_cons_succ])
        (refine take_p (i := 12) (v := ?_) rfl (by kernel_rfl) (by kernel_rfl) (by kernel_rfl) (fun _ _ _ h => h) (Or.inl ⟨by rfl, ?_⟩) hS ?_; rotate_left; (focus (intro w0_ hSw; go_simp; try with_reducible rfl)); try simp only [Act.put, List.setIfInBounds_toArray, List.set_cons_zero, List.set_cons_succ])
        refine wpAnyH_done (by kernel_rfl) ?_ _
        go_wp2_with fail
        go_roundw
        case rel => exact ⟨P ++ [x], r, a + 1 + x.length, Lib.hid ⟨by rw [HLP.out]; simp, hg.out⟩, by go_num, Lib.hid (by rw [sz_app, ← ha.out]; simp only [sz]; omega), hSz.still hS⟩
        case measure => simp [intOf]; omega
      · rw [hlk] at hlg
        injection hlg with e1 e2
        injection e2 with e2 e3
        subst e1 e2 e3
        clear Hk
        go_wp2_with fail
        have hs_wz : Still wr wr.drew := (Only.refl _ _).drew
        obtain ⟨wz, hwz⟩ : ∃ wz, wz = wr.drew := ⟨_, rfl⟩
        refine wp_region_held_drew (S := fun w' => Still wr.drew w') (by kernel_rfl) (Only.refl _ _) (fun hS => ?_)
        rw [← hwz] at hs_wz hS ⊢
        clear hwz
        have hTz := (hT.still hst).still hs_wz
        have hSz := hst.still hs_wz
        have c0 := hTz.blk.cell 0
        simp at c0
        clear hs_wz
        (refine take_p (i := 0) (v := ?_) rfl (by kernel_rfl) (by kernel_rfl) (by kernel_rfl) (fun _ _ _ h => h) (Or.inl ⟨by rfl, ?_⟩) hS ?_; rotate_left; (focus (intro w0_ hSw; go_simp; try with_reducible rfl)); try simp only [Act.put, List.setIfInBounds_toArray, List.set_cons_zero, List.set_cons_succ])
        (refine take_p (i := 1) (v := ?_) rfl (by kernel_rfl) (by kernel_rfl) (by kernel_rfl) (fun _ _ _ h => h) (Or.inl ⟨by rfl, ?_⟩) hS ?_; rotate_left; (focus (intro w0_ hSw; go_simp; try with_reducible rfl)); try simp only [Act.put, List.setIfInBounds_toArray, List.set_cons_zero, List.set_cons_succ])
        (refine take_p (i := 2) (v := ?_) rfl (by kernel_rfl) (by kernel_rfl) (by kernel_rfl) (fun _ _ _ h => h) (Or.inl ⟨by rfl, ?_⟩) hS ?_; rotate_left; (focus (intro w0_ hSw; go_simp; try with_reducible rfl)); try simp only [Act.put, List.setIfInBounds_toArray, List.set_cons_zero, List.set_cons_succ])
        (refine take_p (i := 3) (v := ?_) rfl (by kernel_rfl) (by kernel_rfl) (by kernel_rfl) (fun _ _ _ h => h) (Or.inl ⟨by rfl, ?_⟩) hS ?_; rotate_left; (focus (intro w0_ hSw; have z0_ := hSw.cell_some (fun h => h) c0; go_simp; try with_reducible rfl)); try simp only [Act.put, List.setIfInBounds_toArray, List.set_cons_zero, List.set_cons_succ])
        (refine take_p (i := 4) (v := ?_) rfl (by kernel_rfl) (by kernel_rfl) (by kernel_rfl) (fun _ _ _ h => h) (Or.inl ⟨by rfl, ?_⟩) hS ?_; rotate_left; (focus (intro w0_ hSw; go_simp; try with_reducible rfl)); try simp only [Act.put, List.setIfInBounds_toArray, List.set_cons_zero, List.set_cons_succ])
        (refine take_p (i := 5) (v := ?_) rfl (by kernel_rfl) (by kernel_rfl) (by kernel_rfl) (fun _ _ _ h => h) (Or.inl ⟨by rfl, ?_⟩) hS ?_; rotate_left; (focus (intro w0_ hSw; go_simp; try with_reducible rfl)); try simp only [Act.put, List.setIfInBounds_toArray, List.set_cons_zero, List.set_cons_succ])
        (refine take_p (i := 6) (v := ?_) rfl (by kernel_rfl) (by kernel_rfl) (by kernel_rfl) (fun _ _ _ h => h) (Or.inl ⟨by rfl, ?_⟩) hS ?_; rotate_left; (focus (intro w0_ hSw; go_simp; try with_reducible rfl)); try simp only [Act.put, List.setIfInBounds_toArray, List.set_cons_zero, List.set_cons_succ])
        (refine take_p (i := 7) (v := ?_) rfl (by kernel_rfl) (by kernel_rfl) (by kernel_rfl) (fun _ _ _ h => h) (Or.inl ⟨by rfl, ?_⟩) hS ?_; rotate_left; (focus (intro w0_ hSw; have lk_ := (hTz.still hSw).look hxs; rw [hEe, hlk] at lk_; go_simp; try with_reducible rfl)); try simp only [Act.put, List.setIfInBounds_toArray, List.set_cons_zero, List.set_cons_succ])
        (refine take_p (i := 8) (v := ?_) rfl (by kernel_rfl) (by kernel_rfl) (by kernel_rfl) (fun _ _ _ h => h) (Or.inl ⟨by rfl, ?_⟩) hS ?_; rotate_left; (focus (intro w0_ hSw; go_simp; try with_reducible rfl)); try simp only [Act.put, List.setIfInBounds_toArray, List.set_cons_zero, List.set_cons_succ])
        (refine take_p (i := 9) (v := ?_) rfl (by kernel_rfl) (by kernel_rfl) (by kernel_rfl) (fun _ _ _ h => h) (Or.inl ⟨by rfl, ?_⟩) hS ?_; rotate_left; (focus (intro w0_ hSw; go_simp; try with_reducible rfl)); try simp only [Act.put, List.setIfInBounds_toArray, List.set_cons_zero, List.set_cons_succ])
        (refine take_p (i := 10) (v := ?_) rfl (by kernel_rfl) (by kernel_rfl) (by kernel_rfl) (fun _ _ _ h => h) (Or.inl ⟨by rfl, ?_⟩) hS ?_; rotate_left; (focus (intro w0_ hSw; go_simp; try with_reducible rfl)); try simp only [Act.put, List.setIfInBounds_toArray, List.set_cons_zero, List.set_cons_succ])
        (refine take_p (i := 11) (v := ?_) rfl (by kernel_rfl) (by kernel_rfl) (by kernel_rfl) (fun _ _ _ h => h) (Or.inl ⟨by rfl, ?_⟩) hS ?_; rotate_left; (focus (intro w0_ hSw; go_simp; try with_reducible rfl)); try simp only [Act.put, List.setIfInBounds_toArray, List.set_cons_zero, List.set_cons_succ])
        (refine take_p (i := 12) (v := ?_) rfl (by kernel_rfl) (by kernel_rfl) (by kernel_rfl) (fun _ _ _ h => h) (Or.inl ⟨by rfl, ?_⟩) hS ?_; rotate_left; (focus (intro w0_ hSw; go_simp; try with_reducible rfl)); try simp only [Act.put, List.setIfInBounds_toArray, List.set_cons_zero, List.set_cons_succ])
        refine wpAnyH_done (by kernel_rfl) ?_ _
        go_wp2_with fail
        go_ret3
        exact ⟨rfl, hSz.still hS⟩
end Go.Proofs.YtfhnfjfjmjopeaaDoor
