/-
  Package comp: endings that are made known.
-/
import Derived.Test.YtfhnfjfjmjopeaaDoorCompLong
namespace Go.Proofs.YtfhnfjfjmjopeaaDoor
open Go.RowKit
open Go.Maps (Keyed)
set_option linter.unusedVariables false
set_option linter.unusedSimpArgs false

set_option maxRecDepth 1000000 in
set_option maxHeartbeats 6400000 in
theorem add_any {w : World} {t : Nat} {mb : Option Nat} {K : Kn} (hT : CTB w t mb K) (L : List Lab) (hL : okL L) (s : ByteArray) (hs : s = mk (enc L)) (keep off : Nat) (hkeep : keep ≤ 1000000) (hoff : off ≤ 10000000) (hK : K.length ≤ 1000000) :
    Calls Tryd.prog 21 #[.pointer (some ⟨t, 0, none⟩), .string s, .int .i64 keep, .int .i64 off] w fun e w' => e = .returned (.tuple #[]) ∧
      ∃ mb', CTB w' t mb' (ad keep off K 0 L) ∧ Only (fun i => i = t ∨ mb = some i) w w' ∧ (mb' = mb ∨ (mb = none ∧ ∃ b, mb' = some b ∧ w.heap.size ≤ b)) := by
  have hsz : s.size ≤ 255 := by rw [hs, mk_size, enc_len]; have := hL.2; omega
  have hL127 := hL.len
  obtain ⟨R, hR⟩ : ∃ R, R = ad keep off K 0 L := ⟨_, rfl⟩
  rw [← hR]
  have HR := Lib.hid hR
  clear hR
  go_enter Tryd.func21, Tryd.ntmps21
  go_wp2_with fail
  go_loopw [8] (fun i8 wr => ∃ (P Q : List Lab) (a : Nat) (mb' : Option Nat) (Kx : Kn), Hid (L = P ++ Q ∧ R = ad keep off Kx a Q) ∧ i8 = .int .i64 a ∧ Hid (a = sz P) ∧ CTB wr t mb' Kx ∧ Only (fun i => i = t ∨ mb = some i) w wr ∧ Hid (mb' = mb ∨ (mb = none ∧ ∃ b, mb' = some b ∧ w.heap.size ≤ b)) ∧ Hid (Kx.length + Q.length ≤ K.length + L.length)) (fun i8 _ => s.size - (intOf i8).toNat)
  case atStart => exact ⟨[], L, 0, mb, K, Lib.hid ⟨rfl, HR.out⟩, rfl, Lib.hid rfl, hT, Only.refl _ _, Lib.hid (.inl rfl), Lib.hid (Nat.le_refl _)⟩
  case round =>
    clear hT
    obtain ⟨P, Q, a, mbx, Kx, hPQ, rfl, ha, hT, hst, hmb, hlen⟩ := hrel
    obtain ⟨hLP, hlg⟩ := hPQ.out
    have hlen' := hlen.out
    have hap : a ≤ s.size := by
      rw [ha.out, hs, mk_size, enc_len, hLP, sz_app]; omega
    cases Q with
    | nil =>
      rw [List.append_nil] at hLP
      obtain ⟨h0, h1, h2⟩ := at_end P (hLP ▸ hL) s (by rw [hs, hLP]) a ha.out
      rw [ad] at hlg
      subst hlg
      have d0 : ((s[a]'h0).toNat : Int) = 0 := by rw [h1]; rfl
      clear h2 hLP hs hlen' hap
      by_cases hak : a < keep
      · go_wp2_with fail
        go_end0
        exact ⟨rfl, mbx, hT, hst, hmb.out⟩
      · go_wp2_with fail
        go_end0
        exact ⟨rfl, mbx, hT, hst, hmb.out⟩
    | cons x r =>
      rw [ad] at hlg
      by_cases hak : a < keep
      · rw [if_pos hak] at hlg
        obtain ⟨h0, h1, h2, h3⟩ := at_parts P x r (hLP ▸ hL) s (by rw [hs, hLP]) a ha.out
        have hx : okLab x := by
          have h := hL.1
          rw [hLP] at h
          exact h x (List.mem_append_right _ List.mem_cons_self)
        have hx1 := hx.1
        have hx2 := hx.2
        have hxs : (mk (enc (x :: r))).size ≤ maxLen := by rw [← h3, ByteArray.size_extract]; unfold maxLen; omega
        obtain ⟨E, hE⟩ : ∃ E, E = mk (enc (x :: r)) := ⟨_, rfl⟩
        rw [← hE] at h3 hxs
        have hEe : E.data.toList = enc (x :: r) := by rw [hE, mk_list]
        have d0 : ((s[a]'h0).toNat : Int) = (x.length : Int) := by rw [h1]
        have d1 : ¬ (x.length : Int) = 0 := by omega
        have d2 : decide ((x.length : Int) = 0) = false := decide_eq_false d1
        have HLP := Lib.hid hLP
        simp only [List.length_cons] at hlen'
        clear hLP hs hE
        rcases hlk : lookK Kx (enc (x :: r)) with _ | o1
        · rw [hlk] at hlg
          have hlkx : Hid (lookK Kx (enc (x :: r)) = none) := Lib.hid hlk
          by_cases hbig : 16383 < off + a
          · rw [if_pos (.inr hbig)] at hlg
            have hg := Lib.hid hlg
            have d3 : decide ((off : Int) + (a : Int) > 16383) = true := decide_eq_true (by omega)
            clear hlg hlkx
            go_wp2_with fail
            have hs_wz : Still wr wr.drew := (Only.refl _ _).drew
            obtain ⟨wz, hwz⟩ : ∃ wz, wz = wr.drew := ⟨_, rfl⟩
            refine wp_region_held_drew (S := fun w' => Still wr.drew w') (by kernel_rfl) (Only.refl _ _) (fun hS => ?_)
            rw [← hwz] at hs_wz hS ⊢
            clear hwz
            have hTz := hT.still hs_wz
            have hSz := hst.still hs_wz
            have c0 := hTz.blk.cell 0
            simp at c0
            clear hs_wz
            (refine take_p (i := 0) (v := ?_) rfl (by kernel_rfl) (by kernel_rfl) (by kernel_rfl) (fun _ _ _ h => h) (Or.inl ⟨by rfl, ?_⟩) hS ?_; rotate_left; (focus (intro w0_ hSw; go_simp; try with_reducible rfl)); try simp only [Act.put, List.setIfInBounds_toArray, List.set_cons_zero, List.set_cons_succ])
            (refine take_p (i := 1) (v := ?_) rfl (by kernel_rfl) (by kernel_rfl) (by kernel_rfl) (fun _ _ _ h => h) (Or.inl ⟨by rfl, ?_⟩) hS ?_; rotate_left; (focus (intro w0_ hSw; go_simp; try with_reducible rfl)); try simp only [Act.put, List.setIfInBounds_toArray, List.set_cons_zero, List.set_cons_succ])
            (refine take_p (i := 2) (v := ?_) rfl (by kernel_rfl) (by kernel_rfl) (by kernel_rfl) (fun _ _ _ h => h) (Or.inl ⟨by rfl, ?_⟩) hS ?_; rotate_left; (focus (intro w0_ hSw; go_simp; try with_reducible rfl)); try simp only [Act.put, List.setIfInBounds_toArray, List.set_cons_zero, List.set_cons_succ])
            (refine take_p (i := 3) (v := ?_) rfl (by kernel_rfl) (by kernel_rfl) (by kernel_rfl) (fun _ _ _ h => h) (Or.inl ⟨by rfl, ?_⟩) hS ?_; rotate_left; (focus (intro w0_ hSw; have z0_ := hSw.cell_some (fun h => h) c0; go_simp; try with_reducible rfl)); try simp only [Act.put, List.setIfInBounds_toArray, List.set_cons_zero, List.set_cons_succ])
            (refine take_p (i := 4) (v := ?_) rfl (by kernel_rfl) (by kernel_rfl) (by kernel_rfl) (fun _ _ _ h => h) (Or.inl ⟨by rfl, ?_⟩) hS ?_; rotate_left; (focus (intro w0_ hSw; go_simp; try with_reducible rfl)); try simp only [Act.put, List.setIfInBounds_toArray, List.set_cons_zero, List.set_cons_succ])
            (refine take_p (i := 5) (v := ?_) rfl (by kernel_rfl) (by kernel_rfl) (by kernel_rfl) (fun _ _ _ h => h) (Or.inl ⟨by rfl, ?_⟩) hS ?_; rotate_left; (focus (intro w0_ hSw; go_simp; try with_reducible rfl)); try simp only [Act.put, List.setIfInBounds_toArray, List.set_cons_zero, List.set_cons_succ])
            (refine take_p (i := 6) (v := ?_) rfl (by kernel_rfl) (by kernel_rfl) (by kernel_rfl) (fun _ _ _ h => h) (Or.inl ⟨by rfl, ?_⟩) hS ?_; rotate_left; (focus (intro w0_ hSw; go_simp; try with_reducible rfl)); try simp only [Act.put, List.setIfInBounds_toArray, List.set_cons_zero, List.set_cons_succ])
            (refine take_p (i := 7) (v := ?_) rfl (by kernel_rfl) (by kernel_rfl) (by kernel_rfl) (fun _ _ _ h => h) (Or.inl ⟨by rfl, ?_⟩) hS ?_; rotate_left; (focus (intro w0_ hSw; have lk_ := (hTz.still hSw).look hxs; rw [hEe, hlk] at lk_; go_simp; try with_reducible rfl)); try simp only [Act.put, List.setIfInBounds_toArray, List.set_cons_zero, List.set_cons_succ])
            (refine take_p (i := 8) (v := ?_) rfl (by kernel_rfl) (by kernel_rfl) (by kernel_rfl) (fun _ _ _ h => h) (Or.inl ⟨by rfl, ?_⟩) hS ?_; rotate_left; (focus (intro w0_ hSw; go_simp; try with_reducible rfl)); try simp only [Act.put, List.setIfInBounds_toArray, List.set_cons_zero, List.set_cons_succ])
            (refine take_p (i := 9) (v := ?_) rfl (by kernel_rfl) (by kernel_rfl) (by kernel_rfl) (fun _ _ _ h => h) (Or.inl ⟨by rfl, ?_⟩) hS ?_; rotate_left; (focus (intro w0_ hSw; go_simp; try with_reducible rfl)); try simp only [Act.put, List.setIfInBounds_toArray, List.set_cons_zero, List.set_cons_succ])
            (refine take_p (i := 10) (v := ?_) rfl (by kernel_rfl) (by kernel_rfl) (by kernel_rfl) (fun _ _ _ h => h) (Or.inl ⟨by rfl, ?_⟩) hS ?_; rotate_left; (focus (intro w0_ hSw; go_simp; try with_reducible rfl)); try simp only [Act.put, List.setIfInBounds_toArray, List.set_cons_zero, List.set_cons_succ])
            (refine take_p (i := 11) (v := ?_) rfl (by kernel_rfl) (by kernel_rfl) (by kernel_rfl) (fun _ _ _ h => h) (Or.inl ⟨by rfl, ?_⟩) hS ?_; rotate_left; (focus (intro w0_ hSw; go_simp; try with_reducible rfl)); try simp only [Act.put, List.setIfInBounds_toArray, List.set_cons_zero, List.set_cons_succ])
            (refine take_p (i := 12) (v := ?_) rfl (by kernel_rfl) (by kernel_rfl) (by kernel_rfl) (fun _ _ _ h => h) (Or.inl ⟨by rfl, ?_⟩) hS ?_; rotate_left; (focus (intro w0_ hSw; go_simp; try with_reducible rfl)); try simp only [Act.put, List.setIfInBounds_toArray, List.set_cons_zero, List.set_cons_succ])
            refine wpAnyH_done (by kernel_rfl) ?_ _
            go_wp2_with fail
            go_roundw
            case rel => exact ⟨P ++ [x], r, a + 1 + x.length, mbx, Kx, Lib.hid ⟨by rw [HLP.out]; simp, hg.out⟩, by go_num, Lib.hid (by rw [sz_app, ← ha.out]; simp only [sz]; omega), hTz.still hS, hSz.still hS, hmb, Lib.hid (by omega)⟩
            case measure => simp [intOf]; omega
          · rw [if_neg (by simp; omega)] at hlg
            have hg := Lib.hid hlg
            have d3 : decide ((off : Int) + (a : Int) > 16383) = false := decide_eq_false (by omega)
            clear hlg
            go_wp2_with fail
            have hs_wz : Still wr wr.drew := (Only.refl _ _).drew
            obtain ⟨wz, hwz⟩ : ∃ wz, wz = wr.drew := ⟨_, rfl⟩
            refine wp_region_held_drew (S := fun w' => Still wr.drew w') (by kernel_rfl) (Only.refl _ _) (fun hS => ?_)
            rw [← hwz] at hs_wz hS ⊢
            clear hwz
            have hTz := hT.still hs_wz
            have hSz := hst.still hs_wz
            have c0 := hTz.blk.cell 0
            simp at c0
            clear hs_wz
            (refine take_p (i := 0) (v := ?_) rfl (by kernel_rfl) (by kernel_rfl) (by kernel_rfl) (fun _ _ _ h => h) (Or.inl ⟨by rfl, ?_⟩) hS ?_; rotate_left; (focus (intro w0_ hSw; go_simp; try with_reducible rfl)); try simp only [Act.put, List.setIfInBounds_toArray, List.set_cons_zero, List.set_cons_succ])
            (refine take_p (i := 1) (v := ?_) rfl (by kernel_rfl) (by kernel_rfl) (by kernel_rfl) (fun _ _ _ h => h) (Or.inl ⟨by rfl, ?_⟩) hS ?_; rotate_left; (focus (intro w0_ hSw; go_simp; try with_reducible rfl)); try simp only [Act.put, List.setIfInBounds_toArray, List.set_cons_zero, List.set_cons_succ])
            (refine take_p (i := 2) (v := ?_) rfl (by kernel_rfl) (by kernel_rfl) (by kernel_rfl) (fun _ _ _ h => h) (Or.inl ⟨by rfl, ?_⟩) hS ?_; rotate_left; (focus (intro w0_ hSw; go_simp; try with_reducible rfl)); try simp only [Act.put, List.setIfInBounds_toArray, List.set_cons_zero, List.set_cons_succ])
            (refine take_p (i := 3) (v := ?_) rfl (by kernel_rfl) (by kernel_rfl) (by kernel_rfl) (fun _ _ _ h => h) (Or.inl ⟨by rfl, ?_⟩) hS ?_; rotate_left; (focus (intro w0_ hSw; have z0_ := hSw.cell_some (fun h => h) c0; go_simp; try with_reducible rfl)); try simp only [Act.put, List.setIfInBounds_toArray, List.set_cons_zero, List.set_cons_succ])
            (refine take_p (i := 4) (v := ?_) rfl (by kernel_rfl) (by kernel_rfl) (by kernel_rfl) (fun _ _ _ h => h) (Or.inl ⟨by rfl, ?_⟩) hS ?_; rotate_left; (focus (intro w0_ hSw; go_simp; try with_reducible rfl)); try simp only [Act.put, List.setIfInBounds_toArray, List.set_cons_zero, List.set_cons_succ])
            (refine take_p (i := 5) (v := ?_) rfl (by kernel_rfl) (by kernel_rfl) (by kernel_rfl) (fun _ _ _ h => h) (Or.inl ⟨by rfl, ?_⟩) hS ?_; rotate_left; (focus (intro w0_ hSw; go_simp; try with_reducible rfl)); try simp only [Act.put, List.setIfInBounds_toArray, List.set_cons_zero, List.set_cons_succ])
            (refine take_p (i := 6) (v := ?_) rfl (by kernel_rfl) (by kernel_rfl) (by kernel_rfl) (fun _ _ _ h => h) (Or.inl ⟨by rfl, ?_⟩) hS ?_; rotate_left; (focus (intro w0_ hSw; go_simp; try with_reducible rfl)); try simp only [Act.put, List.setIfInBounds_toArray, List.set_cons_zero, List.set_cons_succ])
            (refine take_p (i := 7) (v := ?_) rfl (by kernel_rfl) (by kernel_rfl) (by kernel_rfl) (fun _ _ _ h => h) (Or.inl ⟨by rfl, ?_⟩) hS ?_; rotate_left; (focus (intro w0_ hSw; have lk_ := (hTz.still hSw).look hxs; rw [hEe, hlk] at lk_; go_simp; try with_reducible rfl)); try simp only [Act.put, List.setIfInBounds_toArray, List.set_cons_zero, List.set_cons_succ])
            (refine take_p (i := 8) (v := ?_) rfl (by kernel_rfl) (by kernel_rfl) (by kernel_rfl) (fun _ _ _ h => h) (Or.inl ⟨by rfl, ?_⟩) hS ?_; rotate_left; (focus (intro w0_ hSw; go_simp; try with_reducible rfl)); try simp only [Act.put, List.setIfInBounds_toArray, List.set_cons_zero, List.set_cons_succ])
            (refine take_p (i := 9) (v := ?_) rfl (by kernel_rfl) (by kernel_rfl) (by kernel_rfl) (fun _ _ _ h => h) (Or.inl ⟨by rfl, ?_⟩) hS ?_; rotate_left; (focus (intro w0_ hSw; go_simp; try with_reducible rfl)); try simp only [Act.put, List.setIfInBounds_toArray, List.set_cons_zero, List.set_cons_succ])
            (refine take_p (i := 10) (v := ?_) rfl (by kernel_rfl) (by kernel_rfl) (by kernel_rfl) (fun _ _ _ h => h) (Or.inl ⟨by rfl, ?_⟩) hS ?_; rotate_left; (focus (intro w0_ hSw; go_simp; try with_reducible rfl)); try simp only [Act.put, List.setIfInBounds_toArray, List.set_cons_zero, List.set_cons_succ])
            (refine take_p (i := 11) (v := ?_) rfl (by kernel_rfl) (by kernel_rfl) (by kernel_rfl) (fun _ _ _ h => h) (Or.inl ⟨by rfl, ?_⟩) hS ?_; rotate_left; (focus (intro w0_ hSw; go_simp; try with_reducible rfl)); try simp only [Act.put, List.setIfInBounds_toArray, List.set_cons_zero, List.set_cons_succ])
            (refine take_p (i := 12) (v := ?_) rfl (by kernel_rfl) (by kernel_rfl) (by kernel_rfl) (fun _ _ _ h => h) (Or.inl ⟨by rfl, ?_⟩) hS ?_; rotate_left; (focus (intro w0_ hSw; go_simp; try with_reducible rfl)); try simp only [Act.put, List.setIfInBounds_toArray, List.set_cons_zero, List.set_cons_succ])
            refine wpAnyH_done (by kernel_rfl) ?_ _
            have hTq := hTz.still hS
            have hoq := hSz.still hS
            have hnk : (inK Kx (.string (enc (x :: r)))).isSome = false := by
              show ((lookK Kx (enc (x :: r))).map _).isSome = false
              rw [hlk]; rfl
            have hadx := hg
            clear hTz hSz hS c0 hT hst
            cases mbx with
            | some bm =>
              have hbmS : ∀ i, i < w.heap.size → i = bm → (i = t ∨ mb = some i) := fun i hi e => by
                rcases hmb.out with h | ⟨_, b, h, hb⟩
                · exact .inr (by rw [e, ← h])
                · cases h; omega
              have hmbx := hmb
              have c0 := hTq.blk.cell 0
              simp at c0
              have l2 := eqlM_some bm
              obtain ⟨wx, hwx⟩ : ∃ wx, wx = wz := ⟨_, rfl⟩
              rw [← hwx] at hTq hoq c0 ⊢
              have hTx := hTq
              have hox := hoq
              clear hwx hTq hoq
              go_wp2_with fail
              clear c0 l2
              have hs_wy : Still wx wx.drew := (Only.refl _ _).drew
              obtain ⟨wy, hwy⟩ : ∃ wy, wy = wx.drew := ⟨_, rfl⟩
              refine wp_region_held_drew (S := fun w' => Only (· = bm) wx.drew w') (by kernel_rfl) (Only.refl _ _) (fun hS => ?_)
              rw [← hwy] at hs_wy hS ⊢
              clear hwy
              have hTy := hTx.still hs_wy
              have hSy := hox.still hs_wy
              have hby := hTy.blk
              have nt : ¬ t = bm := hTy.ne bm rfl
              obtain ⟨hmy⟩ : MapIs wy Tryd.prog 9 bm Kx.length (inK Kx) ∧ True := by
                rcases hTy.has with ⟨h, _⟩ | ⟨b', h, m⟩
                · cases h
                · cases h; exact ⟨m, trivial⟩
              have c0 := hby.cell 0
              simp at c0
              clear hs_wy
              (refine take_p (i := 0) (v := ?_) rfl (by kernel_rfl) (by kernel_rfl) (by kernel_rfl) (fun _ _ _ h => h) (Or.inl ⟨by rfl, ?_⟩) hS ?_; rotate_left; (focus (intro w0_ hSw; go_simp; try with_reducible rfl)); try simp only [Act.put, List.setIfInBounds_toArray, List.set_cons_zero, List.set_cons_succ])
              (refine take_p (i := 1) (v := ?_) rfl (by kernel_rfl) (by kernel_rfl) (by kernel_rfl) (fun _ _ _ h => h) (Or.inl ⟨by rfl, ?_⟩) hS ?_; rotate_left; (focus (intro w0_ hSw; go_simp; try with_reducible rfl)); try simp only [Act.put, List.setIfInBounds_toArray, List.set_cons_zero, List.set_cons_succ])
              (refine take_p (i := 2) (v := ?_) rfl (by kernel_rfl) (by kernel_rfl) (by kernel_rfl) (fun _ _ _ h => h) (Or.inl ⟨by rfl, ?_⟩) hS ?_; rotate_left; (focus (intro w0_ hSw; go_simp; try with_reducible rfl)); try simp only [Act.put, List.setIfInBounds_toArray, List.set_cons_zero, List.set_cons_succ])
              (refine take_p (i := 3) (v := ?_) rfl (by kernel_rfl) (by kernel_rfl) (by kernel_rfl) (fun _ _ _ h => h) (Or.inl ⟨by rfl, ?_⟩) hS ?_; rotate_left; (focus (intro w0_ hSw; have z0_ := hSw.cell_some (nt) c0; go_simp; try with_reducible rfl)); try simp only [Act.put, List.setIfInBounds_toArray, List.set_cons_zero, List.set_cons_succ])
              (refine take_p (i := 4) (v := ?_) rfl (by kernel_rfl) (by kernel_rfl) (by kernel_rfl) (fun _ _ _ h => h) (Or.inl ⟨by rfl, ?_⟩) hS ?_; rotate_left; (focus (intro w0_ hSw; go_simp; try with_reducible rfl)); try simp only [Act.put, List.setIfInBounds_toArray, List.set_cons_zero, List.set_cons_succ])
              (refine take_p (i := 5) (v := ?_) rfl (by kernel_rfl) (by kernel_rfl) (by kernel_rfl) (fun _ _ _ h => h) (Or.inl ⟨by rfl, ?_⟩) hS ?_; rotate_left; (focus (intro w0_ hSw; go_simp; try with_reducible rfl)); try simp only [Act.put, List.setIfInBounds_toArray, List.set_cons_zero, List.set_cons_succ])
              (refine take_p (i := 6) (v := ?_) rfl (by kernel_rfl) (by kernel_rfl) (by kernel_rfl) (fun _ _ _ h => h) (Or.inl ⟨by rfl, ?_⟩) hS ?_; rotate_left; (focus (intro w0_ hSw; go_simp; try with_reducible rfl)); try simp only [Act.put, List.setIfInBounds_toArray, List.set_cons_zero, List.set_cons_succ])
              (refine take_p (i := 7) (v := ?_) rfl (by kernel_rfl) (by kernel_rfl) (by kernel_rfl) (fun _ _ _ h => h) (Or.inl ⟨by rfl, ?_⟩) hS ?_; rotate_left; (focus (intro w0_ hSw; go_simp; try with_reducible rfl)); try simp only [Act.put, List.setIfInBounds_toArray, List.set_cons_zero, List.set_cons_succ])
              (refine take_p (i := 8) (v := ?_) rfl (by kernel_rfl) (by kernel_rfl) (by kernel_rfl) (fun _ _ _ h => h) (Or.inl ⟨by rfl, ?_⟩) hS ?_; rotate_left; (focus (intro w0_ hSw; go_simp; try with_reducible rfl)); try simp only [Act.put, List.setIfInBounds_toArray, List.set_cons_zero, List.set_cons_succ])
              (refine take_p (i := 9) (v := ?_) rfl (by kernel_rfl) (by kernel_rfl) (by kernel_rfl) (fun _ _ _ h => h) (Or.inl ⟨by rfl, ?_⟩) hS ?_; rotate_left; (focus (intro w0_ hSw; go_simp; try with_reducible rfl)); try simp only [Act.put, List.setIfInBounds_toArray, List.set_cons_zero, List.set_cons_succ])
              refine wpAnyH_ready (rs := [10]) (by kernel_rfl) (by simp) ?_
              refine cons_p rfl (fun K_ hK => ?_) AllReadyH.nil
              refine step_mapPut _ rfl (.tmp 57) (.tmp 60) (.tmp 63) 30 rfl 9 3 klawS Tryd.underlying30 bm Kx.length _ rfl hmy (by unfold maxLen; have := hlen.out; first | (simp at this ⊢; done) | (simp at this ⊢; omega)) _ (.int .i64 ((off + a : Nat) : Int)) _ rfl ?hv (key_str Tryd.underlying9 (s := E) hxs) ?_
              case hv =>
                show Value.int .i64 (IntKind.i64.wrap ((off : Int) + (a : Int))) = _
                rw [IntWalk.i64_in _ (by omega)]
                rfl
              intro wp hmp hop hzp
              have hSp : Only (fun i => i = bm) wy wp := hop
              refine hK.out _ _ (hS.trans hop (fun i _ e => e)) (fun hHeld => ?_)
              clear hK K_ hHeld
              try simp only [Act.put, List.setIfInBounds_toArray, List.set_cons_zero, List.set_cons_succ]
              replace hS := hS.trans hop (fun i _ e => e)
              refine wpAnyH_done (by kernel_rfl) ?_ _
              rw [hEe, hnk, if_neg (by decide)] at hmp
              have hT' : CTB wp t (some bm) (Kx ++ [(enc (x :: r), off + a)]) := ⟨hby.only hSp nt, .inr ⟨bm, rfl, by rw [List.length_append, List.length_singleton]; exact hmp.turn (fun kl => inK_put hlkx.out kl)⟩⟩
              have hof := hSy.trans hSp (fun i hi e => hbmS i hi e)
              clear hmp hop hzp hSp hS hby hmy c0 hTx hTy hSy hox
              go_wp2_with fail
              go_roundw
              case rel => exact ⟨P ++ [x], r, a + 1 + x.length, some bm, Kx ++ [(enc (x :: r), off + a)], Lib.hid ⟨by rw [HLP.out]; simp, by rw [hadx.out]⟩, by go_num, Lib.hid (by rw [sz_app, ← ha.out]; simp only [sz]; omega), hT', hof, Lib.hid hmbx.out, Lib.hid (by have := hlen.out; simp at this ⊢; omega)⟩
              case measure => simp [intOf]; omega
            | none =>
              obtain rfl : Kx = [] := by
                rcases hTq.has with ⟨_, h⟩ | ⟨b, h, _⟩
                · exact h
                · cases h
              have hmb0 : mb = none := by
                rcases hmb.out with h | ⟨h, _⟩
                · exact h.symm
                · exact h
              have c0 := hTq.blk.cell 0
              have f0 := hTq.blk.frozen 0
              simp at c0
              have l2 := eqlM_none
              have hmk : (Instr.makeMap 30 none).run Tryd.prog wz = .ok (.map (some wz.heap.size)) (wz.alloc (.map #[] 0)) := rfl
              have hbz := (hTq.blk.set_ 0 (.map (some wz.heap.size))).alloc (.map #[] 0)
              simp at hbz
              have hTl := hTq.blk.lt
              have hmz := MapIs.made (wz.setCell ⟨t, 0, none⟩ (.map (some wz.heap.size))) Tryd.prog 9
              rw [show (wz.setCell ⟨t, 0, none⟩ (.map (some wz.heap.size))).heap.size = wz.heap.size by simp [World.setCell]] at hmz
              have hoz := (hoq.setCell (p := ⟨t, 0, none⟩) (.inl (.inl rfl)) (.map (some wz.heap.size))).alloc (.map #[] 0)
              have hszz := hoq.size
              go_wp2_with fail
              obtain ⟨bm, hbm⟩ : ∃ b, b = wz.heap.size := ⟨_, rfl⟩
              rw [← hbm] at hbz hmz hoz ⊢
              obtain ⟨wx, hwx⟩ : ∃ wx, wx = (wz.setCell ⟨t, 0, none⟩ (.map (some bm))).alloc (.map #[] 0) := ⟨_, rfl⟩
              rw [← hwx] at hbz hmz hoz ⊢
              have hTx : CTB wx t (some bm) [] := ⟨hbz, .inr ⟨bm, rfl, hmz.turn (fun kl => by cases kl <;> rfl)⟩⟩
              have hox := hoz
              have hbmS : ∀ i, i < w.heap.size → i = bm → (i = t ∨ mb = some i) := fun i hi e => by omega
              have hmbx : Hid (some bm = mb ∨ (mb = none ∧ ∃ b, some bm = some b ∧ w.heap.size ≤ b)) := Lib.hid (.inr ⟨hmb0, bm, rfl, by omega⟩)
              clear c0 f0 l2 hmk hbz hmz hoz hTq hoq hwx hbm hTl hszz
              have hs_wy : Still wx wx.drew := (Only.refl _ _).drew
              obtain ⟨wy, hwy⟩ : ∃ wy, wy = wx.drew := ⟨_, rfl⟩
              refine wp_region_held_drew (S := fun w' => Only (· = bm) wx.drew w') (by kernel_rfl) (Only.refl _ _) (fun hS => ?_)
              rw [← hwy] at hs_wy hS ⊢
              clear hwy
              have hTy := hTx.still hs_wy
              have hSy := hox.still hs_wy
              have hby := hTy.blk
              have nt : ¬ t = bm := hTy.ne bm rfl
              obtain ⟨hmy⟩ : MapIs wy Tryd.prog 9 bm ([] : Kn).length (inK ([] : Kn)) ∧ True := by
                rcases hTy.has with ⟨h, _⟩ | ⟨b', h, m⟩
                · cases h
                · cases h; exact ⟨m, trivial⟩
              have c0 := hby.cell 0
              simp at c0
              clear hs_wy
              (refine take_p (i := 0) (v := ?_) rfl (by kernel_rfl) (by kernel_rfl) (by kernel_rfl) (fun _ _ _ h => h) (Or.inl ⟨by rfl, ?_⟩) hS ?_; rotate_left; (focus (intro w0_ hSw; go_simp; try with_reducible rfl)); try simp only [Act.put, List.setIfInBounds_toArray, List.set_cons_zero, List.set_cons_succ])
              (refine take_p (i := 1) (v := ?_) rfl (by kernel_rfl) (by kernel_rfl) (by kernel_rfl) (fun _ _ _ h => h) (Or.inl ⟨by rfl, ?_⟩) hS ?_; rotate_left; (focus (intro w0_ hSw; go_simp; try with_reducible rfl)); try simp only [Act.put, List.setIfInBounds_toArray, List.set_cons_zero, List.set_cons_succ])
              (refine take_p (i := 2) (v := ?_) rfl (by kernel_rfl) (by kernel_rfl) (by kernel_rfl) (fun _ _ _ h => h) (Or.inl ⟨by rfl, ?_⟩) hS ?_; rotate_left; (focus (intro w0_ hSw; go_simp; try with_reducible rfl)); try simp only [Act.put, List.setIfInBounds_toArray, List.set_cons_zero, List.set_cons_succ])
              (refine take_p (i := 3) (v := ?_) rfl (by kernel_rfl) (by kernel_rfl) (by kernel_rfl) (fun _ _ _ h => h) (Or.inl ⟨by rfl, ?_⟩) hS ?_; rotate_left; (focus (intro w0_ hSw; have z0_ := hSw.cell_some (nt) c0; go_simp; try with_reducible rfl)); try simp only [Act.put, List.setIfInBounds_toArray, List.set_cons_zero, List.set_cons_succ])
              (refine take_p (i := 4) (v := ?_) rfl (by kernel_rfl) (by kernel_rfl) (by kernel_rfl) (fun _ _ _ h => h) (Or.inl ⟨by rfl, ?_⟩) hS ?_; rotate_left; (focus (intro w0_ hSw; go_simp; try with_reducible rfl)); try simp only [Act.put, List.setIfInBounds_toArray, List.set_cons_zero, List.set_cons_succ])
              (refine take_p (i := 5) (v := ?_) rfl (by kernel_rfl) (by kernel_rfl) (by kernel_rfl) (fun _ _ _ h => h) (Or.inl ⟨by rfl, ?_⟩) hS ?_; rotate_left; (focus (intro w0_ hSw; go_simp; try with_reducible rfl)); try simp only [Act.put, List.setIfInBounds_toArray, List.set_cons_zero, List.set_cons_succ])
              (refine take_p (i := 6) (v := ?_) rfl (by kernel_rfl) (by kernel_rfl) (by kernel_rfl) (fun _ _ _ h => h) (Or.inl ⟨by rfl, ?_⟩) hS ?_; rotate_left; (focus (intro w0_ hSw; go_simp; try with_reducible rfl)); try simp only [Act.put, List.setIfInBounds_toArray, List.set_cons_zero, List.set_cons_succ])
              (refine take_p (i := 7) (v := ?_) rfl (by kernel_rfl) (by kernel_rfl) (by kernel_rfl) (fun _ _ _ h => h) (Or.inl ⟨by rfl, ?_⟩) hS ?_; rotate_left; (focus (intro w0_ hSw; go_simp; try with_reducible rfl)); try simp only [Act.put, List.setIfInBounds_toArray, List.set_cons_zero, List.set_cons_succ])
              (refine take_p (i := 8) (v := ?_) rfl (by kernel_rfl) (by kernel_rfl) (by kernel_rfl) (fun _ _ _ h => h) (Or.inl ⟨by rfl, ?_⟩) hS ?_; rotate_left; (focus (intro w0_ hSw; go_simp; try with_reducible rfl)); try simp only [Act.put, List.setIfInBounds_toArray, List.set_cons_zero, List.set_cons_succ])
              (refine take_p (i := 9) (v := ?_) rfl (by kernel_rfl) (by kernel_rfl) (by kernel_rfl) (fun _ _ _ h => h) (Or.inl ⟨by rfl, ?_⟩) hS ?_; rotate_left; (focus (intro w0_ hSw; go_simp; try with_reducible rfl)); try simp only [Act.put, List.setIfInBounds_toArray, List.set_cons_zero, List.set_cons_succ])
              refine wpAnyH_ready (rs := [10]) (by kernel_rfl) (by simp) ?_
              refine cons_p rfl (fun K_ hK => ?_) AllReadyH.nil
              refine step_mapPut _ rfl (.tmp 57) (.tmp 60) (.tmp 63) 30 rfl 9 3 klawS Tryd.underlying30 bm ([] : Kn).length _ rfl hmy (by unfold maxLen; have := hlen.out; first | (simp at this ⊢; done) | (simp at this ⊢; omega)) _ (.int .i64 ((off + a : Nat) : Int)) _ rfl ?hv (key_str Tryd.underlying9 (s := E) hxs) ?_
              case hv =>
                show Value.int .i64 (IntKind.i64.wrap ((off : Int) + (a : Int))) = _
                rw [IntWalk.i64_in _ (by omega)]
                rfl
              intro wp hmp hop hzp
              have hSp : Only (fun i => i = bm) wy wp := hop
              refine hK.out _ _ (hS.trans hop (fun i _ e => e)) (fun hHeld => ?_)
              clear hK K_ hHeld
              try simp only [Act.put, List.setIfInBounds_toArray, List.set_cons_zero, List.set_cons_succ]
              replace hS := hS.trans hop (fun i _ e => e)
              refine wpAnyH_done (by kernel_rfl) ?_ _
              rw [hEe, hnk, if_neg (by decide)] at hmp
              have hT' : CTB wp t (some bm) (([] : Kn) ++ [(enc (x :: r), off + a)]) := ⟨hby.only hSp nt, .inr ⟨bm, rfl, by rw [List.length_append, List.length_singleton]; exact hmp.turn (fun kl => inK_put hlkx.out kl)⟩⟩
              have hof := hSy.trans hSp (fun i hi e => hbmS i hi e)
              clear hmp hop hzp hSp hS hby hmy c0 hTx hTy hSy hox
              go_wp2_with fail
              go_roundw
              case rel => exact ⟨P ++ [x], r, a + 1 + x.length, some bm, ([] : Kn) ++ [(enc (x :: r), off + a)], Lib.hid ⟨by rw [HLP.out]; simp, by rw [hadx.out]⟩, by go_num, Lib.hid (by rw [sz_app, ← ha.out]; simp only [sz]; omega), hT', hof, Lib.hid hmbx.out, Lib.hid (by have := hlen.out; simp at this ⊢; omega)⟩
              case measure => simp [intOf]; omega
        · rw [hlk, if_pos (.inl rfl)] at hlg
          have hg := Lib.hid hlg
          clear hlg
          go_wp2_with fail
          have hs_wz : Still wr wr.drew := (Only.refl _ _).drew
          obtain ⟨wz, hwz⟩ : ∃ wz, wz = wr.drew := ⟨_, rfl⟩
          refine wp_region_held_drew (S := fun w' => Still wr.drew w') (by kernel_rfl) (Only.refl _ _) (fun hS => ?_)
          rw [← hwz] at hs_wz hS ⊢
          clear hwz
          have hTz := hT.still hs_wz
          have hSz := hst.still hs_wz
          have c0 := hTz.blk.cell 0
          simp at c0
          clear hs_wz
          (refine take_p (i := 0) (v := ?_) rfl (by kernel_rfl) (by kernel_rfl) (by kernel_rfl) (fun _ _ _ h => h) (Or.inl ⟨by rfl, ?_⟩) hS ?_; rotate_left; (focus (intro w0_ hSw; go_simp; try with_reducible rfl)); try simp only [Act.put, List.setIfInBounds_toArray, List.set_cons_zero, List.set_cons_succ])
          (refine take_p (i := 1) (v := ?_) rfl (by kernel_rfl) (by kernel_rfl) (by kernel_rfl) (fun _ _ _ h => h) (Or.inl ⟨by rfl, ?_⟩) hS ?_; rotate_left; (focus (intro w0_ hSw; go_simp; try with_reducible rfl)); try simp only [Act.put, List.setIfInBounds_toArray, List.set_cons_zero, List.set_cons_succ])
          (refine take_p (i := 2) (v := ?_) rfl (by kernel_rfl) (by kernel_rfl) (by kernel_rfl) (fun _ _ _ h => h) (Or.inl ⟨by rfl, ?_⟩) hS ?_; rotate_left; (focus (intro w0_ hSw; go_simp; try with_reducible rfl)); try simp only [Act.put, List.setIfInBounds_toArray, List.set_cons_zero, List.set_cons_succ])
          (refine take_p (i := 3) (v := ?_) rfl (by kernel_rfl) (by kernel_rfl) (by kernel_rfl) (fun _ _ _ h => h) (Or.inl ⟨by rfl, ?_⟩) hS ?_; rotate_left; (focus (intro w0_ hSw; have z0_ := hSw.cell_some (fun h => h) c0; go_simp; try with_reducible rfl)); try simp only [Act.put, List.setIfInBounds_toArray, List.set_cons_zero, List.set_cons_succ])
          (refine take_p (i := 4) (v := ?_) rfl (by kernel_rfl) (by kernel_rfl) (by kernel_rfl) (fun _ _ _ h => h) (Or.inl ⟨by rfl, ?_⟩) hS ?_; rotate_left; (focus (intro w0_ hSw; go_simp; try with_reducible rfl)); try simp only [Act.put, List.setIfInBounds_toArray, List.set_cons_zero, List.set_cons_succ])
          (refine take_p (i := 5) (v := ?_) rfl (by kernel_rfl) (by kernel_rfl) (by kernel_rfl) (fun _ _ _ h => h) (Or.inl ⟨by rfl, ?_⟩) hS ?_; rotate_left; (focus (intro w0_ hSw; go_simp; try with_reducible rfl)); try simp only [Act.put, List.setIfInBounds_toArray, List.set_cons_zero, List.set_cons_succ])
          (refine take_p (i := 6) (v := ?_) rfl (by kernel_rfl) (by kernel_rfl) (by kernel_rfl) (fun _ _ _ h => h) (Or.inl ⟨by rfl, ?_⟩) hS ?_; rotate_left; (focus (intro w0_ hSw; go_simp; try with_reducible rfl)); try simp only [Act.put, List.setIfInBounds_toArray, List.set_cons_zero, List.set_cons_succ])
          (refine take_p (i := 7) (v := ?_) rfl (by kernel_rfl) (by kernel_rfl) (by kernel_rfl) (fun _ _ _ h => h) (Or.inl ⟨by rfl, ?_⟩) hS ?_; rotate_left; (focus (intro w0_ hSw; have lk_ := (hTz.still hSw).look hxs; rw [hEe, hlk] at lk_; go_simp; try with_reducible rfl)); try simp only [Act.put, List.setIfInBounds_toArray, List.set_cons_zero, List.set_cons_succ])
          (refine take_p (i := 8) (v := ?_) rfl (by kernel_rfl) (by kernel_rfl) (by kernel_rfl) (fun _ _ _ h => h) (Or.inl ⟨by rfl, ?_⟩) hS ?_; rotate_left; (focus (intro w0_ hSw; go_simp; try with_reducible rfl)); try simp only [Act.put, List.setIfInBounds_toArray, List.set_cons_zero, List.set_cons_succ])
          (refine take_p (i := 9) (v := ?_) rfl (by kernel_rfl) (by kernel_rfl) (by kernel_rfl) (fun _ _ _ h => h) (Or.inl ⟨by rfl, ?_⟩) hS ?_; rotate_left; (focus (intro w0_ hSw; go_simp; try with_reducible rfl)); try simp only [Act.put, List.setIfInBounds_toArray, List.set_cons_zero, List.set_cons_succ])
          (refine take_p (i := 10) (v := ?_) rfl (by kernel_rfl) (by kernel_rfl) (by kernel_rfl) (fun _ _ _ h => h) (Or.inl ⟨by rfl, ?_⟩) hS ?_; rotate_left; (focus (intro w0_ hSw; go_simp; try with_reducible rfl)); try simp only [Act.put, List.setIfInBounds_toArray, List.set_cons_zero, List.set_cons_succ])
          (refine take_p (i := 11) (v := ?_) rfl (by kernel_rfl) (by kernel_rfl) (by kernel_rfl) (fun _ _ _ h => h) (Or.inl ⟨by rfl, ?_⟩) hS ?_; rotate_left; (focus (intro w0_ hSw; go_simp; try with_reducible rfl)); try simp only [Act.put, List.setIfInBounds_toArray, List.set_cons_zero, List.set_cons_succ])
          (refine take_p (i := 12) (v := ?_) rfl (by kernel_rfl) (by kernel_rfl) (by kernel_rfl) (fun _ _ _ h => h) (Or.inl ⟨by rfl, ?_⟩) hS ?_; rotate_left; (focus (intro w0_ hSw; go_simp; try with_reducible rfl)); try simp only [Act.put, List.setIfInBounds_toArray, List.set_cons_zero, List.set_cons_succ])
          refine wpAnyH_done (by kernel_rfl) ?_ _
          go_wp2_with fail
          go_roundw
          case rel => exact ⟨P ++ [x], r, a + 1 + x.length, mbx, Kx, Lib.hid ⟨by rw [HLP.out]; simp, hg.out⟩, by go_num, Lib.hid (by rw [sz_app, ← ha.out]; simp only [sz]; omega), hTz.still hS, hSz.still hS, hmb, Lib.hid (by omega)⟩
          case measure => simp [intOf]; omega
      · rw [if_neg hak] at hlg
        subst hlg
        have HLP := Lib.hid hLP
        clear hLP hs
        go_wp2_with fail
        go_end0
        exact ⟨rfl, mbx, hT, hst, hmb.out⟩
end Go.Proofs.YtfhnfjfjmjopeaaDoor
