/-
  Package comp: a name put, and what is told of it; the examples.
-/
import Derived.Test.YtfhnfjfjmjopeaaDoorCompPut
import Derived.Test.YtfhnfjfjmjopeaaDoorCompRead
namespace Go.Proofs.YtfhnfjfjmjopeaaDoor
open Go.RowKit
set_option linter.unusedVariables false
set_option linter.unusedSimpArgs false

theorem conv_nil (w : World) : (convert 33 9 (.slice none 0 0)).run Tryd.prog w = .ok (.string (mk [])) w := by kernel_rfl
theorem conv_row {w : World} {base n c : Nat} {A : Option Addr} {l : List UInt8} (h : w.ownsRow base 5 1 (.slice A n c) n (bv l)) :
    (convert 33 9 (.slice A n c)).run Tryd.prog w = .ok (.string (mk l)) w := by
  rcases h.2 with ⟨hv, h0⟩ | ⟨g, cap, cur, hv, _⟩
  · obtain ⟨h1, h2, h3⟩ := Value.slice.inj hv
    subst h1 h2 h3
    have : l = [] := by
      have := h.1
      rw [bv_length] at this
      exact List.eq_nil_of_length_eq_zero (by omega)
    subst this
    exact conv_nil w
  · obtain ⟨h1, h2, h3⟩ := Value.slice.inj hv
    subst h1
    exact conv_own h
theorem mk_app (a b : List UInt8) : mk a ++ mk b = mk (a ++ b) := by
  apply ByteArray.ext
  simp [mk, ByteArray.data_append]
theorem errT_table {w w' : World} {t : Nat} {mb : Option Nat} {K : Kn} (he : ErrT w) (h : CTB w t mb K) (o : Only (fun i => i = t ∨ mb = some i) w w') : ErrT w' := by
  refine he.only o (fun e => ?_)
  have he' := he
  unfold ErrT at he'
  rcases e with e | e
  · have h1 := h.blk.cell 0
    rw [← e, he'] at h1
    simp at h1
  · rcases h.has with ⟨h1, _⟩ | ⟨b', h1, h2⟩
    · rw [h1] at e; cases e
    · rw [h1] at e
      injection e with e
      subst e
      obtain ⟨D, ⟨es, clock, hbm, _⟩, _⟩ := h2
      unfold World.cell? at he'
      simp only [hbm] at he'
      cases he'
theorem mk_beq (a b : List UInt8) : ((mk a).toList == (mk b).toList) = decide (a = b) := by
  rw [ByteArray.toList_eq, ByteArray.toList_eq, mk_list, mk_list, Bool.eq_iff_iff]
  simp
theorem rows_apart {w : World} {t : Nat} {mb : Option Nat} {K : Kn} {base n c : Nat} {A : Option Addr} {xs : List Value} (hT : CTB w t mb K) (hb : w.ownsRow base 5 1 (.slice A n c) n xs) : ∀ ad, A = some ad → ¬ (ad.block = t ∨ mb = some ad.block) := fun ad e h => by
  subst e
  have hk : (Value.slice (some ad) n c).ownBlock = some ad.block := rfl
  rcases h with h | h
  · exact own_blk_ne hb hT.blk (by decide) (hk.trans (congrArg some h))
  · rcases hT.has with ⟨h1, _⟩ | ⟨b', h1, h2⟩
    · rw [h1] at h; cases h
    · rw [h1] at h
      obtain ⟨D, ⟨es, clock, hbm, _⟩, _⟩ := h2
      rcases hb.2 with ⟨hv, _⟩ | ⟨g, cap, cur, hv, _, hgg, _⟩
      · rw [hv] at hk; cases hk
      · rw [hv] at hk
        have h' : b' = g := (Option.some.inj h).trans (Option.some.inj hk).symm
        rw [h', hgg] at hbm
        cases hbm

set_option maxRecDepth 1000000 in
set_option maxHeartbeats 3200000 in
theorem is_any {w : World} {t : Nat} {mb : Option Nat} {K : Kn} (hT : CTB w t mb K) (A : Option Addr) (n c : Nat) (b : List UInt8) (hb : w.ownsRow 0 5 1 (.slice A n c) n (bv b)) (hn : n ≤ 1000000) (L : List Lab) (hL : okL L) (s : ByteArray) (hs : s = mk (enc L)) (want : List UInt8) (hwl : want.length ≤ 1000) (hK : K.length ≤ 1000000) (hlow : lowK K)
    (out : List UInt8) (K' : Kn) (ho : outP (lgC true K L) b L = out) (hk' : newK (lgC true K L) K n L true = K') (hw : out = b ++ want) :
    Calls Tryd.prog 16 #[.pointer (some ⟨t, 0, none⟩), .slice A n c, .string s, .string (mk want)] w fun e w' =>
      ∃ A' c' mb', e = .returned (.tuple #[.slice A' out.length c', .bool true]) ∧ w'.ownsRow 0 5 1 (.slice A' out.length c') out.length (bv out) ∧ CTB w' t mb' K' ∧ Only (fun i => i = t ∨ mb = some i) w w' ∧ (mb' = mb ∨ (mb = none ∧ ∃ b, mb' = some b ∧ w.heap.size ≤ b)) := by
  have hbl : b.length = n := by have := hb.1; rw [bv_length] at this; omega
  have hrS := rows_apart hT hb
  have Hs := Lib.hid hs
  have Ho := Lib.hid ho
  have Hk := Lib.hid hk'
  have Hw := Lib.hid hw
  clear hs ho hk' hw
  go_enter Tryd.func16, Tryd.ntmps16
  go_wp2_with fail
  refine (put_ok hT A n c b (Reads.of_own hb) hrS hbl (by omega) L hL s Hs.out hK hlow true true).mono ?_
  rintro e w2 ⟨A2, c2, mb2, rfl, hown, hT2, ho2, hmb2⟩
  rw [Ho.out] at hown
  rw [Hk.out] at hT2
  rw [Ho.out]
  have hb2 := own_table hT hb ho2
  have HM := Lib.hid hmb2
  have heq : ((mk out).toList == (mk (b ++ want)).toList) = true := by rw [mk_beq, decide_eq_true Hw.out]
  have eap := mk_app b want
  obtain ⟨B, hB⟩ : ∃ B, B = mk b := ⟨_, rfl⟩
  obtain ⟨Wn, hWn⟩ : ∃ B, B = mk want := ⟨_, rfl⟩
  obtain ⟨BW, hBW⟩ : ∃ B, B = mk (b ++ want) := ⟨_, rfl⟩
  obtain ⟨O, hO⟩ : ∃ B, B = mk out := ⟨_, rfl⟩
  have zB : B.size ≤ 1000000 := by rw [hB, mk_size]; omega
  have zW : Wn.size ≤ 1000 := by rw [hWn, mk_size]; omega
  have zz : ¬ 9223372036854775807 < B.size + Wn.size := by omega
  rw [← hB, ← hWn, ← hBW] at eap
  rw [← hO, ← hBW] at heq
  rw [← hWn]
  have HB := Lib.hid hB
  have HO := Lib.hid hO
  clear hB hWn hBW hO
  clear hmb2 hrS
  go_wp2_with fail
  have hs_wz : Still w2 w2.drew := (Only.refl _ _).drew
  obtain ⟨wz, hwz⟩ : ∃ wz, wz = w2.drew := ⟨_, rfl⟩
  refine wp_region_held_drew (S := fun w' => Still w2.drew w') (by kernel_rfl) (Only.refl _ _) (fun hS => ?_)
  rw [← hwz] at hs_wz hS ⊢
  clear hwz
  have hSz := hs_wz
  have hbz := own_only hb2 hs_wz (fun _ _ h => h)
  have hcz := own_only hown hs_wz (fun _ _ h => h)
  clear hs_wz
  (refine take_p (i := 0) (v := ?_) rfl (by kernel_rfl) (by kernel_rfl) (by kernel_rfl) (fun _ _ _ h => h) (Or.inl ⟨by rfl, ?_⟩) hS ?_; rotate_left; (focus (intro w0_ hSw; go_simp; try with_reducible rfl)); try simp only [Act.put, List.setIfInBounds_toArray, List.set_cons_zero, List.set_cons_succ])
  (refine take_p (i := 1) (v := ?_) rfl (by kernel_rfl) (by kernel_rfl) (by kernel_rfl) (fun _ _ _ h => h) (Or.inl ⟨by rfl, ?_⟩) hS ?_; rotate_left; (focus (intro w0_ hSw; go_simp; try with_reducible rfl)); try simp only [Act.put, List.setIfInBounds_toArray, List.set_cons_zero, List.set_cons_succ])
  (refine take_p (i := 2) (v := ?_) rfl (by kernel_rfl) (by kernel_rfl) (by kernel_rfl) (fun _ _ _ h => h) (Or.inl ⟨by rfl, ?_⟩) hS ?_; rotate_left; (focus (intro w0_ hSw; go_simp; try with_reducible rfl)); try simp only [Act.put, List.setIfInBounds_toArray, List.set_cons_zero, List.set_cons_succ])
  (refine take_p (i := 3) (v := ?_) rfl (by kernel_rfl) (by kernel_rfl) (by kernel_rfl) (fun _ _ _ h => h) (Or.inl ⟨by rfl, ?_⟩) hS ?_; rotate_left; (focus (intro w0_ hSw; go_simp; try with_reducible rfl)); try simp only [Act.put, List.setIfInBounds_toArray, List.set_cons_zero, List.set_cons_succ])
  (refine take_p (i := 4) (v := ?_) rfl (by kernel_rfl) (by kernel_rfl) (by kernel_rfl) (fun _ _ _ h => h) (Or.inl ⟨by rfl, ?_⟩) hS ?_; rotate_left; (focus (intro w0_ hSw; go_simp; try with_reducible rfl)); try simp only [Act.put, List.setIfInBounds_toArray, List.set_cons_zero, List.set_cons_succ])
  (refine take_p (i := 5) (v := ?_) rfl (by kernel_rfl) (by kernel_rfl) (by kernel_rfl) (fun _ _ _ h => h) (Or.inl ⟨by rfl, ?_⟩) hS ?_; rotate_left; (focus (intro w0_ hSw; have q_ := conv_row (own_only hcz hSw (fun _ _ h => h)); rw [← HO.out] at q_; go_simp; try with_reducible rfl)); try simp only [Act.put, List.setIfInBounds_toArray, List.set_cons_zero, List.set_cons_succ])
  (refine take_p (i := 6) (v := ?_) rfl (by kernel_rfl) (by kernel_rfl) (by kernel_rfl) (fun _ _ _ h => h) (Or.inl ⟨by rfl, ?_⟩) hS ?_; rotate_left; (focus (intro w0_ hSw; go_simp; try with_reducible rfl)); try simp only [Act.put, List.setIfInBounds_toArray, List.set_cons_zero, List.set_cons_succ])
  (refine take_p (i := 7) (v := ?_) rfl (by kernel_rfl) (by kernel_rfl) (by kernel_rfl) (fun _ _ _ h => h) (Or.inl ⟨by rfl, ?_⟩) hS ?_; rotate_left; (focus (intro w0_ hSw; have q_ := conv_row (own_only hbz hSw (fun _ _ h => h)); rw [← HB.out] at q_; go_simp; try with_reducible rfl)); try simp only [Act.put, List.setIfInBounds_toArray, List.set_cons_zero, List.set_cons_succ])
  (refine take_p (i := 8) (v := ?_) rfl (by kernel_rfl) (by kernel_rfl) (by kernel_rfl) (fun _ _ _ h => h) (Or.inl ⟨by rfl, ?_⟩) hS ?_; rotate_left; (focus (intro w0_ hSw; go_simp; try with_reducible rfl)); try simp only [Act.put, List.setIfInBounds_toArray, List.set_cons_zero, List.set_cons_succ])
  (refine take_p (i := 9) (v := ?_) rfl (by kernel_rfl) (by kernel_rfl) (by kernel_rfl) (fun _ _ _ h => h) (Or.inl ⟨by rfl, ?_⟩) hS ?_; rotate_left; (focus (intro w0_ hSw; go_simp; try with_reducible rfl)); try simp only [Act.put, List.setIfInBounds_toArray, List.set_cons_zero, List.set_cons_succ])
  (refine take_p (i := 10) (v := ?_) rfl (by kernel_rfl) (by kernel_rfl) (by kernel_rfl) (fun _ _ _ h => h) (Or.inl ⟨by rfl, ?_⟩) hS ?_; rotate_left; (focus (intro w0_ hSw; go_simp; try with_reducible rfl)); try simp only [Act.put, List.setIfInBounds_toArray, List.set_cons_zero, List.set_cons_succ])
  (refine take_p (i := 11) (v := ?_) rfl (by kernel_rfl) (by kernel_rfl) (by kernel_rfl) (fun _ _ _ h => h) (Or.inl ⟨by rfl, ?_⟩) hS ?_; rotate_left; (focus (intro w0_ hSw; go_simp; try with_reducible rfl)); try simp only [Act.put, List.setIfInBounds_toArray, List.set_cons_zero, List.set_cons_succ])
  (refine take_p (i := 12) (v := ?_) rfl (by kernel_rfl) (by kernel_rfl) (by kernel_rfl) (fun _ _ _ h => h) (Or.inl ⟨by rfl, ?_⟩) hS ?_; rotate_left; (focus (intro w0_ hSw; go_simp; try with_reducible rfl)); try simp only [Act.put, List.setIfInBounds_toArray, List.set_cons_zero, List.set_cons_succ])
  (refine take_p (i := 13) (v := ?_) rfl (by kernel_rfl) (by kernel_rfl) (by kernel_rfl) (fun _ _ _ h => h) (Or.inl ⟨by rfl, ?_⟩) hS ?_; rotate_left; (focus (intro w0_ hSw; go_simp; try with_reducible rfl)); try simp only [Act.put, List.setIfInBounds_toArray, List.set_cons_zero, List.set_cons_succ])
  refine wpAnyH_done (by kernel_rfl) ?_ _
  go_wp2_with fail
  go_ret2
  exact ⟨A2, c2, mb2, rfl, own_base (own_only hcz hS (fun _ _ h => h)) (Nat.zero_le _), (hT2.still hSz).still hS, (ho2.still hSz).still hS, HM.out⟩
end Go.Proofs.YtfhnfjfjmjopeaaDoor
