/-
  ZoneMore.
-/
import Derived.Test.YtinjfongndlpgaaZoneInner
import Derived.Test.YtinjfongndlpgaaStepApp
import Derived.Deep.CutRange
import Derived.Deep.DeepCutAuto
namespace Go.Proofs.Ytinjfongndlpgaa
open Go.RowKit
set_option linter.unusedVariables false
set_option linter.unusedSimpArgs false
theorem info_zn : (Try.prog.info? 35).map (fun i => (i.zero, i.size, i.bytes)) = some (some (.agg #[.string ⟨#[]⟩, .int .u8 0, .int .u16 0]), 3, 24) := by kernel_rfl
theorem eqz_eq {v z : Zn} (h : v = z) (w : World) : (Op.equalIn 10000 35 (.agg #[.string v.nm, .int .u8 v.pol, .int .u16 v.tr]) (.agg #[.string z.nm, .int .u8 z.pol, .int .u16 z.tr])).run Try.prog w = .ok true w := by
  subst h
  exact eqz_refl _ _ _ w

set_option maxRecDepth 1000000 in
set_option maxHeartbeats 6400000 in
theorem more_walk (w : World) (A : Option Addr) (n c : Nat) (l : List Zn) (hnc : n ≤ c) (hcm : c ≤ maxLen) (hl : l.length = n) (hr : Reads w w.heap.size 3 A n (zRow l)) (hw : ∀ z ∈ l, okA z) (z : Zn) (hz : okA z) (s : ByteArray) (hs : s.size ≤ maxLen) :
    Calls Try.prog 7 #[.slice A n c, .agg #[.string z.nm, .int .u8 z.pol, .int .u16 z.tr], .string s] w fun e w' => e = .returned (.bool true) ∧ Still w w' := by
  have hn : n ≤ maxLen := Nat.le_trans hnc hcm
  obtain ⟨i0, hi, hz0, hz1, hz2⟩ := info_parts info_zn
  have hs0 := (Still.new w (.cells #[.string z.nm, .int .u8 z.pol, .int .u16 z.tr] 35)).alloc (.cells #[.string s, .string z.nm] 9)
  have hzb := (Blk.new w 35 #[.string z.nm, .int .u8 z.pol, .int .u16 z.tr]).alloc (.cells #[.string s, .string z.nm] 9)
  have hb0 := Blk.at_ (w.alloc (.cells #[.string z.nm, .int .u8 z.pol, .int .u16 z.tr] 35)) 9 #[.string s, .string z.nm] (g := w.heap.size + 1) (by simp)
  have hrl := (hr.only hs0 (Nat.le_refl _) (fun _ _ h => h)).more hs0.size
  have hrs := reads_blk (n := 2) (size := 1) hb0 (Nat.lt_succ_self _) rfl
  go_enter Try.func7, Try.ntmps7
  go_wp2_with fail
  obtain ⟨w1, hw1⟩ : ∃ w1, w1 = (w.alloc (.cells #[.string z.nm, .int .u8 z.pol, .int .u16 z.tr] 35)).alloc (.cells #[.string s, .string z.nm] 9) := ⟨_, rfl⟩
  have hw1z : w1.heap.size = w.heap.size + 1 + 1 := by rw [hw1]; simp
  rw [← hw1] at hs0 hzb hb0 hrl hrs ⊢
  obtain ⟨KZ, hKZ⟩ : ∃ K, K = w.heap.size := ⟨_, rfl⟩
  have hrs' : Reads w1 w1.heap.size 1 (some ⟨KZ + 1, 0, none⟩) 2 ([s, z.nm].map .string) := by rw [hw1z, hKZ]; exact hrs
  rw [← hKZ] at hzb ⊢
  clear hw1 hrs hb0 hw1z hKZ
  refine (long18 _ A n c l hl hrl hn (fun z hz => (hw z hz).1) _ 2 2 [s, z.nm] hrs' (by unfold maxLen; omega) (by simp [hs, hz.1])).mono ?_
  rintro e w2 (⟨rfl, h2⟩ | ⟨hok, rfl, h2⟩)
  · go_wp2_with (go_at_call 10; refine (zone_awake _).mono ?_; rintro e w3 ⟨rfl, h3⟩)
    go_ret
    exact ⟨rfl, hs0.still (h2.still h3)⟩
  · have hS2 := hs0.still h2
    have hzb2 := hzb.only h2 (fun h => h)
    clear hs0 hzb hrl hrs' h2
    go_wp2_with (go_at_call 10; refine (zone_awake _).mono ?_; rintro e w3 ⟨rfl, h3⟩)
    have hS3 := hS2.still h3
    have hzb3 := hzb2.only h3 (fun h => h)
    have hr3 := hr.only hS3 (Nat.le_refl _) (fun _ _ h => h)
    obtain ⟨ho1, ho2, ho3, ho4⟩ := hok.out
    have s9 : s.size < 10000 := ho4 s (by simp)
    have ss : s.size ≤ 30000 := by omega
    have z9 : z.nm.size < 10000 := ho4 z.nm (by simp)
    have szn : z.nm.size ≤ 30000 := by omega
    have hokZ : ∀ z ∈ l, okZ z := fun z hz => ⟨by have := ho2 z hz; omega, (hw z hz).2⟩
    have hokZ' : ∀ y ∈ l ++ [z], okZ y := fun y hy => by
      rcases List.mem_append.1 hy with hy | hy
      · exact hokZ y hy
      · rw [List.mem_singleton.1 hy]; exact ⟨szn, hz.2⟩
    clear hS2 h3 hok ho2 ho3 ho4 hzb2
    obtain ⟨m, hm⟩ : ∃ m, m = errZ l := ⟨_, rfl⟩
    obtain ⟨m', hm'⟩ : ∃ m', m' = errZ (l ++ [z]) := ⟨_, rfl⟩
    have hmm : m' = 0 → m = 0 := fun h => by
      rw [hm'] at h
      rw [hm]
      have := (errZ_ok _).1 h
      refine (errZ_ok l).2 ⟨by have := this.1; simp at this; omega, ⟨fun y hy => this.2.1 y (List.mem_append_left _ hy), (List.pairwise_append.1 this.2.2).1⟩⟩
    refine (new_any _ A n c l hl (hr3.more hS3.size) hokZ (by omega)).mono ?_
    rw [← hm]
    have HMM := Lib.hid hmm
    have HM := Lib.hid hm
    have HM' := Lib.hid hm'
    clear hmm hm
    intro e w4 hold
    obtain ⟨X, hX, hnew⟩ : ∃ X, e = .returned (.tuple #[X, .int .i64 (m : Nat)]) ∧ ((Hid (m = 0) ∧ ∃ t, X = .pointer (some ⟨t, 0, none⟩) ∧ Tab w4 0 t l) ∨ Hid (m ≠ 0 ∧ X = .pointer none)) ∧ Still w3 w4 := by
      rcases hold with ⟨he, t, rfl, hT, h4⟩ | ⟨he, rfl, h4⟩
      · exact ⟨_, by rw [he.out]; rfl, .inl ⟨he, t, rfl, hT.lower (Nat.zero_le _)⟩, h4⟩
      · exact ⟨_, rfl, .inr (Lib.hid ⟨he.out, rfl⟩), h4⟩
    clear hold
    subst hX
    obtain ⟨hnew, h4⟩ := hnew
    have hS4 := hS3.still h4
    have hzb5 := hzb3.only h4 (fun h => h)
    have hr5 := hr.only hS4 (Nat.le_refl _) (fun _ _ h => h)
    have Hnew := Lib.hid hnew
    clear hnew hS3 h4 hzb3 hr3
    go_upto_region 4 with fail
    obtain ⟨w5, hw5⟩ : ∃ w5, w5 = w4 := ⟨_, rfl⟩
    rw [← hw5] at hS4 hzb5 hr5 Hnew ⊢
    replace hr5 := hr5.more hS4.size
    clear hw5
    go_cut [9, 10] (fun xu xf wx => Still w5 wx ∧ ((Hid (errZ (l ++ [z]) = 0) ∧ ∃ t', xu = .pointer (some ⟨t', 0, none⟩) ∧ xf = .int .i64 0 ∧ Tab wx 0 t' (l ++ [z])) ∨ (Hid (errZ (l ++ [z]) ≠ 0) ∧ xu = .pointer none ∧ xf = .int .i64 (errZ (l ++ [z]) : Nat))))
    case first =>
      have hs_w6 : Still w5 w5.drew := (Only.refl _ _).drew
      obtain ⟨w6, hw6⟩ : ∃ w6, w6 = w5.drew := ⟨_, rfl⟩
      refine wp_region_held_drew (S := fun w' => Still w5.drew w') (by kernel_rfl) (Only.refl _ _) (fun hS => ?_)
      rw [← hw6] at hs_w6 hS ⊢
      clear hw6
      have hr6 := (hr5.only hs_w6 (Nat.le_refl _) (fun _ _ h => h)).more hs_w6.size
      have hz6 := hzb5.only hs_w6 (fun h => h)
      have hS56 := hs_w6
      obtain ⟨BB, hBB⟩ : ∃ B, B = w6.heap.size := ⟨_, rfl⟩
      have hBB1 : w6.heap.size ≤ BB := Nat.le_of_eq hBB.symm
      have hBB2 : BB ≤ w6.heap.size := Nat.le_of_eq hBB
      clear hBB
      clear hs_w6
      (refine take_p (i := 1) (v := ?_) rfl (by kernel_rfl) (by kernel_rfl) (by kernel_rfl) (fun _ _ _ h => h) (Or.inl ⟨by rfl, ?_⟩) hS ?_; rotate_left; (focus (intro w0_ hSw; go_simp; try with_reducible rfl)); try simp only [Act.put, List.setIfInBounds_toArray, List.set_cons_zero, List.set_cons_succ])
      refine take_p (i := 3) (v := .agg #[.string z.nm, .int .u8 z.pol, .int .u16 z.tr]) rfl (by kernel_rfl) (by kernel_rfl) (by kernel_rfl) (fun _ _ _ h => h) ?_ hS ?_
      · exact yieldsIf_load_blk (by rfl) 35 (.tmp 4) rfl KZ rfl 35 _ _ (fun w_ hSw => hz6.only hSw (fun h => h)) Try.underlying35 rfl (by kernel_rfl)
      try simp only [Act.put, List.setIfInBounds_toArray, List.set_cons_zero, List.set_cons_succ]
      refine wpAnyH_ready (rs := [0, 4]) (by kernel_rfl) (by simp) ?_
      refine cons_p rfl (fun K_ hK => ?_) (cons_p rfl (fun K_ hK => ?_) AllReadyH.nil)
      · skip
        go_simp
        have own0 := World.ownsRow_lit (e := 35) (size := 3) (base := BB) w6 #[] 0 (by have := hS.size; omega) (by unfold maxLen; omega) rfl
        have hsn := Still.new w6 (.cells #[] 35)
        refine hK.out _ _ (Only.alloc hS _) (fun hHeld => ?_)
        clear hK K_ hHeld
        try simp only [Act.put, List.setIfInBounds_toArray, List.set_cons_zero, List.set_cons_succ]
        replace hS := Only.alloc hS (.cells #[] 35)
        obtain ⟨w7, hw_⟩ : ∃ w7, w7 = w6.alloc (.cells #[] 35) := ⟨_, rfl⟩
        obtain ⟨B0, hB0⟩ : ∃ B, B = w6.heap.size := ⟨_, rfl⟩
        rw [← hw_] at own0 hsn hS ⊢
        rw [← hB0] at own0 ⊢
        have hB0lt : B0 < w7.heap.size := (own0.lt B0 (by simp [Value.ownBlock])).2
        clear hw_ hB0 hsn
        refine wpAnyH_ready (rs := [2, 4]) (by kernel_rfl) (by simp) ?_
        refine cons_p rfl (fun K_ hK => ?_) (cons_p rfl (fun K_ hK => ?_) AllReadyH.nil)
        · skip
          refine step_append_any rfl (.tmp 32) (.tmp 33) 22 rfl BB 35 i0 zNo 3 24 Try.underlying22 hi hz0 hz1 hz2 rfl (by decide) (.slice (some ⟨B0, 0, none⟩) 0 0) 0 [] rfl own0 _ A n c (zRow l) rfl (hr6.only hS (Nat.le_refl _) (fun _ _ h => h)) (zRow_one l) ?_ ?_ ?_ ?_
          · unfold maxLen; omega
          · omega
          · have := hS.size; omega
          intro v2 w8 v2own v2gr v2bl
          obtain ⟨v2A, v2c, v2h⟩ := own_shape v2own
          subst v2h
          have hSb : Still w6 w8 := hS.grown v2gr (fun q hq => .inr (Nat.le_trans hBB1 (own0.lt q hq).1))
          refine hK.out _ _ hSb (fun hHeld => ?_)
          clear hK K_ hHeld
          try simp only [Act.put, List.setIfInBounds_toArray, List.set_cons_zero, List.set_cons_succ]
          replace hS := hSb
          rw [Nat.zero_add, List.nil_append] at v2own
          rw [Nat.zero_add]
          have own2 := v2own
          clear v2own v2gr v2bl own0 hSb
          refine wpAnyH_ready (rs := [4]) (by kernel_rfl) (by simp) ?_
          refine cons_p rfl (fun K_ hK => ?_) AllReadyH.nil
          go_simp
          have hBg := Blk.new w8 35 #[.string z.nm, .int .u8 z.pol, .int .u16 z.tr]
          have hsn := Still.new w8 (.cells #[.string z.nm, .int .u8 z.pol, .int .u16 z.tr] 35)
          refine hK.out _ _ (Only.alloc hS _) (fun hHeld => ?_)
          clear hK K_ hHeld
          try simp only [Act.put, List.setIfInBounds_toArray, List.set_cons_zero, List.set_cons_succ]
          replace hS := Only.alloc hS (.cells #[.string z.nm, .int .u8 z.pol, .int .u16 z.tr] 35)
          obtain ⟨w9, hw_⟩ : ∃ w9, w9 = w8.alloc (.cells #[.string z.nm, .int .u8 z.pol, .int .u16 z.tr] 35) := ⟨_, rfl⟩
          obtain ⟨G, hG⟩ : ∃ G, G = w8.heap.size := ⟨_, rfl⟩
          rw [← hw_] at hBg hsn hS ⊢
          rw [← hG] at hBg ⊢
          replace own2 := own_only own2 hsn (fun _ _ h => h)
          clear hw_ hG hsn
          refine wpAnyH_ready (rs := [5]) (by kernel_rfl) (by simp) ?_
          refine cons_p rfl (fun K_ hK => ?_) AllReadyH.nil
          refine step_append_any rfl (.tmp 34) (.tmp 36) 22 rfl BB 35 i0 zNo 3 24 Try.underlying22 hi hz0 hz1 hz2 rfl (by decide) (.slice v2A n v2c) n (zRow l) rfl own2 _ _ 1 1 #[.string z.nm, .int .u8 z.pol, .int .u16 z.tr].toList rfl (reads_blk (B := G + 1) (n := 1) hBg (by omega) rfl) (zRow_one [z]) ?_ ?_ ?_ ?_
          · unfold maxLen; omega
          · omega
          · have := hS.size; omega
          intro v5 w10 v5own v5gr v5bl
          obtain ⟨v5A, v5c, v5h⟩ := own_shape v5own
          subst v5h
          have hSc : Still w6 w10 := hS.grown v5gr (fun q hq => .inr (Nat.le_trans hBB1 (own2.lt q hq).1))
          refine hK.out _ _ hSc (fun hHeld => ?_)
          clear hK K_ hHeld
          try simp only [Act.put, List.setIfInBounds_toArray, List.set_cons_zero, List.set_cons_succ]
          replace hS := hSc
          have own5 : w10.ownsRow BB 35 3 (.slice v5A (n + 1) v5c) (n + 1) (zRow (l ++ [z])) := by
            rw [zRow_append]
            exact v5own
          clear v5own v5gr v5bl own2 hBg hSc
          refine wpAnyH_ready (rs := [6]) (by kernel_rfl) (by simp) ?_
          refine cons_p rfl (fun K_ hK => ?_) AllReadyH.nil
          go_simp
          refine (new_any w10 v5A (n + 1) v5c (l ++ [z]) (by simp [hl]) ((Reads.of_own own5).more (by have := own5; exact Nat.le_refl _)) hokZ' (by omega)).mono ?_
          rintro e w11 (⟨he, t', rfl, hT', h11⟩ | ⟨he, rfl, h11⟩)
          · refine hK.out _ _ (hS.still h11) (fun hHeld => ?_)
            replace hS := hS.still h11
            clear hK K_ hHeld
            try simp only [Act.put, List.setIfInBounds_toArray, List.set_cons_zero, List.set_cons_succ]
            (refine take_p (i := 7) (v := ?_) rfl (by kernel_rfl) (by kernel_rfl) (by kernel_rfl) (fun _ _ _ h => h) (Or.inl ⟨by rfl, ?_⟩) hS ?_; rotate_left; (focus (intro w0_ hSw; go_simp; try with_reducible rfl)); try simp only [Act.put, List.setIfInBounds_toArray, List.set_cons_zero, List.set_cons_succ])
            (refine take_p (i := 8) (v := ?_) rfl (by kernel_rfl) (by kernel_rfl) (by kernel_rfl) (fun _ _ _ h => h) (Or.inl ⟨by rfl, ?_⟩) hS ?_; rotate_left; (focus (intro w0_ hSw; go_simp; try with_reducible rfl)); try simp only [Act.put, List.setIfInBounds_toArray, List.set_cons_zero, List.set_cons_succ])
            (refine take_p (i := 9) (v := ?_) rfl (by kernel_rfl) (by kernel_rfl) (by kernel_rfl) (fun _ _ _ h => h) (Or.inl ⟨by rfl, ?_⟩) hS ?_; rotate_left; (focus (intro w0_ hSw; go_simp; try with_reducible rfl)); try simp only [Act.put, List.setIfInBounds_toArray, List.set_cons_zero, List.set_cons_succ])
            (refine take_p (i := 10) (v := ?_) rfl (by kernel_rfl) (by kernel_rfl) (by kernel_rfl) (fun _ _ _ h => h) (Or.inl ⟨by rfl, ?_⟩) hS ?_; rotate_left; (focus (intro w0_ hSw; go_simp; try with_reducible rfl)); try simp only [Act.put, List.setIfInBounds_toArray, List.set_cons_zero, List.set_cons_succ])
            (refine take_p (i := 11) (v := ?_) rfl (by kernel_rfl) (by kernel_rfl) (by kernel_rfl) (fun _ _ _ h => h) (Or.inl ⟨by rfl, ?_⟩) hS ?_; rotate_left; (focus (intro w0_ hSw; go_simp; try with_reducible rfl)); try simp only [Act.put, List.setIfInBounds_toArray, List.set_cons_zero, List.set_cons_succ])
            refine wpAnyH_done (by kernel_rfl) ?_ _
            (try go_wp2_with fail)
            go_meet
            exact ⟨hS56.still hS, .inl ⟨he, t', rfl, rfl, hT'.lower (Nat.zero_le _)⟩⟩
          · refine hK.out _ _ (hS.still h11) (fun hHeld => ?_)
            replace hS := hS.still h11
            clear hK K_ hHeld
            try simp only [Act.put, List.setIfInBounds_toArray, List.set_cons_zero, List.set_cons_succ]
            (refine take_p (i := 7) (v := ?_) rfl (by kernel_rfl) (by kernel_rfl) (by kernel_rfl) (fun _ _ _ h => h) (Or.inl ⟨by rfl, ?_⟩) hS ?_; rotate_left; (focus (intro w0_ hSw; go_simp; try with_reducible rfl)); try simp only [Act.put, List.setIfInBounds_toArray, List.set_cons_zero, List.set_cons_succ])
            (refine take_p (i := 8) (v := ?_) rfl (by kernel_rfl) (by kernel_rfl) (by kernel_rfl) (fun _ _ _ h => h) (Or.inl ⟨by rfl, ?_⟩) hS ?_; rotate_left; (focus (intro w0_ hSw; go_simp; try with_reducible rfl)); try simp only [Act.put, List.setIfInBounds_toArray, List.set_cons_zero, List.set_cons_succ])
            (refine take_p (i := 9) (v := ?_) rfl (by kernel_rfl) (by kernel_rfl) (by kernel_rfl) (fun _ _ _ h => h) (Or.inl ⟨by rfl, ?_⟩) hS ?_; rotate_left; (focus (intro w0_ hSw; go_simp; try with_reducible rfl)); try simp only [Act.put, List.setIfInBounds_toArray, List.set_cons_zero, List.set_cons_succ])
            (refine take_p (i := 10) (v := ?_) rfl (by kernel_rfl) (by kernel_rfl) (by kernel_rfl) (fun _ _ _ h => h) (Or.inl ⟨by rfl, ?_⟩) hS ?_; rotate_left; (focus (intro w0_ hSw; go_simp; try with_reducible rfl)); try simp only [Act.put, List.setIfInBounds_toArray, List.set_cons_zero, List.set_cons_succ])
            (refine take_p (i := 11) (v := ?_) rfl (by kernel_rfl) (by kernel_rfl) (by kernel_rfl) (fun _ _ _ h => h) (Or.inl ⟨by rfl, ?_⟩) hS ?_; rotate_left; (focus (intro w0_ hSw; go_simp; try with_reducible rfl)); try simp only [Act.put, List.setIfInBounds_toArray, List.set_cons_zero, List.set_cons_succ])
            refine wpAnyH_done (by kernel_rfl) ?_ _
            (try go_wp2_with fail)
            go_meet
            exact ⟨hS56.still hS, .inr ⟨he, rfl, rfl⟩⟩
        · skip
          go_simp
          have hBg := Blk.new w7 35 #[.string z.nm, .int .u8 z.pol, .int .u16 z.tr]
          have hsn := Still.new w7 (.cells #[.string z.nm, .int .u8 z.pol, .int .u16 z.tr] 35)
          refine hK.out _ _ (Only.alloc hS _) (fun hHeld => ?_)
          clear hK K_ hHeld
          try simp only [Act.put, List.setIfInBounds_toArray, List.set_cons_zero, List.set_cons_succ]
          replace hS := Only.alloc hS (.cells #[.string z.nm, .int .u8 z.pol, .int .u16 z.tr] 35)
          obtain ⟨w8, hw_⟩ : ∃ w8, w8 = w7.alloc (.cells #[.string z.nm, .int .u8 z.pol, .int .u16 z.tr] 35) := ⟨_, rfl⟩
          obtain ⟨G, hG⟩ : ∃ G, G = w7.heap.size := ⟨_, rfl⟩
          rw [← hw_] at hBg hsn hS ⊢
          rw [← hG] at hBg ⊢
          replace own0 := own_only own0 hsn (fun _ _ h => h)
          have hGB : B0 < G := by omega
          clear hw_ hG hsn
          refine wpAnyH_ready (rs := [2]) (by kernel_rfl) (by simp) ?_
          refine cons_p rfl (fun K_ hK => ?_) AllReadyH.nil
          refine step_append_any rfl (.tmp 32) (.tmp 33) 22 rfl BB 35 i0 zNo 3 24 Try.underlying22 hi hz0 hz1 hz2 rfl (by decide) (.slice (some ⟨B0, 0, none⟩) 0 0) 0 [] rfl own0 _ A n c (zRow l) rfl (hr6.only hS (Nat.le_refl _) (fun _ _ h => h)) (zRow_one l) ?_ ?_ ?_ ?_
          · unfold maxLen; omega
          · omega
          · have := hS.size; omega
          intro v2 w9 v2own v2gr v2bl
          obtain ⟨v2A, v2c, v2h⟩ := own_shape v2own
          subst v2h
          have hSb : Still w6 w9 := hS.grown v2gr (fun q hq => .inr (Nat.le_trans hBB1 (own0.lt q hq).1))
          refine hK.out _ _ hSb (fun hHeld => ?_)
          clear hK K_ hHeld
          try simp only [Act.put, List.setIfInBounds_toArray, List.set_cons_zero, List.set_cons_succ]
          replace hS := hSb
          replace hBg := hBg.only ((Only.refl (· = B0) _).grown v2gr (fun q hq => .inl (by simpa [Value.ownBlock] using hq.symm))) (by omega)
          rw [Nat.zero_add, List.nil_append] at v2own
          rw [Nat.zero_add]
          have own2 := v2own
          clear v2own v2gr v2bl own0 hSb
          refine wpAnyH_ready (rs := [5]) (by kernel_rfl) (by simp) ?_
          refine cons_p rfl (fun K_ hK => ?_) AllReadyH.nil
          refine step_append_any rfl (.tmp 34) (.tmp 36) 22 rfl BB 35 i0 zNo 3 24 Try.underlying22 hi hz0 hz1 hz2 rfl (by decide) (.slice v2A n v2c) n (zRow l) rfl own2 _ _ 1 1 #[.string z.nm, .int .u8 z.pol, .int .u16 z.tr].toList rfl (reads_blk (B := G + 1) (n := 1) hBg (by omega) rfl) (zRow_one [z]) ?_ ?_ ?_ ?_
          · unfold maxLen; omega
          · omega
          · have := hS.size; omega
          intro v5 w10 v5own v5gr v5bl
          obtain ⟨v5A, v5c, v5h⟩ := own_shape v5own
          subst v5h
          have hSc : Still w6 w10 := hS.grown v5gr (fun q hq => .inr (Nat.le_trans hBB1 (own2.lt q hq).1))
          refine hK.out _ _ hSc (fun hHeld => ?_)
          clear hK K_ hHeld
          try simp only [Act.put, List.setIfInBounds_toArray, List.set_cons_zero, List.set_cons_succ]
          replace hS := hSc
          have own5 : w10.ownsRow BB 35 3 (.slice v5A (n + 1) v5c) (n + 1) (zRow (l ++ [z])) := by
            rw [zRow_append]
            exact v5own
          clear v5own v5gr v5bl own2 hBg hSc
          refine wpAnyH_ready (rs := [6]) (by kernel_rfl) (by simp) ?_
          refine cons_p rfl (fun K_ hK => ?_) AllReadyH.nil
          go_simp
          refine (new_any w10 v5A (n + 1) v5c (l ++ [z]) (by simp [hl]) ((Reads.of_own own5).more (by have := own5; exact Nat.le_refl _)) hokZ' (by omega)).mono ?_
          rintro e w11 (⟨he, t', rfl, hT', h11⟩ | ⟨he, rfl, h11⟩)
          · refine hK.out _ _ (hS.still h11) (fun hHeld => ?_)
            replace hS := hS.still h11
            clear hK K_ hHeld
            try simp only [Act.put, List.setIfInBounds_toArray, List.set_cons_zero, List.set_cons_succ]
            (refine take_p (i := 7) (v := ?_) rfl (by kernel_rfl) (by kernel_rfl) (by kernel_rfl) (fun _ _ _ h => h) (Or.inl ⟨by rfl, ?_⟩) hS ?_; rotate_left; (focus (intro w0_ hSw; go_simp; try with_reducible rfl)); try simp only [Act.put, List.setIfInBounds_toArray, List.set_cons_zero, List.set_cons_succ])
            (refine take_p (i := 8) (v := ?_) rfl (by kernel_rfl) (by kernel_rfl) (by kernel_rfl) (fun _ _ _ h => h) (Or.inl ⟨by rfl, ?_⟩) hS ?_; rotate_left; (focus (intro w0_ hSw; go_simp; try with_reducible rfl)); try simp only [Act.put, List.setIfInBounds_toArray, List.set_cons_zero, List.set_cons_succ])
            (refine take_p (i := 9) (v := ?_) rfl (by kernel_rfl) (by kernel_rfl) (by kernel_rfl) (fun _ _ _ h => h) (Or.inl ⟨by rfl, ?_⟩) hS ?_; rotate_left; (focus (intro w0_ hSw; go_simp; try with_reducible rfl)); try simp only [Act.put, List.setIfInBounds_toArray, List.set_cons_zero, List.set_cons_succ])
            (refine take_p (i := 10) (v := ?_) rfl (by kernel_rfl) (by kernel_rfl) (by kernel_rfl) (fun _ _ _ h => h) (Or.inl ⟨by rfl, ?_⟩) hS ?_; rotate_left; (focus (intro w0_ hSw; go_simp; try with_reducible rfl)); try simp only [Act.put, List.setIfInBounds_toArray, List.set_cons_zero, List.set_cons_succ])
            (refine take_p (i := 11) (v := ?_) rfl (by kernel_rfl) (by kernel_rfl) (by kernel_rfl) (fun _ _ _ h => h) (Or.inl ⟨by rfl, ?_⟩) hS ?_; rotate_left; (focus (intro w0_ hSw; go_simp; try with_reducible rfl)); try simp only [Act.put, List.setIfInBounds_toArray, List.set_cons_zero, List.set_cons_succ])
            refine wpAnyH_done (by kernel_rfl) ?_ _
            (try go_wp2_with fail)
            go_meet
            exact ⟨hS56.still hS, .inl ⟨he, t', rfl, rfl, hT'.lower (Nat.zero_le _)⟩⟩
          · refine hK.out _ _ (hS.still h11) (fun hHeld => ?_)
            replace hS := hS.still h11
            clear hK K_ hHeld
            try simp only [Act.put, List.setIfInBounds_toArray, List.set_cons_zero, List.set_cons_succ]
            (refine take_p (i := 7) (v := ?_) rfl (by kernel_rfl) (by kernel_rfl) (by kernel_rfl) (fun _ _ _ h => h) (Or.inl ⟨by rfl, ?_⟩) hS ?_; rotate_left; (focus (intro w0_ hSw; go_simp; try with_reducible rfl)); try simp only [Act.put, List.setIfInBounds_toArray, List.set_cons_zero, List.set_cons_succ])
            (refine take_p (i := 8) (v := ?_) rfl (by kernel_rfl) (by kernel_rfl) (by kernel_rfl) (fun _ _ _ h => h) (Or.inl ⟨by rfl, ?_⟩) hS ?_; rotate_left; (focus (intro w0_ hSw; go_simp; try with_reducible rfl)); try simp only [Act.put, List.setIfInBounds_toArray, List.set_cons_zero, List.set_cons_succ])
            (refine take_p (i := 9) (v := ?_) rfl (by kernel_rfl) (by kernel_rfl) (by kernel_rfl) (fun _ _ _ h => h) (Or.inl ⟨by rfl, ?_⟩) hS ?_; rotate_left; (focus (intro w0_ hSw; go_simp; try with_reducible rfl)); try simp only [Act.put, List.setIfInBounds_toArray, List.set_cons_zero, List.set_cons_succ])
            (refine take_p (i := 10) (v := ?_) rfl (by kernel_rfl) (by kernel_rfl) (by kernel_rfl) (fun _ _ _ h => h) (Or.inl ⟨by rfl, ?_⟩) hS ?_; rotate_left; (focus (intro w0_ hSw; go_simp; try with_reducible rfl)); try simp only [Act.put, List.setIfInBounds_toArray, List.set_cons_zero, List.set_cons_succ])
            (refine take_p (i := 11) (v := ?_) rfl (by kernel_rfl) (by kernel_rfl) (by kernel_rfl) (fun _ _ _ h => h) (Or.inl ⟨by rfl, ?_⟩) hS ?_; rotate_left; (focus (intro w0_ hSw; go_simp; try with_reducible rfl)); try simp only [Act.put, List.setIfInBounds_toArray, List.set_cons_zero, List.set_cons_succ])
            refine wpAnyH_done (by kernel_rfl) ?_ _
            (try go_wp2_with fail)
            go_meet
            exact ⟨hS56.still hS, .inr ⟨he, rfl, rfl⟩⟩
      · skip
        go_simp
        have hBg := Blk.new w6 35 #[.string z.nm, .int .u8 z.pol, .int .u16 z.tr]
        have hsn := Still.new w6 (.cells #[.string z.nm, .int .u8 z.pol, .int .u16 z.tr] 35)
        refine hK.out _ _ (Only.alloc hS _) (fun hHeld => ?_)
        clear hK K_ hHeld
        try simp only [Act.put, List.setIfInBounds_toArray, List.set_cons_zero, List.set_cons_succ]
        replace hS := Only.alloc hS (.cells #[.string z.nm, .int .u8 z.pol, .int .u16 z.tr] 35)
        obtain ⟨w7, hw_⟩ : ∃ w7, w7 = w6.alloc (.cells #[.string z.nm, .int .u8 z.pol, .int .u16 z.tr] 35) := ⟨_, rfl⟩
        obtain ⟨G, hG⟩ : ∃ G, G = w6.heap.size := ⟨_, rfl⟩
        rw [← hw_] at hBg hsn hS ⊢
        rw [← hG] at hBg ⊢
        clear hw_ hG hsn
        refine wpAnyH_ready (rs := [0]) (by kernel_rfl) (by simp) ?_
        refine cons_p rfl (fun K_ hK => ?_) AllReadyH.nil
        go_simp
        have own0 := World.ownsRow_lit (e := 35) (size := 3) (base := BB) w7 #[] 0 (by have := hS.size; omega) (by unfold maxLen; omega) rfl
        have hsn := Still.new w7 (.cells #[] 35)
        refine hK.out _ _ (Only.alloc hS _) (fun hHeld => ?_)
        clear hK K_ hHeld
        try simp only [Act.put, List.setIfInBounds_toArray, List.set_cons_zero, List.set_cons_succ]
        replace hS := Only.alloc hS (.cells #[] 35)
        obtain ⟨w8, hw_⟩ : ∃ w8, w8 = w7.alloc (.cells #[] 35) := ⟨_, rfl⟩
        obtain ⟨B0, hB0⟩ : ∃ B, B = w7.heap.size := ⟨_, rfl⟩
        rw [← hw_] at own0 hsn hS ⊢
        rw [← hB0] at own0 ⊢
        have hGB : G < B0 := by have := hBg.lt; omega
        replace hBg := hBg.only hsn (fun h => h)
        clear hw_ hB0 hsn
        refine wpAnyH_ready (rs := [2]) (by kernel_rfl) (by simp) ?_
        refine cons_p rfl (fun K_ hK => ?_) AllReadyH.nil
        refine step_append_any rfl (.tmp 32) (.tmp 33) 22 rfl BB 35 i0 zNo 3 24 Try.underlying22 hi hz0 hz1 hz2 rfl (by decide) (.slice (some ⟨B0, 0, none⟩) 0 0) 0 [] rfl own0 _ A n c (zRow l) rfl (hr6.only hS (Nat.le_refl _) (fun _ _ h => h)) (zRow_one l) ?_ ?_ ?_ ?_
        · unfold maxLen; omega
        · omega
        · have := hS.size; omega
        intro v2 w9 v2own v2gr v2bl
        obtain ⟨v2A, v2c, v2h⟩ := own_shape v2own
        subst v2h
        have hSb : Still w6 w9 := hS.grown v2gr (fun q hq => .inr (Nat.le_trans hBB1 (own0.lt q hq).1))
        refine hK.out _ _ hSb (fun hHeld => ?_)
        clear hK K_ hHeld
        try simp only [Act.put, List.setIfInBounds_toArray, List.set_cons_zero, List.set_cons_succ]
        replace hS := hSb
        replace hBg := hBg.only ((Only.refl (· = B0) _).grown v2gr (fun q hq => .inl (by simpa [Value.ownBlock] using hq.symm))) (by omega)
        rw [Nat.zero_add, List.nil_append] at v2own
        rw [Nat.zero_add]
        have own2 := v2own
        clear v2own v2gr v2bl own0 hSb
        refine wpAnyH_ready (rs := [5]) (by kernel_rfl) (by simp) ?_
        refine cons_p rfl (fun K_ hK => ?_) AllReadyH.nil
        refine step_append_any rfl (.tmp 34) (.tmp 36) 22 rfl BB 35 i0 zNo 3 24 Try.underlying22 hi hz0 hz1 hz2 rfl (by decide) (.slice v2A n v2c) n (zRow l) rfl own2 _ _ 1 1 #[.string z.nm, .int .u8 z.pol, .int .u16 z.tr].toList rfl (reads_blk (B := G + 1) (n := 1) hBg (by omega) rfl) (zRow_one [z]) ?_ ?_ ?_ ?_
        · unfold maxLen; omega
        · omega
        · have := hS.size; omega
        intro v5 w10 v5own v5gr v5bl
        obtain ⟨v5A, v5c, v5h⟩ := own_shape v5own
        subst v5h
        have hSc : Still w6 w10 := hS.grown v5gr (fun q hq => .inr (Nat.le_trans hBB1 (own2.lt q hq).1))
        refine hK.out _ _ hSc (fun hHeld => ?_)
        clear hK K_ hHeld
        try simp only [Act.put, List.setIfInBounds_toArray, List.set_cons_zero, List.set_cons_succ]
        replace hS := hSc
        have own5 : w10.ownsRow BB 35 3 (.slice v5A (n + 1) v5c) (n + 1) (zRow (l ++ [z])) := by
          rw [zRow_append]
          exact v5own
        clear v5own v5gr v5bl own2 hBg hSc
        refine wpAnyH_ready (rs := [6]) (by kernel_rfl) (by simp) ?_
        refine cons_p rfl (fun K_ hK => ?_) AllReadyH.nil
        go_simp
        refine (new_any w10 v5A (n + 1) v5c (l ++ [z]) (by simp [hl]) ((Reads.of_own own5).more (by have := own5; exact Nat.le_refl _)) hokZ' (by omega)).mono ?_
        rintro e w11 (⟨he, t', rfl, hT', h11⟩ | ⟨he, rfl, h11⟩)
        · refine hK.out _ _ (hS.still h11) (fun hHeld => ?_)
          replace hS := hS.still h11
          clear hK K_ hHeld
          try simp only [Act.put, List.setIfInBounds_toArray, List.set_cons_zero, List.set_cons_succ]
          (refine take_p (i := 7) (v := ?_) rfl (by kernel_rfl) (by kernel_rfl) (by kernel_rfl) (fun _ _ _ h => h) (Or.inl ⟨by rfl, ?_⟩) hS ?_; rotate_left; (focus (intro w0_ hSw; go_simp; try with_reducible rfl)); try simp only [Act.put, List.setIfInBounds_toArray, List.set_cons_zero, List.set_cons_succ])
          (refine take_p (i := 8) (v := ?_) rfl (by kernel_rfl) (by kernel_rfl) (by kernel_rfl) (fun _ _ _ h => h) (Or.inl ⟨by rfl, ?_⟩) hS ?_; rotate_left; (focus (intro w0_ hSw; go_simp; try with_reducible rfl)); try simp only [Act.put, List.setIfInBounds_toArray, List.set_cons_zero, List.set_cons_succ])
          (refine take_p (i := 9) (v := ?_) rfl (by kernel_rfl) (by kernel_rfl) (by kernel_rfl) (fun _ _ _ h => h) (Or.inl ⟨by rfl, ?_⟩) hS ?_; rotate_left; (focus (intro w0_ hSw; go_simp; try with_reducible rfl)); try simp only [Act.put, List.setIfInBounds_toArray, List.set_cons_zero, List.set_cons_succ])
          (refine take_p (i := 10) (v := ?_) rfl (by kernel_rfl) (by kernel_rfl) (by kernel_rfl) (fun _ _ _ h => h) (Or.inl ⟨by rfl, ?_⟩) hS ?_; rotate_left; (focus (intro w0_ hSw; go_simp; try with_reducible rfl)); try simp only [Act.put, List.setIfInBounds_toArray, List.set_cons_zero, List.set_cons_succ])
          (refine take_p (i := 11) (v := ?_) rfl (by kernel_rfl) (by kernel_rfl) (by kernel_rfl) (fun _ _ _ h => h) (Or.inl ⟨by rfl, ?_⟩) hS ?_; rotate_left; (focus (intro w0_ hSw; go_simp; try with_reducible rfl)); try simp only [Act.put, List.setIfInBounds_toArray, List.set_cons_zero, List.set_cons_succ])
          refine wpAnyH_done (by kernel_rfl) ?_ _
          (try go_wp2_with fail)
          go_meet
          exact ⟨hS56.still hS, .inl ⟨he, t', rfl, rfl, hT'.lower (Nat.zero_le _)⟩⟩
        · refine hK.out _ _ (hS.still h11) (fun hHeld => ?_)
          replace hS := hS.still h11
          clear hK K_ hHeld
          try simp only [Act.put, List.setIfInBounds_toArray, List.set_cons_zero, List.set_cons_succ]
          (refine take_p (i := 7) (v := ?_) rfl (by kernel_rfl) (by kernel_rfl) (by kernel_rfl) (fun _ _ _ h => h) (Or.inl ⟨by rfl, ?_⟩) hS ?_; rotate_left; (focus (intro w0_ hSw; go_simp; try with_reducible rfl)); try simp only [Act.put, List.setIfInBounds_toArray, List.set_cons_zero, List.set_cons_succ])
          (refine take_p (i := 8) (v := ?_) rfl (by kernel_rfl) (by kernel_rfl) (by kernel_rfl) (fun _ _ _ h => h) (Or.inl ⟨by rfl, ?_⟩) hS ?_; rotate_left; (focus (intro w0_ hSw; go_simp; try with_reducible rfl)); try simp only [Act.put, List.setIfInBounds_toArray, List.set_cons_zero, List.set_cons_succ])
          (refine take_p (i := 9) (v := ?_) rfl (by kernel_rfl) (by kernel_rfl) (by kernel_rfl) (fun _ _ _ h => h) (Or.inl ⟨by rfl, ?_⟩) hS ?_; rotate_left; (focus (intro w0_ hSw; go_simp; try with_reducible rfl)); try simp only [Act.put, List.setIfInBounds_toArray, List.set_cons_zero, List.set_cons_succ])
          (refine take_p (i := 10) (v := ?_) rfl (by kernel_rfl) (by kernel_rfl) (by kernel_rfl) (fun _ _ _ h => h) (Or.inl ⟨by rfl, ?_⟩) hS ?_; rotate_left; (focus (intro w0_ hSw; go_simp; try with_reducible rfl)); try simp only [Act.put, List.setIfInBounds_toArray, List.set_cons_zero, List.set_cons_succ])
          (refine take_p (i := 11) (v := ?_) rfl (by kernel_rfl) (by kernel_rfl) (by kernel_rfl) (fun _ _ _ h => h) (Or.inl ⟨by rfl, ?_⟩) hS ?_; rotate_left; (focus (intro w0_ hSw; go_simp; try with_reducible rfl)); try simp only [Act.put, List.setIfInBounds_toArray, List.set_cons_zero, List.set_cons_succ])
          refine wpAnyH_done (by kernel_rfl) ?_ _
          (try go_wp2_with fail)
          go_meet
          exact ⟨hS56.still hS, .inr ⟨he, rfl, rfl⟩⟩

    case rest =>
      obtain ⟨h5c, hcut⟩ := hcut
      have hSc := hS4.still h5c
      have hzbc := hzb5.only h5c (fun h => h)
      rcases Hnew.out with ⟨hm0, t, rfl, hT⟩ | hne
      · have hm0 := hm0.out
        subst hm0
        rcases hcut with ⟨he', t', rfl, rfl, hT'⟩ | ⟨he', rfl, rfl⟩
        · skip
          have hTc := hT.still h5c
          have h1 := HM.out
          have h2 := he'.out
          have hk0 := ((errZ_ok _).1 h1.symm).2
          have hk0' := ((errZ_ok _).1 h2).2
          obtain ⟨v, hv⟩ : ∃ v, v = findZ l s := ⟨_, rfl⟩
          obtain ⟨v', hv'⟩ : ∃ v', v' = findZ (l ++ [z]) s := ⟨_, rfl⟩
          have HF : Hid (v' = if inS s z.nm = true ∧ (l.any (fun y => inS s y.nm) = false ∨ nl v.nm < nl z.nm) then z else v) := Lib.hid (by rw [hv, hv']; exact find_more hk0' hk0 s)
          have hV : findZ l s = v := hv.symm
          have hV' : findZ (l ++ [z]) s = v' := hv'.symm
          have sv : v.nm.size ≤ 30000 := by rw [hv]; exact find_small hk0 s
          clear h1 h2 hk0 hk0' hv hv' Hnew HMM HM HM' he' hT h5c
          go_wp2_with fail
          refine (find_at s v hTc ss hV).mono ?_
          rintro e w7 ⟨rfl, h7⟩
          have hTd := hT'.still h7
          have hS7 := hSc.still h7
          have hzb7 := hzbc.only h7 (fun h => h)
          clear hTc h7 hT' hSc hzbc
          go_wp2_with fail
          refine (find_at s v' hTd ss hV').mono ?_
          rintro e w8 ⟨rfl, h8⟩
          have hS8 := hS7.still h8
          have hzb8 := hzb7.only h8 (fun h => h)
          have hs9 := (Still.new w8 (.cells #[.string v.nm, .int .u8 v.pol, .int .u16 v.tr] 35)).alloc (.cells #[.string v'.nm, .int .u8 v'.pol, .int .u16 v'.tr] 35)
          have hk1 := (Blk.new w8 35 #[.string v.nm, .int .u8 v.pol, .int .u16 v.tr]).alloc (.cells #[.string v'.nm, .int .u8 v'.pol, .int .u16 v'.tr] 35)
          have hk2 := Blk.at_ (w8.alloc (.cells #[.string v.nm, .int .u8 v.pol, .int .u16 v.tr] 35)) 35 #[.string v'.nm, .int .u8 v'.pol, .int .u16 v'.tr] (g := w8.heap.size + 1) (by simp)
          have hS9 := hS8.still hs9
          have hzb9 := hzb8.only hs9 (fun h => h)
          clear hTd h8 hS7 hzb7
          go_wp2_with fail
          obtain ⟨w9, hw9⟩ : ∃ w9, w9 = (w8.alloc (.cells #[.string v.nm, .int .u8 v.pol, .int .u16 v.tr] 35)).alloc (.cells #[.string v'.nm, .int .u8 v'.pol, .int .u16 v'.tr] 35) := ⟨_, rfl⟩
          obtain ⟨K2, hK2⟩ : ∃ K, K = w8.heap.size + 1 := ⟨_, rfl⟩
          rw [← hK2] at hk2 ⊢
          obtain ⟨K1, hK1⟩ : ∃ K, K = w8.heap.size := ⟨_, rfl⟩
          rw [← hw9] at hk1 hk2 hS9 hzb9 ⊢
          rw [← hK1] at hk1 ⊢
          clear hw9 hK2 hK1 hs9 hS8 hzb8 hV hV'
          go_loopw [13, 14] (fun i8 i9 wr => ∃ k : Nat, k ≤ n ∧ i9 = .int .i64 k ∧ (∃ b, i8 = .bool b ∧ Hid (b = (l.take k).any (fun y => inS s y.nm))) ∧ Still w wr ∧ Blk wr KZ 35 #[.string z.nm, .int .u8 z.pol, .int .u16 z.tr] ∧ Blk wr K1 35 #[.string v.nm, .int .u8 v.pol, .int .u16 v.tr] ∧ Blk wr K2 35 #[.string v'.nm, .int .u8 v'.pol, .int .u16 v'.tr]) (fun _ i9 _ => n - (intOf i9).toNat)
          case atStart => exact ⟨0, Nat.zero_le _, rfl, ⟨false, rfl, Lib.hid (by simp)⟩, hS9, hzb9, hk1, hk2⟩
          case round =>
            clear hS9 hzb9 hk1 hk2
            obtain ⟨k, hk, rfl, ⟨b, rfl, hb⟩, hst, hbk, hk1, hk2⟩ := hrel
            by_cases hlt : k < n
            · have hrr := hr.only hst (Nat.le_refl _) (fun _ _ h => h)
              obtain ⟨bl, off, y, hA, hbl, hlk, hy, x0, x1, x2⟩ := z3_cells hrr hl hlt
              subst hA
              have szk : y.nm.size ≤ 30000 := (hokZ y hy).1
              have hbn : Hid ((b || inS s y.nm) = (l.take (k + 1)).any (fun y => inS s y.nm)) := Lib.hid (by
                obtain ⟨hk2, e2⟩ := List.getElem?_eq_some_iff.1 hlk
                rw [List.take_succ_eq_append_getElem hk2, e2, List.any_append, hb.out]
                simp)
              have hkk : k + 1 ≤ n := by omega
              clear hlk hy hb
              cases b
              · go_wp2_with fail
                refine (within_s s y.nm ss szk _).mono ?_
                rintro e wx ⟨rfl, hx⟩
                go_wp2_with fail
                go_roundw
                case rel => exact ⟨k + 1, hkk, by go_num, ⟨_, rfl, hbn⟩, hst.still hx, hbk.only hx (fun h => h), hk1.only hx (fun h => h), hk2.only hx (fun h => h)⟩
                case measure => simp [intOf]; omega
              · go_wp2_with fail
                go_roundw
                case rel => exact ⟨k + 1, hkk, by go_num, ⟨_, rfl, hbn⟩, hst, hbk, hk1, hk2⟩
                case measure => simp [intOf]; omega
            · have hkn : k = n := by omega
              subst hkn
              have hb' := hb.out
              rw [List.take_of_length_le (by omega)] at hb'
              clear hb
              rcases hi : inS s z.nm with _ | _
              · have hvv : v' = v := by rw [HF.out, if_neg (by rw [hi]; rintro ⟨h, _⟩; cases h)]
                have eqz := eqz_eq hvv
                clear HF hb'
                go_wp2_with fail
                have hs_wz : Still wr wr.drew := (Only.refl _ _).drew
                obtain ⟨wz, hwz⟩ : ∃ wz, wz = wr.drew := ⟨_, rfl⟩
                refine wp_region_held_drew (S := fun w' => Still wr.drew w') (by kernel_rfl) (Only.refl _ _) (fun hS => ?_)
                rw [← hwz] at hs_wz hS ⊢
                clear hwz
                have hSz := hst.still hs_wz
                have hbz := hbk.only hs_wz (fun h => h)
                have hb1 := hk1.only hs_wz (fun h => h)
                have hb2 := hk2.only hs_wz (fun h => h)
                clear hs_wz
                obtain ⟨x0, x1, x2⟩ := blk3 hbz
                obtain ⟨y0, y1, y2⟩ := blk3 hb1
                clear x1 x2 y1 y2
                (refine take_p (i := 0) (v := ?_) rfl (by kernel_rfl) (by kernel_rfl) (by kernel_rfl) (fun _ _ _ h => h) (Or.inl ⟨by rfl, ?_⟩) hS ?_; rotate_left; (focus (intro w0_ hSw; go_simp; try with_reducible rfl)); try simp only [Act.put, List.setIfInBounds_toArray, List.set_cons_zero, List.set_cons_succ])
                (refine take_p (i := 1) (v := ?_) rfl (by kernel_rfl) (by kernel_rfl) (by kernel_rfl) (fun _ _ _ h => h) (Or.inl ⟨by rfl, ?_⟩) hS ?_; rotate_left; (focus (intro w0_ hSw; go_simp; try with_reducible rfl)); try simp only [Act.put, List.setIfInBounds_toArray, List.set_cons_zero, List.set_cons_succ])
                (refine take_p (i := 2) (v := ?_) rfl (by kernel_rfl) (by kernel_rfl) (by kernel_rfl) (fun _ _ _ h => h) (Or.inl ⟨by rfl, ?_⟩) hS ?_; rotate_left; (focus (intro w0_ hSw; have z0_ := hSw.cell_some (fun h => h) x0; go_simp; try with_reducible rfl)); try simp only [Act.put, List.setIfInBounds_toArray, List.set_cons_zero, List.set_cons_succ])
                refine wpAnyH_ready (rs := [3]) (by kernel_rfl) (by simp) ?_
                refine cons_p rfl (fun K_ hK => ?_) AllReadyH.nil
                go_simp
                refine (within_s s z.nm ss szn _).mono ?_
                rintro e w9 ⟨rfl, hs_⟩
                rw [hi]
                refine hK.out _ _ (hS.still hs_) (fun hHeld => ?_)
                replace hS := hS.still hs_
                clear hK K_ hHeld hs_
                try simp only [Act.put, List.setIfInBounds_toArray, List.set_cons_zero, List.set_cons_succ]
                (refine take_p (i := 4) (v := ?_) rfl (by kernel_rfl) (by kernel_rfl) (by kernel_rfl) (fun _ _ _ h => h) (Or.inl ⟨by rfl, ?_⟩) hS ?_; rotate_left; (focus (intro w0_ hSw; go_simp; try with_reducible rfl)); try simp only [Act.put, List.setIfInBounds_toArray, List.set_cons_zero, List.set_cons_succ])
                (refine take_p (i := 5) (v := undef) rfl (by kernel_rfl) (by kernel_rfl) (by kernel_rfl) (fun _ _ _ h => h) (Or.inr ⟨by rfl, rfl⟩) hS ?_; try simp only [Act.put, List.setIfInBounds_toArray, List.set_cons_zero, List.set_cons_succ])
                (refine take_p (i := 6) (v := undef) rfl (by kernel_rfl) (by kernel_rfl) (by kernel_rfl) (fun _ _ _ h => h) (Or.inr ⟨by rfl, rfl⟩) hS ?_; try simp only [Act.put, List.setIfInBounds_toArray, List.set_cons_zero, List.set_cons_succ])
                (refine take_p (i := 7) (v := undef) rfl (by kernel_rfl) (by kernel_rfl) (by kernel_rfl) (fun _ _ _ h => h) (Or.inr ⟨by rfl, rfl⟩) hS ?_; try simp only [Act.put, List.setIfInBounds_toArray, List.set_cons_zero, List.set_cons_succ])
                (refine take_p (i := 8) (v := undef) rfl (by kernel_rfl) (by kernel_rfl) (by kernel_rfl) (fun _ _ _ h => h) (Or.inr ⟨by rfl, rfl⟩) hS ?_; try simp only [Act.put, List.setIfInBounds_toArray, List.set_cons_zero, List.set_cons_succ])
                (refine take_p (i := 9) (v := undef) rfl (by kernel_rfl) (by kernel_rfl) (by kernel_rfl) (fun _ _ _ h => h) (Or.inr ⟨by rfl, rfl⟩) hS ?_; try simp only [Act.put, List.setIfInBounds_toArray, List.set_cons_zero, List.set_cons_succ])
                (refine take_p (i := 10) (v := undef) rfl (by kernel_rfl) (by kernel_rfl) (by kernel_rfl) (fun _ _ _ h => h) (Or.inr ⟨by rfl, rfl⟩) hS ?_; try simp only [Act.put, List.setIfInBounds_toArray, List.set_cons_zero, List.set_cons_succ])
                (refine take_p (i := 11) (v := undef) rfl (by kernel_rfl) (by kernel_rfl) (by kernel_rfl) (fun _ _ _ h => h) (Or.inr ⟨by rfl, rfl⟩) hS ?_; try simp only [Act.put, List.setIfInBounds_toArray, List.set_cons_zero, List.set_cons_succ])
                (refine take_p (i := 12) (v := undef) rfl (by kernel_rfl) (by kernel_rfl) (by kernel_rfl) (fun _ _ _ h => h) (Or.inr ⟨by rfl, rfl⟩) hS ?_; try simp only [Act.put, List.setIfInBounds_toArray, List.set_cons_zero, List.set_cons_succ])
                (refine take_p (i := 13) (v := undef) rfl (by kernel_rfl) (by kernel_rfl) (by kernel_rfl) (fun _ _ _ h => h) (Or.inr ⟨by rfl, rfl⟩) hS ?_; try simp only [Act.put, List.setIfInBounds_toArray, List.set_cons_zero, List.set_cons_succ])
                (refine take_p (i := 14) (v := undef) rfl (by kernel_rfl) (by kernel_rfl) (by kernel_rfl) (fun _ _ _ h => h) (Or.inr ⟨by rfl, rfl⟩) hS ?_; try simp only [Act.put, List.setIfInBounds_toArray, List.set_cons_zero, List.set_cons_succ])
                (refine take_p (i := 15) (v := undef) rfl (by kernel_rfl) (by kernel_rfl) (by kernel_rfl) (fun _ _ _ h => h) (Or.inr ⟨by rfl, rfl⟩) hS ?_; try simp only [Act.put, List.setIfInBounds_toArray, List.set_cons_zero, List.set_cons_succ])
                (refine take_p (i := 16) (v := ?_) rfl (by kernel_rfl) (by kernel_rfl) (by kernel_rfl) (fun _ _ _ h => h) (Or.inl ⟨by rfl, ?_⟩) hS ?_; rotate_left; (focus (intro w0_ hSw; go_simp; try with_reducible rfl)); try simp only [Act.put, List.setIfInBounds_toArray, List.set_cons_zero, List.set_cons_succ])
                refine wpAnyH_done (by kernel_rfl) ?_ _
                have hb1 := hb1.only hS (fun h => h)
                have hb2 := hb2.only hS (fun h => h)
                have hbz := hbz.only hS (fun h => h)
                obtain ⟨x0, x1, x2⟩ := blk3 hbz
                obtain ⟨y0, y1, y2⟩ := blk3 hb1
                obtain ⟨z0, z1, z2⟩ := blk3 hb2
                go_wp2_with fail
                go_ret
                exact ⟨rfl, hSz.still hS⟩
              · cases b
                · have hvv : v' = z := by rw [HF.out, if_pos ⟨hi, .inl hb'.symm⟩]
                  have eqz := eqz_eq hvv
                  clear HF hb'
                  go_wp2_with fail
                  have hs_wz : Still wr wr.drew := (Only.refl _ _).drew
                  obtain ⟨wz, hwz⟩ : ∃ wz, wz = wr.drew := ⟨_, rfl⟩
                  refine wp_region_held_drew (S := fun w' => Still wr.drew w') (by kernel_rfl) (Only.refl _ _) (fun hS => ?_)
                  rw [← hwz] at hs_wz hS ⊢
                  clear hwz
                  have hSz := hst.still hs_wz
                  have hbz := hbk.only hs_wz (fun h => h)
                  have hb1 := hk1.only hs_wz (fun h => h)
                  have hb2 := hk2.only hs_wz (fun h => h)
                  clear hs_wz
                  obtain ⟨x0, x1, x2⟩ := blk3 hbz
                  obtain ⟨y0, y1, y2⟩ := blk3 hb1
                  clear x1 x2 y1 y2
                  (refine take_p (i := 0) (v := ?_) rfl (by kernel_rfl) (by kernel_rfl) (by kernel_rfl) (fun _ _ _ h => h) (Or.inl ⟨by rfl, ?_⟩) hS ?_; rotate_left; (focus (intro w0_ hSw; go_simp; try with_reducible rfl)); try simp only [Act.put, List.setIfInBounds_toArray, List.set_cons_zero, List.set_cons_succ])
                  (refine take_p (i := 1) (v := ?_) rfl (by kernel_rfl) (by kernel_rfl) (by kernel_rfl) (fun _ _ _ h => h) (Or.inl ⟨by rfl, ?_⟩) hS ?_; rotate_left; (focus (intro w0_ hSw; go_simp; try with_reducible rfl)); try simp only [Act.put, List.setIfInBounds_toArray, List.set_cons_zero, List.set_cons_succ])
                  (refine take_p (i := 2) (v := ?_) rfl (by kernel_rfl) (by kernel_rfl) (by kernel_rfl) (fun _ _ _ h => h) (Or.inl ⟨by rfl, ?_⟩) hS ?_; rotate_left; (focus (intro w0_ hSw; have z0_ := hSw.cell_some (fun h => h) x0; go_simp; try with_reducible rfl)); try simp only [Act.put, List.setIfInBounds_toArray, List.set_cons_zero, List.set_cons_succ])
                  refine wpAnyH_ready (rs := [3]) (by kernel_rfl) (by simp) ?_
                  refine cons_p rfl (fun K_ hK => ?_) AllReadyH.nil
                  go_simp
                  refine (within_s s z.nm ss szn _).mono ?_
                  rintro e w9 ⟨rfl, hs_⟩
                  rw [hi]
                  refine hK.out _ _ (hS.still hs_) (fun hHeld => ?_)
                  replace hS := hS.still hs_
                  clear hK K_ hHeld hs_
                  try simp only [Act.put, List.setIfInBounds_toArray, List.set_cons_zero, List.set_cons_succ]
                  (refine take_p (i := 4) (v := ?_) rfl (by kernel_rfl) (by kernel_rfl) (by kernel_rfl) (fun _ _ _ h => h) (Or.inl ⟨by rfl, ?_⟩) hS ?_; rotate_left; (focus (intro w0_ hSw; go_simp; try with_reducible rfl)); try simp only [Act.put, List.setIfInBounds_toArray, List.set_cons_zero, List.set_cons_succ])
                  (refine take_p (i := 5) (v := ?_) rfl (by kernel_rfl) (by kernel_rfl) (by kernel_rfl) (fun _ _ _ h => h) (Or.inl ⟨by rfl, ?_⟩) hS ?_; rotate_left; (focus (intro w0_ hSw; go_simp; try with_reducible rfl)); try simp only [Act.put, List.setIfInBounds_toArray, List.set_cons_zero, List.set_cons_succ])
                  (refine take_p (i := 6) (v := ?_) rfl (by kernel_rfl) (by kernel_rfl) (by kernel_rfl) (fun _ _ _ h => h) (Or.inl ⟨by rfl, ?_⟩) hS ?_; rotate_left; (focus (intro w0_ hSw; go_simp; try with_reducible rfl)); try simp only [Act.put, List.setIfInBounds_toArray, List.set_cons_zero, List.set_cons_succ])
                  (refine take_p (i := 7) (v := ?_) rfl (by kernel_rfl) (by kernel_rfl) (by kernel_rfl) (fun _ _ _ h => h) (Or.inl ⟨by rfl, ?_⟩) hS ?_; rotate_left; (focus (intro w0_ hSw; go_simp; try with_reducible rfl)); try simp only [Act.put, List.setIfInBounds_toArray, List.set_cons_zero, List.set_cons_succ])
                  (refine take_p (i := 8) (v := undef) rfl (by kernel_rfl) (by kernel_rfl) (by kernel_rfl) (fun _ _ _ h => h) (Or.inr ⟨by rfl, rfl⟩) hS ?_; try simp only [Act.put, List.setIfInBounds_toArray, List.set_cons_zero, List.set_cons_succ])
                  (refine take_p (i := 9) (v := undef) rfl (by kernel_rfl) (by kernel_rfl) (by kernel_rfl) (fun _ _ _ h => h) (Or.inr ⟨by rfl, rfl⟩) hS ?_; try simp only [Act.put, List.setIfInBounds_toArray, List.set_cons_zero, List.set_cons_succ])
                  (refine take_p (i := 10) (v := undef) rfl (by kernel_rfl) (by kernel_rfl) (by kernel_rfl) (fun _ _ _ h => h) (Or.inr ⟨by rfl, rfl⟩) hS ?_; try simp only [Act.put, List.setIfInBounds_toArray, List.set_cons_zero, List.set_cons_succ])
                  (refine take_p (i := 11) (v := undef) rfl (by kernel_rfl) (by kernel_rfl) (by kernel_rfl) (fun _ _ _ h => h) (Or.inr ⟨by rfl, rfl⟩) hS ?_; try simp only [Act.put, List.setIfInBounds_toArray, List.set_cons_zero, List.set_cons_succ])
                  (refine take_p (i := 12) (v := undef) rfl (by kernel_rfl) (by kernel_rfl) (by kernel_rfl) (fun _ _ _ h => h) (Or.inr ⟨by rfl, rfl⟩) hS ?_; try simp only [Act.put, List.setIfInBounds_toArray, List.set_cons_zero, List.set_cons_succ])
                  (refine take_p (i := 13) (v := undef) rfl (by kernel_rfl) (by kernel_rfl) (by kernel_rfl) (fun _ _ _ h => h) (Or.inr ⟨by rfl, rfl⟩) hS ?_; try simp only [Act.put, List.setIfInBounds_toArray, List.set_cons_zero, List.set_cons_succ])
                  (refine take_p (i := 14) (v := undef) rfl (by kernel_rfl) (by kernel_rfl) (by kernel_rfl) (fun _ _ _ h => h) (Or.inr ⟨by rfl, rfl⟩) hS ?_; try simp only [Act.put, List.setIfInBounds_toArray, List.set_cons_zero, List.set_cons_succ])
                  (refine take_p (i := 15) (v := ?_) rfl (by kernel_rfl) (by kernel_rfl) (by kernel_rfl) (fun _ _ _ h => h) (Or.inl ⟨by rfl, ?_⟩) hS ?_; rotate_left; (focus (intro w0_ hSw; go_simp; try with_reducible rfl)); try simp only [Act.put, List.setIfInBounds_toArray, List.set_cons_zero, List.set_cons_succ])
                  (refine take_p (i := 16) (v := ?_) rfl (by kernel_rfl) (by kernel_rfl) (by kernel_rfl) (fun _ _ _ h => h) (Or.inl ⟨by rfl, ?_⟩) hS ?_; rotate_left; (focus (intro w0_ hSw; go_simp; try with_reducible rfl)); try simp only [Act.put, List.setIfInBounds_toArray, List.set_cons_zero, List.set_cons_succ])
                  refine wpAnyH_done (by kernel_rfl) ?_ _
                  have hb1 := hb1.only hS (fun h => h)
                  have hb2 := hb2.only hS (fun h => h)
                  have hbz := hbz.only hS (fun h => h)
                  obtain ⟨x0, x1, x2⟩ := blk3 hbz
                  obtain ⟨y0, y1, y2⟩ := blk3 hb1
                  obtain ⟨z0, z1, z2⟩ := blk3 hb2
                  go_wp2_with fail
                  go_ret
                  exact ⟨rfl, hSz.still hS⟩
                · by_cases hgt : nl v.nm < nl z.nm
                  · have hvv : v' = z := by rw [HF.out, if_pos ⟨hi, .inr hgt⟩]
                    have eqz := eqz_eq hvv
                    clear HF hb'
                    go_wp2_with fail
                    have hs_wz : Still wr wr.drew := (Only.refl _ _).drew
                    obtain ⟨wz, hwz⟩ : ∃ wz, wz = wr.drew := ⟨_, rfl⟩
                    refine wp_region_held_drew (S := fun w' => Still wr.drew w') (by kernel_rfl) (Only.refl _ _) (fun hS => ?_)
                    rw [← hwz] at hs_wz hS ⊢
                    clear hwz
                    have hSz := hst.still hs_wz
                    have hbz := hbk.only hs_wz (fun h => h)
                    have hb1 := hk1.only hs_wz (fun h => h)
                    have hb2 := hk2.only hs_wz (fun h => h)
                    clear hs_wz
                    obtain ⟨x0, x1, x2⟩ := blk3 hbz
                    obtain ⟨y0, y1, y2⟩ := blk3 hb1
                    clear x1 x2 y1 y2
                    (refine take_p (i := 0) (v := ?_) rfl (by kernel_rfl) (by kernel_rfl) (by kernel_rfl) (fun _ _ _ h => h) (Or.inl ⟨by rfl, ?_⟩) hS ?_; rotate_left; (focus (intro w0_ hSw; go_simp; try with_reducible rfl)); try simp only [Act.put, List.setIfInBounds_toArray, List.set_cons_zero, List.set_cons_succ])
                    (refine take_p (i := 1) (v := ?_) rfl (by kernel_rfl) (by kernel_rfl) (by kernel_rfl) (fun _ _ _ h => h) (Or.inl ⟨by rfl, ?_⟩) hS ?_; rotate_left; (focus (intro w0_ hSw; go_simp; try with_reducible rfl)); try simp only [Act.put, List.setIfInBounds_toArray, List.set_cons_zero, List.set_cons_succ])
                    (refine take_p (i := 2) (v := ?_) rfl (by kernel_rfl) (by kernel_rfl) (by kernel_rfl) (fun _ _ _ h => h) (Or.inl ⟨by rfl, ?_⟩) hS ?_; rotate_left; (focus (intro w0_ hSw; have z0_ := hSw.cell_some (fun h => h) x0; go_simp; try with_reducible rfl)); try simp only [Act.put, List.setIfInBounds_toArray, List.set_cons_zero, List.set_cons_succ])
                    refine wpAnyH_ready (rs := [3]) (by kernel_rfl) (by simp) ?_
                    refine cons_p rfl (fun K_ hK => ?_) AllReadyH.nil
                    go_simp
                    refine (within_s s z.nm ss szn _).mono ?_
                    rintro e w9 ⟨rfl, hs_⟩
                    rw [hi]
                    refine hK.out _ _ (hS.still hs_) (fun hHeld => ?_)
                    replace hS := hS.still hs_
                    clear hK K_ hHeld hs_
                    try simp only [Act.put, List.setIfInBounds_toArray, List.set_cons_zero, List.set_cons_succ]
                    (refine take_p (i := 4) (v := ?_) rfl (by kernel_rfl) (by kernel_rfl) (by kernel_rfl) (fun _ _ _ h => h) (Or.inl ⟨by rfl, ?_⟩) hS ?_; rotate_left; (focus (intro w0_ hSw; go_simp; try with_reducible rfl)); try simp only [Act.put, List.setIfInBounds_toArray, List.set_cons_zero, List.set_cons_succ])
                    (refine take_p (i := 5) (v := ?_) rfl (by kernel_rfl) (by kernel_rfl) (by kernel_rfl) (fun _ _ _ h => h) (Or.inl ⟨by rfl, ?_⟩) hS ?_; rotate_left; (focus (intro w0_ hSw; go_simp; try with_reducible rfl)); try simp only [Act.put, List.setIfInBounds_toArray, List.set_cons_zero, List.set_cons_succ])
                    (refine take_p (i := 6) (v := ?_) rfl (by kernel_rfl) (by kernel_rfl) (by kernel_rfl) (fun _ _ _ h => h) (Or.inl ⟨by rfl, ?_⟩) hS ?_; rotate_left; (focus (intro w0_ hSw; go_simp; try with_reducible rfl)); try simp only [Act.put, List.setIfInBounds_toArray, List.set_cons_zero, List.set_cons_succ])
                    (refine take_p (i := 7) (v := ?_) rfl (by kernel_rfl) (by kernel_rfl) (by kernel_rfl) (fun _ _ _ h => h) (Or.inl ⟨by rfl, ?_⟩) hS ?_; rotate_left; (focus (intro w0_ hSw; go_simp; try with_reducible rfl)); try simp only [Act.put, List.setIfInBounds_toArray, List.set_cons_zero, List.set_cons_succ])
                    (refine take_p (i := 8) (v := ?_) rfl (by kernel_rfl) (by kernel_rfl) (by kernel_rfl) (fun _ _ _ h => h) (Or.inl ⟨by rfl, ?_⟩) hS ?_; rotate_left; (focus (intro w0_ hSw; go_simp; try with_reducible rfl)); try simp only [Act.put, List.setIfInBounds_toArray, List.set_cons_zero, List.set_cons_succ])
                    (refine take_p (i := 9) (v := ?_) rfl (by kernel_rfl) (by kernel_rfl) (by kernel_rfl) (fun _ _ _ h => h) (Or.inl ⟨by rfl, ?_⟩) hS ?_; rotate_left; (focus (intro w0_ hSw; have z0_ := hSw.cell_some (fun h => h) x0; go_simp; try with_reducible rfl)); try simp only [Act.put, List.setIfInBounds_toArray, List.set_cons_zero, List.set_cons_succ])
                    (refine take_p (i := 11) (v := ?_) rfl (by kernel_rfl) (by kernel_rfl) (by kernel_rfl) (fun _ _ _ h => h) (Or.inl ⟨by rfl, ?_⟩) hS ?_; rotate_left; (focus (intro w0_ hSw; go_simp; try with_reducible rfl)); try simp only [Act.put, List.setIfInBounds_toArray, List.set_cons_zero, List.set_cons_succ])
                    (refine take_p (i := 12) (v := ?_) rfl (by kernel_rfl) (by kernel_rfl) (by kernel_rfl) (fun _ _ _ h => h) (Or.inl ⟨by rfl, ?_⟩) hS ?_; rotate_left; (focus (intro w0_ hSw; have z0_ := hSw.cell_some (fun h => h) y0; go_simp; try with_reducible rfl)); try simp only [Act.put, List.setIfInBounds_toArray, List.set_cons_zero, List.set_cons_succ])
                    refine wpAnyH_ready (rs := [10]) (by kernel_rfl) (by simp) ?_
                    refine cons_p rfl (fun K_ hK => ?_) AllReadyH.nil
                    go_simp
                    refine (labels18 _ _ szn).mono ?_
                    rintro e w9 ⟨rfl, hs_⟩
                    refine hK.out _ _ (hS.still hs_) (fun hHeld => ?_)
                    replace hS := hS.still hs_
                    clear hK K_ hHeld hs_
                    try simp only [Act.put, List.setIfInBounds_toArray, List.set_cons_zero, List.set_cons_succ]
                    refine wpAnyH_ready (rs := [13]) (by kernel_rfl) (by simp) ?_
                    refine cons_p rfl (fun K_ hK => ?_) AllReadyH.nil
                    go_simp
                    refine (labels18 _ _ sv).mono ?_
                    rintro e w9 ⟨rfl, hs_⟩
                    refine hK.out _ _ (hS.still hs_) (fun hHeld => ?_)
                    replace hS := hS.still hs_
                    clear hK K_ hHeld hs_
                    try simp only [Act.put, List.setIfInBounds_toArray, List.set_cons_zero, List.set_cons_succ]
                    (refine take_p (i := 14) (v := ?_) rfl (by kernel_rfl) (by kernel_rfl) (by kernel_rfl) (fun _ _ _ h => h) (Or.inl ⟨by rfl, ?_⟩) hS ?_; rotate_left; (focus (intro w0_ hSw; go_simp; try with_reducible rfl)); try simp only [Act.put, List.setIfInBounds_toArray, List.set_cons_zero, List.set_cons_succ])
                    (refine take_p (i := 15) (v := ?_) rfl (by kernel_rfl) (by kernel_rfl) (by kernel_rfl) (fun _ _ _ h => h) (Or.inl ⟨by rfl, ?_⟩) hS ?_; rotate_left; (focus (intro w0_ hSw; go_simp; try with_reducible rfl)); try simp only [Act.put, List.setIfInBounds_toArray, List.set_cons_zero, List.set_cons_succ])
                    (refine take_p (i := 16) (v := ?_) rfl (by kernel_rfl) (by kernel_rfl) (by kernel_rfl) (fun _ _ _ h => h) (Or.inl ⟨by rfl, ?_⟩) hS ?_; rotate_left; (focus (intro w0_ hSw; go_simp; try with_reducible rfl)); try simp only [Act.put, List.setIfInBounds_toArray, List.set_cons_zero, List.set_cons_succ])
                    refine wpAnyH_done (by kernel_rfl) ?_ _
                    have hb1 := hb1.only hS (fun h => h)
                    have hb2 := hb2.only hS (fun h => h)
                    have hbz := hbz.only hS (fun h => h)
                    obtain ⟨x0, x1, x2⟩ := blk3 hbz
                    obtain ⟨y0, y1, y2⟩ := blk3 hb1
                    obtain ⟨z0, z1, z2⟩ := blk3 hb2
                    go_wp2_with fail
                    go_ret
                    exact ⟨rfl, hSz.still hS⟩
                  · have hvv : v' = v := by
                      rw [HF.out, if_neg]
                      rintro ⟨_, h | h⟩
                      · rw [← hb'] at h; cases h
                      · exact hgt h
                    have eqz := eqz_eq hvv
                    clear HF hb'
                    go_wp2_with fail
                    have hs_wz : Still wr wr.drew := (Only.refl _ _).drew
                    obtain ⟨wz, hwz⟩ : ∃ wz, wz = wr.drew := ⟨_, rfl⟩
                    refine wp_region_held_drew (S := fun w' => Still wr.drew w') (by kernel_rfl) (Only.refl _ _) (fun hS => ?_)
                    rw [← hwz] at hs_wz hS ⊢
                    clear hwz
                    have hSz := hst.still hs_wz
                    have hbz := hbk.only hs_wz (fun h => h)
                    have hb1 := hk1.only hs_wz (fun h => h)
                    have hb2 := hk2.only hs_wz (fun h => h)
                    clear hs_wz
                    obtain ⟨x0, x1, x2⟩ := blk3 hbz
                    obtain ⟨y0, y1, y2⟩ := blk3 hb1
                    clear x1 x2 y1 y2
                    (refine take_p (i := 0) (v := ?_) rfl (by kernel_rfl) (by kernel_rfl) (by kernel_rfl) (fun _ _ _ h => h) (Or.inl ⟨by rfl, ?_⟩) hS ?_; rotate_left; (focus (intro w0_ hSw; go_simp; try with_reducible rfl)); try simp only [Act.put, List.setIfInBounds_toArray, List.set_cons_zero, List.set_cons_succ])
                    (refine take_p (i := 1) (v := ?_) rfl (by kernel_rfl) (by kernel_rfl) (by kernel_rfl) (fun _ _ _ h => h) (Or.inl ⟨by rfl, ?_⟩) hS ?_; rotate_left; (focus (intro w0_ hSw; go_simp; try with_reducible rfl)); try simp only [Act.put, List.setIfInBounds_toArray, List.set_cons_zero, List.set_cons_succ])
                    (refine take_p (i := 2) (v := ?_) rfl (by kernel_rfl) (by kernel_rfl) (by kernel_rfl) (fun _ _ _ h => h) (Or.inl ⟨by rfl, ?_⟩) hS ?_; rotate_left; (focus (intro w0_ hSw; have z0_ := hSw.cell_some (fun h => h) x0; go_simp; try with_reducible rfl)); try simp only [Act.put, List.setIfInBounds_toArray, List.set_cons_zero, List.set_cons_succ])
                    refine wpAnyH_ready (rs := [3]) (by kernel_rfl) (by simp) ?_
                    refine cons_p rfl (fun K_ hK => ?_) AllReadyH.nil
                    go_simp
                    refine (within_s s z.nm ss szn _).mono ?_
                    rintro e w9 ⟨rfl, hs_⟩
                    rw [hi]
                    refine hK.out _ _ (hS.still hs_) (fun hHeld => ?_)
                    replace hS := hS.still hs_
                    clear hK K_ hHeld hs_
                    try simp only [Act.put, List.setIfInBounds_toArray, List.set_cons_zero, List.set_cons_succ]
                    (refine take_p (i := 4) (v := ?_) rfl (by kernel_rfl) (by kernel_rfl) (by kernel_rfl) (fun _ _ _ h => h) (Or.inl ⟨by rfl, ?_⟩) hS ?_; rotate_left; (focus (intro w0_ hSw; go_simp; try with_reducible rfl)); try simp only [Act.put, List.setIfInBounds_toArray, List.set_cons_zero, List.set_cons_succ])
                    (refine take_p (i := 5) (v := ?_) rfl (by kernel_rfl) (by kernel_rfl) (by kernel_rfl) (fun _ _ _ h => h) (Or.inl ⟨by rfl, ?_⟩) hS ?_; rotate_left; (focus (intro w0_ hSw; go_simp; try with_reducible rfl)); try simp only [Act.put, List.setIfInBounds_toArray, List.set_cons_zero, List.set_cons_succ])
                    (refine take_p (i := 6) (v := ?_) rfl (by kernel_rfl) (by kernel_rfl) (by kernel_rfl) (fun _ _ _ h => h) (Or.inl ⟨by rfl, ?_⟩) hS ?_; rotate_left; (focus (intro w0_ hSw; go_simp; try with_reducible rfl)); try simp only [Act.put, List.setIfInBounds_toArray, List.set_cons_zero, List.set_cons_succ])
                    (refine take_p (i := 7) (v := ?_) rfl (by kernel_rfl) (by kernel_rfl) (by kernel_rfl) (fun _ _ _ h => h) (Or.inl ⟨by rfl, ?_⟩) hS ?_; rotate_left; (focus (intro w0_ hSw; go_simp; try with_reducible rfl)); try simp only [Act.put, List.setIfInBounds_toArray, List.set_cons_zero, List.set_cons_succ])
                    (refine take_p (i := 8) (v := ?_) rfl (by kernel_rfl) (by kernel_rfl) (by kernel_rfl) (fun _ _ _ h => h) (Or.inl ⟨by rfl, ?_⟩) hS ?_; rotate_left; (focus (intro w0_ hSw; go_simp; try with_reducible rfl)); try simp only [Act.put, List.setIfInBounds_toArray, List.set_cons_zero, List.set_cons_succ])
                    (refine take_p (i := 9) (v := ?_) rfl (by kernel_rfl) (by kernel_rfl) (by kernel_rfl) (fun _ _ _ h => h) (Or.inl ⟨by rfl, ?_⟩) hS ?_; rotate_left; (focus (intro w0_ hSw; have z0_ := hSw.cell_some (fun h => h) x0; go_simp; try with_reducible rfl)); try simp only [Act.put, List.setIfInBounds_toArray, List.set_cons_zero, List.set_cons_succ])
                    (refine take_p (i := 11) (v := ?_) rfl (by kernel_rfl) (by kernel_rfl) (by kernel_rfl) (fun _ _ _ h => h) (Or.inl ⟨by rfl, ?_⟩) hS ?_; rotate_left; (focus (intro w0_ hSw; go_simp; try with_reducible rfl)); try simp only [Act.put, List.setIfInBounds_toArray, List.set_cons_zero, List.set_cons_succ])
                    (refine take_p (i := 12) (v := ?_) rfl (by kernel_rfl) (by kernel_rfl) (by kernel_rfl) (fun _ _ _ h => h) (Or.inl ⟨by rfl, ?_⟩) hS ?_; rotate_left; (focus (intro w0_ hSw; have z0_ := hSw.cell_some (fun h => h) y0; go_simp; try with_reducible rfl)); try simp only [Act.put, List.setIfInBounds_toArray, List.set_cons_zero, List.set_cons_succ])
                    refine wpAnyH_ready (rs := [10]) (by kernel_rfl) (by simp) ?_
                    refine cons_p rfl (fun K_ hK => ?_) AllReadyH.nil
                    go_simp
                    refine (labels18 _ _ szn).mono ?_
                    rintro e w9 ⟨rfl, hs_⟩
                    refine hK.out _ _ (hS.still hs_) (fun hHeld => ?_)
                    replace hS := hS.still hs_
                    clear hK K_ hHeld hs_
                    try simp only [Act.put, List.setIfInBounds_toArray, List.set_cons_zero, List.set_cons_succ]
                    refine wpAnyH_ready (rs := [13]) (by kernel_rfl) (by simp) ?_
                    refine cons_p rfl (fun K_ hK => ?_) AllReadyH.nil
                    go_simp
                    refine (labels18 _ _ sv).mono ?_
                    rintro e w9 ⟨rfl, hs_⟩
                    refine hK.out _ _ (hS.still hs_) (fun hHeld => ?_)
                    replace hS := hS.still hs_
                    clear hK K_ hHeld hs_
                    try simp only [Act.put, List.setIfInBounds_toArray, List.set_cons_zero, List.set_cons_succ]
                    (refine take_p (i := 14) (v := ?_) rfl (by kernel_rfl) (by kernel_rfl) (by kernel_rfl) (fun _ _ _ h => h) (Or.inl ⟨by rfl, ?_⟩) hS ?_; rotate_left; (focus (intro w0_ hSw; go_simp; try with_reducible rfl)); try simp only [Act.put, List.setIfInBounds_toArray, List.set_cons_zero, List.set_cons_succ])
                    (refine take_p (i := 15) (v := ?_) rfl (by kernel_rfl) (by kernel_rfl) (by kernel_rfl) (fun _ _ _ h => h) (Or.inl ⟨by rfl, ?_⟩) hS ?_; rotate_left; (focus (intro w0_ hSw; go_simp; try with_reducible rfl)); try simp only [Act.put, List.setIfInBounds_toArray, List.set_cons_zero, List.set_cons_succ])
                    (refine take_p (i := 16) (v := ?_) rfl (by kernel_rfl) (by kernel_rfl) (by kernel_rfl) (fun _ _ _ h => h) (Or.inl ⟨by rfl, ?_⟩) hS ?_; rotate_left; (focus (intro w0_ hSw; go_simp; try with_reducible rfl)); try simp only [Act.put, List.setIfInBounds_toArray, List.set_cons_zero, List.set_cons_succ])
                    refine wpAnyH_done (by kernel_rfl) ?_ _
                    have hb1 := hb1.only hS (fun h => h)
                    have hb2 := hb2.only hS (fun h => h)
                    have hbz := hbz.only hS (fun h => h)
                    obtain ⟨x0, x1, x2⟩ := blk3 hbz
                    obtain ⟨y0, y1, y2⟩ := blk3 hb1
                    obtain ⟨z0, z1, z2⟩ := blk3 hb2
                    go_wp2_with fail
                    go_ret
                    exact ⟨rfl, hSz.still hS⟩
        · have HE := he'.out
          generalize errZ (l ++ [z]) = q at HE ⊢
          have hd0 : decide ((q : Int) = 0) = false := decide_eq_false (by omega)
          have hd1 : ((q : Int) == 0) = false := by rw [beq_eq_false_iff_ne]; omega
          clear he'
          go_wp2_with fail
          go_ret
          exact ⟨rfl, hSc⟩
      · obtain ⟨hm0, rfl⟩ := hne.out
        rcases hcut with ⟨he', t', rfl, rfl, hT'⟩ | ⟨he', rfl, rfl⟩
        · exact absurd (HMM.out (HM'.out.trans he'.out)) hm0
        · have HE := he'.out
          generalize errZ (l ++ [z]) = q at HE ⊢
          have hd0 : decide ((q : Int) = 0) = false := decide_eq_false (by omega)
          have hd1 : ((q : Int) == 0) = false := by rw [beq_eq_false_iff_ne]; omega
          have hd2 : decide ((m : Int) = 0) = false := decide_eq_false (by omega)
          have hd3 : ((m : Int) == 0) = false := by rw [beq_eq_false_iff_ne]; omega
          clear he'
          go_wp2_with fail
          go_ret
          refine ⟨?_, hSc⟩
          show Ending.returned (.bool ((q : Int) != 0)) = _
          rw [bne, hd1]
          rfl
end Go.Proofs.Ytinjfongndlpgaa
