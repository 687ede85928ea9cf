/-
  Package name: the reader's steps.
-/
import Derived.Test.YtjenabcjikdnaaaNameRd
namespace Go.Proofs.Ytjenabcjikdnaaa
open Go.RowKit
set_option linter.unusedVariables false
set_option linter.unusedSimpArgs false

theorem own_cut {w : World} {base n c : Nat} {e : TypeId} {A : Option Addr} {xs : List Value} (h : w.ownsRow base e 1 (.slice A n c) n xs) (hn : 0 < n := by assumption) : w.ownsRow base e 1 (.slice A 0 c) 0 [] := by
  rcases h.2 with ⟨_, h0⟩ | ⟨g, cap, cur, hv, hb, hh, h1, h2, h3, h4⟩
  · omega
  · injection hv with hA hn' hc
    subst hA; subst hc
    exact ⟨rfl, .inr ⟨g, c, cur, rfl, hb, hh, by omega, h2, h3, by simp⟩⟩
theorem own_some {w : World} {base n c : Nat} {e : TypeId} {A : Option Addr} {xs : List Value} (h : w.ownsRow base e 1 (.slice A n c) n xs) (hn : 0 < n) : ∃ g, A = some ⟨g, 0, none⟩ ∧ n ≤ c := by
  rcases h.2 with ⟨_, h0⟩ | ⟨g, cap, cur, hv, hb, hh, h1, _⟩
  · omega
  · injection hv with hA hn' hc
    exact ⟨g, hA, by omega⟩

set_option maxRecDepth 1000000 in
set_option maxHeartbeats 3200000 in
theorem endLabel_no (b base : Nat) (s : St) (hl0 : s.lab.length = 0) (w : World) (h : Rdr w b base s) :
    Calls Try.prog 50 #[.pointer (some ⟨b, 0, none⟩)] w fun e w' => e = .returned (.bool false) ∧ w = w' := by
  obtain ⟨hlt, hle, hok, v1, v2, hB, ho1, ho2⟩ := h
  obtain ⟨c0, c1, c2, c3, c4⟩ := blk5 hB
  rw [hl0] at ho2
  obtain ⟨B, cB, hv⟩ := own_shape ho2
  subst hv
  clear hB ho1 ho2 hl0
  go_enter Try.func50, Try.ntmps50
  go_wp2_with fail
  go_ret
  exact ⟨rfl, rfl⟩
set_option maxRecDepth 1000000 in
set_option maxHeartbeats 3200000 in
theorem endLabel_any (b base : Nat) (s : St) (hl0 : 0 < s.lab.length) (hl : s.ls.length ≤ 1000000) (w1 : World) (h : Rdr w1 b base s) :
    Calls Try.prog 50 #[.pointer (some ⟨b, 0, none⟩)] w1 fun e w' => e = .returned (.bool true) ∧ Rdr w' b base ⟨s.ls ++ [s.lab], [], s.sl, s.d, s.code⟩ ∧ Only (Fr b base) w1 w' := by
  obtain ⟨i0, hi, hz0, hz1, hz2⟩ := info_parts info_str
  have hle1 := h.le
  obtain ⟨hlt, hle, hok, v1, v2, hB1, ho1', ho2'⟩ := h
  have Hok := Lib.hid hok
  clear hok
  obtain ⟨c0, c1, c2, c3, c4⟩ := blk5 hB1
  obtain ⟨A, cA, hv⟩ := own_shape ho1'
  subst hv
  obtain ⟨B, cB, hv⟩ := own_shape ho2'
  subst hv
  have hoF : Only (Fr b base) w1 w1 := Only.refl _ _
  have j1 : ((s.lab.length : Int) == 0) = false := by rw [beq_eq_false_iff_ne]; omega
  go_enter Try.func50, Try.ntmps50
  go_wp2_with fail
  clear c0 c1 c2 c3 c4
  obtain ⟨w2, hw2⟩ : ∃ w2, w2 = w1.drew := ⟨_, rfl⟩
  have hs12 : Still w1 w2 := by rw [hw2]; exact (Only.refl _ _).drew
  obtain ⟨c0, c1, c2, c3, c4⟩ := blk5 hB1
  refine wp_region_held_drew (S := fun w' => w'.cell? ⟨b, 1, none⟩ = some (.slice B s.lab.length cB) ∧ w'.ownsRow base 5 1 (.slice B s.lab.length cB) s.lab.length (bv s.lab) ∧ Only (Fr b base) w1.drew w') (by kernel_rfl) ⟨c1, ho2', Only.refl _ _⟩ (fun hS => ?_)
  rw [← hw2] at hS ⊢
  have hB2 := hB1.only hs12 (fun h => h)
  have oa2 := own_only ho1' hs12 (fun _ _ h => h)
  have ob2 := own_only ho2' hs12 (fun _ _ h => h)
  have hF2 := hoF.still hs12
  have hsz2 := hF2.size
  clear hw2 hB1 ho1' ho2' hoF c0 c1 c2 c3 c4
  obtain ⟨c0, c1, c2, c3, c4⟩ := blk5 hB2
  (refine take_p (i := 0) (v := ?_) rfl (by kernel_rfl) (by kernel_rfl) (by kernel_rfl) (fun _ _ _ h => h) (Or.inl ⟨by rfl, ?_⟩) hS ?_; rotate_left; (focus (intro w0 hSw; go_simp; try with_reducible rfl)); try simp only [Act.put, List.setIfInBounds_toArray, List.set_cons_zero, List.set_cons_succ])
  (refine take_p (i := 1) (v := ?_) rfl (by kernel_rfl) (by kernel_rfl) (by kernel_rfl) (fun _ _ _ h => h) (Or.inl ⟨by rfl, ?_⟩) hS ?_; rotate_left; (focus (intro w0 hSw; go_simp; try with_reducible rfl)); try simp only [Act.put, List.setIfInBounds_toArray, List.set_cons_zero, List.set_cons_succ])
  (refine take_p (i := 2) (v := ?_) rfl (by kernel_rfl) (by kernel_rfl) (by kernel_rfl) (fun _ _ _ h => h) (Or.inl ⟨by rfl, ?_⟩) hS ?_; rotate_left; (focus (intro w0 hSw; go_simp; try with_reducible rfl)); try simp only [Act.put, List.setIfInBounds_toArray, List.set_cons_zero, List.set_cons_succ])
  (refine take_p (i := 3) (v := ?_) rfl (by kernel_rfl) (by kernel_rfl) (by kernel_rfl) (fun _ _ _ h => h) (Or.inl ⟨by rfl, ?_⟩) hS ?_; rotate_left; (focus (intro w0 hSw; go_simp; try with_reducible rfl)); try simp only [Act.put, List.setIfInBounds_toArray, List.set_cons_zero, List.set_cons_succ])
  (refine take_p (i := 5) (v := ?_) rfl (by kernel_rfl) (by kernel_rfl) (by kernel_rfl) (fun _ _ _ h => h) (Or.inl ⟨by rfl, ?_⟩) hS ?_; rotate_left; (focus (intro w0 hSw; go_simp; try with_reducible rfl)); try simp only [Act.put, List.setIfInBounds_toArray, List.set_cons_zero, List.set_cons_succ])
  (refine take_p (i := 6) (v := ?_) rfl (by kernel_rfl) (by kernel_rfl) (by kernel_rfl) (fun _ _ _ h => h) (Or.inl ⟨by rfl, ?_⟩) hS ?_; rotate_left; (focus (intro w0 hSw; go_simp; try with_reducible rfl)); try simp only [Act.put, List.setIfInBounds_toArray, List.set_cons_zero, List.set_cons_succ])
  (refine take_p (i := 7) (v := ?_) rfl (by kernel_rfl) (by kernel_rfl) (by kernel_rfl) (fun _ _ _ h => h) (Or.inl ⟨by rfl, ?_⟩) hS ?_; rotate_left; (focus (intro w0 hSw; go_simp; try with_reducible rfl)); try simp only [Act.put, List.setIfInBounds_toArray, List.set_cons_zero, List.set_cons_succ])
  (refine take_p (i := 8) (v := ?_) rfl (by kernel_rfl) (by kernel_rfl) (by kernel_rfl) (fun _ _ _ h => h) (Or.inl ⟨by rfl, ?_⟩) hS ?_; rotate_left; (focus (intro w0 hSw; have q_ := hSw.1; go_simp; try with_reducible rfl)); try simp only [Act.put, List.setIfInBounds_toArray, List.set_cons_zero, List.set_cons_succ])
  (refine take_p (i := 9) (v := ?_) rfl (by kernel_rfl) (by kernel_rfl) (by kernel_rfl) (fun _ _ _ h => h) (Or.inl ⟨by rfl, ?_⟩) hS ?_; rotate_left; (focus (intro w0 hSw; have q_ := conv_own hSw.2.1; go_simp; try with_reducible rfl)); try simp only [Act.put, List.setIfInBounds_toArray, List.set_cons_zero, List.set_cons_succ])
  have hs23 := Still.new w2 (.cells #[.string (mk s.lab)] 9)
  have hB3 := hB2.only hs23 (fun h => h)
  have oa3 := own_only oa2 hs23 (fun _ _ h => h)
  have ob3 := own_only ob2 hs23 (fun _ _ h => h)
  have hrd := Reads.of_own (World.ownsRow_lit (e := 9) (size := 1) (base := 0) w2 #[.string (mk s.lab)] 1 (Nat.zero_le _) (by unfold maxLen; omega) rfl)
  have hz3 : (w2.alloc (.cells #[.string (mk s.lab)] 9)).heap.size = w2.heap.size + 1 := by simp
  have hF3 := hF2.still hs23
  have hSx : (fun w' => w'.cell? ⟨b, 1, none⟩ = some (.slice B s.lab.length cB) ∧ w'.ownsRow base 5 1 (.slice B s.lab.length cB) s.lab.length (bv s.lab) ∧ Only (Fr b base) w2 w') (w2.alloc (.cells #[.string (mk s.lab)] 9)) := ⟨(blk5 hB3).2.1, ob3, Only.of_still hs23 _⟩
  obtain ⟨w3, hw3⟩ : ∃ w3, w3 = w2.alloc (.cells #[.string (mk s.lab)] 9) := ⟨_, rfl⟩
  have Hw3 := Lib.hid hw3
  rw [← hw3] at hB3 oa3 ob3 hrd hz3 hF3 hSx
  clear hw3 hs23
  refine wpAnyH_ready (rs := [4, 10]) (by kernel_rfl) (by simp) ?_
  refine cons_p rfl (fun K_ hK => ?_) (cons_p rfl (fun K_ hK => ?_) AllReadyH.nil)
  · go_simp
    refine hK.out _ _ hS (fun hHeld => ?_)
    clear hK K_ hHeld
    try simp only [Act.put, List.setIfInBounds_toArray, List.set_cons_zero, List.set_cons_succ]
    refine wpAnyH_ready (rs := [10]) (by kernel_rfl) (by simp) ?_
    refine cons_p rfl (fun K_ hK => ?_) AllReadyH.nil
    go_simp
    rw [← Hw3.out]
    refine hK.out _ _ hSx (fun hHeld => ?_)
    clear hK K_ hHeld
    try simp only [Act.put, List.setIfInBounds_toArray, List.set_cons_zero, List.set_cons_succ]
    refine wpAnyH_ready (rs := [11]) (by kernel_rfl) (by simp) ?_
    refine cons_p rfl (fun K_ hK => ?_) AllReadyH.nil
    refine step_append_any rfl (.tmp 13) (.tmp 19) 25 rfl base 9 i0 (.string ⟨#[]⟩) 1 16 Try.underlying25 hi hz0 hz1 hz2 rfl (by decide) _ _ _ rfl oa3 _ (some _) 1 1 [.string (mk s.lab)] rfl hrd (by first | rfl | (intro u hu; simp at hu; subst hu; rfl)) (by unfold maxLen; omega) (by omega) (by omega) ?_
    intro v' wg hown' hgrow hblk
    obtain ⟨A', c', hv⟩ := own_shape hown'
    subst hv
    have hog : Only (fun k => base ≤ k) w3 wg := (Only.refl _ _).grown hgrow (fun k hk => .inl (oa3.lt k hk).1)
    have hBg := hB3.only hog (by omega)
    have obg := own_only ob3 (show Only (fun k => (Value.slice A s.ls.length cA).ownBlock = some k ∨ w3.heap.size ≤ k) w3 wg from (Only.refl _ _).grown hgrow (fun k hk => .inl (.inl hk))) (fun k hk e => by
      rcases e with e | e
      · exact own_own_ne ob3 oa3 (by decide) k hk e
      · have := (ob3.lt k hk).2
        omega)
    have hSg : (fun w' => w'.cell? ⟨b, 1, none⟩ = some (.slice B s.lab.length cB) ∧ w'.ownsRow base 5 1 (.slice B s.lab.length cB) s.lab.length (bv s.lab) ∧ Only (Fr b base) w2 w') wg := ⟨(blk5 hBg).2.1, obg, hSx.2.2.trans hog (fun i _ h => .inr h)⟩
    have hBf := hBg.set_ 0 (.slice A' (s.ls.length + 1) c')
    simp at hBf
    have hos : Only (· = b) wg (wg.setCell ⟨b, 0, none⟩ (.slice A' (s.ls.length + 1) c')) := (Only.refl (· = b) wg).setCell (p := ⟨b, 0, none⟩) (.inl rfl) _
    have obf := own_only obg hos (fun k hk e => by
      have e' : k = b := e
      subst e'
      exact own_blk_ne obg hBg (by decide) hk)
    have oaf := own_only hown' hos (fun k hk e => by
      have e' : k = b := e
      subst e'
      exact own_blk_ne hown' hBg (by decide) hk)
    have hSf : (fun w' => w'.cell? ⟨b, 1, none⟩ = some (.slice B s.lab.length cB) ∧ w'.ownsRow base 5 1 (.slice B s.lab.length cB) s.lab.length (bv s.lab) ∧ Only (Fr b base) w2 w') (wg.setCell ⟨b, 0, none⟩ (.slice A' (s.ls.length + 1) c')) := ⟨(blk5 hBf).2.1, obf, hSg.2.2.trans hos (fun i _ h => .inl h)⟩
    have hFf := (hF3.trans hog (fun i _ h => .inr h)).trans hos (fun i _ h => .inl h)

    refine hK.out _ _ hSg (fun hHeld => ?_)
    clear hK K_ hHeld
    try simp only [Act.put, List.setIfInBounds_toArray, List.set_cons_zero, List.set_cons_succ]
    replace hS := hSg
    (refine take_p (i := 12) (v := ?_) rfl (by kernel_rfl) (by kernel_rfl) (by kernel_rfl) (fun _ _ _ h => h) (Or.inl ⟨by rfl, ?_⟩) hS ?_; rotate_left; (focus (intro w0 hSw; go_simp; try with_reducible rfl)); try simp only [Act.put, List.setIfInBounds_toArray, List.set_cons_zero, List.set_cons_succ])
    (refine take_p (i := 13) (v := ?_) rfl (by kernel_rfl) (by kernel_rfl) (by kernel_rfl) (fun _ _ _ h => h) (Or.inl ⟨by rfl, ?_⟩) hS ?_; rotate_left; (focus (intro w0 hSw; go_simp; try with_reducible rfl)); try simp only [Act.put, List.setIfInBounds_toArray, List.set_cons_zero, List.set_cons_succ])
    obtain ⟨e0, e1, e2, e3, e4⟩ := blk5 hBg
    obtain ⟨g0, g1, g2, g3, g4⟩ := frz5 hBg
    refine wpAnyH_ready (rs := [14]) (by kernel_rfl) (by simp) ?_
    refine cons_p rfl (fun K_ hK => ?_) AllReadyH.nil
    go_simp
    refine hK.out _ _ hSf (fun hHeld => ?_)
    clear hK K_ hHeld
    try simp only [Act.put, List.setIfInBounds_toArray, List.set_cons_zero, List.set_cons_succ]
    refine wpAnyH_done (by kernel_rfl) ?_ _
    clear e0 e1 e2 e3 e4 g0 g1 g2 g3 g4 hS hSx hSg hSf hrd hB3 hBg oa3 ob3 hown' hgrow hblk hog oa2 ob2 hB2 c0 c1 c2 c3 c4
    have hrow : sv s.ls ++ [Value.string (mk s.lab)] = sv (s.ls ++ [s.lab]) := by rw [sv_append]; rfl
    rw [hrow] at oaf
    have hszf := hFf.size
    obtain ⟨wf, hwf⟩ : ∃ wf, wf = wg.setCell ⟨b, 0, none⟩ (.slice A' (s.ls.length + 1) c') := ⟨_, rfl⟩
    rw [← hwf] at hBf oaf obf hFf hszf ⊢
    clear hwf hrow
    have hcut := own_cut obf
    have hBz := hBf.set_ 1 (.slice B 0 cB)
    simp at hBz
    have hoz : Only (· = b) wf (wf.setCell ⟨b, 1, none⟩ (.slice B 0 cB)) := (Only.refl (· = b) wf).setCell (p := ⟨b, 1, none⟩) (.inl rfl) _
    have oaz := own_only oaf hoz (fun k hk e => by
      have e' : k = b := e
      subst e'
      exact own_blk_ne oaf hBf (by decide) hk)
    have obz := own_only hcut hoz (fun k hk e => by
      have e' : k = b := e
      subst e'
      exact own_blk_ne hcut hBf (by decide) hk)
    have hFz := hFf.trans hoz (fun i _ h => .inl h)
    have hR : Rdr (wf.setCell ⟨b, 1, none⟩ (.slice B 0 cB)) b base ⟨s.ls ++ [s.lab], [], s.sl, s.d, s.code⟩ := ⟨hlt, Nat.le_trans hle hFz.size, Hok.out, _, _, hBz, (by simpa using oaz), obz⟩
    have HR := Lib.hid hR
    obtain ⟨e0, e1, e2, e3, e4⟩ := blk5 hBf
    obtain ⟨g0, g1, g2, g3, g4⟩ := frz5 hBf
    obtain ⟨gB, rfl, gcB⟩ := own_some obf hl0
    clear hBz hBf hoz oaz obz oaf obf hcut hR
    go_wp2_with fail
    go_ret
    exact ⟨rfl, HR.out, hFz⟩

  · go_simp
    rw [← Hw3.out]
    refine hK.out _ _ hSx (fun hHeld => ?_)
    clear hK K_ hHeld
    try simp only [Act.put, List.setIfInBounds_toArray, List.set_cons_zero, List.set_cons_succ]
    clear c0 c1 c2 c3 c4
    obtain ⟨c0, c1, c2, c3, c4⟩ := blk5 hB3
    refine wpAnyH_ready (rs := [4]) (by kernel_rfl) (by simp) ?_
    refine cons_p rfl (fun K_ hK => ?_) AllReadyH.nil
    go_simp
    refine hK.out _ _ hSx (fun hHeld => ?_)
    clear hK K_ hHeld
    try simp only [Act.put, List.setIfInBounds_toArray, List.set_cons_zero, List.set_cons_succ]
    refine wpAnyH_ready (rs := [11]) (by kernel_rfl) (by simp) ?_
    refine cons_p rfl (fun K_ hK => ?_) AllReadyH.nil
    refine step_append_any rfl (.tmp 13) (.tmp 19) 25 rfl base 9 i0 (.string ⟨#[]⟩) 1 16 Try.underlying25 hi hz0 hz1 hz2 rfl (by decide) _ _ _ rfl oa3 _ (some _) 1 1 [.string (mk s.lab)] rfl hrd (by first | rfl | (intro u hu; simp at hu; subst hu; rfl)) (by unfold maxLen; omega) (by omega) (by omega) ?_
    intro v' wg hown' hgrow hblk
    obtain ⟨A', c', hv⟩ := own_shape hown'
    subst hv
    have hog : Only (fun k => base ≤ k) w3 wg := (Only.refl _ _).grown hgrow (fun k hk => .inl (oa3.lt k hk).1)
    have hBg := hB3.only hog (by omega)
    have obg := own_only ob3 (show Only (fun k => (Value.slice A s.ls.length cA).ownBlock = some k ∨ w3.heap.size ≤ k) w3 wg from (Only.refl _ _).grown hgrow (fun k hk => .inl (.inl hk))) (fun k hk e => by
      rcases e with e | e
      · exact own_own_ne ob3 oa3 (by decide) k hk e
      · have := (ob3.lt k hk).2
        omega)
    have hSg : (fun w' => w'.cell? ⟨b, 1, none⟩ = some (.slice B s.lab.length cB) ∧ w'.ownsRow base 5 1 (.slice B s.lab.length cB) s.lab.length (bv s.lab) ∧ Only (Fr b base) w2 w') wg := ⟨(blk5 hBg).2.1, obg, hSx.2.2.trans hog (fun i _ h => .inr h)⟩
    have hBf := hBg.set_ 0 (.slice A' (s.ls.length + 1) c')
    simp at hBf
    have hos : Only (· = b) wg (wg.setCell ⟨b, 0, none⟩ (.slice A' (s.ls.length + 1) c')) := (Only.refl (· = b) wg).setCell (p := ⟨b, 0, none⟩) (.inl rfl) _
    have obf := own_only obg hos (fun k hk e => by
      have e' : k = b := e
      subst e'
      exact own_blk_ne obg hBg (by decide) hk)
    have oaf := own_only hown' hos (fun k hk e => by
      have e' : k = b := e
      subst e'
      exact own_blk_ne hown' hBg (by decide) hk)
    have hSf : (fun w' => w'.cell? ⟨b, 1, none⟩ = some (.slice B s.lab.length cB) ∧ w'.ownsRow base 5 1 (.slice B s.lab.length cB) s.lab.length (bv s.lab) ∧ Only (Fr b base) w2 w') (wg.setCell ⟨b, 0, none⟩ (.slice A' (s.ls.length + 1) c')) := ⟨(blk5 hBf).2.1, obf, hSg.2.2.trans hos (fun i _ h => .inl h)⟩
    have hFf := (hF3.trans hog (fun i _ h => .inr h)).trans hos (fun i _ h => .inl h)

    refine hK.out _ _ hSg (fun hHeld => ?_)
    clear hK K_ hHeld
    try simp only [Act.put, List.setIfInBounds_toArray, List.set_cons_zero, List.set_cons_succ]
    replace hS := hSg
    (refine take_p (i := 12) (v := ?_) rfl (by kernel_rfl) (by kernel_rfl) (by kernel_rfl) (fun _ _ _ h => h) (Or.inl ⟨by rfl, ?_⟩) hS ?_; rotate_left; (focus (intro w0 hSw; go_simp; try with_reducible rfl)); try simp only [Act.put, List.setIfInBounds_toArray, List.set_cons_zero, List.set_cons_succ])
    (refine take_p (i := 13) (v := ?_) rfl (by kernel_rfl) (by kernel_rfl) (by kernel_rfl) (fun _ _ _ h => h) (Or.inl ⟨by rfl, ?_⟩) hS ?_; rotate_left; (focus (intro w0 hSw; go_simp; try with_reducible rfl)); try simp only [Act.put, List.setIfInBounds_toArray, List.set_cons_zero, List.set_cons_succ])
    obtain ⟨e0, e1, e2, e3, e4⟩ := blk5 hBg
    obtain ⟨g0, g1, g2, g3, g4⟩ := frz5 hBg
    refine wpAnyH_ready (rs := [14]) (by kernel_rfl) (by simp) ?_
    refine cons_p rfl (fun K_ hK => ?_) AllReadyH.nil
    go_simp
    refine hK.out _ _ hSf (fun hHeld => ?_)
    clear hK K_ hHeld
    try simp only [Act.put, List.setIfInBounds_toArray, List.set_cons_zero, List.set_cons_succ]
    refine wpAnyH_done (by kernel_rfl) ?_ _
    clear e0 e1 e2 e3 e4 g0 g1 g2 g3 g4 hS hSx hSg hSf hrd hB3 hBg oa3 ob3 hown' hgrow hblk hog oa2 ob2 hB2 c0 c1 c2 c3 c4
    have hrow : sv s.ls ++ [Value.string (mk s.lab)] = sv (s.ls ++ [s.lab]) := by rw [sv_append]; rfl
    rw [hrow] at oaf
    have hszf := hFf.size
    obtain ⟨wf, hwf⟩ : ∃ wf, wf = wg.setCell ⟨b, 0, none⟩ (.slice A' (s.ls.length + 1) c') := ⟨_, rfl⟩
    rw [← hwf] at hBf oaf obf hFf hszf ⊢
    clear hwf hrow
    have hcut := own_cut obf
    have hBz := hBf.set_ 1 (.slice B 0 cB)
    simp at hBz
    have hoz : Only (· = b) wf (wf.setCell ⟨b, 1, none⟩ (.slice B 0 cB)) := (Only.refl (· = b) wf).setCell (p := ⟨b, 1, none⟩) (.inl rfl) _
    have oaz := own_only oaf hoz (fun k hk e => by
      have e' : k = b := e
      subst e'
      exact own_blk_ne oaf hBf (by decide) hk)
    have obz := own_only hcut hoz (fun k hk e => by
      have e' : k = b := e
      subst e'
      exact own_blk_ne hcut hBf (by decide) hk)
    have hFz := hFf.trans hoz (fun i _ h => .inl h)
    have hR : Rdr (wf.setCell ⟨b, 1, none⟩ (.slice B 0 cB)) b base ⟨s.ls ++ [s.lab], [], s.sl, s.d, s.code⟩ := ⟨hlt, Nat.le_trans hle hFz.size, Hok.out, _, _, hBz, (by simpa using oaz), obz⟩
    have HR := Lib.hid hR
    obtain ⟨e0, e1, e2, e3, e4⟩ := blk5 hBf
    obtain ⟨g0, g1, g2, g3, g4⟩ := frz5 hBf
    obtain ⟨gB, rfl, gcB⟩ := own_some obf hl0
    clear hBz hBf hoz oaz obz oaf obf hcut hR
    go_wp2_with fail
    go_ret
    exact ⟨rfl, HR.out, hFz⟩

end Go.Proofs.Ytjenabcjikdnaaa
