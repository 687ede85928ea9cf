/-
  Package pend: Copy.
-/
import Derived.Test.YthbapdajmpplhaaPendNew
namespace Go.Proofs.Ythbapdajmpplhaa
open Go.RowKit
open Go.Maps (Keyed)
set_option linter.unusedVariables false
set_option linter.unusedSimpArgs false

set_option maxRecDepth 1000000 in
set_option maxHeartbeats 6400000 in
theorem copy_pend {w : World} {t : Nat} {bs : List Nat} {L : List Out} (h : PT w t bs L) :
    Calls Try.prog 18 #[.pointer (some ⟨t, 0, none⟩)] w fun e w' => ∃ t2 bs2, e = .returned (.pointer (some ⟨t2, 0, none⟩)) ∧ bs2.length = bs.length ∧ PT w' t2 bs2 L ∧ w.heap.size ≤ t2 ∧ (∀ b ∈ bs2, w.heap.size ≤ b) ∧ Still w w' := by
  obtain ⟨i0, hi, hz0, hz1', hz2⟩ := info_parts info_m
  obtain ⟨A0, c0, h1, h2⟩ := h.tab
  have x0 := h1.cell 0
  simp at x0
  obtain ⟨n, hn⟩ : ∃ n, n = bs.length := ⟨_, rfl⟩
  have h9 : n ≤ 9 := by rw [hn]; exact h.nine
  rw [← hn] at x0 h1 h2
  have Hn := Lib.hid hn
  clear hn
  have H := Lib.hid h
  have hcs : ∀ u b, u < n → bs[u]? = some b → ∃ g, A0 = some ⟨g, 0, none⟩ ∧ w.cell? ⟨g, u, none⟩ = some (.map (some b)) := fun u b hu hb => by
    rcases h2.2 with ⟨e, h0⟩ | ⟨g', cap, cur, e, _, hh, _⟩
    · omega
    · cases e
      have cu := h2.cells (g := g') rfl u (.map (some b)) (by unfold bsV; rw [List.getElem?_map, hb]; rfl)
      have ha : (⟨g', 0, none⟩ : Addr).add u = ⟨g', u, none⟩ := by unfold Addr.add; split <;> simp_all
      rw [ha] at cu
      exact ⟨g', rfl, cu⟩
  have x1 := (Still.new w (.cells #[.slice none 0 0] 41)).cell_some (fun h => h) x0
  clear h h1 h2
  go_enter Try.func18, Try.ntmps18
  go_wp2_with fail
  obtain ⟨q, hq⟩ : ∃ q, q = w.heap.size := ⟨_, rfl⟩
  rw [← hq]
  have Hq := Lib.hid hq
  go_loopw [5, 15] (fun _ i wr => ∃ k bs2, k ≤ n ∧ i = .int .i64 k ∧ bs2.length = k ∧ Half wr q q bs2 L ∧ Still w wr) (fun _ i _ => n - (intOf i).toNat)
  case atStart =>
    refine ⟨0, [], Nat.zero_le _, rfl, rfl, ⟨⟨none, 0, Blk.at_ _ _ _ hq, World.ownsRow_nil _ _ _ _⟩, Nat.le_refl _, by simp, by simp, by simp⟩, Still.new _ _⟩
  case round =>
    clear hq x0 x1
    obtain ⟨k, bs2, hk, rfl, hbk, hH, hst⟩ := hrel
    by_cases hlt : k < n
    · obtain ⟨b, hb⟩ : ∃ b, bs[k]? = some b := ⟨bs[k]'(by have := Hn.out; omega), List.getElem?_eq_getElem _⟩
      obtain ⟨g, rfl, cu⟩ := hcs k b hlt hb
      have cu' := hst.cell_some (fun h => h) cu
      have hm := (H.out.maps k b hb).still hst
      obtain ⟨A, c, hbt, ho⟩ := hH.tab
      subst hbk
      have hlw := hst.size
      have hbl := hbt.lt
      have hnq : wr.heap.size ∉ bs2 := fun hx => by
        obtain ⟨u, hu, e⟩ := List.getElem_of_mem hx
        have := (hH.maps u _ (by rw [List.getElem?_eq_getElem hu, e])).lt
        omega
      go_wp2_with fail
      have hs0 : Still wr wr.drew := (Only.refl _ _).drew
      have hzd : wr.drew.heap.size = wr.heap.size := rfl
      have hqd : q ≤ wr.drew.heap.size := by rw [hzd]; omega
      have hbd := hbt.only hs0 (fun h => h)
      have hod := own_only ho hs0 (fun _ _ h => h)
      have hHd := hH.still hs0
      have hmd := hm.still hs0
      replace hst := hst.still hs0
      refine wp_region_held_drew (S := fun w' => Only (fun i => (Value.slice A bs2.length c).ownBlock = some i ∨ i = q) wr.drew w') (by kernel_rfl) (Only.refl _ _) (fun hS => ?_)
      rw [← hzd] at hnq
      generalize wr.drew = wd at *
      have hSa := hS
      clear hzd hs0
      have x0 := hbd.cell 0
      simp at x0
      (refine take_p (i := 0) (v := ?_) rfl (by kernel_rfl) (by kernel_rfl) (by kernel_rfl) (fun _ _ _ h => h) (Or.inl ⟨by rfl, ?_⟩) hS ?_; rotate_left; (focus (intro w0_ hSw; go_simp; try with_reducible rfl)); try simp only [Act.put, List.setIfInBounds_toArray, List.set_cons_zero, List.set_cons_succ])
      (refine take_p (i := 1) (v := ?_) rfl (by kernel_rfl) (by kernel_rfl) (by kernel_rfl) (fun _ _ _ h => h) (Or.inl ⟨by rfl, ?_⟩) hS ?_; rotate_left; (focus (intro w0_ hSw; go_simp; try with_reducible rfl)); try simp only [Act.put, List.setIfInBounds_toArray, List.set_cons_zero, List.set_cons_succ])
      (refine take_p (i := 2) (v := ?_) rfl (by kernel_rfl) (by kernel_rfl) (by kernel_rfl) (fun _ _ _ h => h) (Or.inl ⟨by rfl, ?_⟩) hS ?_; rotate_left; (focus (intro w0_ hSw; go_simp; try with_reducible rfl)); try simp only [Act.put, List.setIfInBounds_toArray, List.set_cons_zero, List.set_cons_succ])
      (refine take_p (i := 3) (v := ?_) rfl (by kernel_rfl) (by kernel_rfl) (by kernel_rfl) (fun _ _ _ h => h) (Or.inl ⟨by rfl, ?_⟩) hS ?_; rotate_left; (focus (intro w0_ hSw; go_simp; try with_reducible rfl)); try simp only [Act.put, List.setIfInBounds_toArray, List.set_cons_zero, List.set_cons_succ])
      (refine take_p (i := 5) (v := ?_) rfl (by kernel_rfl) (by kernel_rfl) (by kernel_rfl) (fun _ _ _ h => h) (Or.inl ⟨by rfl, ?_⟩) hS ?_; rotate_left; (focus (intro w0_ hSw; go_simp; try with_reducible rfl)); try simp only [Act.put, List.setIfInBounds_toArray, List.set_cons_zero, List.set_cons_succ])
      refine wpAnyH_ready (rs := [4, 6]) (by kernel_rfl) (by simp) ?_
      refine cons_p rfl (fun K_ hK => ?_) (cons_p rfl (fun K_ hK => ?_) AllReadyH.nil)
      · go_simp
        refine hK.out _ _ hSa (fun hHeld => ?_)
        clear hK K_ hHeld
        try simp only [Act.put, List.setIfInBounds_toArray, List.set_cons_zero, List.set_cons_succ]
        replace hS := hSa
        refine wpAnyH_ready (rs := [6]) (by kernel_rfl) (by simp) ?_
        refine cons_p rfl (fun K_ hK => ?_) AllReadyH.nil
        go_simp
        refine (clone_map wd b _ _ hmd).mono ?_
        rintro e w1 ⟨rfl, hm1, hs1, hz1⟩
        have hb1 := hbd.only hs1 (fun h => h)
        have ho1 := own_only hod hs1 (fun _ _ h => h)
        have hH1 := hHd.still hs1
        have hSb := hSa.still hs1
        have c1 := hb1.cell 0
        simp at c1
        have hs2 := Still.new w1 (.cells #[.map (some wd.heap.size)] 69)
        have hb2 := hb1.only hs2 (fun h => h)
        have ho2 := own_only ho1 hs2 (fun _ _ h => h)
        have hH2 := hH1.still hs2
        have hSc := hSb.still hs2
        have hm2 := hm1.still hs2
        have hrd : Reads (w1.alloc (.cells #[.map (some wd.heap.size)] 69)) (w1.alloc (.cells #[.map (some wd.heap.size)] 69)).heap.size 1 (some ⟨w1.heap.size, 0, none⟩) 1 [.map (some wd.heap.size)] := ⟨by simp, fun _ => ⟨_, rfl, by simp, by have := cell_one_new w1 (.map (some wd.heap.size)) 69; simpa using this⟩⟩
        have hz2' : (w1.alloc (.cells #[.map (some wd.heap.size)] 69)).heap.size = wd.heap.size + 2 := by simp [hz1]
        rw [show (some (⟨w1.heap.size, 0, none⟩ : Addr)) = some ⟨wd.heap.size + 1, 0, none⟩ from by rw [hz1]] at hrd
        have c2 := hb2.cell 0
        simp at c2
        obtain ⟨w2, hw2⟩ : ∃ w2, w2 = w1.alloc (.cells #[.map (some wd.heap.size)] 69) := ⟨_, rfl⟩
        have Hw2 := Lib.hid hw2
        rw [← hw2] at hs2 hb2 ho2 hH2 hSc hm2 hrd hz2' c2
        clear hw2
        refine hK.out _ _ hSb (fun hHeld => ?_)
        clear hK K_ hHeld
        try simp only [Act.put, List.setIfInBounds_toArray, List.set_cons_zero, List.set_cons_succ]
        replace hS := hSb
        refine wpAnyH_ready (rs := [7]) (by kernel_rfl) (by simp) ?_
        refine cons_p rfl (fun K_ hK => ?_) AllReadyH.nil
        go_simp
        rw [← Hw2.out]
        refine hK.out _ _ hSc (fun hHeld => ?_)
        clear hK K_ hHeld
        try simp only [Act.put, List.setIfInBounds_toArray, List.set_cons_zero, List.set_cons_succ]
        replace hS := hSc
        refine wpAnyH_ready (rs := [8]) (by kernel_rfl) (by simp) ?_
        refine cons_p rfl (fun K_ hK => ?_) AllReadyH.nil
        refine step_append_any rfl (.tmp 23) (.tmp 26) 39 rfl q 69 i0 (.map none) 1 8 Try.underlying39 hi hz0 hz1' hz2 rfl (by decide) _ _ _ rfl ho2 _ (some ⟨wd.heap.size + 1, 0, none⟩) 1 1 [.map (some wd.heap.size)] rfl hrd (by intro u hu; simp at hu; subst hu; rfl) (by unfold maxLen; omega) (by omega) (by omega) ?_
        intro v' w3 hown hgrow hblk
        obtain ⟨A', c', rfl⟩ := own_shape hown
        have hbx := blk_grown hb2 hgrow (own_blk_ne ho2 hb2 (by decide))
        have hSd : Only (fun i => (Value.slice A bs2.length c).ownBlock = some i ∨ i = q) wd w3 := hSc.grown hgrow (fun k hk => .inl (.inl hk))
        refine hK.out _ _ hSd (fun hHeld => ?_)
        clear hK K_ hHeld
        try simp only [Act.put, List.setIfInBounds_toArray, List.set_cons_zero, List.set_cons_succ]
        replace hS := hSd
        (refine take_p (i := 9) (v := ?_) rfl (by kernel_rfl) (by kernel_rfl) (by kernel_rfl) (fun _ _ _ h => h) (Or.inl ⟨by rfl, ?_⟩) hS ?_; rotate_left; (focus (intro w0_ hSw; go_simp; try with_reducible rfl)); try simp only [Act.put, List.setIfInBounds_toArray, List.set_cons_zero, List.set_cons_succ])
        (refine take_p (i := 10) (v := ?_) rfl (by kernel_rfl) (by kernel_rfl) (by kernel_rfl) (fun _ _ _ h => h) (Or.inl ⟨by rfl, ?_⟩) hS ?_; rotate_left; (focus (intro w0_ hSw; go_simp; try with_reducible rfl)); try simp only [Act.put, List.setIfInBounds_toArray, List.set_cons_zero, List.set_cons_succ])
        have c0' := hbx.cell 0
        have f0' := hbx.frozen 0
        simp at c0'
        have hSe := hSd.setCell (p := ⟨q, 0, none⟩) (.inl (.inr rfl)) (.slice A' (bs2.length + 1) c')
        refine wpAnyH_ready (rs := [11]) (by kernel_rfl) (by simp) ?_
        refine cons_p rfl (fun K_ hK => ?_) AllReadyH.nil
        go_simp
        refine hK.out _ _ hSe (fun hHeld => ?_)
        clear hK K_ hHeld
        try simp only [Act.put, List.setIfInBounds_toArray, List.set_cons_zero, List.set_cons_succ]
        refine wpAnyH_done (by kernel_rfl) ?_ _
        have hP := hH2.push hb2 ho2 hnq (by omega) hm2 hown hgrow
        have hSf : Still w (w3.setCell ⟨q, 0, none⟩ (.slice A' (bs2.length + 1) c')) := hst.trans hSe (fun i hi e => by
          have hq' := Hq.out
          rcases e with e | e
          · rcases hod.2 with ⟨e', _⟩ | ⟨g', cap, cur, e', hbq, hh, _⟩
            · rw [e'] at e; simp [Value.ownBlock] at e
            · rw [e'] at e
              simp [Value.ownBlock] at e
              omega
          · omega)
        have hltw := hSe.size
        clear hS hSa hSb hSc hSd hSe hown hgrow hblk hbx c0' f0' c1 c2 hb2 ho2 hH2 hb1 ho1 hH1 hm1 hm2 hs1 hs2 hrd
        go_wp2_with fail
        go_roundw
        case rel => exact ⟨bs2.length + 1, bs2 ++ [wd.heap.size], hlt, by go_num, by simp, hP, hSf⟩
        case measure => simp [intOf]; omega
      · go_simp
        refine (clone_map wd b _ _ hmd).mono ?_
        rintro e w1 ⟨rfl, hm1, hs1, hz1⟩
        have hb1 := hbd.only hs1 (fun h => h)
        have ho1 := own_only hod hs1 (fun _ _ h => h)
        have hH1 := hHd.still hs1
        have hSb := hSa.still hs1
        have c1 := hb1.cell 0
        simp at c1
        have hs2 := Still.new w1 (.cells #[.map (some wd.heap.size)] 69)
        have hb2 := hb1.only hs2 (fun h => h)
        have ho2 := own_only ho1 hs2 (fun _ _ h => h)
        have hH2 := hH1.still hs2
        have hSc := hSb.still hs2
        have hm2 := hm1.still hs2
        have hrd : Reads (w1.alloc (.cells #[.map (some wd.heap.size)] 69)) (w1.alloc (.cells #[.map (some wd.heap.size)] 69)).heap.size 1 (some ⟨w1.heap.size, 0, none⟩) 1 [.map (some wd.heap.size)] := ⟨by simp, fun _ => ⟨_, rfl, by simp, by have := cell_one_new w1 (.map (some wd.heap.size)) 69; simpa using this⟩⟩
        have hz2' : (w1.alloc (.cells #[.map (some wd.heap.size)] 69)).heap.size = wd.heap.size + 2 := by simp [hz1]
        rw [show (some (⟨w1.heap.size, 0, none⟩ : Addr)) = some ⟨wd.heap.size + 1, 0, none⟩ from by rw [hz1]] at hrd
        have c2 := hb2.cell 0
        simp at c2
        obtain ⟨w2, hw2⟩ : ∃ w2, w2 = w1.alloc (.cells #[.map (some wd.heap.size)] 69) := ⟨_, rfl⟩
        have Hw2 := Lib.hid hw2
        rw [← hw2] at hs2 hb2 ho2 hH2 hSc hm2 hrd hz2' c2
        clear hw2
        refine hK.out _ _ hSb (fun hHeld => ?_)
        clear hK K_ hHeld
        try simp only [Act.put, List.setIfInBounds_toArray, List.set_cons_zero, List.set_cons_succ]
        replace hS := hSb
        refine wpAnyH_ready (rs := [4, 7]) (by kernel_rfl) (by simp) ?_
        refine cons_p rfl (fun K_ hK => ?_) (cons_p rfl (fun K_ hK => ?_) AllReadyH.nil)
        · go_simp
          refine hK.out _ _ hSb (fun hHeld => ?_)
          clear hK K_ hHeld
          try simp only [Act.put, List.setIfInBounds_toArray, List.set_cons_zero, List.set_cons_succ]
          replace hS := hSb
          refine wpAnyH_ready (rs := [7]) (by kernel_rfl) (by simp) ?_
          refine cons_p rfl (fun K_ hK => ?_) AllReadyH.nil
          go_simp
          rw [← Hw2.out]
          refine hK.out _ _ hSc (fun hHeld => ?_)
          clear hK K_ hHeld
          try simp only [Act.put, List.setIfInBounds_toArray, List.set_cons_zero, List.set_cons_succ]
          replace hS := hSc
          refine wpAnyH_ready (rs := [8]) (by kernel_rfl) (by simp) ?_
          refine cons_p rfl (fun K_ hK => ?_) AllReadyH.nil
          refine step_append_any rfl (.tmp 23) (.tmp 26) 39 rfl q 69 i0 (.map none) 1 8 Try.underlying39 hi hz0 hz1' hz2 rfl (by decide) _ _ _ rfl ho2 _ (some ⟨wd.heap.size + 1, 0, none⟩) 1 1 [.map (some wd.heap.size)] rfl hrd (by intro u hu; simp at hu; subst hu; rfl) (by unfold maxLen; omega) (by omega) (by omega) ?_
          intro v' w3 hown hgrow hblk
          obtain ⟨A', c', rfl⟩ := own_shape hown
          have hbx := blk_grown hb2 hgrow (own_blk_ne ho2 hb2 (by decide))
          have hSd : Only (fun i => (Value.slice A bs2.length c).ownBlock = some i ∨ i = q) wd w3 := hSc.grown hgrow (fun k hk => .inl (.inl hk))
          refine hK.out _ _ hSd (fun hHeld => ?_)
          clear hK K_ hHeld
          try simp only [Act.put, List.setIfInBounds_toArray, List.set_cons_zero, List.set_cons_succ]
          replace hS := hSd
          (refine take_p (i := 9) (v := ?_) rfl (by kernel_rfl) (by kernel_rfl) (by kernel_rfl) (fun _ _ _ h => h) (Or.inl ⟨by rfl, ?_⟩) hS ?_; rotate_left; (focus (intro w0_ hSw; go_simp; try with_reducible rfl)); try simp only [Act.put, List.setIfInBounds_toArray, List.set_cons_zero, List.set_cons_succ])
          (refine take_p (i := 10) (v := ?_) rfl (by kernel_rfl) (by kernel_rfl) (by kernel_rfl) (fun _ _ _ h => h) (Or.inl ⟨by rfl, ?_⟩) hS ?_; rotate_left; (focus (intro w0_ hSw; go_simp; try with_reducible rfl)); try simp only [Act.put, List.setIfInBounds_toArray, List.set_cons_zero, List.set_cons_succ])
          have c0' := hbx.cell 0
          have f0' := hbx.frozen 0
          simp at c0'
          have hSe := hSd.setCell (p := ⟨q, 0, none⟩) (.inl (.inr rfl)) (.slice A' (bs2.length + 1) c')
          refine wpAnyH_ready (rs := [11]) (by kernel_rfl) (by simp) ?_
          refine cons_p rfl (fun K_ hK => ?_) AllReadyH.nil
          go_simp
          refine hK.out _ _ hSe (fun hHeld => ?_)
          clear hK K_ hHeld
          try simp only [Act.put, List.setIfInBounds_toArray, List.set_cons_zero, List.set_cons_succ]
          refine wpAnyH_done (by kernel_rfl) ?_ _
          have hP := hH2.push hb2 ho2 hnq (by omega) hm2 hown hgrow
          have hSf : Still w (w3.setCell ⟨q, 0, none⟩ (.slice A' (bs2.length + 1) c')) := hst.trans hSe (fun i hi e => by
            have hq' := Hq.out
            rcases e with e | e
            · rcases hod.2 with ⟨e', _⟩ | ⟨g', cap, cur, e', hbq, hh, _⟩
              · rw [e'] at e; simp [Value.ownBlock] at e
              · rw [e'] at e
                simp [Value.ownBlock] at e
                omega
            · omega)
          have hltw := hSe.size
          clear hS hSa hSb hSc hSd hSe hown hgrow hblk hbx c0' f0' c1 c2 hb2 ho2 hH2 hb1 ho1 hH1 hm1 hm2 hs1 hs2 hrd
          go_wp2_with fail
          go_roundw
          case rel => exact ⟨bs2.length + 1, bs2 ++ [wd.heap.size], hlt, by go_num, by simp, hP, hSf⟩
          case measure => simp [intOf]; omega
        · go_simp
          rw [← Hw2.out]
          refine hK.out _ _ hSc (fun hHeld => ?_)
          clear hK K_ hHeld
          try simp only [Act.put, List.setIfInBounds_toArray, List.set_cons_zero, List.set_cons_succ]
          replace hS := hSc
          refine wpAnyH_ready (rs := [4]) (by kernel_rfl) (by simp) ?_
          refine cons_p rfl (fun K_ hK => ?_) AllReadyH.nil
          go_simp
          refine hK.out _ _ hSc (fun hHeld => ?_)
          clear hK K_ hHeld
          try simp only [Act.put, List.setIfInBounds_toArray, List.set_cons_zero, List.set_cons_succ]
          replace hS := hSc
          refine wpAnyH_ready (rs := [8]) (by kernel_rfl) (by simp) ?_
          refine cons_p rfl (fun K_ hK => ?_) AllReadyH.nil
          refine step_append_any rfl (.tmp 23) (.tmp 26) 39 rfl q 69 i0 (.map none) 1 8 Try.underlying39 hi hz0 hz1' hz2 rfl (by decide) _ _ _ rfl ho2 _ (some ⟨wd.heap.size + 1, 0, none⟩) 1 1 [.map (some wd.heap.size)] rfl hrd (by intro u hu; simp at hu; subst hu; rfl) (by unfold maxLen; omega) (by omega) (by omega) ?_
          intro v' w3 hown hgrow hblk
          obtain ⟨A', c', rfl⟩ := own_shape hown
          have hbx := blk_grown hb2 hgrow (own_blk_ne ho2 hb2 (by decide))
          have hSd : Only (fun i => (Value.slice A bs2.length c).ownBlock = some i ∨ i = q) wd w3 := hSc.grown hgrow (fun k hk => .inl (.inl hk))
          refine hK.out _ _ hSd (fun hHeld => ?_)
          clear hK K_ hHeld
          try simp only [Act.put, List.setIfInBounds_toArray, List.set_cons_zero, List.set_cons_succ]
          replace hS := hSd
          (refine take_p (i := 9) (v := ?_) rfl (by kernel_rfl) (by kernel_rfl) (by kernel_rfl) (fun _ _ _ h => h) (Or.inl ⟨by rfl, ?_⟩) hS ?_; rotate_left; (focus (intro w0_ hSw; go_simp; try with_reducible rfl)); try simp only [Act.put, List.setIfInBounds_toArray, List.set_cons_zero, List.set_cons_succ])
          (refine take_p (i := 10) (v := ?_) rfl (by kernel_rfl) (by kernel_rfl) (by kernel_rfl) (fun _ _ _ h => h) (Or.inl ⟨by rfl, ?_⟩) hS ?_; rotate_left; (focus (intro w0_ hSw; go_simp; try with_reducible rfl)); try simp only [Act.put, List.setIfInBounds_toArray, List.set_cons_zero, List.set_cons_succ])
          have c0' := hbx.cell 0
          have f0' := hbx.frozen 0
          simp at c0'
          have hSe := hSd.setCell (p := ⟨q, 0, none⟩) (.inl (.inr rfl)) (.slice A' (bs2.length + 1) c')
          refine wpAnyH_ready (rs := [11]) (by kernel_rfl) (by simp) ?_
          refine cons_p rfl (fun K_ hK => ?_) AllReadyH.nil
          go_simp
          refine hK.out _ _ hSe (fun hHeld => ?_)
          clear hK K_ hHeld
          try simp only [Act.put, List.setIfInBounds_toArray, List.set_cons_zero, List.set_cons_succ]
          refine wpAnyH_done (by kernel_rfl) ?_ _
          have hP := hH2.push hb2 ho2 hnq (by omega) hm2 hown hgrow
          have hSf : Still w (w3.setCell ⟨q, 0, none⟩ (.slice A' (bs2.length + 1) c')) := hst.trans hSe (fun i hi e => by
            have hq' := Hq.out
            rcases e with e | e
            · rcases hod.2 with ⟨e', _⟩ | ⟨g', cap, cur, e', hbq, hh, _⟩
              · rw [e'] at e; simp [Value.ownBlock] at e
              · rw [e'] at e
                simp [Value.ownBlock] at e
                omega
            · omega)
          have hltw := hSe.size
          clear hS hSa hSb hSc hSd hSe hown hgrow hblk hbx c0' f0' c1 c2 hb2 ho2 hH2 hb1 ho1 hH1 hm1 hm2 hs1 hs2 hrd
          go_wp2_with fail
          go_roundw
          case rel => exact ⟨bs2.length + 1, bs2 ++ [wd.heap.size], hlt, by go_num, by simp, hP, hSf⟩
          case measure => simp [intOf]; omega
    · obtain rfl : k = n := by omega
      go_wp2_with fail
      go_ret
      have e : bs2.length = bs.length := by rw [hbk]; exact Hn.out
      exact ⟨q, bs2, rfl, e, hH.done (by rw [e]; exact H.out.inv) (by omega), by have := Hq.out; omega, fun b hb => by have := hH.ge b hb; have := Hq.out; omega, hst⟩
theorem copy_nil (w : World) :
    Calls Try.prog 18 #[.pointer none] w fun e w' => e = .returned (.pointer none) ∧ w = w' := by
  go_enter Try.func18, Try.ntmps18
  go_wp2
  go_ret
  exact ⟨rfl, rfl⟩
end Go.Proofs.Ythbapdajmpplhaa
