/-
  OrderTells: the order of any book, by any tape, is the document's.
-/
import Derived.Test.YtdcogjlcbdkdcaaDoorOrdCase
import Derived.Test.YtdcogjlcbdkdcaaDoorRefOrd
import Derived.Test.YtdcogjlcbdkdcaaDoorOrdAgain
namespace Go.Proofs.YtdcogjlcbdkdcaaDoor
open Go.RowKit
set_option linter.unusedVariables false
set_option linter.unusedSimpArgs false

theorem RBk.by_tape {w w' : World} {x b n c g' : Nat} {lim rst : Int} {us : List Up} {seed' : Int} {xs' : List Int} {n' : Nat} (h : RBk w x b n c lim rst us) (h' : Tape w g' seed' xs' n') (ho : Only (· = g') w w') : RBk w' x b n c lim rst us := by
  obtain ⟨f, hB, _⟩ := h'.src
  refine h.only ho (fun e => ?_) (fun e => ?_)
  · have e' : x = g' := e
    subst e'
    exact Blk.ne_ h.blk hB (by decide) rfl
  · have e' : b = g' := e
    subst e'
    exact own_blk_ne h.own hB (by decide) rfl
theorem Live.by_ref {w0 w w' : World} {g b n c g' : Nat} {lim rst : Int} {us : List Up} {seed' : Int} {xs' : List Int} {n' : Nat} (h : Live w0 w g b n c lim rst us) (h' : Ref w g' seed' xs' n') (ho : Only (· = g') w w') (h0 : w0.heap.size ≤ g') : Live w0 w' g b n c lim rst us := by
  obtain ⟨A, cc, hB, _⟩ := h'.src
  refine h.tape ho h0 (Blk.ne_ h.bk.blk hB (by decide)) (fun e => ?_)
  subst e
  exact own_blk_ne h.bk.own hB (by decide) rfl
set_option maxRecDepth 1000000 in
set_option maxHeartbeats 6400000 in
theorem tells_walk (w : World) (hg : Gains w) (u lim rst seed : Int) (A F : Option Addr) (m cc kf fc : Nat) (l : List A3) (xs : List Int) (hc : CaseIn w u lim rst seed A F m cc kf fc l xs) :
    Calls Tryd.prog 3 #[.agg #[.int .i64 u, .int .i64 lim, .int .i64 rst, .slice A m cc, .int .u64 seed, .slice F kf fc]] w fun e w' => e = .returned (.bool true) ∧ Still w w' := by
  have hs0 := Still.new w (.cells #[.int .i64 u, .int .i64 lim, .int .i64 rst, .slice A m cc, .int .u64 seed, .slice F kf fc] 26)
  have hB0 := Blk.new w 26 #[.int .i64 u, .int .i64 lim, .int .i64 rst, .slice A m cc, .int .u64 seed, .slice F kf fc]
  go_enter Tryd.func3, Tryd.ntmps3
  go_wp2_with fail
  refine (long_any _ u lim rst seed A F m cc kf fc).mono ?_
  rintro e w1 ⟨rfl, hs1'⟩
  have hs1 := hs0.still hs1'
  have hB1 := hB0.only hs1' (fun h => h)
  have hg1 := hg.still hs1
  generalize w.heap.size = K at hB1 ⊢
  by_cases hL : 500 < m ∨ 500 < kf
  · rw [decide_eq_true hL]
    go_wp2_with fail
    refine (order_awake _ hg1).mono ?_
    rintro e w2 ⟨rfl, hs2⟩
    go_wp2_with fail
    go_ret
    exact ⟨rfl, hs1.still hs2⟩
  · rw [decide_eq_false hL]
    have hm : m ≤ 500 := by omega
    have hkf : kf ≤ 500 := by omega
    clear hL
    obtain ⟨b0, b1, b2, b3, b4, b5⟩ := blk6 hB1
    go_wp2_with fail
    obtain ⟨w2, rfl⟩ : ∃ w2, w2 = w1 := ⟨_, rfl⟩
    have hs2 := hs1
    have hB2 := hB1
    have hg2 := hg1
    have hc2 := hc.still hs2
    clear hs0 hB0 hs1 hB1 hg1 hg hc
    by_cases hb : bookOk u lim rst
    · refine (book_ok w2 hg2 hb hc2.rd hc2.ll hm).mono ?_
      rintro e w3 ⟨g, b, c, x, bx, cx, n, Hn, rfl, hBo⟩
      clear b0 b1 b2 b3 b4 b5
      obtain ⟨b0, b1, b2, b3, b4, b5⟩ := blk6 (hB2.only hBo.live.st (fun h => h))
      have hc3 := hc2.still hBo.live.st
      generalize acts3 lim rst n (List.replicate n up1) l = us at hBo
      have h1 := hBo.live
      have hmay : 1 ≤ (mayL us).length := by rw [may_len]; have := hBo.inv.may; omega
      have hmay9 : (mayL us).length ≤ 9 := by
        have h2 := mayK_le us us.length
        have h3 := h1.bk.len
        have h4 := h1.ok.n9
        unfold mayL; omega
      have n1 := h1.ok.n1
      have n9 := h1.ok.n9
      go_wp2_with fail
      refine wp_region_held_drew (S := fun w' => Still w3 w') (by kernel_rfl) ((Only.refl (fun _ => False) w3).drew) (fun hS => ?_)
      (refine take_p (i := 0) (v := ?_) rfl (by kernel_rfl) (by kernel_rfl) (by kernel_rfl) (fun _ _ _ h => h) (Or.inl ⟨by rfl, ?_⟩) hS ?_; rotate_left; (focus (intro w0 hSw; go_simp; try with_reducible rfl)); try simp only [Act.put, List.setIfInBounds_toArray, List.set_cons_zero, List.set_cons_succ])
      (refine take_p (i := 1) (v := ?_) rfl (by kernel_rfl) (by kernel_rfl) (by kernel_rfl) (fun _ _ _ h => h) (Or.inl ⟨by rfl, ?_⟩) hS ?_; rotate_left; (focus (intro w0 hSw; have z0_ := hSw.cell_some (fun h => h) b4; have z1_ := hSw.cell_some (fun h => h) b5; go_simp; try with_reducible rfl)); try simp only [Act.put, List.setIfInBounds_toArray, List.set_cons_zero, List.set_cons_succ])
      (refine take_p (i := 2) (v := ?_) rfl (by kernel_rfl) (by kernel_rfl) (by kernel_rfl) (fun _ _ _ h => h) (Or.inl ⟨by rfl, ?_⟩) hS ?_; rotate_left; (focus (intro w0 hSw; go_simp; try with_reducible rfl)); try simp only [Act.put, List.setIfInBounds_toArray, List.set_cons_zero, List.set_cons_succ])
      (refine take_p (i := 3) (v := ?_) rfl (by kernel_rfl) (by kernel_rfl) (by kernel_rfl) (fun _ _ _ h => h) (Or.inl ⟨by rfl, ?_⟩) hS ?_; rotate_left; (focus (intro w0 hSw; have z0_ := hSw.cell_some (fun h => h) b4; have z1_ := hSw.cell_some (fun h => h) b5; go_simp; try with_reducible rfl)); try simp only [Act.put, List.setIfInBounds_toArray, List.set_cons_zero, List.set_cons_succ])
      (refine take_p (i := 5) (v := ?_) rfl (by kernel_rfl) (by kernel_rfl) (by kernel_rfl) (fun _ _ _ h => h) (Or.inl ⟨by rfl, ?_⟩) hS ?_; rotate_left; (focus (intro w0 hSw; go_simp; try with_reducible rfl)); try simp only [Act.put, List.setIfInBounds_toArray, List.set_cons_zero, List.set_cons_succ])
      (refine take_p (i := 6) (v := ?_) rfl (by kernel_rfl) (by kernel_rfl) (by kernel_rfl) (fun _ _ _ h => h) (Or.inl ⟨by rfl, ?_⟩) hS ?_; rotate_left; (focus (intro w0 hSw; have z0_ := hSw.cell_some (fun h => h) b4; have z1_ := hSw.cell_some (fun h => h) b5; go_simp; try with_reducible rfl)); try simp only [Act.put, List.setIfInBounds_toArray, List.set_cons_zero, List.set_cons_succ])
      (refine take_p (i := 7) (v := ?_) rfl (by kernel_rfl) (by kernel_rfl) (by kernel_rfl) (fun _ _ _ h => h) (Or.inl ⟨by rfl, ?_⟩) hS ?_; rotate_left; (focus (intro w0 hSw; go_simp; try with_reducible rfl)); try simp only [Act.put, List.setIfInBounds_toArray, List.set_cons_zero, List.set_cons_succ])
      (refine take_p (i := 8) (v := ?_) rfl (by kernel_rfl) (by kernel_rfl) (by kernel_rfl) (fun _ _ _ h => h) (Or.inl ⟨by rfl, ?_⟩) hS ?_; rotate_left; (focus (intro w0 hSw; have z0_ := hSw.cell_some (fun h => h) b4; have z1_ := hSw.cell_some (fun h => h) b5; go_simp; try with_reducible rfl)); try simp only [Act.put, List.setIfInBounds_toArray, List.set_cons_zero, List.set_cons_succ])
      refine wpAnyH_ready (rs := [4]) (by kernel_rfl) (by simp) ?_
      refine cons_p rfl (fun K hK => ?_) AllReadyH.nil
      go_simp
      refine (new_any seed F kf fc xs _ ((hc3.rx.only hS (Nat.le_refl _) (fun _ _ h => h)).more hS.size) hc3.fn (by omega) hc3.s0 hc3.s1 hc3.xr).mono ?_
      rintro e w4 ⟨t, rfl, ht0, ht4, hs4⟩
      have hS4 := hS.still hs4
      refine hK.out _ _ hS4 (fun hHeld => ?_)
      clear hK K hHeld
      try simp only [Act.put, List.setIfInBounds_toArray, List.set_cons_zero, List.set_cons_succ]
      refine wpAnyH_ready (rs := [9]) (by kernel_rfl) (by simp) ?_
      refine cons_p rfl (fun K hK => ?_) AllReadyH.nil
      go_simp
      refine (ref_new seed F kf fc xs _ ((hc3.rx.only hS4 (Nat.le_refl _) (fun _ _ h => h)).more hS4.size) (by omega) hc3.s0 hc3.s1 hc3.xr).mono ?_
      rintro e w5 ⟨t', rfl, ht0', ht5', hs5⟩
      have hS5 := hS4.still hs5
      refine hK.out _ _ hS5 (fun hHeld => ?_)
      clear hK K hHeld
      try simp only [Act.put, List.setIfInBounds_toArray, List.set_cons_zero, List.set_cons_succ]
      replace hS := hS5
      (refine take_p (i := 10) (v := ?_) rfl (by kernel_rfl) (by kernel_rfl) (by kernel_rfl) (fun _ _ _ h => h) (Or.inl ⟨by rfl, ?_⟩) hS ?_; rotate_left; (focus (intro w0 hSw; go_simp; try with_reducible rfl)); try simp only [Act.put, List.setIfInBounds_toArray, List.set_cons_zero, List.set_cons_succ])
      (refine take_p (i := 11) (v := ?_) rfl (by kernel_rfl) (by kernel_rfl) (by kernel_rfl) (fun _ _ _ h => h) (Or.inl ⟨by rfl, ?_⟩) hS ?_; rotate_left; (focus (intro w0 hSw; go_simp; try with_reducible rfl)); try simp only [Act.put, List.setIfInBounds_toArray, List.set_cons_zero, List.set_cons_succ])
      refine wpAnyH_done (by kernel_rfl) ?_ _
      go_wp2_with fail
      have h5 := h1.still hS5
      have hr5 := hBo.ref.still hS5
      have ht5 := ht4.still hs5
      have htp : w2.heap.size ≤ t := by have h1 := h1.st.size; have h2 := hS.size; have h3 : w3.heap.size ≤ w3.drew.heap.size := (Only.refl (fun _ => False) w3).drew.size; omega
      have htp2 : w2.heap.size ≤ t' := by have h1 := h1.st.size; have h2 := hS4.size; omega
      clear h1 hBo ht4 hs4 hs5 hS hS4 hS5 b0 b1 b2 b3 b4 b5 hc3 ht0 ht0'
      obtain ⟨M, hM⟩ : ∃ M, M = (mayL us).length := ⟨_, rfl⟩
      rw [← hM] at hmay hmay9
      have HM := Lib.hid hM
      clear hM
      go_loopw [7] (fun i wr => ∃ r q : Nat, r ≤ 3 ∧ i = .int .i64 r ∧ q ≤ 9 * r ∧ Live w2 wr g b n c lim rst us ∧ RBk wr x bx n cx lim rst us ∧ Tape wr t seed xs q ∧ Ref wr t' seed xs q) (fun i _ => 3 - (intOf i).toNat)
      case atStart => exact ⟨0, 0, by omega, rfl, by omega, h5, hr5, ht5, ht5'⟩
      case round =>
        clear h5 hr5 ht5 ht5'
        obtain ⟨r, q, hr3, rfl, hq, h6, hr6, ht6, ht6'⟩ := hrel
        by_cases hlt : r < 3
        · have hlt' : (r : Int) < 3 := by omega
          obtain ⟨w6, rfl⟩ : ∃ w6, w6 = wr := ⟨_, rfl⟩
          have g6 := h6.bk.lt
          have b6 := h6.bk.blt
          have x6 := hr6.lt
          have bx6 := hr6.blt
          have t6 := ht6.lt
          have t6' := ht6'.lt
          go_wp2_with fail
          refine (order_any h6 ht6 htp (by omega) (by rw [← HM.out]; exact hmay)).mono ?_
          rintro e w7 ⟨A1, c1, rfl, hown1, h7, ht7, ho7⟩
          rw [← HM.out] at hown1 ht7 ⊢
          have hL1 : (ordL (draw seed xs) q us).length = M := by rw [HM.out]; exact ordL_length _ _ _ (by rw [← HM.out]; exact hmay)
          obtain ⟨L1, hLe⟩ : ∃ L1, L1 = ordL (draw seed xs) q us := ⟨_, rfl⟩
          rw [← hLe] at hown1 hL1
          have HL1 := Lib.hid hLe
          clear hLe
          have hr7 := hr6.by_tape ht6 ho7
          have ht7' := ht6'.by_tape ht6 ho7
          have hsz7 := ho7.size
          clear h6 hr6 ht6 ht6' ho7
          go_wp2_with fail
          refine wp_region_held_drew (S := fun _ => True) (by kernel_rfl) trivial (fun hS => ?_)
          (refine take_p (i := 0) (v := ?_) rfl (by kernel_rfl) (by kernel_rfl) (by kernel_rfl) (fun _ _ _ h => h) (Or.inl ⟨by rfl, ?_⟩) hS ?_; rotate_left; (focus (intro w0 hSw; go_simp; try with_reducible rfl)); try simp only [Act.put, List.setIfInBounds_toArray, List.set_cons_zero, List.set_cons_succ])
          (refine take_p (i := 1) (v := ?_) rfl (by kernel_rfl) (by kernel_rfl) (by kernel_rfl) (fun _ _ _ h => h) (Or.inl ⟨by rfl, ?_⟩) hS ?_; rotate_left; (focus (intro w0 hSw; go_simp; try with_reducible rfl)); try simp only [Act.put, List.setIfInBounds_toArray, List.set_cons_zero, List.set_cons_succ])
          (refine take_p (i := 2) (v := ?_) rfl (by kernel_rfl) (by kernel_rfl) (by kernel_rfl) (fun _ _ _ h => h) (Or.inl ⟨by rfl, ?_⟩) hS ?_; rotate_left; (focus (intro w0 hSw; go_simp; try with_reducible rfl)); try simp only [Act.put, List.setIfInBounds_toArray, List.set_cons_zero, List.set_cons_succ])
          refine wpAnyH_ready (rs := [3]) (by kernel_rfl) (by simp) ?_
          refine cons_p rfl (fun K hK => ?_) AllReadyH.nil
          go_simp
          refine (reforder_any hr7.drew h7.ok h7.us (ht7'.still (Only.refl (fun _ => False) _).drew) (by omega) (by rw [← HM.out]; exact hmay)).mono ?_
          rintro e w8 ⟨A2, c2, rfl, hown8, ht8', ho8⟩
          rw [← HM.out] at hown8 ht8' ⊢
          rw [← HL1.out] at hown8
          have hsd : Still w7 w7.drew := (Only.refl (fun _ => False) _).drew
          have ht7d := ht7'.still hsd
          have h8 := (h7.still hsd).by_ref ht7d ho8 htp2
          have hr8 := hr7.drew.by_ref ht7d ho8
          have ht8 := (ht7.still hsd).by_ref ht7d ho8
          have htl' := ht7'.lt
          have hown1' := own_only (own_only hown1 hsd (fun _ _ h => h)) ho8 (fun z hz e => by have h1 := (hown1.lt z hz).1; have e' : z = t' := e; omega)
          refine hK.out _ _ trivial (fun hHeld => ?_)
          clear hK K hHeld
          try simp only [Act.put, List.setIfInBounds_toArray, List.set_cons_zero, List.set_cons_succ]
          refine wpAnyH_ready (rs := [4]) (by kernel_rfl) (by simp) ?_
          refine cons_p rfl (fun K hK => ?_) AllReadyH.nil
          go_simp
          refine (ints_any A1 A2 M c1 M c2 _ _ L1 L1 _ (Reads.of_own hown1') (Reads.of_own hown8) (by omega) (by omega)).mono ?_
          rintro e w9 ⟨rfl, qd, rfl⟩
          rw [decide_eq_true (rfl : L1 = L1)]
          have hsd9 : Still w8 (w8.drewN qd) := (Only.refl (fun _ => False) _).drewN qd
          have h9 := h8.still hsd9
          have hr9 := hr8.still hsd9
          have ht9 := ht8.still hsd9
          have ht9' := ht8'.still hsd9
          have hown9 := own_only hown1' hsd9 (fun _ _ h => h)
          have hsz9 : w7.heap.size ≤ (w8.drewN qd).heap.size := ho8.size
          generalize w8.drewN qd = w9 at *
          clear h8 hr8 ht8 ht8' hown8 hown1' hsd hsd9 ho8 ht7d
          obtain ⟨Ar_, cr_, hBr, _⟩ := ht9'.src
          have n2 := hBr.cell 2
          simp at n2
          have gl := h7.bk.lt
          refine hK.out _ _ trivial (fun hHeld => ?_)
          clear hK K hHeld
          try simp only [Act.put, List.setIfInBounds_toArray, List.set_cons_zero, List.set_cons_succ]
          (refine take_p (i := 5) (v := ?_) rfl (by kernel_rfl) (by kernel_rfl) (by kernel_rfl) (fun _ _ _ h => h) (Or.inl ⟨by rfl, ?_⟩) hS ?_; rotate_left; (focus (intro w0 hSw; go_simp; try with_reducible rfl)); try simp only [Act.put, List.setIfInBounds_toArray, List.set_cons_zero, List.set_cons_succ])
          (refine take_p (i := 6) (v := ?_) rfl (by kernel_rfl) (by kernel_rfl) (by kernel_rfl) (fun _ _ _ h => h) (Or.inl ⟨by rfl, ?_⟩) hS ?_; rotate_left; (focus (intro w0 hSw; go_simp; try with_reducible rfl)); try simp only [Act.put, List.setIfInBounds_toArray, List.set_cons_zero, List.set_cons_succ])
          (refine take_p (i := 7) (v := ?_) rfl (by kernel_rfl) (by kernel_rfl) (by kernel_rfl) (fun _ _ _ h => h) (Or.inl ⟨by rfl, ?_⟩) hS ?_; rotate_left; (focus (intro w0 hSw; go_simp; try with_reducible rfl)); try simp only [Act.put, List.setIfInBounds_toArray, List.set_cons_zero, List.set_cons_succ])
          (refine take_p (i := 9) (v := ?_) rfl (by kernel_rfl) (by kernel_rfl) (by kernel_rfl) (fun _ _ _ h => h) (Or.inl ⟨by rfl, ?_⟩) hS ?_; rotate_left; (focus (intro w0 hSw; go_simp; try with_reducible rfl)); try simp only [Act.put, List.setIfInBounds_toArray, List.set_cons_zero, List.set_cons_succ])
          (refine take_p (i := 10) (v := ?_) rfl (by kernel_rfl) (by kernel_rfl) (by kernel_rfl) (fun _ _ _ h => h) (Or.inl ⟨by rfl, ?_⟩) hS ?_; rotate_left; (focus (intro w0 hSw; go_simp; try with_reducible rfl)); try simp only [Act.put, List.setIfInBounds_toArray, List.set_cons_zero, List.set_cons_succ])
          (refine take_p (i := 11) (v := ?_) rfl (by kernel_rfl) (by kernel_rfl) (by kernel_rfl) (fun _ _ _ h => h) (Or.inl ⟨by rfl, ?_⟩) hS ?_; rotate_left; (focus (intro w0 hSw; go_simp; try with_reducible rfl)); try simp only [Act.put, List.setIfInBounds_toArray, List.set_cons_zero, List.set_cons_succ])
          refine wpAnyH_ready (rs := [8, 12]) (by kernel_rfl) (by simp) ?_
          refine cons_p rfl (fun K hK => ?_) (cons_p rfl (fun K hK => ?_) AllReadyH.nil)
          · skip
            go_simp
            refine (used_any ht9).mono ?_
            rintro e wq ⟨rfl, rfl⟩
            refine hK.out _ _ trivial (fun hHeld => ?_)
            clear hK K hHeld
            try simp only [Act.put, List.setIfInBounds_toArray, List.set_cons_zero, List.set_cons_succ]
            refine wpAnyH_ready (rs := [12]) (by kernel_rfl) (by simp) ?_
            refine cons_p rfl (fun K hK => ?_) AllReadyH.nil
            go_simp
            refine hK.out _ _ trivial (fun hHeld => ?_)
            clear hK K hHeld
            try simp only [Act.put, List.setIfInBounds_toArray, List.set_cons_zero, List.set_cons_succ]
            (refine take_p (i := 13) (v := ?_) rfl (by kernel_rfl) (by kernel_rfl) (by kernel_rfl) (fun _ _ _ h => h) (Or.inl ⟨by rfl, ?_⟩) hS ?_; rotate_left; (focus (intro w0 hSw; go_simp; try with_reducible rfl)); try simp only [Act.put, List.setIfInBounds_toArray, List.set_cons_zero, List.set_cons_succ])
            (refine take_p (i := 14) (v := ?_) rfl (by kernel_rfl) (by kernel_rfl) (by kernel_rfl) (fun _ _ _ h => h) (Or.inl ⟨by rfl, ?_⟩) hS ?_; rotate_left; (focus (intro w0 hSw; go_simp; try with_reducible rfl)); try simp only [Act.put, List.setIfInBounds_toArray, List.set_cons_zero, List.set_cons_succ])
            refine wpAnyH_done (by kernel_rfl) ?_ _
            go_wp2_with fail
            obtain ⟨bl, cl, hA1, hbl⟩ := own_some hown9 hmay
            injection hA1 with hA1 _ hcc
            subst hA1
            clear hcc
            go_loopw [9] (fun i w' => ∃ (k : Nat) (L : List Int), k ≤ M ∧ i = .int .i64 k ∧ w'.ownsRow w6.heap.size 3 1 (.slice (some ⟨bl, 0, none⟩) M c1) M (L.map (.int .i64)) ∧ Hid (L.length = M) ∧ Hid (Only (· = bl) w9 w')) (fun i _ => M - (intOf i).toNat)
            case atStart => exact ⟨0, L1, by omega, rfl, hown9, Lib.hid hL1, Lib.hid (Only.refl _ _)⟩
            case round =>
              obtain ⟨k, L, hk, rfl, hown, hLl, hst⟩ := hrel
              by_cases hlt : k < M
              · have hlt' : (k : Int) < (M : Int) := by omega
                have hc := own_cell hown (i := k) (by rw [hLl.out]; exact hlt)
                have hf := hown.frozenAt k
                generalize L.getD k 0 = yv at hc
                go_wp2_with fail
                go_roundw
                case rel => exact ⟨k + 1, L.set k 77, by omega, by go_num, by rw [List.map_set]; exact (hown.stored k _).1, Lib.hid (by rw [List.length_set]; exact hLl.out), Lib.hid (hst.out.setCell (p := ⟨bl, k, none⟩) (.inl rfl) _)⟩
                case measure => simp [intOf]; omega
              · have hlt' : ¬ (k : Int) < (M : Int) := by omega
                have h10 := h9.tape hst.out (by omega) (by omega) (by omega)
                have hr10 := hr9.only hst.out (by omega) (by omega)
                have ht10 := ht9.only hst.out (by omega) (by
                  rintro i t cs rfl hh
                  exact own_type (p := fun t => t ≠ 24 ∧ t ≠ 23) hown9 rfl hh ⟨by decide, by decide⟩)
                have ht10' := ht9'.only hst.out (by omega) (by
                  rintro i t cs rfl hh
                  exact own_type (p := fun t => t ≠ 23) hown9 rfl hh (by decide))
                clear h9 hr9 ht9 ht9' hown9 hown hst
                go_wp2_with fail
                go_roundw
                case rel => exact ⟨r + 1, q + (M - 1), by omega, by go_num, by omega, h10, hr10, ht10, ht10'⟩
                case measure => simp [intOf]; omega
          · skip
            go_simp
            refine hK.out _ _ trivial (fun hHeld => ?_)
            clear hK K hHeld
            try simp only [Act.put, List.setIfInBounds_toArray, List.set_cons_zero, List.set_cons_succ]
            refine wpAnyH_ready (rs := [8]) (by kernel_rfl) (by simp) ?_
            refine cons_p rfl (fun K hK => ?_) AllReadyH.nil
            go_simp
            refine (used_any ht9).mono ?_
            rintro e wq ⟨rfl, rfl⟩
            refine hK.out _ _ trivial (fun hHeld => ?_)
            clear hK K hHeld
            try simp only [Act.put, List.setIfInBounds_toArray, List.set_cons_zero, List.set_cons_succ]
            (refine take_p (i := 13) (v := ?_) rfl (by kernel_rfl) (by kernel_rfl) (by kernel_rfl) (fun _ _ _ h => h) (Or.inl ⟨by rfl, ?_⟩) hS ?_; rotate_left; (focus (intro w0 hSw; go_simp; try with_reducible rfl)); try simp only [Act.put, List.setIfInBounds_toArray, List.set_cons_zero, List.set_cons_succ])
            (refine take_p (i := 14) (v := ?_) rfl (by kernel_rfl) (by kernel_rfl) (by kernel_rfl) (fun _ _ _ h => h) (Or.inl ⟨by rfl, ?_⟩) hS ?_; rotate_left; (focus (intro w0 hSw; go_simp; try with_reducible rfl)); try simp only [Act.put, List.setIfInBounds_toArray, List.set_cons_zero, List.set_cons_succ])
            refine wpAnyH_done (by kernel_rfl) ?_ _
            go_wp2_with fail
            obtain ⟨bl, cl, hA1, hbl⟩ := own_some hown9 hmay
            injection hA1 with hA1 _ hcc
            subst hA1
            clear hcc
            go_loopw [9] (fun i w' => ∃ (k : Nat) (L : List Int), k ≤ M ∧ i = .int .i64 k ∧ w'.ownsRow w6.heap.size 3 1 (.slice (some ⟨bl, 0, none⟩) M c1) M (L.map (.int .i64)) ∧ Hid (L.length = M) ∧ Hid (Only (· = bl) w9 w')) (fun i _ => M - (intOf i).toNat)
            case atStart => exact ⟨0, L1, by omega, rfl, hown9, Lib.hid hL1, Lib.hid (Only.refl _ _)⟩
            case round =>
              obtain ⟨k, L, hk, rfl, hown, hLl, hst⟩ := hrel
              by_cases hlt : k < M
              · have hlt' : (k : Int) < (M : Int) := by omega
                have hc := own_cell hown (i := k) (by rw [hLl.out]; exact hlt)
                have hf := hown.frozenAt k
                generalize L.getD k 0 = yv at hc
                go_wp2_with fail
                go_roundw
                case rel => exact ⟨k + 1, L.set k 77, by omega, by go_num, by rw [List.map_set]; exact (hown.stored k _).1, Lib.hid (by rw [List.length_set]; exact hLl.out), Lib.hid (hst.out.setCell (p := ⟨bl, k, none⟩) (.inl rfl) _)⟩
                case measure => simp [intOf]; omega
              · have hlt' : ¬ (k : Int) < (M : Int) := by omega
                have h10 := h9.tape hst.out (by omega) (by omega) (by omega)
                have hr10 := hr9.only hst.out (by omega) (by omega)
                have ht10 := ht9.only hst.out (by omega) (by
                  rintro i t cs rfl hh
                  exact own_type (p := fun t => t ≠ 24 ∧ t ≠ 23) hown9 rfl hh ⟨by decide, by decide⟩)
                have ht10' := ht9'.only hst.out (by omega) (by
                  rintro i t cs rfl hh
                  exact own_type (p := fun t => t ≠ 23) hown9 rfl hh (by decide))
                clear h9 hr9 ht9 ht9' hown9 hown hst
                go_wp2_with fail
                go_roundw
                case rel => exact ⟨r + 1, q + (M - 1), by omega, by go_num, by omega, h10, hr10, ht10, ht10'⟩
                case measure => simp [intOf]; omega
        · have hlt' : ¬ (r : Int) < 3 := by omega
          go_wp2_with fail
          refine (order_awake _ (hg2.still h6.st)).mono ?_
          rintro e wz ⟨rfl, hsz⟩
          go_wp2_with fail
          go_ret
          exact ⟨rfl, hs2.still (h6.st.still hsz)⟩
    · refine (book_bad w2 hc2.hu hb).mono ?_
      rintro e w3 ⟨rfl, hs3⟩
      go_wp2_with fail
      refine (order_awake _ (hg2.still hs3)).mono ?_
      rintro e wz ⟨rfl, hsz⟩
      go_wp2_with fail
      go_ret
      exact ⟨rfl, hs2.still (hs3.still hsz)⟩
end Go.Proofs.YtdcogjlcbdkdcaaDoor
