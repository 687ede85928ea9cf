/-
  OrderAlike: where all are alike, the order is the shuffle; where no two are, it does not hang on the draws; those that are alike stand as the shuffle left them.
-/
import Derived.Test.YtdcogjlcbdkdcaaDoorOrdCase
import Derived.Test.YtdcogjlcbdkdcaaDoorOrdAgain
import Derived.Test.YtdcogjlcbdkdcaaDoorOrdSame
import Derived.Test.YtdcogjlcbdkdcaaDoorOrdSel
namespace Go.Proofs.YtdcogjlcbdkdcaaDoor
open Go.RowKit
set_option linter.unusedVariables false
set_option linter.unusedSimpArgs false

set_option maxRecDepth 1000000 in
set_option maxHeartbeats 6400000 in
theorem alike_walk (w : World) (hg : Gains w) (u lim rst seed : Int) (A F : Option Addr) (m cc kf fc : Nat) (l : List A3) (xs : List Int) (hc : CaseIn w u lim rst seed A F m cc kf fc l xs) (sd2 : Int) (hq0 : 0 ≤ sd2) (hq1 : sd2 < 18446744073709551616) :
    Calls Tryd.prog 6 #[.agg #[.int .i64 u, .int .i64 lim, .int .i64 rst, .slice A m cc, .int .u64 seed, .slice F kf fc], .int .u64 sd2] w fun e w' => e = .returned (.bool true) ∧ Still w w' := by
  have hs0 := Still.new w (.cells #[.int .i64 u, .int .i64 lim, .int .i64 rst, .slice A m cc, .int .u64 seed, .slice F kf fc] 26)
  have hB0 := Blk.new w 26 #[.int .i64 u, .int .i64 lim, .int .i64 rst, .slice A m cc, .int .u64 seed, .slice F kf fc]
  go_enter Tryd.func6, Tryd.ntmps6
  go_wp2_with fail
  refine (long_any _ u lim rst seed A F m cc kf fc).mono ?_
  rintro e w1 ⟨rfl, hs1'⟩
  have hs1 := hs0.still hs1'
  have hB1 := hB0.only hs1' (fun h => h)
  have hg1 := hg.still hs1
  generalize w.heap.size = K at hB1 ⊢
  by_cases hL : 500 < m ∨ 500 < kf
  · rw [decide_eq_true hL]
    go_wp2_with fail
    refine (order_awake _ hg1).mono ?_
    rintro e w2 ⟨rfl, hs2⟩
    go_wp2_with fail
    go_ret
    exact ⟨rfl, hs1.still hs2⟩
  · rw [decide_eq_false hL]
    have hm : m ≤ 500 := by omega
    have hkf : kf ≤ 500 := by omega
    clear hL
    go_wp2_with fail
    refine (order_awake _ hg1).mono ?_
    rintro e w2 ⟨rfl, hs2'⟩
    have hs2 := hs1.still hs2'
    have hB2 := hB1.only hs2' (fun h => h)
    have hg2 := hg.still hs2
    have hc2 := hc.still hs2
    obtain ⟨b0, b1, b2, b3, b4, b5⟩ := blk6 hB2
    clear hs0 hB0 hs1 hB1 hg1 hg hc
    go_wp2_with fail
    by_cases hb : bookOk u lim rst
    · refine (book_ok w2 hg2 hb hc2.rd hc2.ll hm).mono ?_
      rintro e w3 ⟨g, b, c, x, bx, cx, n, Hn, rfl, hBo⟩
      clear b0 b1 b2 b3 b4 b5
      obtain ⟨b0, b1, b2, b3, b4, b5⟩ := blk6 (hB2.only hBo.live.st (fun h => h))
      have hc3 := hc2.still hBo.live.st
      generalize acts3 lim rst n (List.replicate n up1) l = us at hBo
      have h1 := hBo.live
      have hmay : 1 ≤ (mayL us).length := by rw [may_len]; have := hBo.inv.may; omega
      have hmay9 : (mayL us).length ≤ 9 := by
        have h2 := mayK_le us us.length
        have h3 := h1.bk.len
        have h4 := h1.ok.n9
        unfold mayL; omega
      have n1 := h1.ok.n1
      have n9 := h1.ok.n9
      have hPB := Blk.new w3 29 #[.pointer (some ⟨g, 0, none⟩)]
      have hsP := Still.new w3 (.cells #[.pointer (some ⟨g, 0, none⟩)] 29)
      go_wp2_with fail
      obtain ⟨w4, hw4⟩ : ∃ w4, w4 = w3.alloc (.cells #[.pointer (some ⟨g, 0, none⟩)] 29) := ⟨_, rfl⟩
      rw [← hw4] at hPB hsP ⊢
      obtain ⟨pb, hpb⟩ : ∃ pb, pb = w3.heap.size := ⟨_, rfl⟩
      rw [← hpb] at hPB ⊢
      have cP := hPB.cell 0
      simp at cP
      clear hw4 hpb hPB
      have h4 := h1.still hsP
      have hc4 := hc3.still hsP
      have k4 := hsP.cell_some (fun h => h) b4
      have k5 := hsP.cell_some (fun h => h) b5
      clear h1 hBo hc3 b0 b1 b2 b3 b4 b5
      refine (may_any h4.bk n9).mono ?_
      rintro e w5 ⟨A1, c1, rfl, hown1, hs5⟩
      have h5 := h4.still hs5
      have hc5 := hc4.still hs5
      have k4 := hs5.cell_some (fun h => h) k4
      have k5 := hs5.cell_some (fun h => h) k5
      have cp := hs5.cell_some (fun h => h) cP
      clear h4 hc4 hsP hs5 cP
      go_wp2_with fail
      refine wp_region_held_drew (S := fun w' => Still w5 w') (by kernel_rfl) ((Only.refl (fun _ => False) w5).drew) (fun hS => ?_)
      (refine take_p (i := 0) (v := ?_) rfl (by kernel_rfl) (by kernel_rfl) (by kernel_rfl) (fun _ _ _ h => h) (Or.inl ⟨by rfl, ?_⟩) hS ?_; rotate_left; (focus (intro w0 hSw; have z0_ := hSw.cell_some (fun h => h) cp; have z1_ := hSw.cell_some (fun h => h) k4; have z2_ := hSw.cell_some (fun h => h) k5; go_simp; try with_reducible rfl)); try simp only [Act.put, List.setIfInBounds_toArray, List.set_cons_zero, List.set_cons_succ])
      (refine take_p (i := 1) (v := ?_) rfl (by kernel_rfl) (by kernel_rfl) (by kernel_rfl) (fun _ _ _ h => h) (Or.inl ⟨by rfl, ?_⟩) hS ?_; rotate_left; (focus (intro w0 hSw; go_simp; try with_reducible rfl)); try simp only [Act.put, List.setIfInBounds_toArray, List.set_cons_zero, List.set_cons_succ])
      (refine take_p (i := 2) (v := ?_) rfl (by kernel_rfl) (by kernel_rfl) (by kernel_rfl) (fun _ _ _ h => h) (Or.inl ⟨by rfl, ?_⟩) hS ?_; rotate_left; (focus (intro w0 hSw; have z0_ := hSw.cell_some (fun h => h) cp; have z1_ := hSw.cell_some (fun h => h) k4; have z2_ := hSw.cell_some (fun h => h) k5; go_simp; try with_reducible rfl)); try simp only [Act.put, List.setIfInBounds_toArray, List.set_cons_zero, List.set_cons_succ])
      (refine take_p (i := 3) (v := ?_) rfl (by kernel_rfl) (by kernel_rfl) (by kernel_rfl) (fun _ _ _ h => h) (Or.inl ⟨by rfl, ?_⟩) hS ?_; rotate_left; (focus (intro w0 hSw; go_simp; try with_reducible rfl)); try simp only [Act.put, List.setIfInBounds_toArray, List.set_cons_zero, List.set_cons_succ])
      (refine take_p (i := 4) (v := ?_) rfl (by kernel_rfl) (by kernel_rfl) (by kernel_rfl) (fun _ _ _ h => h) (Or.inl ⟨by rfl, ?_⟩) hS ?_; rotate_left; (focus (intro w0 hSw; have z0_ := hSw.cell_some (fun h => h) cp; have z1_ := hSw.cell_some (fun h => h) k4; have z2_ := hSw.cell_some (fun h => h) k5; go_simp; try with_reducible rfl)); try simp only [Act.put, List.setIfInBounds_toArray, List.set_cons_zero, List.set_cons_succ])
      refine wpAnyH_ready (rs := [5]) (by kernel_rfl) (by simp) ?_
      refine cons_p rfl (fun K hK => ?_) AllReadyH.nil
      go_simp
      refine (new_any seed F kf fc xs _ ((hc5.rx.only hS (Nat.le_refl _) (fun _ _ h => h)).more hS.size) hc5.fn (by omega) hc5.s0 hc5.s1 hc5.xr).mono ?_
      rintro e w6 ⟨t, rfl, ht0, ht6, hs6⟩
      have hS6 := hS.still hs6
      refine hK.out _ _ hS6 (fun hHeld => ?_)
      clear hK K hHeld
      try simp only [Act.put, List.setIfInBounds_toArray, List.set_cons_zero, List.set_cons_succ]
      refine wpAnyH_ready (rs := [6]) (by kernel_rfl) (by simp) ?_
      refine cons_p rfl (fun K hK => ?_) AllReadyH.nil
      go_simp
      have htp : w2.heap.size ≤ t := by have h1 := h5.st.size; have h2 := hS.size; omega
      refine (order_any (h5.still hS6) ht6 htp (by omega) hmay).mono ?_
      rintro e w7 ⟨A2, c2, rfl, hown2, h7, ht7, ho7⟩
      have hS7 := hS6.trans ho7 (fun i hi e => by have h2 := hS.size; have e' : i = t := e; omega)
      refine hK.out _ _ hS7 (fun hHeld => ?_)
      clear hK K hHeld
      try simp only [Act.put, List.setIfInBounds_toArray, List.set_cons_zero, List.set_cons_succ]
      replace hS := hS7
      (refine take_p (i := 7) (v := ?_) rfl (by kernel_rfl) (by kernel_rfl) (by kernel_rfl) (fun _ _ _ h => h) (Or.inl ⟨by rfl, ?_⟩) hS ?_; rotate_left; (focus (intro w0 hSw; go_simp; try with_reducible rfl)); try simp only [Act.put, List.setIfInBounds_toArray, List.set_cons_zero, List.set_cons_succ])
      refine wpAnyH_done (by kernel_rfl) ?_ _
      have hL1 := ordL_length (draw seed xs) 0 us hmay
      have hnod := ord_nodup (D := draw seed xs) (k0 := 0) hmay
      have hat : ∀ k, k < (mayL us).length → ∃ (J : Nat) (u : Up), (ordL (draw seed xs) 0 us)[k]? = some (J : Int) ∧ us[J]? = some u := fun k hk => by
        obtain ⟨J, u, q1, _, q3, _⟩ := ord_at (D := draw seed xs) (k0 := 0) hmay hk
        exact ⟨J, u, q1, q3⟩
      have hpos : ∀ x, x ∈ rowL (draw seed xs) 0 us → ∃ p : Nat, p < (mayL us).length ∧ (ordL (draw seed xs) 0 us)[p]? = some x := fun x hx => by
        have := (ord_perm (draw seed xs) 0 us).mem_iff.2 hx
        obtain ⟨p, hp, rfl⟩ := List.getElem_of_mem this
        exact ⟨p, by omega, List.getElem?_eq_getElem hp⟩
      have hahd : ∀ (i k p q : Nat) (u v : Int), i < k → (rowL (draw seed xs) 0 us)[i]? = some u → (rowL (draw seed xs) 0 us)[k]? = some v → key (cnd us u) = key (cnd us v) → (ordL (draw seed xs) 0 us)[p]? = some u → (ordL (draw seed xs) 0 us)[q]? = some v → p < q :=
        fun i k p q u v h1 h2 h3 h4 h5 h6 => alike_ahead hmay h1 h2 h3 h4 h5 h6
      have hun : (∀ (i k : Nat) (u v : Int), i < k → (rowL (draw seed xs) 0 us)[i]? = some u → (rowL (draw seed xs) 0 us)[k]? = some v → key (cnd us u) ≠ key (cnd us v)) → ordL (draw seed xs) 0 us = ordL (draw sd2 []) 0 us :=
        fun h => unlike_same _ _ _ _ us hmay h
      have hRL : ∀ k X : Nat, ∀ y : Int, (shuffled (draw seed xs) 0 (mayL us).length).getD k 0 = X → k < (mayL us).length → (mayL us)[X]? = some y → (rowL (draw seed xs) 0 us)[k]? = some y := by
        intro k X y h1 hk h2
        have hl := (each_shuffled (draw seed xs) 0 _ hmay).1
        unfold rowL
        rw [List.getElem?_map, List.getElem?_eq_getElem (by omega)]
        rw [List.getD_eq_getElem?_getD, List.getElem?_eq_getElem (by omega)] at h1
        simp only [Option.getD_some] at h1
        simp only [Option.map_some, h1, Int.toNat_natCast, List.getD_eq_getElem?_getD, h2, Option.getD_some]
      have hRl := rowL_length (draw seed xs) 0 us hmay
      have hups := row_ups (D := draw seed xs) (k0 := 0) hmay
      have hEach := each_shuffled (draw seed xs) 0 _ hmay
      have HN := Lib.hid hnod
      have HA := Lib.hid hat
      have HP := Lib.hid hpos
      have HH := Lib.hid hahd
      have HU := Lib.hid hun
      have HR := Lib.hid hRL
      have HE := Lib.hid hEach
      have HUps := Lib.hid hups
      clear hnod hat hpos hahd hun hRL hups hEach
      generalize ordL (draw seed xs) 0 us = L at *
      generalize rowL (draw seed xs) 0 us = R at *
      have hc7 := hc5.still hS
      have k4 := hS.cell_some (fun h => h) k4
      have k5 := hS.cell_some (fun h => h) k5
      have cp := hS.cell_some (fun h => h) cp
      have hown1 := own_only hown1 hS (fun _ _ h => h)
      clear h5 hc5 hS6 hS7 ht6 hs6 ht7 ho7 ht0 hS
      go_wp2_with fail
      refine (new_any seed F kf fc xs _ hc7.rx hc7.fn (by omega) hc7.s0 hc7.s1 hc7.xr).mono ?_
      rintro e w8 ⟨t', rfl, ht0, ht8, hs8⟩
      go_wp2_with fail
      refine (shuf_any ht8 (by omega) _ hmay (by omega)).mono ?_
      rintro e w9 ⟨bs, cs, rfl, hbs, hown3, ht9, ho9⟩
      have hS9 := hs8.trans ho9 (fun i hi e => by have e' : i = t' := e; omega)
      have hown1 := own_only hown1 hS9 (fun _ _ h => h)
      have hown2 := own_only hown2 hS9 (fun _ _ h => h)
      have h9 := h7.still hS9
      have cp := hS9.cell_some (fun h => h) cp
      generalize hD : (some (⟨bs, 0, none⟩ : Addr)) = D at hown3 ⊢
      clear hD
      obtain ⟨Y, hY⟩ : ∃ Y, Y = mayL us := ⟨_, rfl⟩
      rw [← hY] at hown1 hown2 hown3 HA HP HR HE hmay hmay9 hL1 hRl ⊢
      have HY := Lib.hid hY
      clear hY
      obtain ⟨M, hM⟩ : ∃ M, M = Y.length := ⟨_, rfl⟩
      rw [← hM] at hown1 hown2 hown3 HA HP HR HE hmay hmay9 hL1 hRl ⊢
      have HM : Hid (M = (mayL us).length) := Lib.hid (by rw [hM, HY.out])
      have hYl := Lib.hid hM
      clear hM
      have hr1 := Reads.of_own hown1
      have hr2 := Reads.of_own hown2
      have hr3 := Reads.of_own hown3
      clear hown1 hown2 hown3 h7 hs8 ho9 ht8 ht9 hS9 hc7 k4 k5 ht0 hbs
      obtain ⟨i0, hi, hz0, hz1, hz2⟩ := info_parts info_int
      go_wp2_with (at_make; refine wpList_make_full _ rfl _ _ 37 rfl w9.heap.size 3 i0 (.int .i64 0) 1 Tryd.underlying37 hi hz0 hz1 _ _ _ _ 9 rfl rfl rfl rfl ?q1 ?q2 ?q3 ?_)
      case q1 => omega
      case q2 => unfold maxLen; omega
      case q3 => exact Nat.le_refl _
      intro w10 hownT hgrow
      have hS10 : Still w9 w10 := (Only.refl _ _).grown hgrow (fun k hk => by cases hk)
      have hownT : w10.ownsRow w9.heap.size 3 1 (.slice (some ⟨w9.heap.size, 0, none⟩) 9 9) 9 ((List.replicate 9 (0 : Int)).map (.int .i64)) := by
        have e : (madeCells #[Value.int .i64 0] 9).toList = (List.replicate 9 (0 : Int)).map (.int .i64) := by
          rw [List.map_replicate]
          exact toList_madeCells_one _ _
        rw [← e]; exact hownT
      clear hgrow
      have hr1 := (hr1.only hS10 (Nat.le_refl _) (fun _ _ h => h))
      have hr2 := (hr2.only hS10 (Nat.le_refl _) (fun _ _ h => h))
      have hr3 := (hr3.only hS10 (Nat.le_refl _) (fun _ _ h => h))
      have h10 := h9.still hS10
      have cp := hS10.cell_some (fun h => h) cp
      have pbl := World.block_lt_of_cell? _ _ (show w9.cell? ⟨pb, 0, none⟩ = some (.pointer (some ⟨g, 0, none⟩)) by assumption)
      have gl := h9.bk.lt
      have bl := h9.bk.blt
      have w29 := h9.st.size
      have sz10 := hS10.size
      clear h9 hS10
      generalize w9.heap.size = B at *
      simp only at pbl
      go_wp2_with fail
      go_loopw [13] (fun i wr => ∃ (k : Nat) (T : List Int), k ≤ M ∧ i = .int .i64 k ∧ wr.ownsRow B 3 1 (.slice (some ⟨B, 0, none⟩) 9 9) 9 (T.map (.int .i64)) ∧ Hid (T.length = 9 ∧ ∀ j J : Nat, j < k → L[j]? = some (J : Int) → T.getD J 0 = j) ∧ Hid (Only (· = B) w10 wr)) (fun i _ => M - (intOf i).toNat)
      case atStart => exact ⟨0, _, by omega, rfl, hownT, Lib.hid ⟨List.length_replicate, fun j J h _ => by omega⟩, Lib.hid (Only.refl _ _)⟩
      case round =>
        clear hownT
        obtain ⟨k, T, hk, rfl, hownT, hT, hst⟩ := hrel
        by_cases hlt : k < M
        · obtain ⟨ad, xx, rfl, _, hx, hxc⟩ := reads_int (hr2.only hst.out (by omega) (fun q hq e => by have e' : q = B := e; omega)) hlt
          obtain ⟨J, uu, hLk, huu⟩ := HA.out k hlt
          obtain rfl : xx = (J : Int) := Option.some.inj (hx.symm.trans hLk)
          have hJn := h10.gof huu
          have hJ9 : J < 9 := by omega
          have i1 : (J : Int) < 9 := by omega
          have i2 : (k : Int) < (M : Int) := by omega
          have d1 : decide ((J : Int) < 0) = false := decide_eq_false (by omega)
          have d2 : decide (9 ≤ J) = false := decide_eq_false (by omega)
          have hc := own_cell hownT (i := J) (by rw [hT.out.1]; exact hJ9)
          have hf := hownT.frozenAt J
          generalize T.getD J 0 = yv at hc
          have HLk := Lib.hid hLk
          clear hx hLk huu
          go_wp2_with fail
          go_roundw
          case rel =>
            refine ⟨k + 1, T.set J k, by omega, by go_num, by rw [List.map_set]; exact (hownT.stored J _).1, Lib.hid ⟨by rw [List.length_set]; exact hT.out.1, fun j J' hj hLj => ?_⟩, Lib.hid (hst.out.setCell (p := ⟨B, J, none⟩) (.inl rfl) _)⟩
            rw [List.getD_eq_getElem?_getD, List.getElem?_set]
            by_cases e : J = J'
            · subst e
              rw [if_pos rfl, if_pos (by rw [hT.out.1]; exact hJ9)]
              obtain ⟨a1, a2⟩ := List.getElem?_eq_some_iff.1 HLk.out
              obtain ⟨b1, b2⟩ := List.getElem?_eq_some_iff.1 hLj
              have : k = j := (List.getElem_inj HN.out).1 (a2.trans b2.symm)
              rw [this]; rfl
            · rw [if_neg e, ← List.getD_eq_getElem?_getD]
              rcases Nat.lt_or_ge j k with h1 | h1
              · exact hT.out.2 j J' h1 hLj
              · have : j = k := by omega
                subst this
                have e' := HLk.out.symm.trans hLj
                injection e' with e'
                omega
          case measure => simp [intOf]; omega
        · obtain rfl : M = k := by omega
          have h11 := h10.tape hst.out (by omega) (by omega) (by omega)
          have hr1 := hr1.only hst.out (by omega) (fun q hq e => by have e' : q = B := e; omega)
          have hr2 := hr2.only hst.out (by omega) (fun q hq e => by have e' : q = B := e; omega)
          have hr3 := hr3.only hst.out (by omega) (fun q hq e => by have e' : q = B := e; omega)
          have cp := hst.out.cell_some (fun e => by have e' : pb = B := e; omega) cp
          have sz11 := hst.out.size
          obtain ⟨w11, rfl⟩ : ∃ w11, w11 = wr := ⟨_, rfl⟩
          clear h10 hst
          go_wp2_with fail
          go_loopw [11, 14] (fun un i wr => ∃ (k : Nat) (b : Bool), k ≤ M ∧ i = .int .i64 k ∧ un = .bool b ∧ Hid (b = true → ∀ (a c : Nat) (u v : Int), a < k → a < c → R[a]? = some u → R[c]? = some v → key (cnd us u) ≠ key (cnd us v)) ∧ ∃ q, wr = w11.drewN q) (fun _ i _ => M - (intOf i).toNat)
          case atStart => exact ⟨0, true, by omega, rfl, rfl, Lib.hid (fun _ a c u v h => by omega), 0, rfl⟩
          case round =>
            obtain ⟨k, b1, hk, rfl, rfl, hpr, q, rfl⟩ := hrel
            by_cases hlt : k < M
            · have i2 : (k : Int) < (M : Int) := by omega
              obtain ⟨ad3, xk, hD3, _, hxk, hxkc⟩ := reads_int hr3 hlt
              obtain rfl := hD3
              have hxkg : (shuffled (draw seed xs) 0 M).getD k 0 = xk := by rw [List.getD_eq_getElem?_getD, hxk]; rfl
              obtain ⟨X, rfl⟩ : ∃ X : Nat, xk = X := ⟨xk.toNat, by have := HE.out.2.1 k hlt; omega⟩
              have hXM : X < M := by have := HE.out.2.1 k hlt; omega
              obtain ⟨ad1, yk, hD1, _, hyk, hykc⟩ := reads_int hr1 hXM
              obtain rfl := hD1
              have hRk := HR.out k X yk hxkg hlt hyk
              obtain ⟨Jk, uk, rfl, huk⟩ := HUps.out yk (List.mem_of_getElem? hRk)
              have HRk := Lib.hid hRk
              clear hxk hxkg hyk hRk
              go_wp2_with fail
              go_loopw [11, 15] (fun un i wr => ∃ (j : Nat) (b : Bool), k < j ∧ j ≤ M ∧ i = .int .i64 j ∧ un = .bool b ∧ Hid (b = true → b1 = true ∧ ∀ (c : Nat) (v : Int), k < c → c < j → R[c]? = some v → key (cnd us (Jk : Int)) ≠ key (cnd us v)) ∧ ∃ q, wr = w11.drewN q) (fun _ i _ => M - (intOf i).toNat)
              case atStart => exact ⟨k + 1, b1, by omega, by omega, by go_num, rfl, Lib.hid (fun h => ⟨h, fun c v h1 h2 => by omega⟩), q, rfl⟩
              case round =>
                obtain ⟨j, b2, hkj, hj, rfl, rfl, hpi, q, rfl⟩ := hrel
                by_cases hlj : j < M
                · have i3 : (j : Int) < (M : Int) := by omega
                  obtain ⟨ad_, xk2, hD_, _, hxj, hxjc⟩ := reads_int hr3 hlj
                  injection hD_ with hD_
                  subst hD_
                  have hxjg : (shuffled (draw seed xs) 0 M).getD j 0 = xk2 := by rw [List.getD_eq_getElem?_getD, hxj]; rfl
                  obtain ⟨X2, rfl⟩ : ∃ X2 : Nat, xk2 = X2 := ⟨xk2.toNat, by have := HE.out.2.1 j hlj; omega⟩
                  have hXM2 : X2 < M := by have := HE.out.2.1 j hlj; omega
                  obtain ⟨ad_, yj, hD_, _, hyj, hyjc⟩ := reads_int hr1 hXM2
                  injection hD_ with hD_
                  subst hD_
                  have hRj := HR.out j X2 yj hxjg hlj hyj
                  obtain ⟨Jj, uj, rfl, huj⟩ := HUps.out yj (List.mem_of_getElem? hRj)
                  have HRj := Lib.hid hRj
                  have i4 : (X : Int) < (M : Int) := by omega
                  have i5 : (X2 : Int) < (M : Int) := by omega
                  clear hxj hxjg hyj hRj
                  go_wp2_with fail
                  go_quiet (fail)
                  go_wp2_with fail
                  refine (same_any (h11.bk.drewN _) h11.us cp Jk Jj huk huj).mono ?_
                  rintro e wq ⟨rfl, rfl⟩
                  by_cases hA : key (cnd us (Jk : Int)) = key (cnd us (Jj : Int))
                  · obtain ⟨p, hpM, hLp⟩ := HP.out (Jk : Int) (List.mem_of_getElem? HRk.out)
                    obtain ⟨p2, hpM2, hLp2⟩ := HP.out (Jj : Int) (List.mem_of_getElem? HRj.out)
                    have hpp := HH.out k j p p2 _ _ hkj HRk.out HRj.out hA hLp hLp2
                    have hJk9 : Jk < 9 := by have := h11.gof huk; omega
                    have hJj9 : Jj < 9 := by have := h11.gof huj; omega
                    have hc1 := own_cell hownT (i := Jk) (by rw [hT.out.1]; exact hJk9)
                    have hc2 := own_cell hownT (i := Jj) (by rw [hT.out.1]; exact hJj9)
                    rw [hT.out.2 p Jk hpM hLp] at hc1
                    rw [hT.out.2 p2 Jj hpM2 hLp2] at hc2
                    have d3 : decide (p2 < p) = false := decide_eq_false (by omega)
                    have d4 : ¬ p2 < p := by omega
                    have i6 : (Jk : Int) < 9 := by omega
                    have i7 : (Jj : Int) < 9 := by omega
                    rw [decide_eq_true hA]
                    clear hLp hLp2
                    go_wp2_with fail
                    go_quiet (fail)
                    go_wp2_with fail
                    go_roundw
                    case rel => exact ⟨j + 1, false, by omega, by omega, by go_num, rfl, Lib.hid (fun h => by cases h), _, rfl⟩
                    case measure => simp [intOf]; omega
                  · rw [decide_eq_false hA]
                    go_wp2_with fail
                    go_roundw
                    case rel =>
                      refine ⟨j + 1, b2, by omega, by omega, by go_num, rfl, Lib.hid (fun h => ⟨(hpi.out h).1, fun c v h1 h2 hv => ?_⟩), _, rfl⟩
                      rcases Nat.lt_or_ge c j with h3 | h3
                      · exact (hpi.out h).2 c v h1 h3 hv
                      · have : c = j := by omega
                        subst this
                        have := HRj.out.symm.trans hv
                        injection this with this
                        rw [← this]; exact hA
                    case measure => simp [intOf]; omega
                · have i3 : ¬ (j : Int) < (M : Int) := by omega
                  go_wp2_with fail
                  go_roundw
                  case rel =>
                    refine ⟨k + 1, b2, by omega, by go_num, rfl, Lib.hid (fun h a c u v ha hac hu hv => ?_), _, rfl⟩
                    rcases Nat.lt_or_ge a k with h3 | h3
                    · exact hpr.out (hpi.out h).1 a c u v h3 hac hu hv
                    · have : a = k := by omega
                      subst this
                      have hu' := HRk.out.symm.trans hu
                      injection hu' with hu'
                      rw [← hu']
                      have hcl := (List.getElem?_eq_some_iff.1 hv).1
                      exact (hpi.out h).2 c v hac (by omega) hv
                  case measure => simp [intOf]; omega
            · have i2 : ¬ (k : Int) < (M : Int) := by omega
              have hst := (Only.refl (fun _ => False) w11).drewN q
              have hv := h11.still hst
              have hrLv := hr2.only hst (by omega) (fun _ _ h => h)
              have cpv := hst.cell_some (fun h => h) cp
              have szv := hst.size
              clear h11 hr1 hr2 hr3 hownT
              rcases b1 with _ | _
              · go_wp2_with fail
                obtain ⟨wv, hwv⟩ : ∃ wv, wv = w11.drewN q := ⟨_, rfl⟩
                rw [← hwv] at hv hrLv cpv szv ⊢
                clear hwv hst
                refine wp_region_held_drew (S := fun w' => Still wv w') (by kernel_rfl) ((Only.refl (fun _ => False) wv).drew) (fun hS => ?_)
                (refine take_p (i := 0) (v := ?_) rfl (by kernel_rfl) (by kernel_rfl) (by kernel_rfl) (fun _ _ _ h => h) (Or.inl ⟨by rfl, ?_⟩) hS ?_; rotate_left; (focus (intro w0 hSw; go_simp; try with_reducible rfl)); try simp only [Act.put, List.setIfInBounds_toArray, List.set_cons_zero, List.set_cons_succ])
                (refine take_p (i := 1) (v := ?_) rfl (by kernel_rfl) (by kernel_rfl) (by kernel_rfl) (fun _ _ _ h => h) (Or.inl ⟨by rfl, ?_⟩) hS ?_; rotate_left; (focus (intro w0 hSw; go_simp; try with_reducible rfl)); try simp only [Act.put, List.setIfInBounds_toArray, List.set_cons_zero, List.set_cons_succ])
                (refine take_p (i := 2) (v := ?_) rfl (by kernel_rfl) (by kernel_rfl) (by kernel_rfl) (fun _ _ _ h => h) (Or.inl ⟨by rfl, ?_⟩) hS ?_; rotate_left; (focus (intro w0 hSw; go_simp; try with_reducible rfl)); try simp only [Act.put, List.setIfInBounds_toArray, List.set_cons_zero, List.set_cons_succ])
                (refine take_p (i := 3) (v := undef) rfl (by kernel_rfl) (by kernel_rfl) (by kernel_rfl) (fun _ _ _ h => h) (Or.inr ⟨by rfl, rfl⟩) hS ?_; try simp only [Act.put, List.setIfInBounds_toArray, List.set_cons_zero, List.set_cons_succ])
                (refine take_p (i := 4) (v := undef) rfl (by kernel_rfl) (by kernel_rfl) (by kernel_rfl) (fun _ _ _ h => h) (Or.inr ⟨by rfl, rfl⟩) hS ?_; try simp only [Act.put, List.setIfInBounds_toArray, List.set_cons_zero, List.set_cons_succ])
                (refine take_p (i := 5) (v := undef) rfl (by kernel_rfl) (by kernel_rfl) (by kernel_rfl) (fun _ _ _ h => h) (Or.inr ⟨by rfl, rfl⟩) hS ?_; try simp only [Act.put, List.setIfInBounds_toArray, List.set_cons_zero, List.set_cons_succ])
                (refine take_p (i := 6) (v := undef) rfl (by kernel_rfl) (by kernel_rfl) (by kernel_rfl) (fun _ _ _ h => h) (Or.inr ⟨by rfl, rfl⟩) hS ?_; try simp only [Act.put, List.setIfInBounds_toArray, List.set_cons_zero, List.set_cons_succ])
                (refine take_p (i := 7) (v := undef) rfl (by kernel_rfl) (by kernel_rfl) (by kernel_rfl) (fun _ _ _ h => h) (Or.inr ⟨by rfl, rfl⟩) hS ?_; try simp only [Act.put, List.setIfInBounds_toArray, List.set_cons_zero, List.set_cons_succ])
                (refine take_p (i := 8) (v := undef) rfl (by kernel_rfl) (by kernel_rfl) (by kernel_rfl) (fun _ _ _ h => h) (Or.inr ⟨by rfl, rfl⟩) hS ?_; try simp only [Act.put, List.setIfInBounds_toArray, List.set_cons_zero, List.set_cons_succ])
                (refine take_p (i := 9) (v := ?_) rfl (by kernel_rfl) (by kernel_rfl) (by kernel_rfl) (fun _ _ _ h => h) (Or.inl ⟨by rfl, ?_⟩) hS ?_; rotate_left; (focus (intro w0 hSw; go_simp; try with_reducible rfl)); try simp only [Act.put, List.setIfInBounds_toArray, List.set_cons_zero, List.set_cons_succ])
                (refine take_p (i := 10) (v := ?_) rfl (by kernel_rfl) (by kernel_rfl) (by kernel_rfl) (fun _ _ _ h => h) (Or.inl ⟨by rfl, ?_⟩) hS ?_; rotate_left; (focus (intro w0 hSw; go_simp; try with_reducible rfl)); try simp only [Act.put, List.setIfInBounds_toArray, List.set_cons_zero, List.set_cons_succ])
                refine wpAnyH_done (by kernel_rfl) ?_ _
                go_wp2_with fail
                go_ret
                exact ⟨rfl, hs2.still (hv.st.still hS)⟩
              · have hsame : L = ordL (draw sd2 []) 0 us := HU.out (fun i k' u v hik hu hv' => hpr.out rfl i k' u v (by have := (List.getElem?_eq_some_iff.1 hu).1; omega) hik hu hv')
                have Hsame := Lib.hid hsame
                clear hpr
                go_wp2_with fail
                obtain ⟨wv, hwv⟩ : ∃ wv, wv = w11.drewN q := ⟨_, rfl⟩
                rw [← hwv] at hv hrLv cpv szv ⊢
                clear hwv hst
                refine wp_region_held_drew (S := fun w' => Still wv w') (by kernel_rfl) ((Only.refl (fun _ => False) wv).drew) (fun hS => ?_)
                (refine take_p (i := 0) (v := ?_) rfl (by kernel_rfl) (by kernel_rfl) (by kernel_rfl) (fun _ _ _ h => h) (Or.inl ⟨by rfl, ?_⟩) hS ?_; rotate_left; (focus (intro w0 hSw; go_simp; try with_reducible rfl)); try simp only [Act.put, List.setIfInBounds_toArray, List.set_cons_zero, List.set_cons_succ])
                (refine take_p (i := 1) (v := ?_) rfl (by kernel_rfl) (by kernel_rfl) (by kernel_rfl) (fun _ _ _ h => h) (Or.inl ⟨by rfl, ?_⟩) hS ?_; rotate_left; (focus (intro w0 hSw; go_simp; try with_reducible rfl)); try simp only [Act.put, List.setIfInBounds_toArray, List.set_cons_zero, List.set_cons_succ])
                (refine take_p (i := 2) (v := ?_) rfl (by kernel_rfl) (by kernel_rfl) (by kernel_rfl) (fun _ _ _ h => h) (Or.inl ⟨by rfl, ?_⟩) hS ?_; rotate_left; (focus (intro w0 hSw; go_simp; try with_reducible rfl)); try simp only [Act.put, List.setIfInBounds_toArray, List.set_cons_zero, List.set_cons_succ])
                (refine take_p (i := 3) (v := ?_) rfl (by kernel_rfl) (by kernel_rfl) (by kernel_rfl) (fun _ _ _ h => h) (Or.inl ⟨by rfl, ?_⟩) hS ?_; rotate_left; (focus (intro w0 hSw; go_simp; try with_reducible rfl)); try simp only [Act.put, List.setIfInBounds_toArray, List.set_cons_zero, List.set_cons_succ])
                (refine take_p (i := 4) (v := ?_) rfl (by kernel_rfl) (by kernel_rfl) (by kernel_rfl) (fun _ _ _ h => h) (Or.inl ⟨by rfl, ?_⟩) hS ?_; rotate_left; (focus (intro w0 hSw; have z0_ := hSw.cell_some (fun h => h) cpv; go_simp; try with_reducible rfl)); try simp only [Act.put, List.setIfInBounds_toArray, List.set_cons_zero, List.set_cons_succ])
                (refine take_p (i := 5) (v := ?_) rfl (by kernel_rfl) (by kernel_rfl) (by kernel_rfl) (fun _ _ _ h => h) (Or.inl ⟨by rfl, ?_⟩) hS ?_; rotate_left; (focus (intro w0 hSw; go_simp; try with_reducible rfl)); try simp only [Act.put, List.setIfInBounds_toArray, List.set_cons_zero, List.set_cons_succ])
                refine wpAnyH_ready (rs := [6]) (by kernel_rfl) (by simp) ?_
                refine cons_p rfl (fun K hK => ?_) AllReadyH.nil
                go_simp
                refine (new_any sd2 none 0 0 [] _ (Reads.none_) (fun _ => ⟨rfl, rfl⟩) (by omega) hq0 hq1 (by simp)).mono ?_
                rintro e w12 ⟨t2, rfl, ht0, ht12, hs12⟩
                have hS12 := hS.still hs12
                refine hK.out _ _ hS12 (fun hHeld => ?_)
                clear hK K hHeld
                try simp only [Act.put, List.setIfInBounds_toArray, List.set_cons_zero, List.set_cons_succ]
                refine wpAnyH_ready (rs := [7]) (by kernel_rfl) (by simp) ?_
                refine cons_p rfl (fun K hK => ?_) AllReadyH.nil
                go_simp
                have htp2 : w2.heap.size ≤ t2 := by have h1 := hv.st.size; have h2 := hS.size; omega
                refine (order_any (hv.still hS12) ht12 htp2 (by omega) (by rw [← HM.out]; exact hmay)).mono ?_
                rintro e w13 ⟨A4, c4, rfl, hown4, h13, ht13, ho13⟩
                rw [← HM.out, ← hsame] at hown4
                rw [← HM.out]
                have hS13 := hS12.trans ho13 (fun i hi e => by have h2 := hS.size; have e' : i = t2 := e; omega)
                refine hK.out _ _ hS13 (fun hHeld => ?_)
                clear hK K hHeld
                try simp only [Act.put, List.setIfInBounds_toArray, List.set_cons_zero, List.set_cons_succ]
                refine wpAnyH_ready (rs := [8]) (by kernel_rfl) (by simp) ?_
                refine cons_p rfl (fun K hK => ?_) AllReadyH.nil
                go_simp
                refine (ints_any A2 A4 M c2 M c4 _ _ L L _ (hrLv.only hS13 (by omega) (fun _ _ h => h)) (Reads.of_own hown4) (by omega) (by omega)).mono ?_
                rintro e w14 ⟨rfl, qq, rfl⟩
                rw [decide_eq_true (rfl : L = L)]
                have hS14 := hS13.drewN qq
                refine hK.out _ _ hS14 (fun hHeld => ?_)
                clear hK K hHeld
                try simp only [Act.put, List.setIfInBounds_toArray, List.set_cons_zero, List.set_cons_succ]
                replace hS := hS14
                (refine take_p (i := 9) (v := ?_) rfl (by kernel_rfl) (by kernel_rfl) (by kernel_rfl) (fun _ _ _ h => h) (Or.inl ⟨by rfl, ?_⟩) hS ?_; rotate_left; (focus (intro w0 hSw; go_simp; try with_reducible rfl)); try simp only [Act.put, List.setIfInBounds_toArray, List.set_cons_zero, List.set_cons_succ])
                (refine take_p (i := 10) (v := ?_) rfl (by kernel_rfl) (by kernel_rfl) (by kernel_rfl) (fun _ _ _ h => h) (Or.inl ⟨by rfl, ?_⟩) hS ?_; rotate_left; (focus (intro w0 hSw; go_simp; try with_reducible rfl)); try simp only [Act.put, List.setIfInBounds_toArray, List.set_cons_zero, List.set_cons_succ])
                refine wpAnyH_done (by kernel_rfl) ?_ _
                go_wp2_with fail
                go_ret
                exact ⟨rfl, hs2.still (hv.st.still hS)⟩
    · refine (book_bad w2 hc2.hu hb).mono ?_
      rintro e w3 ⟨rfl, hs3⟩
      go_wp2_with fail
      go_ret
      exact ⟨rfl, hs2.still (hs3.alloc _)⟩
end Go.Proofs.YtdcogjlcbdkdcaaDoor
