/-
  The reference's order: Order.
-/
import Derived.Test.YtdcogjlcbdkdcaaDoorRefAhead
import Derived.Test.YtdcogjlcbdkdcaaDoorStepApp
namespace Go.Proofs.YtdcogjlcbdkdcaaDoor
open Go.RowKit
set_option linter.unusedVariables false
set_option linter.unusedSimpArgs false

theorem Reads.front {w : World} {B size n : Nat} {A : Option Addr} {xs : List Value} (h : Reads w B size A n xs) {k : Nat} (hk : k ≤ n) : Reads w B size A k (xs.take (k * size)) := by
  refine ⟨by rw [List.length_take, h.1]; exact Nat.min_eq_left (Nat.mul_le_mul_right _ hk), fun h0 => ?_⟩
  obtain ⟨ad, e, hb, hc⟩ := h.2 (by omega)
  refine ⟨ad, e, hb, fun j u hu => hc j u ?_⟩
  rw [List.getElem?_take] at hu
  split at hu
  · exact hu
  · cases hu

theorem oneInts {k : IntKind} (xs : List Value) (h : ∀ v ∈ xs, ∃ z, v = .int k z) : ∀ v ∈ xs, v.oneCell' = true := fun v hv => by
  obtain ⟨z, rfl⟩ := h v hv
  rfl
section
variable {w w' : World} {x b n c t n0 : Nat} {lim rst seed : Int} {us : List Up} {xs : List Int}
theorem RBk.by_ref {w w' : World} {x b n c g' : Nat} {lim rst : Int} {us : List Up} {seed' : Int} {xs' : List Int} {n' : Nat} (h : RBk w x b n c lim rst us) (h' : Ref w g' seed' xs' n') (ho : Only (· = g') w w') : RBk w' x b n c lim rst us := by
  obtain ⟨A, cc, hB, _⟩ := h'.src
  refine h.only ho (fun e => ?_) (fun e => ?_)
  · have e' : x = g' := e
    subst e'
    exact Blk.ne_ h.blk hB (by decide) rfl
  · have e' : b = g' := e
    subst e'
    exact own_blk_ne h.own hB (by decide) rfl
set_option maxRecDepth 1000000 in
set_option maxHeartbeats 6400000 in
theorem reforder_any (h : RBk w x b n c lim rst us) (hok : BOK n lim rst) (huo_ : UsOK us) (ht : Ref w t seed xs n0) (hn0 : n0 ≤ 900000) (hmay : 1 ≤ (mayL us).length) :
    Calls Tryd.prog 15 #[.pointer (some ⟨x, 0, none⟩), .pointer (some ⟨t, 0, none⟩)] w fun e w' => ∃ A cc, e = .returned (.slice A (mayL us).length cc) ∧
      w'.ownsRow w.heap.size 3 1 (.slice A (mayL us).length cc) (mayL us).length ((ordL (draw seed xs) n0 us).map (.int .i64)) ∧ Ref w' t seed xs (n0 + ((mayL us).length - 1)) ∧ Only (· = t) w w' := by
  obtain ⟨i0, hi, hz0, hz1, hz2⟩ := info_parts info_int
  have n9 := hok.n9
  have hM9 : (mayL us).length ≤ 9 := by
    have h1 := mayK_le us us.length
    have h2 := h.len
    unfold mayL; omega
  have hRL : ∀ k X : Nat, ∀ y : Int, (shuffled (draw seed xs) n0 (mayL us).length).getD k 0 = X → k < (mayL us).length → (mayL us)[X]? = some y → (rowL (draw seed xs) n0 us)[k]? = some y := by
    intro k X y h1 hk h2
    have hl := (each_shuffled (draw seed xs) n0 _ hmay).1
    unfold rowL
    rw [List.getElem?_map, List.getElem?_eq_getElem (by omega)]
    rw [List.getD_eq_getElem?_getD, List.getElem?_eq_getElem (by omega)] at h1
    simp only [Option.getD_some] at h1
    simp only [Option.map_some, h1, Int.toNat_natCast, List.getD_eq_getElem?_getD, h2, Option.getD_some]
  have hRl := rowL_length (draw seed xs) n0 us hmay
  have hups := row_ups (D := draw seed xs) (k0 := n0) hmay
  have hEach := each_shuffled (draw seed xs) n0 _ hmay
  have hO : ordL (draw seed xs) n0 us = (isrt ((rowL (draw seed xs) n0 us).map (cnd us))).map (·.1) := rfl
  have hOl := ordL_length (draw seed xs) n0 us hmay
  rw [hO] at hOl ⊢
  obtain ⟨R0, hR0⟩ : ∃ R0, R0 = rowL (draw seed xs) n0 us := ⟨_, rfl⟩
  rw [← hR0] at hRL hRl hups hOl ⊢
  have HRL := Lib.hid hRL
  have HEach := Lib.hid hEach
  have huo := Lib.hid huo_
  have HUps := Lib.hid hups
  clear hR0 hO hRL hups hEach huo_
  go_enter Tryd.func15, Tryd.ntmps15
  go_wp2_with fail
  refine (rmay_any h n9).mono ?_
  rintro e w1 ⟨A, ca, rfl, hown1, hs1⟩
  have h1 := h.still hs1
  have ht1 := ht.still hs1
  go_wp2_with fail
  refine (ref_shuf ht1 hn0 _ hmay (by omega)).mono ?_
  rintro e w2 ⟨bs, cs, rfl, hbs, hown2, ht2, ho2⟩
  generalize hD : (some (⟨bs, 0, none⟩ : Addr)) = D at hown2 ⊢
  clear hD
  have ho2' := (Only.of_still hs1 (· = t)).trans ho2 (fun _ _ h => h)
  have h2 := h1.by_ref ht1 ho2
  have htlt := ht.lt
  have hown1 := own_only hown1 ho2 (fun q hq => by have := (hown1.lt q hq).1; omega)
  obtain ⟨M, hM⟩ : ∃ M, M = (mayL us).length := ⟨_, rfl⟩
  rw [← hM] at hown1 hown2 hM9 hmay ht2 HEach hRl hOl HRL ⊢
  have HM := Lib.hid hM
  clear hM hs1 h1 ht1 ht ho2 hbs
  have hrd1 := Reads.of_own hown1
  have hrd2 := Reads.of_own hown2
  have hsz2 := ho2'.size
  clear hown1 hown2
  go_wp2_with fail
  go_loopw [7, 8] (fun v i wr => ∃ k : Nat, k ≤ M ∧ i = .int .i64 k ∧ wr.ownsRow w2.heap.size 3 1 v k ((R0.take k).map (.int .i64)) ∧ Hid (Still w2 wr)) (fun _ i _ => M - (intOf i).toNat)
  case atStart => exact ⟨0, by omega, rfl, World.ownsRow_nil _ _ _ _, Lib.hid (Only.refl _ _)⟩
  case round =>
    obtain ⟨k, hk, rfl, hown, hst⟩ := hrel
    by_cases hlt : k < M
    · obtain ⟨ad, y, rfl, _, hx, hxc⟩ := reads_int (hrd2.only hst.out (Nat.le_refl _) (fun _ _ h => h)) hlt
      have hxg : (shuffled (draw seed xs) n0 M).getD k 0 = y := by rw [List.getD_eq_getElem?_getD, hx]; rfl
      obtain ⟨X, rfl⟩ : ∃ X : Nat, y = X := ⟨y.toNat, by have := HEach.out.2.1 k hlt; omega⟩
      have hXM : X < M := by have := HEach.out.2.1 k hlt; omega
      obtain ⟨ad', y, rfl, _, hy, hyc⟩ := reads_int (hrd1.only hst.out (Nat.le_refl _) (fun _ _ h => h)) hXM
      have hRk := HRL.out k X y hxg hlt hy
      have hsn := congrArg (List.map (Value.int .i64)) (take_snoc hRk)
      rw [List.map_append] at hsn
      have Hsn := Lib.hid hsn
      clear hxg hRk hsn hx hy
      have hp1 := hown.alloc (.cells #[.int .i64 y] 3)
      have hrd := reads_made wr 3 .i64 [y] 1 rfl
      have hst6 := hst.out.alloc (.cells #[.int .i64 y] 3)
      have hsz := hst.out.size
      clear hst
      go_wp2_with (at_builtin; refine wpList_append_any _ rfl (.tmp 24) (.tmp 32) 37 rfl w2.heap.size 3 i0 (.int .i64 0) 1 8 Tryd.underlying37 hi hz0 hz1 hz2 rfl (by decide) _ _ _ rfl hp1 _ (some _) 1 1 _ rfl hrd ?c1 ?c2 ?c3 ?c4 ?_)
      case c1 => intro u hu; simp at hu; subst hu; rfl
      case c2 => unfold maxLen; omega
      case c3 => omega
      case c4 => simp; omega
      intro v' w' hown' hgrow hblk
      have hst' := hst6.grown hgrow (fun q hq => .inr (hp1.lt q hq).1)
      go_wp2_with fail
      go_roundw
      case rel => exact ⟨k + 1, by omega, by go_num, by rw [Hsn.out, List.map_take]; exact hown', Lib.hid hst'⟩
      case measure => simp [intOf] <;> omega
    · obtain rfl : M = k := by omega
      rw [List.take_of_length_le (by omega)] at hown
      have hst := hst.out
      have Hst := Lib.hid hst
      clear hrd1 hrd2 hst
      go_wp2_with fail
      go_loopw [7, 9] (fun vr vo wr2 => ∃ (m p : Nat) (R O : List Int), m + p = M ∧ R.length = m ∧ O.length = p ∧ wr2.ownsRow w2.heap.size 3 1 vr m (R.map (.int .i64)) ∧ wr2.ownsRow w2.heap.size 3 1 vo p (O.map (.int .i64)) ∧
        Hid (Ups us R ∧ Sel (R0.map (cnd us)) (O.map (cnd us)) (R.map (cnd us))) ∧ Hid (m = 0 ∨ vr.ownBlock ≠ vo.ownBlock) ∧ Hid (Still w2 wr2)) (fun vr _ _ => (match vr with | .slice _ m _ => m | _ => 0))
      case atStart => exact ⟨M, 0, R0, [], by omega, hRl, rfl, hown, World.ownsRow_nil _ _ _ _, Lib.hid ⟨HUps.out, Sel.start _⟩, Lib.hid (.inr (by obtain ⟨bq, cq, rfl, _⟩ := own_some hown hmay; simp [Value.ownBlock])), Hst⟩
      case round =>
        clear hown Hst
        obtain ⟨m, p, R, O, hmp, hRm, hOp, hownR, hownO, hsel, hdis, hst⟩ := hrel
        obtain ⟨A, cR, rfl⟩ := own_shape hownR
        obtain ⟨AO, cO, rfl⟩ := own_shape hownO
        by_cases hm0 : m = 0
        · subst hm0
          obtain rfl : R = [] := List.eq_nil_of_length_eq_zero hRm
          obtain rfl : p = M := by omega
          have hfin : ((isrt (R0.map (cnd us))).map (·.1)) = O := by rw [← hsel.out.2.done, map_cnd]
          have Hfin := Lib.hid hfin
          clear hfin hownR hsel
          go_wp2_with fail
          rw [← HM.out]
          go_ret
          have hs4 := hst.out
          exact ⟨AO, cO, rfl, by rw [← List.map_map, Hfin.out]; exact own_base hownO (by omega), ht2.still hs4, ho2'.still hs4⟩
        · have hm1 : 1 ≤ m := by omega
          have hm1' : (0 : Int) < (m : Int) := by omega
          have d0 : decide (0 < m) = true := decide_eq_true hm1
          obtain ⟨wo, rfl⟩ : ∃ wo, wo = wr := ⟨_, rfl⟩
          have hrR := Reads.of_own hownR
          have hbr := h2.still hst.out
          have hsz := hst.out.size
          go_wp2_with fail
          go_loopw [10, 11] (fun a i w' => ∃ k j : Nat, a = .int .i64 k ∧ i = .int .i64 j ∧ j ≤ m ∧ k < j ∧ Hid (First (R.map (cnd us)) k j) ∧ Hid (Still wo w')) (fun _ i _ => m - (intOf i).toNat)
          case atStart => exact ⟨0, 1, rfl, rfl, hm1, by omega, First.start _, Lib.hid (Only.refl _ _)⟩
          case round =>
            obtain ⟨k, j, rfl, rfl, hj, hkj, hfi, hsi⟩ := hrel
            have hrR := hrR.only hsi.out (Nat.le_refl _) (fun _ _ h => h)
            have hbr := hbr.still hsi.out
            obtain ⟨ad, xk_, rfl, _, hxk, xk⟩ := reads_int hrR (k := k) (by omega)
            obtain ⟨Jk, uk, rfl, huk⟩ := hsel.out.1 _ (List.mem_of_getElem? hxk)
            by_cases hlt : j < m
            · obtain ⟨ad_, xi_, he_, _, hxi, xi⟩ := reads_int hrR hlt
              injection he_ with he_
              subst he_
              obtain ⟨Ji, ui, rfl, hui⟩ := hsel.out.1 _ (List.mem_of_getElem? hxi)
              have hkey1 := cAt_map (us := us) hxk
              have hkey2 := cAt_map (us := us) hxi
              have Hk1 := Lib.hid hkey1
              have Hk2 := Lib.hid hkey2
              have i1 : (j : Int) < (m : Int) := by omega
              have i2 : (k : Int) < (m : Int) := by omega
              clear hkey1 hkey2 hxk hxi
              go_wp2_with fail
              refine wp_region_held_drew (S := fun w' => Still wr w') (by kernel_rfl) ((Only.refl (fun _ => False) wr).drew) (fun hS => ?_)
              (refine take_p (i := 0) (v := ?_) rfl (by kernel_rfl) (by kernel_rfl) (by kernel_rfl) (fun _ _ _ h => h) (Or.inl ⟨by rfl, ?_⟩) hS ?_; rotate_left; (focus (intro w0 hSw; go_simp; try with_reducible rfl)); try simp only [Act.put, List.setIfInBounds_toArray, List.set_cons_zero, List.set_cons_succ])
              (refine take_p (i := 1) (v := ?_) rfl (by kernel_rfl) (by kernel_rfl) (by kernel_rfl) (fun _ _ _ h => h) (Or.inl ⟨by rfl, ?_⟩) hS ?_; rotate_left; (focus (intro w0 hSw; go_simp; try with_reducible rfl)); try simp only [Act.put, List.setIfInBounds_toArray, List.set_cons_zero, List.set_cons_succ])
              (refine take_p (i := 2) (v := ?_) rfl (by kernel_rfl) (by kernel_rfl) (by kernel_rfl) (fun _ _ _ h => h) (Or.inl ⟨by rfl, ?_⟩) hS ?_; rotate_left; (focus (intro w0 hSw; go_simp; try with_reducible rfl)); try simp only [Act.put, List.setIfInBounds_toArray, List.set_cons_zero, List.set_cons_succ])
              (refine take_p (i := 3) (v := ?_) rfl (by kernel_rfl) (by kernel_rfl) (by kernel_rfl) (fun _ _ _ h => h) (Or.inl ⟨by rfl, ?_⟩) hS ?_; rotate_left; (focus (intro w0 hSw; go_simp; try with_reducible rfl)); try simp only [Act.put, List.setIfInBounds_toArray, List.set_cons_zero, List.set_cons_succ])
              (refine take_p (i := 4) (v := ?_) rfl (by kernel_rfl) (by kernel_rfl) (by kernel_rfl) (fun _ _ _ h => h) (Or.inl ⟨by rfl, ?_⟩) hS ?_; rotate_left; (focus (intro w0 hSw; have z0_ := hSw.cell_some (fun h => h) xi; have z1_ := hSw.cell_some (fun h => h) xk; go_simp; try with_reducible rfl)); try simp only [Act.put, List.setIfInBounds_toArray, List.set_cons_zero, List.set_cons_succ])
              (refine take_p (i := 5) (v := ?_) rfl (by kernel_rfl) (by kernel_rfl) (by kernel_rfl) (fun _ _ _ h => h) (Or.inl ⟨by rfl, ?_⟩) hS ?_; rotate_left; (focus (intro w0 hSw; go_simp; try with_reducible rfl)); try simp only [Act.put, List.setIfInBounds_toArray, List.set_cons_zero, List.set_cons_succ])
              (refine take_p (i := 6) (v := ?_) rfl (by kernel_rfl) (by kernel_rfl) (by kernel_rfl) (fun _ _ _ h => h) (Or.inl ⟨by rfl, ?_⟩) hS ?_; rotate_left; (focus (intro w0 hSw; go_simp; try with_reducible rfl)); try simp only [Act.put, List.setIfInBounds_toArray, List.set_cons_zero, List.set_cons_succ])
              (refine take_p (i := 7) (v := ?_) rfl (by kernel_rfl) (by kernel_rfl) (by kernel_rfl) (fun _ _ _ h => h) (Or.inl ⟨by rfl, ?_⟩) hS ?_; rotate_left; (focus (intro w0 hSw; go_simp; try with_reducible rfl)); try simp only [Act.put, List.setIfInBounds_toArray, List.set_cons_zero, List.set_cons_succ])
              (refine take_p (i := 8) (v := ?_) rfl (by kernel_rfl) (by kernel_rfl) (by kernel_rfl) (fun _ _ _ h => h) (Or.inl ⟨by rfl, ?_⟩) hS ?_; rotate_left; (focus (intro w0 hSw; have z0_ := hSw.cell_some (fun h => h) xi; have z1_ := hSw.cell_some (fun h => h) xk; go_simp; try with_reducible rfl)); try simp only [Act.put, List.setIfInBounds_toArray, List.set_cons_zero, List.set_cons_succ])
              refine wpAnyH_ready (rs := [9]) (by kernel_rfl) (by simp) ?_
              refine cons_p rfl (fun K hK => ?_) AllReadyH.nil
              go_simp
              refine (ahead_any (w0 := wr) hbr huo.out Ji Jk hui huk 1).mono ?_
              rintro e w9 ⟨rfl, hs9⟩
              refine hK.out _ _ hs9 (fun hHeld => ?_)
              clear hK K hHeld hS
              try simp only [Act.put, List.setIfInBounds_toArray, List.set_cons_zero, List.set_cons_succ]
              refine wpAnyH_done (by kernel_rfl) ?_ _
              by_cases hA : key (cnd us (Jk : Int)) < key (cnd us (Ji : Int))
              · rw [decide_eq_true hA]
                go_wp2_with fail
                go_roundw
                case rel => exact ⟨j, j + 1, rfl, by go_num, by omega, by omega, Lib.hid (hfi.out.turn (by rw [Hk1.out, Hk2.out]; exact hA)), Lib.hid (hsi.out.still hs9)⟩
                case measure => simp [intOf]; omega
              · rw [decide_eq_false hA]
                go_wp2_with fail
                go_roundw
                case rel => exact ⟨k, j + 1, rfl, by go_num, by omega, by omega, Lib.hid (hfi.out.keep (by rw [Hk1.out, Hk2.out]; exact hA)), Lib.hid (hsi.out.still hs9)⟩
                case measure => simp [intOf]; omega
            · obtain rfl : m = j := by omega
              have hst2 := hst.out.still hsi.out
              have hownR2 := own_only hownR hsi.out (fun _ _ h => h)
              have hownO2 := own_only hownO hsi.out (fun _ _ h => h)
              have hcat : cAt (R.map (cnd us)) k = cnd us (Jk : Int) := cAt_map hxk
              have hstep := hsel.out.2.step (k := k) (by rw [List.length_map, hRm]; exact hfi.out)
              rw [hcat, ← List.map_take, ← List.map_drop, ← List.map_append] at hstep
              have hst' : List.map (cnd us) O ++ [cnd us (Jk : Int)] = (O ++ [(Jk : Int)]).map (cnd us) := by rw [List.map_append]; rfl
              rw [hst'] at hstep
              have Hstep := Lib.hid hstep
              have Hups := Lib.hid (hsel.out.1.cut k)
              have i2 : (k : Int) < (m : Int) := by omega
              have hp1 := hownO2.alloc (.cells #[.int .i64 Jk] 3)
              have hrd := reads_made wr 3 .i64 [(Jk : Int)] 1 rfl
              have hst6 := hst2.alloc (.cells #[.int .i64 Jk] 3)
              have hsz2_ := hst2.size
              have hownR3 := hownR2.alloc (.cells #[.int .i64 Jk] 3)
              clear hstep hcat hst' hsel hfi hst hsi hownR hownO hxk hbr hsz
              go_wp2_with (at_builtin; refine wpList_append_any _ rfl (.tmp 54) (.tmp 59) 37 rfl w2.heap.size 3 i0 (.int .i64 0) 1 8 Tryd.underlying37 hi hz0 hz1 hz2 rfl (by decide) _ _ _ rfl hp1 _ (some _) 1 1 _ rfl hrd ?c1 ?c2 ?c3 ?c4 ?_)
              case c1 => intro u hu; simp at hu; subst hu; rfl
              case c2 => unfold maxLen; omega
              case c3 => omega
              case c4 => simp; omega
              intro v' w' hownO' hgrow hblk
              have hcap : m ≤ cR := by
                rcases hownR3.2 with ⟨hv, h0⟩ | ⟨g', cap, cur, hv, _, _, hnc, _⟩
                · omega
                · injection hv with _ _ hc
                  omega
              have hst' := hst6.grown hgrow (fun q hq => .inr (hp1.lt q hq).1)
              have hog : Only (fun q => (Value.slice AO p cO).ownBlock = some q) (wr.alloc (.cells #[.int .i64 Jk] 3)) w' := (Only.refl _ _).grown hgrow (fun q hq => .inl hq)
              have hownR4 := own_only hownR3 hog (fun q hq e => by
                rcases hdis.out with h0 | h0
                · omega
                · exact h0 (hq.trans e.symm))
              have hrR4 := Reads.of_own hownR4
              have hf1 := hrR4.front (k := k) (by omega)
              have hf2 := hrR4.cut (k := k + 1) (cap := cR) (by omega) hcap
              simp only [Nat.mul_one, Option.map_some] at hf2
              obtain ⟨AO', cO', rfl⟩ := own_shape hownO'
              clear hownR4 hrR4 hownR3 hownR2 hownO2 hog hgrow hblk hp1 hrd hst6 hrR
              have i3 : ((k + 1 : Nat) : Int) ≤ (m : Int) := by omega
              have e3 : (k : Int) + 1 = ((k + 1 : Nat) : Int) := by omega
              have y3 : IntKind.i64.wrap ((k + 1 : Nat) : Int) = ((k + 1 : Nat) : Int) := IntWalk.i64_in _ (by omega)
              obtain ⟨K1, hK1⟩ : ∃ K1, K1 = k + 1 := ⟨_, rfl⟩
              rw [← hK1] at i3 e3 y3 hf2
              have HK1 := Lib.hid hK1
              have i4 : k ≤ cR := by omega
              have i5 : K1 ≤ cR := by omega
              have i6 : K1 ≤ m := by omega
              have i7 : k ≤ m := by omega
              clear hK1
              go_wp2_with fail
              obtain ⟨wr, rfl⟩ : ∃ wr, wr = w' := ⟨_, rfl⟩
              refine wp_region_held_drew (S := fun w' => Still wr w') (by kernel_rfl) ((Only.refl (fun _ => False) wr).drew) (fun hS => ?_)
              (refine take_p (i := 1) (v := ?_) rfl (by kernel_rfl) (by kernel_rfl) (by kernel_rfl) (fun _ _ _ h => h) (Or.inl ⟨by rfl, ?_⟩) hS ?_; rotate_left; (focus (intro w0 hSw; go_simp; try with_reducible rfl)); try simp only [Act.put, List.setIfInBounds_toArray, List.set_cons_zero, List.set_cons_succ])
              (refine take_p (i := 2) (v := ?_) rfl (by kernel_rfl) (by kernel_rfl) (by kernel_rfl) (fun _ _ _ h => h) (Or.inl ⟨by rfl, ?_⟩) hS ?_; rotate_left; (focus (intro w0 hSw; go_simp; try with_reducible rfl)); try simp only [Act.put, List.setIfInBounds_toArray, List.set_cons_zero, List.set_cons_succ])
              (refine take_p (i := 3) (v := ?_) rfl (by kernel_rfl) (by kernel_rfl) (by kernel_rfl) (fun _ _ _ h => h) (Or.inl ⟨by rfl, ?_⟩) hS ?_; rotate_left; (focus (intro w0 hSw; go_simp; try with_reducible rfl)); try simp only [Act.put, List.setIfInBounds_toArray, List.set_cons_zero, List.set_cons_succ])
              (refine take_p (i := 5) (v := ?_) rfl (by kernel_rfl) (by kernel_rfl) (by kernel_rfl) (fun _ _ _ h => h) (Or.inl ⟨by rfl, ?_⟩) hS ?_; rotate_left; (focus (intro w0 hSw; go_simp; try with_reducible rfl)); try simp only [Act.put, List.setIfInBounds_toArray, List.set_cons_zero, List.set_cons_succ])
              (refine take_p (i := 6) (v := ?_) rfl (by kernel_rfl) (by kernel_rfl) (by kernel_rfl) (fun _ _ _ h => h) (Or.inl ⟨by rfl, ?_⟩) hS ?_; rotate_left; (focus (intro w0 hSw; go_simp; try with_reducible rfl)); try simp only [Act.put, List.setIfInBounds_toArray, List.set_cons_zero, List.set_cons_succ])
              (refine take_p (i := 7) (v := ?_) rfl (by kernel_rfl) (by kernel_rfl) (by kernel_rfl) (fun _ _ _ h => h) (Or.inl ⟨by rfl, ?_⟩) hS ?_; rotate_left; (focus (intro w0 hSw; go_simp; try with_reducible rfl)); try simp only [Act.put, List.setIfInBounds_toArray, List.set_cons_zero, List.set_cons_succ])
              (refine take_p (i := 8) (v := ?_) rfl (by kernel_rfl) (by kernel_rfl) (by kernel_rfl) (fun _ _ _ h => h) (Or.inl ⟨by rfl, ?_⟩) hS ?_; rotate_left; (focus (intro w0 hSw; go_simp; try with_reducible rfl)); try simp only [Act.put, List.setIfInBounds_toArray, List.set_cons_zero, List.set_cons_succ])
              refine wpAnyH_ready (rs := [0]) (by kernel_rfl) (by simp) ?_
              refine cons_p rfl (fun K hK => ?_) AllReadyH.nil
              go_simp
              have hown0 := World.ownsRow_made (base := wr.heap.size) (e := 3) (size := 1) wr #[] 0 (Nat.le_refl _) (by unfold maxLen; omega) rfl
              have hSa := (Still.new wr (.cells #[] 3)).drew
              have hown0 := own_only hown0 ((Only.refl (fun _ => False) _).drew) (fun _ _ h => h)
              have hf1 := hf1.only hSa (Nat.le_refl _) (fun _ _ h => h)
              refine hK.out _ _ hSa (fun hHeld => ?_)
              clear hK K hHeld hS
              try simp only [Act.put, List.setIfInBounds_toArray, List.set_cons_zero, List.set_cons_succ]
              refine wpAnyH_ready (rs := [4]) (by kernel_rfl) (by simp) ?_
              refine cons_p rfl (fun K hK => ?_) AllReadyH.nil
              refine step_append_any rfl (.tmp 61) (.tmp 64) 37 rfl wr.heap.size 3 i0 (.int .i64 0) 1 8 Tryd.underlying37 hi hz0 hz1 hz2 rfl (by decide) _ _ _ rfl hown0 _ (some _) k cR _ rfl hf1 ?_ ?_ ?_ ?_ ?_
              · exact oneInts (k := .i64) _ (fun v hv => by
                  obtain ⟨z, _, rfl⟩ := List.mem_map.1 (List.mem_of_mem_take hv)
                  exact ⟨z, rfl⟩)
              · unfold maxLen; omega
              · omega
              · exact hSa.size
              intro v1 w1 hown1 hgr1 hbl1
              have hS1 := hSa.grown hgr1 (fun q hq => .inr (hown0.lt q hq).1)
              refine hK.out _ _ hS1 (fun hHeld => ?_)
              clear hK K hHeld
              try simp only [Act.put, List.setIfInBounds_toArray, List.set_cons_zero, List.set_cons_succ]
              refine wpAnyH_ready (rs := [9]) (by kernel_rfl) (by simp) ?_
              refine cons_p rfl (fun K hK => ?_) AllReadyH.nil
              have hf2 := hf2.only hS1 (Nat.le_refl _) (fun _ _ h => h)
              refine step_append_any rfl (.tmp 65) (.tmp 69) 37 rfl wr.heap.size 3 i0 (.int .i64 0) 1 8 Tryd.underlying37 hi hz0 hz1 hz2 rfl (by decide) _ _ _ rfl hown1 _ _ (m - K1) (cR - K1) _ ?_ hf2 ?_ ?_ ?_ ?_ ?_
              · rfl
              · exact oneInts (k := .i64) _ (fun v hv => by
                  obtain ⟨z, _, rfl⟩ := List.mem_map.1 (List.mem_of_mem_drop hv)
                  exact ⟨z, rfl⟩)
              · unfold maxLen; omega
              · omega
              · exact hS1.size
              intro v2 w2_ hown2 hgr2 hbl2
              have hS2 := hS1.grown hgr2 (fun q hq => .inr (hown1.lt q hq).1)
              refine hK.out _ _ hS2 (fun hHeld => ?_)
              clear hK K hHeld
              try simp only [Act.put, List.setIfInBounds_toArray, List.set_cons_zero, List.set_cons_succ]
              have hS := hS2
              (refine take_p (i := 10) (v := ?_) rfl (by kernel_rfl) (by kernel_rfl) (by kernel_rfl) (fun _ _ _ h => h) (Or.inl ⟨by rfl, ?_⟩) hS ?_; rotate_left; (focus (intro w0 hSw; go_simp; try with_reducible rfl)); try simp only [Act.put, List.setIfInBounds_toArray, List.set_cons_zero, List.set_cons_succ])
              refine wpAnyH_done (by kernel_rfl) ?_ _
              have hnew : k + (m - K1) = m - 1 := by have := HK1.out; omega
              rw [Nat.zero_add, hnew, List.nil_append] at hown2
              have hRn : (R.take k ++ R.drop (k + 1)).length = m - 1 := by rw [List.length_append, List.length_take, List.length_drop]; omega
              have hrow : List.take (k * 1) (R.map (Value.int .i64)) ++ List.drop K1 (R.map (Value.int .i64)) = (R.take k ++ R.drop (k + 1)).map (.int .i64) := by
                rw [Nat.mul_one, List.map_append, List.map_take, List.map_drop, HK1.out]
              rw [hrow] at hown2
              have hownO3 := own_only hownO' hS2 (fun _ _ h => h)
              have hst9 := hst'.still hS2
              have hlo : ∀ q, v2.ownBlock = some q → (Value.slice AO' (p + 1) cO').ownBlock ≠ some q := fun q hq e => by
                have h1 := (hown2.lt q hq).1
                have h2 := (hownO'.lt q e).2
                omega
              obtain ⟨A2, c2, rfl⟩ := own_shape hown2
              have hwsz := hst'.size
              clear hown1 hgr1 hbl1 hgr2 hbl2 hf1 hf2 hS1 hS hS2 hSa hown0 hrow hownO'
              go_wp2_with fail
              go_roundw
              case rel =>
                refine ⟨m - 1, p + 1, R.take k ++ R.drop (k + 1), O ++ [(Jk : Int)], by omega, hRn, by rw [List.length_append, hOp]; rfl, own_base hown2 (by omega), by rw [List.map_append]; exact hownO3, Lib.hid ⟨Hups.out, Hstep.out⟩, Lib.hid ?_, Lib.hid hst9⟩
                rcases Nat.eq_zero_or_pos (m - 1) with h0 | h0
                · exact .inl h0
                · refine .inr (fun e => ?_)
                  obtain ⟨bq, cq, hbq, _⟩ := own_some hown2 h0
                  rw [hbq] at hlo e
                  exact hlo bq rfl e.symm
              case measure => simp [intOf] <;> omega
end
end Go.Proofs.YtdcogjlcbdkdcaaDoor
