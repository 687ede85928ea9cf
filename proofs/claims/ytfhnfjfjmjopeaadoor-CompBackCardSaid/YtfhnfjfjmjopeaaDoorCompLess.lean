/-
  CompLess.
-/
import Derived.Test.YtfhnfjfjmjopeaaDoorCompPutM
import Derived.Test.YtfhnfjfjmjopeaaDoorCompLen
import Derived.Test.YtfhnfjfjmjopeaaDoorAppZero
namespace Go.Proofs.YtfhnfjfjmjopeaaDoor
open Go.RowKit
set_option linter.unusedVariables false
set_option linter.unusedSimpArgs false

theorem own_byte {w : World} {base n c g i : Nat} {xs : List UInt8} {x : UInt8} {v : Nat} (h : w.ownsRow base 5 1 (.slice (some ⟨g, 0, none⟩) n c) n (bv xs)) (hx : xs[i]? = some x) (hv : x.toNat = v) : w.cell? ⟨g, i, none⟩ = some (.int .u8 (v : Int)) := by
  have hc := h.cells (g := g) rfl i (.int .u8 (x.toNat : Int)) (by unfold bv; rw [List.getElem?_map, hx]; rfl)
  have hadd : (⟨g, 0, none⟩ : Addr).add i = ⟨g, i, none⟩ := by unfold Addr.add; split <;> simp_all
  rw [hadd, hv] at hc
  exact hc
theorem own_cap {w : World} {base n c size : Nat} {e : TypeId} {A : Option Addr} {xs : List Value} (h : w.ownsRow base e size (.slice A n c) n xs) (hn : 0 < n) : n ≤ c := by
  rcases h.2 with ⟨hv, h0⟩ | ⟨g, cap, cur, hv, _, _, hc, _⟩
  · omega
  · obtain ⟨_, _, h3⟩ := Value.slice.inj hv
    omega
theorem reads_grow {w w' : World} {base n : Nat} {v : Value} {xs : List Value} {bl : Nat} {a : Nat} {u : Value} (hg : w.grownBy w' v.ownBlock) (ho : w.ownsRow base 5 1 v n xs) (hb : bl < base) (hc : w.cell? ⟨bl, a, none⟩ = some u) : w'.cell? ⟨bl, a, none⟩ = some u :=
  ((Only.refl (fun i => v.ownBlock = some i) w).grown hg (fun k hk => .inl hk)).cell_some (fun e => by have := (ho.lt bl e).1; omega) hc
theorem out_new (b : List UInt8) (L : List Lab) : outP (lgC true [] L) b L = b ++ enc L := by
  rcases out_spec true [] b L with ⟨P, Q, o, _, _, _, h, _⟩ | ⟨_, h⟩
  · cases h
  · exact h
theorem conv_pre {w : World} {base N c : Nat} {A : Option Addr} {b x : List UInt8} (h : w.ownsRow base 5 1 (.slice A N c) N (bv (b ++ x))) (hN : 0 < N) :
    (convert 33 9 (.slice A b.length c)).run Tryd.prog w = .ok (.string (mk b)) w := by
  obtain ⟨g, rfl⟩ := own_some h hN
  have hlN : (b ++ x).length = N := by have := h.1; rw [bv_length] at this; omega
  have := run_convert_bytes_arg (P := Tryd.prog) w 33 5 Tryd.underlying33 Tryd.underlying5 g 0 b.length c (b.map fun b => (b.toNat : Int)) (by simp) (fun i hi => by
    have hc := h.cells (g := g) rfl i (.int .u8 (b[i]'(by omega)).toNat) (by unfold bv; rw [List.getElem?_map, List.getElem?_append_left (by omega), List.getElem?_eq_getElem (by omega)]; rfl)
    have hadd : (⟨g, 0, none⟩ : Addr).add i = ⟨g, i, none⟩ := by unfold Addr.add; split <;> simp_all
    rw [hadd] at hc
    rw [Nat.zero_add, hc]
    have : i < b.length := by omega
    simp [List.getD_eq_getElem?_getD, this]) 9 Tryd.underlying9
  rw [strOfNums_bytes] at this
  exact this
theorem conv_pre2 {w : World} {base OL c n1 : Nat} {A : Option Addr} {O B1 : List UInt8} (hp : Hid (∃ x, O = B1 ++ x ∧ B1.length = n1 ∧ 0 < OL)) (h : w.ownsRow base 5 1 (.slice A OL c) OL (bv O)) :
    (convert 33 9 (.slice A n1 c)).run Tryd.prog w = .ok (.string (mk B1)) w := by
  obtain ⟨x, rfl, rfl, h0⟩ := hp.out
  exact conv_pre h h0
set_option maxRecDepth 1000000 in
set_option maxHeartbeats 12800000 in
theorem less_walk (w : World) (he : ErrT w) (A : Option Addr) (n c : Nat) (l : List It) (hnc : n ≤ c) (hcm : c ≤ maxLen) (hl : l.length = n) (hr : Reads w w.heap.size 4 A n (itRow l)) (hw : ∀ z ∈ l, okI z) :
    Calls Tryd.prog 5 #[.slice A n c] w fun e w' => e = .returned (.bool true) ∧ Still w w' := by
  obtain ⟨i0, hi, hz0, hz1, hz2⟩ := info_parts info_u8
  go_enter Tryd.func5, Tryd.ntmps5
  go_wp2_with fail
  refine (long04 w A n c l hl hr (Nat.le_trans hnc hcm) hw).mono ?_
  rintro e w2 (⟨rfl, h2⟩ | ⟨hok, rfl, h2⟩)
  · have he2 := he.still h2
    go_wp2_with (go_at_call 8; refine (comp_awake _ (by assumption)).mono ?_; rintro e w3 ⟨rfl, h3⟩)
    go_ret
    exact ⟨rfl, h2.still h3⟩
  · obtain ⟨hn5, hnm8⟩ := hok.out
    have Hnm8 := Lib.hid hnm8
    have he2 := he.still h2
    clear hok hnm8
    go_wp2_with (go_at_call 8; refine (comp_awake _ (by assumption)).mono ?_; rintro e w3 ⟨rfl, h3⟩)
    have hS3 := h2.still h3
    clear h2 h3
    refine (comp_new _).mono ?_
    rintro e w4 ⟨t, rfl, ht, hT, h4⟩
    have hS4 := hS3.still h4
    have HT0 : Hid (w.heap.size ≤ t ∧ ∀ i, (none : Option Nat) = some i → w.heap.size ≤ i) := Lib.hid ⟨by have := hS3.size; omega, fun i e => by cases e⟩
    clear h4 hS3 ht
    go_wp2_with fail
    go_loopw [4, 5] (fun i4 i5 wr => ∃ (k : Nat) (A0 : Option Addr) (nb c0 : Nat) (B : List UInt8) (mb : Option Nat) (K : Kn), k ≤ n ∧ i4 = .slice A0 nb c0 ∧ i5 = .int .i64 k ∧ wr.ownsRow w.heap.size 5 1 (.slice A0 nb c0) nb (bv B) ∧ CTB wr t mb K ∧ Still w wr ∧ Hid (w.heap.size ≤ t ∧ ∀ i, mb = some i → w.heap.size ≤ i) ∧ Hid (lowN K B.length ∧ K.length ≤ 127 * k ∧ B.length = nb ∧ nb ≤ 4000 * k)) (fun _ i5 _ => n - (intOf i5).toNat)
    case atStart => exact ⟨0, none, 0, 0, [], none, [], Nat.zero_le _, rfl, rfl, World.ownsRow_nil _ _ _ _, hT, hS4, HT0, Lib.hid ⟨fun p hp => (by cases hp), Nat.le_refl _, rfl, Nat.le_refl _⟩⟩
    case round =>
      clear hT hS4 HT0
      obtain ⟨k, A0, nb, c0, B, mb, K, hk, rfl, rfl, hown, hT, hst, HTB, hinv⟩ := hrel
      by_cases hlt : k < n
      · obtain ⟨hlow, hKl, hBl, hbl⟩ := hinv.out
        have hrr := hr.only hst (Nat.le_refl _) (fun _ _ h => h)
        obtain ⟨bl, off, z, hA, hblk, hlk, hz, x0, x1, x2, x3⟩ := it_cells hrr hl hlt
        subst hA
        have hz8 := Hnm8.out z hz
        have hk1 : k + 1 ≤ n := hlt
        have Hlow := Lib.hid hlow
        clear hrr hlk hlow
        obtain ⟨m, hm⟩ : ∃ m, m = z.gap % 3000 := ⟨_, rfl⟩
        have hm6 : m ≤ 1000000 := by have := Nat.mod_lt z.gap (show 0 < 3000 by omega); omega
        have hm3 : m < 3000 := by rw [hm]; exact Nat.mod_lt z.gap (by omega)
        have hnb9 : nb ≤ 1000000000 := by omega
        have hgm : (wrap64 (z.gap : Int)).tmod 3000 = (m : Int) := by rw [IntWalk.wrap64_in _ ⟨by have := (hw z hz).2; omega, by have := (hw z hz).2; omega⟩, hm]; rfl
        have Hm := Lib.hid hm
        clear hm
        go_wp2_with (at_builtin; refine wpList_append_zeros _ rfl (.tmp 25) (.tmp 32) 33 3 rfl w.heap.size 5 i0 Tryd.underlying33 Tryd.underlying3 hi hz0 hz1 hz2 _ _ _ rfl hown m rfl hm6 hnb9 hst.size ?_)
        intro v' w1 hown1 hgrow1 hblk1
        clear hgm
        obtain ⟨A1, c1, hv⟩ := own_shape hown1
        subst hv
        obtain ⟨B1, hB1⟩ : ∃ B1, B1 = B ++ List.replicate m 0 := ⟨_, rfl⟩
        have hB1l0 : B1.length = nb + m := by rw [hB1, List.length_append, List.length_replicate, hBl]
        obtain ⟨n1, hn1⟩ : ∃ n1, n1 = nb + m := ⟨_, rfl⟩
        have hown1 : w1.ownsRow w.heap.size 5 1 (.slice A1 n1 c1) n1 (bv B1) := by
          rw [hn1, hB1, bv_append, ← zs_bv]; exact hown1
        have HB1 := Lib.hid hB1
        have hB1l : B1.length = n1 := by omega
        rw [← hn1]
        have Hn1 := Lib.hid hn1
        have hT1 := own_apart hT hown hgrow1
        have HBl1 := Lib.hid hB1l
        have HBl := Lib.hid hBl
        have Hm3 := Lib.hid hm3
        clear hB1l hB1l0 hB1 hn1 hBl hnb9 hm6 hm3
        have hst1 := hst.grown hgrow1 (fun k hk => .inr (hown.lt k hk).1)
        have x0 := reads_grow hgrow1 hown hblk x0
        have x1 := reads_grow hgrow1 hown hblk x1
        have x2 := reads_grow hgrow1 hown hblk x2
        clear x3 hgrow1 hblk1 hown hT hst
        go_wp2_with fail
        rcases hmay : mayN z.nm.data.toList with _ | _
        · skip
          have hs_wz : Still w1 w1.drew := (Only.refl _ _).drew
          obtain ⟨wz, hwz⟩ : ∃ wz, wz = w1.drew := ⟨_, rfl⟩
          refine wp_region_held_drew (S := fun w' => Only (fun i => i = t ∨ mb = some i) w1.drew w') (by kernel_rfl) (Only.refl _ _) (fun hS => ?_)
          rw [← hwz] at hs_wz hS ⊢
          clear hwz
          have nt : ¬ (bl = t ∨ mb = some bl) := fun e => by
            obtain ⟨i1, i2⟩ := HTB.out
            rcases e with e | e
            · omega
            · have := i2 _ e; omega
          have hTz := hT1.still hs_wz
          have hoz := own_only hown1 hs_wz (fun _ _ h => h)
          have hSz := hst1.still hs_wz
          have y0 := hs_wz.cell_some (fun h => h) x0
          have y1 := hs_wz.cell_some (fun h => h) x1
          have y2 := hs_wz.cell_some (fun h => h) x2
          clear hs_wz x0 x1 x2
          (refine take_p (i := 0) (v := ?_) rfl (by kernel_rfl) (by kernel_rfl) (by kernel_rfl) (fun _ _ _ h => h) (Or.inl ⟨by rfl, ?_⟩) hS ?_; rotate_left; (focus (intro w0_ hSw; go_simp; try with_reducible rfl)); try simp only [Act.put, List.setIfInBounds_toArray, List.set_cons_zero, List.set_cons_succ])
          (refine take_p (i := 1) (v := ?_) rfl (by kernel_rfl) (by kernel_rfl) (by kernel_rfl) (fun _ _ _ h => h) (Or.inl ⟨by rfl, ?_⟩) hS ?_; rotate_left; (focus (intro w0_ hSw; go_simp; try with_reducible rfl)); try simp only [Act.put, List.setIfInBounds_toArray, List.set_cons_zero, List.set_cons_succ])
          (refine take_p (i := 2) (v := ?_) rfl (by kernel_rfl) (by kernel_rfl) (by kernel_rfl) (fun _ _ _ h => h) (Or.inl ⟨by rfl, ?_⟩) hS ?_; rotate_left; (focus (intro w0_ hSw; go_simp; try with_reducible rfl)); try simp only [Act.put, List.setIfInBounds_toArray, List.set_cons_zero, List.set_cons_succ])
          (refine take_p (i := 3) (v := ?_) rfl (by kernel_rfl) (by kernel_rfl) (by kernel_rfl) (fun _ _ _ h => h) (Or.inl ⟨by rfl, ?_⟩) hS ?_; rotate_left; (focus (intro w0_ hSw; go_simp; try with_reducible rfl)); try simp only [Act.put, List.setIfInBounds_toArray, List.set_cons_zero, List.set_cons_succ])
          (refine take_p (i := 4) (v := ?_) rfl (by kernel_rfl) (by kernel_rfl) (by kernel_rfl) (fun _ _ _ h => h) (Or.inl ⟨by rfl, ?_⟩) hS ?_; rotate_left; (focus (intro w0_ hSw; go_simp; try with_reducible rfl)); try simp only [Act.put, List.setIfInBounds_toArray, List.set_cons_zero, List.set_cons_succ])
          (refine take_p (i := 5) (v := ?_) rfl (by kernel_rfl) (by kernel_rfl) (by kernel_rfl) (fun _ _ _ h => h) (Or.inl ⟨by rfl, ?_⟩) hS ?_; rotate_left; (focus (intro w0_ hSw; go_simp; try with_reducible rfl)); try simp only [Act.put, List.setIfInBounds_toArray, List.set_cons_zero, List.set_cons_succ])
          (refine take_p (i := 6) (v := ?_) rfl (by kernel_rfl) (by kernel_rfl) (by kernel_rfl) (fun _ _ _ h => h) (Or.inl ⟨by rfl, ?_⟩) hS ?_; rotate_left; (focus (intro w0_ hSw; have z0_ := hSw.cell_some (nt) y0; go_simp; try with_reducible rfl)); try simp only [Act.put, List.setIfInBounds_toArray, List.set_cons_zero, List.set_cons_succ])
          (refine take_p (i := 7) (v := ?_) rfl (by kernel_rfl) (by kernel_rfl) (by kernel_rfl) (fun _ _ _ h => h) (Or.inl ⟨by rfl, ?_⟩) hS ?_; rotate_left; (focus (intro w0_ hSw; go_simp; try with_reducible rfl)); try simp only [Act.put, List.setIfInBounds_toArray, List.set_cons_zero, List.set_cons_succ])
          (refine take_p (i := 8) (v := ?_) rfl (by kernel_rfl) (by kernel_rfl) (by kernel_rfl) (fun _ _ _ h => h) (Or.inl ⟨by rfl, ?_⟩) hS ?_; rotate_left; (focus (intro w0_ hSw; go_simp; try with_reducible rfl)); try simp only [Act.put, List.setIfInBounds_toArray, List.set_cons_zero, List.set_cons_succ])
          (refine take_p (i := 9) (v := ?_) rfl (by kernel_rfl) (by kernel_rfl) (by kernel_rfl) (fun _ _ _ h => h) (Or.inl ⟨by rfl, ?_⟩) hS ?_; rotate_left; (focus (intro w0_ hSw; go_simp; try with_reducible rfl)); try simp only [Act.put, List.setIfInBounds_toArray, List.set_cons_zero, List.set_cons_succ])
          (refine take_p (i := 10) (v := ?_) rfl (by kernel_rfl) (by kernel_rfl) (by kernel_rfl) (fun _ _ _ h => h) (Or.inl ⟨by rfl, ?_⟩) hS ?_; rotate_left; (focus (intro w0_ hSw; go_simp; try with_reducible rfl)); try simp only [Act.put, List.setIfInBounds_toArray, List.set_cons_zero, List.set_cons_succ])
          (refine take_p (i := 11) (v := ?_) rfl (by kernel_rfl) (by kernel_rfl) (by kernel_rfl) (fun _ _ _ h => h) (Or.inl ⟨by rfl, ?_⟩) hS ?_; rotate_left; (focus (intro w0_ hSw; have z0_ := hSw.cell_some (nt) y1; go_simp; try with_reducible rfl)); try simp only [Act.put, List.setIfInBounds_toArray, List.set_cons_zero, List.set_cons_succ])
          (refine take_p (i := 12) (v := ?_) rfl (by kernel_rfl) (by kernel_rfl) (by kernel_rfl) (fun _ _ _ h => h) (Or.inl ⟨by rfl, ?_⟩) hS ?_; rotate_left; (focus (intro w0_ hSw; go_simp; try with_reducible rfl)); try simp only [Act.put, List.setIfInBounds_toArray, List.set_cons_zero, List.set_cons_succ])
          (refine take_p (i := 13) (v := ?_) rfl (by kernel_rfl) (by kernel_rfl) (by kernel_rfl) (fun _ _ _ h => h) (Or.inl ⟨by rfl, ?_⟩) hS ?_; rotate_left; (focus (intro w0_ hSw; go_simp; try with_reducible rfl)); try simp only [Act.put, List.setIfInBounds_toArray, List.set_cons_zero, List.set_cons_succ])
          (refine take_p (i := 14) (v := ?_) rfl (by kernel_rfl) (by kernel_rfl) (by kernel_rfl) (fun _ _ _ h => h) (Or.inl ⟨by rfl, ?_⟩) hS ?_; rotate_left; (focus (intro w0_ hSw; go_simp; try with_reducible rfl)); try simp only [Act.put, List.setIfInBounds_toArray, List.set_cons_zero, List.set_cons_succ])
          (refine take_p (i := 15) (v := ?_) rfl (by kernel_rfl) (by kernel_rfl) (by kernel_rfl) (fun _ _ _ h => h) (Or.inl ⟨by rfl, ?_⟩) hS ?_; rotate_left; (focus (intro w0_ hSw; go_simp; try with_reducible rfl)); try simp only [Act.put, List.setIfInBounds_toArray, List.set_cons_zero, List.set_cons_succ])
          (refine take_p (i := 16) (v := ?_) rfl (by kernel_rfl) (by kernel_rfl) (by kernel_rfl) (fun _ _ _ h => h) (Or.inl ⟨by rfl, ?_⟩) hS ?_; rotate_left; (focus (intro w0_ hSw; have z0_ := hSw.cell_some (nt) y2; go_simp; try with_reducible rfl)); try simp only [Act.put, List.setIfInBounds_toArray, List.set_cons_zero, List.set_cons_succ])
          refine wpAnyH_ready (rs := [17]) (by kernel_rfl) (by simp) ?_
          refine cons_p rfl (fun K_ hK => ?_) AllReadyH.nil
          go_simp
          refine (put_no _ t A1 n1 c1 z.nm (by unfold maxLen; omega) z.cp z.kn hmay).mono ?_
          rintro e wp ⟨rfl, hs_⟩
          refine hK.out _ _ (hS.still hs_) (fun hHeld => ?_)
          replace hS := hS.still hs_
          clear hK K_ hHeld
          try simp only [Act.put, List.setIfInBounds_toArray, List.set_cons_zero, List.set_cons_succ]
          (refine take_p (i := 18) (v := ?_) rfl (by kernel_rfl) (by kernel_rfl) (by kernel_rfl) (fun _ _ _ h => h) (Or.inl ⟨by rfl, ?_⟩) hS ?_; rotate_left; (focus (intro w0_ hSw; go_simp; try with_reducible rfl)); try simp only [Act.put, List.setIfInBounds_toArray, List.set_cons_zero, List.set_cons_succ])
          (refine take_p (i := 19) (v := ?_) rfl (by kernel_rfl) (by kernel_rfl) (by kernel_rfl) (fun _ _ _ h => h) (Or.inl ⟨by rfl, ?_⟩) hS ?_; rotate_left; (focus (intro w0_ hSw; go_simp; try with_reducible rfl)); try simp only [Act.put, List.setIfInBounds_toArray, List.set_cons_zero, List.set_cons_succ])
          (refine take_p (i := 20) (v := ?_) rfl (by kernel_rfl) (by kernel_rfl) (by kernel_rfl) (fun _ _ _ h => h) (Or.inl ⟨by rfl, ?_⟩) hS ?_; rotate_left; (focus (intro w0_ hSw; go_simp; try with_reducible rfl)); try simp only [Act.put, List.setIfInBounds_toArray, List.set_cons_zero, List.set_cons_succ])
          (refine take_p (i := 21) (v := ?_) rfl (by kernel_rfl) (by kernel_rfl) (by kernel_rfl) (fun _ _ _ h => h) (Or.inl ⟨by rfl, ?_⟩) hS ?_; rotate_left; (focus (intro w0_ hSw; go_simp; try with_reducible rfl)); try simp only [Act.put, List.setIfInBounds_toArray, List.set_cons_zero, List.set_cons_succ])
          (refine take_p (i := 22) (v := ?_) rfl (by kernel_rfl) (by kernel_rfl) (by kernel_rfl) (fun _ _ _ h => h) (Or.inl ⟨by rfl, ?_⟩) hS ?_; rotate_left; (focus (intro w0_ hSw; go_simp; try with_reducible rfl)); try simp only [Act.put, List.setIfInBounds_toArray, List.set_cons_zero, List.set_cons_succ])
          refine wpAnyH_done (by kernel_rfl) ?_ _
          have hS9 : Still w wp := (hSz.still (by exact (Only.refl _ _))).trans hS (fun i hi e => by
            obtain ⟨i1, i2⟩ := HTB.out
            rcases e with e | e
            · omega
            · have := i2 _ e; omega)
          have hT9 := hTz.still hs_
          have ho9 := own_only hoz hs_ (fun _ _ h => h)
          clear hS hTz hoz hSz hs_ y0 y1 y2
          go_wp2_with fail
          go_roundw
          case rel => exact ⟨k + 1, A1, n1, c1, B1, mb, K, hk1, rfl, by go_num, ho9, hT9, hS9, HTB, Lib.hid ⟨Hlow.out.more (by have := Hn1.out; have := HBl1.out; have := HBl.out; omega), by omega, HBl1.out, by have := Hn1.out; have := Hm3.out; omega⟩⟩
          case measure => simp [intOf]; omega
        · obtain ⟨L, hL, hnm⟩ := may_mk hmay
          have hlowB : lowN K B1.length := Hlow.out.more (by have := Hn1.out; have := HBl1.out; have := HBl.out; omega)
          have hlowK := hlowB.low
          have hL127 := hL.len
          have hnmL := Lib.hid hnm
          have hn17 : n1 ≤ 10000000 := by have := Hn1.out; have := Hm3.out; omega
          clear hnm
          have hs_wz : Still w1 w1.drew := (Only.refl _ _).drew
          obtain ⟨wz, hwz⟩ : ∃ wz, wz = w1.drew := ⟨_, rfl⟩
          refine wp_region_held_drew (S := fun w' => Only (fun i => i = t ∨ mb = some i) w1.drew w') (by kernel_rfl) (Only.refl _ _) (fun hS => ?_)
          rw [← hwz] at hs_wz hS ⊢
          clear hwz
          have nt : ¬ (bl = t ∨ mb = some bl) := fun e => by
            obtain ⟨i1, i2⟩ := HTB.out
            rcases e with e | e
            · omega
            · have := i2 _ e; omega
          have hTz := hT1.still hs_wz
          have hoz := own_only hown1 hs_wz (fun _ _ h => h)
          have hSz := hst1.still hs_wz
          have y0 := hs_wz.cell_some (fun h => h) x0
          have y1 := hs_wz.cell_some (fun h => h) x1
          have y2 := hs_wz.cell_some (fun h => h) x2
          clear hs_wz x0 x1 x2
          (refine take_p (i := 0) (v := ?_) rfl (by kernel_rfl) (by kernel_rfl) (by kernel_rfl) (fun _ _ _ h => h) (Or.inl ⟨by rfl, ?_⟩) hS ?_; rotate_left; (focus (intro w0_ hSw; go_simp; try with_reducible rfl)); try simp only [Act.put, List.setIfInBounds_toArray, List.set_cons_zero, List.set_cons_succ])
          (refine take_p (i := 1) (v := ?_) rfl (by kernel_rfl) (by kernel_rfl) (by kernel_rfl) (fun _ _ _ h => h) (Or.inl ⟨by rfl, ?_⟩) hS ?_; rotate_left; (focus (intro w0_ hSw; go_simp; try with_reducible rfl)); try simp only [Act.put, List.setIfInBounds_toArray, List.set_cons_zero, List.set_cons_succ])
          (refine take_p (i := 2) (v := ?_) rfl (by kernel_rfl) (by kernel_rfl) (by kernel_rfl) (fun _ _ _ h => h) (Or.inl ⟨by rfl, ?_⟩) hS ?_; rotate_left; (focus (intro w0_ hSw; go_simp; try with_reducible rfl)); try simp only [Act.put, List.setIfInBounds_toArray, List.set_cons_zero, List.set_cons_succ])
          (refine take_p (i := 3) (v := ?_) rfl (by kernel_rfl) (by kernel_rfl) (by kernel_rfl) (fun _ _ _ h => h) (Or.inl ⟨by rfl, ?_⟩) hS ?_; rotate_left; (focus (intro w0_ hSw; go_simp; try with_reducible rfl)); try simp only [Act.put, List.setIfInBounds_toArray, List.set_cons_zero, List.set_cons_succ])
          (refine take_p (i := 4) (v := ?_) rfl (by kernel_rfl) (by kernel_rfl) (by kernel_rfl) (fun _ _ _ h => h) (Or.inl ⟨by rfl, ?_⟩) hS ?_; rotate_left; (focus (intro w0_ hSw; go_simp; try with_reducible rfl)); try simp only [Act.put, List.setIfInBounds_toArray, List.set_cons_zero, List.set_cons_succ])
          (refine take_p (i := 5) (v := ?_) rfl (by kernel_rfl) (by kernel_rfl) (by kernel_rfl) (fun _ _ _ h => h) (Or.inl ⟨by rfl, ?_⟩) hS ?_; rotate_left; (focus (intro w0_ hSw; go_simp; try with_reducible rfl)); try simp only [Act.put, List.setIfInBounds_toArray, List.set_cons_zero, List.set_cons_succ])
          (refine take_p (i := 6) (v := ?_) rfl (by kernel_rfl) (by kernel_rfl) (by kernel_rfl) (fun _ _ _ h => h) (Or.inl ⟨by rfl, ?_⟩) hS ?_; rotate_left; (focus (intro w0_ hSw; have z0_ := hSw.cell_some (nt) y0; go_simp; try with_reducible rfl)); try simp only [Act.put, List.setIfInBounds_toArray, List.set_cons_zero, List.set_cons_succ])
          (refine take_p (i := 7) (v := ?_) rfl (by kernel_rfl) (by kernel_rfl) (by kernel_rfl) (fun _ _ _ h => h) (Or.inl ⟨by rfl, ?_⟩) hS ?_; rotate_left; (focus (intro w0_ hSw; go_simp; try with_reducible rfl)); try simp only [Act.put, List.setIfInBounds_toArray, List.set_cons_zero, List.set_cons_succ])
          (refine take_p (i := 8) (v := ?_) rfl (by kernel_rfl) (by kernel_rfl) (by kernel_rfl) (fun _ _ _ h => h) (Or.inl ⟨by rfl, ?_⟩) hS ?_; rotate_left; (focus (intro w0_ hSw; go_simp; try with_reducible rfl)); try simp only [Act.put, List.setIfInBounds_toArray, List.set_cons_zero, List.set_cons_succ])
          (refine take_p (i := 9) (v := ?_) rfl (by kernel_rfl) (by kernel_rfl) (by kernel_rfl) (fun _ _ _ h => h) (Or.inl ⟨by rfl, ?_⟩) hS ?_; rotate_left; (focus (intro w0_ hSw; go_simp; try with_reducible rfl)); try simp only [Act.put, List.setIfInBounds_toArray, List.set_cons_zero, List.set_cons_succ])
          (refine take_p (i := 10) (v := ?_) rfl (by kernel_rfl) (by kernel_rfl) (by kernel_rfl) (fun _ _ _ h => h) (Or.inl ⟨by rfl, ?_⟩) hS ?_; rotate_left; (focus (intro w0_ hSw; go_simp; try with_reducible rfl)); try simp only [Act.put, List.setIfInBounds_toArray, List.set_cons_zero, List.set_cons_succ])
          (refine take_p (i := 11) (v := ?_) rfl (by kernel_rfl) (by kernel_rfl) (by kernel_rfl) (fun _ _ _ h => h) (Or.inl ⟨by rfl, ?_⟩) hS ?_; rotate_left; (focus (intro w0_ hSw; have z0_ := hSw.cell_some (nt) y1; go_simp; try with_reducible rfl)); try simp only [Act.put, List.setIfInBounds_toArray, List.set_cons_zero, List.set_cons_succ])
          (refine take_p (i := 12) (v := ?_) rfl (by kernel_rfl) (by kernel_rfl) (by kernel_rfl) (fun _ _ _ h => h) (Or.inl ⟨by rfl, ?_⟩) hS ?_; rotate_left; (focus (intro w0_ hSw; go_simp; try with_reducible rfl)); try simp only [Act.put, List.setIfInBounds_toArray, List.set_cons_zero, List.set_cons_succ])
          (refine take_p (i := 13) (v := ?_) rfl (by kernel_rfl) (by kernel_rfl) (by kernel_rfl) (fun _ _ _ h => h) (Or.inl ⟨by rfl, ?_⟩) hS ?_; rotate_left; (focus (intro w0_ hSw; go_simp; try with_reducible rfl)); try simp only [Act.put, List.setIfInBounds_toArray, List.set_cons_zero, List.set_cons_succ])
          (refine take_p (i := 14) (v := ?_) rfl (by kernel_rfl) (by kernel_rfl) (by kernel_rfl) (fun _ _ _ h => h) (Or.inl ⟨by rfl, ?_⟩) hS ?_; rotate_left; (focus (intro w0_ hSw; go_simp; try with_reducible rfl)); try simp only [Act.put, List.setIfInBounds_toArray, List.set_cons_zero, List.set_cons_succ])
          (refine take_p (i := 15) (v := ?_) rfl (by kernel_rfl) (by kernel_rfl) (by kernel_rfl) (fun _ _ _ h => h) (Or.inl ⟨by rfl, ?_⟩) hS ?_; rotate_left; (focus (intro w0_ hSw; go_simp; try with_reducible rfl)); try simp only [Act.put, List.setIfInBounds_toArray, List.set_cons_zero, List.set_cons_succ])
          (refine take_p (i := 16) (v := ?_) rfl (by kernel_rfl) (by kernel_rfl) (by kernel_rfl) (fun _ _ _ h => h) (Or.inl ⟨by rfl, ?_⟩) hS ?_; rotate_left; (focus (intro w0_ hSw; have z0_ := hSw.cell_some (nt) y2; go_simp; try with_reducible rfl)); try simp only [Act.put, List.setIfInBounds_toArray, List.set_cons_zero, List.set_cons_succ])
          refine wpAnyH_ready (rs := [17]) (by kernel_rfl) (by simp) ?_
          refine cons_p rfl (fun K_ hK => ?_) AllReadyH.nil
          go_simp
          refine (put_ok hTz A1 n1 c1 B1 (Reads.of_own hoz) (rows_apart hTz hoz) HBl1.out hn17 L hL z.nm hnmL.out (by omega) hlowK z.cp z.kn).mono ?_
          rintro e wp ⟨A2, c2, mb2, rfl, hown2, hT2, hop, hmb2⟩
          refine hK.out _ _ (hS.trans hop (fun i _ e => e)) (fun hHeld => ?_)
          replace hS := hS.trans hop (fun i _ e => e)
          clear hK K_ hHeld
          try simp only [Act.put, List.setIfInBounds_toArray, List.set_cons_zero, List.set_cons_succ]
          (refine take_p (i := 18) (v := ?_) rfl (by kernel_rfl) (by kernel_rfl) (by kernel_rfl) (fun _ _ _ h => h) (Or.inl ⟨by rfl, ?_⟩) hS ?_; rotate_left; (focus (intro w0_ hSw; go_simp; try with_reducible rfl)); try simp only [Act.put, List.setIfInBounds_toArray, List.set_cons_zero, List.set_cons_succ])
          (refine take_p (i := 19) (v := ?_) rfl (by kernel_rfl) (by kernel_rfl) (by kernel_rfl) (fun _ _ _ h => h) (Or.inl ⟨by rfl, ?_⟩) hS ?_; rotate_left; (focus (intro w0_ hSw; go_simp; try with_reducible rfl)); try simp only [Act.put, List.setIfInBounds_toArray, List.set_cons_zero, List.set_cons_succ])
          (refine take_p (i := 20) (v := ?_) rfl (by kernel_rfl) (by kernel_rfl) (by kernel_rfl) (fun _ _ _ h => h) (Or.inl ⟨by rfl, ?_⟩) hS ?_; rotate_left; (focus (intro w0_ hSw; go_simp; try with_reducible rfl)); try simp only [Act.put, List.setIfInBounds_toArray, List.set_cons_zero, List.set_cons_succ])
          (refine take_p (i := 21) (v := ?_) rfl (by kernel_rfl) (by kernel_rfl) (by kernel_rfl) (fun _ _ _ h => h) (Or.inl ⟨by rfl, ?_⟩) hS ?_; rotate_left; (focus (intro w0_ hSw; go_simp; try with_reducible rfl)); try simp only [Act.put, List.setIfInBounds_toArray, List.set_cons_zero, List.set_cons_succ])
          (refine take_p (i := 22) (v := ?_) rfl (by kernel_rfl) (by kernel_rfl) (by kernel_rfl) (fun _ _ _ h => h) (Or.inl ⟨by rfl, ?_⟩) hS ?_; rotate_left; (focus (intro w0_ hSw; go_simp; try with_reducible rfl)); try simp only [Act.put, List.setIfInBounds_toArray, List.set_cons_zero, List.set_cons_succ])
          refine wpAnyH_done (by kernel_rfl) ?_ _
          have hown9 := own_base hown2 (show w.heap.size ≤ wz.heap.size from hSz.size)
          have hb9 := own_table hTz hoz hS
          have hS9 : Still w wp := hSz.trans hS (fun i hi e => by
            obtain ⟨i1, i2⟩ := HTB.out
            rcases e with e | e
            · omega
            · have := i2 _ e; omega)
          have y0 := hS.cell_some nt y0
          have y1 := hS.cell_some nt y1
          have HTB2 : Hid (w.heap.size ≤ t ∧ ∀ i, mb2 = some i → w.heap.size ≤ i) := Lib.hid ⟨HTB.out.1, fun i e => by
            rcases hmb2 with h | ⟨_, b, h, hb⟩
            · exact HTB.out.2 i (by rw [← h]; exact e)
            · rw [h] at e
              cases e
              have := hSz.size
              omega⟩
          have hsp := out_spec z.cp K B1 L
          have hkp := (lgC_ok hlowK z.cp L).2
          have hlowO := newK_lowN (cp := z.cp) (kn := z.kn) (L := L) hlowB
          rw [HBl1.out] at hlowO
          have hlenK := newK_len (R := lgC z.cp K L) (K := K) (off := n1) (L := L) (kn := z.kn)
          have hlowL := hlowB
          clear hlowB
          obtain ⟨O, hO⟩ : ∃ O, O = outP (lgC z.cp K L) B1 L := ⟨_, rfl⟩
          obtain ⟨K2, hK2⟩ : ∃ K2, K2 = newK (lgC z.cp K L) K n1 L z.kn := ⟨_, rfl⟩
          rw [← hO] at hown9 hsp hlowO ⊢
          rw [← hK2] at hT2 hlowO hlenK
          have hL5 : sz L + 1 ≤ 255 := hL.2
          have hOB : n1 < O.length ∧ O.length ≤ n1 + 257 := by
            rcases hsp with ⟨P, Q, o, _, hLL, hQ, _, _, h⟩ | ⟨_, h⟩
            · have h5 : sz L = sz P + sz Q := by rw [hLL, sz_app]
              rw [h, List.length_append, List.length_append, encs_len, beB_length, HBl1.out]
              omega
            · rw [h, List.length_append, enc_len, HBl1.out]
              omega
          have hrel9 : Hid (lowN K2 O.length ∧ K2.length ≤ 127 * (k + 1) ∧ O.length = O.length ∧ O.length ≤ 4000 * (k + 1)) := Lib.hid ⟨hlowO, by omega, rfl, by have := Hn1.out; have := Hm3.out; omega⟩
          have Hsp := Lib.hid hsp
          have HlowL := Lib.hid hlowL
          clear hop hown2 hS hTz hoz hSz hmb2 hsp hkp hlowO hlenK hlowL hO hK2 hlowK
          obtain ⟨OL, hOL⟩ : ∃ OL, OL = O.length := ⟨_, rfl⟩
          rw [← hOL] at hown9 hOB hrel9 ⊢
          have HOL := Lib.hid hOL
          clear hOL
          go_wp2_with fail
          have hs_wy : Still wp wp.drew := (Only.refl _ _).drew
          obtain ⟨wy, hwy⟩ : ∃ wy, wy = wp.drew := ⟨_, rfl⟩
          refine wp_region_held_drew (S := fun w' => Still wp.drew w') (by kernel_rfl) (Only.refl _ _) (fun hS => ?_)
          rw [← hwy] at hs_wy hS ⊢
          clear hwy
          have hb10 := own_only hb9 hs_wy (fun _ _ h => h)
          have ho10 := own_only hown9 hs_wy (fun _ _ h => h)
          have hT10 := hT2.still hs_wy
          have hS10 := hS9.still hs_wy
          have z0 := hs_wy.cell_some (fun h => h) y0
          have z1 := hs_wy.cell_some (fun h => h) y1
          clear hs_wy y0 y1 hb9 hown9 hT2 hS9
          (refine take_p (i := 1) (v := ?_) rfl (by kernel_rfl) (by kernel_rfl) (by kernel_rfl) (fun _ _ _ h => h) (Or.inl ⟨by rfl, ?_⟩) hS ?_; rotate_left; (focus (intro w0_ hSw; go_simp; try with_reducible rfl)); try simp only [Act.put, List.setIfInBounds_toArray, List.set_cons_zero, List.set_cons_succ])
          (refine take_p (i := 2) (v := ?_) rfl (by kernel_rfl) (by kernel_rfl) (by kernel_rfl) (fun _ _ _ h => h) (Or.inl ⟨by rfl, ?_⟩) hS ?_; rotate_left; (focus (intro w0_ hSw; go_simp; try with_reducible rfl)); try simp only [Act.put, List.setIfInBounds_toArray, List.set_cons_zero, List.set_cons_succ])
          (refine take_p (i := 3) (v := ?_) rfl (by kernel_rfl) (by kernel_rfl) (by kernel_rfl) (fun _ _ _ h => h) (Or.inl ⟨by rfl, ?_⟩) hS ?_; rotate_left; (focus (intro w0_ hSw; go_simp; try with_reducible rfl)); try simp only [Act.put, List.setIfInBounds_toArray, List.set_cons_zero, List.set_cons_succ])
          (refine take_p (i := 4) (v := ?_) rfl (by kernel_rfl) (by kernel_rfl) (by kernel_rfl) (fun _ _ _ h => h) (Or.inl ⟨by rfl, ?_⟩) hS ?_; rotate_left; (focus (intro w0_ hSw; go_simp; try with_reducible rfl)); try simp only [Act.put, List.setIfInBounds_toArray, List.set_cons_zero, List.set_cons_succ])
          (refine take_p (i := 5) (v := ?_) rfl (by kernel_rfl) (by kernel_rfl) (by kernel_rfl) (fun _ _ _ h => h) (Or.inl ⟨by rfl, ?_⟩) hS ?_; rotate_left; (focus (intro w0_ hSw; go_simp; try with_reducible rfl)); try simp only [Act.put, List.setIfInBounds_toArray, List.set_cons_zero, List.set_cons_succ])
          (refine take_p (i := 6) (v := ?_) rfl (by kernel_rfl) (by kernel_rfl) (by kernel_rfl) (fun _ _ _ h => h) (Or.inl ⟨by rfl, ?_⟩) hS ?_; rotate_left; (focus (intro w0_ hSw; have z0_ := hSw.cell_some (fun h => h) z0; go_simp; try with_reducible rfl)); try simp only [Act.put, List.setIfInBounds_toArray, List.set_cons_zero, List.set_cons_succ])
          refine wpAnyH_ready (rs := [0]) (by kernel_rfl) (by simp) ?_
          refine cons_p rfl (fun K_ hK => ?_) AllReadyH.nil
          go_simp
          refine (comp_new wy).mono ?_
          rintro e wq ⟨t2, rfl, ht2, hTn, hs_⟩
          refine hK.out _ _ (hS.still hs_) (fun hHeld => ?_)
          replace hS := hS.still hs_
          clear hK K_ hHeld
          try simp only [Act.put, List.setIfInBounds_toArray, List.set_cons_zero, List.set_cons_succ]
          have hbq := own_only hb10 hs_ (fun _ _ h => h)
          refine wpAnyH_ready (rs := [7]) (by kernel_rfl) (by simp) ?_
          refine cons_p rfl (fun K_ hK => ?_) AllReadyH.nil
          go_simp
          refine (put_ok hTn A1 n1 c1 B1 (Reads.of_own hbq) (rows_apart hTn hbq) HBl1.out hn17 L hL z.nm hnmL.out (by simp) (fun p hp => by cases hp) true true).mono ?_
          rintro e wd ⟨A3, c3, mb3, rfl, hown3, hT3, hop3, hmb3⟩
          refine hK.out _ _ (hS.trans hop3 (fun i hi e => by rcases e with e | e; (· omega); (· cases e))) (fun hHeld => ?_)
          replace hS := hS.trans hop3 (fun i hi e => by rcases e with e | e; (· omega); (· cases e))
          clear hK K_ hHeld
          try simp only [Act.put, List.setIfInBounds_toArray, List.set_cons_zero, List.set_cons_succ]
          (refine take_p (i := 8) (v := ?_) rfl (by kernel_rfl) (by kernel_rfl) (by kernel_rfl) (fun _ _ _ h => h) (Or.inl ⟨by rfl, ?_⟩) hS ?_; rotate_left; (focus (intro w0_ hSw; go_simp; try with_reducible rfl)); try simp only [Act.put, List.setIfInBounds_toArray, List.set_cons_zero, List.set_cons_succ])
          (refine take_p (i := 9) (v := ?_) rfl (by kernel_rfl) (by kernel_rfl) (by kernel_rfl) (fun _ _ _ h => h) (Or.inl ⟨by rfl, ?_⟩) hS ?_; rotate_left; (focus (intro w0_ hSw; go_simp; try with_reducible rfl)); try simp only [Act.put, List.setIfInBounds_toArray, List.set_cons_zero, List.set_cons_succ])
          (refine take_p (i := 10) (v := ?_) rfl (by kernel_rfl) (by kernel_rfl) (by kernel_rfl) (fun _ _ _ h => h) (Or.inl ⟨by rfl, ?_⟩) hS ?_; rotate_left; (focus (intro w0_ hSw; go_simp; try with_reducible rfl)); try simp only [Act.put, List.setIfInBounds_toArray, List.set_cons_zero, List.set_cons_succ])
          (refine take_p (i := 11) (v := ?_) rfl (by kernel_rfl) (by kernel_rfl) (by kernel_rfl) (fun _ _ _ h => h) (Or.inl ⟨by rfl, ?_⟩) hS ?_; rotate_left; (focus (intro w0_ hSw; go_simp; try with_reducible rfl)); try simp only [Act.put, List.setIfInBounds_toArray, List.set_cons_zero, List.set_cons_succ])
          (refine take_p (i := 12) (v := ?_) rfl (by kernel_rfl) (by kernel_rfl) (by kernel_rfl) (fun _ _ _ h => h) (Or.inl ⟨by rfl, ?_⟩) hS ?_; rotate_left; (focus (intro w0_ hSw; go_simp; try with_reducible rfl)); try simp only [Act.put, List.setIfInBounds_toArray, List.set_cons_zero, List.set_cons_succ])
          refine wpAnyH_done (by kernel_rfl) ?_ _
          obtain ⟨DL, hDL⟩ : ∃ DL, DL = (outP (lgC true [] L) B1 L).length := ⟨_, rfl⟩
          rw [← hDL] at hown3 ⊢
          rw [out_new] at hown3 hDL
          have hDL' : DL = n1 + (sz L + 1) := by rw [hDL, List.length_append, enc_len, HBl1.out]
          have hb11 := own_only hb10 hS (fun _ _ h => h)
          have ho11 := own_only ho10 hS (fun _ _ h => h)
          have hd11 := own_base hown3 (show w.heap.size ≤ wq.heap.size by have h1 := hS10.size; have h2 := ht2; have h3 := hTn.blk.lt; omega)
          have hT11 := hT10.still hS
          have hS11 := hS10.still hS
          have z0 := hS.cell_some (fun h => h) z0
          have z1 := hS.cell_some (fun h => h) z1
          obtain ⟨SB, hSB⟩ : ∃ s, s = mk B1 := ⟨_, rfl⟩
          obtain ⟨SD, hSD⟩ : ∃ s, s = mk (B1 ++ enc L) := ⟨_, rfl⟩
          have eap : SB ++ z.nm = SD := by rw [hSB, hSD, hnmL.out]; exact mk_app B1 (enc L)
          have zSB : SB.size = n1 := by rw [hSB, mk_size, HBl1.out]
          have zz : ¬ 9223372036854775807 < SB.size + z.nm.size := by omega
          have bD : (SD.toList == SD.toList) = true := beq_self_eq_true _
          have bB : (SB.toList == SB.toList) = true := beq_self_eq_true _
          have g1 : ¬ OL ≤ n1 := by omega
          have g2 : n1 ≤ OL := by omega
          have hcap : OL ≤ c2 := own_cap ho11 (by omega)
          have g3 : n1 ≤ c2 := by omega
          have hOD : Hid ((OL < DL ∧ ∃ P Q o, z.cp = true ∧ L = P ++ Q ∧ o ≤ 16383 ∧ o < n1 ∧ O = B1 ++ encs P ++ beB 2 (49152 + o) ∧ OL = n1 + sz P + 2) ∨ (OL = DL ∧ O = B1 ++ enc L)) := Lib.hid (by
            rcases Hsp.out with ⟨P, Q, o, h1, h2, h3, h4, h5, h6⟩ | ⟨_, h6⟩
            · have hQ := sz_two Q (fun x hx => hL.1 x (by rw [h2]; exact List.mem_append_right _ hx)) h3
              have hs : sz L = sz P + sz Q := by rw [h2, sz_app]
              have hl : OL = n1 + sz P + 2 := by rw [HOL.out, h6, List.length_append, List.length_append, encs_len, beB_length, HBl1.out]
              have ho := HlowL.out.look h4
              exact .inl ⟨by omega, P, Q, o, h1, h2, ho.1, by rw [← HBl1.out]; exact ho.2, h6, hl⟩
            · exact .inr ⟨by rw [HOL.out, h6, List.length_append, enc_len, HBl1.out, hDL'], h6⟩)
          have g4 : ¬ DL < OL := by
            rcases hOD.out with ⟨h, _⟩ | ⟨h, _⟩ <;> omega
          have g5 : decide ((OL : Int) > (DL : Int)) = false := decide_eq_false (by omega)
          have g6 : decide (DL < OL) = false := decide_eq_false g4
          have g7 : decide ((OL : Int) ≤ (n1 : Int)) = false := decide_eq_false (by omega)
          have g8 : decide (OL ≤ n1) = false := decide_eq_false g1
          have Hpre : Hid (∃ x, O = B1 ++ x ∧ B1.length = n1 ∧ 0 < OL) := Lib.hid (by
            rcases hOD.out with ⟨_, P, Q, o, _, _, _, _, h, _⟩ | ⟨_, h⟩
            · exact ⟨_, by rw [h, List.append_assoc], HBl1.out, by omega⟩
            · exact ⟨_, h, HBl1.out, by omega⟩)
          have HSB := Lib.hid hSB
          have HSD := Lib.hid hSD
          have HDL := Lib.hid hDL'
          clear hSB hSD hDL hDL' zSB hown3 hb10 ho10 hT10 hS10 hS hop3 hmb3 hT3 hbq hTn ht2 hcap Hsp HlowL
          go_wp2_with fail
          have hs_we : Still wd wd.drew := (Only.refl _ _).drew
          obtain ⟨we, hwe⟩ : ∃ we, we = wd.drew := ⟨_, rfl⟩
          refine wp_region_held_drew (S := fun w' => Still wd.drew w') (by kernel_rfl) (Only.refl _ _) (fun hS => ?_)
          rw [← hwe] at hs_we hS ⊢
          clear hwe
          have hbe_ := own_only hb11 hs_we (fun _ _ h => h)
          have hoe := own_only ho11 hs_we (fun _ _ h => h)
          have hde := own_only hd11 hs_we (fun _ _ h => h)
          have hTe := hT11.still hs_we
          have hSe := hS11.still hs_we
          have u0 := hs_we.cell_some (fun h => h) z0
          have u1 := hs_we.cell_some (fun h => h) z1
          clear hs_we z0 z1 hb11 ho11 hd11 hT11 hS11
          (refine take_p (i := 0) (v := ?_) rfl (by kernel_rfl) (by kernel_rfl) (by kernel_rfl) (fun _ _ _ h => h) (Or.inl ⟨by rfl, ?_⟩) hS ?_; rotate_left; (focus (intro w0_ hSw; go_simp; try with_reducible rfl)); try simp only [Act.put, List.setIfInBounds_toArray, List.set_cons_zero, List.set_cons_succ])
          (refine take_p (i := 1) (v := ?_) rfl (by kernel_rfl) (by kernel_rfl) (by kernel_rfl) (fun _ _ _ h => h) (Or.inl ⟨by rfl, ?_⟩) hS ?_; rotate_left; (focus (intro w0_ hSw; go_simp; try with_reducible rfl)); try simp only [Act.put, List.setIfInBounds_toArray, List.set_cons_zero, List.set_cons_succ])
          (refine take_p (i := 2) (v := ?_) rfl (by kernel_rfl) (by kernel_rfl) (by kernel_rfl) (fun _ _ _ h => h) (Or.inl ⟨by rfl, ?_⟩) hS ?_; rotate_left; (focus (intro w0_ hSw; go_simp; try with_reducible rfl)); try simp only [Act.put, List.setIfInBounds_toArray, List.set_cons_zero, List.set_cons_succ])
          (refine take_p (i := 3) (v := ?_) rfl (by kernel_rfl) (by kernel_rfl) (by kernel_rfl) (fun _ _ _ h => h) (Or.inl ⟨by rfl, ?_⟩) hS ?_; rotate_left; (focus (intro w0_ hSw; go_simp; try with_reducible rfl)); try simp only [Act.put, List.setIfInBounds_toArray, List.set_cons_zero, List.set_cons_succ])
          (refine take_p (i := 4) (v := ?_) rfl (by kernel_rfl) (by kernel_rfl) (by kernel_rfl) (fun _ _ _ h => h) (Or.inl ⟨by rfl, ?_⟩) hS ?_; rotate_left; (focus (intro w0_ hSw; have q_ := conv_row (own_only hde hSw (fun _ _ h => h)); rw [← HSD.out] at q_; go_simp; try with_reducible rfl)); try simp only [Act.put, List.setIfInBounds_toArray, List.set_cons_zero, List.set_cons_succ])
          (refine take_p (i := 5) (v := ?_) rfl (by kernel_rfl) (by kernel_rfl) (by kernel_rfl) (fun _ _ _ h => h) (Or.inl ⟨by rfl, ?_⟩) hS ?_; rotate_left; (focus (intro w0_ hSw; go_simp; try with_reducible rfl)); try simp only [Act.put, List.setIfInBounds_toArray, List.set_cons_zero, List.set_cons_succ])
          (refine take_p (i := 6) (v := ?_) rfl (by kernel_rfl) (by kernel_rfl) (by kernel_rfl) (fun _ _ _ h => h) (Or.inl ⟨by rfl, ?_⟩) hS ?_; rotate_left; (focus (intro w0_ hSw; have q_ := conv_row (own_only hbe_ hSw (fun _ _ h => h)); rw [← HSB.out] at q_; go_simp; try with_reducible rfl)); try simp only [Act.put, List.setIfInBounds_toArray, List.set_cons_zero, List.set_cons_succ])
          (refine take_p (i := 7) (v := ?_) rfl (by kernel_rfl) (by kernel_rfl) (by kernel_rfl) (fun _ _ _ h => h) (Or.inl ⟨by rfl, ?_⟩) hS ?_; rotate_left; (focus (intro w0_ hSw; go_simp; try with_reducible rfl)); try simp only [Act.put, List.setIfInBounds_toArray, List.set_cons_zero, List.set_cons_succ])
          (refine take_p (i := 8) (v := ?_) rfl (by kernel_rfl) (by kernel_rfl) (by kernel_rfl) (fun _ _ _ h => h) (Or.inl ⟨by rfl, ?_⟩) hS ?_; rotate_left; (focus (intro w0_ hSw; go_simp; try with_reducible rfl)); try simp only [Act.put, List.setIfInBounds_toArray, List.set_cons_zero, List.set_cons_succ])
          (refine take_p (i := 9) (v := ?_) rfl (by kernel_rfl) (by kernel_rfl) (by kernel_rfl) (fun _ _ _ h => h) (Or.inl ⟨by rfl, ?_⟩) hS ?_; rotate_left; (focus (intro w0_ hSw; go_simp; try with_reducible rfl)); try simp only [Act.put, List.setIfInBounds_toArray, List.set_cons_zero, List.set_cons_succ])
          (refine take_p (i := 10) (v := ?_) rfl (by kernel_rfl) (by kernel_rfl) (by kernel_rfl) (fun _ _ _ h => h) (Or.inl ⟨by rfl, ?_⟩) hS ?_; rotate_left; (focus (intro w0_ hSw; go_simp; try with_reducible rfl)); try simp only [Act.put, List.setIfInBounds_toArray, List.set_cons_zero, List.set_cons_succ])
          (refine take_p (i := 11) (v := ?_) rfl (by kernel_rfl) (by kernel_rfl) (by kernel_rfl) (fun _ _ _ h => h) (Or.inl ⟨by rfl, ?_⟩) hS ?_; rotate_left; (focus (intro w0_ hSw; have z0_ := hSw.cell_some (fun h => h) u0; go_simp; try with_reducible rfl)); try simp only [Act.put, List.setIfInBounds_toArray, List.set_cons_zero, List.set_cons_succ])
          (refine take_p (i := 12) (v := ?_) rfl (by kernel_rfl) (by kernel_rfl) (by kernel_rfl) (fun _ _ _ h => h) (Or.inl ⟨by rfl, ?_⟩) hS ?_; rotate_left; (focus (intro w0_ hSw; go_simp; try with_reducible rfl)); try simp only [Act.put, List.setIfInBounds_toArray, List.set_cons_zero, List.set_cons_succ])
          (refine take_p (i := 13) (v := ?_) rfl (by kernel_rfl) (by kernel_rfl) (by kernel_rfl) (fun _ _ _ h => h) (Or.inl ⟨by rfl, ?_⟩) hS ?_; rotate_left; (focus (intro w0_ hSw; go_simp; try with_reducible rfl)); try simp only [Act.put, List.setIfInBounds_toArray, List.set_cons_zero, List.set_cons_succ])
          (refine take_p (i := 14) (v := ?_) rfl (by kernel_rfl) (by kernel_rfl) (by kernel_rfl) (fun _ _ _ h => h) (Or.inl ⟨by rfl, ?_⟩) hS ?_; rotate_left; (focus (intro w0_ hSw; go_simp; try with_reducible rfl)); try simp only [Act.put, List.setIfInBounds_toArray, List.set_cons_zero, List.set_cons_succ])
          (refine take_p (i := 15) (v := ?_) rfl (by kernel_rfl) (by kernel_rfl) (by kernel_rfl) (fun _ _ _ h => h) (Or.inl ⟨by rfl, ?_⟩) hS ?_; rotate_left; (focus (intro w0_ hSw; go_simp; try with_reducible rfl)); try simp only [Act.put, List.setIfInBounds_toArray, List.set_cons_zero, List.set_cons_succ])
          (refine take_p (i := 16) (v := ?_) rfl (by kernel_rfl) (by kernel_rfl) (by kernel_rfl) (fun _ _ _ h => h) (Or.inl ⟨by rfl, ?_⟩) hS ?_; rotate_left; (focus (intro w0_ hSw; go_simp; try with_reducible rfl)); try simp only [Act.put, List.setIfInBounds_toArray, List.set_cons_zero, List.set_cons_succ])
          (refine take_p (i := 17) (v := ?_) rfl (by kernel_rfl) (by kernel_rfl) (by kernel_rfl) (fun _ _ _ h => h) (Or.inl ⟨by rfl, ?_⟩) hS ?_; rotate_left; (focus (intro w0_ hSw; go_simp; try with_reducible rfl)); try simp only [Act.put, List.setIfInBounds_toArray, List.set_cons_zero, List.set_cons_succ])
          (refine take_p (i := 18) (v := ?_) rfl (by kernel_rfl) (by kernel_rfl) (by kernel_rfl) (fun _ _ _ h => h) (Or.inl ⟨by rfl, ?_⟩) hS ?_; rotate_left; (focus (intro w0_ hSw; go_simp; try with_reducible rfl)); try simp only [Act.put, List.setIfInBounds_toArray, List.set_cons_zero, List.set_cons_succ])
          (refine take_p (i := 19) (v := ?_) rfl (by kernel_rfl) (by kernel_rfl) (by kernel_rfl) (fun _ _ _ h => h) (Or.inl ⟨by rfl, ?_⟩) hS ?_; rotate_left; (focus (intro w0_ hSw; go_simp; try with_reducible rfl)); try simp only [Act.put, List.setIfInBounds_toArray, List.set_cons_zero, List.set_cons_succ])
          (refine take_p (i := 20) (v := ?_) rfl (by kernel_rfl) (by kernel_rfl) (by kernel_rfl) (fun _ _ _ h => h) (Or.inl ⟨by rfl, ?_⟩) hS ?_; rotate_left; (focus (intro w0_ hSw; go_simp; try with_reducible rfl)); try simp only [Act.put, List.setIfInBounds_toArray, List.set_cons_zero, List.set_cons_succ])
          (refine take_p (i := 21) (v := ?_) rfl (by kernel_rfl) (by kernel_rfl) (by kernel_rfl) (fun _ _ _ h => h) (Or.inl ⟨by rfl, ?_⟩) hS ?_; rotate_left; (focus (intro w0_ hSw; go_simp; try with_reducible rfl)); try simp only [Act.put, List.setIfInBounds_toArray, List.set_cons_zero, List.set_cons_succ])
          (refine take_p (i := 22) (v := ?_) rfl (by kernel_rfl) (by kernel_rfl) (by kernel_rfl) (fun _ _ _ h => h) (Or.inl ⟨by rfl, ?_⟩) hS ?_; rotate_left; (focus (intro w0_ hSw; go_simp; try with_reducible rfl)); try simp only [Act.put, List.setIfInBounds_toArray, List.set_cons_zero, List.set_cons_succ])
          (refine take_p (i := 23) (v := ?_) rfl (by kernel_rfl) (by kernel_rfl) (by kernel_rfl) (fun _ _ _ h => h) (Or.inl ⟨by rfl, ?_⟩) hS ?_; rotate_left; (focus (intro w0_ hSw; go_simp; try with_reducible rfl)); try simp only [Act.put, List.setIfInBounds_toArray, List.set_cons_zero, List.set_cons_succ])
          (refine take_p (i := 24) (v := ?_) rfl (by kernel_rfl) (by kernel_rfl) (by kernel_rfl) (fun _ _ _ h => h) (Or.inl ⟨by rfl, ?_⟩) hS ?_; rotate_left; (focus (intro w0_ hSw; go_simp; try with_reducible rfl)); try simp only [Act.put, List.setIfInBounds_toArray, List.set_cons_zero, List.set_cons_succ])
          (refine take_p (i := 25) (v := ?_) rfl (by kernel_rfl) (by kernel_rfl) (by kernel_rfl) (fun _ _ _ h => h) (Or.inl ⟨by rfl, ?_⟩) hS ?_; rotate_left; (focus (intro w0_ hSw; go_simp; try with_reducible rfl)); try simp only [Act.put, List.setIfInBounds_toArray, List.set_cons_zero, List.set_cons_succ])
          (refine take_p (i := 26) (v := ?_) rfl (by kernel_rfl) (by kernel_rfl) (by kernel_rfl) (fun _ _ _ h => h) (Or.inl ⟨by rfl, ?_⟩) hS ?_; rotate_left; (focus (intro w0_ hSw; go_simp; try with_reducible rfl)); try simp only [Act.put, List.setIfInBounds_toArray, List.set_cons_zero, List.set_cons_succ])
          (refine take_p (i := 27) (v := ?_) rfl (by kernel_rfl) (by kernel_rfl) (by kernel_rfl) (fun _ _ _ h => h) (Or.inl ⟨by rfl, ?_⟩) hS ?_; rotate_left; (focus (intro w0_ hSw; go_simp; try with_reducible rfl)); try simp only [Act.put, List.setIfInBounds_toArray, List.set_cons_zero, List.set_cons_succ])
          (refine take_p (i := 28) (v := ?_) rfl (by kernel_rfl) (by kernel_rfl) (by kernel_rfl) (fun _ _ _ h => h) (Or.inl ⟨by rfl, ?_⟩) hS ?_; rotate_left; (focus (intro w0_ hSw; go_simp; try with_reducible rfl)); try simp only [Act.put, List.setIfInBounds_toArray, List.set_cons_zero, List.set_cons_succ])
          (refine take_p (i := 29) (v := ?_) rfl (by kernel_rfl) (by kernel_rfl) (by kernel_rfl) (fun _ _ _ h => h) (Or.inl ⟨by rfl, ?_⟩) hS ?_; rotate_left; (focus (intro w0_ hSw; go_simp; try with_reducible rfl)); try simp only [Act.put, List.setIfInBounds_toArray, List.set_cons_zero, List.set_cons_succ])
          (refine take_p (i := 30) (v := ?_) rfl (by kernel_rfl) (by kernel_rfl) (by kernel_rfl) (fun _ _ _ h => h) (Or.inl ⟨by rfl, ?_⟩) hS ?_; rotate_left; (focus (intro w0_ hSw; go_simp; try with_reducible rfl)); try simp only [Act.put, List.setIfInBounds_toArray, List.set_cons_zero, List.set_cons_succ])
          (refine take_p (i := 31) (v := ?_) rfl (by kernel_rfl) (by kernel_rfl) (by kernel_rfl) (fun _ _ _ h => h) (Or.inl ⟨by rfl, ?_⟩) hS ?_; rotate_left; (focus (intro w0_ hSw; go_simp; try with_reducible rfl)); try simp only [Act.put, List.setIfInBounds_toArray, List.set_cons_zero, List.set_cons_succ])
          (refine take_p (i := 32) (v := ?_) rfl (by kernel_rfl) (by kernel_rfl) (by kernel_rfl) (fun _ _ _ h => h) (Or.inl ⟨by rfl, ?_⟩) hS ?_; rotate_left; (focus (intro w0_ hSw; go_simp; try with_reducible rfl)); try simp only [Act.put, List.setIfInBounds_toArray, List.set_cons_zero, List.set_cons_succ])
          (refine take_p (i := 33) (v := ?_) rfl (by kernel_rfl) (by kernel_rfl) (by kernel_rfl) (fun _ _ _ h => h) (Or.inl ⟨by rfl, ?_⟩) hS ?_; rotate_left; (focus (intro w0_ hSw; go_simp; try with_reducible rfl)); try simp only [Act.put, List.setIfInBounds_toArray, List.set_cons_zero, List.set_cons_succ])
          (refine take_p (i := 34) (v := ?_) rfl (by kernel_rfl) (by kernel_rfl) (by kernel_rfl) (fun _ _ _ h => h) (Or.inl ⟨by rfl, ?_⟩) hS ?_; rotate_left; (focus (intro w0_ hSw; have q_ := conv_pre2 Hpre (own_only hoe hSw (fun _ _ h => h)); rw [← HSB.out] at q_; go_simp; try with_reducible rfl)); try simp only [Act.put, List.setIfInBounds_toArray, List.set_cons_zero, List.set_cons_succ])
          (refine take_p (i := 35) (v := ?_) rfl (by kernel_rfl) (by kernel_rfl) (by kernel_rfl) (fun _ _ _ h => h) (Or.inl ⟨by rfl, ?_⟩) hS ?_; rotate_left; (focus (intro w0_ hSw; go_simp; try with_reducible rfl)); try simp only [Act.put, List.setIfInBounds_toArray, List.set_cons_zero, List.set_cons_succ])
          (refine take_p (i := 36) (v := ?_) rfl (by kernel_rfl) (by kernel_rfl) (by kernel_rfl) (fun _ _ _ h => h) (Or.inl ⟨by rfl, ?_⟩) hS ?_; rotate_left; (focus (intro w0_ hSw; have q_ := conv_row (own_only hbe_ hSw (fun _ _ h => h)); rw [← HSB.out] at q_; go_simp; try with_reducible rfl)); try simp only [Act.put, List.setIfInBounds_toArray, List.set_cons_zero, List.set_cons_succ])
          (refine take_p (i := 37) (v := ?_) rfl (by kernel_rfl) (by kernel_rfl) (by kernel_rfl) (fun _ _ _ h => h) (Or.inl ⟨by rfl, ?_⟩) hS ?_; rotate_left; (focus (intro w0_ hSw; go_simp; try with_reducible rfl)); try simp only [Act.put, List.setIfInBounds_toArray, List.set_cons_zero, List.set_cons_succ])
          (refine take_p (i := 38) (v := ?_) rfl (by kernel_rfl) (by kernel_rfl) (by kernel_rfl) (fun _ _ _ h => h) (Or.inl ⟨by rfl, ?_⟩) hS ?_; rotate_left; (focus (intro w0_ hSw; go_simp; try with_reducible rfl)); try simp only [Act.put, List.setIfInBounds_toArray, List.set_cons_zero, List.set_cons_succ])
          refine wpAnyH_done (by kernel_rfl) ?_ _
          have HSe := Lib.hid hSe
          have HTe := Lib.hid hTe
          have Hoe := Lib.hid hoe
          have cd := conv_row hde
          rw [← HSD.out] at cd
          clear hS hbe_ hde g5 g6 g7 g8 g1 g2 g3 g4 zz eap bB
          rcases hOD.out with ⟨hlt2, P, Q, o, hcp, hLPQ, ho1, ho2, hOe, hOLe⟩ | ⟨heq2, hOe⟩
          · have HOe := Lib.hid hOe
            obtain ⟨p, hp⟩ : ∃ p, p = n1 + sz P := ⟨_, rfl⟩
            have hOLp : OL = p + 2 := by omega
            have k1 : ((OL : Int) == (DL : Int)) = false := by rw [beq_eq_false_iff_ne]; omega
            have k2 : decide ((OL : Int) = (DL : Int)) = false := decide_eq_false (by omega)
            have k3 : decide (OL = DL) = false := decide_eq_false (by omega)
            have k4 : OL < DL := hlt2
            have u1' : we.cell? ⟨bl, off + k * 4 + 1, none⟩ = some (.bool true) := by rw [← hcp]; exact u1
            have Hp := Lib.hid hp
            have HOLp := Lib.hid hOLp
            clear u1 hLPQ hOe hOLe hoe hTe hSe hp hOLp
            go_wp2_with fail
            have hp := Hp.out
            have hOLp := HOLp.out
            have hOe2 : O = (B1 ++ encs P) ++ [UInt8.ofNat (192 + o / 256), UInt8.ofNat (o % 256)] := by rw [HOe.out, beB2 ho1]
            have hPl : (B1 ++ encs P).length = p := by rw [List.length_append, encs_len, HBl1.out, hp]
            obtain ⟨gO, hgO⟩ := own_some Hoe.out (by omega)
            obtain ⟨H, hH⟩ : ∃ H, H = 192 + o / 256 := ⟨_, rfl⟩
            obtain ⟨Qn, hQn⟩ : ∃ H, H = o % 256 := ⟨_, rfl⟩
            have hH8 : H < 256 := by omega
            have hQ8 : Qn < 256 := by omega
            have y3 : IntKind.i64.wrap (H : Int) = (H : Int) := IntWalk.i64_in _ (by omega)
            have y7 : IntKind.i64.wrap (Qn : Int) = (Qn : Int) := IntWalk.i64_in _ (by omega)
            obtain ⟨HM, hHM⟩ : ∃ HM, HM = H * 256 := ⟨_, rfl⟩
            obtain ⟨SM, hSM⟩ : ∃ SM, SM = HM + Qn := ⟨_, rfl⟩
            have y4 : IntKind.i64.wrap ((H : Int) * 256) = (HM : Int) := by rw [IntWalk.i64_in _ (by omega)]; omega
            have y5 : IntKind.i64.wrap ((HM : Int) + (Qn : Int)) = (SM : Int) := by rw [IntWalk.i64_in _ (by omega)]; omega
            have y6 : IntKind.i64.wrap ((SM : Int) - 49152) = (o : Int) := by rw [IntWalk.i64_in _ (by omega)]; omega
            have hOLb : OL ≤ 20000000 := by omega
            subst hgO
            have v1 : we.cell? ⟨gO, p, none⟩ = some (.int .u8 (H : Int)) := own_byte Hoe.out (by rw [hOe2, ← hPl, List.getElem?_append_right (Nat.le_refl _), Nat.sub_self]; rfl) (by rw [← hH, UInt8.toNat_ofNat_of_lt' (show H < 256 from hH8)])
            have v2 : we.cell? ⟨gO, p + 1, none⟩ = some (.int .u8 (Qn : Int)) := own_byte Hoe.out (by rw [hOe2, ← hPl, List.getElem?_append_right (by omega), show (B1 ++ encs P).length + 1 - (B1 ++ encs P).length = 1 by omega]; rfl) (by rw [← hQn, UInt8.toNat_ofNat_of_lt' (show Qn < 256 from hQ8)])
            have e1 : IntKind.i64.wrap ((OL : Int) - 2) = (p : Int) := by clear y3 y4 y5 y6 y7; rw [IntWalk.i64_in _ (by omega)]; omega
            obtain ⟨p1, hp1⟩ : ∃ p1, p1 = p + 1 := ⟨_, rfl⟩
            have e2 : IntKind.i64.wrap ((OL : Int) - 1) = (p1 : Int) := by clear y3 y4 y5 y6 y7 e1; rw [IntWalk.i64_in _ (by omega)]; omega
            rw [← hp1] at v2
            have b1 : p < OL := by clear y3 y4 y5 y6 y7 e1 e2; omega
            have b2 : p1 < OL := by clear y3 y4 y5 y6 y7 e1 e2; omega
            have q1 : decide ((o : Int) < 0) = false := decide_eq_false (by clear y3 y4 y5 y6 y7 e1 e2; omega)
            have q2 : decide ((o : Int) > 16383) = false := decide_eq_false (by clear y3 y4 y5 y6 y7 e1 e2; omega)
            have q3 : decide ((o : Int) ≥ (n1 : Int)) = false := decide_eq_false (by clear y3 y4 y5 y6 y7 e1 e2; omega)
            have q4 : decide (n1 ≤ o) = false := decide_eq_false (by clear y3 y4 y5 y6 y7 e1 e2; omega)
            have ho2' : ¬ n1 ≤ o := by clear y3 y4 y5 y6 y7 e1 e2; omega
            clear hHM hSM hOe2 hPl hH hQn hp hp1 hOLp k1 k2 k3 k4 hlt2
            have hs_we : Still we we.drew := (Only.refl _ _).drew
            obtain ⟨wf, hwf⟩ : ∃ wf, wf = we.drew := ⟨_, rfl⟩
            refine wp_region_held_drew (S := fun w' => Still we.drew w') (by kernel_rfl) (Only.refl _ _) (fun hS => ?_)
            rw [← hwf] at hs_we hS ⊢
            clear hwf
            have v1 := hs_we.cell_some (fun h => h) v1
            have v2 := hs_we.cell_some (fun h => h) v2
            have HSe := Lib.hid (HSe.out.still hs_we)
            have HTe := Lib.hid (HTe.out.still hs_we)
            have Hoe := Lib.hid (own_only Hoe.out hs_we (fun _ _ h => h))
            clear hs_we cd u1' u0
            (refine take_p (i := 0) (v := ?_) rfl (by kernel_rfl) (by kernel_rfl) (by kernel_rfl) (fun _ _ _ h => h) (Or.inl ⟨by rfl, ?_⟩) hS ?_; rotate_left; (focus (intro w0_ hSw; go_simp; try with_reducible rfl)); try simp only [Act.put, List.setIfInBounds_toArray, List.set_cons_zero, List.set_cons_succ])
            (refine take_p (i := 1) (v := ?_) rfl (by kernel_rfl) (by kernel_rfl) (by kernel_rfl) (fun _ _ _ h => h) (Or.inl ⟨by rfl, ?_⟩) hS ?_; rotate_left; (focus (intro w0_ hSw; go_simp; try with_reducible rfl)); try simp only [Act.put, List.setIfInBounds_toArray, List.set_cons_zero, List.set_cons_succ])
            (refine take_p (i := 2) (v := ?_) rfl (by kernel_rfl) (by kernel_rfl) (by kernel_rfl) (fun _ _ _ h => h) (Or.inl ⟨by rfl, ?_⟩) hS ?_; rotate_left; (focus (intro w0_ hSw; go_simp; try with_reducible rfl)); try simp only [Act.put, List.setIfInBounds_toArray, List.set_cons_zero, List.set_cons_succ])
            (refine take_p (i := 3) (v := ?_) rfl (by kernel_rfl) (by kernel_rfl) (by kernel_rfl) (fun _ _ _ h => h) (Or.inl ⟨by rfl, ?_⟩) hS ?_; rotate_left; (focus (intro w0_ hSw; go_simp; try with_reducible rfl)); try simp only [Act.put, List.setIfInBounds_toArray, List.set_cons_zero, List.set_cons_succ])
            (refine take_p (i := 4) (v := ?_) rfl (by kernel_rfl) (by kernel_rfl) (by kernel_rfl) (fun _ _ _ h => h) (Or.inl ⟨by rfl, ?_⟩) hS ?_; rotate_left; (focus (intro w0_ hSw; go_simp; try with_reducible rfl)); try simp only [Act.put, List.setIfInBounds_toArray, List.set_cons_zero, List.set_cons_succ])
            (refine take_p (i := 5) (v := ?_) rfl (by kernel_rfl) (by kernel_rfl) (by kernel_rfl) (fun _ _ _ h => h) (Or.inl ⟨by rfl, ?_⟩) hS ?_; rotate_left; (focus (intro w0_ hSw; have z0_ := hSw.cell_some (fun h => h) v1; go_simp; try with_reducible rfl)); try simp only [Act.put, List.setIfInBounds_toArray, List.set_cons_zero, List.set_cons_succ])
            (refine take_p (i := 6) (v := ?_) rfl (by kernel_rfl) (by kernel_rfl) (by kernel_rfl) (fun _ _ _ h => h) (Or.inl ⟨by rfl, ?_⟩) hS ?_; rotate_left; (focus (intro w0_ hSw; go_simp; try with_reducible rfl)); try simp only [Act.put, List.setIfInBounds_toArray, List.set_cons_zero, List.set_cons_succ])
            (refine take_p (i := 7) (v := ?_) rfl (by kernel_rfl) (by kernel_rfl) (by kernel_rfl) (fun _ _ _ h => h) (Or.inl ⟨by rfl, ?_⟩) hS ?_; rotate_left; (focus (intro w0_ hSw; go_simp; try with_reducible rfl)); try simp only [Act.put, List.setIfInBounds_toArray, List.set_cons_zero, List.set_cons_succ])
            (refine take_p (i := 8) (v := ?_) rfl (by kernel_rfl) (by kernel_rfl) (by kernel_rfl) (fun _ _ _ h => h) (Or.inl ⟨by rfl, ?_⟩) hS ?_; rotate_left; (focus (intro w0_ hSw; go_simp; try with_reducible rfl)); try simp only [Act.put, List.setIfInBounds_toArray, List.set_cons_zero, List.set_cons_succ])
            (refine take_p (i := 9) (v := ?_) rfl (by kernel_rfl) (by kernel_rfl) (by kernel_rfl) (fun _ _ _ h => h) (Or.inl ⟨by rfl, ?_⟩) hS ?_; rotate_left; (focus (intro w0_ hSw; go_simp; try with_reducible rfl)); try simp only [Act.put, List.setIfInBounds_toArray, List.set_cons_zero, List.set_cons_succ])
            (refine take_p (i := 10) (v := ?_) rfl (by kernel_rfl) (by kernel_rfl) (by kernel_rfl) (fun _ _ _ h => h) (Or.inl ⟨by rfl, ?_⟩) hS ?_; rotate_left; (focus (intro w0_ hSw; go_simp; try with_reducible rfl)); try simp only [Act.put, List.setIfInBounds_toArray, List.set_cons_zero, List.set_cons_succ])
            (refine take_p (i := 11) (v := ?_) rfl (by kernel_rfl) (by kernel_rfl) (by kernel_rfl) (fun _ _ _ h => h) (Or.inl ⟨by rfl, ?_⟩) hS ?_; rotate_left; (focus (intro w0_ hSw; go_simp; try with_reducible rfl)); try simp only [Act.put, List.setIfInBounds_toArray, List.set_cons_zero, List.set_cons_succ])
            (refine take_p (i := 12) (v := ?_) rfl (by kernel_rfl) (by kernel_rfl) (by kernel_rfl) (fun _ _ _ h => h) (Or.inl ⟨by rfl, ?_⟩) hS ?_; rotate_left; (focus (intro w0_ hSw; go_simp; try with_reducible rfl)); try simp only [Act.put, List.setIfInBounds_toArray, List.set_cons_zero, List.set_cons_succ])
            (refine take_p (i := 13) (v := ?_) rfl (by kernel_rfl) (by kernel_rfl) (by kernel_rfl) (fun _ _ _ h => h) (Or.inl ⟨by rfl, ?_⟩) hS ?_; rotate_left; (focus (intro w0_ hSw; have z0_ := hSw.cell_some (fun h => h) v2; go_simp; try with_reducible rfl)); try simp only [Act.put, List.setIfInBounds_toArray, List.set_cons_zero, List.set_cons_succ])
            (refine take_p (i := 14) (v := ?_) rfl (by kernel_rfl) (by kernel_rfl) (by kernel_rfl) (fun _ _ _ h => h) (Or.inl ⟨by rfl, ?_⟩) hS ?_; rotate_left; (focus (intro w0_ hSw; go_simp; try with_reducible rfl)); try simp only [Act.put, List.setIfInBounds_toArray, List.set_cons_zero, List.set_cons_succ])
            (refine take_p (i := 15) (v := ?_) rfl (by kernel_rfl) (by kernel_rfl) (by kernel_rfl) (fun _ _ _ h => h) (Or.inl ⟨by rfl, ?_⟩) hS ?_; rotate_left; (focus (intro w0_ hSw; go_simp; try with_reducible rfl)); try simp only [Act.put, List.setIfInBounds_toArray, List.set_cons_zero, List.set_cons_succ])
            (refine take_p (i := 16) (v := ?_) rfl (by kernel_rfl) (by kernel_rfl) (by kernel_rfl) (fun _ _ _ h => h) (Or.inl ⟨by rfl, ?_⟩) hS ?_; rotate_left; (focus (intro w0_ hSw; go_simp; try with_reducible rfl)); try simp only [Act.put, List.setIfInBounds_toArray, List.set_cons_zero, List.set_cons_succ])
            (refine take_p (i := 17) (v := ?_) rfl (by kernel_rfl) (by kernel_rfl) (by kernel_rfl) (fun _ _ _ h => h) (Or.inl ⟨by rfl, ?_⟩) hS ?_; rotate_left; (focus (intro w0_ hSw; go_simp; try with_reducible rfl)); try simp only [Act.put, List.setIfInBounds_toArray, List.set_cons_zero, List.set_cons_succ])
            refine wpAnyH_done (by kernel_rfl) ?_ _
            go_wp2_with fail
            go_roundw
            case rel => exact ⟨k + 1, some ⟨gO, 0, none⟩, OL, c2, O, mb2, K2, hk1, rfl, by go_num, Hoe.out, HTe.out, HSe.out, HTB2, Lib.hid ⟨by rw [← HOL.out]; exact hrel9.out.1, hrel9.out.2.1, HOL.out.symm, hrel9.out.2.2.2⟩⟩
            case measure => simp [intOf]; omega
          · have hOD2 : O = B1 ++ enc L := hOe
            have co := conv_row hoe
            rw [hOD2, ← HSD.out] at co
            have k1 : (OL : Int) = (DL : Int) := by omega
            have k4 : ¬ OL < DL := by omega
            subst heq2
            have HO2 := Lib.hid hOD2
            clear hOe hOD2 hoe hTe hSe k1
            rcases hcp : z.cp with _ | _
            · rw [hcp] at u1
              go_wp2_with fail
              go_roundw
              case rel => exact ⟨k + 1, A2, OL, c2, O, mb2, K2, hk1, rfl, by go_num, Hoe.out, HTe.out, HSe.out, HTB2, Lib.hid ⟨by rw [← HOL.out]; exact hrel9.out.1, hrel9.out.2.1, HOL.out.symm, hrel9.out.2.2.2⟩⟩
              case measure => simp [intOf]; omega
            · rw [hcp] at u1
              go_wp2_with fail
              go_roundw
              case rel => exact ⟨k + 1, A2, OL, c2, O, mb2, K2, hk1, rfl, by go_num, Hoe.out, HTe.out, HSe.out, HTB2, Lib.hid ⟨by rw [← HOL.out]; exact hrel9.out.1, hrel9.out.2.1, HOL.out.symm, hrel9.out.2.2.2⟩⟩
              case measure => simp [intOf]; omega
      · have hkn : k = n := by omega
        subst hkn
        go_wp2_with fail
        go_ret
        exact ⟨rfl, hst⟩
end Go.Proofs.YtfhnfjfjmjopeaaDoor
