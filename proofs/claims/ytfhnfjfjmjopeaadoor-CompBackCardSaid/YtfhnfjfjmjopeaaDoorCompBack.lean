/-
  CompBack.
-/
import Derived.Test.YtfhnfjfjmjopeaaDoorCompBackM
import Derived.Test.YtfhnfjfjmjopeaaDoorCompLess
import Derived.Deep.CutRange
import Derived.Deep.DeepCutAuto
namespace Go.Proofs.YtfhnfjfjmjopeaaDoor
open Go.RowKit
set_option linter.unusedVariables false
set_option linter.unusedSimpArgs false

theorem info_intB : (Tryd.prog.info? 3).map (fun i => (i.zero, i.size, i.bytes)) = some (some (.int .i64 0), 1, 8) := by kernel_rfl
abbrev En := ByteArray × Nat × Nat
def SepB (v v' : Value) : Prop := ∀ k, v.ownBlock = some k → v'.ownBlock ≠ some k
theorem may_st (s : ByteArray) (hs : s.size ≤ maxLen) (w : World) : Calls Tryd.prog 15 #[.string s] w fun e w' => e = .returned (.bool (mayN s.data.toList)) ∧ Still w w' := by
  refine (may_any s hs w).mono ?_
  rintro e w' ⟨rfl, q, rfl⟩
  exact ⟨rfl, Still.quiet _ _⟩
theorem own_ne {w : World} {base base' : Nat} {e e' : TypeId} {size size' n n' : Nat} {v v' : Value} {xs xs' : List Value} (h : w.ownsRow base e size v n xs) (h' : w.ownsRow base' e' size' v' n' xs') (hne : e ≠ e') (k : Nat) (h1 : v.ownBlock = some k) : v'.ownBlock ≠ some k := by
  intro h2
  rcases h.2 with ⟨rfl, _⟩ | ⟨g, cap, cur, rfl, _, hh, _⟩
  · simp [Value.ownBlock] at h1
  · rcases h'.2 with ⟨rfl, _⟩ | ⟨g', cap', cur', rfl, _, hh', _⟩
    · simp [Value.ownBlock] at h2
    · have e1 : g = k := by simpa [Value.ownBlock] using h1
      have e2 : g' = k := by simpa [Value.ownBlock] using h2
      subst e1; subst e2
      rw [hh] at hh'
      injection hh' with hh'
      injection hh' with _ ht
      exact hne ht
theorem own_by {w w' : World} {base n size : Nat} {e : TypeId} {u v : Value} {xs : List Value} (h : w.ownsRow base e size u n xs) (hg : w.grownBy w' v.ownBlock) (hs : SepB u v) : w'.ownsRow base e size u n xs :=
  own_only h ((Only.refl (fun k => v.ownBlock = some k) w).grown hg (fun k hk => .inl hk)) (fun k hk e => hs k hk e)
theorem SepB.symm {v v' : Value} (h : SepB v v') : SepB v' v := fun k h1 h2 => h k h2 h1
theorem SepB.grow {v v' u : Value} {K : Nat} (h : SepB v u) (hv : v'.ownBlock = v.ownBlock ∨ v'.ownBlock = some K) (hu : ∀ k, u.ownBlock = some k → k < K) : SepB v' u := fun k h1 h2 => by
  rcases hv with e | e
  · exact h k (by rw [← e]; exact h1) h2
  · rw [e] at h1
    cases h1
    exact Nat.lt_irrefl _ (hu _ h2)
theorem own_no_map {w : World} {base n size : Nat} {e : TypeId} {v : Value} {xs : List Value} {t : Nat} {mb : Option Nat} {K : Kn} (hT : CTB w t mb K) (ho : w.ownsRow base e size v n xs) (he : e ≠ 32) : ∀ k, v.ownBlock = some k → ¬ (k = t ∨ mb = some k) := fun k hk h => by
  rcases h with h | h
  · exact own_blk_ne ho hT.blk he (hk.trans (congrArg some h))
  · rcases hT.has with ⟨h1, _⟩ | ⟨b', h1, h2⟩
    · rw [h1] at h; cases h
    · rw [h1] at h
      obtain ⟨D, ⟨es, clock, hbm, _⟩, _⟩ := h2
      rcases ho.2 with ⟨hv, _⟩ | ⟨g, cap, cur, hv, _, hgg, _⟩
      · rw [hv] at hk; cases hk
      · rw [hv] at hk
        have h' : b' = g := (Option.some.inj h).trans (Option.some.inj hk).symm
        rw [h', hgg] at hbm
        cases hbm
theorem own_tab {w w' : World} {base n size : Nat} {e : TypeId} {v : Value} {xs : List Value} {t : Nat} {mb : Option Nat} {K : Kn} (hT : CTB w t mb K) (ho : w.ownsRow base e size v n xs) (he : e ≠ 32) (o : Only (fun i => i = t ∨ mb = some i) w w') : w'.ownsRow base e size v n xs :=
  own_only ho o (own_no_map hT ho he)
theorem tab_by {w w' : World} {base n size : Nat} {e : TypeId} {v : Value} {xs : List Value} {t : Nat} {mb : Option Nat} {K : Kn} (hT : CTB w t mb K) (ho : w.ownsRow base e size v n xs) (he : e ≠ 32) (hg : w.grownBy w' v.ownBlock) : CTB w' t mb K :=
  hT.only ((Only.refl (fun i => v.ownBlock = some i) w).grown hg (fun k hk => .inl hk)) (fun h => own_no_map hT ho he t h (.inl rfl)) (fun b hb h => own_no_map hT ho he b h (.inr hb))
theorem own_at {w : World} {base n c g i : Nat} {e : TypeId} {xs : List Value} {v : Value} (h : w.ownsRow base e 1 (.slice (some ⟨g, 0, none⟩) n c) n xs) (hx : xs[i]? = some v) : w.cell? ⟨g, i, none⟩ = some v := by
  have hc := h.cells (g := g) rfl i v hx
  have hadd : (⟨g, 0, none⟩ : Addr).add i = ⟨g, i, none⟩ := by unfold Addr.add; split <;> simp_all
  rw [hadd] at hc
  exact hc

set_option maxRecDepth 1000000 in
set_option maxHeartbeats 12800000 in
theorem back_walk (w : World) (he : ErrT w) (A : Option Addr) (n c : Nat) (l : List It) (hnc : n ≤ c) (hcm : c ≤ maxLen) (hl : l.length = n) (hr : Reads w w.heap.size 4 A n (itRow l)) (hw : ∀ z ∈ l, okI z) :
    Calls Tryd.prog 4 #[.slice A n c] w fun e w' => e = .returned (.bool true) ∧ Still w w' := by
  obtain ⟨i0, hi, hz0, hz1, hz2⟩ := info_parts info_u8
  obtain ⟨ii0, ii, ii1, ii2, ii3⟩ := info_parts info_intB
  obtain ⟨is0, is, is1, is2, is3⟩ := info_parts info_str
  go_enter Tryd.func4, Tryd.ntmps4
  go_wp2_with fail
  refine (long04 w A n c l hl hr (Nat.le_trans hnc hcm) hw).mono ?_
  rintro e w2 (⟨rfl, h2⟩ | ⟨hok, rfl, h2⟩)
  · have he2 := he.still h2
    go_wp2_with (go_at_call 8; refine (comp_awake _ (by assumption)).mono ?_; rintro e w3 ⟨rfl, h3⟩)
    go_ret
    exact ⟨rfl, h2.still h3⟩
  · obtain ⟨hn5, hnm8⟩ := hok.out
    have Hnm8 := Lib.hid hnm8
    have he2 := he.still h2
    clear hok hnm8
    go_wp2_with (go_at_call 8; refine (comp_awake _ (by assumption)).mono ?_; rintro e w3 ⟨rfl, h3⟩)
    have hS3 := h2.still h3
    clear h2 h3 he2
    refine (comp_new _).mono ?_
    rintro e w4 ⟨t, rfl, ht, hT, h4⟩
    have hS4 := hS3.still h4
    have HT0 : Hid (w.heap.size ≤ t ∧ ∀ i, (none : Option Nat) = some i → w.heap.size ≤ i) := Lib.hid ⟨by have := hS3.size; omega, fun i e => by cases e⟩
    clear h4 hS3 ht
    go_wp2_with fail
    go_loopw [4, 5, 6, 7, 8] (fun i4 i5 i6 i7 i8 wr => ∃ (k q : Nat) (A0 : Option Addr) (nb c0 : Nat) (B : List UInt8) (mb : Option Nat) (K : Kn) (E : List En) (Aa Ae An : Option Addr) (ca ce cn : Nat), k ≤ n ∧ q ≤ k ∧ i4 = .slice A0 nb c0 ∧ i5 = .slice Aa q ca ∧ i6 = .slice Ae q ce ∧ i7 = .slice An q cn ∧ i8 = .int .i64 k ∧
      wr.ownsRow w.heap.size 5 1 (.slice A0 nb c0) nb (bv B) ∧ CTB wr t mb K ∧ Still w wr ∧ Hid (w.heap.size ≤ t ∧ ∀ i, mb = some i → w.heap.size ≤ i) ∧ Hid (lowN K B.length ∧ K.length ≤ 127 * k ∧ B.length = nb ∧ nb ≤ 60300) ∧
      Hid (Good B K ∧ (∀ e ∈ E, readL B e.2.1 = (0, e.1.data.toList, e.2.2) ∧ e.2.1 ≤ B.length) ∧ E.length = q) ∧
      wr.ownsRow w.heap.size 3 1 (.slice Aa q ca) q (E.map (fun e => .int .i64 (e.2.1 : Nat))) ∧ wr.ownsRow w.heap.size 3 1 (.slice Ae q ce) q (E.map (fun e => .int .i64 (e.2.2 : Nat))) ∧ wr.ownsRow w.heap.size 9 1 (.slice An q cn) q (E.map (fun e => .string e.1)) ∧ Hid (SepB (.slice Aa q ca) (.slice Ae q ce))) (fun _ _ _ _ i8 _ => n - (intOf i8).toNat)
    case atStart => exact ⟨0, 0, none, 0, 0, [], none, [], [], none, none, none, 0, 0, 0, Nat.zero_le _, Nat.le_refl _, rfl, rfl, rfl, rfl, rfl, World.ownsRow_nil _ _ _ _, hT, hS4, HT0, Lib.hid ⟨fun p hp => (by cases hp), Nat.le_refl _, rfl, Nat.zero_le _⟩, Lib.hid ⟨fun s o h => (by cases h), fun e h => (by cases h), rfl⟩, World.ownsRow_nil _ _ _ _, World.ownsRow_nil _ _ _ _, World.ownsRow_nil _ _ _ _, Lib.hid (fun k h => by cases h)⟩
    case round =>
      clear hT hS4 HT0
      obtain ⟨k, q, A0, nb, c0, B, mb, K, E, Aa, Ae, An, ca, ce, cn, hk, hqk, rfl, rfl, rfl, rfl, rfl, hown, hT, hst, HTB, hinv, hgood, oa, oe, on, hsep⟩ := hrel
      have HEl : Hid (E.length = q) := Lib.hid hgood.out.2.2
      by_cases hlt : k < n
      · obtain ⟨hlow, hKl, hBl, hbl⟩ := hinv.out
        obtain ⟨bl, off, z, hA, hblk, hlk, hz, X0, X1, X2, X3⟩ := it_cells hr hl hlt
        subst hA
        have x0 := hst.cell_some (fun h => h) X0
        have x1 := hst.cell_some (fun h => h) X1
        have x2 := hst.cell_some (fun h => h) X2
        have x3 := hst.cell_some (fun h => h) X3
        have HX0 := Lib.hid X0
        clear X0 X1 X2 X3
        have hz8 := Hnm8.out z hz
        have hk1 : k + 1 ≤ n := hlt
        have Hlow := Lib.hid hlow
        clear hlk hlow
        obtain ⟨m, hm⟩ : ∃ m, m = z.gap % 20000 := ⟨_, rfl⟩
        have hm6 : m ≤ 1000000 := by have := Nat.mod_lt z.gap (show 0 < 20000 by omega); omega
        have hm3 : m < 20000 := by rw [hm]; exact Nat.mod_lt z.gap (by omega)
        have hnb9 : nb ≤ 1000000000 := by omega
        have hgm : (wrap64 (z.gap : Int)).tmod 20000 = (m : Int) := by rw [IntWalk.wrap64_in _ ⟨by have := (hw z hz).2; omega, by have := (hw z hz).2; omega⟩, hm]; rfl
        have Hm := Lib.hid hm
        clear hm
        go_wp2_with (at_builtin; refine wpList_append_zeros _ rfl (.tmp 29) (.tmp 36) 33 3 rfl w.heap.size 5 i0 Tryd.underlying33 Tryd.underlying3 hi hz0 hz1 hz2 _ _ _ rfl hown m rfl hm6 hnb9 hst.size ?_)
        intro v' w1 hown1 hgrow1 hblk1
        clear hgm
        obtain ⟨A1, c1, hv⟩ := own_shape hown1
        subst hv
        obtain ⟨B1, hB1⟩ : ∃ B1, B1 = B ++ List.replicate m 0 := ⟨_, rfl⟩
        have hB1l0 : B1.length = nb + m := by rw [hB1, List.length_append, List.length_replicate, hBl]
        obtain ⟨n1, hn1⟩ : ∃ n1, n1 = nb + m := ⟨_, rfl⟩
        have hown1 : w1.ownsRow w.heap.size 5 1 (.slice A1 n1 c1) n1 (bv B1) := by
          rw [hn1, hB1, bv_append, ← zs_bv]; exact hown1
        have HB1 := Lib.hid hB1
        have hB1l : B1.length = n1 := by omega
        rw [← hn1]
        have Hn1 := Lib.hid hn1
        have hT1 := own_apart hT hown hgrow1
        have HBl1 := Lib.hid hB1l
        have HBl := Lib.hid hBl
        have Hm3 := Lib.hid hm3
        clear hB1l hB1l0 hB1 hn1 hBl hnb9 hm6 hm3
        have hst1 := hst.grown hgrow1 (fun k hk => .inr (hown.lt k hk).1)
        have x0 := reads_grow hgrow1 hown hblk x0
        have x1 := reads_grow hgrow1 hown hblk x1
        have x2 := reads_grow hgrow1 hown hblk x2
        have oa := own_by oa hgrow1 (fun k hk => own_ne oa hown (by decide) k hk)
        have oe := own_by oe hgrow1 (fun k hk => own_ne oe hown (by decide) k hk)
        have on := own_by on hgrow1 (fun k hk => own_ne on hown (by decide) k hk)
        have HE : Hid (∀ e ∈ E, readL B1 e.2.1 = (0, e.1.data.toList, e.2.2) ∧ e.2.1 ≤ n1) := Lib.hid (fun e h => by
          obtain ⟨h1, h2⟩ := hgood.out.2.1 e h
          rw [HB1.out]
          exact ⟨readL_more _ h1, by have := Hn1.out; have := HBl.out; omega⟩)
        have HG : Hid (Good B1 K) := Lib.hid (by rw [HB1.out]; exact hgood.out.1.more _)
        have HBB := HBl1
        clear x3 hgrow1 hblk1 hown hT hst hgood
        by_cases hbig : 60000 < n1
        · have d1 : decide ((n1 : Int) > 60000) = true := decide_eq_true (by omega)
          have hSx := hst1
          have ob_ := hown1
          have hn1b : n1 ≤ 1000000 := by have := Hn1.out; have := Hm3.out; omega
          clear hT1 x0 x1 x2 hst1 hown1
          go_wp2_with fail
          go_loopw [11] (fun i wr => ∃ j : Nat, j ≤ q ∧ i = .int .i64 j ∧ Still w wr ∧ Hid (wr.ownsRow w.heap.size 5 1 (.slice A1 n1 c1) n1 (bv B1)) ∧ Hid (wr.ownsRow w.heap.size 3 1 (.slice Aa q ca) q (E.map (fun e => .int .i64 (e.2.1 : Nat)))) ∧ Hid (wr.ownsRow w.heap.size 3 1 (.slice Ae q ce) q (E.map (fun e => .int .i64 (e.2.2 : Nat)))) ∧ Hid (wr.ownsRow w.heap.size 9 1 (.slice An q cn) q (E.map (fun e => .string e.1)))) (fun i _ => q - (intOf i).toNat)
          case atStart => exact ⟨0, Nat.zero_le _, rfl, hSx, Lib.hid ob_, Lib.hid oa, Lib.hid oe, Lib.hid on⟩
          case round =>
            clear hSx ob_ oa oe on
            obtain ⟨j, hj, rfl, hst2, hb2, ha2, he2, hn2⟩ := hrel
            by_cases hjl : j < q
            · have hjE : j < E.length := by have := HEl.out; omega
              obtain ⟨ga, rfl⟩ := own_some ha2.out (by omega)
              obtain ⟨ge, rfl⟩ := own_some he2.out (by omega)
              obtain ⟨gn, rfl⟩ := own_some hn2.out (by omega)
              obtain ⟨nm, p0, p1, hEj⟩ : ∃ (nm : ByteArray) (p0 p1 : Nat), E[j]? = some (nm, p0, p1) := ⟨_, _, _, List.getElem?_eq_getElem hjE⟩
              have x0 : wr.cell? ⟨ga, j, none⟩ = some (.int .i64 (p0 : Nat)) := own_at ha2.out (by rw [List.getElem?_map, hEj]; rfl)
              have x1 : wr.cell? ⟨ge, j, none⟩ = some (.int .i64 (p1 : Nat)) := own_at he2.out (by rw [List.getElem?_map, hEj]; rfl)
              have x2 : wr.cell? ⟨gn, j, none⟩ = some (.string nm) := own_at hn2.out (by rw [List.getElem?_map, hEj]; rfl)
              obtain ⟨hrdE, hpE⟩ := HE.out _ (List.mem_of_getElem? hEj)
              have hj1 : j + 1 ≤ q := hjl
              have HrdE := Lib.hid hrdE
              have hpE' : p0 ≤ n1 := hpE
              obtain ⟨SB, hSB⟩ : ∃ s, s = mk B1 := ⟨_, rfl⟩
              have HSB := Lib.hid hSB
              have hSBz : SB.size = n1 := by rw [hSB, mk_size]; exact HBB.out
              have HSBz := Lib.hid hSBz
              clear hrdE hpE hSB hSBz hEj hjE
              have heE := he.still hst2
              go_wp2_with fail
              have hs_wz : Still wr wr.drew := (Only.refl _ _).drew
              obtain ⟨wz, hwz⟩ : ∃ wz, wz = wr.drew := ⟨_, rfl⟩
              refine wp_region_held_drew (S := fun w' => Still wr.drew w') (by kernel_rfl) (Only.refl _ _) (fun hS => ?_)
              rw [← hwz] at hs_wz hS ⊢
              clear hwz
              have hSz := hst2.still hs_wz
              have hbz := own_only hb2.out hs_wz (fun _ _ h => h)
              have haz := own_only ha2.out hs_wz (fun _ _ h => h)
              have hez := own_only he2.out hs_wz (fun _ _ h => h)
              have hnz := own_only hn2.out hs_wz (fun _ _ h => h)
              have y0 := hs_wz.cell_some (fun h => h) x0
              have y1 := hs_wz.cell_some (fun h => h) x1
              have y2 := hs_wz.cell_some (fun h => h) x2
              have heZ := heE.still hs_wz
              clear hs_wz x0 x1 x2 heE
              (refine take_p (i := 0) (v := ?_) rfl (by kernel_rfl) (by kernel_rfl) (by kernel_rfl) (fun _ _ _ h => h) (Or.inl ⟨by rfl, ?_⟩) hS ?_; rotate_left; (focus (intro w0_ hSw; go_simp; try with_reducible rfl)); try simp only [Act.put, List.setIfInBounds_toArray, List.set_cons_zero, List.set_cons_succ])
              (refine take_p (i := 1) (v := ?_) rfl (by kernel_rfl) (by kernel_rfl) (by kernel_rfl) (fun _ _ _ h => h) (Or.inl ⟨by rfl, ?_⟩) hS ?_; rotate_left; (focus (intro w0_ hSw; have q_ := conv_row (own_only hbz hSw (fun _ _ h => h)); rw [← HSB.out] at q_; go_simp; try with_reducible rfl)); try simp only [Act.put, List.setIfInBounds_toArray, List.set_cons_zero, List.set_cons_succ])
              (refine take_p (i := 2) (v := ?_) rfl (by kernel_rfl) (by kernel_rfl) (by kernel_rfl) (fun _ _ _ h => h) (Or.inl ⟨by rfl, ?_⟩) hS ?_; rotate_left; (focus (intro w0_ hSw; go_simp; try with_reducible rfl)); try simp only [Act.put, List.setIfInBounds_toArray, List.set_cons_zero, List.set_cons_succ])
              (refine take_p (i := 3) (v := ?_) rfl (by kernel_rfl) (by kernel_rfl) (by kernel_rfl) (fun _ _ _ h => h) (Or.inl ⟨by rfl, ?_⟩) hS ?_; rotate_left; (focus (intro w0_ hSw; go_simp; try with_reducible rfl)); try simp only [Act.put, List.setIfInBounds_toArray, List.set_cons_zero, List.set_cons_succ])
              (refine take_p (i := 4) (v := ?_) rfl (by kernel_rfl) (by kernel_rfl) (by kernel_rfl) (fun _ _ _ h => h) (Or.inl ⟨by rfl, ?_⟩) hS ?_; rotate_left; (focus (intro w0_ hSw; go_simp; try with_reducible rfl)); try simp only [Act.put, List.setIfInBounds_toArray, List.set_cons_zero, List.set_cons_succ])
              (refine take_p (i := 5) (v := ?_) rfl (by kernel_rfl) (by kernel_rfl) (by kernel_rfl) (fun _ _ _ h => h) (Or.inl ⟨by rfl, ?_⟩) hS ?_; rotate_left; (focus (intro w0_ hSw; have z0_ := hSw.cell_some (fun h => h) y0; go_simp; try with_reducible rfl)); try simp only [Act.put, List.setIfInBounds_toArray, List.set_cons_zero, List.set_cons_succ])
              refine wpAnyH_ready (rs := [6]) (by kernel_rfl) (by simp) ?_
              refine cons_p rfl (fun K_ hK => ?_) AllReadyH.nil
              go_simp
              refine (read_c _ SB p0 p0 nm p1 0 p1 0 heZ (by have := HSBz.out; omega) (by have := HSBz.out; omega) rfl (by rw [HSB.out, mk_list]; exact HrdE.out) rfl rfl).mono ?_
              rintro e wq ⟨rfl, hs_⟩
              refine hK.out _ _ (hS.still hs_) (fun hHeld => ?_)
              replace hS := hS.still hs_
              clear hK K_ hHeld hs_
              try simp only [Act.put, List.setIfInBounds_toArray, List.set_cons_zero, List.set_cons_succ]
              (refine take_p (i := 7) (v := ?_) rfl (by kernel_rfl) (by kernel_rfl) (by kernel_rfl) (fun _ _ _ h => h) (Or.inl ⟨by rfl, ?_⟩) hS ?_; rotate_left; (focus (intro w0_ hSw; go_simp; try with_reducible rfl)); try simp only [Act.put, List.setIfInBounds_toArray, List.set_cons_zero, List.set_cons_succ])
              (refine take_p (i := 8) (v := ?_) rfl (by kernel_rfl) (by kernel_rfl) (by kernel_rfl) (fun _ _ _ h => h) (Or.inl ⟨by rfl, ?_⟩) hS ?_; rotate_left; (focus (intro w0_ hSw; go_simp; try with_reducible rfl)); try simp only [Act.put, List.setIfInBounds_toArray, List.set_cons_zero, List.set_cons_succ])
              (refine take_p (i := 9) (v := ?_) rfl (by kernel_rfl) (by kernel_rfl) (by kernel_rfl) (fun _ _ _ h => h) (Or.inl ⟨by rfl, ?_⟩) hS ?_; rotate_left; (focus (intro w0_ hSw; go_simp; try with_reducible rfl)); try simp only [Act.put, List.setIfInBounds_toArray, List.set_cons_zero, List.set_cons_succ])
              (refine take_p (i := 10) (v := ?_) rfl (by kernel_rfl) (by kernel_rfl) (by kernel_rfl) (fun _ _ _ h => h) (Or.inl ⟨by rfl, ?_⟩) hS ?_; rotate_left; (focus (intro w0_ hSw; go_simp; try with_reducible rfl)); try simp only [Act.put, List.setIfInBounds_toArray, List.set_cons_zero, List.set_cons_succ])
              (refine take_p (i := 11) (v := ?_) rfl (by kernel_rfl) (by kernel_rfl) (by kernel_rfl) (fun _ _ _ h => h) (Or.inl ⟨by rfl, ?_⟩) hS ?_; rotate_left; (focus (intro w0_ hSw; go_simp; try with_reducible rfl)); try simp only [Act.put, List.setIfInBounds_toArray, List.set_cons_zero, List.set_cons_succ])
              (refine take_p (i := 12) (v := ?_) rfl (by kernel_rfl) (by kernel_rfl) (by kernel_rfl) (fun _ _ _ h => h) (Or.inl ⟨by rfl, ?_⟩) hS ?_; rotate_left; (focus (intro w0_ hSw; go_simp; try with_reducible rfl)); try simp only [Act.put, List.setIfInBounds_toArray, List.set_cons_zero, List.set_cons_succ])
              (refine take_p (i := 13) (v := ?_) rfl (by kernel_rfl) (by kernel_rfl) (by kernel_rfl) (fun _ _ _ h => h) (Or.inl ⟨by rfl, ?_⟩) hS ?_; rotate_left; (focus (intro w0_ hSw; go_simp; try with_reducible rfl)); try simp only [Act.put, List.setIfInBounds_toArray, List.set_cons_zero, List.set_cons_succ])
              refine wpAnyH_done (by kernel_rfl) ?_ _
              have x1 := hS.cell_some (fun h => h) y1
              have x2 := hS.cell_some (fun h => h) y2
              have hbe : (nm.toList == nm.toList) = true := beq_self_eq_true _
              have hz2 := Lib.hid (own_only hbz hS (fun _ _ h => h))
              have hz3 := Lib.hid (own_only haz hS (fun _ _ h => h))
              have hz4 := Lib.hid (own_only hez hS (fun _ _ h => h))
              have hz5 := Lib.hid (own_only hnz hS (fun _ _ h => h))
              have hz6 := hSz.still hS
              clear hS hSz hbz haz hez hnz y0 y1 y2 heZ
              go_wp2_with fail
              go_roundw
              case rel => exact ⟨j + 1, hj1, by go_num, hz6, hz2, hz3, hz4, hz5⟩
              case measure => simp [intOf]; omega
            · go_wp2_with fail
              go_ret
              exact ⟨rfl, hst2⟩
        · have d1 : decide ((n1 : Int) > 60000) = false := decide_eq_false (by omega)
          have hn16 : n1 ≤ 60000 := by omega
          go_wp2_with fail
          rcases hmay : mayN z.nm.data.toList with _ | _
          · skip
            have hs_wz : Still w1 w1.drew := (Only.refl _ _).drew
            obtain ⟨wz, hwz⟩ : ∃ wz, wz = w1.drew := ⟨_, rfl⟩
            refine wp_region_held_drew (S := fun w' => Only (fun i => i = t ∨ mb = some i) w1.drew w') (by kernel_rfl) (Only.refl _ _) (fun hS => ?_)
            rw [← hwz] at hs_wz hS ⊢
            clear hwz
            have nt : ¬ (bl = t ∨ mb = some bl) := fun e => by
              obtain ⟨i1, i2⟩ := HTB.out
              rcases e with e | e
              · omega
              · have := i2 _ e; omega
            have hTz := hT1.still hs_wz
            have hoz := own_only hown1 hs_wz (fun _ _ h => h)
            have hSz := hst1.still hs_wz
            have y0 := hs_wz.cell_some (fun h => h) x0
            have y1 := hs_wz.cell_some (fun h => h) x1
            have y2 := hs_wz.cell_some (fun h => h) x2
            have oa := own_only oa hs_wz (fun _ _ h => h)
            have oe := own_only oe hs_wz (fun _ _ h => h)
            have on := own_only on hs_wz (fun _ _ h => h)
            clear hs_wz x0 x1 x2
            (refine take_p (i := 0) (v := ?_) rfl (by kernel_rfl) (by kernel_rfl) (by kernel_rfl) (fun _ _ _ h => h) (Or.inl ⟨by rfl, ?_⟩) hS ?_; rotate_left; (focus (intro w0_ hSw; go_simp; try with_reducible rfl)); try simp only [Act.put, List.setIfInBounds_toArray, List.set_cons_zero, List.set_cons_succ])
            (refine take_p (i := 1) (v := ?_) rfl (by kernel_rfl) (by kernel_rfl) (by kernel_rfl) (fun _ _ _ h => h) (Or.inl ⟨by rfl, ?_⟩) hS ?_; rotate_left; (focus (intro w0_ hSw; go_simp; try with_reducible rfl)); try simp only [Act.put, List.setIfInBounds_toArray, List.set_cons_zero, List.set_cons_succ])
            (refine take_p (i := 2) (v := ?_) rfl (by kernel_rfl) (by kernel_rfl) (by kernel_rfl) (fun _ _ _ h => h) (Or.inl ⟨by rfl, ?_⟩) hS ?_; rotate_left; (focus (intro w0_ hSw; go_simp; try with_reducible rfl)); try simp only [Act.put, List.setIfInBounds_toArray, List.set_cons_zero, List.set_cons_succ])
            (refine take_p (i := 3) (v := ?_) rfl (by kernel_rfl) (by kernel_rfl) (by kernel_rfl) (fun _ _ _ h => h) (Or.inl ⟨by rfl, ?_⟩) hS ?_; rotate_left; (focus (intro w0_ hSw; go_simp; try with_reducible rfl)); try simp only [Act.put, List.setIfInBounds_toArray, List.set_cons_zero, List.set_cons_succ])
            (refine take_p (i := 4) (v := ?_) rfl (by kernel_rfl) (by kernel_rfl) (by kernel_rfl) (fun _ _ _ h => h) (Or.inl ⟨by rfl, ?_⟩) hS ?_; rotate_left; (focus (intro w0_ hSw; go_simp; try with_reducible rfl)); try simp only [Act.put, List.setIfInBounds_toArray, List.set_cons_zero, List.set_cons_succ])
            (refine take_p (i := 5) (v := ?_) rfl (by kernel_rfl) (by kernel_rfl) (by kernel_rfl) (fun _ _ _ h => h) (Or.inl ⟨by rfl, ?_⟩) hS ?_; rotate_left; (focus (intro w0_ hSw; go_simp; try with_reducible rfl)); try simp only [Act.put, List.setIfInBounds_toArray, List.set_cons_zero, List.set_cons_succ])
            (refine take_p (i := 6) (v := ?_) rfl (by kernel_rfl) (by kernel_rfl) (by kernel_rfl) (fun _ _ _ h => h) (Or.inl ⟨by rfl, ?_⟩) hS ?_; rotate_left; (focus (intro w0_ hSw; have z0_ := hSw.cell_some (nt) y0; go_simp; try with_reducible rfl)); try simp only [Act.put, List.setIfInBounds_toArray, List.set_cons_zero, List.set_cons_succ])
            (refine take_p (i := 7) (v := ?_) rfl (by kernel_rfl) (by kernel_rfl) (by kernel_rfl) (fun _ _ _ h => h) (Or.inl ⟨by rfl, ?_⟩) hS ?_; rotate_left; (focus (intro w0_ hSw; go_simp; try with_reducible rfl)); try simp only [Act.put, List.setIfInBounds_toArray, List.set_cons_zero, List.set_cons_succ])
            (refine take_p (i := 8) (v := ?_) rfl (by kernel_rfl) (by kernel_rfl) (by kernel_rfl) (fun _ _ _ h => h) (Or.inl ⟨by rfl, ?_⟩) hS ?_; rotate_left; (focus (intro w0_ hSw; go_simp; try with_reducible rfl)); try simp only [Act.put, List.setIfInBounds_toArray, List.set_cons_zero, List.set_cons_succ])
            (refine take_p (i := 9) (v := ?_) rfl (by kernel_rfl) (by kernel_rfl) (by kernel_rfl) (fun _ _ _ h => h) (Or.inl ⟨by rfl, ?_⟩) hS ?_; rotate_left; (focus (intro w0_ hSw; go_simp; try with_reducible rfl)); try simp only [Act.put, List.setIfInBounds_toArray, List.set_cons_zero, List.set_cons_succ])
            (refine take_p (i := 10) (v := ?_) rfl (by kernel_rfl) (by kernel_rfl) (by kernel_rfl) (fun _ _ _ h => h) (Or.inl ⟨by rfl, ?_⟩) hS ?_; rotate_left; (focus (intro w0_ hSw; go_simp; try with_reducible rfl)); try simp only [Act.put, List.setIfInBounds_toArray, List.set_cons_zero, List.set_cons_succ])
            (refine take_p (i := 11) (v := ?_) rfl (by kernel_rfl) (by kernel_rfl) (by kernel_rfl) (fun _ _ _ h => h) (Or.inl ⟨by rfl, ?_⟩) hS ?_; rotate_left; (focus (intro w0_ hSw; have z0_ := hSw.cell_some (nt) y1; go_simp; try with_reducible rfl)); try simp only [Act.put, List.setIfInBounds_toArray, List.set_cons_zero, List.set_cons_succ])
            (refine take_p (i := 12) (v := ?_) rfl (by kernel_rfl) (by kernel_rfl) (by kernel_rfl) (fun _ _ _ h => h) (Or.inl ⟨by rfl, ?_⟩) hS ?_; rotate_left; (focus (intro w0_ hSw; go_simp; try with_reducible rfl)); try simp only [Act.put, List.setIfInBounds_toArray, List.set_cons_zero, List.set_cons_succ])
            (refine take_p (i := 13) (v := ?_) rfl (by kernel_rfl) (by kernel_rfl) (by kernel_rfl) (fun _ _ _ h => h) (Or.inl ⟨by rfl, ?_⟩) hS ?_; rotate_left; (focus (intro w0_ hSw; go_simp; try with_reducible rfl)); try simp only [Act.put, List.setIfInBounds_toArray, List.set_cons_zero, List.set_cons_succ])
            (refine take_p (i := 14) (v := ?_) rfl (by kernel_rfl) (by kernel_rfl) (by kernel_rfl) (fun _ _ _ h => h) (Or.inl ⟨by rfl, ?_⟩) hS ?_; rotate_left; (focus (intro w0_ hSw; go_simp; try with_reducible rfl)); try simp only [Act.put, List.setIfInBounds_toArray, List.set_cons_zero, List.set_cons_succ])
            (refine take_p (i := 15) (v := ?_) rfl (by kernel_rfl) (by kernel_rfl) (by kernel_rfl) (fun _ _ _ h => h) (Or.inl ⟨by rfl, ?_⟩) hS ?_; rotate_left; (focus (intro w0_ hSw; go_simp; try with_reducible rfl)); try simp only [Act.put, List.setIfInBounds_toArray, List.set_cons_zero, List.set_cons_succ])
            (refine take_p (i := 16) (v := ?_) rfl (by kernel_rfl) (by kernel_rfl) (by kernel_rfl) (fun _ _ _ h => h) (Or.inl ⟨by rfl, ?_⟩) hS ?_; rotate_left; (focus (intro w0_ hSw; have z0_ := hSw.cell_some (nt) y2; go_simp; try with_reducible rfl)); try simp only [Act.put, List.setIfInBounds_toArray, List.set_cons_zero, List.set_cons_succ])
            refine wpAnyH_ready (rs := [17]) (by kernel_rfl) (by simp) ?_
            refine cons_p rfl (fun K_ hK => ?_) AllReadyH.nil
            go_simp
            refine (put_no _ t A1 n1 c1 z.nm (by unfold maxLen; omega) z.cp z.kn hmay).mono ?_
            rintro e wp ⟨rfl, hs_⟩
            refine hK.out _ _ (hS.still hs_) (fun hHeld => ?_)
            replace hS := hS.still hs_
            clear hK K_ hHeld
            try simp only [Act.put, List.setIfInBounds_toArray, List.set_cons_zero, List.set_cons_succ]
            (refine take_p (i := 18) (v := ?_) rfl (by kernel_rfl) (by kernel_rfl) (by kernel_rfl) (fun _ _ _ h => h) (Or.inl ⟨by rfl, ?_⟩) hS ?_; rotate_left; (focus (intro w0_ hSw; go_simp; try with_reducible rfl)); try simp only [Act.put, List.setIfInBounds_toArray, List.set_cons_zero, List.set_cons_succ])
            (refine take_p (i := 19) (v := ?_) rfl (by kernel_rfl) (by kernel_rfl) (by kernel_rfl) (fun _ _ _ h => h) (Or.inl ⟨by rfl, ?_⟩) hS ?_; rotate_left; (focus (intro w0_ hSw; go_simp; try with_reducible rfl)); try simp only [Act.put, List.setIfInBounds_toArray, List.set_cons_zero, List.set_cons_succ])
            (refine take_p (i := 20) (v := ?_) rfl (by kernel_rfl) (by kernel_rfl) (by kernel_rfl) (fun _ _ _ h => h) (Or.inl ⟨by rfl, ?_⟩) hS ?_; rotate_left; (focus (intro w0_ hSw; go_simp; try with_reducible rfl)); try simp only [Act.put, List.setIfInBounds_toArray, List.set_cons_zero, List.set_cons_succ])
            (refine take_p (i := 21) (v := ?_) rfl (by kernel_rfl) (by kernel_rfl) (by kernel_rfl) (fun _ _ _ h => h) (Or.inl ⟨by rfl, ?_⟩) hS ?_; rotate_left; (focus (intro w0_ hSw; go_simp; try with_reducible rfl)); try simp only [Act.put, List.setIfInBounds_toArray, List.set_cons_zero, List.set_cons_succ])
            (refine take_p (i := 22) (v := ?_) rfl (by kernel_rfl) (by kernel_rfl) (by kernel_rfl) (fun _ _ _ h => h) (Or.inl ⟨by rfl, ?_⟩) hS ?_; rotate_left; (focus (intro w0_ hSw; go_simp; try with_reducible rfl)); try simp only [Act.put, List.setIfInBounds_toArray, List.set_cons_zero, List.set_cons_succ])
            refine wpAnyH_done (by kernel_rfl) ?_ _
            have hS9 : Still w wp := hSz.trans hS (fun i hi e => by
              obtain ⟨i1, i2⟩ := HTB.out
              rcases e with e | e
              · omega
              · have := i2 _ e; omega)
            have hT9 := hTz.still hs_
            have ho9 := own_only hoz hs_ (fun _ _ h => h)
            have oa := own_only oa hs_ (fun _ _ h => h)
            have oe := own_only oe hs_ (fun _ _ h => h)
            have on := own_only on hs_ (fun _ _ h => h)
            have x0 := hS.cell_some nt y0
            clear hS hTz hoz hSz hs_ y0 y1 y2
            go_wp2_with (go_at_call 15; refine (may_any z.nm (by unfold maxLen; omega) _).mono ?_; rintro e w6 ⟨rfl, q6, rfl⟩; rw [hmay])
            go_roundw
            case rel => exact ⟨k + 1, q, A1, n1, c1, B1, mb, K, E, Aa, Ae, An, ca, ce, cn, hk1, by omega, rfl, rfl, rfl, rfl, by go_num, ho9, hT9.still (Still.quiet _ q6), hS9.drewN q6, HTB, Lib.hid ⟨Hlow.out.more (by have := Hn1.out; have := HBl1.out; have := HBl.out; omega), by omega, HBl1.out, by omega⟩, Lib.hid ⟨HG.out, fun e h => ⟨(HE.out e h).1, by rw [HBl1.out]; exact (HE.out e h).2⟩, HEl.out⟩, oa, oe, on, hsep⟩
            case measure => simp [intOf]; omega
          · obtain ⟨L, hL, hnm⟩ := may_mk hmay
            have hlowB : lowN K B1.length := Hlow.out.more (by have := Hn1.out; have := HBl1.out; have := HBl.out; omega)
            have hlowK := hlowB.low
            have hL127 := hL.len
            have hnmL := Lib.hid hnm
            have hn17 : n1 ≤ 10000000 := by omega
            clear hnm
            have hs_wz : Still w1 w1.drew := (Only.refl _ _).drew
            obtain ⟨wz, hwz⟩ : ∃ wz, wz = w1.drew := ⟨_, rfl⟩
            refine wp_region_held_drew (S := fun w' => Only (fun i => i = t ∨ mb = some i) w1.drew w') (by kernel_rfl) (Only.refl _ _) (fun hS => ?_)
            rw [← hwz] at hs_wz hS ⊢
            clear hwz
            have nt : ¬ (bl = t ∨ mb = some bl) := fun e => by
              obtain ⟨i1, i2⟩ := HTB.out
              rcases e with e | e
              · omega
              · have := i2 _ e; omega
            have hTz := hT1.still hs_wz
            have hoz := own_only hown1 hs_wz (fun _ _ h => h)
            have hSz := hst1.still hs_wz
            have y0 := hs_wz.cell_some (fun h => h) x0
            have y1 := hs_wz.cell_some (fun h => h) x1
            have y2 := hs_wz.cell_some (fun h => h) x2
            have oa := own_only oa hs_wz (fun _ _ h => h)
            have oe := own_only oe hs_wz (fun _ _ h => h)
            have on := own_only on hs_wz (fun _ _ h => h)
            clear hs_wz x0 x1 x2
            (refine take_p (i := 0) (v := ?_) rfl (by kernel_rfl) (by kernel_rfl) (by kernel_rfl) (fun _ _ _ h => h) (Or.inl ⟨by rfl, ?_⟩) hS ?_; rotate_left; (focus (intro w0_ hSw; go_simp; try with_reducible rfl)); try simp only [Act.put, List.setIfInBounds_toArray, List.set_cons_zero, List.set_cons_succ])
            (refine take_p (i := 1) (v := ?_) rfl (by kernel_rfl) (by kernel_rfl) (by kernel_rfl) (fun _ _ _ h => h) (Or.inl ⟨by rfl, ?_⟩) hS ?_; rotate_left; (focus (intro w0_ hSw; go_simp; try with_reducible rfl)); try simp only [Act.put, List.setIfInBounds_toArray, List.set_cons_zero, List.set_cons_succ])
            (refine take_p (i := 2) (v := ?_) rfl (by kernel_rfl) (by kernel_rfl) (by kernel_rfl) (fun _ _ _ h => h) (Or.inl ⟨by rfl, ?_⟩) hS ?_; rotate_left; (focus (intro w0_ hSw; go_simp; try with_reducible rfl)); try simp only [Act.put, List.setIfInBounds_toArray, List.set_cons_zero, List.set_cons_succ])
            (refine take_p (i := 3) (v := ?_) rfl (by kernel_rfl) (by kernel_rfl) (by kernel_rfl) (fun _ _ _ h => h) (Or.inl ⟨by rfl, ?_⟩) hS ?_; rotate_left; (focus (intro w0_ hSw; go_simp; try with_reducible rfl)); try simp only [Act.put, List.setIfInBounds_toArray, List.set_cons_zero, List.set_cons_succ])
            (refine take_p (i := 4) (v := ?_) rfl (by kernel_rfl) (by kernel_rfl) (by kernel_rfl) (fun _ _ _ h => h) (Or.inl ⟨by rfl, ?_⟩) hS ?_; rotate_left; (focus (intro w0_ hSw; go_simp; try with_reducible rfl)); try simp only [Act.put, List.setIfInBounds_toArray, List.set_cons_zero, List.set_cons_succ])
            (refine take_p (i := 5) (v := ?_) rfl (by kernel_rfl) (by kernel_rfl) (by kernel_rfl) (fun _ _ _ h => h) (Or.inl ⟨by rfl, ?_⟩) hS ?_; rotate_left; (focus (intro w0_ hSw; go_simp; try with_reducible rfl)); try simp only [Act.put, List.setIfInBounds_toArray, List.set_cons_zero, List.set_cons_succ])
            (refine take_p (i := 6) (v := ?_) rfl (by kernel_rfl) (by kernel_rfl) (by kernel_rfl) (fun _ _ _ h => h) (Or.inl ⟨by rfl, ?_⟩) hS ?_; rotate_left; (focus (intro w0_ hSw; have z0_ := hSw.cell_some (nt) y0; go_simp; try with_reducible rfl)); try simp only [Act.put, List.setIfInBounds_toArray, List.set_cons_zero, List.set_cons_succ])
            (refine take_p (i := 7) (v := ?_) rfl (by kernel_rfl) (by kernel_rfl) (by kernel_rfl) (fun _ _ _ h => h) (Or.inl ⟨by rfl, ?_⟩) hS ?_; rotate_left; (focus (intro w0_ hSw; go_simp; try with_reducible rfl)); try simp only [Act.put, List.setIfInBounds_toArray, List.set_cons_zero, List.set_cons_succ])
            (refine take_p (i := 8) (v := ?_) rfl (by kernel_rfl) (by kernel_rfl) (by kernel_rfl) (fun _ _ _ h => h) (Or.inl ⟨by rfl, ?_⟩) hS ?_; rotate_left; (focus (intro w0_ hSw; go_simp; try with_reducible rfl)); try simp only [Act.put, List.setIfInBounds_toArray, List.set_cons_zero, List.set_cons_succ])
            (refine take_p (i := 9) (v := ?_) rfl (by kernel_rfl) (by kernel_rfl) (by kernel_rfl) (fun _ _ _ h => h) (Or.inl ⟨by rfl, ?_⟩) hS ?_; rotate_left; (focus (intro w0_ hSw; go_simp; try with_reducible rfl)); try simp only [Act.put, List.setIfInBounds_toArray, List.set_cons_zero, List.set_cons_succ])
            (refine take_p (i := 10) (v := ?_) rfl (by kernel_rfl) (by kernel_rfl) (by kernel_rfl) (fun _ _ _ h => h) (Or.inl ⟨by rfl, ?_⟩) hS ?_; rotate_left; (focus (intro w0_ hSw; go_simp; try with_reducible rfl)); try simp only [Act.put, List.setIfInBounds_toArray, List.set_cons_zero, List.set_cons_succ])
            (refine take_p (i := 11) (v := ?_) rfl (by kernel_rfl) (by kernel_rfl) (by kernel_rfl) (fun _ _ _ h => h) (Or.inl ⟨by rfl, ?_⟩) hS ?_; rotate_left; (focus (intro w0_ hSw; have z0_ := hSw.cell_some (nt) y1; go_simp; try with_reducible rfl)); try simp only [Act.put, List.setIfInBounds_toArray, List.set_cons_zero, List.set_cons_succ])
            (refine take_p (i := 12) (v := ?_) rfl (by kernel_rfl) (by kernel_rfl) (by kernel_rfl) (fun _ _ _ h => h) (Or.inl ⟨by rfl, ?_⟩) hS ?_; rotate_left; (focus (intro w0_ hSw; go_simp; try with_reducible rfl)); try simp only [Act.put, List.setIfInBounds_toArray, List.set_cons_zero, List.set_cons_succ])
            (refine take_p (i := 13) (v := ?_) rfl (by kernel_rfl) (by kernel_rfl) (by kernel_rfl) (fun _ _ _ h => h) (Or.inl ⟨by rfl, ?_⟩) hS ?_; rotate_left; (focus (intro w0_ hSw; go_simp; try with_reducible rfl)); try simp only [Act.put, List.setIfInBounds_toArray, List.set_cons_zero, List.set_cons_succ])
            (refine take_p (i := 14) (v := ?_) rfl (by kernel_rfl) (by kernel_rfl) (by kernel_rfl) (fun _ _ _ h => h) (Or.inl ⟨by rfl, ?_⟩) hS ?_; rotate_left; (focus (intro w0_ hSw; go_simp; try with_reducible rfl)); try simp only [Act.put, List.setIfInBounds_toArray, List.set_cons_zero, List.set_cons_succ])
            (refine take_p (i := 15) (v := ?_) rfl (by kernel_rfl) (by kernel_rfl) (by kernel_rfl) (fun _ _ _ h => h) (Or.inl ⟨by rfl, ?_⟩) hS ?_; rotate_left; (focus (intro w0_ hSw; go_simp; try with_reducible rfl)); try simp only [Act.put, List.setIfInBounds_toArray, List.set_cons_zero, List.set_cons_succ])
            (refine take_p (i := 16) (v := ?_) rfl (by kernel_rfl) (by kernel_rfl) (by kernel_rfl) (fun _ _ _ h => h) (Or.inl ⟨by rfl, ?_⟩) hS ?_; rotate_left; (focus (intro w0_ hSw; have z0_ := hSw.cell_some (nt) y2; go_simp; try with_reducible rfl)); try simp only [Act.put, List.setIfInBounds_toArray, List.set_cons_zero, List.set_cons_succ])
            refine wpAnyH_ready (rs := [17]) (by kernel_rfl) (by simp) ?_
            refine cons_p rfl (fun K_ hK => ?_) AllReadyH.nil
            go_simp
            refine (put_ok hTz A1 n1 c1 B1 (Reads.of_own hoz) (rows_apart hTz hoz) HBl1.out hn17 L hL z.nm hnmL.out (by omega) hlowK z.cp z.kn).mono ?_
            rintro e wp ⟨A2, c2, mb2, rfl, hown2, hT2, hop, hmb2⟩
            refine hK.out _ _ (hS.trans hop (fun i _ e => e)) (fun hHeld => ?_)
            replace hS := hS.trans hop (fun i _ e => e)
            clear hK K_ hHeld
            try simp only [Act.put, List.setIfInBounds_toArray, List.set_cons_zero, List.set_cons_succ]
            (refine take_p (i := 18) (v := ?_) rfl (by kernel_rfl) (by kernel_rfl) (by kernel_rfl) (fun _ _ _ h => h) (Or.inl ⟨by rfl, ?_⟩) hS ?_; rotate_left; (focus (intro w0_ hSw; go_simp; try with_reducible rfl)); try simp only [Act.put, List.setIfInBounds_toArray, List.set_cons_zero, List.set_cons_succ])
            (refine take_p (i := 19) (v := ?_) rfl (by kernel_rfl) (by kernel_rfl) (by kernel_rfl) (fun _ _ _ h => h) (Or.inl ⟨by rfl, ?_⟩) hS ?_; rotate_left; (focus (intro w0_ hSw; go_simp; try with_reducible rfl)); try simp only [Act.put, List.setIfInBounds_toArray, List.set_cons_zero, List.set_cons_succ])
            (refine take_p (i := 20) (v := ?_) rfl (by kernel_rfl) (by kernel_rfl) (by kernel_rfl) (fun _ _ _ h => h) (Or.inl ⟨by rfl, ?_⟩) hS ?_; rotate_left; (focus (intro w0_ hSw; go_simp; try with_reducible rfl)); try simp only [Act.put, List.setIfInBounds_toArray, List.set_cons_zero, List.set_cons_succ])
            (refine take_p (i := 21) (v := ?_) rfl (by kernel_rfl) (by kernel_rfl) (by kernel_rfl) (fun _ _ _ h => h) (Or.inl ⟨by rfl, ?_⟩) hS ?_; rotate_left; (focus (intro w0_ hSw; go_simp; try with_reducible rfl)); try simp only [Act.put, List.setIfInBounds_toArray, List.set_cons_zero, List.set_cons_succ])
            (refine take_p (i := 22) (v := ?_) rfl (by kernel_rfl) (by kernel_rfl) (by kernel_rfl) (fun _ _ _ h => h) (Or.inl ⟨by rfl, ?_⟩) hS ?_; rotate_left; (focus (intro w0_ hSw; go_simp; try with_reducible rfl)); try simp only [Act.put, List.setIfInBounds_toArray, List.set_cons_zero, List.set_cons_succ])
            refine wpAnyH_done (by kernel_rfl) ?_ _
            have hown9 := own_base hown2 (show w.heap.size ≤ wz.heap.size from hSz.size)
            have oa := own_tab hTz oa (by decide) hS
            have oe := own_tab hTz oe (by decide) hS
            have on := own_tab hTz on (by decide) hS
            have hS9 : Still w wp := hSz.trans hS (fun i hi e => by
              obtain ⟨i1, i2⟩ := HTB.out
              rcases e with e | e
              · omega
              · have := i2 _ e; omega)
            have HTB2 : Hid (w.heap.size ≤ t ∧ ∀ i, mb2 = some i → w.heap.size ≤ i) := Lib.hid ⟨HTB.out.1, fun i e => by
              rcases hmb2 with h | ⟨_, b, h, hb⟩
              · exact HTB.out.2 i (by rw [← h]; exact e)
              · rw [h] at e
                cases e
                have := hSz.size
                omega⟩
            have hsp := out_spec z.cp K B1 L
            have hlowO := newK_lowN (cp := z.cp) (kn := z.kn) (L := L) hlowB
            have hpg := put_good HG.out hlowB hL z.cp z.kn
            rw [HBl1.out] at hlowO hpg
            have hlenK := newK_len (R := lgC z.cp K L) (K := K) (off := n1) (L := L) (kn := z.kn)
            have hpre : ∃ x, outP (lgC z.cp K L) B1 L = B1 ++ x := ⟨_, by unfold outP; rw [List.append_assoc]⟩
            clear hlowB
            obtain ⟨O, hO⟩ : ∃ O, O = outP (lgC z.cp K L) B1 L := ⟨_, rfl⟩
            obtain ⟨K2, hK2⟩ : ∃ K2, K2 = newK (lgC z.cp K L) K n1 L z.kn := ⟨_, rfl⟩
            rw [← hO] at hown9 hsp hlowO hpg hpre ⊢
            rw [← hK2] at hT2 hlowO hlenK hpg
            have hL5 : sz L + 1 ≤ 255 := hL.2
            have hOB : n1 < O.length ∧ O.length ≤ n1 + 257 := by
              rcases hsp with ⟨P, Q, o, _, hLL, hQ, _, _, h⟩ | ⟨_, h⟩
              · have h5 : sz L = sz P + sz Q := by rw [hLL, sz_app]
                rw [h, List.length_append, List.length_append, encs_len, beB_length, HBl1.out]
                omega
              · rw [h, List.length_append, enc_len, HBl1.out]
                omega
            have hrel9 : Hid (lowN K2 O.length ∧ K2.length ≤ 127 * (k + 1) ∧ O.length ≤ 60300) := Lib.hid ⟨hlowO, by omega, by omega⟩
            have hE9 : Hid (Good O K2 ∧ (∀ e ∈ E ++ [(z.nm, n1, O.length)], readL O e.2.1 = (0, e.1.data.toList, e.2.2) ∧ e.2.1 ≤ O.length) ∧ (E ++ [(z.nm, n1, O.length)]).length = q + 1) := Lib.hid ⟨hpg.1, fun e h => by
              rcases List.mem_append.1 h with h | h
              · obtain ⟨h1, h2⟩ := HE.out e h
                obtain ⟨x, hx⟩ := hpre
                exact ⟨by rw [hx]; exact readL_more x h1, by omega⟩
              · rw [List.mem_singleton.1 h]
                refine ⟨?_, by show n1 ≤ O.length; omega⟩
                show readL O n1 = (0, z.nm.data.toList, O.length)
                rw [hpg.2, hnmL.out, mk_list], by rw [List.length_append, List.length_singleton, HEl.out]⟩
            clear hop hown2 hS hTz hoz hSz hmb2 hsp hlowO hlenK hO hK2 hlowK hpg hpre y0 y1 y2 nt
            obtain ⟨OL, hOL⟩ : ∃ OL, OL = O.length := ⟨_, rfl⟩
            rw [← hOL] at hown9 hOB hrel9 hE9 ⊢
            have HOL := Lib.hid hOL
            clear hOL
            have x0 := hS9.cell_some (fun h => h) HX0.out
            go_upto_region 16 with (go_at_call 15; refine (may_st z.nm (by unfold maxLen; omega) _).mono ?_; rintro e wx0 ⟨rfl, hq6⟩; rw [hmay])
            have hSx := hS9.still hq6
            have hTx := hT2.still hq6
            have oc := own_only hown9 hq6 (fun _ _ h => h)
            have oa := own_only oa hq6 (fun _ _ h => h)
            have oe := own_only oe hq6 (fun _ _ h => h)
            have on := own_only on hq6 (fun _ _ h => h)
            have hq5 : q ≤ 500 := by omega
            clear hq6 hS9 hT2 hown9 x0
            have hp_ := oa.alloc (.cells #[.int .i64 (n1 : Int)] 3)
            have hrd := Reads.of_own (World.ownsRow_lit (e := 3) (size := 1) (base := 0) wx0 #[.int .i64 (n1 : Int)] 1 (Nat.zero_le _) (by unfold maxLen; omega) rfl)
            have hsn := Still.new wx0 (.cells #[.int .i64 (n1 : Int)] 3)
            have HSA := Lib.hid (hSx.still hsn)
            have hTx := hTx.still hsn
            have hza : (wx0.alloc (.cells #[.int .i64 (n1 : Int)] 3)).heap.size = wx0.heap.size + 1 := by simp
            have HZ := Lib.hid hza
            clear hza
            have oe := own_only oe hsn (fun _ _ h => h)
            have on := own_only on hsn (fun _ _ h => h)
            have oc := own_only oc hsn (fun _ _ h => h)
            clear hsn
            go_wp2_with (at_builtin; refine wpList_append_any _ rfl (.tmp 73) (.tmp 76) 41 rfl w.heap.size 3 ii0 (.int .i64 0) 1 8 Tryd.underlying41 ii ii1 ii2 ii3 rfl (by decide) _ _ _ rfl hp_ _ (some _) 1 1 _ rfl hrd ?q1 ?q2 ?q3 ?q4 ?_)
            case q1 => first | rfl | (intro u hu; simp at hu; subst hu; rfl)
            case q2 => unfold maxLen; omega
            case q3 => omega
            case q4 => have h1 := HSA.out.size; have h2 := HZ.out; omega
            intro v' wx1 hown' hgrow hblk
            obtain ⟨Ax1, cx1, hv⟩ := own_shape hown'
            subst hv
            have hsepA : Hid (SepB (.slice Ax1 (q + 1) cx1) (.slice Ae q ce)) := Lib.hid (SepB.grow hsep.out hblk (fun k hk => by have h1 := (oe.lt k hk).2; have h2 := HZ.out; omega))
            have oe := own_by oe hgrow (hsep.out.symm)
            have on := own_by on hgrow (fun k hk => own_ne on hp_ (by decide) k hk)
            have oc := own_by oc hgrow (fun k hk => own_ne oc hp_ (by decide) k hk)
            have hTx := tab_by hTx hp_ (by decide) hgrow
            have hSx := HSA.out.grown hgrow (fun k hk => .inr (hp_.lt k hk).1)
            have oa2 := hown'
            clear oa hsep
            clear hp_ hrd HSA HZ hown' hgrow hblk
            have hp_ := oe.alloc (.cells #[.int .i64 (OL : Int)] 3)
            have hrd := Reads.of_own (World.ownsRow_lit (e := 3) (size := 1) (base := 0) wx1 #[.int .i64 (OL : Int)] 1 (Nat.zero_le _) (by unfold maxLen; omega) rfl)
            have hsn := Still.new wx1 (.cells #[.int .i64 (OL : Int)] 3)
            have HSA := Lib.hid (hSx.still hsn)
            have hTx := hTx.still hsn
            have hza : (wx1.alloc (.cells #[.int .i64 (OL : Int)] 3)).heap.size = wx1.heap.size + 1 := by simp
            have HZ := Lib.hid hza
            clear hza
            have oa2 := own_only oa2 hsn (fun _ _ h => h)
            have on := own_only on hsn (fun _ _ h => h)
            have oc := own_only oc hsn (fun _ _ h => h)
            clear hsn
            go_wp2_with (at_builtin; refine wpList_append_any _ rfl (.tmp 78) (.tmp 81) 41 rfl w.heap.size 3 ii0 (.int .i64 0) 1 8 Tryd.underlying41 ii ii1 ii2 ii3 rfl (by decide) _ _ _ rfl hp_ _ (some _) 1 1 _ rfl hrd ?q1 ?q2 ?q3 ?q4 ?_)
            case q1 => first | rfl | (intro u hu; simp at hu; subst hu; rfl)
            case q2 => unfold maxLen; omega
            case q3 => omega
            case q4 => have h1 := HSA.out.size; have h2 := HZ.out; omega
            intro v' wx2 hown' hgrow hblk
            obtain ⟨Ax2, cx2, hv⟩ := own_shape hown'
            subst hv
            have hsepB : Hid (SepB (.slice Ax1 (q + 1) cx1) (.slice Ax2 (q + 1) cx2)) := Lib.hid (SepB.symm (SepB.grow hsepA.out.symm hblk (fun k hk => by have h1 := (oa2.lt k hk).2; have h2 := HZ.out; omega)))
            have oa2 := own_by oa2 hgrow (hsepA.out)
            have on := own_by on hgrow (fun k hk => own_ne on hp_ (by decide) k hk)
            have oc := own_by oc hgrow (fun k hk => own_ne oc hp_ (by decide) k hk)
            have hTx := tab_by hTx hp_ (by decide) hgrow
            have hSx := HSA.out.grown hgrow (fun k hk => .inr (hp_.lt k hk).1)
            have oe2 := hown'
            clear oe hsepA
            clear hp_ hrd HSA HZ hown' hgrow hblk
            have x0 := hSx.cell_some (fun h => h) HX0.out
            have hp_ := on.alloc (.cells #[.string z.nm] 9)
            have hrd := Reads.of_own (World.ownsRow_lit (e := 9) (size := 1) (base := 0) wx2 #[.string z.nm] 1 (Nat.zero_le _) (by unfold maxLen; omega) rfl)
            have hsn := Still.new wx2 (.cells #[.string z.nm] 9)
            have HSA := Lib.hid (hSx.still hsn)
            have hTx := hTx.still hsn
            have hza : (wx2.alloc (.cells #[.string z.nm] 9)).heap.size = wx2.heap.size + 1 := by simp
            have HZ := Lib.hid hza
            clear hza
            have oa2 := own_only oa2 hsn (fun _ _ h => h)
            have oe2 := own_only oe2 hsn (fun _ _ h => h)
            have oc := own_only oc hsn (fun _ _ h => h)
            clear hsn
            go_wp2_with (at_builtin; refine wpList_append_any _ rfl (.tmp 83) (.tmp 89) 42 rfl w.heap.size 9 is0 (.string ⟨#[]⟩) 1 16 Tryd.underlying42 is is1 is2 is3 rfl (by decide) _ _ _ rfl hp_ _ (some _) 1 1 _ rfl hrd ?q1 ?q2 ?q3 ?q4 ?_)
            case q1 => first | rfl | (intro u hu; simp at hu; subst hu; rfl)
            case q2 => unfold maxLen; omega
            case q3 => omega
            case q4 => have h1 := HSA.out.size; have h2 := HZ.out; omega
            intro v' wx3 hown' hgrow hblk
            obtain ⟨Ax3, cx3, hv⟩ := own_shape hown'
            subst hv
            have oa2 := own_by oa2 hgrow (fun k hk => own_ne oa2 hp_ (by decide) k hk)
            have oe2 := own_by oe2 hgrow (fun k hk => own_ne oe2 hp_ (by decide) k hk)
            have oc := own_by oc hgrow (fun k hk => own_ne oc hp_ (by decide) k hk)
            have hTx := tab_by hTx hp_ (by decide) hgrow
            have hSx := HSA.out.grown hgrow (fun k hk => .inr (hp_.lt k hk).1)
            have on2 := hown'
            clear on
            clear hp_ hrd HSA HZ hown' hgrow hblk
            go_wp2_with fail
            go_roundw
            case rel =>
              refine ⟨k + 1, q + 1, A2, OL, c2, O, mb2, K2, E ++ [(z.nm, n1, OL)], Ax1, Ax2, Ax3, cx1, cx2, cx3, hk1, by omega, rfl, rfl, rfl, rfl, by go_num, oc, hTx, hSx, HTB2, Lib.hid ⟨by rw [← HOL.out]; exact hrel9.out.1, hrel9.out.2.1, HOL.out.symm, hrel9.out.2.2⟩, Lib.hid ?_, ?_, ?_, ?_, hsepB⟩
              · have := hE9.out
                rw [← HOL.out]
                exact this
              · rw [List.map_append]; exact oa2
              · rw [List.map_append]; exact oe2
              · rw [List.map_append]; exact on2
            case measure => simp [intOf]; omega
      · have hkn : k = n := by omega
        have hSx := hst
        have ob_ := hown
        have HE : Hid (∀ e ∈ E, readL B e.2.1 = (0, e.1.data.toList, e.2.2) ∧ e.2.1 ≤ nb) := Lib.hid (fun e h => by
          obtain ⟨h1, h2⟩ := hgood.out.2.1 e h
          have := hinv.out.2.2.1
          exact ⟨h1, by omega⟩)
        have HBB : Hid (B.length = nb) := Lib.hid hinv.out.2.2.1
        have hn1b : nb ≤ 1000000 := by have := hinv.out.2.2.2; omega
        clear hst hown hT hinv hgood hkn
        go_wp2_with fail
        go_loopw [11] (fun i wr => ∃ j : Nat, j ≤ q ∧ i = .int .i64 j ∧ Still w wr ∧ Hid (wr.ownsRow w.heap.size 5 1 (.slice A0 nb c0) nb (bv B)) ∧ Hid (wr.ownsRow w.heap.size 3 1 (.slice Aa q ca) q (E.map (fun e => .int .i64 (e.2.1 : Nat)))) ∧ Hid (wr.ownsRow w.heap.size 3 1 (.slice Ae q ce) q (E.map (fun e => .int .i64 (e.2.2 : Nat)))) ∧ Hid (wr.ownsRow w.heap.size 9 1 (.slice An q cn) q (E.map (fun e => .string e.1)))) (fun i _ => q - (intOf i).toNat)
        case atStart => exact ⟨0, Nat.zero_le _, rfl, hSx, Lib.hid ob_, Lib.hid oa, Lib.hid oe, Lib.hid on⟩
        case round =>
          clear hSx ob_ oa oe on
          obtain ⟨j, hj, rfl, hst2, hb2, ha2, he2, hn2⟩ := hrel
          by_cases hjl : j < q
          · have hjE : j < E.length := by have := HEl.out; omega
            obtain ⟨ga, rfl⟩ := own_some ha2.out (by omega)
            obtain ⟨ge, rfl⟩ := own_some he2.out (by omega)
            obtain ⟨gn, rfl⟩ := own_some hn2.out (by omega)
            obtain ⟨nm, p0, p1, hEj⟩ : ∃ (nm : ByteArray) (p0 p1 : Nat), E[j]? = some (nm, p0, p1) := ⟨_, _, _, List.getElem?_eq_getElem hjE⟩
            have x0 : wr.cell? ⟨ga, j, none⟩ = some (.int .i64 (p0 : Nat)) := own_at ha2.out (by rw [List.getElem?_map, hEj]; rfl)
            have x1 : wr.cell? ⟨ge, j, none⟩ = some (.int .i64 (p1 : Nat)) := own_at he2.out (by rw [List.getElem?_map, hEj]; rfl)
            have x2 : wr.cell? ⟨gn, j, none⟩ = some (.string nm) := own_at hn2.out (by rw [List.getElem?_map, hEj]; rfl)
            obtain ⟨hrdE, hpE⟩ := HE.out _ (List.mem_of_getElem? hEj)
            have hj1 : j + 1 ≤ q := hjl
            have HrdE := Lib.hid hrdE
            have hpE' : p0 ≤ nb := hpE
            obtain ⟨SB, hSB⟩ : ∃ s, s = mk B := ⟨_, rfl⟩
            have HSB := Lib.hid hSB
            have hSBz : SB.size = nb := by rw [hSB, mk_size]; exact HBB.out
            have HSBz := Lib.hid hSBz
            clear hrdE hpE hSB hSBz hEj hjE
            have heE := he.still hst2
            go_wp2_with fail
            have hs_wz : Still wr wr.drew := (Only.refl _ _).drew
            obtain ⟨wz, hwz⟩ : ∃ wz, wz = wr.drew := ⟨_, rfl⟩
            refine wp_region_held_drew (S := fun w' => Still wr.drew w') (by kernel_rfl) (Only.refl _ _) (fun hS => ?_)
            rw [← hwz] at hs_wz hS ⊢
            clear hwz
            have hSz := hst2.still hs_wz
            have hbz := own_only hb2.out hs_wz (fun _ _ h => h)
            have haz := own_only ha2.out hs_wz (fun _ _ h => h)
            have hez := own_only he2.out hs_wz (fun _ _ h => h)
            have hnz := own_only hn2.out hs_wz (fun _ _ h => h)
            have y0 := hs_wz.cell_some (fun h => h) x0
            have y1 := hs_wz.cell_some (fun h => h) x1
            have y2 := hs_wz.cell_some (fun h => h) x2
            have heZ := heE.still hs_wz
            clear hs_wz x0 x1 x2 heE
            (refine take_p (i := 0) (v := ?_) rfl (by kernel_rfl) (by kernel_rfl) (by kernel_rfl) (fun _ _ _ h => h) (Or.inl ⟨by rfl, ?_⟩) hS ?_; rotate_left; (focus (intro w0_ hSw; go_simp; try with_reducible rfl)); try simp only [Act.put, List.setIfInBounds_toArray, List.set_cons_zero, List.set_cons_succ])
            (refine take_p (i := 1) (v := ?_) rfl (by kernel_rfl) (by kernel_rfl) (by kernel_rfl) (fun _ _ _ h => h) (Or.inl ⟨by rfl, ?_⟩) hS ?_; rotate_left; (focus (intro w0_ hSw; have q_ := conv_row (own_only hbz hSw (fun _ _ h => h)); rw [← HSB.out] at q_; go_simp; try with_reducible rfl)); try simp only [Act.put, List.setIfInBounds_toArray, List.set_cons_zero, List.set_cons_succ])
            (refine take_p (i := 2) (v := ?_) rfl (by kernel_rfl) (by kernel_rfl) (by kernel_rfl) (fun _ _ _ h => h) (Or.inl ⟨by rfl, ?_⟩) hS ?_; rotate_left; (focus (intro w0_ hSw; go_simp; try with_reducible rfl)); try simp only [Act.put, List.setIfInBounds_toArray, List.set_cons_zero, List.set_cons_succ])
            (refine take_p (i := 3) (v := ?_) rfl (by kernel_rfl) (by kernel_rfl) (by kernel_rfl) (fun _ _ _ h => h) (Or.inl ⟨by rfl, ?_⟩) hS ?_; rotate_left; (focus (intro w0_ hSw; go_simp; try with_reducible rfl)); try simp only [Act.put, List.setIfInBounds_toArray, List.set_cons_zero, List.set_cons_succ])
            (refine take_p (i := 4) (v := ?_) rfl (by kernel_rfl) (by kernel_rfl) (by kernel_rfl) (fun _ _ _ h => h) (Or.inl ⟨by rfl, ?_⟩) hS ?_; rotate_left; (focus (intro w0_ hSw; go_simp; try with_reducible rfl)); try simp only [Act.put, List.setIfInBounds_toArray, List.set_cons_zero, List.set_cons_succ])
            (refine take_p (i := 5) (v := ?_) rfl (by kernel_rfl) (by kernel_rfl) (by kernel_rfl) (fun _ _ _ h => h) (Or.inl ⟨by rfl, ?_⟩) hS ?_; rotate_left; (focus (intro w0_ hSw; have z0_ := hSw.cell_some (fun h => h) y0; go_simp; try with_reducible rfl)); try simp only [Act.put, List.setIfInBounds_toArray, List.set_cons_zero, List.set_cons_succ])
            refine wpAnyH_ready (rs := [6]) (by kernel_rfl) (by simp) ?_
            refine cons_p rfl (fun K_ hK => ?_) AllReadyH.nil
            go_simp
            refine (read_c _ SB p0 p0 nm p1 0 p1 0 heZ (by have := HSBz.out; omega) (by have := HSBz.out; omega) rfl (by rw [HSB.out, mk_list]; exact HrdE.out) rfl rfl).mono ?_
            rintro e wq ⟨rfl, hs_⟩
            refine hK.out _ _ (hS.still hs_) (fun hHeld => ?_)
            replace hS := hS.still hs_
            clear hK K_ hHeld hs_
            try simp only [Act.put, List.setIfInBounds_toArray, List.set_cons_zero, List.set_cons_succ]
            (refine take_p (i := 7) (v := ?_) rfl (by kernel_rfl) (by kernel_rfl) (by kernel_rfl) (fun _ _ _ h => h) (Or.inl ⟨by rfl, ?_⟩) hS ?_; rotate_left; (focus (intro w0_ hSw; go_simp; try with_reducible rfl)); try simp only [Act.put, List.setIfInBounds_toArray, List.set_cons_zero, List.set_cons_succ])
            (refine take_p (i := 8) (v := ?_) rfl (by kernel_rfl) (by kernel_rfl) (by kernel_rfl) (fun _ _ _ h => h) (Or.inl ⟨by rfl, ?_⟩) hS ?_; rotate_left; (focus (intro w0_ hSw; go_simp; try with_reducible rfl)); try simp only [Act.put, List.setIfInBounds_toArray, List.set_cons_zero, List.set_cons_succ])
            (refine take_p (i := 9) (v := ?_) rfl (by kernel_rfl) (by kernel_rfl) (by kernel_rfl) (fun _ _ _ h => h) (Or.inl ⟨by rfl, ?_⟩) hS ?_; rotate_left; (focus (intro w0_ hSw; go_simp; try with_reducible rfl)); try simp only [Act.put, List.setIfInBounds_toArray, List.set_cons_zero, List.set_cons_succ])
            (refine take_p (i := 10) (v := ?_) rfl (by kernel_rfl) (by kernel_rfl) (by kernel_rfl) (fun _ _ _ h => h) (Or.inl ⟨by rfl, ?_⟩) hS ?_; rotate_left; (focus (intro w0_ hSw; go_simp; try with_reducible rfl)); try simp only [Act.put, List.setIfInBounds_toArray, List.set_cons_zero, List.set_cons_succ])
            (refine take_p (i := 11) (v := ?_) rfl (by kernel_rfl) (by kernel_rfl) (by kernel_rfl) (fun _ _ _ h => h) (Or.inl ⟨by rfl, ?_⟩) hS ?_; rotate_left; (focus (intro w0_ hSw; go_simp; try with_reducible rfl)); try simp only [Act.put, List.setIfInBounds_toArray, List.set_cons_zero, List.set_cons_succ])
            (refine take_p (i := 12) (v := ?_) rfl (by kernel_rfl) (by kernel_rfl) (by kernel_rfl) (fun _ _ _ h => h) (Or.inl ⟨by rfl, ?_⟩) hS ?_; rotate_left; (focus (intro w0_ hSw; go_simp; try with_reducible rfl)); try simp only [Act.put, List.setIfInBounds_toArray, List.set_cons_zero, List.set_cons_succ])
            (refine take_p (i := 13) (v := ?_) rfl (by kernel_rfl) (by kernel_rfl) (by kernel_rfl) (fun _ _ _ h => h) (Or.inl ⟨by rfl, ?_⟩) hS ?_; rotate_left; (focus (intro w0_ hSw; go_simp; try with_reducible rfl)); try simp only [Act.put, List.setIfInBounds_toArray, List.set_cons_zero, List.set_cons_succ])
            refine wpAnyH_done (by kernel_rfl) ?_ _
            have x1 := hS.cell_some (fun h => h) y1
            have x2 := hS.cell_some (fun h => h) y2
            have hbe : (nm.toList == nm.toList) = true := beq_self_eq_true _
            have hz2 := Lib.hid (own_only hbz hS (fun _ _ h => h))
            have hz3 := Lib.hid (own_only haz hS (fun _ _ h => h))
            have hz4 := Lib.hid (own_only hez hS (fun _ _ h => h))
            have hz5 := Lib.hid (own_only hnz hS (fun _ _ h => h))
            have hz6 := hSz.still hS
            clear hS hSz hbz haz hez hnz y0 y1 y2 heZ
            go_wp2_with fail
            go_roundw
            case rel => exact ⟨j + 1, hj1, by go_num, hz6, hz2, hz3, hz4, hz5⟩
            case measure => simp [intOf]; omega
          · go_wp2_with fail
            go_ret
            exact ⟨rfl, hst2⟩
end Go.Proofs.YtfhnfjfjmjopeaaDoor
