/-
  PendPlays: whatever is drawn, freed and copied, by any tape, is the document's; for any table, any seed, any numbers, any acts.
-/
import Derived.Test.YthbapdajmpplhaaPendRef4
import Derived.Test.YthbapdajmpplhaaPendFreeL
namespace Go.Proofs.Ythbapdajmpplhaa
open Go.RowKit
set_option linter.unusedVariables false
set_option linter.unusedSimpArgs false

section
variable {w w' : World} {t x g gr n m k : Nat} {bs : List Nat} {L : List Out} {seed seed' : Int} {xs xs' : List Int}
theorem blk_of_ref (h : Ref w gr seed xs m) : ∃ cs, Blk w gr 55 cs := by
  obtain ⟨A, c, h1, _⟩ := h.src
  exact ⟨_, h1⟩
theorem blk_of_rt (h : RT w x n L) : ∃ cs, Blk w x 80 cs := by
  obtain ⟨A, c, h1, _⟩ := h.tab
  exact ⟨_, h1⟩
theorem blk_of_tape (h : Tape w g seed xs m) : ∃ cs, Blk w g 74 cs := by
  obtain ⟨f, h1, _⟩ := h.src
  exact ⟨_, h1⟩
theorem type_of {T T' : TypeId} {cs cs' : Array Value} {i : Nat} (h : Blk w i T cs) (h' : w.heap[i]? = some (.cells cs' T' (0, 0))) : T' = T := by
  unfold Blk at h
  rw [h] at h'
  cases h'
  rfl
theorem no_map {T : TypeId} {cs : Array Value} {i : Nat} (h : Blk w i T cs) (h' : ∃ es c, w.heap[i]? = some (.map es c)) : False := by
  obtain ⟨es, c, e⟩ := h'
  unfold Blk at h
  rw [h] at e
  cases e
/-- What the table's own functions turn. -/
theorem RT.by_act {L' : List Out} (h : RT w x n L) (hP : PT w t bs L') (hT : Tape w g seed xs m) (o : Only (fun i => i ∈ bs ∨ i = g) w w') : RT w' x n L := by
  obtain ⟨cs, hb⟩ := blk_of_tape hT
  refine h.only o (fun i e cs' T hc => ?_)
  rcases e with e | e
  · exact (no_map (w := w) (i := i) hc (hP.map_blk e)).elim
  · subst e
    rw [type_of hb hc]
    exact ⟨by decide, by decide⟩
theorem Ref.by_act {L' : List Out} (h : Ref w gr seed xs m) (hP : PT w t bs L') (hT : Tape w g seed' xs' k) (o : Only (fun i => i ∈ bs ∨ i = g) w w') : Ref w' gr seed xs m := by
  obtain ⟨cs, hb⟩ := blk_of_tape hT
  obtain ⟨cr, hr⟩ := blk_of_ref h
  refine h.only o (fun e => ?_) (fun i T cs' e hc => ?_)
  · rcases e with e | e
    · exact no_map hr (hP.map_blk e)
    · exact hr.ne_ hb (by decide) e
  · rcases e with e | e
    · exact (no_map (w := w) (i := i) hc (hP.map_blk e)).elim
    · subst e
      rw [type_of hb hc]
      decide
theorem PT.by_ref (h : PT w t bs L) {L' : List Out} (hx : RT w x n L') (hr : Ref w gr seed xs m) (o : Only (fun i => i = x ∨ i = gr) w w') : PT w' t bs L := by
  obtain ⟨c1, h1⟩ := blk_of_rt hx
  obtain ⟨c2, h2⟩ := blk_of_ref hr
  refine h.only o (fun i e hi => ?_) (fun i e cs T hc => ?_)
  · rcases e with rfl | rfl
    · exact no_map h1 (h.map_blk hi)
    · exact no_map h2 (h.map_blk hi)
  · rcases e with rfl | rfl
    · rw [type_of h1 hc]; exact ⟨by decide, by decide⟩
    · rw [type_of h2 hc]; exact ⟨by decide, by decide⟩
theorem Tape.by_refs (h : Tape w g seed xs m) {L' : List Out} (hx : RT w x n L') (hr : Ref w gr seed' xs' k) (o : Only (fun i => i = x ∨ i = gr) w w') : Tape w' g seed xs m := by
  obtain ⟨c1, h1⟩ := blk_of_rt hx
  obtain ⟨c2, h2⟩ := blk_of_ref hr
  obtain ⟨c3, h3⟩ := blk_of_tape h
  refine h.only o (fun e => ?_) (fun i T cs e hc => ?_)
  · rcases e with e | e
    · exact h3.ne_ h1 (by decide) e
    · exact h3.ne_ h2 (by decide) e
  · rcases e with rfl | rfl
    · rw [type_of h1 hc]; exact ⟨by decide, by decide⟩
    · rw [type_of h2 hc]; exact ⟨by decide, by decide⟩
end



/-- The walk. -/
theorem plays_none (w : World) (ups : Int) (hu : ups < 1 ∨ 9 < ups) (seed : Int) (A : Option Addr) (n c : Nat) (A2 : Option Addr) (m c2 : Nat) (hm : m ≤ 200) (hn : n ≤ 300) :
    Calls Try.prog 4 #[.int .i64 ups, .int .u64 seed, .slice A n c, .slice A2 m c2] w fun e w' => e = .returned (.bool true) ∧ Still w w' := by
  have g1 : ¬ (200 : Int) < (m : Int) := by omega
  have g2 : ¬ (300 : Int) < (n : Int) := by omega
  go_enter Try.func4, Try.ntmps4
  go_wp2_with fail
  refine (new_bad w ups hu).mono ?_
  rintro e wz ⟨rfl, rfl⟩
  go_wp2_with fail
  refine (refnew_bad w ups hu).mono ?_
  rintro e wz ⟨rfl, rfl⟩
  go_wp2_with fail
  refine (pend_awake _).mono ?_
  rintro e w0 ⟨rfl, ho0⟩
  go_wp2_with fail
  go_ret
  exact ⟨rfl, ho0⟩

set_option maxRecDepth 1000000 in
set_option maxHeartbeats 12800000 in
theorem plays_in (w : World) (n : Nat) (hn1 : 1 ≤ n) (hn9 : n ≤ 9) (seed : Int) (hs : 0 ≤ seed ∧ seed < 18446744073709551616) (A : Option Addr) (nf c : Nat) (xs : List Int) (hA : A = none → nf = 0 ∧ c = 0)
    (hr : Reads w w.heap.size 1 A nf (xs.map (.int .u64))) (hx : ∀ x ∈ xs, 0 ≤ x ∧ x < 18446744073709551616) (hnf : nf ≤ 300)
    (A2 : Option Addr) (m c2 : Nat) (l : List A3) (hl : l.length = m) (hm : m ≤ 200) (hr2 : Reads w w.heap.size 3 A2 m (a3Cells l)) :
    Calls Try.prog 4 #[.int .i64 n, .int .u64 seed, .slice A nf c, .slice A2 m c2] w fun e w' => e = .returned (.bool true) ∧ Still w w' := by
  have Hx := Lib.hid hx
  have Hl := Lib.hid hl
  clear hx hl
  have g1 : ¬ (200 : Int) < (m : Int) := by omega
  have g2 : ¬ (300 : Int) < (nf : Int) := by omega
  go_enter Try.func4, Try.ntmps4
  go_wp2_with fail
  refine (new_pend w n hn1 hn9).mono ?_
  rintro e w1 ⟨t0, bs0, rfl, hlen, hP1, ht1, hb1, hst1⟩
  go_wp2_with fail
  refine (refnew_any w1 n hn1 hn9).mono ?_
  rintro e w2 ⟨x0, rfl, hx2, hR2, hst2⟩
  have hP2 := hP1.still hst2
  have ho2 := hst1.still hst2
  have hx0 : w.heap.size ≤ x0 := by have := hst1.size; omega
  clear hP1 hst2
  go_wp2_with fail
  refine (new_any seed A nf c xs w2 ((hr.only ho2 (Nat.le_refl _) (fun _ _ h => h)).more ho2.size) hA (by omega) hs.1 hs.2 Hx.out).mono ?_
  rintro e w3 ⟨g, rfl, hg3, hT3, hst3⟩
  have hP3 := hP2.still hst3
  have hR3 := hR2.still hst3
  have ho3 := ho2.still hst3
  have hgw : w.heap.size ≤ g := by have := ho2.size; omega
  clear hP2 hR2 hst3 hg3
  go_wp2_with fail
  refine (ref_new seed A nf c xs w3 ((hr.only ho3 (Nat.le_refl _) (fun _ _ h => h)).more ho3.size) (by omega) hs.1 hs.2 Hx.out).mono ?_
  rintro e w4 ⟨gr, rfl, hg4, hr4, hst4⟩
  have hP4 := hP3.still hst4
  have hR4 := hR3.still hst4
  have hT4 := hT3.still hst4
  have ho4 := Lib.hid (ho3.still hst4)
  have hgrw : w.heap.size ≤ gr := by have := ho3.size; omega
  clear hP3 hR3 hT3 hst4 hg4 ho3 ho2 hst1 hx2 ht1 hr g1 g2
  have Hn0 := Lib.hid hlen
  clear hlen
  go_wp2_with fail
  go_loopw [9, 11, 15, 16, 17, 18, 19, 20, 21] (fun v9 v11 i _ _ _ _ _ _ wr => ∃ (k t : Nat) (bs : List Nat) (x : Nat) (L : List Out) (q : Nat), k ≤ m ∧ i = .int .i64 k ∧ v9 = .pointer (some ⟨t, 0, none⟩) ∧ v11 = .pointer (some ⟨x, 0, none⟩) ∧ Hid (bs.length = n) ∧ PT wr t bs L ∧ RT wr x n L ∧ Tape wr g seed xs q ∧ Ref wr gr seed xs q ∧ L.length ≤ k ∧ q ≤ k ∧ (∀ b ∈ bs, w.heap.size ≤ b) ∧ w.heap.size ≤ x ∧ Hid (Still w wr)) (fun _ _ i _ _ _ _ _ _ _ => m - (intOf i).toNat)
  case atStart => exact ⟨0, t0, bs0, x0, [], 0, Nat.zero_le _, rfl, rfl, rfl, Hn0, hP4, hR4, hT4, hr4, by simp, by omega, hb1, hx0, ho4⟩
  case round =>
    clear hP4 hR4 hT4 hr4 ho4 Hn0 hb1 hx0
    obtain ⟨k, t, bs, x, L, q, hk, rfl, rfl, rfl, Hn, hP, hR, hT, hrf, hLk, hqk, hbge, hxge, hst⟩ := hrel
    by_cases hlt : k < m
    · have hrr := hr2.only hst.out (Nat.le_refl _) (fun _ _ h => h)
      obtain ⟨bl, off, a, b, s, rfl, hbl, hlk, d0, d1, d2⟩ := a3_cells hrr Hl.out hlt
      have hs0 := Still.new wr (.cells #[.int .u8 a, .int .i64 b, .int .i64 s] 52)
      have hP0 := hP.still hs0
      have hR0 := hR.still hs0
      have hT0 := hT.still hs0
      have hr0 := hrf.only hs0 (fun h => h) (fun _ _ _ h => h.elim)
      have hz0 : Hid (Still w _) := Lib.hid (hst.out.still hs0)
      have hB0 := Blk.new wr 52 #[.int .u8 a, .int .i64 b, .int .i64 s]
      have hab : ∀ i ∈ bs, i ≠ wr.heap.size := fun i hi e => by have := hP.b_lt hi; omega
      have hag : g ≠ wr.heap.size := fun e => by have := hT.lt; omega
      have hax : x ≠ wr.heap.size := fun e => by have := hR.lt; omega
      have hagr : gr ≠ wr.heap.size := fun e => by obtain ⟨cs, hb⟩ := blk_of_ref hrf; have := hb.lt; omega
      clear hP hR hT hrf hst hrr hs0 hlk
      by_cases ha0 : a = 0
      · subst ha0
        go_wp2_with fail
        generalize wr.alloc (.cells #[.int .u8 0, .int .i64 b, .int .i64 s] 52) = w0 at *
        generalize wr.heap.size = qa at *
        have y0 := hB0.cell 0
        have y1 := hB0.cell 1
        have y2 := hB0.cell 2
        simp at y0 y1 y2
        by_cases hok : okD n b s
        · have hokb : okD bs.length b s := by rw [Hn.out]; exact hok
          have e1 : okD bs.length b s → True := fun _ => trivial
          obtain ⟨bu, rfl⟩ : ∃ bu : Nat, b = bu := ⟨b.toNat, by have := hok.1; omega⟩
          refine (draw_in hP0 hT0 (by omega) bu s (by have := hokb.2.1; omega) hok.2.2 (by have := lenO_le L bu; omega)).mono ?_
          rintro e w5 ⟨rfl, hP5, hT5, ho5⟩
          obtain ⟨id, hid⟩ : ∃ id, id = nextO L bu (low16 (draw seed xs q)) := ⟨_, rfl⟩
          rw [← hid] at hP5 ⊢
          have Hid1 := Lib.hid hid
          clear hid
          have hR5 := hR0.by_act hP0 hT0 ho5
          have hr5 := hr0.by_act hP0 hT0 ho5
          have hB5 := hB0.only ho5 (fun e => e.elim (fun e => hab _ e rfl) (fun e => hag e.symm))
          have hz5 : Hid (Still w w5) := Lib.hid (hz0.out.trans ho5 (fun i hi e => e.elim (fun e => by have := hbge i e; omega) (fun e => by omega)))
          clear hP0 hT0 hR0 hr0 hB0 hz0 ho5 y0 y1 y2
          have y1 := hB5.cell 1
          have y2 := hB5.cell 2
          simp at y1 y2
          go_wp2_with fail
          refine (rdraw_in hR5 hr5 (by omega) (by omega) (bu : Int) s hok hn9).mono ?_
          rintro e w6 ⟨rfl, hR6, hr6, ho6⟩
          rw [Int.toNat_natCast, ← Hid1.out] at hR6 ⊢
          have hP9 := hP5.by_ref hR5 hr5 ho6
          have hT9 := hT5.by_refs hR5 hr5 ho6
          have hz6 : Hid (Still w w6) := Lib.hid (hz5.out.trans ho6 (fun i hi e => by omega))
          have hL9 : (L ++ [(⟨bu, s, id⟩ : Out)]).length ≤ k + 1 := by simp; exact hLk
          clear hP5 hT5 hR5 hr5 hz5 ho6 hB5 y1 y2 Hid1
          obtain ⟨Ar, cr, hbr, _⟩ := hr6.src
          have z2 := hbr.cell 2
          simp at z2
          have hud : ∀ e, Calls Try.prog 13 #[.pointer (some ⟨g, 0, none⟩)] (w6.drewN e) fun e' w' => e' = .returned (.int .i64 ((q + 1 : Nat) : Int)) ∧ w6.drewN e = w' := fun e => used_any (hT9.still (((Only.refl _ w6).drewN e) : Still w6 (w6.drewN e)))
          go_wp2_with fail
          go_quiet ((go_at_call 13; exact quiet_left (hud _)))
          have hd6 : Still w6 (w6.drewN nq) := ((Only.refl _ w6).drewN nq)
          have hP9' := hP9.still hd6
          have hR9' := hR6.still hd6
          have hT9' := hT9.still hd6
          have hr9' := hr6.only hd6 (fun h => h) (fun _ _ _ h => h.elim)
          have hz9' : Hid (Still w (w6.drewN nq)) := Lib.hid (hz6.out.still hd6)
          clear hP9 hR6 hT9 hr6 hz6 hd6 hud hbr z2
          generalize w6.drewN nq = w9 at *
          go_wp2_with fail
          refine (alike_any hP9' hR9' Hn.out (by omega)).mono ?_
          rintro e wy ⟨rfl, d, rfl⟩
          have hd : Still w9 (w9.drewN d) := ((Only.refl _ w9).drewN d)
          have hfin := Lib.hid (hz9'.out.still hd)
          have hP10 := hP9'.still hd
          have hR10 := hR9'.still hd
          have hT10 := hT9'.still hd
          have hr10 := hr9'.only hd (fun h => h) (fun _ _ _ h => h.elim)
          clear hP9' hR9' hT9' hr9' hz9' hd
          go_wp2_with fail
          go_roundw
          case rel => exact ⟨k + 1, t, bs, x, L ++ [⟨bu, s, id⟩], q + 1, hlt, by go_num, rfl, rfl, Hn, hP10, hR10, hT10, hr10, by omega, by omega, hbge, hxge, hfin⟩
          case measure => simp [intOf]; omega
        · have hokb : ¬ okD bs.length b s := by rw [Hn.out]; exact hok
          refine (draw_out hP0 b s (by unfold okD at hokb; omega)).mono ?_
          rintro e wz ⟨rfl, rfl⟩
          go_wp2_with fail
          refine (rdraw_out hR0 b s hok).mono ?_
          rintro e wz ⟨rfl, rfl⟩
          obtain ⟨Ar, cr, hbr, _⟩ := hr0.src
          have z2 := hbr.cell 2
          simp at z2
          have hud : ∀ e, Calls Try.prog 13 #[.pointer (some ⟨g, 0, none⟩)] (w0.drewN e) fun e' w' => e' = .returned (.int .i64 (q : Nat)) ∧ w0.drewN e = w' := fun e => used_any (hT0.still (((Only.refl _ w0).drewN e) : Still w0 (w0.drewN e)))
          go_wp2_with fail
          go_quiet ((go_at_call 13; exact quiet_left (hud _)))
          have hd6 : Still w0 (w0.drewN nq) := ((Only.refl _ w0).drewN nq)
          have hP9' := hP0.still hd6
          have hR9' := hR0.still hd6
          have hT9' := hT0.still hd6
          have hr9' := hr0.only hd6 (fun h => h) (fun _ _ _ h => h.elim)
          have hz9' : Hid (Still w (w0.drewN nq)) := Lib.hid (hz0.out.still hd6)
          clear hP0 hR0 hT0 hr0 hz0 hd6 hud hbr z2 hB0 y0 y1 y2
          generalize w0.drewN nq = w9 at *
          go_wp2_with fail
          refine (alike_any hP9' hR9' Hn.out (by omega)).mono ?_
          rintro e wy ⟨rfl, d, rfl⟩
          have hd : Still w9 (w9.drewN d) := ((Only.refl _ w9).drewN d)
          have hfin := Lib.hid (hz9'.out.still hd)
          have hP10 := hP9'.still hd
          have hR10 := hR9'.still hd
          have hT10 := hT9'.still hd
          have hr10 := hr9'.only hd (fun h => h) (fun _ _ _ h => h.elim)
          clear hP9' hR9' hT9' hr9' hz9' hd
          go_wp2_with fail
          go_roundw
          case rel => exact ⟨k + 1, t, bs, x, L, q, hlt, by go_num, rfl, rfl, Hn, hP10, hR10, hT10, hr10, by omega, by omega, hbge, hxge, hfin⟩
          case measure => simp [intOf]; omega
      · by_cases ha1 : a = 1
        · subst ha1
          go_wp2_with fail
          generalize wr.alloc (.cells #[.int .u8 1, .int .i64 b, .int .i64 s] 52) = w0 at *
          generalize wr.heap.size = qa at *
          have hs0 : Still w0 w0.drew := (Only.refl _ _).drew
          have hPd := hP0.still hs0
          have hRd := hR0.still hs0
          have hTd := hT0.still hs0
          have hrd := hr0.only hs0 (fun h => h) (fun _ _ _ h => h.elim)
          have hBd := hB0.only hs0 (fun h => h)
          have hzd : Hid (Still w w0.drew) := Lib.hid (hz0.out.still hs0)
          clear hP0 hR0 hT0 hr0 hB0 hz0
          refine wp_region_held_drew (S := fun w' => Only (fun i => i ∈ bs ∨ i = x) w0.drew w') (by kernel_rfl) (Only.refl _ _) (fun hS => ?_)
          generalize w0.drew = wd at *
          clear hs0
          have y1 := hBd.cell 1
          have y2 := hBd.cell 2
          simp at y1 y2
          have hna : ¬ (fun i => i ∈ bs ∨ i = x) qa := fun e => e.elim (fun e => hab _ e rfl) (fun e => hax e.symm)
          (refine take_p (i := 0) (v := ?_) rfl (by kernel_rfl) (by kernel_rfl) (by kernel_rfl) (fun _ _ _ h => h) (Or.inl ⟨by rfl, ?_⟩) hS ?_; rotate_left; (focus (intro w0_ hSw; have z1_ := hSw.cell_some hna y1; have z2_ := hSw.cell_some hna y2; go_simp; try with_reducible rfl)); try simp only [Act.put, List.setIfInBounds_toArray, List.set_cons_zero, List.set_cons_succ])
          (refine take_p (i := 1) (v := ?_) rfl (by kernel_rfl) (by kernel_rfl) (by kernel_rfl) (fun _ _ _ h => h) (Or.inl ⟨by rfl, ?_⟩) hS ?_; rotate_left; (focus (intro w0_ hSw; have z1_ := hSw.cell_some hna y1; have z2_ := hSw.cell_some hna y2; go_simp; try with_reducible rfl)); try simp only [Act.put, List.setIfInBounds_toArray, List.set_cons_zero, List.set_cons_succ])
          (refine take_p (i := 2) (v := ?_) rfl (by kernel_rfl) (by kernel_rfl) (by kernel_rfl) (fun _ _ _ h => h) (Or.inl ⟨by rfl, ?_⟩) hS ?_; rotate_left; (focus (intro w0_ hSw; have z1_ := hSw.cell_some hna y1; have z2_ := hSw.cell_some hna y2; go_simp; try with_reducible rfl)); try simp only [Act.put, List.setIfInBounds_toArray, List.set_cons_zero, List.set_cons_succ])
          (refine take_p (i := 4) (v := ?_) rfl (by kernel_rfl) (by kernel_rfl) (by kernel_rfl) (fun _ _ _ h => h) (Or.inl ⟨by rfl, ?_⟩) hS ?_; rotate_left; (focus (intro w0_ hSw; have z1_ := hSw.cell_some hna y1; have z2_ := hSw.cell_some hna y2; go_simp; try with_reducible rfl)); try simp only [Act.put, List.setIfInBounds_toArray, List.set_cons_zero, List.set_cons_succ])
          (refine take_p (i := 5) (v := ?_) rfl (by kernel_rfl) (by kernel_rfl) (by kernel_rfl) (fun _ _ _ h => h) (Or.inl ⟨by rfl, ?_⟩) hS ?_; rotate_left; (focus (intro w0_ hSw; have z1_ := hSw.cell_some hna y1; have z2_ := hSw.cell_some hna y2; go_simp; try with_reducible rfl)); try simp only [Act.put, List.setIfInBounds_toArray, List.set_cons_zero, List.set_cons_succ])
          (refine take_p (i := 6) (v := ?_) rfl (by kernel_rfl) (by kernel_rfl) (by kernel_rfl) (fun _ _ _ h => h) (Or.inl ⟨by rfl, ?_⟩) hS ?_; rotate_left; (focus (intro w0_ hSw; have z1_ := hSw.cell_some hna y1; have z2_ := hSw.cell_some hna y2; go_simp; try with_reducible rfl)); try simp only [Act.put, List.setIfInBounds_toArray, List.set_cons_zero, List.set_cons_succ])
          refine wpAnyH_ready (rs := [3]) (by kernel_rfl) (by simp) ?_
          refine cons_p rfl (fun K_ hK => ?_) AllReadyH.nil
          go_simp
          refine (free_any hPd s (by omega)).mono ?_
          rintro e w5 ⟨rfl, hP5, ho5⟩
          skip
          obtain ⟨r, hrr⟩ : ∃ r, r = L.length - (freeO s L).length := ⟨_, rfl⟩
          rw [← hrr]
          have Hrr := Lib.hid hrr
          clear hrr
          have hR5 := hRd.only ho5 (fun i e cs T hc => (no_map (w := wd) (i := i) hc (hPd.map_blk e)).elim)
          have hT5 := hTd.maps hPd ho5
          have hr5 : Ref w5 gr seed xs q := by
            obtain ⟨cr, hbr⟩ := blk_of_ref hrd
            exact hrd.only ho5 (fun e => no_map hbr (hPd.map_blk e)) (fun i T cs e hc => (no_map (w := wd) (i := i) hc (hPd.map_blk e)).elim)
          have hz5 : Hid (Still w w5) := Lib.hid (hzd.out.trans ho5 (fun i hi e => by have := hbge i e; omega))
          have hS5 : Only (fun i => i ∈ bs ∨ i = x) wd w5 := hS.trans ho5 (fun i _ e => .inl e)
          refine hK.out _ _ hS5 (fun hHeld => ?_)
          clear hK K_ hHeld
          try simp only [Act.put, List.setIfInBounds_toArray, List.set_cons_zero, List.set_cons_succ]
          replace hS := hS5
          refine wpAnyH_ready (rs := [7]) (by kernel_rfl) (by simp) ?_
          refine cons_p rfl (fun K_ hK => ?_) AllReadyH.nil
          go_simp
          refine (rFree_any hR5 (by omega) s).mono ?_
          rintro e w6 ⟨rfl, hR6, ho6⟩
          rw [← Hrr.out]
          have hP6 : PT w6 t bs (freeO s L) := by
            obtain ⟨cx, hbx⟩ := blk_of_rt hR5
            refine hP5.only ho6 (fun i e hi => ?_) (fun i e cs T hc => ?_)
            · subst e
              exact no_map hbx (hP5.map_blk hi)
            · subst e
              rw [type_of hbx hc]; exact ⟨by decide, by decide⟩
          have hT6 : Tape w6 g seed xs q := by
            obtain ⟨cx, hbx⟩ := blk_of_rt hR5
            obtain ⟨cg, hbg⟩ := blk_of_tape hT5
            refine hT5.only ho6 (fun e => hbg.ne_ hbx (by decide) e) (fun i T cs e hc => ?_)
            subst e
            rw [type_of hbx hc]; exact ⟨by decide, by decide⟩
          have hr6 := hr5.by_rt hR5 ho6
          have hz6 : Hid (Still w w6) := Lib.hid (hz5.out.trans ho6 (fun i hi e => by omega))
          have hS6 : Only (fun i => i ∈ bs ∨ i = x) wd w6 := hS5.trans ho6 (fun i _ e => .inr e)
          refine hK.out _ _ hS6 (fun hHeld => ?_)
          clear hK K_ hHeld
          try simp only [Act.put, List.setIfInBounds_toArray, List.set_cons_zero, List.set_cons_succ]
          replace hS := hS6
          (refine take_p (i := 8) (v := ?_) rfl (by kernel_rfl) (by kernel_rfl) (by kernel_rfl) (fun _ _ _ h => h) (Or.inl ⟨by rfl, ?_⟩) hS ?_; rotate_left; (focus (intro w0_ hSw; go_simp; try with_reducible rfl)); try simp only [Act.put, List.setIfInBounds_toArray, List.set_cons_zero, List.set_cons_succ])
          refine wpAnyH_done (by kernel_rfl) ?_ _
          have hL9 : (freeO s L).length ≤ k + 1 := by have := fO_le s L; omega
          clear hP5 hR5 hT5 hr5 hz5 hPd hRd hTd hrd hBd hzd hS hS5 hS6 ho5 ho6 y1 y2 hna Hrr
          go_wp2_with fail
          refine (alike_any hP6 hR6 Hn.out (by omega)).mono ?_
          rintro e wy ⟨rfl, d, rfl⟩
          have hd : Still w6 (w6.drewN d) := ((Only.refl _ w6).drewN d)
          have hfin := Lib.hid (hz6.out.still hd)
          have hP10 := hP6.still hd
          have hR10 := hR6.still hd
          have hT10 := hT6.still hd
          have hr10 := hr6.only hd (fun h => h) (fun _ _ _ h => h.elim)
          clear hP6 hR6 hT6 hr6 hz6 hd
          go_wp2_with fail
          go_roundw
          case rel => exact ⟨k + 1, t, bs, x, freeO s L, q, hlt, by go_num, rfl, rfl, Hn, hP10, hR10, hT10, hr10, by omega, by omega, hbge, hxge, hfin⟩
          case measure => simp [intOf]; omega
        · by_cases ha2 : a = 2
          · subst ha2
            go_wp2_with fail
            generalize wr.alloc (.cells #[.int .u8 2, .int .i64 b, .int .i64 s] 52) = w0 at *
            generalize wr.heap.size = qa at *
            have hs0 : Still w0 w0.drew := (Only.refl _ _).drew
            have hPd := hP0.still hs0
            have hRd := hR0.still hs0
            have hTd := hT0.still hs0
            have hrd := hr0.only hs0 (fun h => h) (fun _ _ _ h => h.elim)
            have hBd := hB0.only hs0 (fun h => h)
            have hzd : Hid (Still w w0.drew) := Lib.hid (hz0.out.still hs0)
            clear hP0 hR0 hT0 hr0 hB0 hz0
            refine wp_region_held_drew (S := fun w' => Only (fun i => i ∈ bs ∨ i = x) w0.drew w') (by kernel_rfl) (Only.refl _ _) (fun hS => ?_)
            generalize w0.drew = wd at *
            clear hs0
            have y1 := hBd.cell 1
            have y2 := hBd.cell 2
            simp at y1 y2
            have hna : ¬ (fun i => i ∈ bs ∨ i = x) qa := fun e => e.elim (fun e => hab _ e rfl) (fun e => hax e.symm)
            (refine take_p (i := 0) (v := ?_) rfl (by kernel_rfl) (by kernel_rfl) (by kernel_rfl) (fun _ _ _ h => h) (Or.inl ⟨by rfl, ?_⟩) hS ?_; rotate_left; (focus (intro w0_ hSw; have z1_ := hSw.cell_some hna y1; have z2_ := hSw.cell_some hna y2; go_simp; try with_reducible rfl)); try simp only [Act.put, List.setIfInBounds_toArray, List.set_cons_zero, List.set_cons_succ])
            (refine take_p (i := 1) (v := ?_) rfl (by kernel_rfl) (by kernel_rfl) (by kernel_rfl) (fun _ _ _ h => h) (Or.inl ⟨by rfl, ?_⟩) hS ?_; rotate_left; (focus (intro w0_ hSw; have z1_ := hSw.cell_some hna y1; have z2_ := hSw.cell_some hna y2; go_simp; try with_reducible rfl)); try simp only [Act.put, List.setIfInBounds_toArray, List.set_cons_zero, List.set_cons_succ])
            (refine take_p (i := 2) (v := ?_) rfl (by kernel_rfl) (by kernel_rfl) (by kernel_rfl) (fun _ _ _ h => h) (Or.inl ⟨by rfl, ?_⟩) hS ?_; rotate_left; (focus (intro w0_ hSw; have z1_ := hSw.cell_some hna y1; have z2_ := hSw.cell_some hna y2; go_simp; try with_reducible rfl)); try simp only [Act.put, List.setIfInBounds_toArray, List.set_cons_zero, List.set_cons_succ])
            (refine take_p (i := 3) (v := ?_) rfl (by kernel_rfl) (by kernel_rfl) (by kernel_rfl) (fun _ _ _ h => h) (Or.inl ⟨by rfl, ?_⟩) hS ?_; rotate_left; (focus (intro w0_ hSw; have z1_ := hSw.cell_some hna y1; have z2_ := hSw.cell_some hna y2; go_simp; try with_reducible rfl)); try simp only [Act.put, List.setIfInBounds_toArray, List.set_cons_zero, List.set_cons_succ])
            (refine take_p (i := 4) (v := ?_) rfl (by kernel_rfl) (by kernel_rfl) (by kernel_rfl) (fun _ _ _ h => h) (Or.inl ⟨by rfl, ?_⟩) hS ?_; rotate_left; (focus (intro w0_ hSw; have z1_ := hSw.cell_some hna y1; have z2_ := hSw.cell_some hna y2; go_simp; try with_reducible rfl)); try simp only [Act.put, List.setIfInBounds_toArray, List.set_cons_zero, List.set_cons_succ])
            (refine take_p (i := 6) (v := ?_) rfl (by kernel_rfl) (by kernel_rfl) (by kernel_rfl) (fun _ _ _ h => h) (Or.inl ⟨by rfl, ?_⟩) hS ?_; rotate_left; (focus (intro w0_ hSw; have z1_ := hSw.cell_some hna y1; have z2_ := hSw.cell_some hna y2; go_simp; try with_reducible rfl)); try simp only [Act.put, List.setIfInBounds_toArray, List.set_cons_zero, List.set_cons_succ])
            (refine take_p (i := 7) (v := ?_) rfl (by kernel_rfl) (by kernel_rfl) (by kernel_rfl) (fun _ _ _ h => h) (Or.inl ⟨by rfl, ?_⟩) hS ?_; rotate_left; (focus (intro w0_ hSw; have z1_ := hSw.cell_some hna y1; have z2_ := hSw.cell_some hna y2; go_simp; try with_reducible rfl)); try simp only [Act.put, List.setIfInBounds_toArray, List.set_cons_zero, List.set_cons_succ])
            (refine take_p (i := 8) (v := ?_) rfl (by kernel_rfl) (by kernel_rfl) (by kernel_rfl) (fun _ _ _ h => h) (Or.inl ⟨by rfl, ?_⟩) hS ?_; rotate_left; (focus (intro w0_ hSw; have z1_ := hSw.cell_some hna y1; have z2_ := hSw.cell_some hna y2; go_simp; try with_reducible rfl)); try simp only [Act.put, List.setIfInBounds_toArray, List.set_cons_zero, List.set_cons_succ])
            (refine take_p (i := 9) (v := ?_) rfl (by kernel_rfl) (by kernel_rfl) (by kernel_rfl) (fun _ _ _ h => h) (Or.inl ⟨by rfl, ?_⟩) hS ?_; rotate_left; (focus (intro w0_ hSw; have z1_ := hSw.cell_some hna y1; have z2_ := hSw.cell_some hna y2; go_simp; try with_reducible rfl)); try simp only [Act.put, List.setIfInBounds_toArray, List.set_cons_zero, List.set_cons_succ])
            (refine take_p (i := 10) (v := ?_) rfl (by kernel_rfl) (by kernel_rfl) (by kernel_rfl) (fun _ _ _ h => h) (Or.inl ⟨by rfl, ?_⟩) hS ?_; rotate_left; (focus (intro w0_ hSw; have z1_ := hSw.cell_some hna y1; have z2_ := hSw.cell_some hna y2; go_simp; try with_reducible rfl)); try simp only [Act.put, List.setIfInBounds_toArray, List.set_cons_zero, List.set_cons_succ])
            refine wpAnyH_ready (rs := [5]) (by kernel_rfl) (by simp) ?_
            refine cons_p rfl (fun K_ hK => ?_) AllReadyH.nil
            go_simp
            refine (freeAt_any hPd s b).mono ?_
            rintro e w5 ⟨rfl, hP5, ho5⟩
            rw [Hn.out] at hP5 ⊢
            obtain ⟨r, hrr⟩ : ∃ r, r = L.length - (freeAtI n s b L).length := ⟨_, rfl⟩
            rw [← hrr]
            have Hrr := Lib.hid hrr
            clear hrr
            have hR5 := hRd.only ho5 (fun i e cs T hc => (no_map (w := wd) (i := i) hc (hPd.map_blk e)).elim)
            have hT5 := hTd.maps hPd ho5
            have hr5 : Ref w5 gr seed xs q := by
              obtain ⟨cr, hbr⟩ := blk_of_ref hrd
              exact hrd.only ho5 (fun e => no_map hbr (hPd.map_blk e)) (fun i T cs e hc => (no_map (w := wd) (i := i) hc (hPd.map_blk e)).elim)
            have hz5 : Hid (Still w w5) := Lib.hid (hzd.out.trans ho5 (fun i hi e => by have := hbge i e; omega))
            have hS5 : Only (fun i => i ∈ bs ∨ i = x) wd w5 := hS.trans ho5 (fun i _ e => .inl e)
            refine hK.out _ _ hS5 (fun hHeld => ?_)
            clear hK K_ hHeld
            try simp only [Act.put, List.setIfInBounds_toArray, List.set_cons_zero, List.set_cons_succ]
            replace hS := hS5
            refine wpAnyH_ready (rs := [11]) (by kernel_rfl) (by simp) ?_
            refine cons_p rfl (fun K_ hK => ?_) AllReadyH.nil
            go_simp
            refine (rFreeAt_any hR5 (by omega) s b).mono ?_
            rintro e w6 ⟨rfl, hR6, ho6⟩
            rw [← Hrr.out]
            have hP6 : PT w6 t bs (freeAtI n s b L) := by
              obtain ⟨cx, hbx⟩ := blk_of_rt hR5
              refine hP5.only ho6 (fun i e hi => ?_) (fun i e cs T hc => ?_)
              · subst e
                exact no_map hbx (hP5.map_blk hi)
              · subst e
                rw [type_of hbx hc]; exact ⟨by decide, by decide⟩
            have hT6 : Tape w6 g seed xs q := by
              obtain ⟨cx, hbx⟩ := blk_of_rt hR5
              obtain ⟨cg, hbg⟩ := blk_of_tape hT5
              refine hT5.only ho6 (fun e => hbg.ne_ hbx (by decide) e) (fun i T cs e hc => ?_)
              subst e
              rw [type_of hbx hc]; exact ⟨by decide, by decide⟩
            have hr6 := hr5.by_rt hR5 ho6
            have hz6 : Hid (Still w w6) := Lib.hid (hz5.out.trans ho6 (fun i hi e => by omega))
            have hS6 : Only (fun i => i ∈ bs ∨ i = x) wd w6 := hS5.trans ho6 (fun i _ e => .inr e)
            refine hK.out _ _ hS6 (fun hHeld => ?_)
            clear hK K_ hHeld
            try simp only [Act.put, List.setIfInBounds_toArray, List.set_cons_zero, List.set_cons_succ]
            replace hS := hS6
            (refine take_p (i := 12) (v := ?_) rfl (by kernel_rfl) (by kernel_rfl) (by kernel_rfl) (fun _ _ _ h => h) (Or.inl ⟨by rfl, ?_⟩) hS ?_; rotate_left; (focus (intro w0_ hSw; go_simp; try with_reducible rfl)); try simp only [Act.put, List.setIfInBounds_toArray, List.set_cons_zero, List.set_cons_succ])
            refine wpAnyH_done (by kernel_rfl) ?_ _
            have hL9 : (freeAtI n s b L).length ≤ k + 1 := by have := freeAtI_len n s b L; omega
            clear hP5 hR5 hT5 hr5 hz5 hPd hRd hTd hrd hBd hzd hS hS5 hS6 ho5 ho6 y1 y2 hna Hrr
            go_wp2_with fail
            refine (alike_any hP6 hR6 Hn.out (by omega)).mono ?_
            rintro e wy ⟨rfl, d, rfl⟩
            have hd : Still w6 (w6.drewN d) := ((Only.refl _ w6).drewN d)
            have hfin := Lib.hid (hz6.out.still hd)
            have hP10 := hP6.still hd
            have hR10 := hR6.still hd
            have hT10 := hT6.still hd
            have hr10 := hr6.only hd (fun h => h) (fun _ _ _ h => h.elim)
            clear hP6 hR6 hT6 hr6 hz6 hd
            go_wp2_with fail
            go_roundw
            case rel => exact ⟨k + 1, t, bs, x, freeAtI n s b L, q, hlt, by go_num, rfl, rfl, Hn, hP10, hR10, hT10, hr10, by omega, by omega, hbge, hxge, hfin⟩
            case measure => simp [intOf]; omega
          · have n0 : (a == 0) = false := by rw [beq_eq_false_iff_ne]; exact ha0
            have n1 : (a == 1) = false := by rw [beq_eq_false_iff_ne]; exact ha1
            have n2 : (a == 2) = false := by rw [beq_eq_false_iff_ne]; exact ha2
            go_wp2_with fail
            generalize wr.alloc (.cells #[.int .u8 a, .int .i64 b, .int .i64 s] 52) = w0 at *
            generalize wr.heap.size = qa at *
            refine (copy_pend hP0).mono ?_
            rintro e w5 ⟨t2, bs2, rfl, hlen2, hQ5, ht2, hb2, hst5⟩
            have hP5 := hP0.still hst5
            have hR5 := hR0.still hst5
            have hT5 := hT0.still hst5
            have hr5 := hr0.only hst5 (fun h => h) (fun _ _ _ h => h.elim)
            have hB5 := hB0.only hst5 (fun h => h)
            have hz5 : Hid (Still w w5) := Lib.hid (hz0.out.still hst5)
            have hd12 : ∀ i ∈ bs, i ∉ bs2 := fun i hi hi' => by have := hb2 i hi'; have := hP0.b_lt hi; omega
            have hge2 : ∀ i ∈ bs2, w.heap.size ≤ i := fun i hi => by have := hb2 i hi; have := hz0.out.size; omega
            have Hn2 : Hid (bs2.length = n) := Lib.hid (hlen2.trans Hn.out)
            clear hP0 hR0 hT0 hr0 hB0 hz0 hst5 hb2 ht2 hlen2
            go_wp2_with fail
            refine (new_any 1 none 0 0 [] w5 Reads.none_ (fun _ => ⟨rfl, rfl⟩) (by omega) (by omega) (by omega) (by simp)).mono ?_
            rintro e w6 ⟨g2, rfl, hg2, hU6, hst6⟩
            have hQ6 := hQ5.still hst6
            have hP6 := hP5.still hst6
            have hR6 := hR5.still hst6
            have hT6 := hT5.still hst6
            have hr6 := hr5.only hst6 (fun h => h) (fun _ _ _ h => h.elim)
            have hB6 := hB5.only hst6 (fun h => h)
            have hz6 : Hid (Still w w6) := Lib.hid (hz5.out.still hst6)
            have hgg : g ≠ g2 := fun e => by have := hT5.lt; omega
            have hqg : qa ≠ g2 := fun e => by have := hB5.lt; omega
            have hg2w : w.heap.size ≤ g2 := by have := hz5.out.size; omega
            clear hQ5 hP5 hR5 hT5 hr5 hB5 hz5 hst6 hg2
            go_wp2_with fail
            refine (draw_in hP6 hU6 (by omega) 0 1 (by have := Hn.out; omega) (by omega) (by have := lenO_le L 0; omega)).mono ?_
            rintro e w7 ⟨rfl, hP7, _, ho7⟩
            have hQ7 := hQ6.act hP6 hU6 ho7 hd12
            have hR7 := hR6.by_act hP6 hU6 ho7
            have hr7 := hr6.by_act hP6 hU6 ho7
            have hT7 : Tape w7 g seed xs q := by
              obtain ⟨cu, hbu⟩ := blk_of_tape hU6
              obtain ⟨cg, hbg⟩ := blk_of_tape hT6
              refine hT6.only ho7 (fun e => e.elim (fun e => no_map hbg (hP6.map_blk e)) hgg) (fun i T cs e hc => ?_)
              rcases e with e | e
              · exact (no_map (w := w6) (i := i) hc (hP6.map_blk e)).elim
              · subst e
                rw [type_of hbu hc]; exact ⟨by decide, by decide⟩
            have hB7 := hB6.only ho7 (fun e => e.elim (fun e => hab _ e rfl) hqg)
            have hz7 : Hid (Still w w7) := Lib.hid (hz6.out.trans ho7 (fun i hi e => e.elim (fun e => by have := hbge i e; omega) (fun e => by omega)))
            have hl7 : (L ++ [(⟨0, 1, nextO L 0 (low16 (draw 1 [] 0))⟩ : Out)]).length ≤ 10000 := by simp; omega
            clear hQ6 hP6 hR6 hT6 hr6 hB6 hz6 hU6 ho7
            have y2 := hB7.cell 2
            simp at y2
            go_wp2_with fail
            refine (free_any hP7 s (by omega)).mono ?_
            rintro e w8 ⟨rfl, _, ho8⟩
            have hQ8 := hQ7.other hP7 ho8 hd12
            have hR8 := hR7.only ho8 (fun i e cs T hc => (no_map (w := w7) (i := i) hc (hP7.map_blk e)).elim)
            have hT8 := hT7.maps hP7 ho8
            have hr8 : Ref w8 gr seed xs q := by
              obtain ⟨cr, hbr⟩ := blk_of_ref hr7
              exact hr7.only ho8 (fun e => no_map hbr (hP7.map_blk e)) (fun i T cs e hc => (no_map (w := w7) (i := i) hc (hP7.map_blk e)).elim)
            have hz8 : Hid (Still w w8) := Lib.hid (hz7.out.trans ho8 (fun i hi e => by have := hbge i e; omega))
            clear hQ7 hP7 hR7 hT7 hr7 hB7 hz7 ho8 y2 hl7
            go_wp2_with fail
            refine (rcopy_any hR8 (by omega)).mono ?_
            rintro e w9 ⟨x2, rfl, hx2, hR9, hst9⟩
            have hQ9 := hQ8.still hst9
            have hT9 := hT8.still hst9
            have hr9 := hr8.only hst9 (fun h => h) (fun _ _ _ h => h.elim)
            have hz9 : Hid (Still w w9) := Lib.hid (hz8.out.still hst9)
            have hx2w : w.heap.size ≤ x2 := by have := hz8.out.size; omega
            clear hQ8 hR8 hT8 hr8 hz8 hst9 hx2
            go_wp2_with fail
            refine (alike_any hQ9 hR9 Hn2.out (by omega)).mono ?_
            rintro e wy ⟨rfl, d, rfl⟩
            have hd : Still w9 (w9.drewN d) := ((Only.refl _ w9).drewN d)
            have hfin := Lib.hid (hz9.out.still hd)
            have hP10 := hQ9.still hd
            have hR10 := hR9.still hd
            have hT10 := hT9.still hd
            have hr10 := hr9.only hd (fun h => h) (fun _ _ _ h => h.elim)
            clear hQ9 hR9 hT9 hr9 hz9 hd
            go_wp2_with fail
            go_roundw
            case rel => exact ⟨k + 1, t2, bs2, x2, L, q, hlt, by go_num, rfl, rfl, Hn2, hP10, hR10, hT10, hr10, by omega, by omega, hge2, hx2w, hfin⟩
            case measure => simp [intOf]; omega
    · obtain rfl : k = m := by omega
      have hst' := hst.out
      clear hP hR hT hrf hst
      go_wp2_with fail
      refine (pend_awake _).mono ?_
      rintro e wz ⟨rfl, hoz⟩
      go_wp2_with fail
      go_ret
      exact ⟨rfl, hst'.still hoz⟩
theorem plays_all (W : World) (a0 : Int) (w0 : (Lit.int .i64 a0).wf = true) (a1 : Int) (w1 : (Lit.int .u64 a1).wf = true) (A : Option Addr) (n c : Nat) (xs : List Int) (hnc : n ≤ c) (hcm : c ≤ maxLen) (hA : A = none → n = 0 ∧ c = 0)
    (hr : Reads W W.heap.size 1 A n (xs.map (.int .u64))) (hx : ∀ z ∈ xs, (Lit.int .u64 z).wf = true)
    (A2 : Option Addr) (m c2 : Nat) (l : List A3) (hnc2 : m ≤ c2) (hcm2 : c2 ≤ maxLen) (hl : l.length = m) (hr2 : Reads W W.heap.size 3 A2 m (a3Cells l)) (hw2 : ∀ p ∈ l, A3ok p) :
    Calls Try.prog 4 #[.int .i64 a0, .int .u64 a1, .slice A n c, .slice A2 m c2] W fun e w' => e = .returned (.bool true) ∧ Still W w' := by
  by_cases hbig : m ≤ 200 ∧ n ≤ 300
  · by_cases hu : 1 ≤ a0 ∧ a0 ≤ 9
    · obtain ⟨u, rfl⟩ : ∃ u : Nat, a0 = u := ⟨a0.toNat, by omega⟩
      exact plays_in W u (by omega) (by omega) a1 (wf_u64 w1) A n c xs hA hr (fun z hz => wf_u64 (hx z hz)) hbig.2 A2 m c2 l hl hbig.1 hr2
    · exact plays_none W a0 (by omega) a1 A n c A2 m c2 hbig.1 hbig.2
  · go_enter Try.func4, Try.ntmps4
    by_cases g1 : (200 : Int) < (m : Int)
    · go_wp2_with (go_at_call 9; refine (pend_awake _).mono ?_; rintro e w0 ⟨rfl, ho0⟩)
      go_ret
      exact ⟨rfl, ho0⟩
    · have g3 : (300 : Int) < (n : Int) := by omega
      go_wp2_with (go_at_call 9; refine (pend_awake _).mono ?_; rintro e w0 ⟨rfl, ho0⟩)
      go_ret
      exact ⟨rfl, ho0⟩
end Go.Proofs.Ythbapdajmpplhaa
