/-
  The reference's book: Back, New; what may not be is refused by both.
-/
import Derived.Test.YtdcogjlcbdkdcaaDoorRefMore
namespace Go.Proofs.YtdcogjlcbdkdcaaDoor
open Go.RowKit
set_option linter.unusedVariables false
set_option linter.unusedSimpArgs false

section
variable {w w' : World} {x b n c : Nat} {lim rst : Int} {us : List Up}
set_option maxRecDepth 1000000 in
set_option maxHeartbeats 6400000 in
theorem rback_any (h : RBk w x b n c lim rst us) (ho : BOK n lim rst) (now : Int) :
    Calls Tryd.prog 36 #[.pointer (some ⟨x, 0, none⟩), .int .i64 now] w fun e w' => ∃ A cc, e = .returned (.slice A (backs now us n).length cc) ∧ RBk w' x b n c lim rst (us.map (backOne lim now)) ∧ Only (· = b) w w' := by
  have l1 := ho.l1
  have l2 := ho.l2
  have n9 := ho.n9
  have hbl := h.blt
  have hgl := h.lt
  obtain ⟨i0, hi, hz0, hz1, hz2⟩ := info_parts info_int
  go_enter Tryd.func36, Tryd.ntmps36
  go_wp2_with fail
  go_loopw [5, 6] (fun v i wr => ∃ k : Nat, k ≤ n ∧ i = .int .i64 k ∧ wr.ownsRow w.heap.size 3 1 v (backs now us k).length ((backs now us k).map (.int .i64)) ∧ RBk wr x b n c lim rst (backK lim now us k) ∧ Hid (Only (· = b) w wr)) (fun _ i _ => n - (intOf i).toNat)
  case atStart => exact ⟨0, by omega, rfl, World.ownsRow_nil _ _ _ _, by rw [backK_zero]; exact h, Lib.hid (Only.refl _ _)⟩
  case round =>
    obtain ⟨k, hk, rfl, hown, hbr, hst⟩ := hrel
    obtain ⟨c0, c1, c2⟩ := hbr.head
    obtain ⟨A, cc, rfl⟩ := own_shape hown
    have hle := backs_le now us k
    have hsz := hst.out.size
    by_cases hlt : k < n
    · obtain ⟨u, hu⟩ := h.get hlt
      have hur := backK_at hu lim now
      obtain ⟨k0, k1, k2, k3, k4, k5, k6⟩ := hbr.seven hur
      rcases hr : isBack now u with _ | _
      · have hsn := backs_out hu hr
        have hbs := backK_succ hu lim now
        have hone : backOne lim now u = u := by unfold backOne; simp [hr]
        rw [hone, set_same hur] at hbs
        have Hsn := Lib.hid hsn
        have Hbs := Lib.hid hbs
        clear hsn hbs hone
        rcases hrr : u.rests with _ | _
        · rw [hrr] at k4
          clear hr hrr hu hur
          go_wp2_with fail
          go_roundw
          case rel => exact ⟨k + 1, by omega, by go_num, by rw [Hsn.out]; exact hown, by rw [Hbs.out]; exact hbr, hst⟩
          case measure => simp [intOf]; omega
        · have hq : decide (u.til ≤ now) = false := by unfold isBack at hr; simpa [hrr] using hr
          have hq2 : ¬ u.til ≤ now := of_decide_eq_false hq
          rw [hrr] at k4
          clear hr hrr hu hur
          go_wp2_with fail
          go_roundw
          case rel => exact ⟨k + 1, by omega, by go_num, by rw [Hsn.out]; exact hown, by rw [Hbs.out]; exact hbr, hst⟩
          case measure => simp [intOf]; omega
      · have hsn := backs_in hu hr
        have hbs := backK_succ hu lim now
        have hone : backOne lim now u = backUp lim u := by unfold backOne; simp [hr]
        rw [hone] at hbs
        have hrr : u.rests = true := by unfold isBack at hr; simp at hr; exact hr.1
        have hq : decide (u.til ≤ now) = true := by unfold isBack at hr; simp at hr; exact decide_eq_true hr.2
        have hq2 : u.til ≤ now := of_decide_eq_true hq
        rw [hrr] at k4
        have f4 := hbr.own.frozenAt (k * 7 + 4)
        have f6 := hbr.own.frozenAt (k * 7 + 6)
        have e1 := hbr.set_ (u' := { u with rests := false }) (v := .bool false) hur 4 (by omega) rfl
        have e2 := e1.set_ (u' := { u with rests := false, til := 0 }) (v := .int .i64 0) (get_set hur _) 6 (by omega) rfl
        simp only [set_set] at e2
        have ex := ((Only.refl (· = b) wr).setCell (p := ⟨b, k * 7 + 4, none⟩) (.inl rfl) (.bool false)).setCell (p := ⟨b, k * 7 + 6, none⟩) (.inl rfl) (.int .i64 0)
        have hg2 := get_set hur ({ u with rests := false, til := 0 } : Up)
        have Hsn := Lib.hid hsn
        have Hbs := Lib.hid hbs
        have Hur := Lib.hid hur
        clear hsn hbs hone e1 hr hrr hur
        go_wp2_with fail
        generalize (wr.setCell ⟨b, k * 7 + 4, none⟩ (.bool false)).setCell ⟨b, k * 7 + 6, none⟩ (.int .i64 0) = w2 at *
        clear k0 k1 k2 k3 k4 k5 k6 c0 c1 c2 f4 f6
        obtain ⟨c0, c1, c2⟩ := e2.head
        obtain ⟨k0, k1, k2, k3, k4, k5, k6⟩ := e2.seven hg2
        have f0 := e2.own.frozenAt (k * 7)
        have f5 := e2.own.frozenAt (k * 7 + 5)
        have hne := e2.ne
        have e3 := (e2.set_ (i := k) (u := { u with rests := false, til := 0 }) (u' := { u with rests := false, til := 0, score := lim }) (v := .int .i64 lim) hg2 0 (by omega) rfl)
        rw [set_set] at e3
        have hg3 := get_set Hur.out ({ u with rests := false, til := 0, score := lim } : Up)
        have e4 := RBk.drew <| e3.set_ (i := k) (u := { u with rests := false, til := 0, score := lim }) (u' := { u with rests := false, til := 0, score := lim, trial := true }) (v := .bool true) hg3 5 (by omega) rfl
        rw [set_set] at e4
        have ey := ((ex.setCell (p := ⟨b, k * 7, none⟩) (.inl rfl) (.int .i64 lim)).setCell (p := ⟨b, k * 7 + 5, none⟩) (.inl rfl) (.bool true)).drew
        have hg4 := get_set Hur.out ({ u with rests := false, til := 0, score := lim, trial := true } : Up)
        clear e3 hg3 hg2 e2 ex
        go_still_tail 11, (by kernel_rfl)
        change wpList _ _ _ _ _ w2.drew
        go_wp2_with fail
        rw [Nat.add_zero] at e4 ey
        generalize ((w2.setCell ⟨b, k * 7, none⟩ (.int .i64 lim)).setCell ⟨b, k * 7 + 5, none⟩ (.bool true)).drew = w4 at *
        clear k0 k1 k2 k3 k4 k5 k6 c0 c1 c2 f0 f5
        refine (look_any e4 ho k hg4).mono ?_
        rintro e w5 ⟨rfl, hb5, ho5⟩
        rw [set_set] at hb5
        have hbn : (backK lim now us k).set k (endTrial lim { u with rests := false, til := 0, score := lim, trial := true }) = backK lim now us (k + 1) := Hbs.out.symm
        rw [hbn] at hb5
        clear hbn e4 hg4
        have e6 := ey.trans ho5 (fun _ _ h => h)
        have hown5 := own_only hown e6 (fun q hq => by
          have := hown.lt q hq
          intro e
          have e' : q = b := e
          omega)
        have e7 := hst.out.trans e6 (fun _ _ h => h)
        clear ho5 ey hst hown hbr
        have hp1 := hown5.alloc (.cells #[.int .i64 k] 3)
        have hrd := reads_made w5 3 .i64 [(k : Int)] 1 rfl
        have hsz5 := e7.size
        go_wp2_with (at_builtin; refine wpList_append_any _ rfl (.tmp 71) (.tmp 73) 37 rfl w.heap.size 3 i0 (.int .i64 0) 1 8 Tryd.underlying37 hi hz0 hz1 hz2 rfl (by decide) _ _ _ rfl hp1 _ (some _) 1 1 _ rfl hrd ?c1 ?c2 ?c3 ?c4 ?_)
        case c1 => intro v hv; simp at hv; subst hv; rfl
        case c2 => unfold maxLen; omega
        case c3 => omega
        case c4 => simp; omega
        intro v' w' hown' hgrow hblk
        have hst' := (e7.alloc (.cells #[.int .i64 k] 3)).grown hgrow (fun k hk => .inr (hown5.lt k hk).1)
        have hq : Only (fun q => w.heap.size ≤ q) (w5.alloc (.cells #[.int .i64 k] 3)) w' := (Only.refl _ _).grown hgrow (fun k hk => .inl (hown5.lt k hk).1)
        have hbk' := (hb5.still (Still.new w5 (.cells #[.int .i64 k] 3))).only hq (by omega) (by omega)
        obtain ⟨A', c', hv⟩ := own_shape hown'
        subst hv
        go_wp2_with fail
        go_roundw
        case rel =>
          refine ⟨k + 1, by omega, by go_num, ?_, hbk', Lib.hid hst'⟩
          rw [Hsn.out, List.length_append, List.map_append]
          exact hown'
        case measure => simp [intOf]; omega
    · obtain rfl : k = n := by omega
      have hm : backK lim now us k = us.map (backOne lim now) := by rw [← h.len, backK_all]
      rw [hm] at hbr
      have hM : ∃ M, M = backs now us k := ⟨_, rfl⟩
      obtain ⟨M, hM⟩ := hM
      rw [← hM] at hown
      rw [← hM]
      have HM := Lib.hid hM
      clear hM hm
      go_wp2_with fail
      go_ret
      rw [← HM.out]
      exact ⟨A, cc, rfl, hbr, hst.out⟩
theorem rone : (Tryd.prog.info? 90).map (fun i => (i.zero, i.size, i.bytes)) = some (some (.agg #[.int .i64 0, .int .i64 0, .int .i64 0, .int .i64 0, .bool false, .bool false, .int .i64 0]), 7, 48) := by kernel_rfl
theorem rC_one (u : Up) : ∀ v ∈ rC u, v.oneCell' = true := by
  intro v hv
  simp only [rC, List.mem_cons, List.not_mem_nil, or_false] at hv
  rcases hv with rfl | rfl | rfl | rfl | rfl | rfl | rfl <;> rfl
theorem rep_snoc (k : Nat) : rRow (List.replicate (k + 1) up1) = rRow (List.replicate k up1) ++ rC up1 := by
  rw [List.replicate_succ', rRow_snoc]
set_option maxRecDepth 1000000 in
set_option maxHeartbeats 6400000 in
theorem rnew_in (w : World) {n : Nat} {lim rst : Int} (ho : BOK n lim rst) (hodd : n % 2 = 1) :
    Calls Tryd.prog 30 #[.int .i64 n, .int .i64 lim, .int .i64 rst] w fun e w' => ∃ x b c, e = .returned (.tuple #[.pointer (some ⟨x, 0, none⟩), .int .i64 0]) ∧ w.heap.size ≤ x ∧ w.heap.size ≤ b ∧ RBk w' x b n c lim rst (List.replicate n up1) ∧ Still w w' := by
  have n1 := ho.n1
  have n9 := ho.n9
  have l1 := ho.l1
  have l2 := ho.l2
  have r1 := ho.r1
  have r2 := ho.r2
  have d1 : decide ((n : Int) < 1) = false := decide_eq_false (by omega)
  have d2 : decide (9 < (n : Int)) = false := decide_eq_false (by omega)
  have d3 : decide (lim < 1) = false := decide_eq_false (by omega)
  have d4 : decide (100 < lim) = false := decide_eq_false (by omega)
  have d5 : decide (rst < 1) = false := decide_eq_false (by omega)
  have d6 : decide (100000 < rst) = false := decide_eq_false (by omega)
  have d7 : (n : Int).tmod 2 = 1 := by rw [Int.tmod_eq_emod_of_nonneg (by omega)]; omega
  obtain ⟨i0, hi, hz0, hz1, hz2⟩ := info_parts rone
  have hB := Blk.new w 88 #[.int .i64 lim, .int .i64 rst, .slice none 0 0]
  have hs := Still.new w (.cells #[.int .i64 lim, .int .i64 rst, .slice none 0 0] 88)
  have hsz0 : (w.alloc (.cells #[.int .i64 lim, .int .i64 rst, .slice none 0 0] 88)).heap.size = w.heap.size + 1 := by simp
  go_enter Tryd.func30, Tryd.ntmps30
  go_wp2_with fail
  obtain ⟨w1, hw1⟩ : ∃ w1, w1 = w.alloc (.cells #[.int .i64 lim, .int .i64 rst, .slice none 0 0] 88) := ⟨_, rfl⟩
  rw [← hw1] at hB hs hsz0 ⊢
  obtain ⟨X, hX⟩ : ∃ X, X = w.heap.size := ⟨_, rfl⟩
  rw [← hX] at hB hsz0 ⊢
  have HX := Lib.hid hX
  clear hw1 hX d1 d2 d3 d4 d5 d6 d7
  go_loopw [9] (fun i wr => ∃ (k : Nat) (A : Option Addr) (cc : Nat), k ≤ n ∧ i = .int .i64 k ∧ Blk wr X 88 #[.int .i64 lim, .int .i64 rst, .slice A k cc] ∧ wr.ownsRow (X + 1) 90 7 (.slice A k cc) k (rRow (List.replicate k up1)) ∧ Hid (Still w wr)) (fun i _ => n - (intOf i).toNat)
  case atStart => exact ⟨0, none, 0, by omega, rfl, hB, World.ownsRow_nil _ _ _ _, Lib.hid hs⟩
  case round =>
    obtain ⟨k, A, cc, hk, rfl, hb, hown, hst⟩ := hrel
    clear hB hs
    have c2 := hb.cell 2
    simp at c2
    have hsz := hst.out.size
    have hXs := hb.lt
    by_cases hlt : k < n
    · have hlt' : (k : Int) < (n : Int) := by omega
      have hsn := rep_snoc k
      have Hsn := Lib.hid hsn
      clear hsn
      have hp1 := hown.alloc (.cells #[.int .i64 100, .int .i64 0, .int .i64 0, .int .i64 0, .bool false, .bool false, .int .i64 0] 90)
      have hrd := Reads.of_own (World.ownsRow_lit (e := 90) (size := 7) (base := 0) wr #[.int .i64 100, .int .i64 0, .int .i64 0, .int .i64 0, .bool false, .bool false, .int .i64 0] 1 (Nat.zero_le _) (by unfold maxLen; omega) rfl)
      have hb1 := hb.alloc (.cells #[.int .i64 100, .int .i64 0, .int .i64 0, .int .i64 0, .bool false, .bool false, .int .i64 0] 90)
      have hst6 := hst.out.alloc (.cells #[.int .i64 100, .int .i64 0, .int .i64 0, .int .i64 0, .bool false, .bool false, .int .i64 0] 90)
      go_wp2_with (at_builtin; refine wpList_append_any _ rfl (.tmp 50) (.tmp 52) 86 rfl (X + 1) 90 i0 (.agg #[.int .i64 0, .int .i64 0, .int .i64 0, .int .i64 0, .bool false, .bool false, .int .i64 0]) 7 48 Tryd.underlying86 hi hz0 hz1 hz2 rfl (by decide) _ _ _ rfl hp1 _ (some _) 1 1 _ rfl hrd ?c1 ?c2 ?c3 ?c4 ?_)
      case c1 => exact ⟨rfl, rfl, rfl, rfl⟩
      case c2 => unfold maxLen; omega
      case c3 => omega
      case c4 => omega
      intro v' wg hown' hgrow hblk
      obtain ⟨A', c', hv⟩ := own_shape hown'
      subst hv
      have hog : Only (fun q => X + 1 ≤ q) (wr.alloc (.cells #[.int .i64 100, .int .i64 0, .int .i64 0, .int .i64 0, .bool false, .bool false, .int .i64 0] 90)) wg := (Only.refl _ _).grown hgrow (fun k hk => .inl (hp1.lt k hk).1)
      have hbg := hb1.only hog (by omega)
      have hstg := hst6.grown hgrow (fun q hq => .inr (by have := (hp1.lt q hq).1; have := HX.out; omega))
      have hbs := hbg.set_ 2 (.slice A' (k + 1) c')
      have hos := own_only hown' ((Only.refl (· = X) wg).setCell (p := ⟨X, 2, none⟩) (.inl rfl) (.slice A' (k + 1) c')) (fun q hq => by have := (hown'.lt q hq).1; omega)
      have hss := hstg.setCell (p := ⟨X, 2, none⟩) (.inr (by rw [← HX.out]; exact Nat.le_refl _)) (.slice A' (k + 1) c')
      have cg := hbg.cell 2
      have fg := hbg.frozen 2
      simp at cg
      simp at hbs
      clear hgrow hblk hbg hog hp1 hrd hb1 hst6 hst hown hb c2
      go_wp2_with fail
      go_roundw
      case rel => exact ⟨k + 1, A', c', by omega, by go_num, hbs, by rw [Hsn.out]; exact hos, Lib.hid hss⟩
      case measure => simp [intOf]; omega
    · obtain rfl : k = n := by omega
      obtain ⟨q, hq1, hq2⟩ : ∃ q, A = some ⟨q, 0, none⟩ ∧ X + 1 ≤ q := by
        rcases hown.2 with ⟨hv, h0⟩ | ⟨g', cap, cur, hv, hb', _⟩
        · omega
        · injection hv with hv
          exact ⟨g', hv, hb'⟩
      subst hq1
      go_wp2_with fail
      go_ret2
      exact ⟨X, q, cc, rfl, by rw [← HX.out]; exact Nat.le_refl _, by rw [← HX.out]; omega, ⟨hb, by simp, own_more (Nat.zero_le _) hown⟩, hst.out⟩
/-- Numbers that may be a book's. -/
def bookOk (u lim rst : Int) : Prop := 1 ≤ u ∧ u ≤ 9 ∧ u % 2 = 1 ∧ 1 ≤ lim ∧ lim ≤ 100 ∧ 1 ≤ rst ∧ rst ≤ 100000
theorem bookOk_nat {u lim rst : Int} (h : bookOk u lim rst) : ∃ n : Nat, u = n ∧ BOK n lim rst ∧ n % 2 = 1 := by
  obtain ⟨h1, h2, h3, h4, h5, h6, h7⟩ := h
  exact ⟨u.toNat, by omega, ⟨by omega, by omega, h4, h5, h6, h7⟩, by omega⟩
set_option maxRecDepth 1000000 in
set_option maxHeartbeats 6400000 in
theorem pnew_bad (w : World) {u lim rst : Int} (hu : IntKind.i64.wrap u = u) (h : ¬ bookOk u lim rst) :
    Calls Tryd.prog 17 #[.int .i64 u, .int .i64 lim, .int .i64 rst] w fun e w' => e = .returned (.tuple #[.pointer none, .int .i64 1]) ∧ w = w' := by
  by_cases u1 : u < 1
  · clear h
    have d_u1 : decide (u < 1) = true := decide_eq_true u1
    go_enter Tryd.func17, Tryd.ntmps17
    go_wp2_with fail
    go_ret2
    exact ⟨rfl, rfl⟩
  by_cases u9 : 9 < u
  · clear h
    have d_u1 : decide (u < 1) = false := decide_eq_false u1
    have d_u9 : decide (9 < u) = true := decide_eq_true u9
    go_enter Tryd.func17, Tryd.ntmps17
    go_wp2_with fail
    go_ret2
    exact ⟨rfl, rfl⟩
  by_cases ev : u % 2 = 0
  · clear h
    have d_u1 : decide (u < 1) = false := decide_eq_false u1
    have d_u9 : decide (9 < u) = false := decide_eq_false u9
    have ev0 : u.tmod 2 = 0 := by rw [Int.tmod_eq_emod_of_nonneg (by omega)]; exact ev
    go_enter Tryd.func17, Tryd.ntmps17
    go_wp2_with fail
    go_ret2
    exact ⟨rfl, rfl⟩
  by_cases l1 : lim < 1
  · clear h
    have d_u1 : decide (u < 1) = false := decide_eq_false u1
    have d_u9 : decide (9 < u) = false := decide_eq_false u9
    have ev1 : u.tmod 2 = 1 := by rw [Int.tmod_eq_emod_of_nonneg (by omega)]; omega
    have d_l1 : decide (lim < 1) = true := decide_eq_true l1
    go_enter Tryd.func17, Tryd.ntmps17
    go_wp2_with fail
    go_ret2
    exact ⟨rfl, rfl⟩
  by_cases l2 : 100 < lim
  · clear h
    have d_u1 : decide (u < 1) = false := decide_eq_false u1
    have d_u9 : decide (9 < u) = false := decide_eq_false u9
    have ev1 : u.tmod 2 = 1 := by rw [Int.tmod_eq_emod_of_nonneg (by omega)]; omega
    have d_l1 : decide (lim < 1) = false := decide_eq_false l1
    have d_l2 : decide (100 < lim) = true := decide_eq_true l2
    go_enter Tryd.func17, Tryd.ntmps17
    go_wp2_with fail
    go_ret2
    exact ⟨rfl, rfl⟩
  by_cases r1 : rst < 1
  · clear h
    have d_u1 : decide (u < 1) = false := decide_eq_false u1
    have d_u9 : decide (9 < u) = false := decide_eq_false u9
    have ev1 : u.tmod 2 = 1 := by rw [Int.tmod_eq_emod_of_nonneg (by omega)]; omega
    have d_l1 : decide (lim < 1) = false := decide_eq_false l1
    have d_l2 : decide (100 < lim) = false := decide_eq_false l2
    have d_r1 : decide (rst < 1) = true := decide_eq_true r1
    go_enter Tryd.func17, Tryd.ntmps17
    go_wp2_with fail
    go_ret2
    exact ⟨rfl, rfl⟩
  by_cases r2 : 100000 < rst
  · clear h
    have d_u1 : decide (u < 1) = false := decide_eq_false u1
    have d_u9 : decide (9 < u) = false := decide_eq_false u9
    have ev1 : u.tmod 2 = 1 := by rw [Int.tmod_eq_emod_of_nonneg (by omega)]; omega
    have d_l1 : decide (lim < 1) = false := decide_eq_false l1
    have d_l2 : decide (100 < lim) = false := decide_eq_false l2
    have d_r1 : decide (rst < 1) = false := decide_eq_false r1
    have d_r2 : decide (100000 < rst) = true := decide_eq_true r2
    go_enter Tryd.func17, Tryd.ntmps17
    go_wp2_with fail
    go_ret2
    exact ⟨rfl, rfl⟩
  exact (h ⟨by omega, by omega, by omega, by omega, by omega, by omega, by omega⟩).elim
set_option maxRecDepth 1000000 in
set_option maxHeartbeats 6400000 in
theorem rnew_bad (w : World) {u lim rst : Int} (hu : IntKind.i64.wrap u = u) (h : ¬ bookOk u lim rst) :
    Calls Tryd.prog 30 #[.int .i64 u, .int .i64 lim, .int .i64 rst] w fun e w' => e = .returned (.tuple #[.pointer none, .int .i64 1]) ∧ w = w' := by
  by_cases u1 : u < 1
  · clear h
    have d_u1 : decide (u < 1) = true := decide_eq_true u1
    go_enter Tryd.func30, Tryd.ntmps30
    go_wp2_with fail
    go_ret2
    exact ⟨rfl, rfl⟩
  by_cases u9 : 9 < u
  · clear h
    have d_u1 : decide (u < 1) = false := decide_eq_false u1
    have d_u9 : decide (9 < u) = true := decide_eq_true u9
    go_enter Tryd.func30, Tryd.ntmps30
    go_wp2_with fail
    go_ret2
    exact ⟨rfl, rfl⟩
  by_cases ev : u % 2 = 0
  · clear h
    have d_u1 : decide (u < 1) = false := decide_eq_false u1
    have d_u9 : decide (9 < u) = false := decide_eq_false u9
    have ev0 : u.tmod 2 = 0 := by rw [Int.tmod_eq_emod_of_nonneg (by omega)]; exact ev
    go_enter Tryd.func30, Tryd.ntmps30
    go_wp2_with fail
    go_ret2
    exact ⟨rfl, rfl⟩
  by_cases l1 : lim < 1
  · clear h
    have d_u1 : decide (u < 1) = false := decide_eq_false u1
    have d_u9 : decide (9 < u) = false := decide_eq_false u9
    have ev1 : u.tmod 2 = 1 := by rw [Int.tmod_eq_emod_of_nonneg (by omega)]; omega
    have d_l1 : decide (lim < 1) = true := decide_eq_true l1
    go_enter Tryd.func30, Tryd.ntmps30
    go_wp2_with fail
    go_ret2
    exact ⟨rfl, rfl⟩
  by_cases l2 : 100 < lim
  · clear h
    have d_u1 : decide (u < 1) = false := decide_eq_false u1
    have d_u9 : decide (9 < u) = false := decide_eq_false u9
    have ev1 : u.tmod 2 = 1 := by rw [Int.tmod_eq_emod_of_nonneg (by omega)]; omega
    have d_l1 : decide (lim < 1) = false := decide_eq_false l1
    have d_l2 : decide (100 < lim) = true := decide_eq_true l2
    go_enter Tryd.func30, Tryd.ntmps30
    go_wp2_with fail
    go_ret2
    exact ⟨rfl, rfl⟩
  by_cases r1 : rst < 1
  · clear h
    have d_u1 : decide (u < 1) = false := decide_eq_false u1
    have d_u9 : decide (9 < u) = false := decide_eq_false u9
    have ev1 : u.tmod 2 = 1 := by rw [Int.tmod_eq_emod_of_nonneg (by omega)]; omega
    have d_l1 : decide (lim < 1) = false := decide_eq_false l1
    have d_l2 : decide (100 < lim) = false := decide_eq_false l2
    have d_r1 : decide (rst < 1) = true := decide_eq_true r1
    go_enter Tryd.func30, Tryd.ntmps30
    go_wp2_with fail
    go_ret2
    exact ⟨rfl, rfl⟩
  by_cases r2 : 100000 < rst
  · clear h
    have d_u1 : decide (u < 1) = false := decide_eq_false u1
    have d_u9 : decide (9 < u) = false := decide_eq_false u9
    have ev1 : u.tmod 2 = 1 := by rw [Int.tmod_eq_emod_of_nonneg (by omega)]; omega
    have d_l1 : decide (lim < 1) = false := decide_eq_false l1
    have d_l2 : decide (100 < lim) = false := decide_eq_false l2
    have d_r1 : decide (rst < 1) = false := decide_eq_false r1
    have d_r2 : decide (100000 < rst) = true := decide_eq_true r2
    go_enter Tryd.func30, Tryd.ntmps30
    go_wp2_with fail
    go_ret2
    exact ⟨rfl, rfl⟩
  exact (h ⟨by omega, by omega, by omega, by omega, by omega, by omega, by omega⟩).elim
end
end Go.Proofs.YtdcogjlcbdkdcaaDoor
