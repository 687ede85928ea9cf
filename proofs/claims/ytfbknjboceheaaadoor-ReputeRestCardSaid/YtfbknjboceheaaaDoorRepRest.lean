/-
  ReputeRest: who rests begins to behind its own dissent, with a score below Limit, and is back Rest ticks later, on trial, with the score Limit; but of Limit MaxScore it is not on trial.
-/
import Derived.Test.YtfbknjboceheaaaDoorRepMd
import Derived.Test.YtfbknjboceheaaaDoorRepInv
import Derived.Test.YtfbknjboceheaaaDoorRepDue
namespace Go.Proofs.YtfbknjboceheaaaDoor
open Go.RowKit
set_option linter.unusedVariables false
set_option linter.unusedSimpArgs false

theorem modV (x : Int) (n : Nat) (hn : 0 < n) : ∃ r : Nat, r < n ∧ (IntKind.u64.wrap x).tmod (n : Int) = (r : Int) := by
  obtain ⟨r, h1, h2⟩ := modU x n hn
  exact ⟨r, h1, h2⟩
theorem all_back {lim : Int} {us : List Up} (h : UsOK us) : ∀ (k : Nat) (u : Up), (us.map (backOne lim 4398046511104))[k]? = some u → u.rests = false := by
  intro k u hu
  rw [List.getElem?_map] at hu
  obtain ⟨v, hv, rfl⟩ := Option.map_eq_some_iff.1 hu
  have ht := (h k v hv).t1
  unfold backOne
  split
  · rfl
  · rename_i hb
    rcases hr : v.rests with _ | _
    · rfl
    · exfalso
      apply hb
      unfold isBack
      simp only [hr, Bool.true_and, decide_eq_true_eq]
      omega
theorem free_all {us : List Up} (h : ∀ (k : Nat) (u : Up), us[k]? = some u → u.rests = false) : free us = us.length := by
  unfold free
  rw [List.countP_eq_length]
  intro u hu
  obtain ⟨k, hk⟩ := List.getElem?_of_mem hu
  rw [h k u hk]
  rfl

set_option maxRecDepth 1000000 in
set_option maxHeartbeats 6400000 in
theorem rest_walk (w : World) (hg : Gains w) (a b c : Int) (C : Option Addr) (m cc : Nat) (l : List A3) (hm : m ≤ maxLen) (hl : l.length = m) (hr : Reads w w.heap.size 3 C m (a3Cells l)) (ui now again : Int) :
    Calls Tryd.prog 6 #[.int .i64 a, .int .i64 b, .int .i64 c, .slice C m cc, .int .i64 ui, .int .i64 now, .int .i64 again] w fun e w' => e = .returned (.bool true) ∧ Still w w' := by
  by_cases hp : (m : Int) ≤ 600 ∧ 0 ≤ now ∧ now ≤ 549755813888 ∧ 0 ≤ again ∧ again ≤ 549755813888
  · obtain ⟨p1, p2, p3, p4, p5⟩ := hp
    have q1 := decide_eq_false (show ¬ (600 : Int) < (m : Int) by omega)
    have q2 := decide_eq_false (show ¬ now < 0 by omega)
    have q3 := decide_eq_false (show ¬ 549755813888 < now by omega)
    have q4 := decide_eq_false (show ¬ again < 0 by omega)
    have q5 := decide_eq_false (show ¬ 549755813888 < again by omega)
    have Hl := Lib.hid hl
    clear hl
    have nk1 : nowOk now := by unfold nowOk; omega
    have nk2 : nowOk again := by unfold nowOk; omega
    go_enter Tryd.func6, Tryd.ntmps6
    go_wp2_with fail
    refine (rep_awake w hg).mono ?_
    rintro e w1 ⟨rfl, hs1⟩
    have hg1 := hg.still hs1
    have hr1 := hr.only hs1 (Nat.le_refl _) (fun _ _ h => h)
    go_wp2_with fail
    refine (made_live w1 hg1 a b c C m cc l (by omega) Hl.out (hr1.more hs1.size)).mono ?_
    rintro e w2 ⟨G, B, n, lim, rst, rfl, hodd, h2⟩
    generalize acts3 lim rst n (List.replicate n up1) l = us at *
    have hok := h2.ok
    obtain ⟨ur, hur, htm⟩ := modV ui n (by have := hok.n1; omega)
    have n1 := hok.n1
    have n9 := hok.n9
    have l1 := hok.l1
    have l2 := hok.l2
    have r1 := hok.r1
    have r2 := hok.r2
    clear hr1 hr hg1
    go_wp2_with fail
    refine (back_live h2 4398046511104).mono ?_
    rintro e w3 ⟨A3_, ca, rfl, _, h3, _⟩
    have hno := all_back (lim := lim) h2.us
    clear h2
    generalize us.map (backOne lim 4398046511104) = us at *
    have hfree := free_all hno
    rw [h3.bk.len] at hfree
    have hml := may_len us
    rw [hfree] at hml
    go_wp2_with fail
    refine (may_any h3.bk n9).mono ?_
    rintro e w4 ⟨Am, cm, rfl, _, hs4⟩
    have h4 := h3.still hs4
    clear h3 hs4
    rw [hml]
    obtain ⟨x, hx⟩ := h4.bk.get hur
    have hxo := h4.us ur x hx
    have hone : One us ur x := ⟨hx, fun k v hv _ => hno k v hv⟩
    have hxr : x.rests = false := hno ur x hx
    obtain ⟨H, hH⟩ : ∃ H : Nat, H = n / 2 := ⟨_, rfl⟩
    have hH2 : (n : Int).tdiv 2 = (H : Int) := by rw [Int.tdiv_eq_ediv_of_nonneg (by omega)]; omega
    have hH3 : (n : Int) / 2 = (H : Int) := by omega
    clear hH
    by_cases c2 : H + 1 < n
    · have c3 := decide_eq_true c2
      have c3i := decide_eq_true (show (H : Int) + 1 < (n : Int) by omega)
      go_wp2_with fail
      refine (score_in h4.bk ur hx).mono ?_
      rintro e w5 ⟨rfl, rfl⟩
      go_wp2_with fail
      refine (rests_in h4.bk ur hx).mono ?_
      rintro e w5 ⟨rfl, rfl⟩
      rw [hxr]
      go_wp2_with fail
      refine (dissent_live h4 ur now).mono ?_
      rintro e w5 ⟨rfl, h5, _⟩
      rw [if_pos ⟨nk1, by omega, by omega⟩]
      have e5 : dissentL lim rst n ur now us = upd us (ur : Int) (dissentUp lim rst (mayL us).length n now) := by unfold dissentL; rw [if_pos nk1]
      rw [e5, hml] at h5
      have hone5 := hone.upd (dissentUp lim rst n n now)
      clear h4 e5
      generalize upd us (ur : Int) (dissentUp lim rst n n now) = vs at *
      obtain ⟨y, hy⟩ : ∃ y, y = dissentUp lim rst n n now x := ⟨_, rfl⟩
      have hsc : (dissentUp lim rst n n now x).score = cl (x.score + -10) := by
        unfold dissentUp
        split <;> rfl
      have hcl : cl (x.score + -10) = if 0 < x.score - 10 then x.score - 10 else 0 := by
        have := hxo.s0
        have := hxo.s1
        unfold cl
        split <;> split <;> split <;> omega
      have hsp : (dissentUp lim rst n n now x).rests = (decide (H + 1 < n) && decide (cl (x.score + -10) < lim)) := by
        unfold dissentUp spare
        have e1 : (hitUp x).rests = false := hxr
        have e2 : (hitUp x).score = cl (x.score + -10) := rfl
        rw [e1, e2, hH3]
        by_cases c1 : cl (x.score + -10) < lim
        · by_cases c2 : H + 1 < n
          · have c3 : (H : Int) + 1 ≤ (n : Int) - 1 := by omega
            simp [c1, c2, c3]
          · have c3 : ¬ (H : Int) + 1 ≤ (n : Int) - 1 := by omega
            simp [c1, c2, c3, endTrial, e1]
        · simp [c1, endTrial, e1]
      rw [← hy] at hsc hsp hone5
      obtain ⟨s, hs⟩ : ∃ s, s = cl (x.score + -10) := ⟨_, rfl⟩
      rw [← hs] at hsc hsp hcl
      replace hcl := hcl.symm
      have hx0 := hxo.s0
      have hx1 := hxo.s1
      by_cases c4 : s < lim
      · have c5 := decide_eq_true c4
        have hyr : y.rests = true := by rw [hsp, c3, c5]; rfl
        clear hsp hs hxo hx
        by_cases cx : 0 < x.score - 10
        · have es : x.score - 10 = s := by rw [← hcl, if_pos cx]
          clear hcl
          go_wp2_with fail
          refine (score_in h5.bk ur hone5.at_).mono ?_
          rintro e w6 ⟨rfl, rfl⟩
          rw [hsc]
          go_wp2_with fail
          refine (rests_in h5.bk ur hone5.at_).mono ?_
          rintro e w6 ⟨rfl, rfl⟩
          rw [hyr]
          go_wp2_with fail
          refine (score_in h5.bk ur hone5.at_).mono ?_
          rintro e w6 ⟨rfl, rfl⟩
          rw [hsc]
          go_wp2_with fail
          refine (rests_in h5.bk ur hone5.at_).mono ?_
          rintro e w6 ⟨rfl, rfl⟩
          rw [hyr]
          go_wp2_with fail
          have hspare : spare lim n n (hitUp x) = true := by
            rcases hq : spare lim n n (hitUp x) with _ | _
            · exfalso
              rw [hy] at hyr
              unfold dissentUp at hyr
              rw [hq] at hyr
              have e1 : (endTrial lim (hitUp x)).rests = false := hxr
              simp at hyr
              rw [e1] at hyr
              cases hyr
            · rfl
          have hyt : y.til = now + rst := by rw [hy]; unfold dissentUp; rw [hspare]; rfl
          have hytr : y.trial = false := by rw [hy]; unfold dissentUp; rw [hspare]; rfl
          clear hspare hy
          have hdue : dueK vs n = (y.til, true) := by rw [hone5.due hyr n (by rw [h5.bk.len]; exact Nat.le_refl _), if_pos hur]
          rw [hyt] at hdue
          refine (due_any h5.bk n9).mono ?_
          rintro e w6 ⟨rfl, hs6⟩
          have h6 := h5.still hs6
          clear h5 hs6
          rw [hdue]
          have y1 : IntKind.i64.wrap (now + rst) = now + rst := IntWalk.i64_in _ (by omega)
          go_wp2_with fail
          refine (trial_in h6.bk ur hone5.at_).mono ?_
          rintro e w7 ⟨rfl, rfl⟩
          rw [hytr]
          go_wp2_with fail
          refine (dissent_live h6 ur again).mono ?_
          rintro e w7 ⟨rfl, h7, _⟩
          rw [if_pos ⟨nk2, by omega, by omega⟩]
          have e7 : dissentL lim rst n ur again vs = upd vs (ur : Int) (dissentUp lim rst (mayL vs).length n again) := by unfold dissentL; rw [if_pos nk2]
          rw [e7] at h7
          have hone7 := hone5.upd (dissentUp lim rst (mayL vs).length n again)
          have hz : dissentUp lim rst (mayL vs).length n again y = endTrial lim (hitUp y) := by
            unfold dissentUp
            rw [if_neg]
            unfold spare
            have e1 : (hitUp y).rests = true := hyr
            simp [e1]
          rw [hz] at hone7
          generalize upd vs (ur : Int) (dissentUp lim rst (mayL vs).length n again) = us7 at *
          obtain ⟨z, hzz⟩ : ∃ z, z = endTrial lim (hitUp y) := ⟨_, rfl⟩
          have hzr : z.rests = true := by rw [hzz]; exact hyr
          have hzt : z.til = now + rst := by rw [hzz]; exact hyt
          rw [← hzz] at hone7
          clear h6 e7 hz hzz hone5 hdue
          go_wp2_with fail
          refine (rests_in h7.bk ur hone7.at_).mono ?_
          rintro e w8 ⟨rfl, rfl⟩
          rw [hzr]
          go_wp2_with fail
          have hdue : dueK us7 n = (z.til, true) := by rw [hone7.due hzr n (by rw [h7.bk.len]; exact Nat.le_refl _), if_pos hur]
          rw [hzt] at hdue
          refine (due_any h7.bk n9).mono ?_
          rintro e w8 ⟨rfl, hs8⟩
          have h8 := h7.still hs8
          clear h7 hs8
          rw [hdue]
          have y2 : IntKind.i64.wrap (now + rst - 1) = now + rst - 1 := IntWalk.i64_in _ (by omega)
          go_wp2_with fail
          refine (back_live h8 (now + rst - 1)).mono ?_
          rintro e w9 ⟨Ab, cb, rfl, _, h9, _⟩
          have hb0 : backs (now + rst - 1) us7 n = [] := by rw [hone7.backs hzr _ n (by rw [h8.bk.len]; exact Nat.le_refl _), if_neg (by rw [hzt]; omega)]
          have hone9 := hone7.map lim (now + rst - 1)
          have hz9 : backOne lim (now + rst - 1) z = z := by
            unfold backOne
            rw [if_neg]
            unfold isBack
            rw [hzt]
            simp only [Bool.and_eq_true, decide_eq_true_eq]
            omega
          rw [hz9] at hone9
          rw [hb0]
          clear h8 hz9 hb0 hone7 hdue
          generalize us7.map (backOne lim (now + rst - 1)) = us9 at *
          go_wp2_with fail
          refine (back_live h9 (now + rst)).mono ?_
          rintro e w10 ⟨Ac, cc', rfl, hown, h10, _⟩
          have hb1 : backs (now + rst) us9 n = [(ur : Int)] := by rw [hone9.backs hzr _ n (by rw [h9.bk.len]; exact Nat.le_refl _), if_pos ⟨hur, by rw [hzt]; omega⟩]
          have hone10 := hone9.map lim (now + rst)
          have hz10 : backOne lim (now + rst) z = backUp lim z := by
            unfold backOne
            rw [if_pos]
            unfold isBack
            simp [hzt, hzr]
          rw [hz10] at hone10
          rw [hb1] at hown ⊢
          clear h9 hz10 hb1 hone9
          generalize us9.map (backOne lim (now + rst)) = us10 at *
          have hrow : Reads w10 w10.heap.size 1 Ac 1 (([(ur : Int)] : List Int).map (.int .i64)) := Reads.of_own hown
          have hra := hrow.alloc (Nat.le_refl _) (.cells #[.int .i64 (ur : Int)] 3)
          have hrb := reads_made w10 3 .i64 [(ur : Int)] 1 rfl
          have h11 := h10.still (Still.new w10 (.cells #[.int .i64 (ur : Int)] 3))
          clear h10 hrow hown
          go_wp2_with fail
          refine (ints_any Ac (some ⟨w10.heap.size, 0, none⟩) 1 cc' 1 1 w10.heap.size (w10.heap.size + 1) [(ur : Int)] [(ur : Int)] _ hra hrb (by omega) (by omega)).mono ?_
          rintro e w12 ⟨rfl, q, rfl⟩
          have h12 := h11.still ((Only.refl (fun _ => False) _).drewN q)
          generalize (w10.alloc (.cells #[.int .i64 (ur : Int)] 3)).drewN q = w12 at *
          clear h11 hra hrb
          rw [show (decide ([(ur : Int)] = [(ur : Int)])) = true by simp]
          go_wp2_with fail
          refine (rests_in h12.bk ur hone10.at_).mono ?_
          rintro e w13 ⟨rfl, rfl⟩
          rw [show (backUp lim z).rests = false from rfl]
          go_wp2_with fail
          refine (score_in h12.bk ur hone10.at_).mono ?_
          rintro e w13 ⟨rfl, rfl⟩
          rw [show (backUp lim z).score = lim from rfl]
          go_wp2_with fail
          refine (trial_in h12.bk ur hone10.at_).mono ?_
          rintro e w13 ⟨rfl, rfl⟩
          have htl : (backUp lim z).trial = decide (lim < 100) := by
            show (true && decide (lim < top lim)) = decide (lim < 100)
            rw [Bool.true_and, decide_eq_decide]
            unfold top
            split <;> omega
          rw [htl]
          go_wp2_with fail
          go_ret
          exact ⟨by simp, hs1.still h12.st⟩
        · have es : s = 0 := by rw [← hcl, if_neg cx]
          clear hcl
          subst es
          go_wp2_with fail
          refine (score_in h5.bk ur hone5.at_).mono ?_
          rintro e w6 ⟨rfl, rfl⟩
          rw [hsc]
          go_wp2_with fail
          refine (rests_in h5.bk ur hone5.at_).mono ?_
          rintro e w6 ⟨rfl, rfl⟩
          rw [hyr]
          go_wp2_with fail
          refine (score_in h5.bk ur hone5.at_).mono ?_
          rintro e w6 ⟨rfl, rfl⟩
          rw [hsc]
          go_wp2_with fail
          refine (rests_in h5.bk ur hone5.at_).mono ?_
          rintro e w6 ⟨rfl, rfl⟩
          rw [hyr]
          go_wp2_with fail
          have hspare : spare lim n n (hitUp x) = true := by
            rcases hq : spare lim n n (hitUp x) with _ | _
            · exfalso
              rw [hy] at hyr
              unfold dissentUp at hyr
              rw [hq] at hyr
              have e1 : (endTrial lim (hitUp x)).rests = false := hxr
              simp at hyr
              rw [e1] at hyr
              cases hyr
            · rfl
          have hyt : y.til = now + rst := by rw [hy]; unfold dissentUp; rw [hspare]; rfl
          have hytr : y.trial = false := by rw [hy]; unfold dissentUp; rw [hspare]; rfl
          clear hspare hy
          have hdue : dueK vs n = (y.til, true) := by rw [hone5.due hyr n (by rw [h5.bk.len]; exact Nat.le_refl _), if_pos hur]
          rw [hyt] at hdue
          refine (due_any h5.bk n9).mono ?_
          rintro e w6 ⟨rfl, hs6⟩
          have h6 := h5.still hs6
          clear h5 hs6
          rw [hdue]
          have y1 : IntKind.i64.wrap (now + rst) = now + rst := IntWalk.i64_in _ (by omega)
          go_wp2_with fail
          refine (trial_in h6.bk ur hone5.at_).mono ?_
          rintro e w7 ⟨rfl, rfl⟩
          rw [hytr]
          go_wp2_with fail
          refine (dissent_live h6 ur again).mono ?_
          rintro e w7 ⟨rfl, h7, _⟩
          rw [if_pos ⟨nk2, by omega, by omega⟩]
          have e7 : dissentL lim rst n ur again vs = upd vs (ur : Int) (dissentUp lim rst (mayL vs).length n again) := by unfold dissentL; rw [if_pos nk2]
          rw [e7] at h7
          have hone7 := hone5.upd (dissentUp lim rst (mayL vs).length n again)
          have hz : dissentUp lim rst (mayL vs).length n again y = endTrial lim (hitUp y) := by
            unfold dissentUp
            rw [if_neg]
            unfold spare
            have e1 : (hitUp y).rests = true := hyr
            simp [e1]
          rw [hz] at hone7
          generalize upd vs (ur : Int) (dissentUp lim rst (mayL vs).length n again) = us7 at *
          obtain ⟨z, hzz⟩ : ∃ z, z = endTrial lim (hitUp y) := ⟨_, rfl⟩
          have hzr : z.rests = true := by rw [hzz]; exact hyr
          have hzt : z.til = now + rst := by rw [hzz]; exact hyt
          rw [← hzz] at hone7
          clear h6 e7 hz hzz hone5 hdue
          go_wp2_with fail
          refine (rests_in h7.bk ur hone7.at_).mono ?_
          rintro e w8 ⟨rfl, rfl⟩
          rw [hzr]
          go_wp2_with fail
          have hdue : dueK us7 n = (z.til, true) := by rw [hone7.due hzr n (by rw [h7.bk.len]; exact Nat.le_refl _), if_pos hur]
          rw [hzt] at hdue
          refine (due_any h7.bk n9).mono ?_
          rintro e w8 ⟨rfl, hs8⟩
          have h8 := h7.still hs8
          clear h7 hs8
          rw [hdue]
          have y2 : IntKind.i64.wrap (now + rst - 1) = now + rst - 1 := IntWalk.i64_in _ (by omega)
          go_wp2_with fail
          refine (back_live h8 (now + rst - 1)).mono ?_
          rintro e w9 ⟨Ab, cb, rfl, _, h9, _⟩
          have hb0 : backs (now + rst - 1) us7 n = [] := by rw [hone7.backs hzr _ n (by rw [h8.bk.len]; exact Nat.le_refl _), if_neg (by rw [hzt]; omega)]
          have hone9 := hone7.map lim (now + rst - 1)
          have hz9 : backOne lim (now + rst - 1) z = z := by
            unfold backOne
            rw [if_neg]
            unfold isBack
            rw [hzt]
            simp only [Bool.and_eq_true, decide_eq_true_eq]
            omega
          rw [hz9] at hone9
          rw [hb0]
          clear h8 hz9 hb0 hone7 hdue
          generalize us7.map (backOne lim (now + rst - 1)) = us9 at *
          go_wp2_with fail
          refine (back_live h9 (now + rst)).mono ?_
          rintro e w10 ⟨Ac, cc', rfl, hown, h10, _⟩
          have hb1 : backs (now + rst) us9 n = [(ur : Int)] := by rw [hone9.backs hzr _ n (by rw [h9.bk.len]; exact Nat.le_refl _), if_pos ⟨hur, by rw [hzt]; omega⟩]
          have hone10 := hone9.map lim (now + rst)
          have hz10 : backOne lim (now + rst) z = backUp lim z := by
            unfold backOne
            rw [if_pos]
            unfold isBack
            simp [hzt, hzr]
          rw [hz10] at hone10
          rw [hb1] at hown ⊢
          clear h9 hz10 hb1 hone9
          generalize us9.map (backOne lim (now + rst)) = us10 at *
          have hrow : Reads w10 w10.heap.size 1 Ac 1 (([(ur : Int)] : List Int).map (.int .i64)) := Reads.of_own hown
          have hra := hrow.alloc (Nat.le_refl _) (.cells #[.int .i64 (ur : Int)] 3)
          have hrb := reads_made w10 3 .i64 [(ur : Int)] 1 rfl
          have h11 := h10.still (Still.new w10 (.cells #[.int .i64 (ur : Int)] 3))
          clear h10 hrow hown
          go_wp2_with fail
          refine (ints_any Ac (some ⟨w10.heap.size, 0, none⟩) 1 cc' 1 1 w10.heap.size (w10.heap.size + 1) [(ur : Int)] [(ur : Int)] _ hra hrb (by omega) (by omega)).mono ?_
          rintro e w12 ⟨rfl, q, rfl⟩
          have h12 := h11.still ((Only.refl (fun _ => False) _).drewN q)
          generalize (w10.alloc (.cells #[.int .i64 (ur : Int)] 3)).drewN q = w12 at *
          clear h11 hra hrb
          rw [show (decide ([(ur : Int)] = [(ur : Int)])) = true by simp]
          go_wp2_with fail
          refine (rests_in h12.bk ur hone10.at_).mono ?_
          rintro e w13 ⟨rfl, rfl⟩
          rw [show (backUp lim z).rests = false from rfl]
          go_wp2_with fail
          refine (score_in h12.bk ur hone10.at_).mono ?_
          rintro e w13 ⟨rfl, rfl⟩
          rw [show (backUp lim z).score = lim from rfl]
          go_wp2_with fail
          refine (trial_in h12.bk ur hone10.at_).mono ?_
          rintro e w13 ⟨rfl, rfl⟩
          have htl : (backUp lim z).trial = decide (lim < 100) := by
            show (true && decide (lim < top lim)) = decide (lim < 100)
            rw [Bool.true_and, decide_eq_decide]
            unfold top
            split <;> omega
          rw [htl]
          go_wp2_with fail
          go_ret
          exact ⟨by simp, hs1.still h12.st⟩
      · have c5 := decide_eq_false c4
        have hyr : y.rests = false := by rw [hsp, c3, c5]; rfl
        clear hsp hs hxo hx
        by_cases cx : 0 < x.score - 10
        · have es : x.score - 10 = s := by rw [← hcl, if_pos cx]
          clear hcl
          go_wp2_with fail
          refine (score_in h5.bk ur hone5.at_).mono ?_
          rintro e w6 ⟨rfl, rfl⟩
          rw [hsc]
          go_wp2_with fail
          refine (rests_in h5.bk ur hone5.at_).mono ?_
          rintro e w6 ⟨rfl, rfl⟩
          rw [hyr]
          go_wp2_with fail
          refine (score_in h5.bk ur hone5.at_).mono ?_
          rintro e w6 ⟨rfl, rfl⟩
          rw [hsc]
          go_wp2_with fail
          refine (rests_in h5.bk ur hone5.at_).mono ?_
          rintro e w6 ⟨rfl, rfl⟩
          rw [hyr]
          go_wp2_with fail
          go_ret
          exact ⟨rfl, hs1.still h5.st⟩
        · have es : s = 0 := by rw [← hcl, if_neg cx]
          exfalso
          omega
    · have c3 := decide_eq_false c2
      have c3i := decide_eq_false (show ¬ (H : Int) + 1 < (n : Int) by omega)
      go_wp2_with fail
      refine (score_in h4.bk ur hx).mono ?_
      rintro e w5 ⟨rfl, rfl⟩
      go_wp2_with fail
      refine (rests_in h4.bk ur hx).mono ?_
      rintro e w5 ⟨rfl, rfl⟩
      rw [hxr]
      go_wp2_with fail
      refine (dissent_live h4 ur now).mono ?_
      rintro e w5 ⟨rfl, h5, _⟩
      rw [if_pos ⟨nk1, by omega, by omega⟩]
      have e5 : dissentL lim rst n ur now us = upd us (ur : Int) (dissentUp lim rst (mayL us).length n now) := by unfold dissentL; rw [if_pos nk1]
      rw [e5, hml] at h5
      have hone5 := hone.upd (dissentUp lim rst n n now)
      clear h4 e5
      generalize upd us (ur : Int) (dissentUp lim rst n n now) = vs at *
      obtain ⟨y, hy⟩ : ∃ y, y = dissentUp lim rst n n now x := ⟨_, rfl⟩
      have hsc : (dissentUp lim rst n n now x).score = cl (x.score + -10) := by
        unfold dissentUp
        split <;> rfl
      have hcl : cl (x.score + -10) = if 0 < x.score - 10 then x.score - 10 else 0 := by
        have := hxo.s0
        have := hxo.s1
        unfold cl
        split <;> split <;> split <;> omega
      have hsp : (dissentUp lim rst n n now x).rests = (decide (H + 1 < n) && decide (cl (x.score + -10) < lim)) := by
        unfold dissentUp spare
        have e1 : (hitUp x).rests = false := hxr
        have e2 : (hitUp x).score = cl (x.score + -10) := rfl
        rw [e1, e2, hH3]
        by_cases c1 : cl (x.score + -10) < lim
        · by_cases c2 : H + 1 < n
          · have c3 : (H : Int) + 1 ≤ (n : Int) - 1 := by omega
            simp [c1, c2, c3]
          · have c3 : ¬ (H : Int) + 1 ≤ (n : Int) - 1 := by omega
            simp [c1, c2, c3, endTrial, e1]
        · simp [c1, endTrial, e1]
      rw [← hy] at hsc hsp hone5
      obtain ⟨s, hs⟩ : ∃ s, s = cl (x.score + -10) := ⟨_, rfl⟩
      rw [← hs] at hsc hsp hcl
      replace hcl := hcl.symm
      have hx0 := hxo.s0
      have hx1 := hxo.s1
      have hyr : y.rests = false := by rw [hsp, c3]; rfl
      clear hsp hs hxo hx
      by_cases cx : 0 < x.score - 10
      · have es : x.score - 10 = s := by rw [← hcl, if_pos cx]
        clear hcl
        go_wp2_with fail
        refine (score_in h5.bk ur hone5.at_).mono ?_
        rintro e w6 ⟨rfl, rfl⟩
        rw [hsc]
        go_wp2_with fail
        refine (rests_in h5.bk ur hone5.at_).mono ?_
        rintro e w6 ⟨rfl, rfl⟩
        rw [hyr]
        go_wp2_with fail
        refine (rests_in h5.bk ur hone5.at_).mono ?_
        rintro e w6 ⟨rfl, rfl⟩
        rw [hyr]
        go_wp2_with fail
        go_ret
        exact ⟨rfl, hs1.still h5.st⟩
      · have es : s = 0 := by rw [← hcl, if_neg cx]
        clear hcl
        subst es
        go_wp2_with fail
        refine (score_in h5.bk ur hone5.at_).mono ?_
        rintro e w6 ⟨rfl, rfl⟩
        rw [hsc]
        go_wp2_with fail
        refine (rests_in h5.bk ur hone5.at_).mono ?_
        rintro e w6 ⟨rfl, rfl⟩
        rw [hyr]
        go_wp2_with fail
        refine (rests_in h5.bk ur hone5.at_).mono ?_
        rintro e w6 ⟨rfl, rfl⟩
        rw [hyr]
        go_wp2_with fail
        go_ret
        exact ⟨rfl, hs1.still h5.st⟩
  · go_enter Tryd.func6, Tryd.ntmps6
    by_cases p1 : (600 : Int) < (m : Int)
    · have q1 := decide_eq_true p1
      go_wp2_with fail
      refine (rep_awake w hg).mono ?_
      rintro e w1 ⟨rfl, hs⟩
      go_wp2_with fail
      go_ret
      exact ⟨rfl, hs⟩
    · have q1 := decide_eq_false p1
      by_cases p2 : now < 0
      · have q2 := decide_eq_true p2
        go_wp2_with fail
        refine (rep_awake w hg).mono ?_
        rintro e w1 ⟨rfl, hs⟩
        go_wp2_with fail
        go_ret
        exact ⟨rfl, hs⟩
      · have q2 := decide_eq_false p2
        by_cases p3 : 549755813888 < now
        · have q3 := decide_eq_true p3
          go_wp2_with fail
          refine (rep_awake w hg).mono ?_
          rintro e w1 ⟨rfl, hs⟩
          go_wp2_with fail
          go_ret
          exact ⟨rfl, hs⟩
        · have q3 := decide_eq_false p3
          by_cases p4 : again < 0
          · have q4 := decide_eq_true p4
            go_wp2_with fail
            refine (rep_awake w hg).mono ?_
            rintro e w1 ⟨rfl, hs⟩
            go_wp2_with fail
            go_ret
            exact ⟨rfl, hs⟩
          · have q4 := decide_eq_false p4
            have p5 : 549755813888 < again := by omega
            have q5 := decide_eq_true p5
            go_wp2_with fail
            refine (rep_awake w hg).mono ?_
            rintro e w1 ⟨rfl, hs⟩
            go_wp2_with fail
            go_ret
            exact ⟨rfl, hs⟩
end Go.Proofs.YtfbknjboceheaaaDoor
