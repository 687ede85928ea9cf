/-
  PendDraw: what is drawn is the draw's lowest 16 bits, if that was not out; from that number to what is drawn, counted round, all were out; for any table, any tape, any acts.
-/
import Derived.Test.YthbapdajmpplhaaPendApart
namespace Go.Proofs.Ythbapdajmpplhaa
open Go.RowKit
set_option linter.unusedVariables false
set_option linter.unusedSimpArgs false

theorem isO_ne {L : List Out} {u a b : Nat} (ha : isO L u a = true) (hb : isO L u b = false) : a ≠ b := by
  rintro rfl
  rw [ha] at hb
  cases hb

set_option maxRecDepth 1000000 in
set_option maxHeartbeats 12800000 in
theorem draw_walk (w : World) (ups : Int) (seed : Int) (hs : 0 ≤ seed ∧ seed < 18446744073709551616) (A : Option Addr) (n c : Nat) (xs : List Int) (hA : A = none → n = 0 ∧ c = 0)
    (hr : Reads w w.heap.size 1 A n (xs.map (.int .u64))) (hx : ∀ x ∈ xs, 0 ≤ x ∧ x < 18446744073709551616)
    (A2 : Option Addr) (m c2 : Nat) (l : List A3) (hl : l.length = m) (hr2 : Reads w w.heap.size 3 A2 m (a3Cells l)) (ui si : Int) :
    Calls Try.prog 6 #[.int .i64 ups, .int .u64 seed, .slice A n c, .slice A2 m c2, .int .i64 ui, .int .i64 si] w fun e w' => e = .returned (.bool true) ∧ Still w w' := by
  by_cases hbig : m ≤ 200 ∧ n ≤ 300
  · obtain ⟨hm, hn⟩ := hbig
    obtain ⟨N1, hN, hN1, hN9⟩ := n9 ups
    have HN := Lib.hid hN
    have Hx := Lib.hid hx
    have Hl := Lib.hid hl
    clear hN hx hl
    have g1 : ¬ (200 : Int) < (m : Int) := by omega
    have g2 : ¬ (300 : Int) < (n : Int) := by omega
    go_enter Try.func6, Try.ntmps6
    go_wp2_with fail
    refine (pend_awake _).mono ?_
    rintro e w0 ⟨rfl, ho0⟩
    go_wp2_with fail
    refine (made_any w0 ups N1 HN.out seed hs A n c xs hA ((hr.only ho0 (Nat.le_refl _) (fun _ _ h => h)).more ho0.size) Hx.out hn A2 m c2 l Hl.out hm ((hr2.only ho0 (Nat.le_refl _) (fun _ _ h => h)).more ho0.size)).mono ?_
    rintro e w1 ⟨t, bs, g, rfl, hlen, hP1, hT1, ht1, hg1, hb1, hst1⟩
    have hs1 : Hid (Still w w1) := Lib.hid (ho0.still hst1)
    have hge1 : ∀ i ∈ bs, w.heap.size ≤ i := fun i hi => by have := hb1 i hi; have := ho0.size; omega
    have hgw : w.heap.size ≤ g := by have := ho0.size; omega
    have hrl := run_len N1 seed xs l ([], 0)
    rw [Hl.out] at hrl
    simp at hrl
    obtain ⟨s, hs'⟩ : ∃ s, s = run N1 seed xs l ([], 0) := ⟨_, rfl⟩
    rw [← hs'] at hP1 hT1 hrl
    obtain ⟨L, q⟩ := s
    dsimp only at hP1 hT1 hrl
    have hLlen : L.length ≤ 200 := by omega
    have hq : q ≤ 200 := by omega
    have Hn1 := Lib.hid hlen
    clear hs' hrl hlen ho0 hst1 ht1 hg1 hb1 hr hr2 g1 g2
    obtain ⟨U, hU⟩ : ∃ U : Nat, (U : Int) = IntKind.u64.wrap ui % N1 := ⟨(IntKind.u64.wrap ui % N1).toNat, by have := Int.emod_nonneg (IntKind.u64.wrap ui) (b := (N1 : Int)) (by omega); omega⟩
    have hUN : U < N1 := by have := Int.emod_lt_of_pos (IntKind.u64.wrap ui) (b := (N1 : Int)) (by omega); omega
    obtain ⟨V, hV⟩ : ∃ V : Nat, (V : Int) = IntKind.u64.wrap si % 32 := ⟨(IntKind.u64.wrap si % 32).toNat, by rw [IntKind.wrap_u64]; omega⟩
    have hV32 : V < 32 := by rw [IntKind.wrap_u64] at hV; omega
    have hNw : IntKind.u64.wrap (N1 : Int) = N1 := by rw [IntKind.wrap_u64]; omega
    have hNz : ¬ (N1 : Int) = 0 := by omega
    have hU' : (IntKind.u64.wrap ui).tmod (N1 : Int) = (U : Int) := by
      rw [hU, Int.tmod_eq_emod_of_nonneg (by rw [IntKind.wrap_u64]; omega)]
    have hV' : (IntKind.u64.wrap si).tmod 32 = (V : Int) := by
      rw [hV, Int.tmod_eq_emod_of_nonneg (by rw [IntKind.wrap_u64]; omega)]
    clear hU hV
    go_wp2_with fail
    refine (copy_pend hP1).mono ?_
    rintro e w2 ⟨t2, bs2, rfl, hlen2, hP2, ht2, hb2, hst2⟩
    have hQ1 := hP1.still hst2
    have hT2 := hT1.still hst2
    have hs2 : Hid (Still w w2) := Lib.hid (hs1.out.still hst2)
    have hd12 : ∀ i ∈ bs2, i ∉ bs := fun i hi hi' => by have := hb2 i hi; have := hP1.b_lt hi'; omega
    have hge2 : ∀ i ∈ bs2, w.heap.size ≤ i := fun i hi => by have := hb2 i hi; have := hs1.out.size; omega
    have Hn2 : Hid (bs2.length = N1) := Lib.hid (hlen2.trans Hn1.out)
    clear hP1 hT1 hs1 hst2 hlen2 ht2 hb2
    go_wp2_with (go_at_call 13; refine (used_any hT2).mono ?_; rintro e wz ⟨rfl, rfl⟩)
    refine (copy_any hT2).mono ?_
    rintro e w3 ⟨g3, rfl, hg3, hC3, hst3⟩
    have hR1 := hQ1.still hst3
    have hR2 := hP2.still hst3
    have hT3 := hT2.still hst3
    have hs3 : Hid (Still w w3) := Lib.hid (hs2.out.still hst3)
    have hgg : g < g3 := by have := hT2.lt; omega
    have hg3w : w.heap.size ≤ g3 := by have := hs2.out.size; omega
    clear hQ1 hP2 hT2 hs2 hst3 hg3
    have hlow := low16_wrap (draw seed xs q)
    have hsp := stepsO_spec (u := U) hR1.inv (low16 (draw seed xs q)) (by have := lenO_le L U; omega)
    have hlL := lenO_le L U
    have hnx : nextO L U (low16 (draw seed xs q)) = (low16 (draw seed xs q) + stepsO L U (low16 (draw seed xs q))) % 65536 := rfl
    have hs64 := low16_lt (draw seed xs q)
    obtain ⟨s, hs'⟩ : ∃ s, s = low16 (draw seed xs q) := ⟨_, rfl⟩
    rw [← hs'] at hlow hsp hnx hs64
    obtain ⟨d, hd⟩ : ∃ d, d = stepsO L U s := ⟨_, rfl⟩
    rw [← hd] at hsp hnx
    obtain ⟨h1, h2, h3⟩ := hsp
    obtain ⟨id, hid⟩ : ∃ id, id = (s + d) % 65536 := ⟨_, rfl⟩
    rw [← hid] at h2 hnx
    have hid64 : id < 65536 := by omega
    have hd200 : d ≤ 200 := by omega
    have Hnx := Lib.hid hnx
    have Hsl := Lib.hid hs'
    have Hid_ := Lib.hid hid
    clear hnx hs' hid hd h1 hlL
    go_wp2_with fail
    refine (next_any hC3 (by omega)).mono ?_
    rintro e w4 ⟨rfl, hC4, ho4⟩
    have hS1 := hR1.tape hC3 ho4
    have hS2 := hR2.tape hC3 ho4
    have hT4 := hT3.other hC3 ho4 (by omega)
    have hs4 : Hid (Still w w4) := Lib.hid (hs3.out.trans ho4 (fun i hi e => by omega))
    clear hR1 hR2 hT3 hC3 hs3 ho4 hC4
    go_wp2_with fail
    refine (draw_in hS1 hT4 (by omega) U (V : Int) (by rw [Hn1.out]; exact hUN) (by omega) (by have := lenO_le L U; omega)).mono ?_
    rintro e w5 ⟨rfl, hP5, hT5, ho5⟩
    rw [← Hsl.out, Hnx.out] at hP5 ⊢
    have hW2 := hS2.act hS1 hT4 ho5 (fun i hi hi' => hd12 i hi' hi)
    have hs5 : Hid (Still w w5) := Lib.hid (hs4.out.trans ho5 (fun i hi e => e.elim (fun e => by have := hge1 i e; omega) (fun e => by omega)))
    clear hS1 hS2 hT4 hs4 ho5 hlow
    have hw1 : IntKind.i64.wrap ((q : Int) + 1) = (q : Int) + 1 := by rw [IntKind.wrap_i64]; omega
    go_wp2_with (go_at_call 13; refine (used_any hT5).mono ?_; rintro e wz ⟨rfl, rfl⟩)
    have hfL : findI N1 L U id = none := by
      unfold findI
      rw [if_pos (by omega), Int.toNat_natCast]
      exact findO_none h2
    have hfN : findI N1 (L ++ [⟨U, (V : Int), id⟩]) U id = some (V : Int) := by
      unfold findI
      have hia : isAt U id ⟨U, (V : Int), id⟩ = true := isAt_iff.2 ⟨rfl, rfl⟩
      rw [if_pos (by omega), Int.toNat_natCast, findO_app, findO_none h2, if_pos hia]; rfl
    have hlN : lenI N1 (L ++ [⟨U, (V : Int), id⟩]) U = lenI N1 L U + 1 := by
      unfold lenI
      rw [if_pos (by omega), if_pos (by omega), Int.toNat_natCast, lenO_app]; simp
    obtain ⟨a, ha⟩ : ∃ a, a = lenI N1 L U := ⟨_, rfl⟩
    have ha200 : a ≤ 200 := by
      rw [ha]; unfold lenI
      split
      · exact Nat.le_trans (lenO_le _ _) hLlen
      · omega
    rw [← ha] at hlN
    have HfL := Lib.hid hfL
    have HfN := Lib.hid hfN
    have HlN := Lib.hid hlN
    have Ha := Lib.hid ha
    clear hfL hfN hlN ha hU' hV' hNw hNz hw1
    go_loopw [18, 21, 22, 23] (fun x i _ _ wr => ∃ j : Nat, j ≤ d ∧ x = .int .u16 ((s + j) % 65536 : Nat) ∧ i = .int .i64 j ∧ wr = w5) (fun _ i _ _ _ => d - (intOf i).toNat)
    case atStart => exact ⟨0, Nat.zero_le _, by rw [Nat.add_zero, Nat.mod_eq_of_lt hs64], rfl, rfl⟩
    case round =>
      obtain ⟨j, hj, rfl, rfl, rfl⟩ := hrel
      by_cases hlt : j < d
      · have hio := h3 j hlt
        have hne := isO_ne hio h2
        obtain ⟨y, hy⟩ : ∃ y, y = (s + j) % 65536 := ⟨_, rfl⟩
        have hyw : IntKind.u16.wrap ((y : Int) + 1) = ((s + (j + 1)) % 65536 : Nat) := by
          rw [hy]; exact next_wrap s j
        rw [← hy] at hio hne ⊢
        have hy64 : y < 65536 := by omega
        have hnei : ¬ (y : Int) = (id : Int) := by omega
        have hneb : ((y : Int) != (id : Int)) = true := by rw [bne_iff_ne]; exact hnei
        have hj400 : (j : Int) < 400 := by omega
        obtain ⟨v, hv⟩ : ∃ v, findI N1 L U y = some v := by
          rw [← findO_isO] at hio
          obtain ⟨v, hv⟩ := Option.isSome_iff_exists.1 hio
          refine ⟨v, ?_⟩
          unfold findI
          rw [if_pos (by omega), Int.toNat_natCast]
          exact hv
        have Hv := Lib.hid hv
        clear hv hy hio hne h3
        go_wp2_with fail
        refine (find_any hW2 U y hy64).mono ?_
        rintro e wz ⟨rfl, rfl⟩
        rw [Hn2.out, Hv.out]
        dsimp only [Option.getD, Option.isSome]
        go_wp2_with fail
        go_roundw
        case rel => exact ⟨j + 1, hlt, vint (by omega), by go_num, trivial⟩
        case measure => simp [intOf]; omega
      · obtain rfl : j = d := by omega
        rw [← Hid_.out]
        clear h3 Hid_
        go_wp2_with fail
        refine (find_any hW2 U id hid64).mono ?_
        rintro e wz ⟨rfl, rfl⟩
        rw [Hn2.out, HfL.out]
        dsimp only [Option.getD, Option.isSome]
        go_wp2_with fail
        refine (find_any hP5 U id hid64).mono ?_
        rintro e wz ⟨rfl, rfl⟩
        rw [Hn1.out, HfN.out]
        dsimp only [Option.getD, Option.isSome]
        go_wp2_with fail
        refine (len_any hP5 U).mono ?_
        rintro e wz ⟨rfl, rfl⟩
        rw [Hn1.out, HlN.out]
        go_wp2_with fail
        refine (len_any hW2 U).mono ?_
        rintro e wz ⟨rfl, rfl⟩
        rw [Hn2.out, ← Ha.out]
        go_wp2_with fail
        go_ret
        exact ⟨rfl, hs5.out⟩
  · go_enter Try.func6, Try.ntmps6
    by_cases g1 : (200 : Int) < (m : Int)
    · go_wp2_with (go_at_call 9; refine (pend_awake _).mono ?_; rintro e w0 ⟨rfl, ho0⟩)
      go_ret
      exact ⟨rfl, ho0⟩
    · have g3 : (300 : Int) < (n : Int) := by omega
      go_wp2_with (go_at_call 9; refine (pend_awake _).mono ?_; rintro e w0 ⟨rfl, ho0⟩)
      go_ret
      exact ⟨rfl, ho0⟩
theorem draw_all (W : World) (a0 : Int) (w0 : (Lit.int .i64 a0).wf = true) (a1 : Int) (w1 : (Lit.int .u64 a1).wf = true) (A : Option Addr) (n c : Nat) (xs : List Int) (hnc : n ≤ c) (hcm : c ≤ maxLen) (hA : A = none → n = 0 ∧ c = 0)
    (hr : Reads W W.heap.size 1 A n (xs.map (.int .u64))) (hx : ∀ z ∈ xs, (Lit.int .u64 z).wf = true)
    (A2 : Option Addr) (m c2 : Nat) (l : List A3) (hnc2 : m ≤ c2) (hcm2 : c2 ≤ maxLen) (hl : l.length = m) (hr2 : Reads W W.heap.size 3 A2 m (a3Cells l)) (hw2 : ∀ p ∈ l, A3ok p)
    (a4 : Int) (w4 : (Lit.int .i64 a4).wf = true) (a5 : Int) (w5 : (Lit.int .i64 a5).wf = true) :
    Calls Try.prog 6 #[.int .i64 a0, .int .u64 a1, .slice A n c, .slice A2 m c2, .int .i64 a4, .int .i64 a5] W fun e w' => e = .returned (.bool true) ∧ Still W w' :=
  draw_walk W a0 a1 (wf_u64 w1) A n c xs hA hr (fun z hz => wf_u64 (hx z hz)) A2 m c2 l hl hr2 a4 a5
end Go.Proofs.Ythbapdajmpplhaa
