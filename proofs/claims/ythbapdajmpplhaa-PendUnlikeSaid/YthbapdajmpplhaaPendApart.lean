/-
  PendApart: upstreams have IDs of their own; what is done with a copy changes nothing of the table; for any table, any tape, any acts, any ID.
-/
import Derived.Test.YthbapdajmpplhaaPendAwake
namespace Go.Proofs.Ythbapdajmpplhaa
open Go.RowKit
set_option linter.unusedVariables false
set_option linter.unusedSimpArgs false

section
variable {w w' : World} {t t3 g g3 n n3 : Nat} {bs bs3 : List Nat} {L L3 : List Out} {seed seed3 : Int} {xs xs3 : List Int}
theorem PT.act (h : PT w t bs L) (h3 : PT w t3 bs3 L3) (ht : Tape w g3 seed3 xs3 n3) (o : Only (fun i => i ∈ bs3 ∨ i = g3) w w') (hd : ∀ i ∈ bs3, i ∉ bs) : PT w' t bs L := by
  obtain ⟨f, hf, _⟩ := ht.src
  refine h.only o (fun i e hi => ?_) (fun i e cs T hc => ?_)
  · rcases e with e | e
    · exact hd i e hi
    · subst e
      obtain ⟨es, c, e'⟩ := h.map_blk hi
      unfold Blk at hf
      rw [hf] at e'
      cases e'
  · rcases e with e | e
    · obtain ⟨es, c, e'⟩ := h3.map_blk e
      rw [hc] at e'
      cases e'
    · subst e
      have : T = 74 := by
        unfold Blk at hf
        rw [hf] at hc
        cases hc
        rfl
      subst this
      exact ⟨by decide, by decide⟩
end

theorem n9 (u : Int) : ∃ N : Nat, (N : Int) = IntKind.u64.wrap u % 9 + 1 ∧ 1 ≤ N ∧ N ≤ 9 := ⟨(IntKind.u64.wrap u % 9).toNat + 1, by rw [IntKind.wrap_u64]; omega⟩

set_option maxRecDepth 1000000 in
set_option maxHeartbeats 12800000 in
theorem apart_walk (w : World) (u : Int) (seed : Int) (hs : 0 ≤ seed ∧ seed < 18446744073709551616) (A : Option Addr) (n c : Nat) (xs : List Int) (hA : A = none → n = 0 ∧ c = 0)
    (hr : Reads w w.heap.size 1 A n (xs.map (.int .u64))) (hx : ∀ x ∈ xs, 0 ≤ x ∧ x < 18446744073709551616)
    (A2 : Option Addr) (m c2 : Nat) (l : List A3) (hl : l.length = m) (hr2 : Reads w w.heap.size 3 A2 m (a3Cells l))
    (A3' : Option Addr) (m3 c3 : Nat) (l3 : List A3) (hl3 : l3.length = m3) (hr3 : Reads w w.heap.size 3 A3' m3 (a3Cells l3)) (id : Nat) (hid : id < 65536) :
    Calls Try.prog 8 #[.int .i64 u, .int .u64 seed, .slice A n c, .slice A2 m c2, .slice A3' m3 c3, .int .u16 id] w fun e w' => e = .returned (.bool true) ∧ Still w w' := by
  by_cases hbig : m ≤ 200 ∧ m3 ≤ 200 ∧ n ≤ 300
  · obtain ⟨hm, hm3, hn⟩ := hbig
    obtain ⟨N1, hN, hN1, hN9⟩ := n9 u
    have HN := Lib.hid hN
    have Hx := Lib.hid hx
    have Hl := Lib.hid hl
    have Hl3 := Lib.hid hl3
    clear hN hx hl hl3
    have g1 : ¬ (200 : Int) < (m : Int) := by omega
    have g2 : ¬ (200 : Int) < (m3 : Int) := by omega
    have g3 : ¬ (300 : Int) < (n : Int) := by omega
    obtain ⟨seed2, hs2⟩ : ∃ s, s = IntKind.u64.wrap (seed + 1) := ⟨_, rfl⟩
    have hsb : 0 ≤ seed2 ∧ seed2 < 18446744073709551616 := by rw [hs2, IntKind.wrap_u64]; omega
    have hs2' : IntKind.u64.wrap (seed + 1) = seed2 := hs2.symm
    clear hs2
    go_enter Try.func8, Try.ntmps8
    go_wp2_with fail
    refine (pend_awake _).mono ?_
    rintro e w0 ⟨rfl, ho0⟩
    go_wp2_with fail
    refine (made_any w0 u N1 HN.out seed hs A n c xs hA ((hr.only ho0 (Nat.le_refl _) (fun _ _ h => h)).more ho0.size) Hx.out hn A2 m c2 l Hl.out hm ((hr2.only ho0 (Nat.le_refl _) (fun _ _ h => h)).more ho0.size)).mono ?_
    rintro e w1 ⟨t, bs, g, rfl, hlen, hP1, hT1, ht1, hg1, hb1, hst1⟩
    have ho1 := ho0.still hst1
    have hz0 := ho0.size
    clear ho0 hst1
    go_wp2_with fail
    refine (made_any w1 u N1 HN.out seed hs A n c xs hA ((hr.only ho1 (Nat.le_refl _) (fun _ _ h => h)).more ho1.size) Hx.out hn A2 m c2 l Hl.out hm ((hr2.only ho1 (Nat.le_refl _) (fun _ _ h => h)).more ho1.size)).mono ?_
    rintro e w2 ⟨t', bs', g', rfl, hlen', hP2, hT2, ht2, hg2, hb2, hst2⟩
    have hP1' := hP1.still hst2
    have ho2 := ho1.still hst2
    have hdis : ∀ i ∈ bs', i ∉ bs := fun i hi hi' => by have := hb2 i hi; have := hP1.b_lt hi'; omega
    have hlt1 : ∀ i ∈ bs, i < w2.heap.size := fun i hi => hP1'.b_lt hi
    have hlt2 : ∀ i ∈ bs', i < w2.heap.size := fun i hi => hP2.b_lt hi
    have hge1 : ∀ i ∈ bs, w.heap.size ≤ i := fun i hi => by have := hb1 i hi; omega
    have hge2 : ∀ i ∈ bs', w.heap.size ≤ i := fun i hi => by have := hb2 i hi; have := ho1.size; omega
    have hn1 : bs.length = N1 := hlen
    have hn2 : bs'.length = N1 := hlen'
    have hrl := run_len N1 seed xs l ([], 0)
    rw [Hl.out] at hrl
    simp at hrl
    obtain ⟨L, hL⟩ : ∃ L, L = (run N1 seed xs l ([], 0)).1 := ⟨_, rfl⟩
    rw [← hL] at hP1' hP2 hrl
    have hLlen : L.length ≤ 200 := by omega
    have Hn1 := Lib.hid hn1
    have Hn2 := Lib.hid hn2
    clear hL hrl hlen hlen' hP1 hT1 hT2 ho1 hst2 ht1 hg1 hb1 ht2 hg2 hb2 hn1 hn2 hz0 g1 g2 g3
    go_wp2_with fail
    refine (copy_pend hP1').mono ?_
    rintro e w3 ⟨t3, bs3, rfl, hlen3, hP3, ht3, hb3, hst3⟩
    have hQ1 := hP1'.still hst3
    have hQ2 := hP2.still hst3
    have ho3 := ho2.still hst3
    have hd1 : ∀ i ∈ bs3, i ∉ bs := fun i hi hi' => by have := hb3 i hi; have := hlt1 i hi'; omega
    have hd2 : ∀ i ∈ bs3, i ∉ bs' := fun i hi hi' => by have := hb3 i hi; have := hlt2 i hi'; omega
    have hge3 : ∀ i ∈ bs3, w.heap.size ≤ i := fun i hi => by have := hb3 i hi; have := ho2.size; omega
    have Hn3 : Hid (bs3.length = N1) := Lib.hid (hlen3.trans Hn1.out)
    clear hP1' hP2 ho2 hst3 hlen3 ht3 hb3 hlt1 hlt2
    go_wp2_with fail
    refine (new_any seed2 A n c xs w3 ((hr.only ho3 (Nat.le_refl _) (fun _ _ h => h)).more ho3.size) hA (by omega) hsb.1 hsb.2 Hx.out).mono ?_
    rintro e w4 ⟨g3, rfl, hg3, hT4, hst4⟩
    have hR1 := hQ1.still hst4
    have hR2 := hQ2.still hst4
    have hR3 := hP3.still hst4
    have ho4 := ho3.still hst4
    have hgw : w.heap.size ≤ g3 := by have := ho3.size; omega
    have hz4 := ho4.size
    clear hQ1 hQ2 hP3 ho3 hst4 hg3
    go_wp2_with fail
    go_loopw [21] (fun i wr => ∃ k : Nat, k ≤ m3 ∧ i = .int .i64 k ∧ PT wr t bs L ∧ PT wr t' bs' L ∧ PT wr t3 bs3 (run N1 seed2 xs (l3.take k) (L, 0)).1 ∧ Tape wr g3 seed2 xs (run N1 seed2 xs (l3.take k) (L, 0)).2 ∧ Hid (Still w wr)) (fun i _ => m3 - (intOf i).toNat)
    case atStart => exact ⟨0, Nat.zero_le _, rfl, hR1, hR2, hR3, hT4, Lib.hid ho4⟩
    case round =>
      clear hR1 hR2 hR3 hT4
      obtain ⟨k, hk, rfl, hP1, hP2, hP3, hT, hst⟩ := hrel
      by_cases hlt : k < m3
      · have hrr := hr3.only hst.out (Nat.le_refl _) (fun _ _ h => h)
        obtain ⟨bl, off, x, y, z, rfl, hbl, hlk, d0, d1, d2⟩ := a3_cells hrr Hl3.out hlt
        have hrl := run_len N1 seed2 xs (l3.take k) (L, 0)
        have htk := take_len (l := l3) k
        have hL1 := Hl3.out
        have Hs := Lib.hid (run_succ N1 seed2 xs l3 (L, 0) hlk)
        obtain ⟨s, hs⟩ : ∃ s, s = run N1 seed2 xs (l3.take k) (L, 0) := ⟨_, rfl⟩
        rw [← hs] at hP3 hT hrl Hs
        simp at hrl
        have b1 : s.2 ≤ 1000000 := by omega
        have b2 : s.1.length ≤ 10000 := by omega
        clear hs hrl htk hL1 hlk hrr
        go_wp2_with (go_at_call 27; refine (does_any hP3 hT b1 b2 x y z).mono ?_; rintro e w5 ⟨rfl, r1, r2, r3⟩)
        rw [Hn3.out, ← Hs.out] at r1 r2
        go_roundw
        case rel => exact ⟨k + 1, hlt, by go_num, hP1.act hP3 hT r3 hd1, hP2.act hP3 hT r3 hd2, r1, r2, Lib.hid (hst.out.trans r3 (fun i hi e => e.elim (fun e => by have := hge3 i e; omega) (fun e => by omega)))⟩
        case measure => simp [intOf]; omega
      · clear hP3 hT hr hr2 hr3 hd1 hd2
        have ho5 := hst.out
        clear hst ho4
        obtain ⟨v1, hv1⟩ : ∃ f : Nat → Int, f = fun (j : Nat) => (findI N1 L (j : Int) id).getD 0 := ⟨_, rfl⟩
        obtain ⟨v2, hv2⟩ : ∃ f : Nat → Bool, f = fun (j : Nat) => (findI N1 L (j : Int) id).isSome := ⟨_, rfl⟩
        obtain ⟨v3, hv3⟩ : ∃ f : Nat → Nat, f = fun (j : Nat) => lenI N1 L (j : Int) := ⟨_, rfl⟩
        have F1 : ∀ (w : World) (t : Nat) (bs : List Nat), PT w t bs L → bs.length = N1 → ∀ j : Nat, Calls Try.prog 17 #[.pointer (some ⟨t, 0, none⟩), .int .i64 j, .int .u16 id] w fun e w' =>
            e = .returned (.tuple #[.int .i64 (v1 j), .bool (v2 j)]) ∧ w = w' := fun w t bs hP hl j => by
          rw [hv1, hv2]
          have := find_any hP j id hid
          rw [hl] at this
          exact this
        have F2 : ∀ (w : World) (t : Nat) (bs : List Nat), PT w t bs L → bs.length = N1 → ∀ j : Nat, Calls Try.prog 14 #[.pointer (some ⟨t, 0, none⟩), .int .i64 j] w fun e w' =>
            e = .returned (.int .i64 (v3 j : Nat)) ∧ w = w' := fun w t bs hP hl j => by
          rw [hv3]
          have := len_any hP j
          rw [hl] at this
          exact this
        clear hv1 hv2 hv3
        go_wp2_with fail
        go_loopw [22] (fun i wr' => ∃ j : Nat, j ≤ N1 ∧ i = .int .i64 j ∧ wr' = wr) (fun i _ => N1 - (intOf i).toNat)
        case atStart => exact ⟨0, Nat.zero_le _, rfl, rfl⟩
        case round =>
          obtain ⟨j, hj, rfl, rfl⟩ := hrel
          by_cases hlj : j < N1
          · go_wp2_with fail
            refine (F1 _ _ _ hP1 Hn1.out j).mono ?_
            rintro e wz ⟨rfl, rfl⟩
            go_wp2_with fail
            refine (F1 _ _ _ hP2 Hn2.out j).mono ?_
            rintro e wz ⟨rfl, rfl⟩
            go_wp2_with fail
            refine (F2 _ _ _ hP1 Hn1.out j).mono ?_
            rintro e wz ⟨rfl, rfl⟩
            go_wp2_with fail
            refine (F2 _ _ _ hP2 Hn2.out j).mono ?_
            rintro e wz ⟨rfl, rfl⟩
            go_wp2_with fail
            go_roundw
            case rel => exact ⟨j + 1, hlj, rfl, trivial⟩
            case measure => simp [intOf]; omega
          · obtain rfl : j = N1 := by omega
            clear F1 F2
            go_wp2_with fail
            go_loopw [27] (fun i wr' => ∃ (j : Nat) (L' : List Out), j ≤ 32 ∧ i = .int .i64 j ∧ L'.length ≤ 200 ∧ PT wr' t bs L' ∧ PT wr' t' bs' L' ∧ Hid (Still w wr')) (fun i _ => 32 - (intOf i).toNat)
            case atStart => exact ⟨0, L, by omega, rfl, hLlen, hP1, hP2, Lib.hid ho5⟩
            case round =>
              clear hP1 hP2 ho5
              obtain ⟨j, L', hj, rfl, hLl, hP1, hP2, hst⟩ := hrel
              by_cases hlj : j < 32
              · obtain ⟨r, hr⟩ : ∃ r, r = L'.length - (freeO j L').length := ⟨_, rfl⟩
                go_wp2_with fail
                refine (free_any hP1 j (by omega)).mono ?_
                rintro e w6 ⟨rfl, hQ1, hO1⟩
                rw [← hr]
                have hQ2 := hP2.other hP1 hO1 (fun i hi hi' => hdis i hi' hi)
                have hs6 : Hid (Still w w6) := Lib.hid (hst.out.trans hO1 (fun i hi e => by have := hge1 i e; omega))
                have hR := Lib.hid hr
                clear hr hP1 hP2 hst
                go_wp2_with fail
                refine (free_any hQ2 j (by omega)).mono ?_
                rintro e w7 ⟨rfl, hR2, hO2⟩
                rw [← hR.out]
                have hR1 := hQ1.other hQ2 hO2 hdis
                have hs7 : Hid (Still w w7) := Lib.hid (hs6.out.trans hO2 (fun i hi e => by have := hge2 i e; omega))
                clear hQ1 hQ2 hs6 hO1 hO2 hR
                go_wp2_with fail
                go_roundw
                case rel => exact ⟨j + 1, freeO j L', by omega, by go_num, Nat.le_trans (List.length_filter_le _ _) hLl, hR1, hR2, hs7⟩
                case measure => simp [intOf]; omega
              · go_wp2_with fail
                go_ret
                exact ⟨rfl, hst.out⟩
  · go_enter Try.func8, Try.ntmps8
    by_cases g1 : (200 : Int) < (m : Int)
    · go_wp2_with (go_at_call 9; refine (pend_awake _).mono ?_; rintro e w0 ⟨rfl, ho0⟩)
      go_ret
      exact ⟨rfl, ho0⟩
    · by_cases g2 : (200 : Int) < (m3 : Int)
      · go_wp2_with (go_at_call 9; refine (pend_awake _).mono ?_; rintro e w0 ⟨rfl, ho0⟩)
        go_ret
        exact ⟨rfl, ho0⟩
      · have g3 : (300 : Int) < (n : Int) := by omega
        go_wp2_with (go_at_call 9; refine (pend_awake _).mono ?_; rintro e w0 ⟨rfl, ho0⟩)
        go_ret
        exact ⟨rfl, ho0⟩
theorem apart_all (W : World) (a0 : Int) (w0 : (Lit.int .i64 a0).wf = true) (a1 : Int) (w1 : (Lit.int .u64 a1).wf = true) (A : Option Addr) (n c : Nat) (xs : List Int) (hnc : n ≤ c) (hcm : c ≤ maxLen) (hA : A = none → n = 0 ∧ c = 0)
    (hr : Reads W W.heap.size 1 A n (xs.map (.int .u64))) (hx : ∀ z ∈ xs, (Lit.int .u64 z).wf = true)
    (A2 : Option Addr) (m c2 : Nat) (l : List A3) (hnc2 : m ≤ c2) (hcm2 : c2 ≤ maxLen) (hl : l.length = m) (hr2 : Reads W W.heap.size 3 A2 m (a3Cells l)) (hw2 : ∀ p ∈ l, A3ok p)
    (A3' : Option Addr) (m3 c3 : Nat) (l3 : List A3) (hnc3 : m3 ≤ c3) (hcm3 : c3 ≤ maxLen) (hl3 : l3.length = m3) (hr3 : Reads W W.heap.size 3 A3' m3 (a3Cells l3)) (hw3 : ∀ p ∈ l3, A3ok p) (a5 : Int) (w5 : (Lit.int .u16 a5).wf = true) :
    Calls Try.prog 8 #[.int .i64 a0, .int .u64 a1, .slice A n c, .slice A2 m c2, .slice A3' m3 c3, .int .u16 a5] W fun e w' => e = .returned (.bool true) ∧ Still W w' := by
  have h5 := wf_u16 w5
  obtain ⟨i, rfl⟩ : ∃ i : Nat, a5 = (i : Int) := ⟨a5.toNat, by omega⟩
  exact apart_walk W a0 a1 (wf_u64 w1) A n c xs hA hr (fun z hz => wf_u64 (hx z hz)) A2 m c2 l hl hr2 A3' m3 c3 l3 hl3 hr3 i (by omega)
end Go.Proofs.Ythbapdajmpplhaa
