/-
  PendFree: what is freed is out no more; all others are as they were; for any table, any tape, any acts, which slot, where.
-/
import Derived.Test.YthbapdajmpplhaaPendApart
namespace Go.Proofs.Ythbapdajmpplhaa
open Go.RowKit
set_option linter.unusedVariables false
set_option linter.unusedSimpArgs false

theorem fI_twice (n : Nat) (s u : Int) (L : List Out) : freeAtI n s u (freeAtI n s u L) = freeAtI n s u L := by
  unfold freeAtI
  split
  · unfold freeAtO
    rw [List.filter_filter]
    refine List.filter_congr (fun o _ => ?_)
    simp
  · rfl
theorem fO_fI (n : Nat) (s u : Int) (L : List Out) : freeO s (freeAtI n s u L) = freeO s L := by
  unfold freeAtI
  split
  · unfold freeAtO freeO
    rw [List.filter_filter]
    refine List.filter_congr (fun o _ => ?_)
    by_cases h : o.slot = s <;> simp [h]
  · rfl
theorem fO_twice (s : Int) (L : List Out) : freeO s (freeO s L) = freeO s L := by
  unfold freeO
  rw [List.filter_filter]
  refine List.filter_congr (fun o _ => ?_)
  simp
theorem fO_le (s : Int) (L : List Out) : (freeO s L).length ≤ L.length := List.length_filter_le _ _
theorem gone_at {n : Nat} {s u : Int} {L : List Out} {k : Nat} (hk : k < n) : lenI n (freeAtI n s u L) k ≤ lenI n L k ∧ lenI n L k - lenI n (freeAtI n s u L) k = if (k : Int) = u then L.length - (freeAtI n s u L).length else 0 := by
  have hk' : 0 ≤ (k : Int) ∧ (k : Int) < n := by omega
  unfold lenI
  rw [if_pos hk', if_pos hk', Int.toNat_natCast]
  unfold freeAtI
  by_cases hu : 0 ≤ u ∧ u < n
  · rw [if_pos hu]
    by_cases e : (k : Int) = u
    · rw [if_pos e]
      subst e
      rw [Int.toNat_natCast]
      have := freeAt_len s k L
      omega
    · rw [if_neg e]
      have : lenO (freeAtO s u.toNat L) k = lenO L k := lenO_filter L k _ (fun o _ ho => by
        have : ¬ o.u = u.toNat := by omega
        simp [this])
      omega
  · rw [if_neg hu]
    have : ¬ (k : Int) = u := by omega
    rw [if_neg this]
    omega

set_option maxRecDepth 1000000 in
set_option maxHeartbeats 12800000 in
theorem free_walk (w : World) (ups : Int) (seed : Int) (hs : 0 ≤ seed ∧ seed < 18446744073709551616) (A : Option Addr) (n c : Nat) (xs : List Int) (hA : A = none → n = 0 ∧ c = 0)
    (hr : Reads w w.heap.size 1 A n (xs.map (.int .u64))) (hx : ∀ x ∈ xs, 0 ≤ x ∧ x < 18446744073709551616)
    (A2 : Option Addr) (m c2 : Nat) (l : List A3) (hl : l.length = m) (hr2 : Reads w w.heap.size 3 A2 m (a3Cells l)) (slot u : Int) :
    Calls Try.prog 7 #[.int .i64 ups, .int .u64 seed, .slice A n c, .slice A2 m c2, .int .i64 slot, .int .i64 u] w fun e w' => e = .returned (.bool true) ∧ Still w w' := by
  by_cases hbig : m ≤ 200 ∧ n ≤ 300
  · obtain ⟨hm, hn⟩ := hbig
    obtain ⟨N1, hN, hN1, hN9⟩ := n9 ups
    have HN := Lib.hid hN
    have Hx := Lib.hid hx
    have Hl := Lib.hid hl
    clear hN hx hl
    have g1 : ¬ (200 : Int) < (m : Int) := by omega
    have g2 : ¬ (300 : Int) < (n : Int) := by omega
    go_enter Try.func7, Try.ntmps7
    go_wp2_with fail
    refine (pend_awake _).mono ?_
    rintro e w0 ⟨rfl, ho0⟩
    go_wp2_with fail
    refine (made_any w0 ups N1 HN.out seed hs A n c xs hA ((hr.only ho0 (Nat.le_refl _) (fun _ _ h => h)).more ho0.size) Hx.out hn A2 m c2 l Hl.out hm ((hr2.only ho0 (Nat.le_refl _) (fun _ _ h => h)).more ho0.size)).mono ?_
    rintro e w1 ⟨t, bs, g, rfl, hlen, hP1, hT1, ht1, hg1, hb1, hst1⟩
    have hs1 : Hid (Still w w1) := Lib.hid (ho0.still hst1)
    have hge1 : ∀ i ∈ bs, w.heap.size ≤ i := fun i hi => by have := hb1 i hi; have := ho0.size; omega
    have hrl := run_len N1 seed xs l ([], 0)
    rw [Hl.out] at hrl
    simp at hrl
    obtain ⟨L, hL⟩ : ∃ L, L = (run N1 seed xs l ([], 0)).1 := ⟨_, rfl⟩
    rw [← hL] at hP1 hrl
    have hLlen : L.length ≤ 200 := by omega
    have Hn1 := Lib.hid hlen
    clear hL hrl hlen hT1 ho0 hst1 ht1 hg1 hb1 hr hr2 g1 g2
    obtain ⟨L1, hL1⟩ : ∃ L1, L1 = freeAtI N1 slot u L := ⟨_, rfl⟩
    have e2 : freeAtI N1 slot u L1 = L1 := by rw [hL1]; exact fI_twice _ _ _ _
    have e3 : freeO slot L1 = freeO slot L := by rw [hL1]; exact fO_fI _ _ _ _
    have hle1 : L1.length ≤ L.length := by rw [hL1]; exact freeAtI_len _ _ _ _
    have hle2 := fO_le slot L1
    have hgone : ∀ k, k < N1 → lenI N1 L1 k ≤ lenI N1 L k ∧ lenI N1 L k - lenI N1 L1 k = if (k : Int) = u then L.length - L1.length else 0 := fun k hk => by rw [hL1]; exact gone_at hk
    have hout : ¬ (0 ≤ u ∧ u < N1) → L1 = L := fun h => by rw [hL1]; unfold freeAtI; rw [if_neg h]
    obtain ⟨h, hh⟩ : ∃ h, h = L.length - L1.length := ⟨_, rfl⟩
    obtain ⟨r, hr⟩ : ∃ r, r = L1.length - (freeO slot L1).length := ⟨_, rfl⟩
    have hsum : L.length - (freeO slot L).length = h + r := by rw [← e3]; omega
    rw [← hh] at hgone
    have Hh := Lib.hid hh
    have Hr := Lib.hid hr
    have Hs := Lib.hid hsum
    have HL1 := Lib.hid hL1
    have E2 := Lib.hid e2
    have E3 := Lib.hid e3
    have h200 : h ≤ 200 := by omega
    have r200 : r ≤ 200 := by omega
    have hL1len : L1.length ≤ 200 := by omega
    have hout' : ¬ (0 ≤ u ∧ u < N1) → h = 0 := fun hu => by rw [hh, hout hu]; omega
    clear hh hr hsum hL1 e2 e3 hle1 hle2 hout
    go_wp2_with fail
    refine (copy_pend hP1).mono ?_
    rintro e w2 ⟨t2, bs2, rfl, hlen2, hP2, ht2, hb2, hst2⟩
    have hQ1 := hP1.still hst2
    have hs2 : Hid (Still w w2) := Lib.hid (hs1.out.still hst2)
    have hd12 : ∀ i ∈ bs2, i ∉ bs := fun i hi hi' => by have := hb2 i hi; have := hP1.b_lt hi'; omega
    have hge2 : ∀ i ∈ bs2, w.heap.size ≤ i := fun i hi => by have := hb2 i hi; have := hs1.out.size; omega
    have Hn2 : Hid (bs2.length = N1) := Lib.hid (hlen2.trans Hn1.out)
    clear hP1 hs1 hst2 hlen2 ht2 hb2
    go_wp2_with fail
    refine (freeAt_any hQ1 slot u).mono ?_
    rintro e w3 ⟨rfl, hR1, ho3⟩
    rw [Hn1.out, ← HL1.out] at hR1 ⊢
    rw [← Hh.out]
    have hR2 := hP2.other hQ1 ho3 (fun i hi hi' => hd12 i hi' hi)
    have hs3 : Hid (Still w w3) := Lib.hid (hs2.out.trans ho3 (fun i hi e => by have := hge1 i e; omega))
    clear hQ1 hP2 hs2 ho3 HL1 Hh
    go_wp2_with fail
    refine (copy_pend hR1).mono ?_
    rintro e w4 ⟨t3, bs3, rfl, hlen3, hP3, ht3, hb3, hst4⟩
    have hS1 := hR1.still hst4
    have hS2 := hR2.still hst4
    have hs4 : Hid (Still w w4) := Lib.hid (hs3.out.still hst4)
    have hd13 : ∀ i ∈ bs3, i ∉ bs := fun i hi hi' => by have := hb3 i hi; have := hR1.b_lt hi'; omega
    have hd23 : ∀ i ∈ bs3, i ∉ bs2 := fun i hi hi' => by have := hb3 i hi; have := hR2.b_lt hi'; omega
    have hge3 : ∀ i ∈ bs3, w.heap.size ≤ i := fun i hi => by have := hb3 i hi; have := hs3.out.size; omega
    clear hR1 hR2 hs3 hst4 hlen3 ht3 hb3
    go_wp2_with fail
    refine (free_any hP3 slot (by omega)).mono ?_
    rintro e w5 ⟨rfl, _, ho5⟩
    rw [← Hr.out]
    have hU1 := hS1.other hP3 ho5 hd13
    have hU2 := hS2.other hP3 ho5 hd23
    have hs5 : Hid (Still w w5) := Lib.hid (hs4.out.trans ho5 (fun i hi e => by have := hge3 i e; omega))
    clear hS1 hS2 hP3 hs4 ho5 hd13 hd23 hge3
    go_wp2_with fail
    refine (freeAt_any hU1 slot u).mono ?_
    rintro e w6 ⟨rfl, hV1, ho6⟩
    rw [Hn1.out, E2.out] at hV1 ⊢
    rw [Nat.sub_self]
    have hV2 := hU2.other hU1 ho6 (fun i hi hi' => hd12 i hi' hi)
    have hs6 : Hid (Still w w6) := Lib.hid (hs5.out.trans ho6 (fun i hi e => by have := hge1 i e; omega))
    clear hU1 hU2 hs5 ho6 E2
    by_cases hu0 : u < 0
    · have h0 : h = 0 := hout' (by omega)
      subst h0
      have d0 : decide (u < 0) = true := decide_eq_true hu0
      go_wp2_with fail
      refine (copy_pend hV2).mono ?_
      rintro e w7 ⟨t4, bs4, rfl, hlen4, hP4, ht4, hb4, hst7⟩
      have hW1 := hV1.still hst7
      have hW2 := hV2.still hst7
      have hs7 : Hid (Still w w7) := Lib.hid (hs6.out.still hst7)
      have hd14 : ∀ i ∈ bs4, i ∉ bs := fun i hi hi' => by have := hb4 i hi; have := hV1.b_lt hi'; omega
      have hd24 : ∀ i ∈ bs4, i ∉ bs2 := fun i hi hi' => by have := hb4 i hi; have := hV2.b_lt hi'; omega
      have hge4 : ∀ i ∈ bs4, w.heap.size ≤ i := fun i hi => by have := hb4 i hi; have := hs6.out.size; omega
      clear hV1 hV2 hs6 hst7 hlen4 ht4 hb4
      go_wp2_with fail
      refine (free_any hP4 slot (by omega)).mono ?_
      rintro e w8 ⟨rfl, _, ho8⟩
      rw [Hs.out]
      have hX1 := hW1.other hP4 ho8 hd14
      have hX2 := hW2.other hP4 ho8 hd24
      have hs8 : Hid (Still w w8) := Lib.hid (hs7.out.trans ho8 (fun i hi e => by have := hge4 i e; omega))
      clear hW1 hW2 hP4 hs7 ho8 hd14 hd24 hge4
      go_wp2_with fail
      go_loopw [19, 20] (fun i _ wr => ∃ k : Nat, k ≤ N1 ∧ i = .int .i64 k ∧ wr = w8) (fun i _ _ => N1 - (intOf i).toNat)
      case atStart => exact ⟨0, Nat.zero_le _, rfl, rfl⟩
      case round =>
        obtain ⟨k, hk, rfl, rfl⟩ := hrel
        by_cases hlt : k < N1
        · obtain ⟨j1, j2⟩ := hgone k hlt
          have hl1 : lenI N1 L k ≤ 200 := by
            unfold lenI
            split
            · exact Nat.le_trans (lenO_le _ _) hLlen
            · omega
          obtain ⟨a, ha⟩ : ∃ a, a = lenI N1 L k := ⟨_, rfl⟩
          obtain ⟨b, hb⟩ : ∃ b, b = lenI N1 L1 k := ⟨_, rfl⟩
          rw [← ha, ← hb] at j1 j2
          rw [← ha] at hl1
          have Ha := Lib.hid ha
          have Hb := Lib.hid hb
          clear ha hb hgone hout'
          have hku : ¬ (k : Int) = u := by omega
          rw [if_neg hku] at j2
          have hab : (a : Int) - b = 0 := by omega
          have hw : IntKind.i64.wrap ((a : Int) - b) = 0 := by rw [hab]; rfl
          have d1 : ((k : Int) == u) = false := by rw [beq_eq_false_iff_ne]; exact hku
          have d2 : decide ((k : Int) = u) = false := decide_eq_false hku
          clear j1 j2
          go_wp2_with fail
          refine (len_any hX2 k).mono ?_
          rintro e wz ⟨rfl, rfl⟩
          rw [Hn2.out, ← Ha.out]
          go_wp2_with fail
          refine (len_any hX1 k).mono ?_
          rintro e wz ⟨rfl, rfl⟩
          rw [Hn1.out, ← Hb.out]
          go_wp2_with fail
          go_roundw
          case rel => exact ⟨k + 1, hlt, by go_num, trivial⟩
          case measure => simp [intOf]; omega
        · clear hgone hout'
          go_wp2_with fail
          refine (copy_pend hX1).mono ?_
          rintro e w9 ⟨t5, bs5, rfl, hlen5, hP5, ht5, hb5, hst9⟩
          have hs9 : Hid (Still w w9) := Lib.hid (hs8.out.still hst9)
          have hge5 : ∀ i ∈ bs5, w.heap.size ≤ i := fun i hi => by have := hb5 i hi; have := hs8.out.size; omega
          clear hX1 hX2 hs8 hst9 hlen5 ht5 hb5
          go_wp2_with fail
          refine (free_any hP5 slot (by omega)).mono ?_
          rintro e w10 ⟨rfl, hP6, ho10⟩
          rw [← Hr.out]
          have hs10 : Hid (Still w w10) := Lib.hid (hs9.out.trans ho10 (fun i hi e => by have := hge5 i e; omega))
          clear hP5 hs9 ho10
          go_wp2_with fail
          refine (free_any hP6 slot (by have := fO_le slot L1; omega)).mono ?_
          rintro e w11 ⟨rfl, _, ho11⟩
          rw [fO_twice, Nat.sub_self]
          go_wp2_with fail
          go_ret
          exact ⟨rfl, hs10.out.trans ho11 (fun i hi e => by have := hge5 i e; omega)⟩
    · have d0 : decide (u < 0) = false := decide_eq_false hu0
      by_cases hu1 : (N1 : Int) ≤ u
      · have h0 : h = 0 := hout' (by omega)
        subst h0
        have d3 : decide ((N1 : Int) ≤ u) = true := decide_eq_true hu1
        go_wp2_with fail
        refine (copy_pend hV2).mono ?_
        rintro e w7 ⟨t4, bs4, rfl, hlen4, hP4, ht4, hb4, hst7⟩
        have hW1 := hV1.still hst7
        have hW2 := hV2.still hst7
        have hs7 : Hid (Still w w7) := Lib.hid (hs6.out.still hst7)
        have hd14 : ∀ i ∈ bs4, i ∉ bs := fun i hi hi' => by have := hb4 i hi; have := hV1.b_lt hi'; omega
        have hd24 : ∀ i ∈ bs4, i ∉ bs2 := fun i hi hi' => by have := hb4 i hi; have := hV2.b_lt hi'; omega
        have hge4 : ∀ i ∈ bs4, w.heap.size ≤ i := fun i hi => by have := hb4 i hi; have := hs6.out.size; omega
        clear hV1 hV2 hs6 hst7 hlen4 ht4 hb4
        go_wp2_with fail
        refine (free_any hP4 slot (by omega)).mono ?_
        rintro e w8 ⟨rfl, _, ho8⟩
        rw [Hs.out]
        have hX1 := hW1.other hP4 ho8 hd14
        have hX2 := hW2.other hP4 ho8 hd24
        have hs8 : Hid (Still w w8) := Lib.hid (hs7.out.trans ho8 (fun i hi e => by have := hge4 i e; omega))
        clear hW1 hW2 hP4 hs7 ho8 hd14 hd24 hge4
        go_wp2_with fail
        go_loopw [19, 20] (fun i _ wr => ∃ k : Nat, k ≤ N1 ∧ i = .int .i64 k ∧ wr = w8) (fun i _ _ => N1 - (intOf i).toNat)
        case atStart => exact ⟨0, Nat.zero_le _, rfl, rfl⟩
        case round =>
          obtain ⟨k, hk, rfl, rfl⟩ := hrel
          by_cases hlt : k < N1
          · obtain ⟨j1, j2⟩ := hgone k hlt
            have hl1 : lenI N1 L k ≤ 200 := by
              unfold lenI
              split
              · exact Nat.le_trans (lenO_le _ _) hLlen
              · omega
            obtain ⟨a, ha⟩ : ∃ a, a = lenI N1 L k := ⟨_, rfl⟩
            obtain ⟨b, hb⟩ : ∃ b, b = lenI N1 L1 k := ⟨_, rfl⟩
            rw [← ha, ← hb] at j1 j2
            rw [← ha] at hl1
            have Ha := Lib.hid ha
            have Hb := Lib.hid hb
            clear ha hb hgone hout'
            have hku : ¬ (k : Int) = u := by omega
            rw [if_neg hku] at j2
            have hab : (a : Int) - b = 0 := by omega
            have hw : IntKind.i64.wrap ((a : Int) - b) = 0 := by rw [hab]; rfl
            have d1 : ((k : Int) == u) = false := by rw [beq_eq_false_iff_ne]; exact hku
            have d2 : decide ((k : Int) = u) = false := decide_eq_false hku
            clear j1 j2
            go_wp2_with fail
            refine (len_any hX2 k).mono ?_
            rintro e wz ⟨rfl, rfl⟩
            rw [Hn2.out, ← Ha.out]
            go_wp2_with fail
            refine (len_any hX1 k).mono ?_
            rintro e wz ⟨rfl, rfl⟩
            rw [Hn1.out, ← Hb.out]
            go_wp2_with fail
            go_roundw
            case rel => exact ⟨k + 1, hlt, by go_num, trivial⟩
            case measure => simp [intOf]; omega
          · clear hgone hout'
            go_wp2_with fail
            refine (copy_pend hX1).mono ?_
            rintro e w9 ⟨t5, bs5, rfl, hlen5, hP5, ht5, hb5, hst9⟩
            have hs9 : Hid (Still w w9) := Lib.hid (hs8.out.still hst9)
            have hge5 : ∀ i ∈ bs5, w.heap.size ≤ i := fun i hi => by have := hb5 i hi; have := hs8.out.size; omega
            clear hX1 hX2 hs8 hst9 hlen5 ht5 hb5
            go_wp2_with fail
            refine (free_any hP5 slot (by omega)).mono ?_
            rintro e w10 ⟨rfl, hP6, ho10⟩
            rw [← Hr.out]
            have hs10 : Hid (Still w w10) := Lib.hid (hs9.out.trans ho10 (fun i hi e => by have := hge5 i e; omega))
            clear hP5 hs9 ho10
            go_wp2_with fail
            refine (free_any hP6 slot (by have := fO_le slot L1; omega)).mono ?_
            rintro e w11 ⟨rfl, _, ho11⟩
            rw [fO_twice, Nat.sub_self]
            go_wp2_with fail
            go_ret
            exact ⟨rfl, hs10.out.trans ho11 (fun i hi e => by have := hge5 i e; omega)⟩
      · have d3 : decide ((N1 : Int) ≤ u) = false := decide_eq_false hu1
        go_wp2_with fail
        refine (copy_pend hV2).mono ?_
        rintro e w7 ⟨t4, bs4, rfl, hlen4, hP4, ht4, hb4, hst7⟩
        have hW1 := hV1.still hst7
        have hW2 := hV2.still hst7
        have hs7 : Hid (Still w w7) := Lib.hid (hs6.out.still hst7)
        have hd14 : ∀ i ∈ bs4, i ∉ bs := fun i hi hi' => by have := hb4 i hi; have := hV1.b_lt hi'; omega
        have hd24 : ∀ i ∈ bs4, i ∉ bs2 := fun i hi hi' => by have := hb4 i hi; have := hV2.b_lt hi'; omega
        have hge4 : ∀ i ∈ bs4, w.heap.size ≤ i := fun i hi => by have := hb4 i hi; have := hs6.out.size; omega
        clear hV1 hV2 hs6 hst7 hlen4 ht4 hb4
        go_wp2_with fail
        refine (free_any hP4 slot (by omega)).mono ?_
        rintro e w8 ⟨rfl, _, ho8⟩
        rw [Hs.out]
        have hX1 := hW1.other hP4 ho8 hd14
        have hX2 := hW2.other hP4 ho8 hd24
        have hs8 : Hid (Still w w8) := Lib.hid (hs7.out.trans ho8 (fun i hi e => by have := hge4 i e; omega))
        clear hW1 hW2 hP4 hs7 ho8 hd14 hd24 hge4
        go_wp2_with fail
        go_loopw [19, 20] (fun i _ wr => ∃ k : Nat, k ≤ N1 ∧ i = .int .i64 k ∧ wr = w8) (fun i _ _ => N1 - (intOf i).toNat)
        case atStart => exact ⟨0, Nat.zero_le _, rfl, rfl⟩
        case round =>
          obtain ⟨k, hk, rfl, rfl⟩ := hrel
          by_cases hlt : k < N1
          · obtain ⟨j1, j2⟩ := hgone k hlt
            have hl1 : lenI N1 L k ≤ 200 := by
              unfold lenI
              split
              · exact Nat.le_trans (lenO_le _ _) hLlen
              · omega
            obtain ⟨a, ha⟩ : ∃ a, a = lenI N1 L k := ⟨_, rfl⟩
            obtain ⟨b, hb⟩ : ∃ b, b = lenI N1 L1 k := ⟨_, rfl⟩
            rw [← ha, ← hb] at j1 j2
            rw [← ha] at hl1
            have Ha := Lib.hid ha
            have Hb := Lib.hid hb
            clear ha hb hgone hout'
            by_cases hku : (k : Int) = u
            · rw [if_pos hku] at j2
              have hab : (a : Int) - b = h := by omega
              have hw : IntKind.i64.wrap ((a : Int) - b) = h := by rw [hab, IntKind.wrap_i64]; omega
              subst hku
              clear j1 j2
              go_wp2_with fail
              refine (len_any hX2 k).mono ?_
              rintro e wz ⟨rfl, rfl⟩
              rw [Hn2.out, ← Ha.out]
              go_wp2_with fail
              refine (len_any hX1 k).mono ?_
              rintro e wz ⟨rfl, rfl⟩
              rw [Hn1.out, ← Hb.out]
              go_wp2_with fail
              go_roundw
              case rel => exact ⟨k + 1, hlt, by go_num, trivial⟩
              case measure => simp [intOf]; omega
            · rw [if_neg hku] at j2
              have hab : (a : Int) - b = 0 := by omega
              have hw : IntKind.i64.wrap ((a : Int) - b) = 0 := by rw [hab]; rfl
              have d1 : ((k : Int) == u) = false := by rw [beq_eq_false_iff_ne]; exact hku
              have d2 : decide ((k : Int) = u) = false := decide_eq_false hku
              clear j1 j2
              go_wp2_with fail
              refine (len_any hX2 k).mono ?_
              rintro e wz ⟨rfl, rfl⟩
              rw [Hn2.out, ← Ha.out]
              go_wp2_with fail
              refine (len_any hX1 k).mono ?_
              rintro e wz ⟨rfl, rfl⟩
              rw [Hn1.out, ← Hb.out]
              go_wp2_with fail
              go_roundw
              case rel => exact ⟨k + 1, hlt, by go_num, trivial⟩
              case measure => simp [intOf]; omega
          · clear hgone hout'
            go_wp2_with fail
            refine (copy_pend hX1).mono ?_
            rintro e w9 ⟨t5, bs5, rfl, hlen5, hP5, ht5, hb5, hst9⟩
            have hs9 : Hid (Still w w9) := Lib.hid (hs8.out.still hst9)
            have hge5 : ∀ i ∈ bs5, w.heap.size ≤ i := fun i hi => by have := hb5 i hi; have := hs8.out.size; omega
            clear hX1 hX2 hs8 hst9 hlen5 ht5 hb5
            go_wp2_with fail
            refine (free_any hP5 slot (by omega)).mono ?_
            rintro e w10 ⟨rfl, hP6, ho10⟩
            rw [← Hr.out]
            have hs10 : Hid (Still w w10) := Lib.hid (hs9.out.trans ho10 (fun i hi e => by have := hge5 i e; omega))
            clear hP5 hs9 ho10
            go_wp2_with fail
            refine (free_any hP6 slot (by have := fO_le slot L1; omega)).mono ?_
            rintro e w11 ⟨rfl, _, ho11⟩
            rw [fO_twice, Nat.sub_self]
            go_wp2_with fail
            go_ret
            exact ⟨rfl, hs10.out.trans ho11 (fun i hi e => by have := hge5 i e; omega)⟩
  · go_enter Try.func7, Try.ntmps7
    by_cases g1 : (200 : Int) < (m : Int)
    · go_wp2_with (go_at_call 9; refine (pend_awake _).mono ?_; rintro e w0 ⟨rfl, ho0⟩)
      go_ret
      exact ⟨rfl, ho0⟩
    · have g3 : (300 : Int) < (n : Int) := by omega
      go_wp2_with (go_at_call 9; refine (pend_awake _).mono ?_; rintro e w0 ⟨rfl, ho0⟩)
      go_ret
      exact ⟨rfl, ho0⟩
theorem free_all (W : World) (a0 : Int) (w0 : (Lit.int .i64 a0).wf = true) (a1 : Int) (w1 : (Lit.int .u64 a1).wf = true) (A : Option Addr) (n c : Nat) (xs : List Int) (hnc : n ≤ c) (hcm : c ≤ maxLen) (hA : A = none → n = 0 ∧ c = 0)
    (hr : Reads W W.heap.size 1 A n (xs.map (.int .u64))) (hx : ∀ z ∈ xs, (Lit.int .u64 z).wf = true)
    (A2 : Option Addr) (m c2 : Nat) (l : List A3) (hnc2 : m ≤ c2) (hcm2 : c2 ≤ maxLen) (hl : l.length = m) (hr2 : Reads W W.heap.size 3 A2 m (a3Cells l)) (hw2 : ∀ p ∈ l, A3ok p)
    (a4 : Int) (w4 : (Lit.int .i64 a4).wf = true) (a5 : Int) (w5 : (Lit.int .i64 a5).wf = true) :
    Calls Try.prog 7 #[.int .i64 a0, .int .u64 a1, .slice A n c, .slice A2 m c2, .int .i64 a4, .int .i64 a5] W fun e w' => e = .returned (.bool true) ∧ Still W w' :=
  free_walk W a0 a1 (wf_u64 w1) A n c xs hA hr (fun z hz => wf_u64 (hx z hz)) A2 m c2 l hl hr2 a4 a5
end Go.Proofs.Ythbapdajmpplhaa
