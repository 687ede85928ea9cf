/-
  ZoneLetters.
-/
import Derived.Test.YtinjfongndlpgaaZoneTurn
import Derived.Test.YtinjfongndlpgaaZoneOpen
namespace Go.Proofs.Ytinjfongndlpgaa
open Go.RowKit
set_option linter.unusedVariables false
set_option linter.unusedSimpArgs false

set_option maxRecDepth 1000000 in
set_option maxHeartbeats 6400000 in
theorem letters_walk (w : World) (A : Option Addr) (n c : Nat) (l : List Zn) (hnc : n ≤ c) (hcm : c ≤ maxLen) (hl : l.length = n) (hr : Reads w w.heap.size 3 A n (zRow l)) (hw : ∀ z ∈ l, okA z) (s : ByteArray) (hs : s.size ≤ maxLen) (q : ByteArray) (hq : q.size ≤ maxLen) :
    Calls Try.prog 8 #[.slice A n c, .string s, .string q] w fun e w' => e = .returned (.bool true) ∧ Still w w' := by
  have hn : n ≤ maxLen := Nat.le_trans hnc hcm
  have hs0 := Still.new w (.cells #[.string s, .string q] 9)
  have hb0 := Blk.new w 9 #[.string s, .string q]
  have hrl := (hr.only hs0 (Nat.le_refl _) (fun _ _ h => h)).more hs0.size
  have hrs : Reads (w.alloc (.cells #[.string s, .string q] 9)) (w.alloc (.cells #[.string s, .string q] 9)).heap.size 1 (some ⟨w.heap.size, 0, none⟩) 2 ([s, q].map .string) := reads_blk hb0 (by simp) rfl
  go_enter Try.func8, Try.ntmps8
  go_wp2_with fail
  refine (long18 _ A n c l hl hrl hn (fun z hz => (hw z hz).1) _ 2 2 [s, q] hrs (by unfold maxLen; omega) (by simp [hs, hq])).mono ?_
  rintro e w2 (⟨rfl, h2⟩ | ⟨hok, rfl, h2⟩)
  · go_wp2_with (go_at_call 10; refine (zone_awake _).mono ?_; rintro e w3 ⟨rfl, h3⟩)
    go_ret
    exact ⟨rfl, hs0.still (h2.still h3)⟩
  · have hS2 := hs0.still h2
    clear hs0 hb0 hrl hrs h2
    go_wp2_with (go_at_call 10; refine (zone_awake _).mono ?_; rintro e w3 ⟨rfl, h3⟩)
    have hS3 := hS2.still h3
    have hr3 := hr.only hS3 (Nat.le_refl _) (fun _ _ h => h)
    obtain ⟨ho1, ho2, ho3, ho4⟩ := hok.out
    have hs9 : s.size < 10000 := ho4 s (by simp)
    have hq9 : q.size < 10000 := ho4 q (by simp)
    have hokZ : ∀ z ∈ l, okZ z := fun z hz => ⟨by have := ho2 z hz; omega, (hw z hz).2⟩
    clear hS2 h3 hok ho2 ho3 ho4
    refine (new_any _ A n c l hl (hr3.more hS3.size) hokZ (by omega)).mono ?_
    rintro e w4 (⟨he, t, rfl, hT, h4⟩ | ⟨he, rfl, h4⟩)
    · have hS4 := hS3.still h4
      have HT : Hid (okT l) := Lib.hid ((errZ_ok l).1 he.out).2
      obtain ⟨cb, w5, hcv, hcc, h5, hzw, hcell⟩ := to_bytes w4 s
      have hL : s.data.toList.length = s.size := by rw [Array.length_toList]; rfl
      have hS5 := hS4.still h5
      have hT5 := hT.still h5
      have hK5 : w4.heap.size < w5.heap.size := by omega
      obtain ⟨K, hK⟩ : ∃ K, K = w4.heap.size := ⟨_, rfl⟩
      rw [← hK] at hcv hcell hK5
      have HK : Hid (w.heap.size ≤ K) := Lib.hid (by rw [hK]; exact hS4.size)
      have HK4 : Hid (K = w4.heap.size) := Lib.hid hK
      have hTw := hT
      clear he hT hK hzw
      obtain ⟨v, hv⟩ : ∃ v, v = findZ l s := ⟨_, rfl⟩
      have sS : s.size ≤ 30000 := by omega
      have sF : (foldS s).size ≤ 30000 := foldS_size s sS
      have sv : v.nm.size ≤ 30000 := by rw [hv]; exact find_small HT.out s
      have hV : findZ l s = v := hv.symm
      have hF : findZ l (foldS s) = v := (find_fold l s).trans hv.symm
      have HV := Lib.hid hv
      clear hv
      rcases hm : mayN s.data.toList with _ | _
      · go_wp2_with fail
        refine (may_s s sS _).mono ?_
        rintro e w6 ⟨rfl, h6⟩
        rw [hm]
        have hc6 : (convert 40 9 (.slice (some ⟨K, 0, none⟩) s.size cb)).run Try.prog w6 = .ok (.string s) w6 := by
          have h := of_bytes w6 K cb s.data.toList (fun j hj => h6.cell_some (fun h => h) (by rw [Array.getElem_toList]; exact (hcell j (by rw [← hL]; exact hj)).1))
          rw [hL, mk_of] at h
          exact h
        have hS := hS5.still h6
        have hT := hT5.still h6
        clear hcv hcell h6 h5
        have eqz := eqz_refl
        have fld := fld_any
        by_cases q1 : q.size < 1
        · have i1 : decide ((q.size : Int) < 1) = true := decide_eq_true (by omega)
          go_wp2_with (first | (go_at_call 13; refine (find_at _ _ hT (by assumption) (by assumption)).mono ?_; rintro e w7 ⟨rfl, h7⟩; have hT := hT.still h7; have hS := hS.still h7; clear h7) | (go_at_call 20; refine (fold_s _ (by assumption) _).mono ?_; rintro e w7 ⟨rfl, h7⟩; (first | (have hT := hT.still h7; have hS := hS.still h7) | (have hT := hT.still ((Still.new _ _).still h7); have hS := hS.still ((Still.new _ _).still h7))); clear h7))
          go_ret
          exact ⟨rfl, hS⟩
        by_cases q2 : 63 < q.size
        · have i1 : decide ((q.size : Int) < 1) = false := decide_eq_false (by omega)
          have i2 : decide ((q.size : Int) > 63) = true := decide_eq_true (by omega)
          go_wp2_with (first | (go_at_call 13; refine (find_at _ _ hT (by assumption) (by assumption)).mono ?_; rintro e w7 ⟨rfl, h7⟩; have hT := hT.still h7; have hS := hS.still h7; clear h7) | (go_at_call 20; refine (fold_s _ (by assumption) _).mono ?_; rintro e w7 ⟨rfl, h7⟩; (first | (have hT := hT.still h7; have hS := hS.still h7) | (have hT := hT.still ((Still.new _ _).still h7); have hS := hS.still ((Still.new _ _).still h7))); clear h7))
          go_ret
          exact ⟨rfl, hS⟩
        have i1 : decide ((q.size : Int) < 1) = false := decide_eq_false (by omega)
        have i2 : decide ((q.size : Int) > 63) = false := decide_eq_false (by omega)
        obtain ⟨I, X1, B1, e1, e2, z1, z2, z3, cv, hII⟩ := in_str q s (by omega) (by omega) hq9 hs9
        have i3 : IntKind.u8.wrap (q.size : Int) = (q.size : Int) := IntWalk.u8_in _ (by omega)
        have sI : I.size ≤ 30000 := by omega
        have sx1 : ¬ 9223372036854775807 < B1.size + q.size := by omega
        have sx2 : ¬ 9223372036854775807 < X1.size + s.size := by omega
        obtain ⟨v1, hv1⟩ : ∃ v1, findZ l I = v1 := ⟨_, rfl⟩
        have sv1 : v1.nm.size ≤ 30000 := by rw [← hv1]; exact find_small HT.out I
        rcases hI : mayN I.data.toList with _ | _
        · clear hII
          go_wp2_with (first | (go_at_call 13; refine (find_at _ _ hT (by assumption) (by assumption)).mono ?_; rintro e w7 ⟨rfl, h7⟩; have hT := hT.still h7; have hS := hS.still h7; clear h7) | (go_at_call 20; refine (fold_s _ (by assumption) _).mono ?_; rintro e w7 ⟨rfl, h7⟩; (first | (have hT := hT.still h7; have hS := hS.still h7) | (have hT := hT.still ((Still.new _ _).still h7); have hS := hS.still ((Still.new _ _).still h7))); clear h7) | (go_at_call 19; refine (may_s _ (by assumption) _).mono ?_; rintro e w7 ⟨rfl, h7⟩; simp only [hI, hm]; (first | (have hT := hT.still h7; have hS := hS.still h7) | (have hT := hT.still ((Still.new _ _).still h7); have hS := hS.still ((Still.new _ _).still h7))); clear h7) | (go_at_call 17; refine (within_s _ _ (by assumption) (by assumption) _).mono ?_; rintro e w7 ⟨rfl, h7⟩; rw [hin]; (first | (have hT := hT.still h7; have hS := hS.still h7) | (have hT := hT.still ((Still.new _ _).still h7); have hS := hS.still ((Still.new _ _).still h7))); clear h7))
          go_ret
          exact ⟨rfl, hS⟩
        clear hII
        go_wp2_with (first | (go_at_call 13; refine (find_at _ _ hT (by assumption) (by assumption)).mono ?_; rintro e w7 ⟨rfl, h7⟩; have hT := hT.still h7; have hS := hS.still h7; clear h7) | (go_at_call 20; refine (fold_s _ (by assumption) _).mono ?_; rintro e w7 ⟨rfl, h7⟩; (first | (have hT := hT.still h7; have hS := hS.still h7) | (have hT := hT.still ((Still.new _ _).still h7); have hS := hS.still ((Still.new _ _).still h7))); clear h7) | (go_at_call 19; refine (may_s _ (by assumption) _).mono ?_; rintro e w7 ⟨rfl, h7⟩; simp only [hI, hm]; (first | (have hT := hT.still h7; have hS := hS.still h7) | (have hT := hT.still ((Still.new _ _).still h7); have hS := hS.still ((Still.new _ _).still h7))); clear h7) | (go_at_call 17; refine (within_s _ _ (by assumption) (by assumption) _).mono ?_; rintro e w7 ⟨rfl, h7⟩; rw [hin]; (first | (have hT := hT.still h7; have hS := hS.still h7) | (have hT := hT.still ((Still.new _ _).still h7); have hS := hS.still ((Still.new _ _).still h7))); clear h7))
        go_ret
        exact ⟨rfl, hS⟩
      · go_wp2_with fail
        refine (may_s s sS _).mono ?_
        rintro e w6 ⟨rfl, h6⟩
        rw [hm]
        have hS6 := hS5.still h6
        have hK6 : K < w6.heap.size := by have := h6.size; omega
        have hcl6 : ∀ j (hj : j < s.data.toList.length), w6.cell? ⟨K, j, none⟩ = some (.int .u8 ((s.data.toList[j]).toNat : Int)) ∧ w6.frozen? ⟨K, j, none⟩ = false := fun j hj => by
          have := hcell j (by rw [← hL]; exact hj)
          rw [Array.getElem_toList]
          exact ⟨h6.cell_some (fun h => h) this.1, (h6.frozen (show K < w5.heap.size from hK5) (fun h => h)).trans this.2⟩
        have hT6 : Still w4 w6 := h5.still h6
        clear hcv hcell h6 h5 hS5 hT5
        go_wp2_with fail
        go_loopw [10] (fun i wr => ∃ (k : Nat) (u : List UInt8), k ≤ s.size ∧ i = .int .i64 k ∧ u.length = s.size ∧ Hid (u.map low = s.data.toList.map low) ∧ Still w wr ∧ Still w4 wr ∧ K < wr.heap.size ∧ Hid (∀ j (hj : j < u.length), wr.cell? ⟨K, j, none⟩ = some (.int .u8 (u[j].toNat : Int)) ∧ wr.frozen? ⟨K, j, none⟩ = false)) (fun i _ => s.size - (intOf i).toNat)
        case atStart => exact ⟨0, s.data.toList, Nat.zero_le _, rfl, hL, Lib.hid rfl, hS6, hT6, hK6, Lib.hid hcl6⟩
        case round =>
          clear hcl6 hS6 hT6 hK6
          obtain ⟨k, u, hk, rfl, hul, hlow, hS, hT, hwz, hcl⟩ := hrel
          by_cases hlt : k < s.size
          · have hku : k < u.length := by omega
            obtain ⟨c1, f1⟩ := hcl.out k hku
            have hset := fun h => turn_set (l := u) hku h
            obtain ⟨x, hx⟩ : ∃ x, x = u[k]'hku := ⟨_, rfl⟩
            rw [← hx] at c1 hset
            have hx8 : x.toNat < 256 := UInt8.toNat_lt _
            have HSet := Lib.hid hset
            clear hx hset
            by_cases g1 : 97 ≤ x.toNat
            · have i1 : decide ((x.toNat : Int) ≥ 97) = true := decide_eq_true (by omega)
              by_cases g2 : x.toNat ≤ 122
              · have i2 : decide ((x.toNat : Int) ≤ 122) = true := decide_eq_true (by omega)
                have hLx : isL x.toNat := .inl ⟨g1, g2⟩
                have hfl : ((x.toNat : Nat) : Int) - 32 = ((flip x).toNat : Int) := by rw [flip_nat hLx, if_pos g1]; omega
                have HF := Lib.hid hfl
                have i3 : IntKind.u8.wrap ((x.toNat : Int) - 32) = (x.toNat : Int) - 32 := IntWalk.u8_in _ (by omega)
                clear hfl
                go_wp2_with fail
                go_roundw
                case rel =>
                  refine ⟨k + 1, u.set k (flip x), by omega, by go_num, by rw [List.length_set]; exact hul, Lib.hid ((HSet.out hLx).trans hlow.out), hS.setCell (.inr HK.out) _, hT.setCell (.inr (Nat.le_of_eq HK4.out.symm)) _, by simpa [World.setCell] using hwz, Lib.hid (cells_set hku _ _ HF.out hcl.out)⟩
                case measure => simp [intOf]; omega
              · have i2 : decide ((x.toNat : Int) ≤ 122) = false := decide_eq_false (by omega)
                go_wp2_with fail
                go_roundw
                case rel => exact ⟨k + 1, u, by omega, by go_num, hul, hlow, hS, hT, hwz, hcl⟩
                case measure => simp [intOf]; omega
            · have i1 : decide ((x.toNat : Int) ≥ 97) = false := decide_eq_false (by omega)
              go_wp2_with fail
              go_roundw
              case rel => exact ⟨k + 1, u, by omega, by go_num, hul, hlow, hS, hT, hwz, hcl⟩
              case measure => simp [intOf]; omega
          · have hc6 : (convert 40 9 (.slice (some ⟨K, 0, none⟩) s.size cb)).run Try.prog wr = .ok (.string (mk u)) wr := by
              have h := of_bytes wr K cb u (fun j hj => (hcl.out j hj).1)
              rw [hul] at h
              exact h
            have hU : findZ l (mk u) = v := by
              rw [HV.out]
              obtain ⟨L, M, hL', hM, e1, e2, e3⟩ := turned_is hm (t := mk u) hlow.out
              rw [e2, e3]
              exact find_letters l hL' hM e1
            have sU : (mk u).size ≤ 30000 := by rw [mk_size, hul]; omega
            replace hT := hTw.still hT
            clear hcl hlow
            generalize mk u = U at *
            have eqz := eqz_refl
            have fld := fld_any
            by_cases q1 : q.size < 1
            · have i1 : decide ((q.size : Int) < 1) = true := decide_eq_true (by omega)
              go_wp2_with (first | (go_at_call 13; refine (find_at _ _ hT (by assumption) (by assumption)).mono ?_; rintro e w7 ⟨rfl, h7⟩; have hT := hT.still h7; have hS := hS.still h7; clear h7) | (go_at_call 20; refine (fold_s _ (by assumption) _).mono ?_; rintro e w7 ⟨rfl, h7⟩; (first | (have hT := hT.still h7; have hS := hS.still h7) | (have hT := hT.still ((Still.new _ _).still h7); have hS := hS.still ((Still.new _ _).still h7))); clear h7))
              go_ret
              exact ⟨rfl, hS⟩
            by_cases q2 : 63 < q.size
            · have i1 : decide ((q.size : Int) < 1) = false := decide_eq_false (by omega)
              have i2 : decide ((q.size : Int) > 63) = true := decide_eq_true (by omega)
              go_wp2_with (first | (go_at_call 13; refine (find_at _ _ hT (by assumption) (by assumption)).mono ?_; rintro e w7 ⟨rfl, h7⟩; have hT := hT.still h7; have hS := hS.still h7; clear h7) | (go_at_call 20; refine (fold_s _ (by assumption) _).mono ?_; rintro e w7 ⟨rfl, h7⟩; (first | (have hT := hT.still h7; have hS := hS.still h7) | (have hT := hT.still ((Still.new _ _).still h7); have hS := hS.still ((Still.new _ _).still h7))); clear h7))
              go_ret
              exact ⟨rfl, hS⟩
            have i1 : decide ((q.size : Int) < 1) = false := decide_eq_false (by omega)
            have i2 : decide ((q.size : Int) > 63) = false := decide_eq_false (by omega)
            obtain ⟨I, X1, B1, e1, e2, z1, z2, z3, cv, hII⟩ := in_str q s (by omega) (by omega) hq9 hs9
            have i3 : IntKind.u8.wrap (q.size : Int) = (q.size : Int) := IntWalk.u8_in _ (by omega)
            have sI : I.size ≤ 30000 := by omega
            have sx1 : ¬ 9223372036854775807 < B1.size + q.size := by omega
            have sx2 : ¬ 9223372036854775807 < X1.size + s.size := by omega
            obtain ⟨v1, hv1⟩ : ∃ v1, findZ l I = v1 := ⟨_, rfl⟩
            have sv1 : v1.nm.size ≤ 30000 := by rw [← hv1]; exact find_small HT.out I
            rcases hI : mayN I.data.toList with _ | _
            · clear hII
              go_wp2_with (first | (go_at_call 13; refine (find_at _ _ hT (by assumption) (by assumption)).mono ?_; rintro e w7 ⟨rfl, h7⟩; have hT := hT.still h7; have hS := hS.still h7; clear h7) | (go_at_call 20; refine (fold_s _ (by assumption) _).mono ?_; rintro e w7 ⟨rfl, h7⟩; (first | (have hT := hT.still h7; have hS := hS.still h7) | (have hT := hT.still ((Still.new _ _).still h7); have hS := hS.still ((Still.new _ _).still h7))); clear h7) | (go_at_call 19; refine (may_s _ (by assumption) _).mono ?_; rintro e w7 ⟨rfl, h7⟩; simp only [hI, hm]; (first | (have hT := hT.still h7; have hS := hS.still h7) | (have hT := hT.still ((Still.new _ _).still h7); have hS := hS.still ((Still.new _ _).still h7))); clear h7) | (go_at_call 17; refine (within_s _ _ (by assumption) (by assumption) _).mono ?_; rintro e w7 ⟨rfl, h7⟩; rw [hin]; (first | (have hT := hT.still h7; have hS := hS.still h7) | (have hT := hT.still ((Still.new _ _).still h7); have hS := hS.still ((Still.new _ _).still h7))); clear h7))
              go_ret
              exact ⟨rfl, hS⟩
            have hin : inS v1.nm v.nm = true := by
              rw [HV.out, ← hv1]
              obtain ⟨x, L, hx, f1, f2⟩ := hII.out hI hm
              rw [f1, f2]
              exact find_within HT.out hx
            clear hII
            go_wp2_with (first | (go_at_call 13; refine (find_at _ _ hT (by assumption) (by assumption)).mono ?_; rintro e w7 ⟨rfl, h7⟩; have hT := hT.still h7; have hS := hS.still h7; clear h7) | (go_at_call 20; refine (fold_s _ (by assumption) _).mono ?_; rintro e w7 ⟨rfl, h7⟩; (first | (have hT := hT.still h7; have hS := hS.still h7) | (have hT := hT.still ((Still.new _ _).still h7); have hS := hS.still ((Still.new _ _).still h7))); clear h7) | (go_at_call 19; refine (may_s _ (by assumption) _).mono ?_; rintro e w7 ⟨rfl, h7⟩; simp only [hI, hm]; (first | (have hT := hT.still h7; have hS := hS.still h7) | (have hT := hT.still ((Still.new _ _).still h7); have hS := hS.still ((Still.new _ _).still h7))); clear h7) | (go_at_call 17; refine (within_s _ _ (by assumption) (by assumption) _).mono ?_; rintro e w7 ⟨rfl, h7⟩; rw [hin]; (first | (have hT := hT.still h7; have hS := hS.still h7) | (have hT := hT.still ((Still.new _ _).still h7); have hS := hS.still ((Still.new _ _).still h7))); clear h7))
            go_ret
            exact ⟨rfl, hS⟩
    · have hS4 := hS3.still h4
      have HE := he.out
      generalize errZ l = m at HE ⊢
      have hd0 : decide ((m : Int) = 0) = false := decide_eq_false (by omega)
      have hd1 : ((m : Int) == 0) = false := by rw [beq_eq_false_iff_ne]; omega
      clear he
      go_wp2_with fail
      go_ret
      exact ⟨rfl, hS4⟩
end Go.Proofs.Ytinjfongndlpgaa
