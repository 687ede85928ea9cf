/-
  CompBehind.
-/
import Derived.Test.YtfhnfjfjmjopeaaDoorCompFacts
namespace Go.Proofs.YtfhnfjfjmjopeaaDoor
open Go.RowKit
set_option linter.unusedVariables false
set_option linter.unusedSimpArgs false

theorem u64_small (x : Int) (h : 0 ≤ x) (h' : x < 18446744073709551616) : IntKind.u64.wrap x = x := by
  have e : IntKind.u64.wrap x = x % 18446744073709551616 := rfl
  rw [e]; omega
theorem u64_tmod (b : Int) (n : Nat) : (IntKind.u64.wrap b).tmod (n : Int) = (((b % 18446744073709551616).toNat % n : Nat) : Int) := by
  have h : IntKind.u64.wrap b = (((b % 18446744073709551616).toNat : Nat) : Int) := by
    have e : IntKind.u64.wrap b = b % 18446744073709551616 := rfl
    rw [e, Int.toNat_of_nonneg (Int.emod_nonneg _ (by decide))]
  rw [h]
  rfl
theorem cut_facts (cut : Int) (k nx : Nat) (h : ¬ nx ≤ k) (h2 : nx ≤ 1000000) : ∃ g d j : Nat, (nx : Int) - (k : Int) = (g : Int) ∧ IntKind.u64.wrap (g : Int) = (g : Int) ∧ (IntKind.u64.wrap cut).tmod (g : Int) = (d : Int) ∧ ¬ (g : Int) = 0 ∧ RowKit.wrap64 (d : Int) = (d : Int) ∧ RowKit.wrap64 ((k : Int) + (d : Int)) = (j : Int) ∧ k ≤ j ∧ j < nx := by
  obtain ⟨d, hd⟩ : ∃ d : Nat, d = (cut % 18446744073709551616).toNat % (nx - k) := ⟨_, rfl⟩
  have hdl : d < nx - k := by rw [hd]; exact Nat.mod_lt _ (by omega)
  have hmod := u64_tmod cut (nx - k)
  rw [← hd] at hmod
  clear hd
  refine ⟨nx - k, d, k + d, by clear hmod; omega, by clear hmod; exact u64_small _ (by omega) (by omega), hmod, by clear hmod; omega, by clear hmod; exact IntWalk.wrap64_in _ ⟨by omega, by omega⟩, by clear hmod; rw [IntWalk.wrap64_in _ ⟨by omega, by omega⟩]; omega, by omega, by clear hmod; omega⟩
set_option maxRecDepth 1000000 in
set_option maxHeartbeats 6400000 in
theorem behind_walk (w : World) (he : ErrT w) (m : ByteArray) (hm : m.size ≤ maxLen) (at_ : Int) (q : ByteArray) (hq : q.size ≤ maxLen) (cut : Int) :
    Calls Tryd.prog 6 #[.string m, .int .i64 at_, .string q, .int .i64 cut] w fun e w' => e = .returned (.bool true) ∧ Still w w' := by
  go_enter Tryd.func6, Tryd.ntmps6
  by_cases g1 : 3000 < m.size
  · have i1 : decide ((m.size : Int) > 3000) = true := decide_eq_true (by omega)
    go_wp2_with (go_at_call 8; refine (comp_awake _ (by assumption)).mono ?_; rintro e w3 ⟨rfl, h3⟩)
    go_ret
    exact ⟨rfl, h3⟩
  have i1 : decide ((m.size : Int) > 3000) = false := decide_eq_false (by omega)
  by_cases g2 : 3000 < q.size
  · have i2 : decide ((q.size : Int) > 3000) = true := decide_eq_true (by omega)
    go_wp2_with (go_at_call 8; refine (comp_awake _ (by assumption)).mono ?_; rintro e w3 ⟨rfl, h3⟩)
    go_ret
    exact ⟨rfl, h3⟩
  have i2 : decide ((q.size : Int) > 3000) = false := decide_eq_false (by omega)
  go_wp2_with (go_at_call 8; refine (comp_awake _ (by assumption)).mono ?_; rintro e w3 ⟨rfl, h3⟩)
  have he3 := he.still h3
  by_cases hr : at_ < 0 ∨ (m.size : Int) < at_
  · refine (read_out _ m at_ he3 hr).mono ?_
    rintro e w5 ⟨rfl, h5⟩
    go_wp2_with fail
    go_ret
    exact ⟨rfl, h3.still h5⟩
  · obtain ⟨k, rfl⟩ : ∃ k : Nat, at_ = k := ⟨at_.toNat, by omega⟩
    have hkM : k ≤ m.size := by omega
    obtain ⟨R, hR⟩ : ∃ R, R = readL m.data.toList k := ⟨_, rfl⟩
    obtain ⟨er, nl, nx⟩ := R
    obtain ⟨n, hn⟩ : ∃ n, n = mk nl := ⟨_, rfl⟩
    have hnl : n.data.toList = nl := by rw [hn, mk_list]
    rw [← hnl] at hR
    have HR := Lib.hid hR.symm
    refine (read_c _ m k k n nx er nx er he3 hkM (by omega) rfl hR.symm rfl rfl).mono ?_
    rintro e w4 ⟨rfl, h4⟩
    have he4 := he3.still h4
    have hS4 : Still w w4 := h3.still h4
    clear hR hn hnl h3 h4 he3 hr
    by_cases hz : er = 0
    · subst hz
      obtain ⟨o1, o2, o3, o4⟩ := readL_out HR.out
      rw [list_size] at o3
      rw [list_size] at o4
      have hO4 := Lib.hid o4
      have hO1 := Lib.hid o1
      obtain ⟨X, hX⟩ : ∃ X, m ++ q = X := ⟨_, rfl⟩
      have hXl : X.data.toList = m.data.toList ++ q.data.toList := by rw [← hX, app_list]
      have z1 : ¬ 9223372036854775807 < m.size + q.size := by omega
      have hXs : Hid (X.size = m.size + q.size) := Lib.hid (by rw [← hX, ByteArray.size_append])
      have hX2 : Hid (readL X.data.toList k = (0, n.data.toList, nx)) := Lib.hid (by rw [hXl]; exact readL_more _ HR.out)
      clear o1 o4 hXl
      go_wp2_with fail
      refine (read_c _ X k k n nx 0 nx 0 he4 (by have := hXs.out; omega) (by have := hXs.out; omega) rfl hX2.out rfl rfl).mono ?_
      rintro e w5 ⟨rfl, h5⟩
      have he5 := he4.still h5
      have hS5 := hS4.still h5
      have hbe : (n.toList == n.toList) = true := beq_self_eq_true _
      have l1 : ¬ nx ≤ k := by omega
      have l2 : ¬ m.size < nx := by omega
      have e3 : m.extract 0 nx = mk (m.data.toList.take nx) := by
        have := extract_str m 0 nx
        rw [Nat.zero_add, List.drop_zero] at this
        exact this
      obtain ⟨Y, hY⟩ : ∃ Y, Y = mk (m.data.toList.take nx) := ⟨_, rfl⟩
      rw [← hY] at e3
      have hYs : Hid (Y.size = nx) := Lib.hid (by rw [hY, mk_size, List.length_take, list_size]; omega)
      have hYl : Hid (Y.data.toList = m.data.toList.take nx) := Lib.hid (by rw [hY, mk_list])
      clear h5 hY hX
      have c0 : (n.size : Int) = (n.size : Int) := rfl
      go_wp2_with fail
      rcases readL_next HR.out with hc | ⟨hc, hne⟩
      · refine (read_c _ Y k k n nx 0 nx 0 he5 (by have := hYs.out; omega) (by have := hYs.out; omega) rfl (by rw [hYl.out]; exact hc) rfl rfl).mono ?_
        rintro e w6 ⟨rfl, h6⟩
        have he6 := he5.still h6
        have hS6 := hS5.still h6
        have e4 : m.extract k nx = mk ((m.data.toList.drop k).take (nx - k)) := by
          have := extract_str m k (nx - k)
          rw [show k + (nx - k) = nx by omega] at this
          exact this
        obtain ⟨Z, hZ⟩ : ∃ Z, Z = mk ((m.data.toList.drop k).take (nx - k)) := ⟨_, rfl⟩
        rw [← hZ] at e4
        clear hZ h6 hc
        rcases hzz : (Z.toList == n.toList) with _ | _
        · go_wp2_with fail
          go_ret
          exact ⟨rfl, hS6⟩
        · obtain ⟨g, d, j, hs1, u2, hmod, hg0, w1, w2, hkj, hjn⟩ := cut_facts cut k nx l1 (by omega)
          have hjm : j ≤ m.size := by omega
          have e5 : m.extract 0 j = mk (m.data.toList.take j) := by
            have := extract_str m 0 j
            rw [Nat.zero_add, List.drop_zero] at this
            exact this
          obtain ⟨V, hV⟩ : ∃ V, V = mk (m.data.toList.take j) := ⟨_, rfl⟩
          rw [← hV] at e5
          have hVl : Hid (V.data.toList = m.data.toList.take j) := Lib.hid (by rw [hV, mk_list])
          have hVs : Hid (V.size = j) := Lib.hid (by rw [hV, mk_size, List.length_take, list_size]; omega)
          have hsh : Hid (readL V.data.toList k = (4, [], 0)) := Lib.hid (by rw [hVl.out]; exact readL_short HR.out (by omega) (by rw [list_size]; omega))
          clear hV
          go_wp2_with fail
          refine (read_c _ V k k ⟨#[]⟩ 0 4 0 4 he6 (by have := hVs.out; omega) (by have := hVs.out; omega) rfl hsh.out rfl rfl).mono ?_
          rintro e w7 ⟨rfl, h7⟩
          go_wp2_with fail
          go_ret
          exact ⟨rfl, hS6.still h7⟩
      · refine (read_c _ Y k k ⟨#[]⟩ 0 4 0 4 he5 (by have := hYs.out; omega) (by have := hYs.out; omega) rfl (by rw [hYl.out]; exact hc) rfl rfl).mono ?_
        rintro e w6 ⟨rfl, h6⟩
        have hne' : n.size + k ≠ nx := by rw [← list_size]; exact hne
        obtain ⟨g, hg⟩ : ∃ g : Nat, g = nx - k := ⟨_, rfl⟩
        have hs1 : (nx : Int) - (k : Int) = (g : Int) := by omega
        have d0 : decide ((n.size : Int) = (g : Int)) = false := decide_eq_false (by omega)
        have d1 : ((n.size : Int) == (g : Int)) = false := by rw [beq_eq_false_iff_ne]; omega
        have d2 : ((n.size : Int) != (g : Int)) = true := by rw [bne, d1]; rfl
        clear hg hne hc
        go_wp2_with fail
        go_ret
        exact ⟨rfl, hS5.still h6⟩
    · obtain ⟨b1, b2⟩ := readL_bad HR.out hz
      subst b2
      obtain rfl : n = ⟨#[]⟩ := by
        rw [← mk_of n, b1]; rfl
      have d0 : decide ((er : Int) = 0) = false := decide_eq_false (by omega)
      have d1 : ((er : Int) == 0) = false := by rw [beq_eq_false_iff_ne]; omega
      have d2 : ((er : Int) != 0) = true := by rw [bne, d1]; rfl
      clear b1
      go_wp2_with fail
      go_ret
      exact ⟨rfl, hS4⟩
end Go.Proofs.YtfhnfjfjmjopeaaDoor
