/-
  hustingsref12.Ints: the same numbers?
-/
import Derived.Test.YtdcogjlcbdkdcaaDoorRows
import Derived.Test.YtdcogjlcbdkdcaaDoorBase
namespace Go.Proofs.YtdcogjlcbdkdcaaDoor
open Go.RowKit
set_option linter.unusedVariables false

theorem reads_int {w : World} {B n k : Nat} {A : Option Addr} {kd : IntKind} {xs : List Int} (h : Reads w B 1 A n (xs.map (.int kd))) (hk : k < n) :
    ∃ ad x, A = some ad ∧ ad.block < B ∧ xs[k]? = some x ∧ w.cell? (ad.add k) = some (.int kd x) := by
  obtain ⟨ad, u, e, hb, hu, hc⟩ := h.at_ hk
  rw [List.getElem?_map] at hu
  obtain ⟨x, hx, rfl⟩ := Option.map_eq_some_iff.1 hu
  exact ⟨ad, x, e, hb, hx, hc⟩

theorem take_eq_snoc {xs ys : List Int} {k : Nat} (h : xs.take k = ys.take k) (he : xs[k]? = ys[k]?) : xs.take (k + 1) = ys.take (k + 1) := by
  rw [List.take_add_one, List.take_add_one, h, he]
theorem take_ne {xs ys : List Int} {k : Nat} {x y : Int} (hx : xs[k]? = some x) (hy : ys[k]? = some y) (hne : x ≠ y) : xs ≠ ys := by
  rintro rfl
  rw [hx] at hy
  exact hne (Option.some.inj hy)

set_option maxRecDepth 100000 in
theorem ints_any (A C : Option Addr) (n ca m cc B B' : Nat) (xs ys : List Int) (w : World) (hx : Reads w B 1 A n (xs.map (.int .i64))) (hy : Reads w B' 1 C m (ys.map (.int .i64))) (hn : n ≤ 1000000000000) (hm : m ≤ 1000000000000) :
    Calls Tryd.prog 14 #[.slice A n ca, .slice C m cc] w fun e w' => e = .returned (.bool (decide (xs = ys))) ∧ ∃ q, w' = w.drewN q := by
  have hlx : xs.length = n := by simpa using hx.1
  have hly : ys.length = m := by simpa using hy.1
  by_cases hnm : n = m
  · subst hnm
    have Hlx := Lib.hid hlx
    have Hly := Lib.hid hly
    clear hlx hly
    go_enter Tryd.func14, Tryd.ntmps14
    go_wp2
    go_loopw [5] (fun i wr => ∃ k q : Nat, k ≤ n ∧ i = .int .i64 k ∧ Hid (xs.take k = ys.take k) ∧ wr = w.drewN q) (fun i _ => n - (intOf i).toNat)
    case atStart => exact ⟨0, 0, Nat.zero_le _, rfl, by simp [Hid], rfl⟩
    case round =>
      obtain ⟨k, q, hk, rfl, heq, rfl⟩ := hrel
      by_cases hlt : k < n
      · obtain ⟨ad, x, rfl, _, hxk, hcx⟩ := reads_int hx hlt
        obtain ⟨bd, y, rfl, _, hyk, hcy⟩ := reads_int hy hlt
        have Hxk := Lib.hid hxk
        have Hyk := Lib.hid hyk
        clear hxk hyk
        by_cases hxy : x = y
        · subst hxy
          go_wp2
          go_quiet (fail)
          go_wp2
          go_roundw
          case rel => exact ⟨k + 1, _, by omega, by go_num, take_eq_snoc heq.out (Hxk.out.trans Hyk.out.symm), rfl⟩
          case measure => simp [intOf]; omega
        · have hb : (x != y) = true := by simp [hxy]
          have hfin : decide (xs = ys) = false := decide_eq_false (take_ne Hxk.out Hyk.out hxy)
          have Hfin := Lib.hid hfin
          clear hfin
          go_wp2
          go_quiet (fail)
          go_wp2
          go_ret
          exact ⟨ret_bool (by rw [Hfin.out]), _, by rw [World.drewN_drewN]⟩
      · have hkn : k = n := by omega
        subst hkn
        go_wp2
        go_ret
        have : xs = ys := by
          have h := heq.out
          rwa [List.take_of_length_le (by have := Hlx.out; omega), List.take_of_length_le (by have := Hly.out; omega)] at h
        exact ⟨ret_bool (by rw [decide_eq_true this]), _, rfl⟩
  · have hb : ((n : Int) != (m : Int)) = true := by simp; omega
    have hfin : decide (xs = ys) = false := decide_eq_false (by rintro rfl; omega)
    have Hfin := Lib.hid hfin
    clear hfin hlx hly
    go_enter Tryd.func14, Tryd.ntmps14
    go_wp2
    go_ret
    exact ⟨ret_bool (by rw [Hfin.out]), 0, rfl⟩
end Go.Proofs.YtdcogjlcbdkdcaaDoor
