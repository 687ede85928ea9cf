/-
  hustingslaw20.long; what every law of order does first.
-/
import Derived.Test.YtdcogjlcbdkdcaaDoorOrdBook
import Derived.Test.YtdcogjlcbdkdcaaDoorOrdOpen
namespace Go.Proofs.YtdcogjlcbdkdcaaDoor
open Go.RowKit
set_option linter.unusedVariables false
set_option linter.unusedSimpArgs false

theorem long_any (w : World) (u lim rst seed : Int) (A F : Option Addr) (m cc kf fc : Nat) :
    Calls Tryd.prog 8 #[.agg #[.int .i64 u, .int .i64 lim, .int .i64 rst, .slice A m cc, .int .u64 seed, .slice F kf fc]] w fun e w' => e = .returned (.bool (decide (500 < m ∨ 500 < kf))) ∧ Still w w' := by
  by_cases h1 : 500 < m
  · have h1' : (500 : Int) < (m : Int) := by omega
    have hr : decide (500 < m ∨ 500 < kf) = true := decide_eq_true (.inl h1)
    have Hr := Lib.hid hr
    clear hr
    go_enter Tryd.func8, Tryd.ntmps8
    go_wp2_with fail
    go_ret
    (try rw [Hr.out])
    exact ⟨rfl, Still.new _ _⟩
  · have h1' : ¬ (500 : Int) < (m : Int) := by omega
    by_cases h2 : 500 < kf
    · have h2' : (500 : Int) < (kf : Int) := by omega
      have hr : decide (500 < m ∨ 500 < kf) = true := decide_eq_true (.inr h2)
      have Hr := Lib.hid hr
      clear hr
      go_enter Tryd.func8, Tryd.ntmps8
      go_wp2_with fail
      go_ret
      (try rw [Hr.out])
      exact ⟨rfl, Still.new _ _⟩
    · have h2' : ¬ (500 : Int) < (kf : Int) := by omega
      have hr : decide (500 < m ∨ 500 < kf) = false := decide_eq_false (by omega)
      have Hr := Lib.hid hr
      clear hr
      go_enter Tryd.func8, Tryd.ntmps8
      go_wp2_with fail
      go_ret
      (try rw [Hr.out])
      exact ⟨rfl, Still.new _ _⟩

/-- A case as it comes in. -/
structure CaseIn (W : World) (u lim rst seed : Int) (A F : Option Addr) (m cc kf fc : Nat) (l : List A3) (xs : List Int) : Prop where
  hu : IntKind.i64.wrap u = u
  s0 : 0 ≤ seed
  s1 : seed < 18446744073709551616
  ll : l.length = m
  rd : Reads W W.heap.size 3 A m (a3Cells l)
  fn : F = none → kf = 0 ∧ fc = 0
  xl : xs.length = kf
  rx : Reads W W.heap.size 1 F kf (xs.map (.int .u64))
  xr : ∀ z ∈ xs, 0 ≤ z ∧ z < 18446744073709551616
theorem CaseIn.still {W W' : World} {u lim rst seed : Int} {A F : Option Addr} {m cc kf fc : Nat} {l : List A3} {xs : List Int} (h : CaseIn W u lim rst seed A F m cc kf fc l xs) (hs : Still W W') : CaseIn W' u lim rst seed A F m cc kf fc l xs :=
  ⟨h.hu, h.s0, h.s1, h.ll, (h.rd.only hs (Nat.le_refl _) (fun _ _ h => h)).more hs.size, h.fn, h.xl, (h.rx.only hs (Nat.le_refl _) (fun _ _ h => h)).more hs.size, h.xr⟩
theorem case_in {W : World} {u lim rst seed : Int} {A F : Option Addr} {m cc kf fc : Nat} {l : List A3} {xs : List Int} (w0 : (Lit.int .i64 u).wf = true) (hl : l.length = m) (hrd : Reads W W.heap.size 3 A m (a3Cells l))
    (ws : (Lit.int .u64 seed).wf = true) (hF : F = none → kf = 0 ∧ fc = 0) (hx : xs.length = kf) (hrx : Reads W W.heap.size 1 F kf (xs.map (.int .u64))) (hz : ∀ z ∈ xs, 0 ≤ z ∧ z < 18446744073709551616) :
    CaseIn W u lim rst seed A F m cc kf fc l xs :=
  ⟨IntWalk.i64_in _ (wf_i64 w0), (wf_u64 ws).1, (wf_u64 ws).2, hl, hrd, hF, hx, hrx, hz⟩
end Go.Proofs.YtdcogjlcbdkdcaaDoor
