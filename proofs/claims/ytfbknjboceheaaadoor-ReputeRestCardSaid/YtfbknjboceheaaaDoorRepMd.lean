/-
  Package repute: hustingslaw19.made.
-/
import Derived.Test.YtfbknjboceheaaaDoorRepMade
namespace Go.Proofs.YtfbknjboceheaaaDoor
open Go.RowKit
set_option linter.unusedVariables false
set_option linter.unusedSimpArgs false

theorem results_tmp4 {fn : Func} {t u v x : Tmp} (h : fn.results = #[.tmp t, .tmp u, .tmp v, .tmp x]) (tmps : Array Value) (P : Program) (w : World) :
    (results fn tmps).run P w = .ok (.tuple #[tmps.getD t undef, tmps.getD u undef, tmps.getD v undef, tmps.getD x undef]) w := by
  simp [results, h]
theorem modU (x : Int) (m : Nat) (hm : 0 < m) : ∃ r : Nat, r < m ∧ (IntKind.u64.wrap x).tmod m = (r : Int):= by
  have hu : 0 ≤ IntKind.u64.wrap x := by rw [IntKind.wrap_u64]; omega
  refine ⟨((IntKind.u64.wrap x) % m).toNat, ?_, ?_⟩
  · have h1 := Int.emod_lt_of_pos (IntKind.u64.wrap x) (show (0 : Int) < m by omega)
    have h2 := Int.emod_nonneg (IntKind.u64.wrap x) (show (m : Int) ≠ 0 by omega)
    omega
  · rw [Int.tmod_eq_emod_of_nonneg hu]
    have h2 := Int.emod_nonneg (IntKind.u64.wrap x) (show (m : Int) ≠ 0 by omega)
    omega

set_option maxRecDepth 1000000 in
set_option maxHeartbeats 6400000 in
theorem made_live (w : World) (hg : Gains w) (a b c : Int) (C : Option Addr) (m cc : Nat) (l : List A3) (hm : m ≤ 1000000) (hl : l.length = m) (hr : Reads w w.heap.size 3 C m (a3Cells l)) :
    Calls Tryd.prog 25 #[.int .i64 a, .int .i64 b, .int .i64 c, .slice C m cc] w fun e w' => ∃ (G B n : Nat) (lim rst : Int), e = .returned (.tuple #[.pointer (some ⟨G, 0, none⟩), .int .i64 n, .int .i64 lim, .int .i64 rst]) ∧ n % 2 = 1 ∧ Live w w' G B n n lim rst (acts3 lim rst n (List.replicate n up1) l) := by
  have Hl := Lib.hid hl
  clear hl
  obtain ⟨r1, hr1, hq1⟩ := modU a 5 (by omega)
  have ht1 : (IntKind.u64.wrap a).tmod 5 = (r1 : Int) := hq1
  clear hq1
  obtain ⟨r2, hr2, hq2⟩ := modU b 100 (by omega)
  have ht2 : (IntKind.u64.wrap b).tmod 100 = (r2 : Int) := hq2
  clear hq2
  obtain ⟨r3, hr3, hq3⟩ := modU c 100000 (by omega)
  have ht3 : (IntKind.u64.wrap c).tmod 100000 = (r3 : Int) := hq3
  clear hq3
  obtain ⟨n, hn⟩ : ∃ n, n = 1 + 2 * r1 := ⟨_, rfl⟩
  have hni : 1 + 2 * (r1 : Int) = (n : Int) := by omega
  obtain ⟨lim, hlim⟩ : ∃ lim : Int, lim = 1 + (r2 : Int) := ⟨_, rfl⟩
  obtain ⟨rst, hrst⟩ : ∃ rst : Int, rst = 1 + (r3 : Int) := ⟨_, rfl⟩
  have hok : BOK n lim rst := ⟨by omega, by omega, by omega, by omega, by omega, by omega⟩
  have hodd : n % 2 = 1 := by omega
  have hnw := Lib.hid (new_live w hg hok hodd)
  go_enter Tryd.func25, Tryd.ntmps25
  clear hok
  have hlim' : 1 + (r2 : Int) = lim := hlim.symm
  have hrst' : 1 + (r3 : Int) = rst := hrst.symm
  have Hb := Lib.hid (And.intro hlim hrst)
  clear hlim hrst hn
  go_wp2_with fail
  refine (hnw.out).mono ?_
  rintro e w1 ⟨G, B, rfl, h1⟩
  have hr1 := hr.only h1.st (Nat.le_refl _) (fun _ _ h => h)
  clear hr hnw ht1 ht2 ht3
  go_wp2_with fail
  go_loopw [14] (fun i wr => ∃ k : Nat, k ≤ m ∧ i = .int .i64 k ∧ Live w wr G B n n lim rst (acts3 lim rst n (List.replicate n up1) (l.take k)) ∧ Reads wr w.heap.size 3 C m (a3Cells l)) (fun i _ => m - (intOf i).toNat)
  case atStart => exact ⟨0, by omega, rfl, h1, hr1⟩
  case round =>
    clear h1 hr1
    obtain ⟨k, hk, rfl, hb, hr⟩ := hrel
    by_cases hlt : k < m
    · obtain ⟨bl, off, a, p, q, rfl, hbl, hlk, c0, c1, c2⟩ := a3_cells hr Hl.out hlt
      have Hnext := Lib.hid (acts3_snoc (lim := lim) (rst := rst) (n := n) (us := List.replicate n up1) hlk)
      clear hlk
      generalize acts3 lim rst n (List.replicate n up1) (l.take k) = us at *
      go_wp2_with fail
      refine (does_live hb a p q).mono ?_
      rintro e w3 ⟨rfl, hb3, ho3⟩
      have hr3 := hr.only ho3 hb.st.size (fun i hi e => by have := hb.b0; omega)
      go_wp2_with fail
      go_roundw
      case rel => exact ⟨k + 1, by omega, by go_num, by rw [Hnext.out]; exact hb3, hr3⟩
      case measure => simp [intOf]; omega
    · obtain rfl : k = m := by omega
      rw [List.take_of_length_le (by rw [Hl.out]; exact Nat.le_refl _)] at hb
      go_wp2_with fail
      (try simp only [Exit.inBlock, Exit.then]); refine bodyPost_ret (results_tmp4 rfl _ _ _) rfl ?_
      exact ⟨G, B, n, lim, rst, rfl, hodd, hb⟩
end Go.Proofs.YtfbknjboceheaaaDoor
