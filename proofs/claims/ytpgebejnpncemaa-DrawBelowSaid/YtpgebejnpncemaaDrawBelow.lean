/-
  DrawBelow: a draw below n is what is left of the next draw, divided by n, and one draw is used; for every seed, all numbers, and every row of n.
-/
import Derived.Test.YtpgebejnpncemaaDrawTape
import Derived.Deep.RegionHeld3
namespace Go.Proofs.Ytpgebejnpncemaa
open Go.RowKit
set_option linter.unusedVariables false

set_option maxRecDepth 1000000 in
set_option maxHeartbeats 3200000 in
theorem below_walk (w : World) (seed : Int) (hs : 0 ≤ seed ∧ seed < 18446744073709551616) (A : Option Addr) (n c : Nat) (xs : List Int) (hA : A = none → n = 0 ∧ c = 0)
    (hr : Reads w w.heap.size 1 A n (xs.map (.int .u64))) (hx : ∀ x ∈ xs, 0 ≤ x ∧ x < 18446744073709551616) (hn : n ≤ 2000)
    (C : Option Addr) (m cc : Nat) (ys : List Int) (hry : Reads w w.heap.size 1 C m (ys.map (.int .i64))) (hy : ∀ x ∈ ys, -9223372036854775808 ≤ x ∧ x ≤ 9223372036854775807) (hm : m ≤ 500) :
    Calls Try.prog 6 #[.int .u64 seed, .slice A n c, .slice C m cc] w fun e w' => e = .returned (.bool true) ∧ Still w w' := by
  obtain ⟨hs1, hs2⟩ := hs
  have h2000 : ¬ (2000 : Int) < (n : Int) := by omega
  have h500 : ¬ (500 : Int) < (m : Int) := by omega
  have hyl : ys.length = m := by simpa using hry.1
  have hy' : ∀ k y, ys[k]? = some y → -9223372036854775808 ≤ y ∧ y ≤ 9223372036854775807 := fun k y h => hy y (List.mem_of_getElem? h)
  have Hy := Lib.hid hy'
  have Hx := Lib.hid hx
  clear hyl hy hx hy'
  go_enter Try.func6, Try.ntmps6
  go_wp2_with fail
  refine (draw_awake _).mono ?_
  rintro e w0 ⟨rfl, ho0⟩
  have hr0 := hr.only ho0 (Nat.le_refl _) (fun _ _ h => h)
  have hry0 := hry.only ho0 (Nat.le_refl _) (fun _ _ h => h)
  go_wp2_with fail
  refine (new_any seed A n c xs _ (hr0.more ho0.size) hA (by omega) hs1 hs2 Hx.out).mono ?_
  rintro e w1 ⟨g, rfl, hg, ht, ho⟩
  have hry1 := hry0.only ho ho0.size (fun _ _ h => h)
  have hst := ho0.still ho
  have hgw : w.heap.size ≤ g := by have := ho0.size; omega
  clear hr0 hry0 hr hry hA ho ho0 hg
  go_wp2_with fail
  go_loopw [8] (fun i wr => ∃ k q : Nat, k ≤ m ∧ q ≤ k ∧ i = .int .i64 k ∧ Tape wr g seed xs q ∧ Reads wr w.heap.size 1 C m (ys.map (.int .i64)) ∧ Hid (Still w wr)) (fun i _ => m - (intOf i).toNat)
  case atStart => exact ⟨0, 0, by omega, by omega, rfl, ht, hry1, hst⟩
  case round =>
    clear ht hst hry1
    obtain ⟨k, q, hk, hq, rfl, ht, hrr, hst⟩ := hrel
    by_cases hlt : k < m
    · obtain ⟨ad, y, rfl, had, hyk, hc⟩ := reads_int hrr hlt
      have hyb := Hy.out k y hyk
      obtain ⟨hyb1, hyb2⟩ := hyb
      have hlk : (k : Int) < (m : Int) := by omega
      clear hyk
      go_wp2_with fail
      refine (copy_any ht).mono ?_
      rintro e w2 ⟨g', rfl, hg', hu, ho2⟩
      have hgg : g < g' := by have := ht.lt; omega
      have ht2 := ht.still ho2
      have hc2 := ho2.cell_some (by simp) hc
      have hrr2 := hrr.only ho2 hst.out.size (fun _ _ h => h)
      have hst2 := hst.out.still ho2
      clear ht hc hrr hst ho2 hg'
      by_cases hy1 : y < 1
      · go_wp2_with fail
        refine (below_zero g y hy1).mono ?_
        rintro e w3 ⟨rfl, rfl⟩
        go_wp2_with fail
        refine (used_any ht2).mono ?_
        rintro e w3 ⟨rfl, rfl⟩
        go_wp2_with fail
        refine (used_any hu).mono ?_
        rintro e w3 ⟨rfl, rfl⟩
        go_wp2
        go_roundw
        case rel => exact ⟨k + 1, q, by omega, by omega, by go_num, ht2, hrr2, hst2⟩
        case measure => simp [intOf]; omega
      · have hdr := ht2.range q
        have hq1 : 0 ≤ draw seed xs q % y := Int.emod_nonneg _ (by omega)
        have hq2 : draw seed xs q % y < y := Int.emod_lt_of_pos _ (by omega)
        have hy1' : 1 ≤ y := by omega
        obtain ⟨d, hd⟩ : ∃ d, draw seed xs q = d := ⟨_, rfl⟩
        rw [hd] at hdr hq1 hq2
        obtain ⟨hd1, hd2⟩ := hdr
        go_wp2_with fail
        refine (below_any ht2 (by omega) y hy1' hyb2).mono ?_
        rintro e w3 ⟨rfl, ht3, ho3⟩
        have hu3 := hu.other ht2 ho3 (by omega)
        have hbn : ¬ (ad.add k).block = g := by rw [block_of_add]; omega
        have hbn' : ¬ (ad.add k).block = g' := by rw [block_of_add]; omega
        have hc3 := ho3.cell_some hbn hc2
        have hrr3 := hrr2.only ho3 hst2.size (fun i hi e => by omega)
        have hst3 := hst2.trans ho3 (fun i hi e => by omega)
        clear hrr2 hst2 hc2 hu ht2 ho3
        go_wp2_with fail
        have b1 : decide (d % y < 0) = false := decide_eq_false (by omega)
        have b2 : decide (y ≤ d % y) = false := decide_eq_false (by omega)
        have b3 : (y == 0) = false := by simp; omega
        have b4 : ¬ y = 0 := by omega
        have b5 : IntKind.u64.wrap y = y := IntWalk.u64_in _ (by omega)
        have b6 : IntKind.u64.wrap (d % y) = d % y := IntWalk.u64_in _ (by omega)
        have b7 : d.tmod y = d % y := Int.tmod_eq_emod_of_nonneg hd1
        go_region_held3 (fun w' => w'.cell? (ad.add k) = some (.int .i64 y)) (first | go_keep | exact hc4)
          ((first
          | (go_at_call 18; refine (next_any (w := w3.drew) (hu3.still ((Only.refl _ _).drew)) (by omega)).mono ?_; rintro e w4 ⟨rfl, hu4, ho4⟩; have hc4 := ho4.cell_some hbn' (show w3.drew.cell? _ = _ from hc3); have ht4 := (ht3.still ((Only.refl _ _).drew)).other (hu3.still ((Only.refl _ _).drew)) ho4 (by omega))
          | (go_at_call_of 27 (Value.pointer (some (Addr.mk g 0 none))); refine (used_any ht4).mono ?_; rintro e w5 ⟨rfl, rfl⟩)
          | (go_at_call_of 27 (Value.pointer (some (Addr.mk g' 0 none))); refine (used_any hu4).mono ?_; rintro e w5 ⟨rfl, rfl⟩)))
        have ho4' : Only (· = g') w3 w4 := ((Only.refl _ _).drew).trans ho4 (fun _ _ h => h)
        go_wp2
        go_roundw
        case rel => exact ⟨k + 1, q + 1, by omega, by omega, by go_num, ht4, hrr3.only ho4' hst3.size (fun i hi e => by omega), hst3.trans ho4' (fun i hi e => by omega)⟩
        case measure => simp [intOf]; omega
    · go_wp2
      go_ret
      exact ⟨rfl, hst.out⟩

theorem below_long (w : World) (seed : Int) (A C : Option Addr) (n c m cc : Nat) (h : 2000 < n ∨ 500 < m) :
    Calls Try.prog 6 #[.int .u64 seed, .slice A n c, .slice C m cc] w fun e w' => e = .returned (.bool true) ∧ Still w w' := by
  by_cases hn : 2000 < n
  · have h2000 : (2000 : Int) < (n : Int) := by omega
    go_enter Try.func6, Try.ntmps6
    go_wp2_with fail
    refine (draw_awake _).mono ?_
    rintro e w0 ⟨rfl, ho0⟩
    go_wp2
    go_ret
    exact ⟨rfl, ho0⟩
  · have h2000 : ¬ (2000 : Int) < (n : Int) := by omega
    have h500 : (500 : Int) < (m : Int) := by omega
    go_enter Try.func6, Try.ntmps6
    go_wp2_with fail
    refine (draw_awake _).mono ?_
    rintro e w0 ⟨rfl, ho0⟩
    go_wp2
    go_ret
    exact ⟨rfl, ho0⟩

theorem below_all (w : World) (seed : Int) (wf : (Lit.int .u64 seed).wf = true) (A : Option Addr) (n c : Nat) (xs : List Int) (hnc : n ≤ c) (hc : c ≤ maxLen) (hA : A = none → n = 0 ∧ c = 0)
    (hr : Reads w w.heap.size 1 A n (xs.map (.int .u64))) (hx : ∀ x ∈ xs, (Lit.int .u64 x).wf = true)
    (C : Option Addr) (m cc : Nat) (ys : List Int) (hmc : m ≤ cc) (hcc : cc ≤ maxLen) (hC : C = none → m = 0 ∧ cc = 0)
    (hry : Reads w w.heap.size 1 C m (ys.map (.int .i64))) (hy : ∀ x ∈ ys, (Lit.int .i64 x).wf = true) :
    Calls Try.prog 6 #[.int .u64 seed, .slice A n c, .slice C m cc] w fun e w' => e = .returned (.bool true) ∧ Still w w' := by
  by_cases h : 2000 < n ∨ 500 < m
  · exact below_long w seed A C n c m cc h
  · exact below_walk w seed (wf_u64 wf) A n c xs hA hr (fun x h => wf_u64 (hx x h)) (by omega) C m cc ys hry (fun x h => wf_i64 (hy x h)) (by omega)
end Go.Proofs.Ytpgebejnpncemaa
