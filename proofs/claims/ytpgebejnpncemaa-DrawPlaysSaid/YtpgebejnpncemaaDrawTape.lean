/-
  DrawTape: the first draws are the tape's numbers, in their row; the ones behind hang on the seed alone; for every seed and all numbers.
-/
import Derived.Test.YtpgebejnpncemaaDrawAwake
import Derived.Test.YtpgebejnpncemaaOpen
import Derived.Deep.RegionWith
namespace Go.Proofs.Ytpgebejnpncemaa
open Go.RowKit
set_option linter.unusedVariables false

theorem draw_nil (seed : Int) (k : Nat) : draw seed [] k = nth seed (k + 1) := by
  simp [draw]
theorem draw_past (seed : Int) (xs : List Int) (k : Nat) : draw seed xs (xs.length + k) = nth seed (k + 1) := by
  unfold draw
  rw [if_neg (by omega)]
  congr 1
  omega
theorem draw_at (seed : Int) (xs : List Int) (k : Nat) (x : Int) (h : xs[k]? = some x) : draw seed xs k = x := by
  obtain ⟨hk, rfl⟩ := List.getElem?_eq_some_iff.1 h
  unfold draw
  rw [if_pos hk, List.getD_eq_getElem?_getD, List.getElem?_eq_getElem hk]; rfl

set_option maxRecDepth 1000000 in
set_option maxHeartbeats 1600000 in
theorem tape_walk (seed : Int) (hs : 0 ≤ seed ∧ seed < 18446744073709551616) (A : Option Addr) (n c : Nat) (xs : List Int) (hA : A = none → n = 0 ∧ c = 0) (w : World)
    (hr : Reads w w.heap.size 1 A n (xs.map (.int .u64))) (hx : ∀ x ∈ xs, 0 ≤ x ∧ x < 18446744073709551616) (hn : n ≤ 2000) :
    Calls Try.prog 5 #[.int .u64 seed, .slice A n c] w fun e w' => e = .returned (.bool true) ∧ Still w w' := by
  obtain ⟨hs1, hs2⟩ := hs
  have hlen : xs.length = n := by simpa using hr.1
  subst hlen
  have h2000 : ¬ (2000 : Int) < (xs.length : Int) := by omega
  go_enter Try.func5, Try.ntmps5
  go_wp2_with fail
  refine (draw_awake _).mono ?_
  rintro e w0 ⟨rfl, ho0⟩
  have hr0 := hr.only ho0 (Nat.le_refl _) (fun _ _ h => h)
  go_wp2_with fail
  refine (new_any seed A xs.length c xs _ (hr0.more ho0.size) hA (by omega) hs1 hs2 hx).mono ?_
  rintro e w1 ⟨g, rfl, hg, ht, ho⟩
  have hr1 := hr0.only ho ho0.size (fun _ _ h => h)
  have hst1 := ho0.still ho
  clear hr0
  go_wp2_with fail
  refine (new_any seed none 0 0 [] _ Reads.none_ (fun _ => ⟨rfl, rfl⟩) (by omega) hs1 hs2 (by simp)).mono ?_
  rintro e w2 ⟨g', rfl, hg', hu, ho'⟩
  have hgg : g < g' := by
    have := ht.lt
    omega
  have ht := ht.still ho'
  have hr2 := hr1.only ho' hst1.size (fun _ _ h => h)
  have hst := hst1.still ho'
  have hgw : w.heap.size ≤ g := by have := ho0.size; omega
  clear ho ho' hr1 hst1 hr ho0 hg hg'
  go_wp2_with fail
  go_loopw [7] (fun i wr => ∃ k : Nat, k ≤ xs.length ∧ i = .int .i64 k ∧ Tape wr g seed xs k ∧ Tape wr g' seed [] 0 ∧ Reads wr w.heap.size 1 A xs.length (xs.map (.int .u64)) ∧ Hid (Still w wr)) (fun i _ => xs.length - (intOf i).toNat)
  case atStart => exact ⟨0, by omega, rfl, ht, hu, hr2, hst⟩
  case round =>
    clear ht hu hst hr2
    obtain ⟨k, hk, rfl, ht, hu, hrr, hst⟩ := hrel
    by_cases hlt : k < xs.length
    · obtain ⟨ad, x, rfl, had, hxk, hc⟩ := reads_int hrr hlt
      have hdr := draw_at seed xs k x hxk
      have hbn : ¬ (ad.add k).block = g := by rw [block_of_add]; omega
      clear hxk
      go_wp2_with fail
      go_region_with (go_at_call 18; go_must (refine (next_any (w := wr.drew) (ht.still ((Only.refl _ _).drew)) (by omega)).mono ?_; rintro e w3 ⟨rfl, ht3, ho3⟩; have hc3 := ho3.cell_some hbn (show wr.drew.cell? _ = _ from hc)))
      all_goals
        go_wp2
        go_roundw
        case rel =>
          have ho3' : Only (· = g) wr w3 := ((Only.refl _ _).drew).trans ho3 (fun _ _ h => h)
          exact ⟨k + 1, by omega, by go_num, ht3, hu.other ht ho3' (by omega), hrr.only ho3' hst.out.size (fun i hi e => by omega), hst.out.trans ho3' (fun i hi e => by omega)⟩
        case measure => simp [intOf]; omega
    · have hkn : k = xs.length := by omega
      subst hkn
      go_wp2_with fail
      go_loopw [8] (fun i wr => ∃ k : Nat, k ≤ 20 ∧ i = .int .i64 k ∧ Tape wr g seed xs (xs.length + k) ∧ Tape wr g' seed [] k ∧ Hid (Still w wr)) (fun i _ => 20 - (intOf i).toNat)
      case atStart => exact ⟨0, by omega, rfl, ht, hu, hst⟩
      case round =>
        clear ht hu hst hrr
        obtain ⟨k, hk, rfl, ht, hu, hst⟩ := hrel
        by_cases hlt : k < 20
        · have hd1 := draw_past seed xs k
          have hd2 := draw_nil seed k
          go_wp2_with fail
          refine (next_any ht (by omega)).mono ?_
          rintro e w3 ⟨rfl, ht3, ho3⟩
          have hu3 := hu.other ht ho3 (by omega)
          clear ht hu
          go_wp2_with fail
          refine (next_any hu3 (by omega)).mono ?_
          rintro e w4 ⟨rfl, hu4, ho4⟩
          have ht4 := ht3.other hu3 ho4 (by omega)
          have hst4 : Hid (Still w w4) := (hst.out.trans ho3 (fun i hi e => by omega)).trans ho4 (fun i hi e => by omega)
          clear ht3 hu3 hst ho3 ho4
          go_wp2
          go_roundw
          case rel => exact ⟨k + 1, by omega, by go_num, ht4, hu4, hst4⟩
          case measure => simp [intOf]; omega
        · have hk20 : k = 20 := by omega
          subst hk20
          go_wp2_with fail
          refine (used_any ht).mono ?_
          rintro e w3 ⟨rfl, rfl⟩
          have hb1 : (((xs.length + 20 : Nat) : Int) == (xs.length : Int) + 20) = true := by simp
          go_wp2_with fail
          refine (used_any hu).mono ?_
          rintro e w3 ⟨rfl, rfl⟩
          go_wp2
          go_ret
          exact ⟨rfl, hst.out⟩

theorem tape_long (seed : Int) (A : Option Addr) (n c : Nat) (w : World) (hn : 2000 < n) :
    Calls Try.prog 5 #[.int .u64 seed, .slice A n c] w fun e w' => e = .returned (.bool true) ∧ Still w w' := by
  have h2000 : (2000 : Int) < (n : Int) := by omega
  go_enter Try.func5, Try.ntmps5
  go_wp2_with fail
  refine (draw_awake _).mono ?_
  rintro e w0 ⟨rfl, ho0⟩
  go_wp2
  go_ret
  exact ⟨rfl, ho0⟩

theorem tape_all (seed : Int) (wf : (Lit.int .u64 seed).wf = true) (A : Option Addr) (n c : Nat) (xs : List Int) (hnc : n ≤ c) (hc : c ≤ maxLen) (hA : A = none → n = 0 ∧ c = 0) (w : World)
    (hr : Reads w w.heap.size 1 A n (xs.map (.int .u64))) (hx : ∀ x ∈ xs, (Lit.int .u64 x).wf = true) :
    Calls Try.prog 5 #[.int .u64 seed, .slice A n c] w fun e w' => e = .returned (.bool true) ∧ Still w w' := by
  by_cases hn : n ≤ 2000
  · exact tape_walk seed (wf_u64 wf) A n c xs hA w hr (fun x h => wf_u64 (hx x h)) hn
  · exact tape_long seed A n c w (by omega)
end Go.Proofs.Ytpgebejnpncemaa
