/-
  DrawApart: what is drawn of a copy changes nothing of the tape, and the other way about; for every seed, all numbers, however many draws.
-/
import Derived.Test.YtpgebejnpncemaaDrawTape
namespace Go.Proofs.Ytpgebejnpncemaa
open Go.RowKit
set_option linter.unusedVariables false

theorem apart_mod (n : Int) : 0 ≤ IntKind.u64.wrap n % 50 ∧ IntKind.u64.wrap n % 50 < 50 := by omega

set_option maxRecDepth 1000000 in
set_option maxHeartbeats 3200000 in
theorem apart_walk (w : World) (seed : Int) (hs : 0 ≤ seed ∧ seed < 18446744073709551616) (A : Option Addr) (n c : Nat) (xs : List Int) (hA : A = none → n = 0 ∧ c = 0)
    (hr : Reads w w.heap.size 1 A n (xs.map (.int .u64))) (hx : ∀ x ∈ xs, 0 ≤ x ∧ x < 18446744073709551616) (hn : n ≤ 2000) (p q : Int) (hp : -9223372036854775808 ≤ p ∧ p ≤ 9223372036854775807) (hq : -9223372036854775808 ≤ q ∧ q ≤ 9223372036854775807) :
    Calls Try.prog 9 #[.int .u64 seed, .slice A n c, .int .i64 p, .int .i64 q] w fun e w' => e = .returned (.bool true) ∧ Still w w' := by
  obtain ⟨hs1, hs2⟩ := hs
  have h2000 : ¬ (2000 : Int) < (n : Int) := by omega
  have Hx := Lib.hid hx
  clear hx
  obtain ⟨P, hP⟩ : ∃ P : Nat, (P : Int) = IntKind.u64.wrap p % 50 := ⟨(IntKind.u64.wrap p % 50).toNat, by have := apart_mod p; omega⟩
  obtain ⟨Q, hQ⟩ : ∃ Q : Nat, (Q : Int) = IntKind.u64.wrap q % 50 := ⟨(IntKind.u64.wrap q % 50).toNat, by have := apart_mod q; omega⟩
  have hP50 : P < 50 := by have := apart_mod p; omega
  have hQ50 : Q < 50 := by have := apart_mod q; omega
  go_enter Try.func9, Try.ntmps9
  go_wp2_with fail
  refine (draw_awake _).mono ?_
  rintro e w0 ⟨rfl, ho0⟩
  have hr0 := hr.only ho0 (Nat.le_refl _) (fun _ _ h => h)
  go_wp2_with fail
  refine (new_any seed A n c xs _ (hr0.more ho0.size) hA (by omega) hs1 hs2 Hx.out).mono ?_
  rintro e w1 ⟨g, rfl, hg, ht, ho⟩
  have hst1 := ho0.still ho
  have hr1 := hr0.only ho ho0.size (fun _ _ h => h)
  have hgw : w.heap.size ≤ g := by have := ho0.size; omega
  go_wp2_with fail
  refine (new_any seed A n c xs _ (hr1.more hst1.size) hA (by omega) hs1 hs2 Hx.out).mono ?_
  rintro e w2 ⟨g', rfl, hg', hu, ho'⟩
  have hgg : g < g' := by have := ht.lt; omega
  have ht2 := ht.still ho'
  have hst2 := hst1.still ho'
  clear ht ho ho' hr0 hr1 hr hst1 ho0 hg hg' hA
  go_wp2_with fail
  have hP' : (IntKind.u64.wrap p).tmod 50 = (P : Int) := by
    rw [hP, Int.tmod_eq_emod_of_nonneg (by rw [IntKind.wrap_u64]; omega)]
  have hQ' : (IntKind.u64.wrap q).tmod 50 = (Q : Int) := by
    rw [hQ, Int.tmod_eq_emod_of_nonneg (by rw [IntKind.wrap_u64]; omega)]
  clear hP hQ
  go_loopw [11] (fun i wr => ∃ k : Nat, k ≤ P ∧ i = .int .i64 k ∧ Tape wr g seed xs k ∧ Tape wr g' seed xs k ∧ Hid (Still w wr)) (fun i _ => P - (intOf i).toNat)
  case atStart => exact ⟨0, by omega, rfl, ht2, hu, hst2⟩
  case round =>
    clear ht2 hu hst2
    obtain ⟨k, hk, rfl, ht, hu, hst⟩ := hrel
    by_cases hlt : k < P
    · go_wp2_with fail
      refine (next_any ht (by omega)).mono ?_
      rintro e w3 ⟨rfl, ht3, ho3⟩
      have hu3 := hu.other ht ho3 (by omega)
      clear ht hu
      go_wp2_with fail
      refine (next_any hu3 (by omega)).mono ?_
      rintro e w4 ⟨rfl, hu4, ho4⟩
      have ht4 := ht3.other hu3 ho4 (by omega)
      have hst4 : Hid (Still w w4) := (hst.out.trans ho3 (fun i hi e => by omega)).trans ho4 (fun i hi e => by omega)
      clear ht3 hu3 hst ho3 ho4
      go_wp2
      go_roundw
      case rel => exact ⟨k + 1, by omega, by go_num, ht4, hu4, hst4⟩
      case measure => simp [intOf]; omega
    · have hkP : k = P := by omega
      subst hkP
      go_wp2_with fail
      refine (copy_any ht).mono ?_
      rintro e w3 ⟨g2, rfl, hg2, hc, ho3⟩
      have hg2' : g' < g2 := by have := hu.lt; omega
      have ht3 := ht.still ho3
      have hu3 := hu.still ho3
      have hst3 := hst.out.still ho3
      clear ht hu hst ho3 hg2
      go_wp2_with fail
      go_loopw [13] (fun i wr => ∃ j : Nat, j ≤ Q ∧ i = .int .i64 j ∧ Tape wr g seed xs k ∧ Tape wr g' seed xs k ∧ Tape wr g2 seed xs (k + j) ∧ Hid (Still w wr)) (fun i _ => Q - (intOf i).toNat)
      case atStart => exact ⟨0, by omega, rfl, ht3, hu3, hc, hst3⟩
      case round =>
        clear ht3 hu3 hc hst3
        obtain ⟨j, hj, rfl, ht, hu, hc, hst⟩ := hrel
        by_cases hlt : j < Q
        · go_wp2_with fail
          refine (next_any hc (by omega)).mono ?_
          rintro e w4 ⟨rfl, hc4, ho4⟩
          have ht4 := ht.other hc ho4 (by omega)
          have hu4 := hu.other hc ho4 (by omega)
          have hst4 : Hid (Still w w4) := hst.out.trans ho4 (fun i hi e => by omega)
          clear ht hu hc hst ho4
          go_wp2
          go_roundw
          case rel => exact ⟨j + 1, by omega, by go_num, ht4, hu4, hc4, hst4⟩
          case measure => simp [intOf]; omega
        · go_wp2_with fail
          refine (shuf_any hc (by omega) 7 (by omega) (by omega)).mono ?_
          rintro e w4 ⟨b, cb, rfl, hb, hown, hc4, ho4⟩
          have ht4 := ht.other hc ho4 (by omega)
          have hu4 := hu.other hc ho4 (by omega)
          have hst4 := hst.out.trans ho4 (fun i hi e => by omega)
          clear ht hu hc hst ho4 hc4 hown hb
          go_wp2_with fail
          refine (copy_any ht4).mono ?_
          rintro e w5 ⟨g3, rfl, hg3, hd, ho5⟩
          have hg3' : g' < g3 := by have := hu4.lt; omega
          have ht5 := ht4.still ho5
          have hu5 := hu4.still ho5
          have hst5 := hst4.still ho5
          clear ht4 hu4 hst4 ho5 hg3
          go_wp2_with fail
          go_loopw [15] (fun i wr => ∃ m : Nat, m ≤ 20 ∧ i = .int .i64 m ∧ Tape wr g seed xs (k + m) ∧ Tape wr g' seed xs (k + m) ∧ Tape wr g3 seed xs (k + m) ∧ Hid (Still w wr)) (fun i _ => 20 - (intOf i).toNat)
          case atStart => exact ⟨0, by omega, rfl, ht5, hu5, hd, hst5⟩
          case round =>
            clear ht5 hu5 hd hst5
            obtain ⟨m, hm, rfl, ht, hu, hd, hst⟩ := hrel
            by_cases hlt : m < 20
            · go_wp2_with fail
              refine (next_any ht (by omega)).mono ?_
              rintro e w6 ⟨rfl, ht6, ho6⟩
              have hu6 := hu.other ht ho6 (by omega)
              have hd6 := hd.other ht ho6 (by omega)
              clear ht hu hd
              go_wp2_with fail
              refine (next_any hu6 (by omega)).mono ?_
              rintro e w7 ⟨rfl, hu7, ho7⟩
              have ht7 := ht6.other hu6 ho7 (by omega)
              have hd7 := hd6.other hu6 ho7 (by omega)
              clear ht6 hu6 hd6
              go_wp2_with fail
              refine (next_any hd7 (by omega)).mono ?_
              rintro e w8 ⟨rfl, hd8, ho8⟩
              have ht8 := ht7.other hd7 ho8 (by omega)
              have hu8 := hu7.other hd7 ho8 (by omega)
              have hst8 : Hid (Still w w8) := ((hst.out.trans ho6 (fun i hi e => by omega)).trans ho7 (fun i hi e => by omega)).trans ho8 (fun i hi e => by omega)
              clear ht7 hu7 hd7 hst ho6 ho7 ho8
              go_wp2
              go_roundw
              case rel => exact ⟨m + 1, by omega, by go_num, ht8, hu8, hd8, hst8⟩
              case measure => simp [intOf]; omega
            · have hm20 : m = 20 := by omega
              subst hm20
              go_wp2_with fail
              refine (used_any ht).mono ?_
              rintro e w6 ⟨rfl, rfl⟩
              go_wp2_with fail
              refine (used_any hu).mono ?_
              rintro e w6 ⟨rfl, rfl⟩
              go_wp2_with fail
              refine (used_any hd).mono ?_
              rintro e w6 ⟨rfl, rfl⟩
              go_wp2_with fail
              refine (used_any ht).mono ?_
              rintro e w6 ⟨rfl, rfl⟩
              go_wp2
              go_ret
              exact ⟨rfl, hst.out⟩

theorem apart_long (w : World) (seed : Int) (A : Option Addr) (n c : Nat) (p q : Int) (hn : 2000 < n) :
    Calls Try.prog 9 #[.int .u64 seed, .slice A n c, .int .i64 p, .int .i64 q] w fun e w' => e = .returned (.bool true) ∧ Still w w' := by
  have h2000 : (2000 : Int) < (n : Int) := by omega
  go_enter Try.func9, Try.ntmps9
  go_wp2_with fail
  refine (draw_awake _).mono ?_
  rintro e w0 ⟨rfl, ho0⟩
  go_wp2
  go_ret
  exact ⟨rfl, ho0⟩

theorem apart_all (w : World) (seed : Int) (wf : (Lit.int .u64 seed).wf = true) (A : Option Addr) (n c : Nat) (xs : List Int) (hnc : n ≤ c) (hc : c ≤ maxLen) (hA : A = none → n = 0 ∧ c = 0)
    (hr : Reads w w.heap.size 1 A n (xs.map (.int .u64))) (hx : ∀ x ∈ xs, (Lit.int .u64 x).wf = true) (p : Int) (hp : (Lit.int .i64 p).wf = true) (q : Int) (hq : (Lit.int .i64 q).wf = true) :
    Calls Try.prog 9 #[.int .u64 seed, .slice A n c, .int .i64 p, .int .i64 q] w fun e w' => e = .returned (.bool true) ∧ Still w w' := by
  by_cases hn : n ≤ 2000
  · exact apart_walk w seed (wf_u64 wf) A n c xs hA hr (fun x h => wf_u64 (hx x h)) hn p q (wf_i64 hp) (wf_i64 hq)
  · exact apart_long w seed A n c p q (by omega)
end Go.Proofs.Ytpgebejnpncemaa
