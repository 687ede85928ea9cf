/-
  DrawRow: what is shuffled is each number once, by n - 1 draws; draws that are each its place leave the row; draws that are all 0 turn it round by one; for every seed, all numbers, any n.
-/
import Derived.Test.YtpgebejnpncemaaDrawTape
import Derived.Test.YtpgebejnpncemaaDrawRowMath
import Derived.Test.YtpgebejnpncemaaDrawAwake
namespace Go.Proofs.Ytpgebejnpncemaa
open Go.RowKit
set_option linter.unusedVariables false

theorem places_draw (seed : Int) (N k : Nat) (hk : k < N - 1) : draw seed ((List.range (N - 1)).map fun t => ((N - 1 - t : Nat) : Int)) k = ((N - 1 - k : Nat) : Int) := by
  unfold draw
  rw [if_pos (by simpa using hk)]
  simp [List.getD_eq_getElem?_getD, hk]
theorem zeros_draw (seed : Int) (N k : Nat) (hk : k < N) : draw seed (List.replicate N 0) k = 0 := by
  unfold draw
  rw [if_pos (by simpa using hk)]
  simp [List.getD_eq_getElem?_getD, hk]

def allFalse : Array Value := Array.replicate 256 (.bool false)
theorem zero_seen (w : World) : (zeroValue 49).run Try.prog w = .ok (.agg allFalse) w := by kernel_rfl

/-- Which numbers were seen among the first k. -/
def Seen (L : List Int) (k : Nat) (bs : List Bool) : Prop := bs.length = 256 ∧ ∀ v, v < 256 → (bs.getD v false = true ↔ ∃ j, j < k ∧ L.getD j 0 = v)
theorem seen_none (L : List Int) : Seen L 0 (List.replicate 256 false) := by
  refine ⟨List.length_replicate, fun v hv => ?_⟩
  have : (List.replicate 256 false).getD v false = false := by rw [List.getD_eq_getElem?_getD, List.getElem?_replicate, if_pos hv]; rfl
  rw [this]
  constructor
  · intro h; cases h
  · rintro ⟨j, hj, _⟩; omega
theorem seen_fresh {L : List Int} {k N : Nat} {bs : List Bool} (h : Seen L k bs) (hE : Each N L) (hk : k < N) {X : Nat} (hX : L.getD k 0 = X) (hX2 : X < 256) : bs.getD X false = false := by
  rcases hb : bs.getD X false with _ | _
  · rfl
  · obtain ⟨j, hj, he⟩ := (h.2 X hX2).1 hb
    have := hE.2.2 j k (by omega) hk (by rw [he, hX])
    omega
theorem seen_more {L : List Int} {k : Nat} {bs : List Bool} (h : Seen L k bs) {X : Nat} (hX : L.getD k 0 = X) (hX2 : X < 256) : Seen L (k + 1) (bs.set X true) := by
  refine ⟨by rw [List.length_set]; exact h.1, fun v hv => ?_⟩
  rw [List.getD_eq_getElem?_getD, List.getElem?_set]
  by_cases e : X = v
  · subst e
    rw [if_pos rfl, if_pos (by rw [h.1]; exact hv)]
    exact ⟨fun _ => ⟨k, by omega, hX⟩, fun _ => rfl⟩
  · rw [if_neg e, ← List.getD_eq_getElem?_getD, h.2 v hv]
    constructor
    · rintro ⟨j, hj, he⟩; exact ⟨j, by omega, he⟩
    · rintro ⟨j, hj, he⟩
      refine ⟨j, ?_, he⟩
      rcases Nat.lt_or_ge j k with h1 | h1
      · exact h1
      · have : j = k := by omega
        subst this
        rw [hX] at he
        omega
theorem allFalse_eq : allFalse = ((List.replicate 256 false).map Value.bool).toArray := by kernel_rfl

theorem own_none {w : World} {base : Nat} {e : TypeId} {size n c : Nat} {A : Option Addr} {xs : List Value} (h : w.ownsRow base e size (.slice A n c) n xs) (hA : A = none) : n = 0 ∧ c = 0 := by
  rcases h.2 with ⟨h', h0⟩ | ⟨g', cap', cur, h', _⟩
  · injection h' with _ h2 h3
    exact ⟨h2, h3⟩
  · injection h' with h1
    rw [hA] at h1; cases h1

def placesTo (N m : Nat) : List Int := (List.range (N - 1 - m)).map fun t => ((N - 1 - t : Nat) : Int)
theorem placesTo_length (N m : Nat) : (placesTo N m).length = N - 1 - m := by simp [placesTo]
theorem placesTo_snoc (N m : Nat) (hm : 1 ≤ m) (hN : m ≤ N - 1) : placesTo N (m - 1) = placesTo N m ++ [(m : Int)] := by
  unfold placesTo
  rw [show N - 1 - (m - 1) = (N - 1 - m) + 1 by omega, List.range_succ, List.map_append]
  congr 1
  simp only [List.map_cons, List.map_nil]
  congr 1
  omega
theorem placesTo_range (N m : Nat) (hN : N ≤ 256) : ∀ x ∈ placesTo N m, 0 ≤ x ∧ x < 18446744073709551616 := by
  intro x hx
  simp only [placesTo, List.mem_map, List.mem_range] at hx
  obtain ⟨t, ht, rfl⟩ := hx
  omega

set_option maxRecDepth 1000000 in
set_option maxHeartbeats 6400000 in
theorem row_walk (w : World) (seed : Int) (hs : 0 ≤ seed ∧ seed < 18446744073709551616) (A : Option Addr) (n c : Nat) (xs : List Int) (hA : A = none → n = 0 ∧ c = 0)
    (hr : Reads w w.heap.size 1 A n (xs.map (.int .u64))) (hx : ∀ x ∈ xs, 0 ≤ x ∧ x < 18446744073709551616) (hn : n ≤ 2000) (p : Int) :
    Calls Try.prog 7 #[.int .u64 seed, .slice A n c, .int .i64 p] w fun e w' => e = .returned (.bool true) ∧ Still w w' := by
  obtain ⟨hs1, hs2⟩ := hs
  have h2000 : ¬ (2000 : Int) < (n : Int) := by omega
  have Hx := Lib.hid hx
  clear hx
  obtain ⟨P, hP⟩ : ∃ P : Nat, (P : Int) = IntKind.u64.wrap p % 256 := ⟨(IntKind.u64.wrap p % 256).toNat, by omega⟩
  have hP256 : P < 256 := by omega
  have hP' : (IntKind.u64.wrap p).tmod 256 = (P : Int) := by
    rw [hP, Int.tmod_eq_emod_of_nonneg (by rw [IntKind.wrap_u64]; omega)]
  clear hP
  obtain ⟨N, hN⟩ : ∃ N, N = P + 1 := ⟨_, rfl⟩
  have hN' : 1 + (P : Int) = (N : Int) := by omega
  have hN1 : 1 ≤ N := by omega
  have hN2 : N ≤ 256 := by omega
  clear hN
  have hz := zero_seen
  go_enter Try.func7, Try.ntmps7
  go_wp2_with fail
  refine (draw_awake _).mono ?_
  rintro e w0 ⟨rfl, ho0⟩
  have hr0 := hr.only ho0 (Nat.le_refl _) (fun _ _ h => h)
  go_wp2_with fail
  refine (new_any seed A n c xs _ (hr0.more ho0.size) hA (by omega) hs1 hs2 Hx.out).mono ?_
  rintro e w1 ⟨g, rfl, hg, ht, ho⟩
  have hst1 := ho0.still ho
  have hgw : w.heap.size ≤ g := by have := ho0.size; omega
  clear hr0 hr hA ho ho0 hg
  go_wp2_with fail
  refine (shuf_any ht (by omega) N hN1 hN2).mono ?_
  rintro e w2 ⟨b, cb, rfl, hb, hown, ht2, ho2⟩
  have hst2 := hst1.trans ho2 (fun i hi e => by omega)
  have hbw : w.heap.size ≤ b := by have := hst1.size; omega
  have hE := each_shuffled (draw seed xs) 0 N hN1
  obtain ⟨L, hL⟩ : ∃ L, L = shuffled (draw seed xs) 0 N := ⟨_, rfl⟩
  rw [← hL] at hown hE
  have HE := Lib.hid hE
  clear hL hE ho2 hst1 ht
  have e1 : ((N - 1 : Nat) : Int) = (N : Int) - 1 := by omega
  go_wp2_with fail
  refine (used_any ht2).mono ?_
  rintro e w3 ⟨rfl, rfl⟩
  go_wp2_with fail
  obtain ⟨S, hS⟩ : ∃ S, S = w2.heap.size := ⟨_, rfl⟩
  obtain ⟨W, hW⟩ : ∃ W, W = w2.alloc (Obj.cells allFalse 49) := ⟨_, rfl⟩
  have hbS : b < S := by
    have := (hown.lt b rfl).2
    omega
  have hown3 := hown.alloc (.cells allFalse 49)
  have hblk : Blk W S 49 ((List.replicate 256 false).map Value.bool).toArray := by
    rw [hW, ← allFalse_eq]; exact Blk.at_ _ _ _ hS
  have hst3 : Still w W := by rw [hW]; exact hst2.alloc _
  have hSw : w.heap.size ≤ S := by have := hst2.size; omega
  rw [← hW] at hown3
  rw [← hW, ← hS]
  clear hW hown hst2 ht2 hz
  go_loopw [10] (fun i wr => ∃ (k : Nat) (bs : List Bool), k ≤ N ∧ i = .int .i64 k ∧ Hid (Seen L k bs) ∧ wr.ownsRow w1.heap.size 3 1 (.slice (some ⟨b, 0, none⟩) N cb) N (L.map (.int .i64)) ∧ Blk wr S 49 (bs.map Value.bool).toArray ∧ Hid (Still w wr)) (fun i _ => N - (intOf i).toNat)
  case atStart => exact ⟨0, _, by omega, rfl, seen_none L, hown3, hblk, hst3⟩
  case round =>
    clear hown3 hblk hst3 hS
    obtain ⟨k, bs, hk, rfl, hsn, hown, hblk, hst⟩ := hrel
    by_cases hlt : k < N
    · have hx := own_cell hown (i := k) (by rw [HE.out.1]; exact hlt)
      obtain ⟨X, hX⟩ : ∃ X : Nat, L.getD k 0 = X := ⟨(L.getD k 0).toNat, by have := HE.out.2.1 k hlt; omega⟩
      have hXN : X < N := by have := HE.out.2.1 k hlt; omega
      have hfr := seen_fresh hsn.out HE.out hlt hX (by omega)
      have hmore := seen_more hsn.out hX (by omega)
      rw [hX] at hx
      have hc : wr.cell? ⟨S, X, none⟩ = some (.bool false) := by
        rw [hblk.cell X]
        rw [← hfr, List.getD_eq_getElem?_getD]
        have : X < bs.length := by have := hsn.out.1; omega
        simp [this]
      have hf := hblk.frozen X
      have Hmore := Lib.hid hmore
      clear hX hfr hmore hsn
      go_wp2
      go_roundw
      case rel =>
        have ho : Only (· = S) wr (wr.setCell ⟨S, X, none⟩ (.bool true)) := (Only.refl (· = S) _).setCell (p := ⟨S, X, none⟩) (.inl rfl) _
        refine ⟨k + 1, bs.set X true, by omega, by go_num, Hmore.out, own_only hown ho (fun i hi => by simp [Value.ownBlock] at hi; omega), ?_, hst.out.trans ho (fun i hi e => by omega)⟩
        have := hblk.set_ X (.bool true)
        rw [List.map_set]
        simpa using this
      case measure => simp [intOf]; omega
    · clear hsn hblk hown
      obtain ⟨i0, hi, hz0, hz1, hz2⟩ := info_parts info_u64
      go_wp2_with fail
      go_loopw [11, 12] (fun v i wr => ∃ m : Nat, m ≤ N - 1 ∧ i = .int .i64 m ∧ wr.ownsRow w.heap.size 22 1 v (N - 1 - m) ((placesTo N m).map (.int .u64)) ∧ Hid (Still w wr)) (fun _ i _ => (intOf i).toNat)
      case atStart =>
        refine ⟨N - 1, by omega, by rw [e1], ?_, hst⟩
        have : placesTo N (N - 1) = [] := by simp [placesTo]
        rw [this, Nat.sub_self]
        exact World.ownsRow_nil _ _ _ _
      case round =>
        clear hst
        obtain ⟨m, hm, rfl, hp, hst⟩ := hrel
        by_cases hm0 : m = 0
        · subst hm0
          obtain ⟨A', c', rfl⟩ := own_shape hp
          have hrp := Reads.of_own hp
          go_wp2_with fail
          refine (new_any seed A' (N - 1 - 0) c' (placesTo N 0) _ hrp (own_none hp) (by omega) hs1 hs2 (placesTo_range N 0 hN2)).mono ?_
          rintro e w3 ⟨g2, rfl, hg2, ht3, ho3⟩
          have hst3 := hst.out.still ho3
          have hg2w : w.heap.size ≤ g2 := by have := hst.out.size; omega
          clear hrp hp hst ho3 hg2
          go_wp2_with fail
          refine (shuf_any ht3 (by omega) N hN1 hN2).mono ?_
          rintro e w4 ⟨b2, cb2, rfl, hb2, hown2, ht4, ho4⟩
          have hst4 := hst3.trans ho4 (fun i hi e => by omega)
          have hstay : shuffled (draw seed (placesTo N 0)) 0 N = iota N := shuf_stays _ _ _ _ (by rw [iota_length]; omega) (fun t ht => by
            rw [Nat.zero_add]; exact places_draw seed N t ht)
          rw [hstay] at hown2
          clear hstay ht3 hst3 ho4 ht4
          go_wp2_with (at_make; refine wpList_make_full _ rfl _ _ 23 rfl w4.heap.size 22 i0 (.int .u64 0) 1 Try.underlying23 hi hz0 hz1 _ _ _ _ N rfl rfl rfl rfl ?d1 ?d2 ?d3 ?_)
          case d1 => rw [hz2]; omega
          case d2 => unfold maxLen; omega
          case d3 => exact Nat.le_refl _
          intro w5 hownz hgrow
          have hst5 : Still w4 w5 := (Only.refl _ _).grown hgrow (fun k hk => by cases hk)
          have hownz' : w5.ownsRow w4.heap.size 22 1 (.slice (some ⟨w4.heap.size, 0, none⟩) N N) N ((List.replicate N (0 : Int)).map (.int .u64)) := by
            have e : (madeCells #[Value.int .u64 0] N).toList = (List.replicate N (0 : Int)).map (.int .u64) := by
              rw [List.map_replicate]
              exact toList_madeCells_one _ _
            rw [← e]; exact hownz
          have hrz := Reads.of_own hownz'
          have hown5 := own_only hown2 hst5 (fun _ _ h => h)
          have hst6 := hst4.still hst5
          clear hownz hownz' hgrow hown2 hst4
          go_wp2_with fail
          refine (new_any seed _ N N (List.replicate N 0) _ hrz (by simp) (by omega) hs1 hs2 (fun x hx => by have := List.eq_of_mem_replicate hx; omega)).mono ?_
          rintro e w6 ⟨g3, rfl, hg3, ht6, ho6⟩
          have hown6 := own_only hown5 ho6 (fun _ _ h => h)
          have hst7 := hst6.still ho6
          have hg3w : w.heap.size ≤ g3 := by have := hst6.size; omega
          have hbg : b2 < g3 := by have := (hown5.lt b2 rfl).2; omega
          clear hrz hst5 hst6 hown5 ho6 hg3
          go_wp2_with fail
          refine (shuf_any ht6 (by omega) N hN1 hN2).mono ?_
          rintro e w7 ⟨b3, cb3, rfl, hb3, hown7, ht7, ho7⟩
          have hownS := own_only hown6 ho7 (fun i hi => by simp [Value.ownBlock] at hi; omega)
          have hst8 := hst7.trans ho7 (fun i hi e => by omega)
          obtain ⟨R, hR⟩ : ∃ R, R = shuffled (draw seed (List.replicate N 0)) 0 N := ⟨_, rfl⟩
          have hRl : R.length = N := by rw [hR]; exact (each_shuffled _ _ _ hN1).1
          have hRg : ∀ j, j < N → R.getD j 0 = (((j + 1) % N : Nat) : Int) := by
            rw [hR]; exact fun j hj => round_getD N _ (fun k hk => zeros_draw seed N k hk) hN1 j hj
          rw [← hR] at hown7
          have HRl := Lib.hid hRl
          have HRg := Lib.hid hRg
          clear hRl hRg hR ht6 ht7 ho7 hst7 hown6
          go_wp2_with fail
          go_loopw [15] (fun i wr => ∃ (k q : Nat), k ≤ N ∧ i = .int .i64 k ∧ wr = w7.drewN q) (fun i _ => N - (intOf i).toNat)
          case atStart => exact ⟨0, 0, by omega, rfl, rfl⟩
          case round =>
            obtain ⟨k, q, hk, rfl, rfl⟩ := hrel
            by_cases hlt : k < N
            · have x1 := own_cell hownS (i := k) (by rw [iota_length]; exact hlt)
              have x2 := own_cell hown7 (i := k) (by rw [HRl.out]; exact hlt)
              rw [iota_getD N k hlt] at x1
              rw [HRg.out k hlt] at x2
              obtain ⟨M, hM⟩ : ∃ M, M = (k + 1) % N := ⟨_, rfl⟩
              have hMN : M < N := by rw [hM]; exact Nat.mod_lt _ (by omega)
              have y1 : IntKind.i64.wrap ((k : Int) + 1) = (k : Int) + 1 := IntWalk.i64_in _ (by omega)
              have y2 : ((k : Int) + 1).tmod (N : Int) = (M : Int) := by
                rw [Int.tmod_eq_emod_of_nonneg (by omega), hM, Int.natCast_emod]; rfl
              have y3 : IntKind.i64.wrap (M : Int) = (M : Int) := IntWalk.i64_in _ (by omega)
              have y4 : ((N : Int) == 0) = false := by simp; omega
              have y5 : ¬ N = 0 := by omega
              rw [← hM] at x2
              clear hM
              go_wp2_with fail
              go_quiet (fail)
              go_wp2
              go_roundw
              case rel => exact ⟨k + 1, _, by omega, by go_num, rfl⟩
              case measure => simp [intOf]; omega
            · go_wp2
              go_ret
              exact ⟨rfl, hst8.drewN _⟩
        · have hm1 : 1 ≤ m := by omega
          have hsz := hst.out.size
          have hsn := placesTo_snoc N m hm1 hm
          have Hsn := Lib.hid hsn
          clear hsn
          have hp1 := hp.alloc (.cells #[.int .u64 m] 22)
          have hrd := reads_made wr 22 .u64 [(m : Int)] 1 rfl
          go_wp2_with (at_builtin; refine wpList_append_any _ rfl (.tmp 83) (.tmp 86) 23 rfl w.heap.size 22 i0 (.int .u64 0) 1 8 Try.underlying23 hi hz0 hz1 hz2 rfl (by decide) _ _ _ rfl hp1 (wr.heap.size + 1) (some ⟨wr.heap.size, 0, none⟩) 1 1 _ rfl hrd ?c1 ?c2 ?c3 ?c4 ?_)
          case c1 => intro u hu; simp at hu; subst hu; rfl
          case c2 => unfold maxLen; omega
          case c3 => omega
          case c4 => simp; omega
          intro v' w' hown' hgrow hblk
          go_wp2
          go_roundw
          case rel =>
            refine ⟨m - 1, by omega, by rw [show ((m - 1 : Nat) : Int) = (m : Int) - 1 by omega], ?_, ?_⟩
            · rw [Hsn.out, show N - 1 - (m - 1) = N - 1 - m + 1 by omega, List.map_append]
              exact hown'
            · exact (hst.out.alloc _).grown hgrow (fun k hk => .inr (hp.lt k hk).1)
          case measure => simp [intOf]; omega

theorem row_long (w : World) (seed : Int) (A : Option Addr) (n c : Nat) (p : Int) (hn : 2000 < n) :
    Calls Try.prog 7 #[.int .u64 seed, .slice A n c, .int .i64 p] w fun e w' => e = .returned (.bool true) ∧ Still w w' := by
  have h2000 : (2000 : Int) < (n : Int) := by omega
  go_enter Try.func7, Try.ntmps7
  go_wp2_with fail
  refine (draw_awake _).mono ?_
  rintro e w0 ⟨rfl, ho0⟩
  go_wp2
  go_ret
  exact ⟨rfl, ho0⟩

theorem row_all (w : World) (seed : Int) (wf : (Lit.int .u64 seed).wf = true) (A : Option Addr) (n c : Nat) (xs : List Int) (hnc : n ≤ c) (hc : c ≤ maxLen) (hA : A = none → n = 0 ∧ c = 0)
    (hr : Reads w w.heap.size 1 A n (xs.map (.int .u64))) (hx : ∀ x ∈ xs, (Lit.int .u64 x).wf = true) (p : Int) (hp : (Lit.int .i64 p).wf = true) :
    Calls Try.prog 7 #[.int .u64 seed, .slice A n c, .int .i64 p] w fun e w' => e = .returned (.bool true) ∧ Still w w' := by
  by_cases hn : n ≤ 2000
  · exact row_walk w seed (wf_u64 wf) A n c xs hA hr (fun x h => wf_u64 (hx x h)) hn p
  · exact row_long w seed A n c p (by omega)
end Go.Proofs.Ytpgebejnpncemaa
