/-
  Package draw: Shuffle.
-/
import Derived.Test.YtdcogjlcbdkdcaaDoorDraw
import Derived.BigRegion
import Derived.Handy
namespace Go.Proofs.YtdcogjlcbdkdcaaDoor
open Go.RowKit
set_option linter.unusedVariables false

/-- Elements i and j of a list exchanged. -/
def swp (l : List Int) (i j : Nat) : List Int := (l.set i (l.getD j 0)).set j (l.getD i 0)
/-- The rest of a shuffle, from index i on; draws D from number k on. -/
def shufL (D : Nat → Int) : Nat → Nat → List Int → List Int
  | 0, _, l => l
  | i + 1, k, l => shufL D i (k + 1) (swp l (i + 1) (D k % ((i + 2 : Nat) : Int)).toNat)
def iota (n : Nat) : List Int := (List.range n).map fun (k : Nat) => (k : Int)
def shuffled (D : Nat → Int) (k n : Nat) : List Int := shufL D (n - 1) k (iota n)

theorem swp_length (l : List Int) (i j : Nat) : (swp l i j).length = l.length := by simp [swp]
theorem iota_length (n : Nat) : (iota n).length = n := by simp [iota]

theorem shuf_zero {w : World} (g : Nat) (m : Int) (hm : m < 1 ∨ 256 < m) :
    Calls Tryd.prog 26 #[.pointer (some ⟨g, 0, none⟩), .int .i64 m] w fun e w' => e = .returned (.slice none 0 0) ∧ w = w' := by
  by_cases h : m < 1
  · go_enter Tryd.func26, Tryd.ntmps26
    go_wp2
    go_ret
    exact ⟨rfl, rfl⟩
  · have h2 : 256 < m := by omega
    have h3 : 1 ≤ m := by omega
    go_enter Tryd.func26, Tryd.ntmps26
    go_wp2
    go_ret
    exact ⟨rfl, rfl⟩

theorem info_intS : (Tryd.prog.info? 3).map (fun i => (i.zero, i.size, i.bytes)) = some (some (.int .i64 0), 1, 8) := by kernel_rfl

theorem below_nat {w : World} {g : Nat} {seed : Int} {xs : List Int} {n : Nat} (h : Tape w g seed xs n) (hn : n ≤ 1000000) (m : Int) (hm : 1 ≤ m) (hm2 : m ≤ 9223372036854775807) :
    Calls Tryd.prog 48 #[.pointer (some ⟨g, 0, none⟩), .int .i64 m] w fun e w' => ∃ j : Nat, e = .returned (.int .i64 j) ∧ (j : Int) < m ∧ Hid (j = (draw seed xs n % m).toNat) ∧ Tape w' g seed xs (n + 1) ∧ Only (· = g) w w' := by
  refine (below_any h hn m hm hm2).mono ?_
  rintro e w' ⟨rfl, ht, ho⟩
  have hq1 : 0 ≤ draw seed xs n % m := Int.emod_nonneg _ (by omega)
  have hq2 : draw seed xs n % m < m := Int.emod_lt_of_pos _ (by omega)
  exact ⟨(draw seed xs n % m).toNat, ret_int (by omega), by omega, rfl, ht, ho⟩

theorem own_cell {w : World} {base b c n : Nat} {e : TypeId} {k : IntKind} {L : List Int} (h : w.ownsRow base e 1 (.slice (some ⟨b, 0, none⟩) n c) n (L.map (.int k))) {i : Nat} (hi : i < L.length) :
    w.cell? ⟨b, i, none⟩ = some (.int k (L.getD i 0)) := by
  have := h.cells (g := b) rfl i (.int k (L.getD i 0)) (by simp [List.getElem?_eq_getElem hi])
  have hadd : (⟨b, 0, none⟩ : Addr).add i = ⟨b, i, none⟩ := by unfold Addr.add; split <;> simp_all
  rwa [hadd] at this

theorem own_type {w : World} {base b c n : Nat} {e t : TypeId} {xs : List Value} {cs : Array Value} {p : TypeId → Prop} (h : w.ownsRow base e 1 (.slice (some ⟨b, 0, none⟩) n c) n xs) {i : Nat} (hi : i = b) (hh : w.heap[i]? = some (.cells cs t (0, 0))) (hp : p e) : p t := by
  subst hi
  rcases h.2 with ⟨h', _⟩ | ⟨g', cap', cur, h', _, hg, _⟩
  · simp at h'
  · simp only [Value.slice.injEq, Option.some.injEq, Addr.mk.injEq, and_true, true_and] at h'
    obtain ⟨rfl, rfl⟩ := h'
    rw [hg] at hh
    injection hh with hh
    injection hh with _ ht
    subst ht
    exact hp

theorem iota_of {L : List Int} {n : Nat} (hl : L.length = n) (h : ∀ j, j < n → L.getD j 0 = j) : L = iota n := by
  apply List.ext_getElem?
  intro j
  by_cases hj : j < n
  · have h1 := h j hj
    have hj' : j < L.length := by omega
    rw [List.getD_eq_getElem?_getD, List.getElem?_eq_getElem hj'] at h1
    simp only [Option.getD_some] at h1
    rw [List.getElem?_eq_getElem hj', h1]
    simp [iota, hj]
  · rw [List.getElem?_eq_none (by omega), List.getElem?_eq_none (by rw [iota_length]; omega)]

theorem set_front {L : List Int} {k n : Nat} (hl : L.length = n) (hk : k < n) (h : ∀ j, j < k → L.getD j 0 = j) : ∀ j, j < k + 1 → (L.set k (k : Int)).getD j 0 = j := by
  intro j hj
  rw [List.getD_eq_getElem?_getD, List.getElem?_set]
  by_cases e : k = j
  · subst e
    rw [if_pos rfl, if_pos (by omega)]; rfl
  · rw [if_neg e]
    have := h j (by omega)
    rwa [List.getD_eq_getElem?_getD] at this

set_option maxHeartbeats 1600000 in
set_option maxRecDepth 1000000 in
theorem shuf_any {w : World} {g : Nat} {seed : Int} {xs : List Int} {n0 : Nat} (h : Tape w g seed xs n0) (hn0 : n0 ≤ 900000) (n : Nat) (hn : 1 ≤ n) (hn2 : n ≤ 256) :
    Calls Tryd.prog 26 #[.pointer (some ⟨g, 0, none⟩), .int .i64 n] w fun e w' => ∃ b c, e = .returned (.slice (some ⟨b, 0, none⟩) n c) ∧ w.heap.size ≤ b ∧ w'.ownsRow w.heap.size 3 1 (.slice (some ⟨b, 0, none⟩) n c) n ((shuffled (draw seed xs) n0 n).map (.int .i64)) ∧ Tape w' g seed xs (n0 + (n - 1)) ∧ Only (· = g) w w' := by
  obtain ⟨i0, hi, hz0, hz1, hz2⟩ := info_parts info_intS
  have h256 : ¬ (256 : Int) < (n : Int) := by omega
  have h1 : ¬ (n : Int) < 1 := by omega
  go_enter Tryd.func26, Tryd.ntmps26
  go_wp2_with (at_make; refine wpList_make_full _ rfl _ _ 37 rfl w.heap.size 3 i0 (.int .i64 0) 1 Tryd.underlying37 hi hz0 hz1 _ _ _ _ n rfl rfl rfl rfl ?b1 ?b2 ?b3 ?_)
  case b1 => omega
  case b2 => unfold maxLen; omega
  intro w1 hown hgrow
  have hstill : Still w w1 := (Only.refl _ _).grown hgrow (fun k hk => by cases hk)
  have hown1 : w1.ownsRow w.heap.size 3 1 (.slice (some ⟨w.heap.size, 0, none⟩) n n) n ((List.replicate n (0 : Int)).map (.int .i64)) := by
    have e : (madeCells #[Value.int .i64 0] n).toList = (List.replicate n (0 : Int)).map (.int .i64) := by
      rw [List.map_replicate]
      exact toList_madeCells_one _ _
    rw [← e]; exact hown
  have ht1 := h.still hstill
  have hb := h.lt
  generalize hbe : w.heap.size = b at *
  have hbe := Lib.hid hbe
  clear hown hgrow
  go_wp2
  go_loopw [6, 23] (fun _ c wr => ∃ (k : Nat) (L : List Int), k ≤ n ∧ c = .int .i64 k ∧ Hid (L.length = n ∧ ∀ j, j < k → L.getD j 0 = j) ∧ wr.ownsRow b 3 1 (.slice (some ⟨b, 0, none⟩) n n) n (L.map (.int .i64)) ∧ Tape wr g seed xs n0 ∧ Hid (Still w wr)) (fun _ c _ => n - (intOf c).toNat)
  case atStart => exact ⟨0, _, Nat.zero_le _, rfl, ⟨List.length_replicate, fun j hj => by omega⟩, hown1, ht1, hstill⟩
  case round =>
    obtain ⟨k, L, hk, rfl, hL, hown, ht, hst⟩ := hrel
    by_cases hlt : k < n
    · have hc : wr.cell? ⟨b, k, none⟩ = some (.int .i64 (L.getD k 0)) := own_cell hown (by rw [hL.out.1]; exact hlt)
      have hf := hown.frozenAt k
      go_wp2
      go_roundw
      case rel =>
        refine ⟨k + 1, L.set k k, by omega, by go_num, ⟨by rw [List.length_set]; exact hL.out.1, set_front hL.out.1 hlt hL.out.2⟩, ?_, ?_, ?_⟩
        · rw [List.map_set]; exact (hown.stored k _).1
        · exact ht.only ((Only.refl (· = b) _).setCell (p := ⟨b, k, none⟩) (.inl rfl) _) (by omega) (by
            rintro i t cs rfl hh
            exact own_type (p := fun t => t ≠ 24 ∧ t ≠ 23) hown rfl hh ⟨by decide, by decide⟩)
        · exact hst.out.setCell (.inr (Nat.le_of_eq hbe.out)) _
      case measure => simp [intOf]; omega
    · have hkn : k = n := by omega
      subst hkn
      have hio := iota_of hL.out.1 hL.out.2
      subst hio
      go_wp2
      go_loopw [7] (fun i wr => ∃ (m q : Nat) (L : List Int), i = .int .i64 m ∧ m < k ∧ q ≤ 950000 ∧ Hid (L.length = k ∧ shufL (draw seed xs) m q L = shuffled (draw seed xs) n0 k ∧ q + m = n0 + (k - 1)) ∧ wr.ownsRow b 3 1 (.slice (some ⟨b, 0, none⟩) k k) k (L.map (.int .i64)) ∧ Tape wr g seed xs q ∧ Hid (Only (· = g) w wr)) (fun i _ => (intOf i).toNat)
      case atStart => exact ⟨k - 1, n0, iota k, by rw [show ((k - 1 : Nat) : Int) = (k : Int) - 1 by omega], by omega, by omega, ⟨iota_length _, rfl, rfl⟩, hown, ht, Only.of_still hst.out _⟩
      case round =>
        clear hst hL
        obtain ⟨m, q, L, rfl, hm, hq, hL, hown, ht, hst⟩ := hrel
        by_cases hm0 : m = 0
        · subst hm0
          go_wp2
          go_ret
          obtain ⟨_, h2, h3⟩ := hL.out
          have h2' : L = shuffled (draw seed xs) n0 k := h2
          have h3' : q = n0 + (k - 1) := by omega
          subst h2'
          subst h3'
          exact ⟨b, k, rfl, Nat.le_of_eq hbe.out, by rw [hbe.out]; exact hown, ht, hst.out⟩
        · have hm1 : 1 ≤ m := by omega
          go_wp2_with (go_at_call 48; refine (below_nat ht (by omega) _ (by omega) (by omega)).mono ?_; rintro e w2 ⟨j, rfl, hj, Hj, ht2, ho2⟩)
          have hbg : b ≠ g := by omega
          have hown2 := own_only hown ho2 (fun i hi => by simp [Value.ownBlock] at hi; omega)
          have hjm : j < k := by omega
          have hmL : m < L.length := by have := hL.out.1; omega
          have hjL : j < L.length := by have := hL.out.1; omega
          have hx := own_cell hown2 hmL
          have hy := own_cell hown2 hjL
          have fx := hown2.frozenAt m
          have fy := hown2.frozenAt j
          obtain ⟨x, hxe⟩ : ∃ x, L.getD m 0 = x := ⟨_, rfl⟩
          obtain ⟨y, hye⟩ : ∃ y, L.getD j 0 = y := ⟨_, rfl⟩
          rw [hxe] at hx
          rw [hye] at hy
          have Hxe := Lib.hid hxe
          have Hye := Lib.hid hye
          clear hxe hye
          obtain ⟨v', hy'⟩ : ∃ v', (w2.setCell ⟨b, m, none⟩ (.int .i64 y)).cell? ⟨b, j, none⟩ = some v' := by
            by_cases e : (⟨b, m, none⟩ : Addr) = ⟨b, j, none⟩
            · rw [← e]; exact ⟨_, World.cell?_setCell_same _ _ _ hx⟩
            · exact ⟨_, (World.cell?_setCell_other _ _ _ _ e).trans hy⟩
          clear hmL hjL
          go_region
          go_wp2
          go_roundw
          case rel =>
            obtain ⟨h1, h2, h3⟩ := hL.out
            have hown3 := (hown2.stored m (.int .i64 y)).1
            have hown4 := (hown3.stored j (.int .i64 x)).1
            have ho : Only (· = b) w2 (((w2.setCell ⟨b, m, none⟩ (.int .i64 y)).setCell ⟨b, j, none⟩ (.int .i64 x)).drew) :=
              (((Only.refl (· = b) _).setCell (p := ⟨b, m, none⟩) (.inl rfl) _).setCell (p := ⟨b, j, none⟩) (.inl rfl) _).drew
            refine ⟨m - 1, q + 1, swp L m j, by rw [show ((m - 1 : Nat) : Int) = (m : Int) - 1 by omega], by omega, by omega, ⟨by rw [swp_length]; exact h1, ?_, by omega⟩, ?_, ?_, ?_⟩
            · rw [← h2]
              obtain ⟨m', rfl⟩ : ∃ m', m = m' + 1 := ⟨m - 1, by omega⟩
              rw [Hj.out]
              rfl
            · have : (swp L m j).map (Value.int .i64) = ((L.map (Value.int .i64)).set m (.int .i64 y)).set j (.int .i64 x) := by
                rw [swp, List.map_set, List.map_set, Hxe.out, Hye.out]
              rw [this]
              exact hown4
            · exact ht2.only ho (by omega) (by
                rintro i t cs rfl hh
                exact own_type (p := fun t => t ≠ 24 ∧ t ≠ 23) hown2 rfl hh ⟨by decide, by decide⟩)
            · exact ((hst.out.trans ho2 (fun _ _ h => h)).trans ho (fun i hi e => by have := hbe.out; omega))
          case measure => simp [intOf]; omega
end Go.Proofs.YtdcogjlcbdkdcaaDoor
