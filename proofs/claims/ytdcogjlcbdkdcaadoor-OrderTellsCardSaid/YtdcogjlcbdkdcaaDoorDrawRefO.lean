/-
  The document's tape (hustingsref12): its functions come to the same draws.
-/
import Derived.Test.YtdcogjlcbdkdcaaDoorShufO
import Derived.Test.YtdcogjlcbdkdcaaDoorOpen
import Derived.Test.YtdcogjlcbdkdcaaDoorInts
import Derived.Deep.RegionWith
import Derived.StillTailTactics
namespace Go.Proofs.YtdcogjlcbdkdcaaDoor
open Go.RowKit
set_option linter.unusedVariables false

theorem draw_nil (seed : Int) (k : Nat) : draw seed [] k = nth seed (k + 1) := by
  simp [draw]
theorem draw_past (seed : Int) (xs : List Int) (k : Nat) : draw seed xs (xs.length + k) = nth seed (k + 1) := by
  unfold draw
  rw [if_neg (by omega)]
  congr 1
  omega
theorem draw_at (seed : Int) (xs : List Int) (k : Nat) (x : Int) (h : xs[k]? = some x) : draw seed xs k = x := by
  obtain ⟨hk, rfl⟩ := List.getElem?_eq_some_iff.1 h
  unfold draw
  rw [if_pos hk, List.getD_eq_getElem?_getD, List.getElem?_eq_getElem hk]; rfl

theorem low_any (z : Int) (p : Nat) (d : Int) (hd : d = ((2 ^ p : Nat) : Int)) (w : World) (hz : 0 ≤ z) (hz2 : z < 18446744073709551616) (hp : p ≤ 64) :
    Calls Tryd.prog 63 #[.int .u64 z, .int .i64 p] w fun e w' => e = .returned (.int .u64 (z / d)) ∧ w = w' := by
  subst hd
  go_enter Tryd.func63, Tryd.ntmps63
  go_wp2
  go_loop [0, 5] (fun x i => ∃ (k : Nat) (y : Int), k ≤ p ∧ i = .int .i64 k ∧ x = .int .u64 y ∧ 0 ≤ y ∧ y < 18446744073709551616 ∧ Hid (y = z / ((2 ^ k : Nat) : Int))) (fun _ i => p - (intOf i).toNat)
  case atStart => exact ⟨0, z, by omega, rfl, rfl, hz, hz2, by simp [Hid]⟩
  case round =>
    obtain ⟨k, y, hk, rfl, rfl, hy, hy2, he⟩ := hrel
    by_cases hlt : k < p
    · go_wp2
      go_round
      case rel =>
        refine ⟨k + 1, y / 2, by omega, by go_num, rfl, by omega, by omega, ?_⟩
        show y / 2 = _
        rw [he.out, Int.ediv_ediv_of_nonneg (Int.natCast_nonneg _), Nat.pow_succ]
        congr 1
      case measure => simp [intOf]; omega
    · have hkp : k = p := by omega
      subst hkp
      go_wp2
      go_ret
      exact ⟨ret_int he.out, rfl⟩

/-- The document's tape. -/
structure Ref (w : World) (g : Nat) (seed : Int) (xs : List Int) (n : Nat) : Prop where
  lo : 0 ≤ seed
  hi : seed < 18446744073709551616
  len : xs.length ≤ 1000000
  els : ∀ x ∈ xs, 0 ≤ x ∧ x < 18446744073709551616
  src : ∃ (A : Option Addr) (c : Nat), Blk w g 43 #[.int .u64 (IntKind.u64.wrap (seed + 11400714819323198485 * ((n - xs.length : Nat) : Int))), .slice A xs.length c, .int .i64 n] ∧ w.ownsRow 0 23 1 (.slice A xs.length c) xs.length (xs.map (.int .u64))

theorem Ref.lt {w : World} {g : Nat} {seed : Int} {xs : List Int} {n : Nat} (h : Ref w g seed xs n) : g < w.heap.size := by
  obtain ⟨A, c, h1, _⟩ := h.src
  exact h1.lt
theorem Ref.only {w w' : World} {g : Nat} {seed : Int} {xs : List Int} {n : Nat} {S : Nat → Prop} (h : Ref w g seed xs n) (ho : Only S w w') (hg : ¬ S g)
    (hS : ∀ k t cs, S k → w.heap[k]? = some (.cells cs t (0, 0)) → t ≠ 23) : Ref w' g seed xs n := by
  obtain ⟨A, c, h1, h2⟩ := h.src
  refine ⟨h.lo, h.hi, h.len, h.els, A, c, h1.only ho hg, own_only h2 ho ?_⟩
  rcases h2.2 with ⟨h', _⟩ | ⟨g', cap, cur, h', _, hh, _⟩
  · intro k hk; rw [h'] at hk; simp [Value.ownBlock] at hk
  · intro k hk hs
    rw [h'] at hk
    simp [Value.ownBlock] at hk
    subst hk
    exact hS _ _ _ hs hh rfl
theorem Ref.still {w w' : World} {g : Nat} {seed : Int} {xs : List Int} {n : Nat} (h : Ref w g seed xs n) (ho : Still w w') : Ref w' g seed xs n :=
  h.only ho (fun h => h) (fun _ _ _ h => h.elim)
theorem blk_type {w : World} {g k : Nat} {t t' : TypeId} {cs cs' : Array Value} (h : Blk w g t cs) (hk : k = g) (hh : w.heap[k]? = some (.cells cs' t' (0, 0))) : t' = t := by
  subst hk
  have := h.symm.trans hh
  injection this with this
  injection this with _ ht
  exact ht.symm
/-- The turn of a tape leaves the document's, and the other way about. -/
theorem Ref.by_tape {w w' : World} {g g' : Nat} {seed seed' : Int} {xs xs' : List Int} {n n' : Nat} (h : Ref w g seed xs n) (h' : Tape w g' seed' xs' n') (ho : Only (· = g') w w') : Ref w' g seed xs n := by
  obtain ⟨f, h1, _⟩ := h'.src
  obtain ⟨A, c, h2, _⟩ := h.src
  refine h.only ho (fun e => (h2.ne_ h1 (by decide)) e) ?_
  intro k t cs hk hh
  rw [blk_type h1 hk hh]; decide
theorem Tape.by_ref {w w' : World} {g g' : Nat} {seed seed' : Int} {xs xs' : List Int} {n n' : Nat} (h : Tape w g seed xs n) (h' : Ref w g' seed' xs' n') (ho : Only (· = g') w w') : Tape w' g seed xs n := by
  obtain ⟨f, h1, _⟩ := h.src
  obtain ⟨A, c, h2, _⟩ := h'.src
  refine h.only ho (fun e => (h1.ne_ h2 (by decide)) e) ?_
  intro k t cs hk hh
  rw [blk_type h2 hk hh]; exact ⟨by decide, by decide⟩

set_option maxRecDepth 100000 in
theorem ref_next {w : World} {g : Nat} {seed : Int} {xs : List Int} {n : Nat} (h : Ref w g seed xs n) (hn : n ≤ 1000000) :
    Calls Tryd.prog 61 #[.pointer (some ⟨g, 0, none⟩)] w fun e w' => e = .returned (.int .u64 (draw seed xs n)) ∧ Ref w' g seed xs (n + 1) ∧ Only (· = g) w w' := by
  obtain ⟨A, c, h1, h2⟩ := h.src
  have c0 := h1.cell 0
  have c1 := h1.cell 1
  have c2 := h1.cell 2
  have f0 := h1.frozen 0
  have f2 := h1.frozen 2
  simp at c0 c1 c2
  have hlen := h.len
  have y1 : IntKind.i64.wrap ((n : Int) + 1) = (n : Int) + 1 := IntWalk.i64_in _ (by omega)
  have y2 : (n : Int) + 1 - 1 = (n : Int) := by omega
  by_cases hlt : n < xs.length
  · have hr := Reads.of_own h2
    obtain ⟨ad, x, rfl, _, hxk, hc⟩ := reads_int hr hlt
    have hbg : ad.block ≠ g := by
      rcases h2.2 with ⟨h', _⟩ | ⟨g', cap, cur, h', _, hh, _⟩
      · cases h'
      · injection h' with h'
        injection h' with h'
        subst h'
        rintro rfl
        have := blk_type h1 rfl hh
        revert this; decide
    have hdr := draw_at seed xs n x hxk
    have hcc : (w.setCell ⟨g, 2, none⟩ (.int .i64 ((n : Int) + 1))).cell? (ad.add n) = some (.int .u64 x) := by
      rw [World.cell?_setCell_other _ _ _ _ (fun e => hbg (by rw [← block_of_add ad n, ← e]))]
      exact hc
    clear hxk hr
    have hle : (n : Int) + 1 ≤ (xs.length : Int) := by omega
    go_enter Tryd.func61, Tryd.ntmps61
    go_wp2
    go_quiet (fail)
    go_wp2
    go_quiet (fail)
    go_wp2
    go_ret
    have fin : ∀ k, Ref ((w.setCell ⟨g, 2, none⟩ (.int .i64 ((n : Int) + 1))).drewN k) g seed xs (n + 1) ∧ Only (· = g) w ((w.setCell ⟨g, 2, none⟩ (.int .i64 ((n : Int) + 1))).drewN k) := fun k => by
      have ho : Only (· = g) w ((w.setCell ⟨g, 2, none⟩ (.int .i64 ((n : Int) + 1))).drewN k) := ((Only.refl (· = g) _).setCell (p := ⟨g, 2, none⟩) (.inl rfl) _).drewN k
      refine ⟨⟨h.lo, h.hi, h.len, h.els, _, _, ?_, own_only h2 ho (fun i hi e => by simp [Value.ownBlock] at hi; omega)⟩, ho⟩
      have := (h1.set_ 2 (.int .i64 ((n : Int) + 1))).drewN k
      rw [show n - xs.length = 0 by omega] at this
      rw [show n + 1 - xs.length = 0 by omega]
      exact this
    rw [World.drewN_drewN]
    exact ⟨ret_int hdr.symm, fin _⟩
  · have hnl : ¬ (n : Int) + 1 ≤ (xs.length : Int) := by omega
    obtain ⟨S, hS⟩ : ∃ S, S = IntKind.u64.wrap (seed + 11400714819323198485 * ((n - xs.length : Nat) : Int)) := ⟨_, rfl⟩
    have hS1 : 0 ≤ S ∧ S < 18446744073709551616 := by rw [hS, IntKind.wrap_u64]; omega
    obtain ⟨Z, hZ⟩ : ∃ Z, Z = IntKind.u64.wrap (S + 11400714819323198485) := ⟨_, rfl⟩
    have hZ1 : 0 ≤ Z ∧ Z < 18446744073709551616 := by rw [hZ, IntKind.wrap_u64]; omega
    have hZn : Z = IntKind.u64.wrap (seed + 11400714819323198485 * ((n + 1 - xs.length : Nat) : Int)) := by
      rw [hZ, hS]; simp only [IntKind.wrap_u64]
      have : ((n + 1 - xs.length : Nat) : Int) = ((n - xs.length : Nat) : Int) + 1 := by omega
      rw [this]; omega
    have hdr : draw seed xs n = mixed Z := by
      unfold draw nth
      rw [if_neg hlt, hZn]
      congr 1
      simp only [IntKind.wrap_u64]
      have : ((n + 1 - xs.length : Nat) : Int) = (n : Int) - xs.length + 1 := by omega
      rw [this]; omega
    rw [← hS] at c0 h1
    have hZ' : IntKind.u64.wrap (S + 11400714819323198485) = Z := hZ.symm
    have HZn := Lib.hid hZn
    have Hdr := Lib.hid hdr
    clear hS hZ hZn hdr
    obtain ⟨hZa, hZb⟩ := hZ1
    go_enter Tryd.func61, Tryd.ntmps61
    go_wp2
    go_quiet (fail)
    go_wp2_with fail
    refine (low_any Z 30 1073741824 (by decide) _ hZa hZb (by omega)).mono ?_
    rintro e w' ⟨rfl, rfl⟩
    go_wp2_with fail
    refine (low_any _ 27 134217728 (by decide) _ ?_ ?_ (by omega)).mono ?_
    · simp only [IntKind.wrap_u64]; omega
    · simp only [IntKind.wrap_u64]; omega
    rintro e w' ⟨rfl, rfl⟩
    go_wp2_with fail
    refine (low_any _ 31 2147483648 (by decide) _ ?_ ?_ (by omega)).mono ?_
    · simp only [IntKind.wrap_u64]; omega
    · simp only [IntKind.wrap_u64]; omega
    rintro e w' ⟨rfl, rfl⟩
    go_wp2
    go_ret
    refine ⟨ret_int Hdr.out.symm, ?_, ?_⟩
    · refine ⟨h.lo, h.hi, h.len, h.els, A, c, ?_, ?_⟩
      · have := ((h1.set_ 2 (.int .i64 ((n : Int) + 1))).drewN nq).set_ 0 (.int .u64 Z)
        rw [← HZn.out]
        exact this
      · exact own_only h2 (((Only.refl (· = g) _).setCell (p := ⟨g, 2, none⟩) (.inl rfl) _).drewN nq |>.setCell (p := ⟨g, 0, none⟩) (.inl rfl) _) (by
          rintro i hi rfl
          rcases h2.2 with ⟨h', _⟩ | ⟨g', cap, cur, h', _, hh, _⟩
          · rw [h'] at hi; simp [Value.ownBlock] at hi
          · rw [h'] at hi
            simp [Value.ownBlock] at hi
            have := blk_type h1 hi hh
            revert this; decide)
    · exact ((Only.refl (· = g) _).setCell (p := ⟨g, 2, none⟩) (.inl rfl) _).drewN nq |>.setCell (p := ⟨g, 0, none⟩) (.inl rfl) _
end Go.Proofs.YtdcogjlcbdkdcaaDoor
