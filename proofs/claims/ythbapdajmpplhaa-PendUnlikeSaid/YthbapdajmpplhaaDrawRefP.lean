/-
  The document's tape (hustingsref12): its functions come to the same draws.
-/
import Derived.Test.YthbapdajmpplhaaDraw
import Derived.Test.YthbapdajmpplhaaOpen
import Derived.Deep.RegionWith
import Derived.StillTailTactics
import Derived.BigRegion
namespace Go.Proofs.Ythbapdajmpplhaa
open Go.RowKit
set_option linter.unusedVariables false

theorem reads_int {w : World} {B n k : Nat} {A : Option Addr} {kd : IntKind} {xs : List Int} (h : Reads w B 1 A n (xs.map (.int kd))) (hk : k < n) :
    ∃ ad x, A = some ad ∧ ad.block < B ∧ xs[k]? = some x ∧ w.cell? (ad.add k) = some (.int kd x) := by
  obtain ⟨ad, u, e, hb, hu, hc⟩ := h.at_ hk
  rw [List.getElem?_map] at hu
  obtain ⟨x, hx, rfl⟩ := Option.map_eq_some_iff.1 hu
  exact ⟨ad, x, e, hb, hx, hc⟩

theorem draw_nil (seed : Int) (k : Nat) : draw seed [] k = nth seed (k + 1) := by
  simp [draw]
theorem draw_past (seed : Int) (xs : List Int) (k : Nat) : draw seed xs (xs.length + k) = nth seed (k + 1) := by
  unfold draw
  rw [if_neg (by omega)]
  congr 1
  omega
theorem draw_at (seed : Int) (xs : List Int) (k : Nat) (x : Int) (h : xs[k]? = some x) : draw seed xs k = x := by
  obtain ⟨hk, rfl⟩ := List.getElem?_eq_some_iff.1 h
  unfold draw
  rw [if_pos hk, List.getD_eq_getElem?_getD, List.getElem?_eq_getElem hk]; rfl

theorem low_any (z : Int) (p : Nat) (d : Int) (hd : d = ((2 ^ p : Nat) : Int)) (w : World) (hz : 0 ≤ z) (hz2 : z < 18446744073709551616) (hp : p ≤ 64) :
    Calls Try.prog 42 #[.int .u64 z, .int .i64 p] w fun e w' => e = .returned (.int .u64 (z / d)) ∧ w = w' := by
  subst hd
  go_enter Try.func42, Try.ntmps42
  go_wp2
  go_loop [0, 5] (fun x i => ∃ (k : Nat) (y : Int), k ≤ p ∧ i = .int .i64 k ∧ x = .int .u64 y ∧ 0 ≤ y ∧ y < 18446744073709551616 ∧ Hid (y = z / ((2 ^ k : Nat) : Int))) (fun _ i => p - (intOf i).toNat)
  case atStart => exact ⟨0, z, by omega, rfl, rfl, hz, hz2, by simp [Hid]⟩
  case round =>
    obtain ⟨k, y, hk, rfl, rfl, hy, hy2, he⟩ := hrel
    by_cases hlt : k < p
    · go_wp2
      go_round
      case rel =>
        refine ⟨k + 1, y / 2, by omega, by go_num, rfl, by omega, by omega, ?_⟩
        show y / 2 = _
        rw [he.out, Int.ediv_ediv_of_nonneg (Int.natCast_nonneg _), Nat.pow_succ]
        congr 1
      case measure => simp [intOf]; omega
    · have hkp : k = p := by omega
      subst hkp
      go_wp2
      go_ret
      exact ⟨ret_int he.out, rfl⟩

/-- The document's tape. -/
structure Ref (w : World) (g : Nat) (seed : Int) (xs : List Int) (n : Nat) : Prop where
  lo : 0 ≤ seed
  hi : seed < 18446744073709551616
  len : xs.length ≤ 1000000
  els : ∀ x ∈ xs, 0 ≤ x ∧ x < 18446744073709551616
  src : ∃ (A : Option Addr) (c : Nat), Blk w g 55 #[.int .u64 (IntKind.u64.wrap (seed + 11400714819323198485 * ((n - xs.length : Nat) : Int))), .slice A xs.length c, .int .i64 n] ∧ w.ownsRow 0 29 1 (.slice A xs.length c) xs.length (xs.map (.int .u64))

theorem Ref.lt {w : World} {g : Nat} {seed : Int} {xs : List Int} {n : Nat} (h : Ref w g seed xs n) : g < w.heap.size := by
  obtain ⟨A, c, h1, _⟩ := h.src
  exact h1.lt
theorem Ref.only {w w' : World} {g : Nat} {seed : Int} {xs : List Int} {n : Nat} {S : Nat → Prop} (h : Ref w g seed xs n) (ho : Only S w w') (hg : ¬ S g)
    (hS : ∀ k t cs, S k → w.heap[k]? = some (.cells cs t (0, 0)) → t ≠ 29) : Ref w' g seed xs n := by
  obtain ⟨A, c, h1, h2⟩ := h.src
  refine ⟨h.lo, h.hi, h.len, h.els, A, c, h1.only ho hg, own_only h2 ho ?_⟩
  rcases h2.2 with ⟨h', _⟩ | ⟨g', cap, cur, h', _, hh, _⟩
  · intro k hk; rw [h'] at hk; simp [Value.ownBlock] at hk
  · intro k hk hs
    rw [h'] at hk
    simp [Value.ownBlock] at hk
    subst hk
    exact hS _ _ _ hs hh rfl
theorem Ref.still {w w' : World} {g : Nat} {seed : Int} {xs : List Int} {n : Nat} (h : Ref w g seed xs n) (ho : Still w w') : Ref w' g seed xs n :=
  h.only ho (fun h => h) (fun _ _ _ h => h.elim)
theorem blk_type {w : World} {g k : Nat} {t t' : TypeId} {cs cs' : Array Value} (h : Blk w g t cs) (hk : k = g) (hh : w.heap[k]? = some (.cells cs' t' (0, 0))) : t' = t := by
  subst hk
  have := h.symm.trans hh
  injection this with this
  injection this with _ ht
  exact ht.symm
/-- The turn of a tape leaves the document's, and the other way about. -/
theorem Ref.by_tape {w w' : World} {g g' : Nat} {seed seed' : Int} {xs xs' : List Int} {n n' : Nat} (h : Ref w g seed xs n) (h' : Tape w g' seed' xs' n') (ho : Only (· = g') w w') : Ref w' g seed xs n := by
  obtain ⟨f, h1, _⟩ := h'.src
  obtain ⟨A, c, h2, _⟩ := h.src
  refine h.only ho (fun e => (h2.ne_ h1 (by decide)) e) ?_
  intro k t cs hk hh
  rw [blk_type h1 hk hh]; decide
theorem Tape.by_ref {w w' : World} {g g' : Nat} {seed seed' : Int} {xs xs' : List Int} {n n' : Nat} (h : Tape w g seed xs n) (h' : Ref w g' seed' xs' n') (ho : Only (· = g') w w') : Tape w' g seed xs n := by
  obtain ⟨f, h1, _⟩ := h.src
  obtain ⟨A, c, h2, _⟩ := h'.src
  refine h.only ho (fun e => (h1.ne_ h2 (by decide)) e) ?_
  intro k t cs hk hh
  rw [blk_type h2 hk hh]; exact ⟨by decide, by decide⟩

set_option maxRecDepth 100000 in
theorem ref_next {w : World} {g : Nat} {seed : Int} {xs : List Int} {n : Nat} (h : Ref w g seed xs n) (hn : n ≤ 1000000) :
    Calls Try.prog 36 #[.pointer (some ⟨g, 0, none⟩)] w fun e w' => e = .returned (.int .u64 (draw seed xs n)) ∧ Ref w' g seed xs (n + 1) ∧ Only (· = g) w w' := by
  obtain ⟨A, c, h1, h2⟩ := h.src
  have c0 := h1.cell 0
  have c1 := h1.cell 1
  have c2 := h1.cell 2
  have f0 := h1.frozen 0
  have f2 := h1.frozen 2
  simp at c0 c1 c2
  have hlen := h.len
  have y1 : IntKind.i64.wrap ((n : Int) + 1) = (n : Int) + 1 := IntWalk.i64_in _ (by omega)
  have y2 : (n : Int) + 1 - 1 = (n : Int) := by omega
  by_cases hlt : n < xs.length
  · have hr := Reads.of_own h2
    obtain ⟨ad, x, rfl, _, hxk, hc⟩ := reads_int hr hlt
    have hbg : ad.block ≠ g := by
      rcases h2.2 with ⟨h', _⟩ | ⟨g', cap, cur, h', _, hh, _⟩
      · cases h'
      · injection h' with h'
        injection h' with h'
        subst h'
        rintro rfl
        have := blk_type h1 rfl hh
        revert this; decide
    have hdr := draw_at seed xs n x hxk
    have hcc : (w.setCell ⟨g, 2, none⟩ (.int .i64 ((n : Int) + 1))).cell? (ad.add n) = some (.int .u64 x) := by
      rw [World.cell?_setCell_other _ _ _ _ (fun e => hbg (by rw [← block_of_add ad n, ← e]))]
      exact hc
    clear hxk hr
    have hle : (n : Int) + 1 ≤ (xs.length : Int) := by omega
    go_enter Try.func36, Try.ntmps36
    go_wp2
    go_quiet (fail)
    go_wp2
    go_quiet (fail)
    go_wp2
    go_ret
    have fin : ∀ k, Ref ((w.setCell ⟨g, 2, none⟩ (.int .i64 ((n : Int) + 1))).drewN k) g seed xs (n + 1) ∧ Only (· = g) w ((w.setCell ⟨g, 2, none⟩ (.int .i64 ((n : Int) + 1))).drewN k) := fun k => by
      have ho : Only (· = g) w ((w.setCell ⟨g, 2, none⟩ (.int .i64 ((n : Int) + 1))).drewN k) := ((Only.refl (· = g) _).setCell (p := ⟨g, 2, none⟩) (.inl rfl) _).drewN k
      refine ⟨⟨h.lo, h.hi, h.len, h.els, _, _, ?_, own_only h2 ho (fun i hi e => by simp [Value.ownBlock] at hi; omega)⟩, ho⟩
      have := (h1.set_ 2 (.int .i64 ((n : Int) + 1))).drewN k
      rw [show n - xs.length = 0 by omega] at this
      rw [show n + 1 - xs.length = 0 by omega]
      exact this
    rw [World.drewN_drewN]
    exact ⟨ret_int hdr.symm, fin _⟩
  · have hnl : ¬ (n : Int) + 1 ≤ (xs.length : Int) := by omega
    obtain ⟨S, hS⟩ : ∃ S, S = IntKind.u64.wrap (seed + 11400714819323198485 * ((n - xs.length : Nat) : Int)) := ⟨_, rfl⟩
    have hS1 : 0 ≤ S ∧ S < 18446744073709551616 := by rw [hS, IntKind.wrap_u64]; omega
    obtain ⟨Z, hZ⟩ : ∃ Z, Z = IntKind.u64.wrap (S + 11400714819323198485) := ⟨_, rfl⟩
    have hZ1 : 0 ≤ Z ∧ Z < 18446744073709551616 := by rw [hZ, IntKind.wrap_u64]; omega
    have hZn : Z = IntKind.u64.wrap (seed + 11400714819323198485 * ((n + 1 - xs.length : Nat) : Int)) := by
      rw [hZ, hS]; simp only [IntKind.wrap_u64]
      have : ((n + 1 - xs.length : Nat) : Int) = ((n - xs.length : Nat) : Int) + 1 := by omega
      rw [this]; omega
    have hdr : draw seed xs n = mixed Z := by
      unfold draw nth
      rw [if_neg hlt, hZn]
      congr 1
      simp only [IntKind.wrap_u64]
      have : ((n + 1 - xs.length : Nat) : Int) = (n : Int) - xs.length + 1 := by omega
      rw [this]; omega
    rw [← hS] at c0 h1
    have hZ' : IntKind.u64.wrap (S + 11400714819323198485) = Z := hZ.symm
    have HZn := Lib.hid hZn
    have Hdr := Lib.hid hdr
    clear hS hZ hZn hdr
    obtain ⟨hZa, hZb⟩ := hZ1
    go_enter Try.func36, Try.ntmps36
    go_wp2
    go_quiet (fail)
    go_wp2_with fail
    refine (low_any Z 30 1073741824 (by decide) _ hZa hZb (by omega)).mono ?_
    rintro e w' ⟨rfl, rfl⟩
    go_wp2_with fail
    refine (low_any _ 27 134217728 (by decide) _ ?_ ?_ (by omega)).mono ?_
    · simp only [IntKind.wrap_u64]; omega
    · simp only [IntKind.wrap_u64]; omega
    rintro e w' ⟨rfl, rfl⟩
    go_wp2_with fail
    refine (low_any _ 31 2147483648 (by decide) _ ?_ ?_ (by omega)).mono ?_
    · simp only [IntKind.wrap_u64]; omega
    · simp only [IntKind.wrap_u64]; omega
    rintro e w' ⟨rfl, rfl⟩
    go_wp2
    go_ret
    refine ⟨ret_int Hdr.out.symm, ?_, ?_⟩
    · refine ⟨h.lo, h.hi, h.len, h.els, A, c, ?_, ?_⟩
      · have := ((h1.set_ 2 (.int .i64 ((n : Int) + 1))).drewN nq).set_ 0 (.int .u64 Z)
        rw [← HZn.out]
        exact this
      · exact own_only h2 (((Only.refl (· = g) _).setCell (p := ⟨g, 2, none⟩) (.inl rfl) _).drewN nq |>.setCell (p := ⟨g, 0, none⟩) (.inl rfl) _) (by
          rintro i hi rfl
          rcases h2.2 with ⟨h', _⟩ | ⟨g', cap, cur, h', _, hh, _⟩
          · rw [h'] at hi; simp [Value.ownBlock] at hi
          · rw [h'] at hi
            simp [Value.ownBlock] at hi
            have := blk_type h1 hi hh
            revert this; decide)
    · exact ((Only.refl (· = g) _).setCell (p := ⟨g, 2, none⟩) (.inl rfl) _).drewN nq |>.setCell (p := ⟨g, 0, none⟩) (.inl rfl) _
set_option maxRecDepth 100000 in
theorem ref_new (seed : Int) (A : Option Addr) (n c : Nat) (xs : List Int) (w : World) (hr : Reads w w.heap.size 1 A n (xs.map (.int .u64))) (hn : n ≤ 1000000)
    (hs : 0 ≤ seed) (hs2 : seed < 18446744073709551616) (hx : ∀ x ∈ xs, 0 ≤ x ∧ x < 18446744073709551616) :
    Calls Try.prog 20 #[.int .u64 seed, .slice A n c] w fun e w' => ∃ g, e = .returned (.pointer (some ⟨g, 0, none⟩)) ∧ w.heap.size ≤ g ∧ Ref w' g seed xs 0 ∧ Still w w' := by
  obtain ⟨i0, hi, hz0, hz1, hz2⟩ := info_parts info_u64
  have hown0 := World.ownsRow_made (base := w.heap.size) (e := 29) (size := 1) w #[] 0 (Nat.le_refl _) (by unfold maxLen; omega) rfl
  have hra := hr.alloc (Nat.le_refl _) (.cells #[] 29)
  have hlen : xs.length = n := by have := hr.1; simpa using this
  subst hlen
  have H0 := Lib.hid hr.1
  go_enter Try.func20, Try.ntmps20
  go_wp2_with (at_builtin; refine wpList_append_any _ rfl (.tmp 6) (.tmp 7) 36 rfl w.heap.size 29 i0 (.int .u64 0) 1 8 Try.underlying36 hi hz0 hz1 hz2 rfl (by decide) _ 0 [] rfl hown0 w.heap.size A xs.length c _ rfl hra ?c1 ?c2 ?c3 ?c4 ?_)
  case c1 => intro u hu; simp at hu; obtain ⟨x, _, rfl⟩ := hu; rfl
  case c2 => unfold maxLen; omega
  case c3 => omega
  case c4 => simp
  intro v' w' hown hgrow hblk
  have hown' : w'.ownsRow 0 29 1 v' xs.length (xs.map (.int .u64)) := by simpa using own_base hown (Nat.zero_le _)
  obtain ⟨A', c', rfl⟩ := own_shape hown'
  have hst : Still w w' := (Still.new w (.cells #[] 29)).grown hgrow (fun k hk => .inr (by simp [Value.ownBlock] at hk; omega))
  clear hown hgrow hblk
  go_wp2
  go_ret
  have hsz := hst.size
  refine ⟨w'.heap.size, rfl, hsz, ⟨hs, hs2, hn, hx, A', c', ?_, hown'.alloc _⟩, hst.alloc _⟩
  have : IntKind.u64.wrap (seed + 11400714819323198485 * ((0 - xs.length : Nat) : Int)) = seed := by
    rw [Nat.zero_sub, IntKind.wrap_u64]; omega
  rw [this]
  exact Blk.new _ _ _

end Go.Proofs.Ythbapdajmpplhaa
