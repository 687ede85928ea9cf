/-
  DrawPlays: whatever is drawn of any tape, each draw, each row, and how many there were, are the document's; a copy goes its own way; for every seed, all numbers, any acts.
-/
import Derived.Test.YtpgebejnpncemaaDrawFresh
import Derived.Test.YtpgebejnpncemaaDrawActs
import Derived.Deep.RegionHeld3
namespace Go.Proofs.Ytpgebejnpncemaa
open Go.RowKit
set_option linter.unusedVariables false

/-- Two tapes that stand alike, in new memory. -/
structure Pair (w0 w : World) (g g' : Nat) (seed : Int) (xs : List Int) (q : Nat) : Prop where
  t : Tape w g seed xs q
  r : Ref w g' seed xs q
  old : w0.heap.size ≤ g
  old' : w0.heap.size ≤ g'
  still : Hid (Still w0 w)

theorem Pair.ref {w0 w w3 : World} {g g' : Nat} {seed : Int} {xs : List Int} {q : Nat} (h : Pair w0 w g g' seed xs q) (ho3 : Only (· = g) w w3) : Ref w3 g' seed xs q := h.r.by_tape h.t ho3
theorem Pair.both {w0 w w3 w4 : World} {g g' : Nat} {seed : Int} {xs : List Int} {q q2 : Nat} (h : Pair w0 w g g' seed xs q) (ho3 : Only (· = g) w w3) (ht : Tape w3 g seed xs q2) (ho4 : Only (· = g') w3 w4) (hr : Ref w4 g' seed xs q2) : Pair w0 w4 g g' seed xs q2 :=
  ⟨ht.by_ref (h.ref ho3) ho4, hr, h.old, h.old', (h.still.out.trans ho3 (fun i hi e => by have := h.old; omega)).trans ho4 (fun i hi e => by have := h.old'; omega)⟩
theorem Pair.drewN {w0 w : World} {g g' : Nat} {seed : Int} {xs : List Int} {q : Nat} (h : Pair w0 w g g' seed xs q) (n : Nat) : Pair w0 (w.drewN n) g g' seed xs q :=
  ⟨h.t.still ((Only.refl _ _).drewN n), h.r.still ((Only.refl _ _).drewN n), h.old, h.old', h.still.out.drewN n⟩
theorem Pair.still' {w0 w w' : World} {g g' : Nat} {seed : Int} {xs : List Int} {q : Nat} (h : Pair w0 w g g' seed xs q) (ho : Still w w') : Pair w0 w' g g' seed xs q :=
  ⟨h.t.still ho, h.r.still ho, h.old, h.old', h.still.out.still ho⟩
theorem Pair.count {w0 w : World} {g g' : Nat} {seed : Int} {xs : List Int} {q : Nat} (h : Pair w0 w g g' seed xs q) : w.cell? ⟨g', 2, none⟩ = some (.int .i64 q) := by
  obtain ⟨A, c, h1, _⟩ := h.r.src
  have := h1.cell 2
  simpa using this

theorem Pair.row {w0 w w' : World} {g g' : Nat} {seed : Int} {xs : List Int} {q ba base N ca : Nat} {L : List Value} (h : Pair w0 w g g' seed xs q) (hown : w.ownsRow base 3 1 (.slice (some ⟨ba, 0, none⟩) N ca) N L) (ho : Only (· = ba) w w')
    (hba : w0.heap.size ≤ ba) (hg : g < ba) (hg' : g' < ba) : Pair w0 w' g g' seed xs q :=
  ⟨h.t.only ho (by omega) (by
      rintro i t cs rfl hh
      exact own_type (p := fun t => t ≠ 23 ∧ t ≠ 22) hown rfl hh ⟨by decide, by decide⟩),
    h.r.only ho (by omega) (by
      rintro i t cs rfl hh
      exact own_type (p := fun t => t ≠ 22) hown rfl hh (by decide)), h.old, h.old', h.still.out.trans ho (fun i hi e => by omega)⟩
theorem add_none (b off n : Nat) : (⟨b, off, none⟩ : Addr).add n = ⟨b, off + n, none⟩ := by
  unfold Addr.add; split <;> simp_all
theorem act_cells {w : World} {B m : Nat} {C : Option Addr} {l : List (Int × Int)} (h : Reads w B 2 C m (actCells l)) (hl : l.length = m) {k : Nat} (hk : k < m) :
    ∃ bl off a b, C = some ⟨bl, off, none⟩ ∧ bl < B ∧ l[k]? = some (a, b) ∧ w.cell? ⟨bl, off + k * 2, none⟩ = some (.int .u8 a) ∧ w.cell? ⟨bl, off + k * 2 + 1, none⟩ = some (.int .i64 b) := by
  obtain ⟨ad, e, hb, hc⟩ := h.2 (by omega)
  have hk' : k < l.length := by omega
  have hx := actCells_at l k l[k] (List.getElem?_eq_getElem hk')
  have c0 := hc _ _ hx.1
  have c1 := hc _ _ hx.2
  obtain ⟨bl, off, spot⟩ := ad
  have hspot : spot = none := by
    have h0 := actCells_at l 0 (l[0]'(by omega)) (List.getElem?_eq_getElem (by omega))
    have := World.cell?_spot (hc _ _ h0.1)
    simpa [Addr.add] using this
  subst hspot
  rw [add_none] at c0 c1
  exact ⟨bl, off, l[k].1, l[k].2, e, hb, List.getElem?_eq_getElem hk', c0, c1⟩

set_option maxRecDepth 1000000 in
set_option maxHeartbeats 6400000 in
theorem plays_walk (w : World) (seed : Int) (hs : 0 ≤ seed ∧ seed < 18446744073709551616) (A : Option Addr) (n c : Nat) (xs : List Int) (hA : A = none → n = 0 ∧ c = 0)
    (hr : Reads w w.heap.size 1 A n (xs.map (.int .u64))) (hx : ∀ x ∈ xs, 0 ≤ x ∧ x < 18446744073709551616) (hn : n ≤ 2000)
    (C : Option Addr) (m cc : Nat) (l : List (Int × Int)) (hl : l.length = m) (hm : m ≤ 200) (hra : Reads w w.heap.size 2 C m (actCells l)) (hw : ∀ (k : Nat) (p : Int × Int), l[k]? = some p → (0 ≤ p.1 ∧ p.1 < 256) ∧ -9223372036854775808 ≤ p.2 ∧ p.2 ≤ 9223372036854775807) :
    Calls Try.prog 3 #[.int .u64 seed, .slice A n c, .slice C m cc] w fun e w' => e = .returned (.bool true) ∧ Still w w' := by
  obtain ⟨hs1, hs2⟩ := hs
  have h2000 : ¬ (2000 : Int) < (n : Int) := by omega
  have h200 : ¬ (200 : Int) < (m : Int) := by omega
  have Hx := Lib.hid hx
  have Hw := Lib.hid hw
  have hlen : xs.length = n := by simpa using hr.1
  subst hlen
  have Hl := Lib.hid hl
  clear hx hw hl
  obtain ⟨i0, hi, hz0, hz1, hz2⟩ := info_parts info_u64
  have hown0 := World.ownsRow_made (base := w.heap.size) (e := 22) (size := 1) w #[] 0 (Nat.le_refl _) (by unfold maxLen; omega) rfl
  have hr1 := hr.alloc (Nat.le_refl _) (.cells #[] 22)
  go_enter Try.func3, Try.ntmps3
  go_wp2_with (at_builtin; refine wpList_append_any _ rfl (.tmp 25) (.tmp 26) 23 rfl w.heap.size 22 i0 (.int .u64 0) 1 8 Try.underlying23 hi hz0 hz1 hz2 rfl (by decide) _ 0 [] rfl hown0 w.heap.size A xs.length c _ rfl hr1 ?c1 ?c2 ?c3 ?c4 ?_)
  case c1 => intro u hu; rfl
  case c2 => unfold maxLen; omega
  case c3 => omega
  intro v w1 hown hgrow hblk
  have hown1 : w1.ownsRow w.heap.size 22 1 v xs.length (xs.map (.int .u64)) := by simpa using hown
  obtain ⟨A', c', rfl⟩ := own_shape hown1
  have hst1 : Still w w1 := (Still.new w (.cells #[] 22)).grown hgrow (fun k hk => .inr (by simp [Value.ownBlock] at hk; omega))
  clear hown hgrow hblk hown0 hr1
  have hrd1 := Reads.of_own hown1
  go_wp2_with fail
  refine (new_fresh seed A' xs.length c' xs _ hrd1 (own_nil hown1) (by omega) hs1 hs2 Hx.out).mono ?_
  rintro e w2 ⟨g, rfl, hg, hg2, hT, ho2⟩
  have hst2 := hst1.still ho2
  have hrd2 := hr.only hst2 (Nat.le_refl _) (fun _ _ h => h)
  go_wp2_with fail
  refine (ref_new_fresh seed A xs.length c xs _ w1.heap.size ho2.size (hrd2.more hst2.size) (by omega) hs1 hs2 Hx.out).mono ?_
  rintro e w3 ⟨g', rfl, hg', hR, ho3⟩
  have hst3 := hst2.still ho3
  have hown3 := own_only (own_only hown1 ho2 (fun _ _ h => h)) ho3 (fun _ _ h => h)
  have hblt : ∀ k, (Value.slice A' xs.length c').ownBlock = some k → w.heap.size ≤ k ∧ k < w1.heap.size := fun k hk => hown1.lt k hk
  have hgw : w.heap.size ≤ g := by have := hst1.size; omega
  have hgw' : w.heap.size ≤ g' := by have := hst2.size; omega
  have Hblt := Lib.hid hblt
  clear hblt hrd1 hrd2 hr hst1 hst2 hown1
  go_wp2_with fail
  go_loopw [10] (fun i wr => ∃ (k : Nat) (L : List Int), k ≤ xs.length ∧ i = .int .i64 k ∧ wr.ownsRow w.heap.size 22 1 (.slice A' xs.length c') xs.length (L.map (.int .u64)) ∧ Hid (Only (fun k => (Value.slice A' xs.length c').ownBlock = some k) w3 wr)) (fun i _ => xs.length - (intOf i).toNat)
  case atStart => exact ⟨0, xs, by omega, rfl, hown3, Only.refl _ _⟩
  case round =>
    clear hown3
    obtain ⟨k, L, hk, rfl, hown, ho⟩ := hrel
    by_cases hlt : k < xs.length
    · obtain ⟨b, hA'⟩ : ∃ b, A' = some ⟨b, 0, none⟩ := by
        rcases hown.2 with ⟨h', h0⟩ | ⟨b, cap, cur, h', _⟩
        · omega
        · injection h' with h1
          exact ⟨b, h1⟩
      subst hA'
      have hLl : L.length = xs.length := by simpa using hown.1
      have hc : wr.cell? ⟨b, k, none⟩ = some (.int .u64 (L.getD k 0)) := own_cell hown (by rw [hLl]; exact hlt)
      have hf := hown.frozenAt k
      clear hLl
      go_wp2
      go_roundw
      case rel =>
        refine ⟨k + 1, L.set k 99, by omega, by go_num, ?_, ho.out.setCell (p := ⟨b, k, none⟩) (.inl rfl) _⟩
        rw [List.map_set]; exact (hown.stored k _).1
      case measure => simp [intOf]; omega
    · have hP : Pair w wr g g' seed xs 0 := by
        refine ⟨hT.out _ (fun k => (Value.slice A' xs.length c').ownBlock = some k) (((Only.of_still ho3 _).trans ho.out (fun _ _ h => h))) (fun k hk => (Hblt.out k hk).2), hR.out _ _ ho.out (fun k hk => (Hblt.out k hk).2), hgw, hgw', hst3.trans ho.out (fun i hi hk => by have := (Hblt.out i hk).1; omega)⟩
      clear hT hR ho ho2 ho3 hst3 hown hg hg2 hg' hgw hgw' Hblt
      go_wp2_with fail
      go_loopw [8, 9, 11] (fun t r i wr => ∃ (k q g g' : Nat), k ≤ m ∧ i = .int .i64 k ∧ t = .pointer (some ⟨g, 0, none⟩) ∧ r = .pointer (some ⟨g', 0, none⟩) ∧ q ≤ 256 * k ∧ Pair w wr g g' seed xs q) (fun _ _ i _ => m - (intOf i).toNat)
      case atStart => exact ⟨0, 0, g, g', by omega, rfl, rfl, rfl, by omega, hP⟩
      case round =>
        clear hP
        obtain ⟨k, q, g, g', hk, rfl, rfl, rfl, hq, hP⟩ := hrel
        by_cases hlt : k < m
        · have hrr := hra.only hP.still.out (Nat.le_refl _) (fun _ _ h => h)
          obtain ⟨bl, off, a, b, rfl, hbl, hlk, hca, hcb⟩ := act_cells hrr Hl.out hlt
          have hab := Hw.out k _ hlk
          obtain ⟨⟨ha1, ha2⟩, hb1, hb2⟩ := hab
          clear hlk hrr
          have hq' : q ≤ 51200 := by omega
          by_cases a0 : a = 0
          · subst a0
            go_wp2_with fail
            refine (next_any hP.t (by omega)).mono ?_
            rintro e w4 ⟨rfl, ht4, ho4⟩
            go_wp2_with fail
            refine (ref_next (hP.ref ho4) (by omega)).mono ?_
            rintro e w5 ⟨rfl, hr5, ho5⟩
            have hP5 := hP.both ho4 ht4 ho5 hr5
            clear hP ht4 ho4 hr5 ho5 hca hcb
            have hcnt := hP5.count
            go_wp2_with fail
            go_quiet ((go_at_call 27; exact quiet_left (used_any (hP5.t.still ((Only.refl _ _).drewN _)))))
            go_wp2
            go_roundw
            case rel => exact ⟨k + 1, q + 1, _, _, by omega, by go_num, rfl, rfl, by omega, hP5.drewN _⟩
            case measure => simp [intOf]; omega
          · by_cases a1 : a = 1
            · subst a1
              by_cases hb : b < 1
              · go_wp2_with fail
                go_region_held3 (fun w' => w'.cell? ⟨bl, off + k * 2 + 1, none⟩ = some (.int .i64 b)) (first | go_keep | exact hcb)
                  ((first
                  | (go_at_call 20; refine (below_zero g b hb).mono ?_; rintro e w4 ⟨rfl, rfl⟩)
                  | (go_at_call 21; refine (ref_below_zero g' b hb).mono ?_; rintro e w4 ⟨rfl, rfl⟩)))
                have hPd : Pair w wr.drew g g' seed xs q := hP.still' ((Only.refl _ _).drew)
                clear hP hca hcb
                generalize wr.drew = W at hPd ⊢
                go_wp2
                have hcnt := hPd.count
                go_wp2_with fail
                go_quiet ((go_at_call 27; exact quiet_left (used_any (hPd.t.still ((Only.refl _ _).drewN _)))))
                go_wp2
                go_roundw
                case rel => exact ⟨k + 1, q, _, _, by omega, by go_num, rfl, rfl, by omega, hPd.drewN _⟩
                case measure => simp [intOf]; omega
              · have hb1' : 1 ≤ b := by omega
                have hPd : Pair w wr.drew g g' seed xs q := hP.still' ((Only.refl _ _).drew)
                have hbg : ¬ bl = g := by have := hP.old; omega
                have hbg' : ¬ bl = g' := by have := hP.old'; omega
                go_wp2_with fail
                go_region_held3 (fun w' => w'.cell? ⟨bl, off + k * 2 + 1, none⟩ = some (.int .i64 b)) (first | go_keep | exact hc4 | exact hc5)
                  ((first
                  | (go_at_call 20; refine (below_any hPd.t (by omega) b hb1' hb2).mono ?_; rintro e w4 ⟨rfl, ht4, ho4⟩; have hc4 := ho4.cell_some (p := ⟨bl, off + k * 2 + 1, none⟩) hbg (show wr.drew.cell? _ = _ from hcb))
                  | (go_at_call 21; refine (ref_below (hPd.ref ho4) (by omega) b hb1' hb2).mono ?_; rintro e w5 ⟨rfl, hr5, ho5⟩; have hc5 := ho5.cell_some (p := ⟨bl, off + k * 2 + 1, none⟩) hbg' hc4)))
                have hP5 := hPd.both ho4 ht4 ho5 hr5
                clear hP hPd ht4 ho4 hr5 ho5 hca hcb hc4 hc5
                go_wp2
                have hcnt := hP5.count
                go_wp2_with fail
                go_quiet ((go_at_call 27; exact quiet_left (used_any (hP5.t.still ((Only.refl _ _).drewN _)))))
                go_wp2
                go_roundw
                case rel => exact ⟨k + 1, q + 1, _, _, by omega, by go_num, rfl, rfl, by omega, hP5.drewN _⟩
                case measure => simp [intOf]; omega
            · by_cases a2 : a = 2
              · subst a2
                have hPd : Pair w wr.drew g g' seed xs q := hP.still' ((Only.refl _ _).drew)
                by_cases hb : b < 1 ∨ 256 < b
                · go_wp2_with fail
                  go_region_held3 (fun w' => w'.cell? ⟨bl, off + k * 2 + 1, none⟩ = some (.int .i64 b)) (first | go_keep | exact hcb)
                    ((first
                    | (go_at_call 22; refine (shuf_zero g b hb).mono ?_; rintro e w4 ⟨rfl, rfl⟩)
                    | (go_at_call 23; refine (ref_shuf_zero g' b hb).mono ?_; rintro e w4 ⟨rfl, rfl⟩)))
                  clear hP hca hcb
                  go_wp2_with fail
                  refine (ints_any none none 0 0 0 0 0 0 [] [] _ (Reads.none_ (B := 0)) (Reads.none_ (B := 0)) (by omega) (by omega)).mono ?_
                  rintro e w4 ⟨rfl, z, rfl⟩
                  have hPz := hPd.drewN z
                  generalize wr.drew.drewN z = W at hPz ⊢
                  clear hPd
                  go_wp2
                  refine wp_loop_rounds 1 ?_
                  rw [rounds_succ]
                  go_wp2
                  have hcnt := hPz.count
                  go_wp2_with fail
                  go_quiet ((go_at_call 27; exact quiet_left (used_any (hPz.t.still ((Only.refl _ _).drewN _)))))
                  go_wp2
                  go_roundw
                  case rel => exact ⟨k + 1, q, _, _, by omega, by go_num, rfl, rfl, by omega, hPz.drewN _⟩
                  case measure => simp [intOf]; omega
                · obtain ⟨N, hN⟩ : ∃ N : Nat, b = N := ⟨b.toNat, by omega⟩
                  subst hN
                  have hN1 : 1 ≤ N := by omega
                  have hN2 : N ≤ 256 := by omega
                  have hbg : ¬ bl = g := by have := hP.old; omega
                  have hbg' : ¬ bl = g' := by have := hP.old'; omega
                  go_wp2_with fail
                  go_region_held3 (fun w' => w'.cell? ⟨bl, off + k * 2 + 1, none⟩ = some (.int .i64 (N : Int))) (first | go_keep | exact hc4 | exact hc5)
                    ((first
                    | (go_at_call 22; refine (shuf_any hPd.t (by omega) N hN1 hN2).mono ?_; rintro e w4 ⟨ba, ca, rfl, hba, hown4, ht4, ho4⟩; have hc4 := ho4.cell_some (p := ⟨bl, off + k * 2 + 1, none⟩) hbg (show wr.drew.cell? _ = _ from hcb))
                    | (go_at_call 23; refine (ref_shuf (hPd.ref ho4) (by omega) N hN1 hN2).mono ?_; rintro e w5 ⟨bb, cb, rfl, hbb, hown5, hr5, ho5⟩; have hc5 := ho5.cell_some (p := ⟨bl, off + k * 2 + 1, none⟩) hbg' hc4)))
                  have hP5 := hPd.both ho4 ht4 ho5 hr5
                  have hgba : g < ba := by have := hP.t.lt; simp at hba; omega
                  have hgba' : g' < ba := by have := hP.r.lt; simp at hba; omega
                  have hwba : w.heap.size ≤ ba := by have := hP.old; omega
                  have hown45 := own_only hown4 ho5 (fun i hi => by simp [Value.ownBlock] at hi; omega)
                  clear hP hPd ht4 ho4 hr5 ho5 hca hcb hc4 hc5 hown4 hba hbb
                  go_wp2_with fail
                  refine (ints_any _ _ _ _ _ _ _ _ _ _ _ (Reads.of_own hown45) (Reads.of_own hown5) (by omega) (by omega)).mono ?_
                  rintro e w6 ⟨rfl, z, rfl⟩
                  have hP6 := hP5.drewN z
                  have hown6 : (w5.drewN z).ownsRow _ 3 1 (.slice (some ⟨ba, 0, none⟩) N ca) N _ := own_only hown45 ((Only.refl (fun _ => False) w5).drewN z) (fun _ _ h => h)
                  clear hP5 hown45 hown5
                  generalize w5.drewN z = w6 at hP6 hown6 ⊢
                  go_wp2_with fail
                  go_loopw [14] (fun i wz => ∃ (j : Nat) (R : List Int), j ≤ N ∧ i = .int .i64 j ∧ wz.ownsRow 0 3 1 (.slice (some ⟨ba, 0, none⟩) N ca) N (R.map (.int .i64)) ∧ Hid (Only (· = ba) w6 wz)) (fun i _ => N - (intOf i).toNat)
                  case atStart => exact ⟨0, _, by omega, rfl, own_base hown6 (Nat.zero_le _), Only.refl _ _⟩
                  case round =>
                    obtain ⟨j, R, hj, rfl, hown, ho⟩ := hrel
                    by_cases hlt : j < N
                    · have hRl : R.length = N := by simpa using hown.1
                      have hc : wr.cell? ⟨ba, j, none⟩ = some (.int .i64 (R.getD j 0)) := own_cell hown (by rw [hRl]; exact hlt)
                      have hf := hown.frozenAt j
                      clear hRl
                      go_wp2
                      go_roundw
                      case rel =>
                        refine ⟨j + 1, R.set j 77, by omega, by go_num, ?_, ho.out.setCell (p := ⟨ba, j, none⟩) (.inl rfl) _⟩
                        rw [List.map_set]; exact (hown.stored j _).1
                      case measure => simp [intOf]; omega
                    · have hPz : Pair w wr g g' seed xs (q + (N - 1)) := hP6.row hown6 ho.out hwba hgba hgba'
                      clear hP6 hown6 hown ho
                      go_wp2
                      have hcnt := hPz.count
                      go_wp2_with fail
                      go_quiet ((go_at_call 27; exact quiet_left (used_any (hPz.t.still ((Only.refl _ _).drewN _)))))
                      go_wp2
                      go_roundw
                      case rel => exact ⟨k + 1, q + (N - 1), _, _, by omega, by go_num, rfl, rfl, by omega, hPz.drewN _⟩
                      case measure => simp [intOf]; omega
              · have n0 : (a == 0) = false := by simp [a0]
                have n1 : (a == 1) = false := by simp [a1]
                have n2 : (a == 2) = false := by simp [a2]
                go_wp2_with fail
                refine (copy_any hP.t).mono ?_
                rintro e w4 ⟨g2, rfl, hg2, hu, ho4⟩
                have hP4 := hP.still' ho4
                have hgg2 : g < g2 := by have := hP.t.lt; omega
                have hwg2 : w.heap.size ≤ g2 := by have := hP.old; omega
                clear hP ho4 hg2 hca hcb
                go_wp2_with fail
                refine (next_any hP4.t (by omega)).mono ?_
                rintro e w5 ⟨rfl, ht5, ho5⟩
                have hu5 := hu.other hP4.t ho5 (by omega)
                have hr5 := hP4.ref ho5
                have hst5 := hP4.still.out.trans ho5 (fun i hi e => by have := hP4.old; omega)
                have hwg := hP4.old
                clear hP4 hu ho5
                go_wp2_with fail
                refine (shuf_any ht5 (by omega) 3 (by omega) (by omega)).mono ?_
                rintro e w6 ⟨ba, ca, rfl, hba, hown6, ht6, ho6⟩
                have hu6 := hu5.other ht5 ho6 (by omega)
                have hr6 := hr5.by_tape ht5 ho6
                have hst6 := hst5.trans ho6 (fun i hi e => by omega)
                clear hu5 hr5 hst5 ht5 ho6 hown6 ht6 hba
                go_wp2_with fail
                refine (ref_copy hr6).mono ?_
                rintro e w7 ⟨g3, rfl, hg3, hr7, ho7⟩
                have hP7 : Pair w w7 g2 g3 seed xs q := ⟨hu6.still ho7, hr7, hwg2, by have := hst6.size; omega, hst6.still ho7⟩
                clear hu6 hr6 hst6 hr7 ho7 hg3
                have hcnt := hP7.count
                go_wp2_with fail
                go_quiet ((go_at_call 27; exact quiet_left (used_any (hP7.t.still ((Only.refl _ _).drewN _)))))
                go_wp2
                go_roundw
                case rel => exact ⟨k + 1, q, _, _, by omega, by go_num, rfl, rfl, by omega, hP7.drewN _⟩
                case measure => simp [intOf]; omega
        · go_wp2_with fail
          refine (next_any hP.t (by omega)).mono ?_
          rintro e w4 ⟨rfl, ht4, ho4⟩
          go_wp2_with fail
          refine (ref_next (hP.ref ho4) (by omega)).mono ?_
          rintro e w5 ⟨rfl, hr5, ho5⟩
          have hP5 := hP.both ho4 ht4 ho5 hr5
          clear hP ht4 ho4 hr5 ho5
          go_wp2_with fail
          refine (draw_awake _).mono ?_
          rintro e w6 ⟨rfl, ho6⟩
          go_wp2
          go_ret
          exact ⟨rfl, hP5.still.out.still ho6⟩

theorem plays_long (w : World) (seed : Int) (A C : Option Addr) (n c m cc : Nat) (h : 2000 < n ∨ 200 < m) :
    Calls Try.prog 3 #[.int .u64 seed, .slice A n c, .slice C m cc] w fun e w' => e = .returned (.bool true) ∧ Still w w' := by
  by_cases hn : 2000 < n
  · have h2000 : (2000 : Int) < (n : Int) := by omega
    go_enter Try.func3, Try.ntmps3
    go_wp2_with fail
    refine (draw_awake _).mono ?_
    rintro e w0 ⟨rfl, ho0⟩
    go_wp2
    go_ret
    exact ⟨rfl, ho0⟩
  · have h2000 : ¬ (2000 : Int) < (n : Int) := by omega
    have h500 : (200 : Int) < (m : Int) := by omega
    go_enter Try.func3, Try.ntmps3
    go_wp2_with fail
    refine (draw_awake _).mono ?_
    rintro e w0 ⟨rfl, ho0⟩
    go_wp2
    go_ret
    exact ⟨rfl, ho0⟩

theorem plays_all (w : World) (seed : Int) (wf : (Lit.int .u64 seed).wf = true) (A : Option Addr) (n c : Nat) (xs : List Int) (hnc : n ≤ c) (hc : c ≤ maxLen) (hA : A = none → n = 0 ∧ c = 0)
    (hr : Reads w w.heap.size 1 A n (xs.map (.int .u64))) (hx : ∀ x ∈ xs, (Lit.int .u64 x).wf = true)
    (C : Option Addr) (m cc : Nat) (l : List (Int × Int)) (hmc : m ≤ cc) (hl : l.length = m) (hra : Reads w w.heap.size 2 C m (actCells l)) (hw : ∀ p ∈ l, (Lit.int .u8 p.1).wf = true ∧ (Lit.int .i64 p.2).wf = true) :
    Calls Try.prog 3 #[.int .u64 seed, .slice A n c, .slice C m cc] w fun e w' => e = .returned (.bool true) ∧ Still w w' := by
  by_cases h : 2000 < n ∨ 200 < m
  · exact plays_long w seed A C n c m cc h
  · exact plays_walk w seed (wf_u64 wf) A n c xs hA hr (fun x h => wf_u64 (hx x h)) (by omega) C m cc l hl (by omega) hra (fun k p hk => ⟨wf_u8 (hw p (List.mem_of_getElem? hk)).1, wf_i64 (hw p (List.mem_of_getElem? hk)).2⟩)
end Go.Proofs.Ytpgebejnpncemaa
